import Derived.Test.YtjllnojhhlkpoaaL01a
import Derived.WalkKit
import Derived.ProofKit
import Derived.LoopTactic
import Derived.Outline
import Derived.WalkSpells
import Derived.WalkLawsBesides
import Derived.Lib.Hide
import Derived.Deep.LoopGhost
import Derived.Deep.QuietTactic
import Derived.BigQuiet
import Derived.ShutString
namespace Go.Proofs.Ytjllnojhhlkpoaa
open Go.ChangeShapes Go.WideShapes Go.ChangeAt Go.RowKit
open Enc
set_option linter.unusedVariables false
theorem rU_err (p : Nat) (r : ByteArray) (e : Nat) (he : e ≠ 0) (w : World) (h : RdIs w p r e) : Calls Try.prog 52 #[.pointer (some ⟨p, 0, none⟩)] w fun en w' => en = .returned (.int .u64 0) ∧ RdIs w' p r e ∧ Only p w w' := by
  have := rU_any p r e w h
  have e1 : uS r e = (r, e, 0) := by unfold uS; rw [if_pos he]
  unfold UIs at this
  rwa [e1] at this
theorem nS_err (r : ByteArray) (e : Nat) (he : e ≠ 0) (most : Int) : nS r e most = (r, e, 0) := by
  have e1 : uS r e = (r, e, 0) := by unfold uS; rw [if_pos he]
  unfold nS; rw [e1, if_neg (by simp)]
theorem rN_err (p : Nat) (r : ByteArray) (e : Nat) (he : e ≠ 0) (most : Int) (hb : most ≤ 9223372036854775807) (w : World) (h : RdIs w p r e) : Calls Try.prog 30 #[.pointer (some ⟨p, 0, none⟩), .int .i64 most] w fun en w' => en = .returned (.int .i64 0) ∧ RdIs w' p r e ∧ Only p w w' := by
  have := rN_any p r e most hb w h
  unfold NIs at this
  rwa [nS_err r e he most] at this
theorem rB_err (p : Nat) (r : ByteArray) (e : Nat) (he : e ≠ 0) (w : World) (h : RdIs w p r e) : Calls Try.prog 32 #[.pointer (some ⟨p, 0, none⟩)] w fun en w' => en = .returned (.bool false) ∧ RdIs w' p r e ∧ Only p w w' := by
  have := rB_any p r e w h
  have e1 : bS r e = (r, e, false) := by unfold bS; rw [if_pos he]
  unfold BIs at this
  rwa [e1] at this
theorem rS_err (p : Nat) (r : ByteArray) (e : Nat) (he : e ≠ 0) (most : Int) (hb : most ≤ 9223372036854775807) (hr : r.size ≤ 1000000000) (w : World) (h : RdIs w p r e) : Calls Try.prog 31 #[.pointer (some ⟨p, 0, none⟩), .int .i64 most] w fun en w' => en = .returned (.string ⟨#[]⟩) ∧ RdIs w' p r e ∧ Only p w w' := by
  have := rS_any p r e most hb hr w h
  have e1 : sS r e most = (r, e, ⟨#[]⟩) := by unfold sS takeS; rw [nS_err r e he most, if_pos he]
  unfold SIs at this
  rwa [e1] at this
theorem rDone_err (p : Nat) (r : ByteArray) (e : Nat) (he : e ≠ 0) (w : World) (h : RdIs w p r e) : Calls Try.prog 33 #[.pointer (some ⟨p, 0, none⟩)] w fun en w' => en = .returned (.int .i64 e) ∧ RdIs w' p r e ∧ Only p w w' := by
  have := rDone_any p r e w h
  have e1 : doneE r e = e := by unfold doneE failE; rw [if_neg he, ite_self]
  rwa [e1] at this
theorem wU_1 (p v b : Nat) (l : List UInt8) (w : World) (h : WrIs w p l) (hb : b ≠ p) (hfr : Free w p b) (hblt : b < w.heap.size) (hc : w.cell? ⟨b, 0, none⟩ = some (.int .u64 v)) (hl : l.length ≤ 1000000) :
    Calls Try.prog 84 #[.pointer (some ⟨p, 0, none⟩), .slice (some ⟨b, 0, none⟩) 1 1] w fun e w' => e = .returned (.pointer (some ⟨p, 0, none⟩)) ∧ WrIs w' p (l ++ encU v) ∧ Below p w w' ∧ Keeps p w w' := by
  have := wU_any p b 0 [v] l w h hb hfr hblt (by intro i hi; match i, hi with | 0, _ => exact hc) hl (by simp)
  have e1 : encUs [v] = encU v := by simp [encUs]
  rwa [e1] at this
theorem WrIs.only {w w' : World} {p q : Nat} {l : List UInt8} (h : WrIs w p l) (ho : Only q w w') (hq : q < p) : WrIs w' p l := by
  obtain ⟨a, c, hc, hf, hp, hown⟩ := h
  have hb := ho.block p hp (by omega)
  refine ⟨a, c, ho.cell (by omega) hc, (World.frozen?_of_block (w := w) (a := ⟨p, 0, none⟩) hb).trans hf, Nat.lt_of_lt_of_le hp ho.size, ?_⟩
  have hg : w.grownBy w' (some q) := ⟨ho.os, ho.tape, ho.output, ho.size, fun k hk hne => ho.block k hk (fun e => hne (by rw [e]))⟩
  refine hown.kept hg (.inr ?_)
  intro e
  have := hown.lt q e
  omega
theorem RdIs.below {w w' : World} {p q : Nat} {r : ByteArray} {e : Nat} (h : RdIs w q r e) (hb : Below p w w') (hq : q < p) : RdIs w' q r e := by
  obtain ⟨h0, h1, f0, f1, hr⟩ := h
  exact ⟨(Below.cell hb (p := ⟨q, 0, none⟩) hq).trans h0, (Below.cell hb (p := ⟨q, 1, none⟩) hq).trans h1, (Below.frozen hb (p := ⟨q, 0, none⟩) hq).trans f0, (Below.frozen hb (p := ⟨q, 1, none⟩) hq).trans f1, hr⟩
theorem free_new {w : World} {p : Nat} {l : List UInt8} (h : WrIs w p l) (o : Obj) : Free (w.alloc o) p w.heap.size := by
  obtain ⟨a, c, hc, hf, hp, hown⟩ := h
  intro v hv
  rw [((Gr.refl w).alloc o).cell hc] at hv
  simp only [Option.some.injEq] at hv
  subst hv
  intro e
  have := hown.lt _ e
  omega
/-- One number that lies in a new block is written. -/
theorem wU_new (p v b : Nat) (l : List UInt8) (w : World) (h : WrIs w p l) (hb : b = w.heap.size) (hl : l.length ≤ 1000000) :
    Calls Try.prog 84 #[.pointer (some ⟨p, 0, none⟩), .slice (some ⟨b, 0, none⟩) 1 1] (w.alloc (.cells #[.int .u64 v] 77)) fun e w' => e = .returned (.pointer (some ⟨p, 0, none⟩)) ∧ WrIs w' p (l ++ encU v) ∧ Below p w w' := by
  subst hb
  have hp : p < w.heap.size := by obtain ⟨_, _, _, _, hp, _⟩ := h; exact hp
  have hg : Gr w (w.alloc (.cells #[.int .u64 v] 77)) := (Gr.refl w).alloc _
  refine (wU_1 p v w.heap.size l _ (h.gr hg) (by omega) (free_new h _) (by simp) (new_cell rfl rfl) hl).mono ?_
  rintro e w' ⟨he, hW, hB, _⟩
  exact ⟨he, hW, (hg.below.mono (by omega)).trans hB⟩
/-- How far the reading has come: what is written, what is left, the error. -/
def OnceInv (s : ByteArray) (l : List UInt8) (R : ByteArray) (e : Nat) : Prop :=
  (e = 0 ∧ bytesOf s = l ++ bytesOf R) ∨ ((e = 3 ∨ e = 4) ∧ ∃ X : List UInt8, X ≠ [] ∧ bytesOf s = l ++ X)
end Go.Proofs.Ytjllnojhhlkpoaa
