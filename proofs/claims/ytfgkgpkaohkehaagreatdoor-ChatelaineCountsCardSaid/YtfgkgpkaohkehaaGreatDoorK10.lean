import Derived.Test.YtfgkgpkaohkehaaGreatDoorK9
import Derived.Test.YtfgkgpkaohkehaaGreatDoorSh0
import Derived.WalkKit
import Derived.ProofKit
import Derived.LoopTactic
import Derived.Outline
import Derived.WalkSpells
import Derived.WalkLawsBesides
import Derived.Lib.Hide
import Derived.Deep.LoopGhost
import Derived.Deep.QuietTactic
import Derived.BigQuiet
import Derived.ShutString
import Derived.Test.YtfgkgpkaohkehaaGreatDoorC12
import Derived.OpenShut
namespace Go.Proofs.YtfgkgpkaohkehaaGreatDoor
open Go.ChangeShapes Go.WideShapes Go.ChangeAt Go.RowKit
open Enc
set_option linter.unusedVariables false
theorem clone_c (s : ByteArray) (w : World) (hlim : s.size ≤ 281474976710656) :
    Calls Tryz.prog 54 #[.string s] w fun e w' => e = .returned (.string s) ∧ Gr w w' := by
  go_enter Tryz.func54, Tryz.ntmps54
  go_wp2_with fail
  refine (Tryz.stringslite_Clone s _ hlim).mono ?_
  rintro e w' ⟨rfl, hb⟩
  go_wp2
  go_ret
  exact ⟨rfl, hb⟩
theorem ex_le (r : ByteArray) (a b : Nat) : (r.extract a b).size ≤ r.size := by simp; omega
theorem uR_le (r1 : ByteArray) (m : Nat) : (uR r1 m).1.size ≤ r1.size := by
  unfold uR
  by_cases h1 : more m = 0
  · rw [if_pos h1]
    by_cases h2 : first m = m
    · rw [if_pos h2]; exact Nat.le_refl _
    · rw [if_neg h2]; exact Nat.le_refl _
  · rw [if_neg h1]
    by_cases h2 : r1.size < more m
    · rw [if_pos h2]; exact Nat.le_refl _
    · rw [if_neg h2]
      by_cases h3 : first (num8 (bytesOf (r1.extract 0 (more m)))) = m
      · rw [if_pos h3]; exact ex_le _ _ _
      · rw [if_neg h3]; exact ex_le _ _ _
theorem uS_le (r : ByteArray) (e : Nat) : (uS r e).1.size ≤ r.size := by
  unfold uS
  by_cases h1 : e ≠ 0
  · rw [if_pos h1]; exact Nat.le_refl _
  · rw [if_neg h1]
    by_cases h2 : r.size < 1
    · rw [if_pos h2]; exact Nat.le_refl _
    · rw [if_neg h2]; exact Nat.le_trans (uR_le _ _) (ex_le _ _ _)
theorem nS_le (r : ByteArray) (e : Nat) (most : Int) : (nS r e most).1.size ≤ r.size := by
  unfold nS
  by_cases h : (max most 0).toNat < (uS r e).2.2
  · rw [if_pos h]; exact uS_le r e
  · rw [if_neg h]; exact uS_le r e
theorem takeS_le (r : ByteArray) (e n : Nat) : (takeS r e n).1.size ≤ r.size ∧ (takeS r e n).2.2.size ≤ r.size := by
  unfold takeS
  by_cases h1 : e ≠ 0
  · rw [if_pos h1]; exact ⟨Nat.le_refl _, Nat.zero_le _⟩
  · rw [if_neg h1]
    by_cases h2 : r.size < n
    · rw [if_pos h2]; exact ⟨Nat.le_refl _, Nat.zero_le _⟩
    · rw [if_neg h2]; exact ⟨ex_le _ _ _, ex_le _ _ _⟩
def sS (r : ByteArray) (e : Nat) (most : Int) : ByteArray × Nat × ByteArray := takeS (nS r e most).1 (nS r e most).2.1 (nS r e most).2.2
def SIs (p : Nat) (r : ByteArray) (e : Nat) (most : Int) (w : World) (en : Ending) (w' : World) : Prop :=
  en = .returned (.string (sS r e most).2.2) ∧ RdIs w' p (sS r e most).1 (sS r e most).2.1 ∧ Only p w w'
theorem rS_any (p : Nat) (r : ByteArray) (e : Nat) (most : Int) (hb : most ≤ 9223372036854775807) (hr : r.size ≤ 1000000000) (w : World) (h : RdIs w p r e) :
    Calls Tryz.prog 58 #[.pointer (some ⟨p, 0, none⟩), .int .i64 most] w (SIs p r e most w) := by
  have H := Lib.hid h
  clear h
  have hz : (takeS (nS r e most).1 (nS r e most).2.1 (nS r e most).2.2).2.2.size ≤ 1000000000 :=
    Nat.le_trans (takeS_le _ _ _).2 (Nat.le_trans (nS_le r e most) hr)
  have HZ := Lib.hid hz
  clear hz
  go_enter Tryz.func58, Tryz.ntmps58
  go_wp2_with fail
  refine (rN_any p r e most hb _ H.out).mono ?_
  rintro en w1 ⟨rfl, hR, hO⟩
  have HS : Hid (sS r e most = takeS (nS r e most).1 (nS r e most).2.1 (nS r e most).2.2) := rfl
  generalize (nS r e most).1 = r1 at *
  generalize (nS r e most).2.1 = e1 at *
  generalize (nS r e most).2.2 = n1 at *
  have HR := Lib.hid hR
  clear hR
  go_wp2_with fail
  refine (take_any p r1 e1 n1 _ rfl _ HR.out).mono ?_
  rintro en w2 ⟨rfl, hR2, hO2⟩
  obtain ⟨a, b, c, hT⟩ : ∃ a b c, takeS r1 e1 n1 = (a, b, c) := ⟨_, _, _, rfl⟩
  have HT := Lib.hid hT
  rw [hT] at hR2
  rw [hT]
  have HR2 := Lib.hid hR2
  have hcz : c.size ≤ 1000000000 := by have := HZ.out; rw [hT] at this; exact this
  clear hR2 hT
  go_wp2_with fail
  refine (clone_c c _ (by omega)).mono ?_
  rintro en w3 ⟨rfl, hg⟩
  go_wp2
  go_ret
  have hS : sS r e most = (a, b, c) := HS.out.trans HT.out
  exact ⟨by rw [hS]; rfl, by rw [hS]; exact HR2.out.gr hg, (hO.trans hO2).trans (Only.of_gr hg)⟩
theorem WrIs.gr {w w' : World} {p : Nat} {l : List UInt8} (h : WrIs w p l) (hg : Gr w w') : WrIs w' p l := by
  obtain ⟨a, c, hc, hf, hp, hown⟩ := h
  exact ⟨a, c, hg.cell hc, (hg.frozen hp).trans hf, Nat.lt_of_lt_of_le hp hg.size, ownsRow_gr hg hown⟩
theorem new_writer (w : World) : WrIs (w.alloc (.cells #[.slice none 0 0] 80)) w.heap.size [] :=
  ⟨none, 0, new_cell rfl rfl, new_free rfl, by simp, World.ownsRow_nil _ _ _ _⟩
theorem new_writer_free (w : World) (b : Nat) : Free (w.alloc (.cells #[.slice none 0 0] 80)) w.heap.size b := by
  intro v hv
  rw [new_cell (i := 0) rfl rfl] at hv
  simp only [Option.some.injEq] at hv
  subst hv
  simp [Value.ownBlock]
theorem Free.gr {w w' : World} {p b : Nat} (h : Free w p b) (hp : p < w.heap.size) (hg : Gr w w') : Free w' p b := by
  intro v hv
  rw [Below.cell hg (p := ⟨p, 0, none⟩) hp] at hv
  exact h v hv
/-- What the Writer in block p, which was made behind w0, turns is behind w0. -/
theorem gr_below {w0 w w' : World} {p : Nat} (hg : Gr w0 w) (hp : w0.heap.size ≤ p) (hb : Below p w w') : Gr w0 w' := Below.trans hg (hb.mono hp)
end Go.Proofs.YtfgkgpkaohkehaaGreatDoor
namespace Go.Proofs.YtfgkgpkaohkehaaGreatDoor
open Go.ChangeShapes Go.WideShapes Go.ChangeAt Go.RowKit
open Enc
set_option linter.unusedVariables false
theorem eB {a b : ByteArray} (h : bytesOf a = bytesOf b) : a = b := ByteArray.ext (Array.toList_inj.1 h)
theorem exB (s : ByteArray) (a b : Nat) : bytesOf (s.extract a b) = ((bytesOf s).drop a).take (b - a) := Lib.extract_data s a b
theorem lenB (s : ByteArray) : (bytesOf s).length = s.size := by simp [bytesOf]
theorem wide_num8 (l : List UInt8) : wide (num8 l) l.length = l := by
  generalize hn : l.length = n
  -- the number's k lowest bytes are the list's last k
  have key : ∀ (pre post : List UInt8), wide (num8 (pre ++ post)) post.length = post := by
    intro pre post
    induction post generalizing pre with
    | nil => rfl
    | cons b t ih =>
      have h := ih (pre ++ [b])
      rw [List.append_assoc] at h
      simp only [List.singleton_append] at h
      rw [List.length_cons, wide, h]
      congr 1
      have hsplit : ∀ (x : Nat) (u : List UInt8), u.foldl (fun n b => 256 * n + b.toNat) x = x * 256 ^ u.length + num8 u := by
        intro x u
        induction u generalizing x with
        | nil => simp [num8]
        | cons c v ihv =>
          rw [List.foldl_cons, ihv]
          have := ihv c.toNat
          simp only [num8, List.foldl_cons, Nat.mul_zero, Nat.zero_add] at *
          rw [this, List.length_cons, Nat.pow_succ]
          rw [Nat.add_mul, Nat.mul_comm 256 x, Nat.mul_assoc, Nat.mul_comm 256]
          omega
      have e1 : num8 (pre ++ b :: t) = (256 * num8 pre + b.toNat) * 256 ^ t.length + num8 t := by
        unfold num8
        rw [List.foldl_append, List.foldl_cons, hsplit]
        rfl
      have h2 := num8_lt t
      have h3 : num8 (pre ++ b :: t) / 256 ^ t.length = 256 * num8 pre + b.toNat := by
        rw [e1, Nat.add_comm, Nat.mul_comm, Nat.add_mul_div_left _ _ (Nat.pow_pos (by decide)), Nat.div_eq_of_lt h2, Nat.zero_add]
      rw [h3]
      have h4 : (256 * num8 pre + b.toNat) % 256 = b.toNat := by have := b.toNat_lt; omega
      rw [h4]
      exact b8_byte b
  have := key [] l
  rw [hn] at this
  exact this
theorem hd_list (r : ByteArray) (h : 1 ≤ r.size) : bytesOf r = b8 (hd r) :: bytesOf (r.extract 1 r.size) := by
  have h0 : 0 < r.size := h
  have e : b8 (hd r) = r[0] := by unfold hd; rw [dif_pos h0]; exact b8_byte _
  rw [e, exB]
  have hl : 0 < (bytesOf r).length := by rw [lenB]; omega
  have h1 := List.drop_eq_getElem_cons hl
  rw [List.drop_zero] at h1
  rw [List.take_of_length_le (by rw [List.length_drop, lenB]; omega)]
  exact h1
theorem uS_ok (r r' : ByteArray) (v : Nat) (h : uS r 0 = (r', 0, v)) : bytesOf r = encU v ++ bytesOf r' ∧ r'.size < r.size := by
  unfold uS at h
  rw [if_neg (by omega)] at h
  by_cases hz : r.size < 1
  · rw [if_pos hz] at h; simp at h
  rw [if_neg hz] at h
  have hb := hd_list r (by omega)
  have hsz : (r.extract 1 r.size).size = r.size - 1 := by simp
  generalize r.extract 1 r.size = r1 at *
  unfold uR at h
  by_cases h1 : more (hd r) = 0
  · rw [if_pos h1] at h
    by_cases h2 : first (hd r) = hd r
    · rw [if_pos h2] at h
      simp only [Prod.mk.injEq, true_and] at h
      obtain ⟨rfl, rfl⟩ := h
      refine ⟨?_, by omega⟩
      rw [hb, encU, h2, h1]; rfl
    · rw [if_neg h2] at h; simp at h
  · rw [if_neg h1] at h
    by_cases h2 : r1.size < more (hd r)
    · rw [if_pos h2] at h; simp at h
    · rw [if_neg h2] at h
      by_cases h3 : first (num8 (bytesOf (r1.extract 0 (more (hd r))))) = hd r
      · rw [if_pos h3] at h
        simp only [Prod.mk.injEq, true_and] at h
        obtain ⟨rfl, rfl⟩ := h
        refine ⟨?_, by simp; omega⟩
        have hl : (bytesOf (r1.extract 0 (more (hd r)))).length = more (hd r) := by rw [lenB]; simp; omega
        have hw := wide_num8 (bytesOf (r1.extract 0 (more (hd r))))
        rw [hl] at hw
        rw [hb, encU, h3, hw, List.cons_append, exB, exB]
        congr 1
        rw [List.drop_zero, Nat.sub_zero, List.take_of_length_le (l := List.drop _ _) (by rw [List.length_drop, lenB]; omega), List.take_append_drop]
      · rw [if_neg h3] at h; simp at h
theorem uS_errs (r : ByteArray) : (uS r 0).2.1 = 0 ∨ (uS r 0).2.1 = 3 ∨ (uS r 0).2.1 = 4 := by
  unfold uS
  rw [if_neg (by omega)]
  by_cases hz : r.size < 1
  · rw [if_pos hz]; exact .inr (.inl rfl)
  rw [if_neg hz]
  unfold uR
  by_cases h1 : more (hd r) = 0
  · rw [if_pos h1]
    by_cases h2 : first (hd r) = hd r
    · rw [if_pos h2]; exact .inl rfl
    · rw [if_neg h2]; exact .inr (.inr rfl)
  · rw [if_neg h1]
    by_cases h2 : (r.extract 1 r.size).size < more (hd r)
    · rw [if_pos h2]; exact .inr (.inl rfl)
    · rw [if_neg h2]
      by_cases h3 : first (num8 (bytesOf ((r.extract 1 r.size).extract 0 (more (hd r))))) = hd r
      · rw [if_pos h3]; exact .inl rfl
      · rw [if_neg h3]; exact .inr (.inr rfl)
end Go.Proofs.YtfgkgpkaohkehaaGreatDoor
namespace Go.Proofs.YtfgkgpkaohkehaaGreatDoor
open Go.ChangeShapes Go.WideShapes Go.ChangeAt Go.RowKit
open Enc
set_option linter.unusedVariables false
theorem rU_err (p : Nat) (r : ByteArray) (e : Nat) (he : e ≠ 0) (w : World) (h : RdIs w p r e) : Calls Tryz.prog 93 #[.pointer (some ⟨p, 0, none⟩)] w fun en w' => en = .returned (.int .u64 0) ∧ RdIs w' p r e ∧ Only p w w' := by
  have := rU_any p r e w h
  have e1 : uS r e = (r, e, 0) := by unfold uS; rw [if_pos he]
  unfold UIs at this
  rwa [e1] at this
theorem nS_err (r : ByteArray) (e : Nat) (he : e ≠ 0) (most : Int) : nS r e most = (r, e, 0) := by
  have e1 : uS r e = (r, e, 0) := by unfold uS; rw [if_pos he]
  unfold nS; rw [e1, if_neg (by simp)]
theorem rN_err (p : Nat) (r : ByteArray) (e : Nat) (he : e ≠ 0) (most : Int) (hb : most ≤ 9223372036854775807) (w : World) (h : RdIs w p r e) : Calls Tryz.prog 55 #[.pointer (some ⟨p, 0, none⟩), .int .i64 most] w fun en w' => en = .returned (.int .i64 0) ∧ RdIs w' p r e ∧ Only p w w' := by
  have := rN_any p r e most hb w h
  unfold NIs at this
  rwa [nS_err r e he most] at this
theorem rB_err (p : Nat) (r : ByteArray) (e : Nat) (he : e ≠ 0) (w : World) (h : RdIs w p r e) : Calls Tryz.prog 57 #[.pointer (some ⟨p, 0, none⟩)] w fun en w' => en = .returned (.bool false) ∧ RdIs w' p r e ∧ Only p w w' := by
  have := rB_any p r e w h
  have e1 : bS r e = (r, e, false) := by unfold bS; rw [if_pos he]
  unfold BIs at this
  rwa [e1] at this
theorem rS_err (p : Nat) (r : ByteArray) (e : Nat) (he : e ≠ 0) (most : Int) (hb : most ≤ 9223372036854775807) (hr : r.size ≤ 1000000000) (w : World) (h : RdIs w p r e) : Calls Tryz.prog 58 #[.pointer (some ⟨p, 0, none⟩), .int .i64 most] w fun en w' => en = .returned (.string ⟨#[]⟩) ∧ RdIs w' p r e ∧ Only p w w' := by
  have := rS_any p r e most hb hr w h
  have e1 : sS r e most = (r, e, ⟨#[]⟩) := by unfold sS takeS; rw [nS_err r e he most, if_pos he]
  unfold SIs at this
  rwa [e1] at this
theorem rDone_err (p : Nat) (r : ByteArray) (e : Nat) (he : e ≠ 0) (w : World) (h : RdIs w p r e) : Calls Tryz.prog 28 #[.pointer (some ⟨p, 0, none⟩)] w fun en w' => en = .returned (.int .i64 e) ∧ RdIs w' p r e ∧ Only p w w' := by
  have := rDone_any p r e w h
  have e1 : doneE r e = e := by unfold doneE failE; rw [if_neg he, ite_self]
  rwa [e1] at this
theorem wU_1 (p v b : Nat) (l : List UInt8) (w : World) (h : WrIs w p l) (hb : b ≠ p) (hfr : Free w p b) (hblt : b < w.heap.size) (hc : w.cell? ⟨b, 0, none⟩ = some (.int .u64 v)) (hl : l.length ≤ 1000000) :
    Calls Tryz.prog 64 #[.pointer (some ⟨p, 0, none⟩), .slice (some ⟨b, 0, none⟩) 1 1] w fun e w' => e = .returned (.pointer (some ⟨p, 0, none⟩)) ∧ WrIs w' p (l ++ encU v) ∧ Below p w w' ∧ Keeps p w w' := by
  have := wU_any p b 0 [v] l w h hb hfr hblt (by intro i hi; match i, hi with | 0, _ => exact hc) hl (by simp)
  have e1 : encUs [v] = encU v := by simp [encUs]
  rwa [e1] at this
theorem WrIs.only {w w' : World} {p q : Nat} {l : List UInt8} (h : WrIs w p l) (ho : Only q w w') (hq : q < p) : WrIs w' p l := by
  obtain ⟨a, c, hc, hf, hp, hown⟩ := h
  have hb := ho.block p hp (by omega)
  refine ⟨a, c, ho.cell (by omega) hc, (World.frozen?_of_block (w := w) (a := ⟨p, 0, none⟩) hb).trans hf, Nat.lt_of_lt_of_le hp ho.size, ?_⟩
  have hg : w.grownBy w' (some q) := ⟨ho.os, ho.tape, ho.output, ho.size, fun k hk hne => ho.block k hk (fun e => hne (by rw [e]))⟩
  refine hown.kept hg (.inr ?_)
  intro e
  have := hown.lt q e
  omega
theorem RdIs.below {w w' : World} {p q : Nat} {r : ByteArray} {e : Nat} (h : RdIs w q r e) (hb : Below p w w') (hq : q < p) : RdIs w' q r e := by
  obtain ⟨h0, h1, f0, f1, hr⟩ := h
  exact ⟨(Below.cell hb (p := ⟨q, 0, none⟩) hq).trans h0, (Below.cell hb (p := ⟨q, 1, none⟩) hq).trans h1, (Below.frozen hb (p := ⟨q, 0, none⟩) hq).trans f0, (Below.frozen hb (p := ⟨q, 1, none⟩) hq).trans f1, hr⟩
theorem free_new {w : World} {p : Nat} {l : List UInt8} (h : WrIs w p l) (o : Obj) : Free (w.alloc o) p w.heap.size := by
  obtain ⟨a, c, hc, hf, hp, hown⟩ := h
  intro v hv
  rw [((Gr.refl w).alloc o).cell hc] at hv
  simp only [Option.some.injEq] at hv
  subst hv
  intro e
  have := hown.lt _ e
  omega
/-- One number that lies in a new block is written. -/
theorem wU_new (p v b : Nat) (l : List UInt8) (w : World) (h : WrIs w p l) (hb : b = w.heap.size) (hl : l.length ≤ 1000000) :
    Calls Tryz.prog 64 #[.pointer (some ⟨p, 0, none⟩), .slice (some ⟨b, 0, none⟩) 1 1] (w.alloc (.cells #[.int .u64 v] 36)) fun e w' => e = .returned (.pointer (some ⟨p, 0, none⟩)) ∧ WrIs w' p (l ++ encU v) ∧ Below p w w' := by
  subst hb
  have hp : p < w.heap.size := by obtain ⟨_, _, _, _, hp, _⟩ := h; exact hp
  have hg : Gr w (w.alloc (.cells #[.int .u64 v] 36)) := (Gr.refl w).alloc _
  refine (wU_1 p v w.heap.size l _ (h.gr hg) (by omega) (free_new h _) (by simp) (new_cell rfl rfl) hl).mono ?_
  rintro e w' ⟨he, hW, hB, _⟩
  exact ⟨he, hW, (hg.below.mono (by omega)).trans hB⟩
/-- How far the reading has come: what is written, what is left, the error. -/
def OnceInv (s : ByteArray) (l : List UInt8) (R : ByteArray) (e : Nat) : Prop :=
  (e = 0 ∧ bytesOf s = l ++ bytesOf R) ∨ ((e = 3 ∨ e = 4) ∧ ∃ X : List UInt8, X ≠ [] ∧ bytesOf s = l ++ X)
end Go.Proofs.YtfgkgpkaohkehaaGreatDoor
namespace Go.Proofs.YtfgkgpkaohkehaaGreatDoor
open Go.ChangeShapes Go.WideShapes Go.ChangeAt Go.RowKit
set_option linter.unusedVariables false
/-- Bytes of a list. -/
def ofL (l : List UInt8) : ByteArray := ⟨l.toArray⟩
theorem bytesOf_ofL (l : List UInt8) : bytesOf (ofL l) = l := by simp [bytesOf, ofL]
theorem bytesOf_app (a b : ByteArray) : bytesOf (a ++ b) = bytesOf a ++ bytesOf b := by simp [bytesOf]
theorem ofL_app (a b : List UInt8) : ofL a ++ ofL b = ofL (a ++ b) := eB (by rw [bytesOf_app, bytesOf_ofL, bytesOf_ofL, bytesOf_ofL])
theorem ofL_size (l : List UInt8) : (ofL l).size = l.length := by simp [ofL, ByteArray.size]
theorem ofL_bytes (s : ByteArray) : ofL (bytesOf s) = s := eB (bytesOf_ofL _)
theorem conv1u (w : World) (n0 : Nat) (h0 : n0 < 256) :
    (convert 78 9 (.slice (some ⟨w.heap.size, 0, none⟩) 1 1)).run Tryz.prog (w.alloc (.cells #[.int .u8 n0] 5)) =
      .ok (.string ⟨#[Enc.b8 n0]⟩) (w.alloc (.cells #[.int .u8 n0] 5)) := by
  have := run_convert_bytes_back (P := Tryz.prog) (w.alloc (.cells #[.int .u8 n0] 5)) 78 9 5 ⟨w.heap.size, 0, none⟩ 1 [Enc.b8 n0] Tryz.underlying78 Tryz.underlying5 Tryz.underlying9 (by
    intro j hj
    have hj' : j < 1 := hj
    match j, hj' with
    | 0, _ => simp [Addr.add, Enc.b8_toNat h0])
  exact this
end Go.Proofs.YtfgkgpkaohkehaaGreatDoor
namespace Go.Proofs.YtfgkgpkaohkehaaGreatDoor
open Enc
theorem num8_cons (b : UInt8) (l : List UInt8) : num8 (b :: l) = b.toNat * 256 ^ l.length + num8 l := by
  have hsplit : ∀ (x : Nat) (u : List UInt8), u.foldl (fun n b => 256 * n + b.toNat) x = x * 256 ^ u.length + num8 u := by
    intro x u
    induction u generalizing x with
    | nil => simp [num8]
    | cons c v ihv =>
      rw [List.foldl_cons, ihv]
      have := ihv c.toNat
      simp only [num8, List.foldl_cons, Nat.mul_zero, Nat.zero_add] at *
      rw [this, List.length_cons, Nat.pow_succ]
      rw [Nat.add_mul, Nat.mul_comm 256 x, Nat.mul_assoc, Nat.mul_comm 256]
      omega
  have := hsplit b.toNat l
  unfold num8 at *
  rw [List.foldl_cons, Nat.mul_zero, Nat.zero_add]
  exact this
theorem num8_wide (v : Nat) : ∀ k, num8 (wide v k) = v % 256 ^ k
  | 0 => by simp [wide, num8, Nat.mod_one]
  | k + 1 => by
    rw [wide, num8_cons, wide_length, num8_wide v k, Enc.b8_toNat (Nat.mod_lt _ (by decide)), Nat.pow_succ, Nat.mod_mul]
    rw [Nat.mul_comm, Nat.add_comm]
theorem first_fit (v : Nat) (hv : v < 18446744073709551616) : (more (first v) = 0 ∧ first v = v) ∨ (more (first v) ≠ 0 ∧ v < 256 ^ more (first v)) := by
  unfold first
  split
  · left
    refine ⟨?_, rfl⟩
    unfold more
    rw [if_neg (by omega), if_neg (by omega), if_neg (by omega)]
  · right
    split
    · exact ⟨by decide, by show v < 256 ^ 2; omega⟩
    · split
      · exact ⟨by decide, by show v < 256 ^ 4; omega⟩
      · exact ⟨by decide, by show v < 256 ^ 8; omega⟩
theorem e8_inj {a b : Nat} (ha : a < 256) (hb : b < 256) (h : Enc.b8 a = Enc.b8 b) : a = b := by
  have := congrArg UInt8.toNat h
  rwa [Enc.b8_toNat ha, Enc.b8_toNat hb] at this
/-- What was written is read back. -/
theorem uS_back (R : ByteArray) (v : Nat) (t : List UInt8) (hv : v < 18446744073709551616) (h : bytesOf R = encU v ++ t) : uS R 0 = (ofL t, 0, v) := by
  have hsz : R.size = 1 + more (first v) + t.length := by rw [← lenB, h, List.length_append, encU_length]
  have hb := hd_list R (by omega)
  rw [h, encU, List.cons_append] at hb
  obtain ⟨h1, h2⟩ := List.cons.inj hb
  have hf := e8_inj (by have := first_lt v; omega) (hd_lt R) h1
  have hz : (R.extract 1 R.size).size = R.size - 1 := by simp
  unfold uS
  rw [if_neg (by omega), if_neg (by omega), ← hf]
  generalize R.extract 1 R.size = R1 at *
  unfold uR
  rcases first_fit v hv with ⟨m0, fv⟩ | ⟨m0, fv⟩
  · rw [if_pos m0, fv, if_pos fv]
    rw [m0] at h2
    have : R1 = ofL t := eB (by rw [bytesOf_ofL, ← h2]; rfl)
    rw [this]
  · have hx : bytesOf (R1.extract 0 (more (first v))) = wide v (more (first v)) := by
      rw [exB, ← h2, List.drop_zero, Nat.sub_zero, List.take_append_of_le_length (by rw [wide_length]; omega), List.take_of_length_le (by rw [wide_length]; omega)]
    have hy : R1.extract (more (first v)) R1.size = ofL t := by
      apply eB
      rw [exB, ← h2, bytesOf_ofL, List.drop_append_of_le_length (by rw [wide_length]; omega), List.drop_eq_nil_of_le (by rw [wide_length]; omega), List.nil_append, List.take_of_length_le (by omega)]
    rw [if_neg m0, if_neg (by omega), hx, num8_wide, Nat.mod_eq_of_lt fv, if_pos rfl, hy]
theorem nS_back (R : ByteArray) (v : Nat) (t : List UInt8) (most : Int) (hv : v < 18446744073709551616) (hm : (v : Int) ≤ most) (h : bytesOf R = encU v ++ t) : nS R 0 most = (ofL t, 0, v) := by
  unfold nS
  rw [uS_back R v t hv h, if_neg (by show ¬ (max most 0).toNat < v; omega)]
theorem bS_back (R : ByteArray) (b : Bool) (t : List UInt8) (h : bytesOf R = encB b ++ t) : bS R 0 = (ofL t, 0, b) := by
  have hsz : R.size = 1 + t.length := by rw [← lenB, h, List.length_append]; rfl
  have hb := hd_list R (by omega)
  rw [h] at hb
  obtain ⟨h1, h2⟩ := List.cons.inj (show (if b then 1 else 0) :: t = _ from hb)
  have hf : hd R = if b then 1 else 0 := by
    refine e8_inj (hd_lt R) (by cases b <;> decide) ?_
    exact Eq.trans (b := (if b then 1 else 0 : UInt8)) h1.symm (by cases b <;> rfl)
  have hR : R.extract 1 R.size = ofL t := eB (by rw [bytesOf_ofL, ← h2])
  unfold bS
  rw [if_neg (by omega), if_neg (by omega), hf, hR]
  cases b <;> rfl
theorem sS_back (R S : ByteArray) (t : List UInt8) (most : Int) (hS : S.size ≤ 1000000) (hm : (S.size : Int) ≤ most) (h : bytesOf R = Enc.encS (bytesOf S) ++ t) : sS R 0 most = (ofL t, 0, S) := by
  unfold Enc.encS at h
  rw [lenB, List.append_assoc] at h
  unfold sS
  rw [nS_back R S.size _ most (by omega) hm h]
  show takeS (ofL (bytesOf S ++ t)) 0 S.size = _
  have hz : (ofL (bytesOf S ++ t)).size = S.size + t.length := by rw [ofL_size, List.length_append, lenB]
  unfold takeS
  rw [if_neg (by omega), if_neg (by omega)]
  have h1 : (ofL (bytesOf S ++ t)).extract S.size (ofL (bytesOf S ++ t)).size = ofL t := by
    apply eB
    rw [exB, bytesOf_ofL, bytesOf_ofL, hz, List.drop_append_of_le_length (by rw [lenB]; omega), List.drop_eq_nil_of_le (by rw [lenB]; omega), List.nil_append, List.take_of_length_le (by omega)]
  have h2 : (ofL (bytesOf S ++ t)).extract 0 S.size = S := by
    apply eB
    rw [exB, bytesOf_ofL, List.drop_zero, Nat.sub_zero, List.take_append_of_le_length (by rw [lenB]; omega), List.take_of_length_le (by rw [lenB]; omega)]
  rw [h1, h2]
end Go.Proofs.YtfgkgpkaohkehaaGreatDoor
