import Derived.Test.YtfcfbecfamemlaaF12c
import Derived.WalkKit
import Derived.ProofKit
import Derived.LoopTactic
import Derived.Outline
import Derived.WalkSpells
import Derived.WalkLawsBesides
import Derived.Lib.Hide
import Derived.Deep.LoopGhost
import Derived.Deep.QuietTactic
import Derived.BigQuiet
import Derived.ShutString
import Derived.IntWalk
import Derived.Lib.MinMax
import Derived.Deep.RegionWith
import Derived.Deep.RegionHeld3
namespace Go.Proofs.Ytfcfbecfamemlaa
open Go.ChangeShapes Go.WideShapes Go.ChangeAt Go.RowKit
open Dk
set_option linter.unusedVariables false
set_option linter.unusedSimpArgs false
/-- Of blocks other than p and q nothing has turned. -/
structure Duo (p q : Nat) (w w' : World) : Prop where
  os : w'.os = w.os
  tape : w'.tape = w.tape
  output : w'.output = w.output
  size : w.heap.size ≤ w'.heap.size
  block : ∀ k, k < w.heap.size → k ≠ p → k ≠ q → w'.heap[k]? = w.heap[k]?
theorem Duo.refl (p q : Nat) (w : World) : Duo p q w w := ⟨rfl, rfl, rfl, Nat.le_refl _, fun _ _ _ _ => rfl⟩
theorem Duo.trans {p q : Nat} {a b c : World} (h : Duo p q a b) (k : Duo p q b c) : Duo p q a c :=
  ⟨k.os.trans h.os, k.tape.trans h.tape, k.output.trans h.output, Nat.le_trans h.size k.size, fun i hi hp hq => (k.block i (Nat.lt_of_lt_of_le hi h.size) hp hq).trans (h.block i hi hp hq)⟩
theorem Duo.right {p q : Nat} {w w' : World} (h : Sole q w w') : Duo p q w w' := ⟨h.os, h.tape, h.output, h.size, fun k hk _ hq => h.block k hk hq⟩
theorem Duo.left {p q : Nat} {w w' : World} (h : Sole p w w') : Duo p q w w' := ⟨h.os, h.tape, h.output, h.size, fun k hk hp _ => h.block k hk hp⟩
theorem Duo.of_gr {p q : Nat} {w w' : World} (h : Gr w w') : Duo p q w w' := .left (Sole.of_gr h)
theorem Duo.gr {p q : Nat} {w0 w w' : World} (h : Duo p q w w') (hg : Gr w0 w) (hp : w0.heap.size ≤ p) (hq : w0.heap.size ≤ q) : Gr w0 w' :=
  Below.trans hg ⟨h.os, h.tape, h.output, h.size, fun k hk => h.block k (Nat.lt_of_lt_of_le hk hg.size) (by omega) (by omega)⟩
theorem Duo.cell {p q : Nat} {w w' : World} (h : Duo p q w w') {b o : Nat} {v : Value} (hp : b ≠ p) (hq : b ≠ q) (hc : w.cell? ⟨b, o, none⟩ = some v) : w'.cell? ⟨b, o, none⟩ = some v :=
  (World.cell?_of_block (w := w) (a := ⟨b, o, none⟩) (h.block b (cell_lt hc) hp hq)).trans hc
theorem ClIs.duo {w w' : World} {c d f v p q : Nat} (h : ClIs w c d f v) (hg : Duo p q w w') (hp : c ≠ p) (hq : c ≠ q) : ClIs w' c d f v :=
  ⟨hg.cell hp hq h.k0, hg.cell hp hq h.k1, hg.cell hp hq h.k2, (World.frozen?_of_block (w := w) (a := ⟨c, 2, none⟩) (hg.block c (cell_lt h.k2) hp hq)).trans h.fr, h.ne⟩
theorem ClIs.set {w : World} {c d f v : Nat} (h : ClIs w c d f v) (u : Nat) : ClIs (w.setCell ⟨c, 2, none⟩ (.int .u64 (u : Nat))) c d f u :=
  ⟨by rw [World.cell?_setCell_other _ _ _ _ (by simp)]; exact h.k0, by rw [World.cell?_setCell_other _ _ _ _ (by simp)]; exact h.k1, World.cell?_setCell_same' _ _ _ (by rw [h.k2]; rfl), by rw [World.frozen?_setCell]; exact h.fr, h.ne⟩
set_option maxRecDepth 100000 in
theorem version_any {c d f v : Nat} (w : World) (h : ClIs w c d f v) : Calls Try.prog 28 #[.pointer (some ⟨c, 0, none⟩)] w fun e w' => e = .returned (.int .u64 (v : Nat)) ∧ w = w' := by
  have k2 := h.k2
  clear h
  go_enter Try.func28, Try.ntmps28
  go_wp2
  go_ret
  exact ⟨rfl, rfl⟩
/-- Both halves are put. -/
def wr (Q : D) (f : Nat) (s : ByteArray) : D × Nat := if (cput Q f s).2 = 0 then cput (cput Q f s).1 (f + 1) s else cput Q f s
theorem wr_no {Q Q1 : D} {f q : Nat} {s : ByteArray} (h : cput Q f s = (Q1, q)) (hq : q ≠ 0) : wr Q f s = (Q1, q) := by unfold wr; rw [h, if_neg hq]
theorem wr_yes {Q Q1 : D} {f : Nat} {s : ByteArray} (h : cput Q f s = (Q1, 0)) : wr Q f s = cput Q1 (f + 1) s := by unfold wr; rw [h, if_pos rfl]
theorem wr_ok {Q : D} (h : Q.Ok) (f : Nat) (s : ByteArray) : (wr Q f s).1.Ok := by
  unfold wr
  split
  · exact cput_ok (cput_ok h _ _) _ _
  · exact cput_ok h _ _
def WriteIs (c d f v : Nat) (Q : D) (t : ByteArray) (w : World) (e : Ending) (w' : World) : Prop :=
  e = .returned (.int .i64 ((wr Q f (spell (v + 1) t)).2 : Nat)) ∧ DkIs w' d (wr Q f (spell (v + 1) t)).1 ∧ ClIs w' c d f (if (wr Q f (spell (v + 1) t)).2 = 0 then v + 1 else v) ∧ Duo c d w w'
theorem writeIs_mk {c d f v q : Nat} {Q Q1 : D} {t s : ByteArray} {w w' : World} (hs : spell (v + 1) t = s) (hq : wr Q f s = (Q1, q)) (hd : DkIs w' d Q1) (hc : ClIs w' c d f (if q = 0 then v + 1 else v)) (h : Duo c d w w') : WriteIs c d f v Q t w (.returned (.int .i64 (q : Nat))) w' := by
  subst hs
  unfold WriteIs
  rw [hq]
  exact ⟨rfl, hd, hc, h⟩
theorem half_at (w : World) (u : Nat) (t : ByteArray) : (w.alloc (.cells #[.int .u64 (u : Nat), .string t] 106)).cell? ⟨w.heap.size, 0, none⟩ = some (.int .u64 (u : Nat)) ∧ (w.alloc (.cells #[.int .u64 (u : Nat), .string t] 106)).cell? ⟨w.heap.size, 1, none⟩ = some (.string t) := ⟨new_cell rfl rfl, new_cell rfl rfl⟩
set_option maxRecDepth 100000 in
set_option maxHeartbeats 1000000 in
theorem write_any {c d f v : Nat} {Q : D} (t : ByteArray) (w : World) (h : DkIs w d Q) (hc : ClIs w c d f v) (hf : f + 1 < 4) (hv : v ≤ 1000000) (ht : t.size ≤ 524288) :
    Calls Try.prog 30 #[.pointer (some ⟨c, 0, none⟩), .string t] w (WriteIs c d f v Q t w) := by
  have CP : Hid (∀ (i k : Nat) (Q : D) (w : World), DkIs w d Q → ClIs w c d f v → f + i = k → k < 4 → Calls Try.prog 61 #[.pointer (some ⟨c, 0, none⟩), .int .i64 (i : Nat), .agg #[.int .u64 ((v : Int) + 1), .string t]] w (CputIs d Q k (spell (v + 1) t) w)) :=
    Lib.hid (fun i k Q w h hc hi hk => cput_any i k (v + 1) t w h hc hi hk (by omega) (by omega))
  have HC := Lib.hid hc
  have HD := Lib.hid h
  have k2 := hc.k2
  have hu : (max ((v : Int) + 1) 1) = (v : Int) + 1 := by omega
  have HU := Lib.hid hu
  have HCD := Lib.hid hc.ne
  have hlc := cell_lt k2
  have hld := cell_lt h.room
  have HF := Lib.hid hf
  clear h hc hu hf
  obtain ⟨s, hs⟩ : ∃ s, spell (v + 1) t = s := ⟨_, rfl⟩
  have HS := Lib.hid hs
  rw [hs] at CP
  clear hs
  go_enter Try.func30, Try.ntmps30
  go_wp2_with (simp only [HU.out])
  have gz := (Gr.refl w).alloc (.cells #[.int .u64 ((v : Int) + 1), .string t] 106)
  have q0 : (w.alloc (.cells #[.int .u64 ((v : Int) + 1), .string t] 106)).cell? ⟨w.heap.size, 0, none⟩ = some (.int .u64 ((v : Int) + 1)) := new_cell rfl rfl
  have q1 : (w.alloc (.cells #[.int .u64 ((v : Int) + 1), .string t] 106)).cell? ⟨w.heap.size, 1, none⟩ = some (.string t) := new_cell rfl rfl
  have HQ01 := Lib.hid (And.intro q0 q1)
  have HHD := Lib.hid (show w.heap.size ≠ d by omega)
  have HHC := Lib.hid (show w.heap.size ≠ c by omega)
  have HDZ := Lib.hid (HD.out.gr gz)
  have HCZ := Lib.hid (HC.out.gr gz)
  have HGZ := Lib.hid gz
  clear q0 q1 gz k2 hlc hld
  generalize w.alloc (.cells #[.int .u64 ((v : Int) + 1), .string t] 106) = wz at *
  generalize w.heap.size = hb at *
  obtain ⟨Q1, q1, hq1⟩ : ∃ Q1 q1, cput Q f s = (Q1, q1) := ⟨_, _, rfl⟩
  obtain ⟨Q2, q2, hq2⟩ : ∃ Q2 q2, cput Q1 (f + 1) s = (Q2, q2) := ⟨_, _, rfl⟩
  have HE1 := Lib.hid hq1
  have HE2 := Lib.hid hq2
  clear hq1 hq2
  go_loopw [21] (fun i wr => ∃ (k : Nat), k ≤ 2 ∧ i = .int .i64 (k : Nat) ∧ Hid ((k = 0 ∧ DkIs wr d Q) ∨ (k = 1 ∧ q1 = 0 ∧ DkIs wr d Q1) ∨ (k = 2 ∧ q1 = 0 ∧ q2 = 0 ∧ DkIs wr d Q2)) ∧ Hid (ClIs wr c d f v) ∧ Hid (Duo c d wz wr)) (fun i _ => 2 - (intOf i).toNat)
  case atStart => exact ⟨0, by omega, rfl, Lib.hid (.inl ⟨rfl, HDZ.out⟩), HCZ.out, Lib.hid (Duo.refl _ _ _)⟩
  case round =>
    obtain ⟨k, hk, rfl, HW, HCr, HDr⟩ := hrel
    have q0 := HDr.out.cell HHC.out HHD.out HQ01.out.1
    have q1c := HDr.out.cell HHC.out HHD.out HQ01.out.2
    rcases HW.out with ⟨rfl, hd⟩ | ⟨rfl, e1, hd⟩ | ⟨rfl, e1, e2, hd⟩
    · have PU := Lib.hid (CP.out 0 f Q _ hd HCr.out rfl (by have := HF.out; omega))
      unfold CputIs at PU
      rw [HE1.out] at PU
      clear hd HW
      go_wp2_with fail
      refine PU.out.mono ?_
      rintro e w2 ⟨rfl, hd2, hs2⟩
      have HD2 := Lib.hid hd2
      have HC2 := Lib.hid (HCr.out.sole hs2 HCD.out)
      have HW2 := Lib.hid (HDr.out.trans (Duo.right (p := c) hs2))
      clear hd2 hs2 q0 q1c
      by_cases h0 : q1 = 0
      · subst h0
        go_wp2
        go_roundw
        case rel => exact ⟨1, by omega, rfl, Lib.hid (.inr (.inl ⟨rfl, by trivial, HD2.out⟩)), HC2, HW2⟩
        case measure => simp [intOf]
      · have t0 : ((q1 : Int) != 0) = true := by simp [h0]
        have E := Lib.hid (wr_no HE1.out h0)
        have IF := Lib.hid (show (if q1 = 0 then v + 1 else v) = v from if_neg h0)
        clear h0
        go_wp2
        go_ret
        exact writeIs_mk HS.out E.out HD2.out (by rw [IF.out]; exact HC2.out) ((Duo.of_gr HGZ.out).trans HW2.out)
    · subst e1
      have PU := Lib.hid (CP.out 1 (f + 1) Q1 _ hd HCr.out rfl HF.out)
      unfold CputIs at PU
      rw [HE2.out] at PU
      clear hd HW
      go_wp2_with fail
      refine PU.out.mono ?_
      rintro e w2 ⟨rfl, hd2, hs2⟩
      have HD2 := Lib.hid hd2
      have HC2 := Lib.hid (HCr.out.sole hs2 HCD.out)
      have HW2 := Lib.hid (HDr.out.trans (Duo.right (p := c) hs2))
      have E := Lib.hid ((wr_yes HE1.out).trans HE2.out)
      clear hd2 hs2 q0 q1c
      by_cases h0 : q2 = 0
      · subst h0
        go_wp2
        go_roundw
        case rel => exact ⟨2, by omega, rfl, Lib.hid (.inr (.inr ⟨rfl, by trivial, by trivial, HD2.out⟩)), HC2, HW2⟩
        case measure => simp [intOf]
      · have t0 : ((q2 : Int) != 0) = true := by simp [h0]
        have IF := Lib.hid (show (if q2 = 0 then v + 1 else v) = v from if_neg h0)
        clear h0
        go_wp2
        go_ret
        exact writeIs_mk HS.out E.out HD2.out (by rw [IF.out]; exact HC2.out) ((Duo.of_gr HGZ.out).trans HW2.out)
    · subst e1 e2
      have E := Lib.hid ((wr_yes HE1.out).trans HE2.out)
      have HD2 := Lib.hid (hd.sole (Sole.setCell c 2 _ (.int .u64 ((v + 1 : Nat) : Int))) HCD.out.symm)
      have HC2 := Lib.hid (HCr.out.set (v + 1))
      have k2 := HCr.out.k2
      have fr := HCr.out.fr
      have HW2 := Lib.hid (HDr.out.trans (Duo.left (q := d) (Sole.setCell c 2 _ (.int .u64 ((v + 1 : Nat) : Int)))))
      clear hd HW
      go_wp2
      go_ret
      exact writeIs_mk HS.out E.out HD2.out HC2.out ((Duo.of_gr HGZ.out).trans HW2.out)
end Go.Proofs.Ytfcfbecfamemlaa
