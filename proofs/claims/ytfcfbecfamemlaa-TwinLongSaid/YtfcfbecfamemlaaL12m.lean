import Derived.Test.YtfcfbecfamemlaaL12k
import Derived.Test.YtfcfbecfamemlaaF01b
import Derived.WalkKit
import Derived.ProofKit
import Derived.LoopTactic
import Derived.Outline
import Derived.WalkSpells
import Derived.WalkLawsBesides
import Derived.Lib.Hide
import Derived.Deep.LoopGhost
import Derived.Deep.QuietTactic
import Derived.BigQuiet
import Derived.ShutString
import Derived.IntWalk
import Derived.Lib.MinMax
import Derived.Laws.OwnMore
import Derived.Deep.RegionWith
import Derived.Deep.RegionHeld3
namespace Go.Proofs.Ytfcfbecfamemlaa
open Go.ChangeShapes Go.WideShapes Go.ChangeAt Go.RowKit
open Dk Enc
set_option linter.unusedVariables false
set_option linter.unusedSimpArgs false
def zeros (m : Nat) : ByteArray := ⟨(List.replicate m (0 : UInt8)).toArray⟩
theorem zeros_size (m : Nat) : (zeros m).size = m := by unfold zeros; simp [ByteArray.size]
theorem gr_none {w w' : World} (h : w.grownBy w' none) : Gr w w' := Below.grown (Gr.refl w) h (Nat.le_refl _) (fun k hk => by cases hk)
theorem make_zero (m : Nat) (hm : m ≤ 600000) (w : World) :
    ∃ w', (Instr.makeSlice 65 (.int .i64 (m : Nat)) (.int .i64 (m : Nat))).run Try.prog w = .ok (.slice (some ⟨w.heap.size, 0, none⟩) m m) w' ∧ Gr w w' ∧
      ∀ w9, Gr w' w9 → (convert 65 9 (.slice (some ⟨w.heap.size, 0, none⟩) m m)).run Try.prog w9 = .ok (.string (zeros m)) w9 := by
  obtain ⟨i0, hi, hz0, hz1, hz2⟩ := info_parts info_u8
  obtain ⟨w', hr, ho, hg⟩ := run_makeSlice_full (P := Try.prog) w w.heap.size 65 5 i0 (.int .u8 0) 1 Try.underlying65 hi hz0 hz1 .i64 .i64 m (by omega) (by rw [hz2]; omega) (by unfold maxLen; omega) (Nat.le_refl _)
  refine ⟨w', hr, gr_none hg, fun w9 hg9 => ?_⟩
  have e : (madeCells (Value.int .u8 0).cells (m * 1)).toList = bCells (List.replicate m (0 : UInt8)) := by
    rw [Nat.mul_one]
    exact (toList_madeCells_one (Value.int .u8 0) m).trans (by simp [bCells])
  rw [e] at ho
  have hl : (List.replicate m (0 : UInt8)).length = m := by simp
  have h9 := ownsRow_text (w := w9) (base := w.heap.size) (cap := m) (a := some ⟨w.heap.size, 0, none⟩) (l := List.replicate m (0 : UInt8)) (by rw [hl]; exact ownsRow_gr hg9 ho)
  rwa [hl] at h9
set_option maxRecDepth 100000 in
theorem write_big {c : Nat} (t : ByteArray) (w : World) (ht : 524288 < t.size) (hz : t.size ≤ 600000) :
    Calls Try.prog 30 #[.pointer (some ⟨c, 0, none⟩), .string t] w fun e w' => e = .returned (.int .i64 6) ∧ w = w' := by
  go_enter Try.func30, Try.ntmps30
  go_wp2
  go_ret
  exact ⟨rfl, rfl⟩
set_option maxRecDepth 100000 in
set_option maxHeartbeats 2000000 in
theorem long_walk (n : Int) (w : World) (wf : (Lit.int .i64 n).wf = true) :
    Calls Try.prog 8 #[.int .i64 n] w fun e w' => e = .returned (.bool true) ∧ Gr w w' := by
  obtain ⟨Q0, ho, hcalm⟩ := (calm_new 524314 4194304 0).opens (new_ok 4194304 (by decide)) (by decide) (by decide) (by decide) (by decide)
  have HO := Lib.hid ho
  have HB := Lib.hid (bd_new 4194304 524314)
  have hfb := bounds_i64 wf
  obtain ⟨m, hm⟩ : ∃ m : Nat, max 0 (min n 524297) = (m : Int) := ⟨(max 0 (min n 524297)).toNat, by omega⟩
  have hml : m ≤ 524297 := by omega
  have HM := Lib.hid hm
  have hzs := zeros_size m
  obtain ⟨z, hz⟩ : ∃ z, zeros m = z := ⟨_, rfl⟩
  have HZ := Lib.hid hz
  rw [hz] at hzs
  clear ho hm hz
  go_enter Try.func8, Try.ntmps8
  go_wp2_with fail
  refine (awake12 w).mono ?_
  rintro e w1 ⟨rfl, hg1⟩
  obtain ⟨w2, hmk, hg2, hcv⟩ := make_zero m (by omega) w1
  rw [HZ.out] at hcv
  have HG2 := Lib.hid (hg1.trans hg2)
  clear hg1 hg2
  have HCV := Lib.hid hcv
  clear hcv
  go_wp2_with (simp only [HM.out])
  refine (new_any 4194304 (by decide) _).mono ?_
  rintro e w3 ⟨d, rfl, hbe, hd3, hg3⟩
  have HD3 := Lib.hid hd3
  have HX3 := Lib.hid hg3
  have HDX := Lib.hid (show w2.heap.size ≤ d by omega)
  have HDW := Lib.hid (show w.heap.size ≤ d by have := HG2.out.size; omega)
  clear hbe hd3 hg3
  go_wp2_with fail
  refine (open_to (B := 524314) (f := 0) (g := 1) _ HD3.out HB.out (by decide) rfl (by decide) HO.out).mono ?_
  rintro e w4 ⟨c, rfl, hcw, hcl, hd4, hs4⟩
  have HC4 := Lib.hid hcl
  have HD4 := Lib.hid hd4
  have HX4 := Lib.hid (hs4.gr HX3.out HDX.out)
  have HG4 := Lib.hid (HG2.out.trans HX4.out)
  have HCW := Lib.hid (show w.heap.size ≤ c from Nat.le_trans (HG2.out.trans HX3.out).size hcw)
  have k1 := HCV.out w4 HX4.out
  clear hcw hcl hd4 hs4 hmk
  by_cases hbig : 524288 < m
  · have WB := Lib.hid (fun w => write_big (c := c) z w (by omega) (by omega))
    obtain ⟨Q1, ho1, hcalm1⟩ := hcalm.opens HD4.out.ok (by decide) (by decide) (by decide) (by decide)
    have HO1 := Lib.hid ho1
    have HB1 := Lib.hid hcalm.bd
    clear ho1 hcalm1 hcalm
    go_wp2_with fail
    refine (WB.out _).mono ?_
    rintro e w5 ⟨rfl, rfl⟩
    clear k1
    go_wp2_with fail
    refine (open_to (B := 524314) (f := 0) (g := 1) _ HD4.out HB1.out (by decide) rfl (by decide) HO1.out).mono ?_
    rintro e w6 ⟨c6, rfl, hcw6, -, hd6, hs6⟩
    have HC6 := Lib.hid (HC4.out.sole hs6 HC4.out.ne)
    have HG6 := Lib.hid (hs6.gr HG4.out HDW.out)
    clear hcw6 hd6 hs6
    go_wp2_with fail
    refine (version_any _ HC6.out).mono ?_
    rintro e w7 ⟨rfl, rfl⟩
    go_wp2
    go_ret
    exact ⟨rfl, HG6.out⟩
  · obtain ⟨Q1, hw1, hcalm1⟩ := hcalm.writes (u := z) HD4.out.ok (by decide) (by decide) (by omega)
    have HW1 := Lib.hid hw1
    have HB1 := Lib.hid hcalm1.bd
    have HZS := Lib.hid hzs
    clear hw1 hcalm
    go_wp2_with fail
    refine (write_to _ HD4.out HC4.out (by decide) (by decide) (by rw [HZS.out]; omega) HW1.out).mono ?_
    rintro e w5 ⟨rfl, hd5, hc5, hs5⟩
    have HD5 := Lib.hid hd5
    have HG5 := Lib.hid (hs5.gr HG4.out HCW.out HDW.out)
    obtain ⟨Q2, ho2, -⟩ := hcalm1.opens hd5.ok (by decide) (by decide) (by decide) (by omega)
    have HO2 := Lib.hid ho2
    clear hd5 hc5 hs5 k1 ho2 hcalm1
    go_wp2_with fail
    refine (open_to (B := 524314) (f := 0) (g := 1) _ HD5.out HB1.out (by decide) rfl (by decide) HO2.out).mono ?_
    rintro e w6 ⟨c6, rfl, hcw6, -, hd6, hs6⟩
    have HG6 := Lib.hid (hs6.gr HG5.out HDW.out)
    have hle : (m : Int) ≤ 524288 := by omega
    have hzz : (z.size : Int) = (m : Int) := by rw [HZS.out]
    clear hcw6 hd6 hs6
    go_wp2
    go_ret
    exact ⟨rfl, HG6.out⟩
end Go.Proofs.Ytfcfbecfamemlaa
