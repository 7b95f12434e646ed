import Derived.Test.YtkfkedpldndgiaaF08e
import Derived.WalkKit
import Derived.ProofKit
import Derived.LoopTactic
import Derived.Outline
import Derived.WalkSpells
import Derived.WalkLawsBesides
import Derived.Lib.Hide
import Derived.Deep.LoopGhost
import Derived.Deep.QuietTactic
import Derived.BigQuiet
import Derived.ShutString
import Derived.IntWalk
import Derived.OpenShut
namespace Go.Proofs.Ytkfkedpldndgiaa
open Go.ChangeShapes Go.WideShapes Go.ChangeAt Go.RowKit
open Bal
set_option linter.unusedVariables false
set_option linter.unusedSimpArgs false
theorem nextB_code (c m n x y z : Int) (hc : 0 ≤ c) (h0 : c = 0 → m = 0) (h : nextB c m n = ((x, y), z)) : z = 0 ∨ z = 2 ∨ z = 19 := by
  rcases nextB_plain (n := n) hc h0 with ⟨_, e⟩ | ⟨_, e⟩ | ⟨_, _, _, _, e⟩ | ⟨_, _, _, _, e⟩ | ⟨_, _, _, _, e⟩ <;> rw [e] at h <;> simp only [Prod.mk.injEq] at h <;> omega
set_option maxRecDepth 100000 in
set_option maxHeartbeats 4000000 in
theorem ballotNext_walk (C N n l : Int) (w : World) (hC : (Lit.int .u64 C).wf = true) (_hN : (Lit.int .i64 N).wf = true) (_hn : (Lit.int .i64 n).wf = true) (_hl : (Lit.int .i64 l).wf = true) :
    Calls Try.prog 9 #[.agg #[.int .u64 C, .int .i64 N], .int .i64 n, .int .i64 l] w fun e w' => e = .returned (.bool true) ∧ Gr w w' := by
  have bc := bounds_u64 hC
  obtain ⟨c, rfl⟩ := Int.eq_ofNat_of_zero_le bc.1
  have RI := Lib.hid (right08_any N c)
  clear hC _hN _hn _hl
  go_enter Try.func9, Try.ntmps9
  go_wp2_with fail
  refine (awake08_any _).mono ?_
  rintro e w1 ⟨rfl, hg1⟩
  have k0 := hg1.own.1 0 _ rfl
  have k1 := hg1.own.1 1 _ rfl
  go_wp2_with fail
  refine (RI.out _).mono ?_
  rintro e w2 ⟨m, hm, h0, rfl, hg2⟩
  have hg12 := hg1.trans hg2
  clear hg1 hg2 k0 k1
  have k0 := hg12.own.1 0 _ rfl
  have k1 := hg12.own.1 1 _ rfl
  have f0 := hg12.own.2.1 0
  have f1 := hg12.own.2.1 1
  have HG2 := Lib.hid (((Gr.refl w).alloc (.cells #[.int .u64 c, .int .i64 N] 67)).trans hg12)
  clear hg12
  have hc' : (0 : Int) ≤ (c : Int) := by omega
  have h0' : (c : Int) = 0 → (m : Int) = 0 := by omega
  obtain ⟨x, y, z, hN1⟩ : ∃ x y z, nextB c m n = ((x, y), z) := ⟨_, _, _, rfl⟩
  obtain ⟨x2, y2, z2, hN2⟩ : ∃ x y z, nextB c m l = ((x, y), z) := ⟨_, _, _, rfl⟩
  have NA := Lib.hid (next_to hN1 bc)
  have NB := Lib.hid (refNext_to hN1 bc h0')
  have NC := Lib.hid (next_to hN2 bc)
  have HZ1 := Lib.hid (nextB_code _ _ _ _ _ _ hc' h0' hN1)
  have HG := Lib.hid (fun (h : z = 0) => next_good hc' h0' (by rw [hN1, h]))
  have HG' := Lib.hid (fun (h : z2 = 0) => next_good hc' h0' (by rw [hN2, h]))
  clear hN1 hN2 hc' h0' bc h0 RI
  go_wp2_with fail
  obtain ⟨⟨q0, q1⟩, -, -, hgr⟩ := put2 k0 k1 (rfl : ((w2.setCell ⟨w.heap.size, 0, none⟩ (.int .u64 (c : Nat))).setCell ⟨w.heap.size, 1, none⟩ (.int .i64 (m : Nat))) = _)
  have HG3 := Lib.hid (hgr _ HG2.out (Nat.le_refl _))
  generalize ((w2.setCell ⟨w.heap.size, 0, none⟩ (.int .u64 (c : Nat))).setCell ⟨w.heap.size, 1, none⟩ (.int .i64 (m : Nat))) = w3 at *
  clear hgr k0 k1 f0 f1
  refine (NA.out _).mono ?_
  rintro e w4 ⟨rfl, hg4⟩
  replace q0 := hg4.cell q0
  replace q1 := hg4.cell q1
  have HG4 := Lib.hid (HG3.out.trans hg4)
  clear hg4
  have hz := (Gr.refl w4).alloc (.cells #[.int .u64 x, .int .i64 y] 69)
  replace q0 := hz.cell q0
  replace q1 := hz.cell q1
  clear hz
  go_wp2_with fail
  refine (NB.out _).mono ?_
  rintro e w5 ⟨rfl, hg5⟩
  have x0 := hg5.own.1 0 _ rfl
  have x1 := hg5.own.1 1 _ rfl
  replace q0 := hg5.cell q0
  replace q1 := hg5.cell q1
  have HG5 := Lib.hid ((HG4.out.alloc (.cells #[.int .u64 x, .int .i64 y] 69)).trans hg5)
  clear hg5
  have hz := (Gr.refl w5).alloc (.cells #[.int .u64 x, .int .i64 y] 67)
  replace q0 := hz.cell q0
  replace q1 := hz.cell q1
  replace x0 := hz.cell x0
  replace x1 := hz.cell x1
  clear hz
  by_cases hz0 : z = 0
  · subst hz0
    obtain ⟨rfl, hx, hv⟩ := HG.out rfl
    have CA := Lib.hid (compareB_any x y c m)
    generalize cmpB x y c m = v at *
    go_wp2_with fail
    refine (NC.out _).mono ?_
    rintro e w6 ⟨rfl, hg6⟩
    have hg6' := ((Gr.refl w5).alloc (.cells #[.int .u64 x, .int .i64 y] 67)).trans hg6
    replace q0 := hg6.cell q0
    replace q1 := hg6.cell q1
    replace x0 := hg6.cell x0
    replace x1 := hg6.cell x1
    have HG6 := Lib.hid (HG5.out.trans hg6')
    clear hg6 hg6'
    have hz := (Gr.refl w6).alloc (.cells #[.int .u64 x2, .int .i64 y2] 69)
    replace q0 := hz.cell q0
    replace q1 := hz.cell q1
    replace x0 := hz.cell x0
    replace x1 := hz.cell x1
    clear hz
    go_wp2_with fail
    refine (CA.out _).mono ?_
    rintro e w7 ⟨rfl, hg7⟩
    have y0 := hg7.own.1 0 _ rfl
    have y1 := hg7.own.1 1 _ rfl
    replace x0 := hg7.cell x0
    replace x1 := hg7.cell x1
    have HG7 := Lib.hid ((HG6.out.alloc (.cells #[.int .u64 x2, .int .i64 y2] 69)).trans hg7)
    clear hg7
    by_cases hz2 : z2 = 0
    · subst hz2
      obtain ⟨rfl, hx2, hv2⟩ := HG'.out rfl
      by_cases hne : y2 = y
      · subst hne
        go_wp2
        go_ret
        exact ⟨rfl, HG7.out⟩
      · have hne' : (y2 == y) = false := by simp [hne]
        have CB := Lib.hid (compareB_any x y x2 y2)
        have hw : cmpB x y x2 y2 ≠ 0 := by
          rcases cmpB_ways x y x2 y2 with ⟨g, e2⟩ | ⟨g, e2⟩ | ⟨g, e2⟩ <;> rw [e2] <;> omega
        generalize cmpB x y x2 y2 = v2 at *
        have hw' : (v2 != 0) = true := by simp [hw]
        clear hne hw
        go_wp2_with fail
        refine (CB.out _).mono ?_
        rintro e w8 ⟨rfl, hg8⟩
        go_wp2
        go_ret
        exact ⟨rfl, HG7.out.trans hg8⟩
    · have hz2' : (z2 != 0) = true := by simp [hz2]
      clear hz2
      go_wp2
      go_ret
      exact ⟨rfl, HG7.out⟩
  · have hz0' : (z != 0) = true := by simp [hz0]
    clear hz0
    go_wp2
    go_ret
    exact ⟨rfl, HG5.out.alloc _⟩
end Go.Proofs.Ytkfkedpldndgiaa
