import Derived.Test.YtegapeplbincnaaDoorF07g
import Derived.WalkKit
import Derived.ProofKit
import Derived.LoopTactic
import Derived.Outline
import Derived.WalkSpells
import Derived.WalkLawsBesides
import Derived.Lib.Hide
import Derived.Deep.LoopGhost
import Derived.Deep.QuietTactic
import Derived.BigQuiet
import Derived.ShutString
import Derived.IntWalk
namespace Go.Proofs.YtegapeplbincnaaDoor
open Go.ChangeShapes Go.WideShapes Go.ChangeAt Go.RowKit
open Grids
set_option linter.unusedVariables false
/-- What isQuorum answers. -/
def QuoIs (R P W z1 n1 z2 n2 z n s : Int) (q : Bool) : Prop := ∀ w : World, Calls Tryd.prog 38 #[.agg #[.int .i64 R, .int .i64 P, .int .u32 W, .int .i64 z1, .int .i64 n1, .int .i64 z2, .int .i64 n2], .agg #[.int .i64 z, .int .i64 n], .int .u32 s] w fun e w' => e = .returned (.bool q) ∧ Gr w w'
theorem isFirst_any {R P W z1 n1 z2 n2 s : Int} {q : Bool} (h : QuoIs R P W z1 n1 z2 n2 z1 n1 s q) (w : World) :
    Calls Tryd.prog 23 #[.agg #[.int .i64 R, .int .i64 P, .int .u32 W, .int .i64 z1, .int .i64 n1, .int .i64 z2, .int .i64 n2], .int .u32 s] w fun e w' => e = .returned (.bool q) ∧ Gr w w' := by
  have c1 := Lib.hid h
  clear h
  go_enter Tryd.func23, Tryd.ntmps23
  go_wp2_with fail
  refine (c1.out _).mono ?_
  rintro e w1 ⟨rfl, hg⟩
  go_wp2
  go_ret
  exact ⟨rfl, ((Gr.refl _).alloc _).trans hg⟩
theorem isSecond_any {R P W z1 n1 z2 n2 s : Int} {q : Bool} (h : QuoIs R P W z1 n1 z2 n2 z2 n2 s q) (w : World) :
    Calls Tryd.prog 35 #[.agg #[.int .i64 R, .int .i64 P, .int .u32 W, .int .i64 z1, .int .i64 n1, .int .i64 z2, .int .i64 n2], .int .u32 s] w fun e w' => e = .returned (.bool q) ∧ Gr w w' := by
  have c1 := Lib.hid h
  clear h
  go_enter Tryd.func35, Tryd.ntmps35
  go_wp2_with fail
  refine (c1.out _).mono ?_
  rintro e w1 ⟨rfl, hg⟩
  go_wp2
  go_ret
  exact ⟨rfl, ((Gr.refl _).alloc _).trans hg⟩
set_option maxRecDepth 100000 in
set_option maxHeartbeats 2000000 in
theorem refQuorum_any (r p z n s : Nat) (W z1 n1 z2 n2 : Int) (w : World) (hr : 1 ≤ r ∧ r ≤ 4) (hp : 1 ≤ p ∧ p ≤ 4) (hn : r * p ≤ 12) (hs : s < 4294967296) (hz : z ≤ 4) (hn' : n ≤ 4) :
    Calls Tryd.prog 17 #[.agg #[.int .i64 r, .int .i64 p, .int .u32 W, .int .i64 z1, .int .i64 n1, .int .i64 z2, .int .i64 n2], .int .u32 s, .agg #[.int .i64 z, .int .i64 n]] w fun e w' => e = .returned (.bool (isQ r p z n s)) ∧ Gr w w' := by
  have HM := Lib.hid (show isQ r p z n s = decide (z ≤ cnt (fun i => decide (n ≤ regC p s i)) r) from rfl)
  rw [HM.out]; clear HM
  have HL := Lib.hid (fun k => show (fun i => decide (n ≤ regC p s i)) k = decide (n ≤ cnt (fun i => s.testBit (k * p + i)) p) from rfl)
  generalize (fun i => decide (n ≤ regC p s i)) = Lo at *
  have HC := Lib.hid (fun k => cnt_le Lo k)
  have HK := Lib.hid (fun k => show cnt Lo (k + 1) = cnt Lo k + (if Lo k then 1 else 0) from rfl)
  have HC0 := Lib.hid (show cnt Lo 0 = 0 from rfl)
  generalize cnt Lo = C at *
  go_enter Tryd.func17, Tryd.ntmps17
  go_wp2
  go_loop [7, 8] (fun l i => ∃ k : Nat, k ≤ r ∧ i = .int .i64 k ∧ l = .int .i64 (C k : Nat)) (fun _ i => r - (intOf i).toNat)
  case atStart => exact ⟨0, by omega, rfl, by rw [HC0.out]; rfl⟩
  case round =>
    obtain ⟨k, hk, rfl, rfl⟩ := hrel
    have hck := HC.out k
    by_cases hlt : k < r
    · have HK' := Lib.hid (HK.out k)
      have HL' := Lib.hid (HL.out k)
      have hb := region_bd hlt hr.2 hp.2 hn
      have HI := Lib.hid (fun i => cnt_le (fun i => s.testBit (k * p + i)) i)
      have HJ := Lib.hid (fun j => show cnt (fun i => s.testBit (k * p + i)) (j + 1) = cnt (fun i => s.testBit (k * p + i)) j + (if s.testBit (k * p + j) then 1 else 0) from rfl)
      have HJ0 := Lib.hid (show cnt (fun i => s.testBit (k * p + i)) 0 = 0 from rfl)
      generalize cnt (fun i => s.testBit (k * p + i)) = D at *
      go_wp2
      go_loop [9, 10] (fun l i => ∃ j : Nat, j ≤ p ∧ i = .int .i64 j ∧ l = .int .i64 (D j : Nat)) (fun _ i => p - (intOf i).toNat)
      case atStart => exact ⟨0, by omega, rfl, by rw [HJ0.out]; rfl⟩
      case round =>
        obtain ⟨j, hj, rfl, rfl⟩ := hrel
        have hdj := HI.out j
        by_cases hlj : j < p
        · have HJ' := Lib.hid (HJ.out j)
          have m0 : (0 : Int) ≤ (k : Int) * (p : Int) := by rw [← Int.natCast_mul]; omega
          have m1 : (k : Int) * (p : Int) ≤ 12 := by rw [← Int.natCast_mul]; omega
          have HH := Lib.hid (fun w => has_any s (k * p + j) w hs (by omega))
          rw [show ((k * p + j : Nat) : Int) = (k : Int) * (p : Int) + (j : Int) by simp] at HH
          generalize s.testBit (k * p + j) = t at *
          cases t
          all_goals
            go_wp2_with fail
            refine (HH.out _).mono ?_
            rintro e w9 ⟨rfl, rfl⟩
            go_wp2
            go_round
            case rel => exact ⟨j + 1, by omega, by go_num, by rw [HJ'.out]; first | rfl | go_num⟩
            case measure => simp [intOf]; omega
        · obtain rfl : j = p := by omega
          obtain ⟨lk, hlk⟩ : ∃ lk, Lo k = lk := ⟨_, rfl⟩
          rw [hlk] at HL' HK'
          clear hlk
          cases lk
          · have hd : ¬ n ≤ D j := by simpa using HL'.out.symm
            have hd' : (D j : Int) < n := by omega
            clear HL' hd
            go_wp2
            go_round
            case rel => exact ⟨k + 1, by omega, by go_num, by rw [HK'.out]; first | rfl | go_num⟩
            case measure => simp [intOf]; omega
          · have hd : n ≤ D j := by simpa using HL'.out.symm
            clear HL'
            go_wp2
            go_round
            case rel => exact ⟨k + 1, by omega, by go_num, by rw [HK'.out]; first | rfl | go_num⟩
            case measure => simp [intOf]; omega
    · obtain rfl : k = r := by omega
      obtain ⟨q, hq⟩ : ∃ q, decide (z ≤ C k) = q := ⟨_, rfl⟩
      go_wp2
      go_ret
      exact ⟨by first | rfl | (rw [hq]; rfl) | (rw [← hq]; rfl), ((Gr.refl _).alloc _).alloc _⟩
end Go.Proofs.YtegapeplbincnaaDoor
