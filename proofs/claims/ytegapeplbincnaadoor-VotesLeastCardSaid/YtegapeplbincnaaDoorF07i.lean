import Derived.Test.YtegapeplbincnaaDoorF07h
import Derived.Test.YtegapeplbincnaaDoorM07c
import Derived.WalkKit
import Derived.ProofKit
import Derived.LoopTactic
import Derived.Outline
import Derived.WalkSpells
import Derived.WalkLawsBesides
import Derived.Lib.Hide
import Derived.Deep.LoopGhost
import Derived.Deep.QuietTactic
import Derived.BigQuiet
import Derived.ShutString
import Derived.IntWalk
namespace Go.Proofs.YtegapeplbincnaaDoor
open Go.ChangeShapes Go.WideShapes Go.ChangeAt Go.RowKit
open Grids
set_option linter.unusedVariables false
theorem mul_in {r p : Nat} (hn : r * p ≤ 12) : (0 : Int) ≤ (r : Int) * (p : Int) ∧ (r : Int) * (p : Int) ≤ 12 := by rw [← Int.natCast_mul]; omega
set_option maxRecDepth 100000 in
set_option maxHeartbeats 2000000 in
theorem rest_any (r p s : Nat) (W z1 n1 z2 n2 : Int) (w : World) (hn : r * p ≤ 12) (hs : s < 4294967296) :
    Calls Tryd.prog 40 #[.agg #[.int .i64 r, .int .i64 p, .int .u32 W, .int .i64 z1, .int .i64 n1, .int .i64 z2, .int .i64 n2], .int .u32 s] w fun e w' => e = .returned (.int .u32 (restB (r * p) s : Nat)) ∧ Gr w w' := by
  obtain ⟨m0, m1⟩ := mul_in hn
  have hNI : (r : Int) * (p : Int) = ((r * p : Nat) : Int) := by simp
  generalize r * p = N at *
  have HE := Lib.hid (show ofB (fun j => !s.testBit j) N = ofB (fun j => (fun j => !s.testBit j) (N - N + j)) N from ofB_congr _ fun i _ => by rw [Nat.sub_self, Nat.zero_add])
  obtain ⟨g, hg⟩ : ∃ g : Nat → Bool, (fun j => !s.testBit j) = g := ⟨_, rfl⟩
  have HG := Lib.hid (fun j => congrFun hg j)
  have HF := Lib.hid (show restB N s = ofB (fun j => !s.testBit j) N from rfl)
  rw [HF.out, HE.out, hg]
  clear HE HF hg
  have HS := Lib.hid (fun k hk => ofB_step g N k hk)
  have HZ := Lib.hid (show ofB (fun j => g (N - 0 + j)) 0 = 0 from rfl)
  have HB := Lib.hid (fun k hk => p12 (n := k) hk (ofB_lt (fun j => g (N - k + j)) k))
  go_enter Tryd.func40, Tryd.ntmps40
  go_wp2
  go_loop [5, 6] (fun o i => ∃ k : Nat, k ≤ N ∧ i = .int .i64 ((N : Int) - 1 - k) ∧ o = .int .u32 (ofB (fun j => g (N - k + j)) k : Nat)) (fun _ i => (intOf i + 1).toNat)
  case atStart => exact ⟨0, by omega, by simp, by rw [HZ.out]; rfl⟩
  case round =>
    obtain ⟨k, hk, rfl, rfl⟩ := hrel
    by_cases hlt : k < N
    · have hb := HB.out k (by omega)
      have HS' := Lib.hid (HS.out k hlt)
      have HG' := Lib.hid (HG.out (N - (k + 1)))
      have HH := Lib.hid (fun w => has_any s (N - (k + 1)) w hs (by omega))
      rw [show ((N - (k + 1) : Nat) : Int) = (N : Int) - 1 - k by omega] at HH
      rw [show s.testBit (N - (k + 1)) = !g (N - (k + 1)) by rw [← HG'.out]; simp] at HH
      generalize g (N - (k + 1)) = t at *
      generalize ofB (fun j => g (N - k + j)) k = o at *
      cases t
      all_goals
        go_wp2_with fail
        refine (HH.out _).mono ?_
        rintro e w9 ⟨rfl, rfl⟩
        go_wp2
        go_round
        case rel => exact ⟨k + 1, by omega, by go_num, by rw [HS'.out]; first | rfl | go_num⟩
        case measure => simp [intOf]; omega
    · obtain rfl : k = N := by omega
      obtain ⟨o, ho⟩ : ∃ o, ofB (fun j => g (k - k + j)) k = o := ⟨_, rfl⟩
      rw [ho]
      go_wp2
      go_ret
      exact ⟨ret_int (by rw [← ho]; simp), (Gr.refl _).alloc _⟩
set_option maxRecDepth 100000 in
set_option maxHeartbeats 2000000 in
theorem both_any (r p a b : Nat) (W z1 n1 z2 n2 : Int) (w : World) (hn : r * p ≤ 12) (ha : a < 4294967296) (hb' : b < 4294967296) :
    Calls Tryd.prog 51 #[.agg #[.int .i64 r, .int .i64 p, .int .u32 W, .int .i64 z1, .int .i64 n1, .int .i64 z2, .int .i64 n2], .int .u32 a, .int .u32 b] w fun e w' => e = .returned (.int .u32 (bothB (r * p) a b : Nat)) ∧ Gr w w' := by
  obtain ⟨m0, m1⟩ := mul_in hn
  have hNI : (r : Int) * (p : Int) = ((r * p : Nat) : Int) := by simp
  generalize r * p = N at *
  have HE := Lib.hid (show ofB (fun j => a.testBit j && b.testBit j) N = ofB (fun j => (fun j => a.testBit j && b.testBit j) (N - N + j)) N from ofB_congr _ fun i _ => by rw [Nat.sub_self, Nat.zero_add])
  obtain ⟨g, hg⟩ : ∃ g : Nat → Bool, (fun j => a.testBit j && b.testBit j) = g := ⟨_, rfl⟩
  have HG := Lib.hid (fun j => congrFun hg j)
  have HF := Lib.hid (show bothB N a b = ofB (fun j => a.testBit j && b.testBit j) N from rfl)
  rw [HF.out, HE.out, hg]
  clear HE HF hg
  have HS := Lib.hid (fun k hk => ofB_step g N k hk)
  have HZ := Lib.hid (show ofB (fun j => g (N - 0 + j)) 0 = 0 from rfl)
  have HB := Lib.hid (fun k hk => p12 (n := k) hk (ofB_lt (fun j => g (N - k + j)) k))
  go_enter Tryd.func51, Tryd.ntmps51
  go_wp2
  go_loop [7, 8] (fun o i => ∃ k : Nat, k ≤ N ∧ i = .int .i64 ((N : Int) - 1 - k) ∧ o = .int .u32 (ofB (fun j => g (N - k + j)) k : Nat)) (fun _ i => (intOf i + 1).toNat)
  case atStart => exact ⟨0, by omega, by simp, by rw [HZ.out]; rfl⟩
  case round =>
    obtain ⟨k, hk, rfl, rfl⟩ := hrel
    by_cases hlt : k < N
    · have hb := HB.out k (by omega)
      have HS' := Lib.hid (HS.out k hlt)
      have HG' := Lib.hid (HG.out (N - (k + 1)))
      have H1 := Lib.hid (fun w => has_any a (N - (k + 1)) w ha (by omega))
      have H2 := Lib.hid (fun w => has_any b (N - (k + 1)) w hb' (by omega))
      rw [show ((N - (k + 1) : Nat) : Int) = (N : Int) - 1 - k by omega] at H1 H2
      generalize a.testBit (N - (k + 1)) = ta at *
      generalize b.testBit (N - (k + 1)) = tb at *
      have HG' := HG'.out
      generalize g (N - (k + 1)) = t at *
      generalize ofB (fun j => g (N - k + j)) k = o at *
      cases ta
      · simp at HG'
        subst HG'
        go_wp2_with fail
        refine (H1.out _).mono ?_
        rintro e w9 ⟨rfl, rfl⟩
        go_wp2
        go_round
        case rel => exact ⟨k + 1, by omega, by go_num, by rw [HS'.out]; first | rfl | go_num⟩
        case measure => simp [intOf]; omega
      · simp at HG'
        subst HG'
        cases tb
        all_goals
          go_wp2_with fail
          refine (H1.out _).mono ?_
          rintro e w9 ⟨rfl, rfl⟩
          go_wp2_with fail
          refine (H2.out _).mono ?_
          rintro e w9 ⟨rfl, rfl⟩
          go_wp2
          go_round
          case rel => exact ⟨k + 1, by omega, by go_num, by rw [HS'.out]; first | rfl | go_num⟩
          case measure => simp [intOf]; omega
    · obtain rfl : k = N := by omega
      obtain ⟨o, ho⟩ : ∃ o, ofB (fun j => g (k - k + j)) k = o := ⟨_, rfl⟩
      rw [ho]
      go_wp2
      go_ret
      exact ⟨ret_int (by rw [← ho]; simp), (Gr.refl _).alloc _⟩
end Go.Proofs.YtegapeplbincnaaDoor
