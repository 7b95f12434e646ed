/- Plain mathematics of grids' laws: what is left of a set, with the witnesses; all and nothing as quorums. No program is imported here. -/
import Derived.Test.YtkfkedpldndgiaaM07c
import Derived.Laws.BitsAllLaws
namespace Go.Proofs.Ytkfkedpldndgiaa.Grids
theorem and_all {W n : Nat} (h : W < 2 ^ n) : W &&& (2 ^ n - 1) = W := by rw [Nat.and_two_pow_sub_one_eq_mod, Nat.mod_eq_of_lt h]
theorem sub_bit {b i : Nat} (hb : b < 4294967296) : (4294967295 - b).testBit i = (decide (i < 32) && !b.testBit i) := by
  have := Nat.testBit_two_pow_sub_succ (x := b) (n := 32) hb i
  rw [show (2 : Nat) ^ 32 - (b + 1) = 4294967295 - b by omega] at this
  exact this
theorem all_bit (n i : Nat) : (2 ^ n - 1).testBit i = decide (i < n) := Nat.testBit_two_pow_sub_one ..
/-- What a set leaves, with the witnesses. -/
theorem rest_facts {n s W : Nat} (hn : n ≤ 9) (hs : s < 4294967296) (hW : W < 4294967296) :
    ∃ d m : Nat, bits .andNot .u32 ((2 ^ n - 1 : Nat) : Int) (s : Int) = (d : Int) ∧ bits .or .u32 (d : Int) (W : Int) = (m : Int) ∧ m < 4294967296 ∧ ∀ i, i < n → m.testBit i = (!s.testBit i || W.testBit i) := by
  have h5 : 2 ^ n ≤ 512 := Nat.pow_le_pow_right (n := 2) (by decide) hn
  have hd : (2 ^ n - 1) &&& (4294967295 - s) ≤ 2 ^ n - 1 := Nat.and_le_left
  refine ⟨_, _, u32_andNot_nat _ _ (by omega) hs, u32_or_nat _ _ (by omega) hW, Nat.or_lt_two_pow (n := 32) (by omega) hW, fun i hi => ?_⟩
  rw [Nat.testBit_or, Nat.testBit_and, all_bit, sub_bit hs, decide_eq_true hi, decide_eq_true (show i < 32 by omega)]; simp
theorem meet_first {r p W z1 n1 z2 n2 s m : Nat} (h : meetsB r p W z1 n1 z2 n2 = true) (hm : ∀ i, i < r * p → m.testBit i = (!s.testBit i || W.testBit i)) (h1 : isQ r p z1 n1 s = true) : isQ r p z2 n2 m = false := by
  cases h2 : isQ r p z2 n2 m
  · rfl
  · obtain ⟨i, hi, ha, hb, hw⟩ := meets_of h _ _ h1 h2
    rw [hm i hi, ha, hw] at hb
    simp at hb
theorem meet_second {r p W z1 n1 z2 n2 s m : Nat} (h : meetsB r p W z1 n1 z2 n2 = true) (hm : ∀ i, i < r * p → m.testBit i = (!s.testBit i || W.testBit i)) (h1 : isQ r p z2 n2 s = true) : isQ r p z1 n1 m = false := by
  cases h2 : isQ r p z1 n1 m
  · rfl
  · obtain ⟨i, hi, ha, hb, hw⟩ := meets_of h _ _ h2 h1
    rw [hm i hi, hb, hw] at ha
    simp at ha
/-- Two quorums have a node in common that is not a witness. -/
theorem common_facts {r p W z1 n1 z2 n2 a b : Nat} (h : meetsB r p W z1 n1 z2 n2 = true) (hN : r * p ≤ 9) (hW : W < 2 ^ (r * p)) (ha : a < 4294967296) (hb : b < 4294967296) (h1 : isQ r p z1 n1 a = true) (h2 : isQ r p z2 n2 b = true) :
    ∃ x y d : Nat, bits .and .u32 (a : Int) (b : Int) = (x : Int) ∧ bits .and .u32 (x : Int) ((2 ^ (r * p) - 1 : Nat) : Int) = (y : Int) ∧ bits .andNot .u32 (y : Int) (W : Int) = (d : Int) ∧ d ≠ 0 := by
  have h5 : 2 ^ (r * p) ≤ 512 := Nat.pow_le_pow_right (n := 2) (by decide) hN
  have hx : a &&& b ≤ a := Nat.and_le_left
  have hy : a &&& b &&& (2 ^ (r * p) - 1) ≤ 2 ^ (r * p) - 1 := Nat.and_le_right
  refine ⟨_, _, _, w32_and _ _ ha hb, w32_and _ _ (by omega) (by omega), u32_andNot_nat _ _ (by omega) (by omega), fun e => ?_⟩
  obtain ⟨i, hi, q1, q2, q3⟩ := meets_of h _ _ h1 h2
  have : (a &&& b &&& (2 ^ (r * p) - 1) &&& (4294967295 - W)).testBit i = true := by
    rw [Nat.testBit_and, Nat.testBit_and, Nat.testBit_and, all_bit, sub_bit (by omega), q1, q2, q3, decide_eq_true hi, decide_eq_true (show i < 32 by omega)]; rfl
  rw [e] at this
  simp at this
theorem isQ_all {r p z n : Nat} (hz : z ≤ r) (hn : n ≤ p) : isQ r p z n (2 ^ (r * p) - 1) = true := by
  unfold isQ
  rw [decide_eq_true_eq, cnt_congr (g := fun _ => true) _ fun k hk => decide_eq_true (by
    unfold regC
    rw [cnt_congr (g := fun _ => true) _ fun i hi => by rw [all_bit, decide_eq_true (reg_lt hk hi)], cnt_all]; exact hn), cnt_all]
  exact hz
theorem isQ_zero {r p z n : Nat} (hz : 1 ≤ z) (hn : 1 ≤ n) : isQ r p z n 0 = false := by
  unfold isQ
  rw [decide_eq_false_iff_not, cnt_congr (g := fun _ => false) _ fun k _ => decide_eq_false (by
    unfold regC
    rw [cnt_congr (g := fun _ => false) _ fun i _ => by simp, cnt_none]; omega), cnt_none]
  omega
theorem isQ_or {r p z n a b : Nat} (h : isQ r p z n a = true) : isQ r p z n (a ||| b) = true :=
  isQ_mono (fun i _ e => by rw [Nat.testBit_or, e]; rfl) h
end Go.Proofs.Ytkfkedpldndgiaa.Grids
