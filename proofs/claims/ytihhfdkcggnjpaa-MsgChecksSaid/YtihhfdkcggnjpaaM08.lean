/- Plain mathematics of ballots. No program is imported here. -/
import Derived.WalkKit
namespace Go.Proofs.Ytihhfdkcggnjpaa.Bal
def cmpI (a b : Int) : Int := if a < b then -1 else if b < a then 1 else 0
theorem cmpI_ways (a b : Int) : a < b ∧ cmpI a b = -1 ∨ b < a ∧ cmpI a b = 1 ∨ a = b ∧ cmpI a b = 0 := by
  unfold cmpI
  rcases Int.lt_trichotomy a b with h | h | h
  · exact .inl ⟨h, by rw [if_pos h]⟩
  · exact .inr (.inr ⟨h, by rw [if_neg (by omega), if_neg (by omega)]⟩)
  · exact .inr (.inl ⟨h, by rw [if_neg (by omega), if_pos h]⟩)
def orI (x y : Int) : Int := if x = 0 then y else x
/-- Counters, then nodes. -/
def cmpB (c n d m : Int) : Int := orI (cmpI c d) (cmpI n m)
theorem cmpB_ways (c n d m : Int) : (c < d ∨ c = d ∧ n < m) ∧ cmpB c n d m = -1 ∨ (d < c ∨ c = d ∧ m < n) ∧ cmpB c n d m = 1 ∨ (c = d ∧ n = m) ∧ cmpB c n d m = 0 := by
  unfold cmpB orI
  rcases cmpI_ways c d with ⟨h, e⟩ | ⟨h, e⟩ | ⟨h, e⟩ <;> rw [e]
  · exact .inl ⟨.inl h, by rw [if_neg (by omega)]⟩
  · exact .inr (.inl ⟨.inl h, by rw [if_neg (by omega)]⟩)
  · rw [if_pos rfl]
    rcases cmpI_ways n m with ⟨h1, e1⟩ | ⟨h1, e1⟩ | ⟨h1, e1⟩ <;> rw [e1]
    · exact .inl ⟨.inr ⟨h, h1⟩, rfl⟩
    · exact .inr (.inl ⟨.inr ⟨h, h1⟩, rfl⟩)
    · exact .inr (.inr ⟨⟨h, h1⟩, rfl⟩)
def above (c n d m : Int) : Bool := decide (d < c ∨ c = d ∧ m < n)
theorem above_eq (c n d m : Int) : above c n d m = decide (0 < cmpB c n d m) := by
  unfold above
  rw [Bool.eq_iff_iff, decide_eq_true_eq, decide_eq_true_eq]
  rcases cmpB_ways c n d m with ⟨h, e⟩ | ⟨h, e⟩ | ⟨h, e⟩ <;> rw [e] <;> omega
theorem cmpB_anti (c n d m : Int) : cmpB c n d m = - cmpB d m c n := by
  rcases cmpB_ways c n d m with ⟨h, e⟩ | ⟨h, e⟩ | ⟨h, e⟩ <;> rcases cmpB_ways d m c n with ⟨h1, e1⟩ | ⟨h1, e1⟩ | ⟨h1, e1⟩ <;> rw [e, e1] <;> omega
def maxStep (m b : Int × Int) : Int × Int := if 0 < cmpB b.1 b.2 m.1 m.2 then b else m
def maxB (L : List (Int × Int)) : Int × Int := L.foldl maxStep (0, 0)
theorem maxB_snoc (L : List (Int × Int)) (k : Nat) (h : k < L.length) : maxB (L.take (k + 1)) = maxStep (maxB (L.take k)) L[k] := by
  unfold maxB
  rw [List.take_succ_eq_append_getElem h, List.foldl_append]; rfl
theorem ge_iff (c n d m : Int) : 0 ≤ cmpB c n d m ↔ d < c ∨ c = d ∧ m ≤ n := by
  rcases cmpB_ways c n d m with ⟨h, e⟩ | ⟨h, e⟩ | ⟨h, e⟩ <;> rw [e] <;> omega
theorem gt_iff (c n d m : Int) : 0 < cmpB c n d m ↔ d < c ∨ c = d ∧ m < n := by
  rcases cmpB_ways c n d m with ⟨h, e⟩ | ⟨h, e⟩ | ⟨h, e⟩ <;> rw [e] <;> omega
theorem maxStep_spec (m b : Int × Int) : (maxStep m b = m ∨ maxStep m b = b) ∧ 0 ≤ cmpB (maxStep m b).1 (maxStep m b).2 m.1 m.2 ∧ 0 ≤ cmpB (maxStep m b).1 (maxStep m b).2 b.1 b.2 := by
  unfold maxStep
  split
  · rename_i h
    exact ⟨.inr rfl, by omega, by rw [ge_iff]; omega⟩
  · rename_i h
    rw [gt_iff] at h
    exact ⟨.inl rfl, by rw [ge_iff]; omega, by rw [ge_iff]; omega⟩
theorem max3 {a b c d e f : Int} (ha : 0 ≤ a) (hb : 0 ≤ b) (hc : 0 ≤ c) (he : 0 ≤ e) :
    ∃ x y : Int, maxB [(a, b), (c, d), (e, f)] = (x, y) ∧ ((x = a ∧ y = b) ∨ (x = c ∧ y = d) ∨ (x = e ∧ y = f)) ∧ 0 ≤ cmpB x y a b ∧ 0 ≤ cmpB x y c d ∧ 0 ≤ cmpB x y e f := by
  have E : maxB [(a, b), (c, d), (e, f)] = maxStep (maxStep (maxStep (0, 0) (a, b)) (c, d)) (e, f) := rfl
  rw [E]; clear E
  obtain ⟨p1, p2, p3⟩ := maxStep_spec (0, 0) (a, b)
  generalize maxStep (0, 0) (a, b) = M1 at *
  obtain ⟨q1, q2, q3⟩ := maxStep_spec M1 (c, d)
  generalize maxStep M1 (c, d) = M2 at *
  obtain ⟨r1, r2, r3⟩ := maxStep_spec M2 (e, f)
  generalize maxStep M2 (e, f) = M3 at *
  obtain ⟨x1, y1⟩ := M1
  obtain ⟨x2, y2⟩ := M2
  obtain ⟨x3, y3⟩ := M3
  simp only [Prod.mk.injEq] at p1 q1 r1
  simp only [ge_iff] at *
  refine ⟨x3, y3, rfl, ?_, ?_, ?_, ?_⟩ <;> omega
def nextB (c m n : Int) : (Int × Int) × Int := if n < 0 ∨ 12 ≤ n then ((0, 0), 2) else if 0 < cmpB (max c 1) n c m then ((max c 1, n), 0) else if c = 18446744073709551615 then ((0, 0), 19) else ((c + 1, n), 0)
/-- The ways of Next. -/
theorem nextB_ways (c m n : Int) : n < 0 ∧ nextB c m n = ((0, 0), 2) ∨ 12 ≤ n ∧ nextB c m n = ((0, 0), 2) ∨
    (0 ≤ n ∧ n < 12 ∧ 0 < cmpB (max c 1) n c m ∧ nextB c m n = ((max c 1, n), 0)) ∨
    (0 ≤ n ∧ n < 12 ∧ ¬ 0 < cmpB (max c 1) n c m ∧ c = 18446744073709551615 ∧ nextB c m n = ((0, 0), 19)) ∨
    (0 ≤ n ∧ n < 12 ∧ ¬ 0 < cmpB (max c 1) n c m ∧ c ≠ 18446744073709551615 ∧ nextB c m n = ((c + 1, n), 0)) := by
  unfold nextB
  by_cases h1 : n < 0
  · exact .inl ⟨h1, by rw [if_pos (.inl h1)]⟩
  by_cases h2 : 12 ≤ n
  · exact .inr (.inl ⟨h2, by rw [if_pos (.inr h2)]⟩)
  rw [if_neg (by omega)]
  by_cases h3 : 0 < cmpB (max c 1) n c m
  · exact .inr (.inr (.inl ⟨by omega, by omega, h3, by rw [if_pos h3]⟩))
  rw [if_neg h3]
  by_cases h4 : c = 18446744073709551615
  · exact .inr (.inr (.inr (.inl ⟨by omega, by omega, h3, h4, by rw [if_pos h4]⟩)))
  · exact .inr (.inr (.inr (.inr ⟨by omega, by omega, h3, h4, by rw [if_neg h4]⟩)))
/-- For a ballot that may be, by plain numbers. -/
theorem nextB_plain {c m n : Int} (hc : 0 ≤ c) (h0 : c = 0 → m = 0) :
    n < 0 ∧ nextB c m n = ((0, 0), 2) ∨ 12 ≤ n ∧ nextB c m n = ((0, 0), 2) ∨ (0 ≤ n ∧ n < 12 ∧ 1 ≤ c ∧ m < n ∧ nextB c m n = ((c, n), 0)) ∨
    (0 ≤ n ∧ n < 12 ∧ c = 18446744073709551615 ∧ n ≤ m ∧ nextB c m n = ((0, 0), 19)) ∨ (0 ≤ n ∧ n < 12 ∧ (c = 0 ∨ n ≤ m) ∧ c ≠ 18446744073709551615 ∧ nextB c m n = ((c + 1, n), 0)) := by
  have hx : max c 1 = c ∧ 1 ≤ c ∨ max c 1 = 1 ∧ c = 0 := by omega
  rcases nextB_ways c m n with ⟨h, e⟩ | ⟨h, e⟩ | ⟨h1, h2, h3, e⟩ | ⟨h1, h2, h3, h4, e⟩ | ⟨h1, h2, h3, h4, e⟩
  · exact .inl ⟨h, e⟩
  · exact .inr (.inl ⟨h, e⟩)
  · rcases hx with ⟨x1, x2⟩ | ⟨x1, x2⟩
    · rw [x1] at h3 e
      rcases cmpB_ways c n c m with ⟨g, e2⟩ | ⟨g, e2⟩ | ⟨g, e2⟩ <;> rw [e2] at h3
      · omega
      · exact .inr (.inr (.inl ⟨h1, h2, x2, by omega, e⟩))
      · omega
    · rw [x1] at e
      subst x2
      exact .inr (.inr (.inr (.inr ⟨h1, h2, .inl rfl, by decide, e⟩)))
  · rcases hx with ⟨x1, x2⟩ | ⟨x1, x2⟩
    · rw [x1] at h3
      rcases cmpB_ways c n c m with ⟨g, e2⟩ | ⟨g, e2⟩ | ⟨g, e2⟩ <;> rw [e2] at h3
      · exact .inr (.inr (.inr (.inl ⟨h1, h2, h4, by omega, e⟩)))
      · omega
      · exact .inr (.inr (.inr (.inl ⟨h1, h2, h4, by omega, e⟩)))
    · omega
  · rcases hx with ⟨x1, x2⟩ | ⟨x1, x2⟩
    · rw [x1] at h3
      rcases cmpB_ways c n c m with ⟨g, e2⟩ | ⟨g, e2⟩ | ⟨g, e2⟩ <;> rw [e2] at h3
      · exact .inr (.inr (.inr (.inr ⟨h1, h2, .inr (by omega), h4, e⟩)))
      · omega
      · exact .inr (.inr (.inr (.inr ⟨h1, h2, .inr (by omega), h4, e⟩)))
    · exact .inr (.inr (.inr (.inr ⟨h1, h2, .inl x2, h4, e⟩)))
end Go.Proofs.Ytihhfdkcggnjpaa.Bal
