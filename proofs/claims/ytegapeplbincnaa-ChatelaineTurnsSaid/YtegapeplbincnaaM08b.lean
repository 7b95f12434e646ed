/- Plain mathematics of ballots in turn. No program is imported here. -/
import Derived.Test.YtegapeplbincnaaM08
namespace Go.Proofs.Ytegapeplbincnaa.Bal
set_option linter.unusedVariables false
def Le (x y : Int × Int) : Prop := x.1 < y.1 ∨ x.1 = y.1 ∧ x.2 ≤ y.2
theorem Le.refl (x : Int × Int) : Le x x := .inr ⟨rfl, Int.le_refl _⟩
theorem Le.trans {x y z : Int × Int} (h : Le x y) (k : Le y z) : Le x z := by unfold Le at *; omega
/-- A ballot that may be heard of behind i turns. -/
def Ok (i : Nat) (x : Int × Int) : Prop := 0 ≤ x.1 ∧ x.1 ≤ (i : Int) ∧ 0 ≤ x.2 ∧ x.2 ≤ 11 ∧ (x.1 = 0 → x.2 = 0)
def Inv (A : List (Int × Int)) (H : Nat → Int × Int) (i : Nat) : Prop :=
  (∀ k, k < 12 → Ok i (H k)) ∧ ∀ x ∈ A, 0 ≤ x.1 ∧ x.1 ≤ (i : Int) ∧ ∃ m : Nat, m < 12 ∧ x.2 = (m : Int) ∧ Le x (H m)
theorem inv_start : Inv [] (fun _ => (0, 0)) 0 := ⟨fun k _ => by simp [Ok], fun x hx => by cases hx⟩
theorem next_is {i : Nat} {c m : Int} (h : Ok i (c, m)) (hi : i ≤ 60) (n : Nat) (hn : n < 12) : ∃ x : Int, nextB c m n = ((x, (n : Int)), 0) ∧ 1 ≤ x ∧ x ≤ (i : Int) + 1 ∧ (c < x ∨ c = x ∧ m < (n : Int)) := by
  obtain ⟨h1, h2, h3, h4, h5⟩ := h
  simp only at h1 h2 h3 h4 h5
  rcases nextB_plain (n := (n : Int)) h1 h5 with ⟨g, e⟩ | ⟨g, e⟩ | ⟨g1, g2, g3, g4, e⟩ | ⟨g1, g2, g3, g4, e⟩ | ⟨g1, g2, g3, g4, e⟩
  all_goals first
  | omega
  | exact ⟨_, e, by omega, by omega, by omega⟩
/-- A new ballot is none of those that were. -/
theorem new_is {A : List (Int × Int)} {H : Nat → Int × Int} {i n : Nat} {x : Int} (h : Inv A H i) (hb : (H n).1 < x ∨ (H n).1 = x ∧ (H n).2 < (n : Int)) (y : Int × Int) (hy : y ∈ A) : ¬ (y.1 = x ∧ y.2 = (n : Int)) ∧ cmpB y.1 y.2 x n ≠ 0 ∧ cmpB y.1 y.2 x n = - cmpB x n y.1 y.2 := by
  obtain ⟨_, _, m, hm, hym, hle⟩ := h.2 y hy
  have h1 : ¬ (y.1 = x ∧ y.2 = (n : Int)) := by
    rintro ⟨e1, e2⟩
    have : m = n := by omega
    subst this
    unfold Le at hle
    omega
  refine ⟨h1, ?_, cmpB_anti _ _ _ _⟩
  rcases cmpB_ways y.1 y.2 x n with ⟨_, e⟩ | ⟨_, e⟩ | ⟨g, e⟩
  · rw [e]; decide
  · rw [e]; decide
  · exact absurd g h1
/-- The greater one of two. -/
theorem max2 {i : Nat} {a b : Int × Int} (ha : Ok i a) (hb : Ok i b) : Ok i (maxB [a, b]) ∧ Le a (maxB [a, b]) ∧ Le b (maxB [a, b]) := by
  obtain ⟨a1, a2⟩ := a
  obtain ⟨b1, b2⟩ := b
  unfold Ok at ha hb
  simp only at ha hb
  have e : maxB [(a1, a2), (b1, b2)] = maxStep (maxStep (0, 0) (a1, a2)) (b1, b2) := rfl
  rw [e]
  have h1 : maxStep (0, 0) (a1, a2) = (a1, a2) := by
    unfold maxStep
    simp only
    split
    · rfl
    · rename_i h
      rw [gt_iff] at h
      have : a1 = 0 := by omega
      have : a2 = 0 := ha.2.2.2.2 this
      simp_all
  rw [h1]
  unfold maxStep
  simp only
  split
  · rename_i h
    rw [gt_iff] at h
    exact ⟨hb, by unfold Le; simp only; omega, Le.refl _⟩
  · rename_i h
    rw [gt_iff] at h
    exact ⟨ha, Le.refl _, by unfold Le; simp only; omega⟩
def put (H : Nat → Int × Int) (k : Nat) (x : Int × Int) : Nat → Int × Int := fun j => if j = k then x else H j
/-- Behind k of the nodes. -/
def Mid (H : Nat → Int × Int) (i n : Nat) (x : Int) (k : Nat) (G : Nat → Int × Int) : Prop :=
  (∀ j, j < 12 → Ok (i + 1) (G j) ∧ Le (H j) (G j)) ∧ (n < k → Le (x, (n : Int)) (G n))
theorem mid_start {A : List (Int × Int)} {H : Nat → Int × Int} {i : Nat} (h : Inv A H i) (n : Nat) (x : Int) : Mid H i n x 0 H :=
  ⟨fun j hj => ⟨by have := h.1 j hj; unfold Ok at *; omega, Le.refl _⟩, fun h => by omega⟩
theorem mid_keep {H G : Nat → Int × Int} {i n : Nat} {x : Int} {k : Nat} (h : Mid H i n x k G) (hk : k ≠ n) : Mid H i n x (k + 1) G :=
  ⟨h.1, fun hn => h.2 (by omega)⟩
theorem mid_put {H G : Nat → Int × Int} {i n : Nat} {x : Int} {k : Nat} (h : Mid H i n x k G) (hk : k < 12) (hx : Ok (i + 1) (x, (n : Int))) : Mid H i n x (k + 1) (put G k (maxB [G k, (x, (n : Int))])) := by
  obtain ⟨h1, h2, h3⟩ := max2 (h.1 k hk).1 hx
  refine ⟨fun j hj => ?_, fun hn => ?_⟩
  · unfold put
    by_cases e : j = k
    · rw [if_pos e]; subst e; exact ⟨h1, (h.1 j hj).2.trans h2⟩
    · rw [if_neg e]; exact h.1 j hj
  · unfold put
    by_cases e : n = k
    · rw [if_pos e]; exact h3
    · rw [if_neg e]; exact h.2 (by omega)
theorem mid_end {A : List (Int × Int)} {H G : Nat → Int × Int} {i n : Nat} {x : Int} (h : Inv A H i) (hn : n < 12) (hx : 1 ≤ x ∧ x ≤ (i : Int) + 1) (hm : Mid H i n x 12 G) : Inv (A ++ [(x, (n : Int))]) G (i + 1) := by
  refine ⟨fun k hk => (hm.1 k hk).1, fun y hy => ?_⟩
  rcases List.mem_append.1 hy with hy | hy
  · obtain ⟨h1, h2, m, h3, h4, h5⟩ := h.2 y hy
    exact ⟨h1, by omega, m, h3, h4, h5.trans (hm.1 m h3).2⟩
  · have := List.mem_singleton.1 hy
    subst this
    exact ⟨by simp only; omega, by simp only; omega, n, hn, rfl, hm.2 hn⟩
end Go.Proofs.Ytegapeplbincnaa.Bal
