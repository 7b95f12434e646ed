/- Plain mathematics of wanted votes: node by node, and in order. No program is imported here. -/
import Derived.Test.YtegapeplbincnaaDoorM07e
namespace Go.Proofs.YtegapeplbincnaaDoor.Grids
set_option linter.unusedVariables false
theorem cnt_single (t : Nat) : ∀ n, cnt (fun j => decide (j = t)) n = if t < n then 1 else 0
  | 0 => rfl
  | n + 1 => by
    have ih := cnt_single t n
    unfold cnt
    rw [ih]
    by_cases h : n = t
    · subst h; simp
    · rw [decide_eq_false h]
      rcases Nat.lt_or_ge t n with h1 | h1
      · rw [if_pos h1, if_pos (show t < n + 1 by omega)]; rfl
      · rw [if_neg (show ¬ t < n by omega), if_neg (show ¬ t < n + 1 by omega)]; rfl
/-- A node that is new to a set. -/
theorem regC_new {p a m i : Nat} (hp : 0 < p) (h : a.testBit m = false) : regC p (a ||| 2 ^ m) i = regC p a i + (if i = m / p then 1 else 0) := by
  have e : regC p (a ||| 2 ^ m) i = regC p a i + cnt (fun j => decide (m = i * p + j)) p := by
    refine cnt_disj (fun j hj => ?_) (fun j => ?_) p
    · have := of_decide_eq_true hj
      rw [← this]; exact h
    · rw [Nat.testBit_or, Nat.testBit_two_pow]
  rw [e]
  congr 1
  have hm := Nat.div_add_mod m p
  by_cases hi : i = m / p
  · rw [if_pos hi, cnt_congr (g := fun j => decide (j = m % p)) p fun j hj => by rw [decide_eq_decide, hi, Nat.mul_comm]; omega, cnt_single, if_pos (Nat.mod_lt _ hp)]
  · rw [if_neg hi, cnt_congr (g := fun _ => false) p fun j hj => by
      rw [decide_eq_false_iff_not]
      intro e2
      apply hi
      rw [e2, reg_div hj], cnt_none]
theorem setL_take {B : List Int} {k : Nat} (h : k < B.length) : setL (B.take (k + 1)) = setL (B.take k) ||| one B[k] := by
  rw [List.take_succ_eq_append_getElem h, setL_snoc]
/-- In order, what is wanted first is the least. -/
theorem sorted_least {r z : Nat} {g : Nat → Nat} {ys : List Int} (hp : ys.Perm ((List.range r).map fun i => ((g i : Nat) : Int))) (hs : ys.Pairwise (· ≤ ·)) (hz : z ≤ r) (hg : ∀ i, g i ≤ 4) (hr : r ≤ 4) :
    ∃ M : List Nat, ys = M.map (fun n : Nat => (n : Int)) ∧ M.length = r ∧ (M.take z).sum = lst g r z ∧ ∀ m ∈ M, m ≤ 4 := by
  have hM : (ys.map Int.toNat).Perm ((List.range r).map g) := by
    have := hp.map Int.toNat
    rw [List.map_map] at this
    exact this
  have hy : ys = (ys.map Int.toNat).map (fun n : Nat => (n : Int)) := by
    rw [List.map_map]
    have : ∀ y ∈ ys, ((fun n : Nat => (n : Int)) ∘ Int.toNat) y = y := by
      intro y hy
      obtain ⟨i, _, rfl⟩ := List.mem_map.1 (hp.subset hy)
      rfl
    exact ((List.map_congr_left (g := id) this).trans (List.map_id ys)).symm
  have h4 : ∀ m ∈ ys.map Int.toNat, m ≤ 4 := by
    intro m hm
    obtain ⟨i, _, rfl⟩ := List.mem_map.1 (hM.subset hm)
    exact hg i
  have hlen : (ys.map Int.toNat).length = r := by rw [hM.length_eq]; simp
  refine ⟨_, hy, hlen, ?_, h4⟩
  have hsum : ∀ l : List Nat, (∀ m ∈ l, m ≤ 4) → l.sum ≤ 4 * l.length := by
    intro l
    induction l with
    | nil => intro _; simp
    | cons x l ih =>
      intro h
      have h1 := h x (by simp)
      have h2 := ih fun m hm => h m (by simp [hm])
      simp only [List.sum_cons, List.length_cons]; omega
  have h5 := hsum _ h4
  rw [hlen] at h5
  rw [ld_sorted _ z ?_ (by omega) (by omega)]
  · exact ld_perm hM z
  · rw [List.pairwise_map]
    refine hs.imp_of_mem fun {a b} ha hb hab => ?_
    omega
theorem sum_take_succ {M : List Nat} {k : Nat} (h : k < M.length) : (M.take (k + 1)).sum = (M.take k).sum + M[k] := by
  rw [List.take_succ_eq_append_getElem h, List.sum_append]; simp
end Go.Proofs.YtegapeplbincnaaDoor.Grids
