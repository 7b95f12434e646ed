import Derived.Test.YtfpnglomemjniaaDoorM06
import Derived.WalkKit
import Derived.ProofKit
import Derived.LoopTactic
import Derived.Outline
import Derived.WalkSpells
import Derived.WalkLawsBesides
import Derived.Lib.Hide
import Derived.Deep.LoopGhost
import Derived.Deep.QuietTactic
import Derived.BigQuiet
import Derived.ShutString
namespace Go.Proofs.YtfpnglomemjniaaDoor
open Go.ChangeShapes Go.WideShapes Go.ChangeAt Go.RowKit
set_option linter.unusedVariables false
set_option linter.unusedSimpArgs false
theorem over_iff (l m : List ByteArray) : overP l m = true ↔ l <+: m := by unfold overP; rw [decide_eq_true_eq]
theorem line_of_over {a b p : List ByteArray} (h : overP a p = true) (k : overP b p = true) : lineP a b = true := by
  rw [over_iff] at h k
  unfold lineP
  rw [Bool.or_eq_true, over_iff, over_iff]
  exact List.prefix_or_prefix_of_prefix h k
theorem clash_cons {l : List ByteArray} {t : List (List ByteArray)} (h : clash (l :: t) = false) : (∀ m ∈ t, lineP l m = false) ∧ clash t = false := by
  simp only [clash, Bool.or_eq_false_iff, List.any_eq_false] at h
  exact ⟨fun m hm => by simpa using h.1 m hm, h.2⟩
/-- How many subtrees a path is in. -/
def cnt (L : List (List ByteArray)) (p : List ByteArray) : Nat := L.countP fun l => overP l p
theorem cnt_le {L : List (List ByteArray)} (h : clash L = false) (p : List ByteArray) : cnt L p ≤ 1 := by
  induction L with
  | nil => simp [cnt]
  | cons l t ih =>
    obtain ⟨h1, h2⟩ := clash_cons h
    unfold cnt at ih ⊢
    rw [List.countP_cons]
    by_cases ho : overP l p = true
    · have h0 : t.countP (fun l => overP l p) = 0 := by
        rw [List.countP_eq_zero]
        intro m hm hmo
        have := line_of_over ho hmo
        rw [h1 m hm] at this; cases this
      rw [h0, if_pos ho]; omega
    · have := ih h2
      rw [if_neg ho]; omega
theorem cnt_find (L : List (List ByteArray)) (p : List ByteArray) : 0 < cnt L p ↔ 0 ≤ findOf L p := by
  have := findFrom_any (fun l => overP l p) L
  rw [← findOf_from] at this
  have h2 : (0 ≤ findOf L p) ↔ L.any (fun l => overP l p) = true := by rw [← this]; simp
  rw [h2]
  unfold cnt
  rw [List.countP_pos_iff, List.any_eq_true]
theorem findOf_cases (L : List (List ByteArray)) (p : List ByteArray) : findOf L p = -1 ∨ ∃ i : Nat, ∃ h : i < L.length, findOf L p = i ∧ overP L[i] p = true := by
  unfold findOf
  cases hf : L.findIdx? (fun l => overP l p) with
  | none => exact .inl rfl
  | some i =>
    obtain ⟨h, h1, _⟩ := List.findIdx?_eq_some_iff_getElem.1 hf
    exact .inr ⟨i, h, rfl, h1⟩
theorem clash_at {L : List (List ByteArray)} (h : clash L = false) : ∀ (i j : Nat) (hi : i < L.length) (hj : j < L.length), lineP L[i] L[j] = true → i = j := by
  induction L with
  | nil => intro i j hi; simp at hi
  | cons l t ih =>
    obtain ⟨h1, h2⟩ := clash_cons h
    intro i j hi hj hl
    rcases i with _ | i
    · rcases j with _ | j
      · rfl
      · have hm := h1 (t[j]'(by simpa using hj)) (List.getElem_mem _)
        simp only [List.getElem_cons_zero, List.getElem_cons_succ] at hl
        rw [hl] at hm; cases hm
    · rcases j with _ | j
      · have hm := h1 (t[i]'(by simpa using hi)) (List.getElem_mem _)
        simp only [List.getElem_cons_zero, List.getElem_cons_succ] at hl
        rw [lineP_comm, hm] at hl; cases hl
      · have := ih h2 i j (by simpa using hi) (by simpa using hj) (by simpa using hl)
        omega
/-- Paths that are in line, and in some subtree, are in the same one. -/
theorem find_line {L : List (List ByteArray)} (h : clash L = false) {p q : List ByteArray} (hl : lineP p q = true) (hp : 0 ≤ findOf L p) (hq : 0 ≤ findOf L q) : findOf L p = findOf L q := by
  rcases findOf_cases L p with e | ⟨i, hi, ei, oi⟩
  · omega
  · rcases findOf_cases L q with e | ⟨j, hj, ej, oj⟩
    · omega
    · have : lineP L[i] L[j] = true := by
        unfold lineP at hl
        rw [Bool.or_eq_true] at hl
        rcases hl with hl | hl
        · rw [over_iff] at oi hl
          exact line_of_over ((over_iff _ _).2 (oi.trans hl)) oj
        · rw [over_iff] at oj hl
          exact line_of_over oi ((over_iff _ _).2 (oj.trans hl))
      have := clash_at h i j hi hj this
      omega
theorem cnt_snoc {L : List (List ByteArray)} {k : Nat} (h : k < L.length) (p : List ByteArray) : cnt (L.take (k + 1)) p = cnt (L.take k) p + (if overP L[k] p = true then 1 else 0) := by
  unfold cnt
  rw [List.take_succ_eq_append_getElem h, List.countP_append, List.countP_singleton]
theorem newOf_ok {ss : List ByteArray} {L : List (List ByteArray)} (h : newOf ss = (0, L)) : clash L = false ∧ 1 ≤ L.length ∧ L.length ≤ 4 ∧ parseAll ss = some L := by
  unfold newOf at h
  split at h
  · injection h with h1; cases h1
  · rename_i hn
    split at h
    · injection h with h1; cases h1
    · rename_i M hM
      split at h
      · injection h with h1; cases h1
      · rename_i hc
        injection h with h1 h2
        subst h2
        have := congrArg List.length (parseAll_ok hM).2
        rw [List.length_map] at this
        exact ⟨by simpa using hc, by omega, by omega, hM⟩
end Go.Proofs.YtfpnglomemjniaaDoor
