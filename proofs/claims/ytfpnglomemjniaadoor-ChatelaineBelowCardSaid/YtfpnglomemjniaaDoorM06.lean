import Derived.Test.YtfpnglomemjniaaDoorM05c
import Derived.Test.YtfpnglomemjniaaDoorM05b
import Derived.WalkKit
import Derived.ProofKit
import Derived.LoopTactic
import Derived.Outline
import Derived.WalkSpells
import Derived.WalkLawsBesides
import Derived.Lib.Hide
import Derived.Deep.LoopGhost
import Derived.Deep.QuietTactic
import Derived.BigQuiet
import Derived.ShutString
namespace Go.Proofs.YtfpnglomemjniaaDoor
open Go.ChangeShapes Go.WideShapes Go.ChangeAt Go.RowKit
set_option linter.unusedVariables false
set_option linter.unusedSimpArgs false
/-- Are two paths in line? -/
def lineP (l m : List ByteArray) : Bool := overP l m || overP m l
theorem lineP_comm (l m : List ByteArray) : lineP l m = lineP m l := Bool.or_comm _ _
/-- Is one of the first k paths in line with one that comes later, or earlier? -/
def clash (L : List (List ByteArray)) : Bool := match L with
  | [] => false
  | l :: t => t.any (lineP l) || clash t
theorem clash_snoc (L : List (List ByteArray)) (m : List ByteArray) : clash (L ++ [m]) = (clash L || L.any (fun l => lineP l m)) := by
  induction L with
  | nil => simp [clash]
  | cons l t ih =>
    simp only [List.cons_append, clash, ih, List.any_append, List.any_cons, List.any_nil, Bool.or_false]
    cases t.any (lineP l) <;> cases lineP l m <;> cases clash t <;> simp
/-- The paths of texts, if each is one. -/
def parseAll : List ByteArray → Option (List (List ByteArray))
  | [] => some []
  | s :: t => match parseOf s with
    | none => none
    | some l => (parseAll t).map (l :: ·)
theorem parseAll_snoc (ss : List ByteArray) (s : ByteArray) (L : List (List ByteArray)) (h : parseAll ss = some L) : parseAll (ss ++ [s]) = (parseOf s).map fun l => L ++ [l] := by
  induction ss generalizing L with
  | nil =>
    obtain rfl : L = [] := by simpa [parseAll] using h.symm
    cases hp : parseOf s <;> simp [parseAll, hp]
  | cons x t ih =>
    simp only [parseAll, List.cons_append] at h ⊢
    cases hx : parseOf x with
    | none => rw [hx] at h; cases h
    | some l =>
      rw [hx] at h
      simp only [Option.map_eq_some_iff] at h
      obtain ⟨M, hM, rfl⟩ := h
      simp only [ih M hM]
      cases parseOf s <;> simp
theorem parseAll_none (ss : List ByteArray) (s : ByteArray) (t : List ByteArray) (L : List (List ByteArray)) (h : parseAll ss = some L) (hs : parseOf s = none) : parseAll (ss ++ s :: t) = none := by
  induction ss generalizing L with
  | nil => simp [parseAll, hs]
  | cons x r ih =>
    simp only [parseAll, List.cons_append] at h ⊢
    cases hx : parseOf x with
    | none => rfl
    | some l =>
      rw [hx] at h
      simp only [Option.map_eq_some_iff] at h
      obtain ⟨M, hM, rfl⟩ := h
      rw [ih M hM]; rfl
theorem parseAll_ok {ss : List ByteArray} {L : List (List ByteArray)} (h : parseAll ss = some L) : (∀ l ∈ L, okParts l = true) ∧ L.map shown = ss := by
  induction ss generalizing L with
  | nil =>
    obtain rfl : L = [] := by simpa [parseAll] using h.symm
    exact ⟨(fun l hl => by cases hl), rfl⟩
  | cons x r ih =>
    simp only [parseAll] at h
    cases hx : parseOf x with
    | none => rw [hx] at h; cases h
    | some l =>
      rw [hx] at h
      simp only [Option.map_eq_some_iff] at h
      obtain ⟨M, hM, rfl⟩ := h
      obtain ⟨h1, h2⟩ := ih hM
      obtain ⟨h3, h4⟩ := parseOf_some hx
      refine ⟨fun m hm => ?_, by rw [List.map_cons, h2, h4]⟩
      rcases List.mem_cons.1 hm with rfl | hm
      · exact h3
      · exact h1 m hm
/-- What New must give: the error's number, or the paths. -/
def newOf (ss : List ByteArray) : Int × List (List ByteArray) :=
  if ss.length = 0 ∨ 4 < ss.length then (12, []) else match parseAll ss with
  | none => (10, [])
  | some L => if clash L = true then (11, []) else (0, L)
/-- Where a path is: the first one over it. -/
def findOf (L : List (List ByteArray)) (p : List ByteArray) : Int := match L.findIdx? (fun l => overP l p) with
  | some i => (i : Nat)
  | none => -1
/-- A search that goes on. -/
def findFrom (q : List ByteArray → Bool) (L : List (List ByteArray)) (k : Nat) : Int := match (L.drop k).findIdx? q with
  | some i => ((k + i : Nat) : Int)
  | none => -1
theorem findFrom_end (q : List ByteArray → Bool) (L : List (List ByteArray)) {k : Nat} (h : L.length ≤ k) : findFrom q L k = -1 := by
  unfold findFrom; rw [List.drop_eq_nil_of_le h]; rfl
theorem findFrom_hit (q : List ByteArray → Bool) (L : List (List ByteArray)) {k : Nat} (h : k < L.length) (hq : q L[k] = true) : findFrom q L k = (k : Nat) := by
  unfold findFrom; rw [List.drop_eq_getElem_cons h, List.findIdx?_cons, if_pos hq]; simp
theorem findFrom_miss (q : List ByteArray → Bool) (L : List (List ByteArray)) {k : Nat} (h : k < L.length) (hq : q L[k] = false) : findFrom q L k = findFrom q L (k + 1) := by
  unfold findFrom
  rw [List.drop_eq_getElem_cons h, List.findIdx?_cons, hq]
  cases hf : (L.drop (k + 1)).findIdx? q with
  | none => simp [hf]
  | some i => simp [hf]; omega
theorem findFrom_any (q : List ByteArray → Bool) (L : List (List ByteArray)) : decide (0 ≤ findFrom q L 0) = L.any q := by
  unfold findFrom
  rw [List.drop_zero]
  cases hf : L.findIdx? q with
  | none =>
    have : L.any q = false := by
      rw [List.any_eq_false]
      intro x hx
      have := List.findIdx?_eq_none_iff.1 hf x hx
      simp [this]
    rw [this]; rfl
  | some i =>
    have : L.any q = true := by
      rw [List.any_eq_true]
      obtain ⟨h, h1, _⟩ := List.findIdx?_eq_some_iff_getElem.1 hf
      exact ⟨_, List.getElem_mem h, h1⟩
    rw [this]; simp
theorem findOf_from (L : List (List ByteArray)) (p : List ByteArray) : findOf L p = findFrom (fun l => overP l p) L 0 := by
  unfold findOf findFrom
  rw [List.drop_zero]
  cases L.findIdx? (fun l => overP l p) <;> simp
end Go.Proofs.YtfpnglomemjniaaDoor
