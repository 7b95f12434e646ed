import Derived.Test.YtfpnglomemjniaaDoorM06c
import Derived.WalkKit
import Derived.ProofKit
import Derived.LoopTactic
import Derived.Outline
import Derived.WalkSpells
import Derived.WalkLawsBesides
import Derived.Lib.Hide
import Derived.Deep.LoopGhost
import Derived.Deep.QuietTactic
import Derived.BigQuiet
import Derived.ShutString
namespace Go.Proofs.YtfpnglomemjniaaDoor
open Go.ChangeShapes Go.WideShapes Go.ChangeAt Go.RowKit
set_option linter.unusedVariables false
set_option linter.unusedSimpArgs false
/-- What is above a subtree's path is in none. -/
theorem find_above {L : List (List ByteArray)} (h : clash L = false) {k : Nat} (hk : k < L.length) {q : List ByteArray} (hq : q <+: L[k]) (hne : q.length < L[k].length) : findOf L q = -1 := by
  rcases findOf_cases L q with e | ⟨i, hi, ei, oi⟩
  · exact e
  · exfalso
    rw [over_iff] at oi
    have h1 : lineP L[i] L[k] = true := by
      unfold lineP; rw [Bool.or_eq_true, over_iff]; exact .inl (oi.trans hq)
    have := clash_at h i k hi hk h1
    subst this
    have := oi.length_le
    omega
/-- What is below it is in that subtree. -/
theorem find_below {L : List (List ByteArray)} (h : clash L = false) {k : Nat} (hk : k < L.length) {p : List ByteArray} (hp : L[k] <+: p) : findOf L p = (k : Nat) := by
  rcases findOf_cases L p with e | ⟨i, hi, ei, oi⟩
  · exfalso
    have h1 : 0 < cnt L p := by
      unfold cnt; rw [List.countP_pos_iff]
      exact ⟨L[k], List.getElem_mem hk, (over_iff _ _).2 hp⟩
    have := (cnt_find L p).1 h1
    omega
  · have h1 : lineP L[i] L[k] = true := line_of_over oi ((over_iff _ _).2 hp)
    have := clash_at h i k hi hk h1
    omega
/-- The texts of the paths of the valid parts. -/
def textsOf (l : List (List ByteArray)) (f : List ByteArray → ByteArray) (k : Nat) : List ByteArray := (l.take k).map f
theorem textsOf_snoc {l : List (List ByteArray)} {f : List ByteArray → ByteArray} {k : Nat} (h : k < l.length) : textsOf l f (k + 1) = textsOf l f k ++ [f l[k]] := by
  unfold textsOf; rw [List.take_succ_eq_append_getElem h]; simp only [List.map_append, List.map_cons, List.map_nil]
end Go.Proofs.YtfpnglomemjniaaDoor
