import Derived.Test.YtmgpnpmdmelnkaaGreatDoorF05c
import Derived.WalkKit
import Derived.ProofKit
import Derived.LoopTactic
import Derived.Outline
import Derived.WalkSpells
import Derived.WalkLawsBesides
import Derived.Lib.Hide
import Derived.Deep.LoopGhost
import Derived.Deep.QuietTactic
import Derived.BigQuiet
import Derived.ShutString
namespace Go.Proofs.YtmgpnpmdmelnkaaGreatDoor
open Go.ChangeShapes Go.WideShapes Go.ChangeAt Go.RowKit
set_option linter.unusedVariables false
set_option linter.unusedSimpArgs false
/-- What the statements make of any parts. -/
def madeL (l : List ByteArray) : List ByteArray := (l.filter okPart).take 6
theorem madeL_ok (l : List ByteArray) : okParts (madeL l) = true := by
  unfold okParts madeL
  simp only [Bool.and_eq_true, decide_eq_true_eq, List.all_eq_true]
  refine ⟨by rw [List.length_take]; omega, fun s hs => ?_⟩
  exact (List.mem_filter.1 (List.mem_of_mem_take hs)).2
theorem madeL_all {l : List ByteArray} (h : (l.filter okPart).length ≤ 6) : madeL l = l.filter okPart := List.take_of_length_le h
theorem madeL_six {l : List ByteArray} {k : Nat} (h : ((l.take k).filter okPart).length = 6) : madeL l = (l.take k).filter okPart := by
  unfold madeL
  have e : l.filter okPart = (l.take k).filter okPart ++ (l.drop k).filter okPart := by rw [← List.filter_append, List.take_append_drop]
  rw [e, List.take_append_of_le_length (by omega), List.take_of_length_le (by omega)]
theorem filter_snoc {l : List ByteArray} {k : Nat} (h : k < l.length) : (l.take (k + 1)).filter okPart = (l.take k).filter okPart ++ (if okPart l[k] then [l[k]] else []) := by
  rw [List.take_succ_eq_append_getElem h, List.filter_append]
  congr 1
  cases hq : okPart l[k] <;> simp [hq]
theorem okParts_one (s : ByteArray) : okParts [s] = okPart s := by simp [okParts]
theorem strs_of_row' {w : World} {base : Nat} {e : TypeId} {v : Value} {l : List ByteArray} (h : w.ownsRow base e 1 v l.length (strCells l)) (hz : ∀ s ∈ l, s.size ≤ 9223372036854775807) (hl : l.length ≤ 9223372036854775807) :
    ∃ a cap, v = .slice a l.length cap ∧ Strs w a l ∧ ∀ b o s, a = some ⟨b, o, s⟩ → base ≤ b := by
  obtain ⟨a, cap, rfl, hs⟩ := strs_of_row h hz hl
  refine ⟨a, cap, rfl, hs, fun b o s hab => ?_⟩
  subst hab
  exact (h.lt b rfl).1
theorem Strs.set {w : World} {a : Option Addr} {l : List ByteArray} (h : Strs w a l) {base p : Nat} (hb : ∀ b o s, a = some ⟨b, o, s⟩ → base ≤ b) (hp : p < base) (v : Value) : Strs (w.setCell ⟨p, 0, none⟩ v) a l := by
  obtain ⟨h1, h2, h3⟩ := h
  refine ⟨h1, h2, h3.imp id ?_⟩
  rintro ⟨b, off, rfl, hc⟩
  refine ⟨b, off, rfl, fun i hi => ?_⟩
  have := hb b off none rfl
  exact (World.cell?_setCell_other _ _ _ _ (fun e => by injection e with e1; omega)).trans (hc i hi)
end Go.Proofs.YtmgpnpmdmelnkaaGreatDoor
