import Derived.Test.YtnanclgnjchpeaaC18
import Derived.Test.YtnanclgnjchpeaaC14
import Derived.WalkKit
import Derived.ProofKit
import Derived.LoopTactic
import Derived.Outline
import Derived.WalkSpells
import Derived.WalkLawsBesides
import Derived.Lib.Hide
import Derived.Deep.LoopGhost
import Derived.Deep.QuietTactic
import Derived.BigQuiet
import Derived.ShutString
import Derived.OpenShut
import Derived.ChangeOld
import Derived.Deep.Slices
import Derived.Deep.Fields
namespace Go.Proofs.Ytnanclgnjchpeaa
open Go.ChangeShapes Go.WideShapes Go.ChangeAt Go.RowKit Go.Deep
set_option linter.unusedVariables false
section
variable {H : Type} {enc : TypeId × Value → H} {P : Program} {w : World} {base : Nat} {spare : Nat → Bool} {held : Bool}
theorem ints_open2 {fuel : Nat} {t e : TypeId} {c : Value} {x : DataW H × List MemPlace} (ht : P.underlying t = some (.slice e)) (he : P.underlying e = some (.int .i64)) (hC : P.cellsOf e = 1) (h : DataW.trod enc P w base spare held fuel t [c] = some x) :
    ∃ (l : List Int) (a : Option Addr) (cap : Nat), c = .slice a l.length cap ∧ Ints w a l ∧ l.length ≤ cap := by
  have h2 := h
  rcases open_slice ht h with ⟨hcs, _⟩ | ⟨y, l, cp, m, n, D, Pl, hcs, _, hl, hm, hmm, _, hi⟩
  · simp only [List.cons.injEq, and_true] at hcs
    subst hcs
    exact ⟨[], none, 0, rfl, ⟨by simp, by simp, .inl rfl⟩, by simp⟩
  · simp only [List.cons.injEq, and_true] at hcs
    subst hcs
    obtain ⟨ls, hls, hI⟩ := ints_open (a := some y) (len := l) (cap := cp) ht he hC (show DataW.trod enc P w base spare held fuel t (Value.slice (some y) l cp).cells.toList = some x from h2)
    subst hls
    exact ⟨ls, some y, cp, rfl, hI, hl⟩
/-- Two slices of numbers in an array, by value. -/
theorem open_ints2 {r : Reach} {b0 : Nat} {t s e : TypeId} {v : Value} {d : DataW H} {p : List MemPlace} (ht : P.underlying t = some (.array 2 s)) (hs : P.underlying s = some (.slice e)) (he : P.underlying e = some (.int .i64)) (hcs : P.cellsOf s = 1) (hc : P.cellsOf e = 1) (hC : P.cellsOf t = 2)
    (hv : Value.okWide P w r b0 t v) (h : DataW.Trod enc P w base spare held t v d p) : ∃ (l0 : List Int) (a0 : Option Addr) (c0 : Nat) (l1 : List Int) (a1 : Option Addr) (c1 : Nat), v = .agg #[.slice a0 l0.length c0, .slice a1 l1.length c1] ∧ Ints w a0 l0 ∧ l0.length ≤ c0 ∧ Ints w a1 l1 ∧ l1.length ≤ c1 := by
  simp only [Value.okWide, ht] at hv
  obtain ⟨cs, rfl, _, _⟩ := hv
  obtain ⟨fuel, hf⟩ := h
  have hcells : (Value.agg cs).cells.toList = cs.toList := by simp [Value.cells]
  rw [hcells] at hf
  obtain ⟨xs, m, _, _, hlen, hxl, hi⟩ := DataW.trod_array ht hf
  rw [hC] at hlen
  obtain ⟨l, hll⟩ : ∃ l, cs = List.toArray l := ⟨cs.toList, by simp⟩
  subst hll
  simp only at hlen hi
  match l, hlen, hi with
  | [k0, k1], _, hi =>
    have h0 := hi 0 (by decide)
    have h1 := hi 1 (by decide)
    rw [hcs] at h0 h1
    rw [List.getElem?_eq_getElem (by omega)] at h0 h1
    obtain ⟨l0, a0, c0, e0, i0, j0⟩ := ints_open2 hs he hc h0
    obtain ⟨l1, a1, c1, e1, i1, j1⟩ := ints_open2 hs he hc h1
    subst e0; subst e1
    exact ⟨l0, a0, c0, l1, a1, c1, rfl, i0, j0, i1, j1⟩
end
end Go.Proofs.Ytnanclgnjchpeaa
