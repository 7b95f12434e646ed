import Derived.Test.YtfpnglomemjniaaDoorF06e
import Derived.Test.YtfpnglomemjniaaDoorC14
import Derived.WalkKit
import Derived.ProofKit
import Derived.LoopTactic
import Derived.Outline
import Derived.WalkSpells
import Derived.WalkLawsBesides
import Derived.Lib.Hide
import Derived.Deep.LoopGhost
import Derived.Deep.QuietTactic
import Derived.BigQuiet
import Derived.ShutString
import Derived.OpenShut
import Derived.ChangeOld
namespace Go.Proofs.YtfpnglomemjniaaDoor
open Go.ChangeShapes Go.WideShapes Go.ChangeAt Go.RowKit
/-- A slice of slices of strings, as the form reads it. -/
theorem srow_open {H : Type} {enc : TypeId × Value → H} {P : Program} {w : World} {base : Nat} {spare : Nat → Bool} {held : Bool} {fuel : Nat} {t e s : TypeId} {a : Option Addr} {len cap : Nat} {x : DataW H × List MemPlace}
    (ht : P.underlying t = some (.slice e)) (he : P.underlying e = some (.slice s)) (hs : P.underlying s = some .string) (hce : P.cellsOf e = 1) (hcs : P.cellsOf s = 1)
    (h : DataW.trod enc P w base spare held fuel t (Value.slice a len cap).cells.toList = some x) :
    ∃ L : List (List ByteArray), len = L.length ∧ SRow w a L := by
  rcases DataW.trod_slice ht h with ⟨hcs0, _⟩ | ⟨y, l, c, elems, rest, n, _, hcs0, _, _, hl, _, hlen, hel, _, _⟩
  · simp [Value.cells] at hcs0
    obtain ⟨rfl, rfl, rfl⟩ := hcs0
    exact ⟨[], rfl, .inl rfl⟩
  · simp [Value.cells] at hcs0
    obtain ⟨rfl, rfl, rfl⟩ := hcs0
    have each : ∀ i : Fin len, ∃ (ss : List ByteArray) (ai : Option Addr) (ci : Nat), w.cell? (y.add i.1) = some (.slice ai ss.length ci) ∧ Strs w ai ss := by
      intro i
      have h1 := hel i.1 i.2
      have hi' : i.1 < elems.length := by rw [hlen]; exact i.2
      rw [hce, Nat.mul_one, List.getElem?_eq_getElem hi', Option.bind_eq_some_iff] at h1
      obtain ⟨cs', hc1, h2⟩ := h1
      rcases DataW.trod_slice he h2 with ⟨hq, _⟩ | ⟨y2, l2, c2, _, _, _, _, hq, _, _, _, _, _, _, _, _⟩
      · subst hq
        exact ⟨[], none, 0, cell_of_cells?_one hc1, by simp, by simp, .inl rfl⟩
      · subst hq
        obtain ⟨ss, hss, hst⟩ := strs_open (a := some y2) (len := l2) (cap := c2) he hs hcs h2
        exact ⟨ss, some y2, c2, by rw [← hss]; exact cell_of_cells?_one hc1, hst⟩
    obtain ⟨f, hf⟩ := Classical.axiomOfChoice each
    refine ⟨List.ofFn f, by simp, ?_⟩
    rcases Nat.eq_zero_or_pos len with h0 | h0
    · subst h0; exact .inl (by simp)
    · obtain ⟨b, off, spot⟩ := y
      obtain ⟨ai, ci, hc0, _⟩ := hf ⟨0, h0⟩
      have hspot : spot = none := by simpa [Addr.add] using World.cell?_spot hc0
      subst hspot
      refine .inr ⟨b, off, rfl, fun i hi => ?_⟩
      have hi' : i < len := by simpa using hi
      obtain ⟨ai, ci, h3, h4⟩ := hf ⟨i, hi'⟩
      have hadd : (⟨b, off, none⟩ : Addr).add i = ⟨b, off + i, none⟩ := by unfold Addr.add; split <;> simp_all
      rw [hadd] at h3
      have he2 : (List.ofFn f)[i] = f ⟨i, hi'⟩ := by simp
      rw [he2]
      exact ⟨ai, ci, h3, h4⟩
end Go.Proofs.YtfpnglomemjniaaDoor
