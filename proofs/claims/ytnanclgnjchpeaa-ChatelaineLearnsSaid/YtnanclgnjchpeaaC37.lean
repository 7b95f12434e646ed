import Derived.Test.YtnanclgnjchpeaaC03
import Derived.WalkKit
import Derived.ProofKit
import Derived.LoopTactic
import Derived.Outline
import Derived.WalkSpells
import Derived.WalkLawsBesides
import Derived.Lib.Hide
import Derived.Deep.LoopGhost
import Derived.Deep.QuietTactic
import Derived.BigQuiet
import Derived.ShutString
import Derived.OpenShut
import Derived.ChangeOld
import Derived.SizedLaws
namespace Go.Proofs.Ytnanclgnjchpeaa
open Go.ChangeShapes Go.WideShapes Go.ChangeAt Go.RowKit
set_option linter.unusedVariables false
theorem weightsAll_mem {H : Type} {P : Program} {e : TypeId} : ∀ {L : List (DataW H)} {d : DataW H}, d ∈ L → ∀ n ∈ d.weights P e, n ∈ DataW.weightsAll P e L
  | x :: r, d, hd, n, hn => by
    simp only [DataW.weightsAll, List.mem_append]
    rcases List.mem_cons.1 hd with rfl | h
    · exact .inl hn
    · exact .inr (weightsAll_mem h n hn)
  | [], _, hd, _, _ => by simp at hd
/-- A slice of strings, as the form reads it, with what the form says of their sizes. -/
theorem strs_open_sized {H : Type} {enc : TypeId × Value → H} {P : Program} {w : World} {base : Nat} {spare : Nat → Bool} {held : Bool} {fuel : Nat} {t e : TypeId} {a : Option Addr} {len cap : Nat} {d : DataW H} {p : List MemPlace}
    (ht : P.underlying t = some (.slice e)) (he : P.underlying e = some .string) (hc : P.cellsOf e = 1) (h : DataW.trod enc P w base spare held fuel t (Value.slice a len cap).cells.toList = some (d, p)) (hz : ∀ n ∈ d.weights P t, n ≤ reachBytes) :
    ∃ ss : List ByteArray, len = ss.length ∧ Strs w a ss ∧ ∀ s ∈ ss, s.size ≤ 281474976710656 := by
  obtain ⟨ss0, hl0, hs0⟩ := strs_open ht he hc h
  refine ⟨ss0, hl0, hs0, ?_⟩
  rcases open_strings ht he hc h with ⟨hcs, _⟩ | ⟨y, l, c, ss, hcs, _, hl, hm, hlen, hx, hcell, hws⟩
  · simp [Value.cells] at hcs
    obtain ⟨rfl, rfl, rfl⟩ := hcs
    intro s hs
    rw [List.eq_nil_of_length_eq_zero hl0.symm] at hs
    simp at hs
  · simp [Value.cells] at hcs
    obtain ⟨rfl, rfl, rfl⟩ := hcs
    have hle : len ≤ ss.length := by rw [hlen]; split <;> omega
    have hxd : d = .slice (strs (ss.take len)) (strs (ss.drop len)) := by have := congrArg Prod.fst hx; simpa using this
    intro s hs
    obtain ⟨i, hi, rfl⟩ := List.getElem_of_mem hs
    have hi2 : i < ss.length := by omega
    have e1 : ss0[i] = ss[i] := by
      rcases hs0.2.2 with h0 | ⟨b, off, hb, hat⟩
      · rw [h0] at hi; simp at hi
      · have h1 := hat i hi
        have h2 := hcell i hi2
        have hy : y = ⟨b, off, none⟩ := by simpa using hb
        have hadd : (⟨b, off, none⟩ : Addr).add i = ⟨b, off + i, none⟩ := by unfold Addr.add; split <;> simp_all
        rw [hy, hadd, h1] at h2
        simp only [Option.some.injEq, Value.string.injEq] at h2
        rw [h2, List.getD_eq_getElem?_getD, List.getElem?_eq_getElem hi2, Option.getD_some]
    rw [e1]
    have hmem : (DataW.lit (.string ss[i].data.toList) : DataW H) ∈ strs (ss.take len) := List.mem_map.2 ⟨ss[i], List.mem_take_iff_getElem.2 ⟨i, by omega, rfl⟩, rfl⟩
    have h3 : ss[i].data.toList.length ≤ reachBytes := hz _ (by
      rw [hxd]
      simp only [DataW.weights, ht]
      refine List.mem_cons.2 (.inr (List.mem_append.2 (.inl (weightsAll_mem hmem _ ?_))))
      simp [DataW.weights])
    have h4 : ss[i].data.toList.length = ss[i].size := Array.length_toList
    have := reachBytes_lt
    omega
end Go.Proofs.Ytnanclgnjchpeaa
