import Derived.Test.YtmgpnpmdmelnkaaGreatDoorF05d
import Derived.WalkKit
import Derived.ProofKit
import Derived.LoopTactic
import Derived.Outline
import Derived.WalkSpells
import Derived.WalkLawsBesides
import Derived.Lib.Hide
import Derived.Deep.LoopGhost
import Derived.Deep.QuietTactic
import Derived.BigQuiet
import Derived.ShutString
import Derived.Lib.MinMax
namespace Go.Proofs.YtmgpnpmdmelnkaaGreatDoor
open Go.ChangeShapes Go.WideShapes Go.ChangeAt Go.RowKit
set_option linter.unusedVariables false
set_option linter.unusedSimpArgs false
theorem ptext_test (l : List ByteArray) : ((ptext l).toList.isEmpty) = decide (l = []) := by
  rw [ByteArray.toList_eq]
  show (bytesOf (ptext l)).isEmpty = _
  rw [ptext_bytes]
  cases l with
  | nil => rfl
  | cons s l => simp [flat]
/-- Parts, as a slice. -/
def PartsIs (l : List ByteArray) (w : World) (e : Ending) (w' : World) : Prop := ∃ a c, e = .returned (.slice a l.length c) ∧ Strs w' a l ∧ Gr w w'
theorem okParts_strs {l : List ByteArray} (h : okParts l = true) : (∀ s ∈ l, s.size ≤ 9223372036854775807) ∧ l.length ≤ 9223372036854775807 := by
  simp only [okParts, Bool.and_eq_true, List.all_eq_true, decide_eq_true_eq] at h
  exact ⟨fun s hs => by have := (okPart_size (h.2 s hs)).2.1; omega, by omega⟩
theorem parts_any (l : List ByteArray) (w : World) (h : okParts l = true) (hm : ML w) :
    Calls Tryz.prog 50 #[.agg #[.string (ptext l)]] w (PartsIs l w) := by
  have ht := ptext_test l
  have hsz : (ptext l).size ≤ 102 := by
    have h2 := h
    simp only [okParts, Bool.and_eq_true, decide_eq_true_eq] at h2
    have := ptext_size h2.2; omega
  cases l with
  | nil =>
    have E2 := Lib.hid (show ptext [] = ⟨#[]⟩ from rfl)
    rw [E2.out]
    clear ht hm hsz
    go_enter Tryz.func50, Tryz.ntmps50
    go_wp2
    go_ret
    exact ⟨none, 0, rfl, ⟨(by simp), by simp, .inl rfl⟩, (Gr.refl _).alloc _⟩
  | cons s l =>
    have h1 : 1 ≤ (ptext (s :: l)).size := by rw [← bytes_size, ptext_bytes]; simp [flat]
    have hx : bytesOf ((ptext (s :: l)).extract 1 (ptext (s :: l)).size) = bytesOf s ++ flat l := by
      have e := Lib.extract_data (ptext (s :: l)) 1 (ptext (s :: l)).size
      have e2 : (ptext (s :: l)).data.toList = flat (s :: l) := ptext_bytes _
      rw [e2] at e
      show ((ptext (s :: l)).extract 1 (ptext (s :: l)).size).data.toList = _
      rw [e]
      have : (ptext (s :: l)).size = (bytesOf s ++ flat l).length + 1 := by rw [← bytes_size, ptext_bytes]; simp [flat]
      rw [this]
      simp only [flat, List.drop_succ_cons, List.drop_zero, Nat.add_sub_cancel]
      rw [List.take_of_length_le (Nat.le_refl _)]
    obtain ⟨k1, k2⟩ := split_back h _ hx
    obtain ⟨z1, z2⟩ := okParts_strs h
    simp only [reduceCtorEq, decide_false] at ht
    generalize ptext (s :: l) = t at *
    have hxs : (t.extract 1 t.size).size ≤ 102 := by simp; omega
    generalize hy : t.extract 1 t.size = y at *
    have es : slash = ⟨#[47]⟩ := rfl
    rw [es] at k1 k2
    have K1 := Lib.hid k1
    have K2 := Lib.hid k2
    have Z1 := Lib.hid z1
    clear k1 k2 z1 h hx
    obtain ⟨m, hm⟩ := hm.gr ((Gr.refl w).alloc (.cells #[.string t] 40))
    have hm' := Lib.hid hm; clear hm
    go_enter Tryz.func50, Tryz.ntmps50
    go_wp2_with fail
    refine (Tryz.strings_Split y _ m _ (by omega) hm'.out (by decide)).mono ?_
    rintro e w2 ⟨rfl, rfl⟩
    rw [K1.out, K2.out]
    go_wp2
    go_ret
    refine ⟨_, _, rfl, ?_, ((Gr.refl _).alloc _).alloc _⟩
    have := strs_alloc (w := w.alloc (.cells #[.string t] 40)) (l := s :: l) (n := (s :: l).length) (b := w.heap.size + 1) (t := 9) (by simp) Z1.out z2
    simpa [Lib.cellsOf] using this
end Go.Proofs.YtmgpnpmdmelnkaaGreatDoor
