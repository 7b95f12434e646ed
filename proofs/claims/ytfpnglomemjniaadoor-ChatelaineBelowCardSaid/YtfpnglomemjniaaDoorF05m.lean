import Derived.Test.YtfpnglomemjniaaDoorF05j
import Derived.Test.YtfpnglomemjniaaDoorF05e
import Derived.WalkKit
import Derived.ProofKit
import Derived.LoopTactic
import Derived.Outline
import Derived.WalkSpells
import Derived.WalkLawsBesides
import Derived.Lib.Hide
import Derived.Deep.LoopGhost
import Derived.Deep.QuietTactic
import Derived.BigQuiet
import Derived.ShutString
import Derived.Lib.MinMax
namespace Go.Proofs.YtfpnglomemjniaaDoor
open Go.ChangeShapes Go.WideShapes Go.ChangeAt Go.RowKit
set_option linter.unusedVariables false
set_option linter.unusedSimpArgs false
/-- Parts, as a slice that is the call's own. -/
def PartsOwn (l : List ByteArray) (w : World) (e : Ending) (w' : World) : Prop := ∃ a c, e = .returned (.slice a l.length c) ∧ w'.ownsRow w.heap.size 9 1 (.slice a l.length c) l.length (strCells l) ∧ Gr w w'
theorem parts2_any (l : List ByteArray) (w : World) (h : okParts l = true) (hm : ML w) :
    Calls Tryd.prog 18 #[.agg #[.string (ptext l)]] w (PartsOwn l w) := by
  have ht := ptext_test l
  have hsz : (ptext l).size ≤ 102 := by
    have h2 := h
    simp only [okParts, Bool.and_eq_true, decide_eq_true_eq] at h2
    have := ptext_size h2.2; omega
  cases l with
  | nil =>
    have E2 := Lib.hid (show ptext [] = ⟨#[]⟩ from rfl)
    rw [E2.out]
    clear ht hm hsz
    go_enter Tryd.func18, Tryd.ntmps18
    go_wp2
    go_ret
    exact ⟨none, 0, rfl, World.ownsRow_nil _ _ _ _, (Gr.refl _).alloc _⟩
  | cons s l =>
    have h1 : 1 ≤ (ptext (s :: l)).size := by rw [← bytes_size, ptext_bytes]; simp [flat]
    have hx : bytesOf ((ptext (s :: l)).extract 1 (ptext (s :: l)).size) = bytesOf s ++ flat l := by
      have e := Lib.extract_data (ptext (s :: l)) 1 (ptext (s :: l)).size
      have e2 : (ptext (s :: l)).data.toList = flat (s :: l) := ptext_bytes _
      rw [e2] at e
      show ((ptext (s :: l)).extract 1 (ptext (s :: l)).size).data.toList = _
      rw [e]
      have : (ptext (s :: l)).size = (bytesOf s ++ flat l).length + 1 := by rw [← bytes_size, ptext_bytes]; simp [flat]
      rw [this]
      simp only [flat, List.drop_succ_cons, List.drop_zero, Nat.add_sub_cancel]
      rw [List.take_of_length_le (Nat.le_refl _)]
    obtain ⟨k1, k2⟩ := split_back h _ hx
    obtain ⟨z1, z2⟩ := okParts_strs h
    simp only [reduceCtorEq, decide_false] at ht
    generalize ptext (s :: l) = t at *
    have hxs : (t.extract 1 t.size).size ≤ 102 := by simp; omega
    generalize hy : t.extract 1 t.size = y at *
    have es : slash = ⟨#[47]⟩ := rfl
    rw [es] at k1 k2
    have K1 := Lib.hid k1
    have K2 := Lib.hid k2
    have Z1 := Lib.hid z1
    clear k1 k2 z1 h hx
    obtain ⟨m, hm⟩ := hm.gr ((Gr.refl w).alloc (.cells #[.string t] 24))
    have hm' := Lib.hid hm; clear hm
    go_enter Tryd.func18, Tryd.ntmps18
    go_wp2_with fail
    refine (Tryd.strings_Split y _ m _ (by omega) hm'.out (by decide)).mono ?_
    rintro e w2 ⟨rfl, rfl⟩
    rw [K1.out, K2.out]
    go_wp2
    go_ret
    refine ⟨_, _, rfl, ?_, ((Gr.refl _).alloc _).alloc _⟩
    have hb : w.heap.size ≤ (w.alloc (.cells #[.string t] 24)).heap.size := by simp
    have := World.ownsRow_lit (e := 9) (size := 1) (base := w.heap.size) (w.alloc (.cells #[.string t] 24)) (strCells (s :: l)).toArray (s :: l).length hb (by unfold maxLen; omega) (by simp [strCells])
    simpa [strCells] using this
end Go.Proofs.YtfpnglomemjniaaDoor
