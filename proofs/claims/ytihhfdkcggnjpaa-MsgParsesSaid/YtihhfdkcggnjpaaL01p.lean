import Derived.Test.YtihhfdkcggnjpaaK2
import Derived.WalkKit
import Derived.ProofKit
import Derived.LoopTactic
import Derived.Outline
import Derived.WalkSpells
import Derived.WalkLawsBesides
import Derived.Lib.Hide
import Derived.Deep.LoopGhost
import Derived.Deep.QuietTactic
import Derived.BigQuiet
import Derived.ShutString
namespace Go.Proofs.Ytihhfdkcggnjpaa
open Go.ChangeShapes Go.WideShapes Go.ChangeAt Go.RowKit
open Enc
set_option linter.unusedVariables false
/- What is read was written so. -/
theorem cut_join (p : ByteArray) (n : Nat) : p.extract 0 n ++ p.extract n p.size = p := by
  apply eB
  rw [bytesOf_app, exB, exB, List.drop_zero, Nat.sub_zero, List.take_of_length_le (l := (bytesOf p).drop n) (by rw [List.length_drop, lenB]; omega), List.take_append_drop]
theorem glue (a b c : ByteArray) : a ++ b ++ c = a ++ (b ++ c) := by apply eB; simp only [bytesOf_app, List.append_assoc]
theorem one_byte {S : ByteArray} {m : Nat} (hS1 : S.size = 1) (hm : ∀ h : 0 < S.size, S[0].toNat = m) : bytesOf S = [b8 m] := by
  have hl : (bytesOf S).length = 1 := by simp [bytesOf]; exact hS1
  match hb : bytesOf S, hl with
  | [x], _ =>
    have h0 := hm (by omega)
    have : x = S[0]'(by omega) := by
      have h1 : (bytesOf S)[0]? = some x := by rw [hb]; rfl
      unfold bytesOf at h1
      rw [List.getElem?_eq_getElem (by simp; omega)] at h1
      simp at h1
      exact h1.symm
    rw [this, ← h0, b8_byte]
theorem uS_form {p r : ByteArray} {v : Nat} (h : uS p 0 = (r, 0, v)) : p = ofL (encU v) ++ r := by
  unfold uS at h
  rw [if_neg (by omega)] at h
  split at h
  · simp at h
  · rename_i hz
    have hz1 : 1 ≤ p.size := by omega
    obtain ⟨f1, f2⟩ := first_of p hz1
    unfold uR at h
    split at h
    · rename_i m0
      split at h
      · rename_i fm
        simp only [Prod.mk.injEq, true_and] at h
        obtain ⟨h1, h2⟩ := h
        have e : ofL (encU v) = p.extract 0 1 := by
          apply eB
          rw [bytesOf_ofL, one_byte f1 f2, encU, ← h2, fm, m0]
          rfl
        rw [e, ← h1, cut_join]
      · simp at h
    · rename_i m0
      split at h
      · simp at h
      · rename_i hz2
        split at h
        · rename_i fm
          simp only [Prod.mk.injEq, true_and] at h
          obtain ⟨h1, h2⟩ := h
          have e := (form_iff (v := v) f1 f2 m0 (T := (p.extract 1 p.size).extract 0 (more (hd p))) (by simp at hz2 ⊢; omega) h2).2 (by rw [← h2]; exact fm)
          rw [e, ← h1, glue, cut_join, cut_join]
        · simp at h
theorem sS_form {p r S : ByteArray} {e : Nat} {most : Int} (h : sS p e most = (r, 0, S)) : e = 0 ∧ p = ofL (encS (bytesOf S)) ++ r := by
  obtain ⟨a, b, c, hu⟩ : ∃ a b c, uS p e = (a, b, c) := ⟨_, _, _, rfl⟩
  unfold sS nS at h
  rw [hu] at h
  simp only at h
  split at h
  · unfold takeS at h
    rw [if_pos (by simp)] at h
    simp at h
  · unfold takeS at h
    simp only at h
    split at h
    · rename_i hb
      simp only [Prod.mk.injEq] at h
      exact absurd h.2.1 hb
    · rename_i hb
      split at h
      · simp at h
      · rename_i hz
        have hb' : b = 0 := by omega
        subst hb'
        have he : e = 0 := by
          by_cases h9 : e = 0
          · exact h9
          · unfold uS at hu
            rw [if_pos h9] at hu
            simp only [Prod.mk.injEq] at hu
            exact absurd hu.2.1 h9
        subst he
        simp only [Prod.mk.injEq, true_and] at h
        obtain ⟨h1, h2⟩ := h
        have hS : S.size = c := by rw [← h2]; simp; omega
        refine ⟨rfl, ?_⟩
        rw [uS_form hu]
        have e2 : ofL (encS (bytesOf S)) = ofL (encU c) ++ S := by
          apply eB
          rw [bytesOf_ofL, bytesOf_app, bytesOf_ofL, encS, lenB, hS]
        rw [e2, glue, ← h1, ← h2, cut_join]
theorem done_zero {r : ByteArray} {e : Nat} (h : doneE r e = 0) : r.size = 0 ∧ e = 0 := by
  unfold doneE failE at h
  split at h
  · split at h
    · exact absurd h (by decide)
    · rename_i h9; exact absurd h h9
  · exact ⟨by omega, h⟩
end Go.Proofs.Ytihhfdkcggnjpaa
