import Derived.Test.YtjllnojhhlkpoaaF02h
import Derived.Test.YtjllnojhhlkpoaaL02b
import Derived.WalkKit
import Derived.ProofKit
import Derived.LoopTactic
import Derived.Outline
import Derived.WalkSpells
import Derived.WalkLawsBesides
import Derived.Lib.Hide
import Derived.Deep.LoopGhost
import Derived.Deep.QuietTactic
import Derived.BigQuiet
import Derived.ShutString
namespace Go.Proofs.Ytjllnojhhlkpoaa
open Go.ChangeShapes Go.WideShapes Go.ChangeAt Go.RowKit
open Crc
set_option linter.unusedVariables false
/-- Frames, one behind the other. -/
def framesOf : List (Nat × ByteArray) → ByteArray
  | [] => ⟨#[]⟩
  | p :: r => rframe p.1 p.2 ++ framesOf r
/-- Those that are whole where all is cut off behind c bytes, and how long they are. -/
def torn : List (Nat × ByteArray) → Nat → List (Nat × ByteArray) × Nat
  | [], _ => ([], 0)
  | p :: r, c => if p.2.size + 8 ≤ c then (p :: (torn r (c - (p.2.size + 8))).1, p.2.size + 8 + (torn r (c - (p.2.size + 8))).2) else ([], 0)
def Valid (l : List (Nat × ByteArray)) : Prop := ∀ p ∈ l, 1 ≤ p.1 ∧ p.1 < 256 ∧ p.2.size ≤ 1048576
theorem empty_append (a : ByteArray) : (⟨#[]⟩ : ByteArray) ++ a = a := by apply ba_ext; rw [bytesOf_append]; rfl
theorem append_empty (a : ByteArray) : a ++ (⟨#[]⟩ : ByteArray) = a := by apply ba_ext; rw [bytesOf_append]; simp [bytesOf]
theorem append_assoc (a b c : ByteArray) : a ++ b ++ c = a ++ (b ++ c) := by apply ba_ext; simp only [bytesOf_append, List.append_assoc]
theorem framesOf_append (l m : List (Nat × ByteArray)) : framesOf (l ++ m) = framesOf l ++ framesOf m := by
  induction l with
  | nil => rw [List.nil_append]; exact (empty_append _).symm
  | cons p t ih => rw [List.cons_append, framesOf, framesOf, ih, append_assoc]
theorem framesOf_snoc (l : List (Nat × ByteArray)) (p : Nat × ByteArray) : framesOf (l ++ [p]) = framesOf l ++ rframe p.1 p.2 := by
  rw [framesOf_append]; congr 1; exact append_empty _
/-- A frame that is cut off opens to no content. -/
theorem open_torn (k : Nat) (t m : ByteArray) (c : Nat) (hk : k < 256) (hk1 : 1 ≤ k) (ht : t.size ≤ 1048576) (hc : c < t.size + 8) : (openB ((rframe k t ++ m).extract 0 c)).2.2 ≠ 0 := by
  have hz : (rframe k t ++ m).size = t.size + 8 + m.size := by rw [ByteArray.size_append, rframe_size]
  have hs : ((rframe k t ++ m).extract 0 c).size = c := by simp only [ByteArray.size_extract, hz]; omega
  rcases Nat.lt_or_ge c 4 with h1 | h1
  · have : openB ((rframe k t ++ m).extract 0 c) = (0, ⟨#[]⟩, 3) := by unfold openB; rw [hs, if_pos h1]
    rw [this]; simp
  have hb := frame_bytes k t m
  have hl : bytesOf ((rframe k t ++ m).extract 0 c) = (bytesOf (rframe k t ++ m)).take c := by rw [bytesOf_extract]; simp
  obtain ⟨d, rfl⟩ : ∃ d, c = d + 4 := ⟨c - 4, by omega⟩
  rw [hb] at hl
  have b0 : bt ((rframe k t ++ m).extract 0 (d + 4)) 0 = k := by rw [bt_list, hl]; simp only [List.take_succ_cons, List.getD_cons_zero]; exact b8_nat k hk
  have b1 : bt ((rframe k t ++ m).extract 0 (d + 4)) 1 = t.size / 65536 % 256 := by rw [bt_list, hl]; simp only [List.take_succ_cons, List.getD_cons_succ, List.getD_cons_zero]; exact b8_nat _ (by omega)
  have b2 : bt ((rframe k t ++ m).extract 0 (d + 4)) 2 = t.size / 256 % 256 := by rw [bt_list, hl]; simp only [List.take_succ_cons, List.getD_cons_succ, List.getD_cons_zero]; exact b8_nat _ (by omega)
  have b3 : bt ((rframe k t ++ m).extract 0 (d + 4)) 3 = t.size % 256 := by rw [bt_list, hl]; simp only [List.take_succ_cons, List.getD_cons_succ, List.getD_cons_zero]; exact b8_nat _ (by omega)
  have hn : n3 ((rframe k t ++ m).extract 0 (d + 4)) = t.size := by unfold n3; rw [b1, b2, b3]; omega
  have : openB ((rframe k t ++ m).extract 0 (d + 4)) = (0, ⟨#[]⟩, 3) := by
    unfold openB
    rw [if_neg (by omega), b0, if_neg (by omega), hn, if_neg (by omega), if_pos (by omega)]
  rw [this]; simp
theorem extract_right (a b : ByteArray) : (a ++ b).extract a.size (a ++ b).size = b := by
  apply ba_ext
  rw [bytesOf_extract, bytesOf_append, ← bytesOf_length a, List.drop_left]
  apply List.take_of_length_le
  rw [bytesOf_length, bytesOf_length, ByteArray.size_append]; omega
theorem extract_over (a b : ByteArray) (c : Nat) (h : a.size ≤ c) : (a ++ b).extract 0 c = a ++ b.extract 0 (c - a.size) := by
  apply ba_ext
  rw [bytesOf_extract, bytesOf_append, bytesOf_append, bytesOf_extract]
  simp only [List.drop_zero, Nat.sub_zero]
  rw [List.take_append, bytesOf_length]
  congr 1
  exact List.take_of_length_le (by rw [bytesOf_length]; exact h)
theorem scan_torn (l : List (Nat × ByteArray)) : ∀ (c f : Nat) (pre : ByteArray), Valid l → c ≤ (framesOf l).size → c < f →
    scanB (pre ++ (framesOf l).extract 0 c) f pre.size = ((torn l c).1, pre.size + (torn l c).2) := by
  induction l with
  | nil =>
    intro c f pre hv hc hf
    have h0 : (framesOf []).size = 0 := rfl
    obtain rfl : c = 0 := by omega
    rw [scanB_stop]
    · rfl
    · rw [extract_right]
      have : (framesOf []).extract 0 0 = ⟨#[]⟩ := by apply ba_ext; rw [bytesOf_extract]; rfl
      rw [this]
      decide
  | cons p r ih =>
    intro c f pre hv hc hf
    obtain ⟨k, t⟩ := p
    obtain ⟨hk1, hk, ht⟩ := hv (k, t) (by simp)
    simp only at hk1 hk ht
    obtain ⟨g, rfl⟩ : ∃ g, f = g + 1 := ⟨f - 1, by omega⟩
    by_cases h : t.size + 8 ≤ c
    · have e : (framesOf ((k, t) :: r)).extract 0 c = rframe k t ++ (framesOf r).extract 0 (c - (t.size + 8)) := by
        rw [framesOf, extract_over _ _ _ (by rw [rframe_size]; exact h), rframe_size]
      have ho : openB ((pre ++ (framesOf ((k, t) :: r)).extract 0 c).extract pre.size (pre ++ (framesOf ((k, t) :: r)).extract 0 c).size) = (k, t, 0) := by
        rw [extract_right, e]; exact open_frame k t _ hk hk1 ht
      have hz : (pre ++ rframe k t).size = pre.size + t.size + 8 := by rw [ByteArray.size_append, rframe_size]; omega
      have hI := ih (c - (t.size + 8)) g (pre ++ rframe k t) (fun q hq => hv q (by simp [hq])) (by
        have : (framesOf ((k, t) :: r)).size = t.size + 8 + (framesOf r).size := by rw [framesOf, ByteArray.size_append, rframe_size]
        omega) (by omega)
      rw [hz] at hI
      rw [scanB, ho]
      simp only [if_true]
      rw [e, ← append_assoc, hI, torn, if_pos h]
      simp only [Prod.mk.injEq, true_and]
      omega
    · rw [scanB_stop]
      · rw [torn, if_neg h]
        simp
      · rw [extract_right, framesOf]
        exact open_torn k t _ c hk hk1 ht (by omega)
theorem scan_frames (l : List (Nat × ByteArray)) (c : Nat) (hv : Valid l) (hc : c ≤ (framesOf l).size) :
    scanB ((framesOf l).extract 0 c) (((framesOf l).extract 0 c).size + 1) 0 = torn l c := by
  have hz : ((framesOf l).extract 0 c).size = c := by simp; omega
  have := scan_torn l c (c + 1) ⟨#[]⟩ hv hc (by omega)
  rw [empty_append] at this
  rw [hz]
  have h0 : (⟨#[]⟩ : ByteArray).size = 0 := rfl
  rw [h0] at this
  rw [this]; simp
end Go.Proofs.Ytjllnojhhlkpoaa
