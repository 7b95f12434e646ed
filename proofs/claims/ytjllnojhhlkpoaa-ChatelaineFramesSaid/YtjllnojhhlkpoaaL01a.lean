import Derived.Test.YtjllnojhhlkpoaaF01g
import Derived.Test.YtjllnojhhlkpoaaC12
import Derived.WalkKit
import Derived.ProofKit
import Derived.LoopTactic
import Derived.Outline
import Derived.WalkSpells
import Derived.WalkLawsBesides
import Derived.Lib.Hide
import Derived.Deep.LoopGhost
import Derived.Deep.QuietTactic
import Derived.BigQuiet
import Derived.ShutString
import Derived.OpenShut
namespace Go.Proofs.Ytjllnojhhlkpoaa
open Go.ChangeShapes Go.WideShapes Go.ChangeAt Go.RowKit
open Enc
set_option linter.unusedVariables false
theorem eB {a b : ByteArray} (h : bytesOf a = bytesOf b) : a = b := ByteArray.ext (Array.toList_inj.1 h)
theorem exB (s : ByteArray) (a b : Nat) : bytesOf (s.extract a b) = ((bytesOf s).drop a).take (b - a) := Lib.extract_data s a b
theorem lenB (s : ByteArray) : (bytesOf s).length = s.size := by simp [bytesOf]
theorem wide_num8 (l : List UInt8) : wide (num8 l) l.length = l := by
  generalize hn : l.length = n
  -- the number's k lowest bytes are the list's last k
  have key : ∀ (pre post : List UInt8), wide (num8 (pre ++ post)) post.length = post := by
    intro pre post
    induction post generalizing pre with
    | nil => rfl
    | cons b t ih =>
      have h := ih (pre ++ [b])
      rw [List.append_assoc] at h
      simp only [List.singleton_append] at h
      rw [List.length_cons, wide, h]
      congr 1
      have hsplit : ∀ (x : Nat) (u : List UInt8), u.foldl (fun n b => 256 * n + b.toNat) x = x * 256 ^ u.length + num8 u := by
        intro x u
        induction u generalizing x with
        | nil => simp [num8]
        | cons c v ihv =>
          rw [List.foldl_cons, ihv]
          have := ihv c.toNat
          simp only [num8, List.foldl_cons, Nat.mul_zero, Nat.zero_add] at *
          rw [this, List.length_cons, Nat.pow_succ]
          rw [Nat.add_mul, Nat.mul_comm 256 x, Nat.mul_assoc, Nat.mul_comm 256]
          omega
      have e1 : num8 (pre ++ b :: t) = (256 * num8 pre + b.toNat) * 256 ^ t.length + num8 t := by
        unfold num8
        rw [List.foldl_append, List.foldl_cons, hsplit]
        rfl
      have h2 := num8_lt t
      have h3 : num8 (pre ++ b :: t) / 256 ^ t.length = 256 * num8 pre + b.toNat := by
        rw [e1, Nat.add_comm, Nat.mul_comm, Nat.add_mul_div_left _ _ (Nat.pow_pos (by decide)), Nat.div_eq_of_lt h2, Nat.zero_add]
      rw [h3]
      have h4 : (256 * num8 pre + b.toNat) % 256 = b.toNat := by have := b.toNat_lt; omega
      rw [h4]
      exact b8_byte b
  have := key [] l
  rw [hn] at this
  exact this
theorem hd_list (r : ByteArray) (h : 1 ≤ r.size) : bytesOf r = b8 (hd r) :: bytesOf (r.extract 1 r.size) := by
  have h0 : 0 < r.size := h
  have e : b8 (hd r) = r[0] := by unfold hd; rw [dif_pos h0]; exact b8_byte _
  rw [e, exB]
  have hl : 0 < (bytesOf r).length := by rw [lenB]; omega
  have h1 := List.drop_eq_getElem_cons hl
  rw [List.drop_zero] at h1
  rw [List.take_of_length_le (by rw [List.length_drop, lenB]; omega)]
  exact h1
theorem uS_ok (r r' : ByteArray) (v : Nat) (h : uS r 0 = (r', 0, v)) : bytesOf r = encU v ++ bytesOf r' ∧ r'.size < r.size := by
  unfold uS at h
  rw [if_neg (by omega)] at h
  by_cases hz : r.size < 1
  · rw [if_pos hz] at h; simp at h
  rw [if_neg hz] at h
  have hb := hd_list r (by omega)
  have hsz : (r.extract 1 r.size).size = r.size - 1 := by simp
  generalize r.extract 1 r.size = r1 at *
  unfold uR at h
  by_cases h1 : more (hd r) = 0
  · rw [if_pos h1] at h
    by_cases h2 : first (hd r) = hd r
    · rw [if_pos h2] at h
      simp only [Prod.mk.injEq, true_and] at h
      obtain ⟨rfl, rfl⟩ := h
      refine ⟨?_, by omega⟩
      rw [hb, encU, h2, h1]; rfl
    · rw [if_neg h2] at h; simp at h
  · rw [if_neg h1] at h
    by_cases h2 : r1.size < more (hd r)
    · rw [if_pos h2] at h; simp at h
    · rw [if_neg h2] at h
      by_cases h3 : first (num8 (bytesOf (r1.extract 0 (more (hd r))))) = hd r
      · rw [if_pos h3] at h
        simp only [Prod.mk.injEq, true_and] at h
        obtain ⟨rfl, rfl⟩ := h
        refine ⟨?_, by simp; omega⟩
        have hl : (bytesOf (r1.extract 0 (more (hd r)))).length = more (hd r) := by rw [lenB]; simp; omega
        have hw := wide_num8 (bytesOf (r1.extract 0 (more (hd r))))
        rw [hl] at hw
        rw [hb, encU, h3, hw, List.cons_append, exB, exB]
        congr 1
        rw [List.drop_zero, Nat.sub_zero, List.take_of_length_le (l := List.drop _ _) (by rw [List.length_drop, lenB]; omega), List.take_append_drop]
      · rw [if_neg h3] at h; simp at h
theorem uS_errs (r : ByteArray) : (uS r 0).2.1 = 0 ∨ (uS r 0).2.1 = 3 ∨ (uS r 0).2.1 = 4 := by
  unfold uS
  rw [if_neg (by omega)]
  by_cases hz : r.size < 1
  · rw [if_pos hz]; exact .inr (.inl rfl)
  rw [if_neg hz]
  unfold uR
  by_cases h1 : more (hd r) = 0
  · rw [if_pos h1]
    by_cases h2 : first (hd r) = hd r
    · rw [if_pos h2]; exact .inl rfl
    · rw [if_neg h2]; exact .inr (.inr rfl)
  · rw [if_neg h1]
    by_cases h2 : (r.extract 1 r.size).size < more (hd r)
    · rw [if_pos h2]; exact .inr (.inl rfl)
    · rw [if_neg h2]
      by_cases h3 : first (num8 (bytesOf ((r.extract 1 r.size).extract 0 (more (hd r))))) = hd r
      · rw [if_pos h3]; exact .inl rfl
      · rw [if_neg h3]; exact .inr (.inr rfl)
end Go.Proofs.Ytjllnojhhlkpoaa
