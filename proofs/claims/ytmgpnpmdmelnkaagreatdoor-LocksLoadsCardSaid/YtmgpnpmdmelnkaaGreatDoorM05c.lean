import Derived.Test.YtmgpnpmdmelnkaaGreatDoorM05
import Derived.WalkKit
import Derived.ProofKit
import Derived.LoopTactic
import Derived.Outline
import Derived.WalkSpells
import Derived.WalkLawsBesides
import Derived.Lib.Hide
import Derived.Deep.LoopGhost
import Derived.Deep.QuietTactic
import Derived.BigQuiet
import Derived.ShutString
namespace Go.Proofs.YtmgpnpmdmelnkaaGreatDoor
open Go.ChangeShapes Go.WideShapes Go.ChangeAt Go.RowKit
set_option linter.unusedVariables false
set_option linter.unusedSimpArgs false
theorem u8_tri (a b : UInt8) : a < b ∨ a = b ∨ b < a := by
  simp only [UInt8.lt_iff_toNat_lt, ← UInt8.toNat_inj]; omega
theorem u8_irr (a : UInt8) : ¬ a < a := by simp only [UInt8.lt_iff_toNat_lt]; omega
theorem u8_asymm {a b : UInt8} (h : a < b) : ¬ b < a := by simp only [UInt8.lt_iff_toNat_lt] at *; omega
theorem u8_trans {a b c : UInt8} (h : a < b) (k : b < c) : a < c := by simp only [UInt8.lt_iff_toNat_lt] at *; omega
/-- Which list of bytes comes first. -/
def cmpL : List UInt8 → List UInt8 → Int
  | [], [] => 0
  | [], _ :: _ => -1
  | _ :: _, [] => 1
  | a :: x, b :: y => if a < b then -1 else if b < a then 1 else cmpL x y
theorem cmpL_less (x y : List UInt8) : Op.bytesLess x y = true ↔ cmpL x y = -1 := by
  induction x generalizing y with
  | nil => cases y <;> simp [Op.bytesLess, cmpL]
  | cons a x ih =>
    cases y with
    | nil => simp [Op.bytesLess, cmpL]
    | cons b y =>
      unfold cmpL
      rcases u8_tri a b with h | rfl | h
      · simp [Op.bytesLess, h]
      · simp [Op.bytesLess, u8_irr, ih]
      · have h2 := u8_asymm h
        have h3 : (a == b) = false := by simp; rintro rfl; exact u8_irr _ h
        simp [Op.bytesLess, h, h2, h3]
theorem cmpL_anti (x y : List UInt8) : cmpL x y = -cmpL y x := by
  induction x generalizing y with
  | nil => cases y <;> simp [cmpL]
  | cons a x ih =>
    cases y with
    | nil => simp [cmpL]
    | cons b y =>
      unfold cmpL
      rcases u8_tri a b with h | rfl | h
      · simp [h, u8_asymm h]
      · simp only [u8_irr, if_false]; exact ih y
      · simp [h, u8_asymm h]
theorem cmpL_zero (x y : List UInt8) : cmpL x y = 0 ↔ x = y := by
  induction x generalizing y with
  | nil => cases y <;> simp [cmpL]
  | cons a x ih =>
    cases y with
    | nil => simp [cmpL]
    | cons b y =>
      unfold cmpL
      rcases u8_tri a b with h | rfl | h
      · simp only [h, if_true]; constructor
        · intro e; cases e
        · intro e; injection e with e1; subst e1; exact absurd h (u8_irr _)
      · simp [u8_irr, ih]
      · simp only [h, if_true, u8_asymm h, if_false]; constructor
        · intro e; cases e
        · intro e; injection e with e1; subst e1; exact absurd h (u8_irr _)
theorem cmpL_range (x y : List UInt8) : cmpL x y = -1 ∨ cmpL x y = 0 ∨ cmpL x y = 1 := by
  induction x generalizing y with
  | nil => cases y <;> simp [cmpL]
  | cons a x ih =>
    cases y with
    | nil => simp [cmpL]
    | cons b y =>
      unfold cmpL
      split
      · exact .inl rfl
      · split
        · exact .inr (.inr rfl)
        · exact ih y
theorem cmpL_trans {x y z : List UInt8} (h : cmpL x y = -1) (k : cmpL y z = -1) : cmpL x z = -1 := by
  induction x generalizing y z with
  | nil =>
    cases y with
    | nil => simp [cmpL] at h
    | cons b y => cases z with
      | nil => simp [cmpL] at k
      | cons c z => rfl
  | cons a x ih =>
    cases y with
    | nil => simp [cmpL] at h
    | cons b y => cases z with
      | nil => simp [cmpL] at k
      | cons c z =>
        unfold cmpL at h k ⊢
        rcases u8_tri a b with h1 | rfl | h1
        · rcases u8_tri b c with h2 | rfl | h2
          · simp [u8_trans h1 h2]
          · simp [h1]
          · simp [h2, u8_asymm h2] at k
        · rcases u8_tri a c with h2 | rfl | h2
          · simp [h2]
          · simp only [u8_irr, if_false] at h k ⊢; exact ih h k
          · simp [h2, u8_asymm h2] at k
        · simp [h1, u8_asymm h1] at h
def cmpB (s t : ByteArray) : Int := cmpL (bytesOf s) (bytesOf t)
theorem cmpB_less (s t : ByteArray) : Op.bytesLess s.toList t.toList = decide (cmpB s t = -1) := by
  have := cmpL_less (bytesOf s) (bytesOf t)
  have e : ∀ s : ByteArray, s.toList = bytesOf s := fun s => ByteArray.toList_eq s
  rw [e, e]
  cases h : Op.bytesLess (bytesOf s) (bytesOf t) with
  | true => simp [cmpB, this.1 h]
  | false =>
    have : ¬ cmpL (bytesOf s) (bytesOf t) = -1 := fun c => by rw [this.2 c] at h; cases h
    simp [cmpB, this]
theorem cmpB_eq (s t : ByteArray) : (s.toList == t.toList) = decide (cmpB s t = 0) := by
  have e : ∀ s : ByteArray, s.toList = bytesOf s := fun s => ByteArray.toList_eq s
  rw [e, e, Bool.eq_iff_iff]
  simp [cmpB, cmpL_zero]
theorem cmpB_zero (s t : ByteArray) : cmpB s t = 0 ↔ s = t := by
  unfold cmpB; rw [cmpL_zero]; exact ⟨bytes_inj, fun h => by rw [h]⟩
theorem cmpB_range (s t : ByteArray) : cmpB s t = -1 ∨ cmpB s t = 0 ∨ cmpB s t = 1 := cmpL_range _ _
/-- Which parts come first. -/
def cmpP : List ByteArray → List ByteArray → Int
  | [], [] => 0
  | [], _ :: _ => -1
  | _ :: _, [] => 1
  | a :: x, b :: y => if cmpB a b = 0 then cmpP x y else cmpB a b
theorem cmpB_anti (s t : ByteArray) : cmpB s t = -cmpB t s := cmpL_anti _ _
theorem cmpP_anti (x y : List ByteArray) : cmpP x y = -cmpP y x := by
  induction x generalizing y with
  | nil => cases y <;> simp [cmpP]
  | cons a x ih =>
    cases y with
    | nil => simp [cmpP]
    | cons b y =>
      unfold cmpP
      have := cmpB_anti a b
      by_cases h : cmpB a b = 0
      · have h2 : cmpB b a = 0 := by omega
        simp only [h, h2, if_true]; exact ih y
      · have h2 : ¬ cmpB b a = 0 := by omega
        simp only [h, h2, if_false]; exact this
theorem cmpP_trans {x y z : List ByteArray} (h : cmpP x y ≤ 0) (k : cmpP y z ≤ 0) : cmpP x z ≤ 0 := by
  induction x generalizing y z with
  | nil => cases z <;> simp [cmpP]
  | cons a x ih =>
    cases y with
    | nil => simp [cmpP] at h
    | cons b y => cases z with
      | nil => simp [cmpP] at k
      | cons c z =>
        unfold cmpP at h k ⊢
        by_cases h1 : cmpB a b = 0
        · obtain rfl := (cmpB_zero a b).1 h1
          simp only [h1, if_true] at h
          by_cases h2 : cmpB a c = 0
          · simp only [h2, if_true] at k ⊢; exact ih h k
          · simp only [h2, if_false] at k ⊢; exact k
        · simp only [h1, if_false] at h
          have h3 : cmpB a b = -1 := by have := cmpB_range a b; omega
          by_cases h2 : cmpB b c = 0
          · obtain rfl := (cmpB_zero b c).1 h2
            simp only [h1, if_false]; exact h
          · simp only [h2, if_false] at k
            have h4 : cmpB b c = -1 := by have := cmpB_range b c; omega
            have h5 : cmpB a c = -1 := cmpL_trans h3 h4
            rw [h5]; simp
/-- What lies between a path and one below it is below it, too. -/
theorem cmpP_between {x y z : List ByteArray} (ho : x <+: z) (h : cmpP x y ≤ 0) (k : cmpP y z ≤ 0) : x <+: y := by
  induction x generalizing y z with
  | nil => exact List.nil_prefix
  | cons a x ih =>
    cases z with
    | nil => simp at ho
    | cons c z =>
      rw [List.cons_prefix_cons] at ho
      obtain ⟨rfl, ho⟩ := ho
      cases y with
      | nil => simp [cmpP] at h
      | cons b y =>
        unfold cmpP at h k
        have ha := cmpB_anti a b
        by_cases h1 : cmpB a b = 0
        · obtain rfl := (cmpB_zero a b).1 h1
          simp only [h1, if_true] at h k
          rw [List.cons_prefix_cons]; exact ⟨rfl, ih ho h k⟩
        · have h2 : ¬ cmpB b a = 0 := by omega
          simp only [h1, h2, if_false] at h k
          omega
theorem cmpP_self (x : List ByteArray) : cmpP x x = 0 := by have := cmpP_anti x x; omega
/-- A round of a comparison. -/
theorem cmpP_step {l m : List ByteArray} {k : Nat} (h1 : k < l.length) (h2 : k < m.length) :
    cmpP (l.drop k) (m.drop k) = if cmpB l[k] m[k] = 0 then cmpP (l.drop (k + 1)) (m.drop (k + 1)) else cmpB l[k] m[k] := by
  rw [List.drop_eq_getElem_cons h1, List.drop_eq_getElem_cons h2]; rfl
theorem cmpP_end {l m : List ByteArray} {k : Nat} (h : l.length ≤ k ∨ m.length ≤ k) (hl : k ≤ l.length) (hm : k ≤ m.length) :
    cmpP (l.drop k) (m.drop k) = if l.length < m.length then -1 else if m.length < l.length then 1 else 0 := by
  rcases h with h | h
  · rw [List.drop_eq_nil_of_le h]
    by_cases h3 : l.length < m.length
    · rw [if_pos h3, List.drop_eq_getElem_cons (show k < m.length by omega)]; rfl
    · rw [if_neg h3, if_neg (by omega), List.drop_eq_nil_of_le (by omega)]; rfl
  · rw [List.drop_eq_nil_of_le h]
    by_cases h3 : m.length < l.length
    · rw [if_neg (by omega), if_pos h3, List.drop_eq_getElem_cons (show k < l.length by omega)]; rfl
    · rw [if_neg (by omega), if_neg h3, List.drop_eq_nil_of_le (by omega)]; rfl
end Go.Proofs.YtmgpnpmdmelnkaaGreatDoor
