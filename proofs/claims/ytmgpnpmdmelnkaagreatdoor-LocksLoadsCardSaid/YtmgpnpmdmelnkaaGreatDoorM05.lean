import Derived.Test.YtmgpnpmdmelnkaaGreatDoorK1
import Derived.WalkKit
import Derived.ProofKit
import Derived.LoopTactic
import Derived.Outline
import Derived.WalkSpells
import Derived.WalkLawsBesides
import Derived.Lib.Hide
import Derived.Deep.LoopGhost
import Derived.Deep.QuietTactic
import Derived.BigQuiet
import Derived.ShutString
namespace Go.Proofs.YtmgpnpmdmelnkaaGreatDoor
open Go.ChangeShapes Go.WideShapes Go.ChangeAt Go.RowKit
set_option linter.unusedVariables false
set_option linter.unusedSimpArgs false
theorem ret_bool {a b : Bool} (h : a = b) : Ending.returned (.bool a) = .returned (.bool b) := by rw [h]
/-- May this byte occur in a part of a path? -/
def okN (n : Int) : Bool := decide (97 ≤ n ∧ n ≤ 122) || decide (48 ≤ n ∧ n ≤ 57) || decide (n = 45) || decide (n = 95)
def okB (b : UInt8) : Bool := okN b.toNat
def okPart (s : ByteArray) : Bool := decide (1 ≤ s.size) && decide (s.size ≤ 16) && (bytesOf s).all okB
def okParts (l : List ByteArray) : Bool := decide (l.length ≤ 6) && l.all okPart
theorem okB_slash {b : UInt8} (h : okB b = true) : b ≠ 47 := by rintro rfl; revert h; decide
theorem allTake (s : ByteArray) (k : Nat) (h : k < s.size) : ((bytesOf s).take (k + 1)).all okB = (((bytesOf s).take k).all okB && okB s[k]) := by
  rw [take_snoc s k h]; simp
theorem okPart_of {s : ByteArray} (h1 : 1 ≤ s.size) (h2 : s.size ≤ 16) (h : ((bytesOf s).take s.size).all okB = true) : okPart s = true := by
  rw [take_size] at h; simp [okPart, h1, h2, h]
theorem okPart_bad {s : ByteArray} {k : Nat} (h : k < s.size) (hk : okB s[k] = false) : okPart s = false := by
  have : s[k] ∈ bytesOf s := by unfold bytesOf; exact Array.mem_toList_iff.2 (Array.getElem_mem h)
  unfold okPart
  have h2 : (bytesOf s).all okB = false := by
    rw [List.all_eq_false]; exact ⟨_, this, by simp [hk]⟩
  rw [h2]; simp
theorem okPart_size {s : ByteArray} (h : okPart s = true) : 1 ≤ s.size ∧ s.size ≤ 16 ∧ ∀ b ∈ bytesOf s, okB b = true := by
  simp only [okPart, Bool.and_eq_true, decide_eq_true_eq, List.all_eq_true] at h
  exact ⟨h.1.1, h.1.2, h.2⟩
/-- The text of a path's parts; the root's is empty. -/
def slash : ByteArray := ⟨#[47]⟩
def ptext (l : List ByteArray) : ByteArray := l.foldl (fun t s => t ++ (slash ++ s)) ⟨#[]⟩
theorem ptext_snoc (l : List ByteArray) (s : ByteArray) : ptext (l ++ [s]) = ptext l ++ (slash ++ s) := by simp [ptext, List.foldl_append]
theorem bytes_append (a b : ByteArray) : bytesOf (a ++ b) = bytesOf a ++ bytesOf b := by simp [bytesOf, ByteArray.data_append]
theorem bytes_inj {a b : ByteArray} (h : bytesOf a = bytesOf b) : a = b := ByteArray.ext (Array.toList_inj.1 h)
theorem bytes_size (a : ByteArray) : (bytesOf a).length = a.size := by simp [bytesOf]
/-- The bytes of a path's text. -/
def flat : List ByteArray → List UInt8
  | [] => []
  | s :: l => 47 :: (bytesOf s ++ flat l)
theorem flat_append (l m : List ByteArray) : flat (l ++ m) = flat l ++ flat m := by
  induction l with
  | nil => rfl
  | cons s l ih => simp [flat, ih]
theorem ptext_bytes (l : List ByteArray) : bytesOf (ptext l) = flat l := by
  have : ∀ (l : List ByteArray) (t : ByteArray), bytesOf (l.foldl (fun t s => t ++ (slash ++ s)) t) = bytesOf t ++ flat l := by
    intro l
    induction l with
    | nil => intro t; simp [flat]
    | cons s l ih => intro t; rw [List.foldl_cons, ih]; simp [bytes_append, flat, slash, bytesOf]
  have h := this l ⟨#[]⟩
  unfold ptext
  rw [h]; simp [bytesOf]
/-- The pieces of a text between slashes. -/
def pcs (acc : List UInt8) : List UInt8 → List (List UInt8)
  | [] => [acc]
  | c :: t => if c = 47 then acc :: pcs [] t else pcs (acc ++ [c]) t
/-- The same, cut at most k times. -/
def pcsK : Nat → List UInt8 → List UInt8 → List (List UInt8)
  | _, acc, [] => [acc]
  | 0, acc, c :: t => [acc ++ (c :: t)]
  | k + 1, acc, c :: t => if c = 47 then acc :: pcsK k [] t else pcsK (k + 1) (acc ++ [c]) t
theorem pcs_length (acc t : List UInt8) : 1 ≤ (pcs acc t).length := by
  induction t generalizing acc with
  | nil => simp [pcs]
  | cons c t ih => unfold pcs; split <;> simp [ih]
theorem pcsK_few (k : Nat) (acc t : List UInt8) (h : (pcs acc t).length ≤ k + 1) : pcsK k acc t = pcs acc t := by
  induction t generalizing acc k with
  | nil => cases k <;> rfl
  | cons c t ih =>
    unfold pcs at h ⊢
    by_cases hc : c = 47
    · simp only [hc, if_true] at h ⊢
      have := pcs_length [] t
      cases k with
      | zero => rw [List.length_cons] at h; omega
      | succ k => simp only [pcsK, if_true]; rw [ih k [] (by simpa using h)]
    · simp only [hc, if_false] at h ⊢
      cases k with
      | zero =>
        have := ih 0 (acc ++ [c]) h
        rw [← this]
        cases t <;> simp [pcsK]
      | succ k => simp only [pcsK, hc, if_false]; exact ih _ _ h
theorem pcsK_many (k : Nat) (acc t : List UInt8) (h : k + 1 < (pcs acc t).length) : (pcsK k acc t).length = k + 1 := by
  induction t generalizing acc k with
  | nil => simp [pcs] at h
  | cons c t ih =>
    unfold pcs at h
    cases k with
    | zero => simp [pcsK]
    | succ k =>
      by_cases hc : c = 47
      · simp only [hc, if_true] at h
        simp only [pcsK, hc, if_true, List.length_cons]
        rw [ih k [] (by simpa using h)]
      · simp only [hc, if_false] at h
        simp only [pcsK, hc, if_false]; exact ih _ _ h
/-- No slash within. -/
def Clean (x : List UInt8) : Prop := ∀ b ∈ x, b ≠ 47
theorem clean_part {s : ByteArray} (h : okPart s = true) : Clean (bytesOf s) := fun b hb => okB_slash ((okPart_size h).2.2 b hb)
theorem pcs_clean (acc x t : List UInt8) (h : Clean x) : pcs acc (x ++ t) = pcs (acc ++ x) t := by
  induction x generalizing acc with
  | nil => simp
  | cons c x ih =>
    have hc : c ≠ 47 := h c (List.mem_cons_self ..)
    have hx : Clean x := fun b hb => h b (List.mem_cons_of_mem _ hb)
    simp only [List.cons_append, pcs, hc, if_false]
    rw [ih _ hx]; simp
theorem pcs_flat (acc : List UInt8) (l : List ByteArray) (h : ∀ s ∈ l, Clean (bytesOf s)) : pcs acc (flat l) = acc :: l.map bytesOf := by
  induction l generalizing acc with
  | nil => rfl
  | cons s l ih =>
    simp only [flat, pcs, if_true, List.map_cons]
    rw [pcs_clean _ _ _ (h s (List.mem_cons_self ..)), ih _ (fun t ht => h t (List.mem_cons_of_mem _ ht))]; simp
/-- The parts of a text, or none: what Parse must give. -/
def parseOf (s : ByteArray) : Option (List ByteArray) :=
  if s = slash then some [] else match bytesOf s with
  | 47 :: r => let l := (pcs [] r).map fun x => (⟨x.toArray⟩ : ByteArray); if okParts l = true then some l else none
  | _ => none
theorem back_bytes (x : List UInt8) : bytesOf ⟨x.toArray⟩ = x := by simp [bytesOf]
theorem okParts_clean {l : List ByteArray} (h : okParts l = true) : ∀ s ∈ l, Clean (bytesOf s) := by
  simp only [okParts, Bool.and_eq_true, List.all_eq_true] at h
  exact fun s hs => clean_part (h.2 s hs)
end Go.Proofs.YtmgpnpmdmelnkaaGreatDoor
