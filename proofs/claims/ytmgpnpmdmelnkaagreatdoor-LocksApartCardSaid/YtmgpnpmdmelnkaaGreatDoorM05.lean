import Derived.Test.YtmgpnpmdmelnkaaGreatDoorK1
import Derived.WalkKit
import Derived.ProofKit
import Derived.LoopTactic
import Derived.Outline
import Derived.WalkSpells
import Derived.WalkLawsBesides
import Derived.Lib.Hide
import Derived.Deep.LoopGhost
import Derived.Deep.QuietTactic
import Derived.BigQuiet
import Derived.ShutString
namespace Go.Proofs.YtmgpnpmdmelnkaaGreatDoor
open Go.ChangeShapes Go.WideShapes Go.ChangeAt Go.RowKit
set_option linter.unusedVariables false
set_option linter.unusedSimpArgs false
theorem ret_bool {a b : Bool} (h : a = b) : Ending.returned (.bool a) = .returned (.bool b) := by rw [h]
/-- May this byte occur in a part of a path? -/
def okN (n : Int) : Bool := decide (97 ≤ n ∧ n ≤ 122) || decide (48 ≤ n ∧ n ≤ 57) || decide (n = 45) || decide (n = 95)
def okB (b : UInt8) : Bool := okN b.toNat
def okPart (s : ByteArray) : Bool := decide (1 ≤ s.size) && decide (s.size ≤ 16) && (bytesOf s).all okB
def okParts (l : List ByteArray) : Bool := decide (l.length ≤ 6) && l.all okPart
theorem okB_slash {b : UInt8} (h : okB b = true) : b ≠ 47 := by rintro rfl; revert h; decide
theorem allTake (s : ByteArray) (k : Nat) (h : k < s.size) : ((bytesOf s).take (k + 1)).all okB = (((bytesOf s).take k).all okB && okB s[k]) := by
  rw [take_snoc s k h]; simp
theorem okPart_of {s : ByteArray} (h1 : 1 ≤ s.size) (h2 : s.size ≤ 16) (h : ((bytesOf s).take s.size).all okB = true) : okPart s = true := by
  rw [take_size] at h; simp [okPart, h1, h2, h]
theorem okPart_bad {s : ByteArray} {k : Nat} (h : k < s.size) (hk : okB s[k] = false) : okPart s = false := by
  have : s[k] ∈ bytesOf s := by unfold bytesOf; exact Array.mem_toList_iff.2 (Array.getElem_mem h)
  unfold okPart
  have h2 : (bytesOf s).all okB = false := by
    rw [List.all_eq_false]; exact ⟨_, this, by simp [hk]⟩
  rw [h2]; simp
theorem okPart_size {s : ByteArray} (h : okPart s = true) : 1 ≤ s.size ∧ s.size ≤ 16 ∧ ∀ b ∈ bytesOf s, okB b = true := by
  simp only [okPart, Bool.and_eq_true, decide_eq_true_eq, List.all_eq_true] at h
  exact ⟨h.1.1, h.1.2, h.2⟩
/-- The text of a path's parts; the root's is empty. -/
def slash : ByteArray := ⟨#[47]⟩
def ptext (l : List ByteArray) : ByteArray := l.foldl (fun t s => t ++ (slash ++ s)) ⟨#[]⟩
theorem ptext_snoc (l : List ByteArray) (s : ByteArray) : ptext (l ++ [s]) = ptext l ++ (slash ++ s) := by simp [ptext, List.foldl_append]
theorem bytes_append (a b : ByteArray) : bytesOf (a ++ b) = bytesOf a ++ bytesOf b := by simp [bytesOf, ByteArray.data_append]
theorem bytes_inj {a b : ByteArray} (h : bytesOf a = bytesOf b) : a = b := ByteArray.ext (Array.toList_inj.1 h)
theorem bytes_size (a : ByteArray) : (bytesOf a).length = a.size := by simp [bytesOf]
/-- The bytes of a path's text. -/
def flat : List ByteArray → List UInt8
  | [] => []
  | s :: l => 47 :: (bytesOf s ++ flat l)
theorem flat_append (l m : List ByteArray) : flat (l ++ m) = flat l ++ flat m := by
  induction l with
  | nil => rfl
  | cons s l ih => simp [flat, ih]
theorem ptext_bytes (l : List ByteArray) : bytesOf (ptext l) = flat l := by
  have : ∀ (l : List ByteArray) (t : ByteArray), bytesOf (l.foldl (fun t s => t ++ (slash ++ s)) t) = bytesOf t ++ flat l := by
    intro l
    induction l with
    | nil => intro t; simp [flat]
    | cons s l ih => intro t; rw [List.foldl_cons, ih]; simp [bytes_append, flat, slash, bytesOf]
  have h := this l ⟨#[]⟩
  unfold ptext
  rw [h]; simp [bytesOf]
/-- The text that a path shows. -/
def shown (l : List ByteArray) : ByteArray := if l = [] then slash else ptext l
theorem ptext_nil_iff (l : List ByteArray) : ptext l = ⟨#[]⟩ ↔ l = [] := by
  constructor
  · intro h
    have := ptext_bytes l
    rw [h] at this
    cases l with
    | nil => rfl
    | cons s l => simp [bytesOf, flat] at this
  · rintro rfl; rfl
/-- The pieces of a text between slashes. -/
def pcs (acc : List UInt8) : List UInt8 → List (List UInt8)
  | [] => [acc]
  | c :: t => if c = 47 then acc :: pcs [] t else pcs (acc ++ [c]) t
/-- The same, cut at most k times. -/
def pcsK : Nat → List UInt8 → List UInt8 → List (List UInt8)
  | _, acc, [] => [acc]
  | 0, acc, c :: t => [acc ++ (c :: t)]
  | k + 1, acc, c :: t => if c = 47 then acc :: pcsK k [] t else pcsK (k + 1) (acc ++ [c]) t
theorem pcs_length (acc t : List UInt8) : 1 ≤ (pcs acc t).length := by
  induction t generalizing acc with
  | nil => simp [pcs]
  | cons c t ih => unfold pcs; split <;> simp [ih]
theorem pcsK_few (k : Nat) (acc t : List UInt8) (h : (pcs acc t).length ≤ k + 1) : pcsK k acc t = pcs acc t := by
  induction t generalizing acc k with
  | nil => cases k <;> rfl
  | cons c t ih =>
    unfold pcs at h ⊢
    by_cases hc : c = 47
    · simp only [hc, if_true] at h ⊢
      have := pcs_length [] t
      cases k with
      | zero => rw [List.length_cons] at h; omega
      | succ k => simp only [pcsK, if_true]; rw [ih k [] (by simpa using h)]
    · simp only [hc, if_false] at h ⊢
      cases k with
      | zero =>
        have := ih 0 (acc ++ [c]) h
        rw [← this]
        cases t <;> simp [pcsK]
      | succ k => simp only [pcsK, hc, if_false]; exact ih _ _ h
theorem pcsK_many (k : Nat) (acc t : List UInt8) (h : k + 1 < (pcs acc t).length) : (pcsK k acc t).length = k + 1 := by
  induction t generalizing acc k with
  | nil => simp [pcs] at h
  | cons c t ih =>
    unfold pcs at h
    cases k with
    | zero => simp [pcsK]
    | succ k =>
      by_cases hc : c = 47
      · simp only [hc, if_true] at h
        simp only [pcsK, hc, if_true, List.length_cons]
        rw [ih k [] (by simpa using h)]
      · simp only [hc, if_false] at h
        simp only [pcsK, hc, if_false]; exact ih _ _ h
/-- No slash within. -/
def Clean (x : List UInt8) : Prop := ∀ b ∈ x, b ≠ 47
theorem clean_part {s : ByteArray} (h : okPart s = true) : Clean (bytesOf s) := fun b hb => okB_slash ((okPart_size h).2.2 b hb)
theorem pcs_clean (acc x t : List UInt8) (h : Clean x) : pcs acc (x ++ t) = pcs (acc ++ x) t := by
  induction x generalizing acc with
  | nil => simp
  | cons c x ih =>
    have hc : c ≠ 47 := h c (List.mem_cons_self ..)
    have hx : Clean x := fun b hb => h b (List.mem_cons_of_mem _ hb)
    simp only [List.cons_append, pcs, hc, if_false]
    rw [ih _ hx]; simp
theorem pcs_flat (acc : List UInt8) (l : List ByteArray) (h : ∀ s ∈ l, Clean (bytesOf s)) : pcs acc (flat l) = acc :: l.map bytesOf := by
  induction l generalizing acc with
  | nil => rfl
  | cons s l ih =>
    simp only [flat, pcs, if_true, List.map_cons]
    rw [pcs_clean _ _ _ (h s (List.mem_cons_self ..)), ih _ (fun t ht => h t (List.mem_cons_of_mem _ ht))]; simp
theorem pcs_join (acc t : List UInt8) : ∃ x l, pcs acc t = (acc ++ x) :: l ∧ t = x ++ (l.flatMap fun y => 47 :: y) ∧ Clean x ∧ ∀ y ∈ l, Clean y := by
  induction t generalizing acc with
  | nil => exact ⟨[], [], by simp [pcs], by simp, (fun b hb => by cases hb), (fun y hy => by cases hy)⟩
  | cons c t ih =>
    by_cases hc : c = 47
    · subst hc
      obtain ⟨x, l, h1, h2, h3, h4⟩ := ih []
      refine ⟨[], x :: l, by simp [pcs, h1], by simp [h2], (fun b hb => by cases hb), fun y hy => ?_⟩
      rcases List.mem_cons.1 hy with rfl | hy
      · exact h3
      · exact h4 _ hy
    · obtain ⟨x, l, h1, h2, h3, h4⟩ := ih (acc ++ [c])
      refine ⟨c :: x, l, by simp [pcs, hc, h1], by simp [h2], fun b hb => ?_, h4⟩
      rcases List.mem_cons.1 hb with rfl | hb
      · exact hc
      · exact h3 _ hb
/-- The parts of a text, or none: what Parse must give. -/
def parseOf (s : ByteArray) : Option (List ByteArray) :=
  if s = slash then some [] else match bytesOf s with
  | 47 :: r => let l := (pcs [] r).map fun x => (⟨x.toArray⟩ : ByteArray); if okParts l = true then some l else none
  | _ => none
theorem back_bytes (x : List UInt8) : bytesOf ⟨x.toArray⟩ = x := by simp [bytesOf]
theorem of_bytes (s : ByteArray) : (⟨(bytesOf s).toArray⟩ : ByteArray) = s := bytes_inj (back_bytes _)
theorem parseOf_some {s : ByteArray} {l : List ByteArray} (h : parseOf s = some l) : okParts l = true ∧ shown l = s := by
  unfold parseOf at h
  split at h
  · cases h; subst_vars; exact ⟨by decide, rfl⟩
  · split at h
    · rename_i hn r hr
      simp only [] at h
      split at h
      · rename_i ho
        cases h
        refine ⟨ho, ?_⟩
        obtain ⟨x, l, h1, h2, h3, h4⟩ := pcs_join [] r
        rw [h1]
        unfold shown
        rw [if_neg (by simp)]
        apply bytes_inj
        rw [ptext_bytes, hr, h2]
        simp only [List.nil_append, List.map_cons, flat, back_bytes]
        congr 2
        clear h1 h2 h4 hr ho hn
        induction l with
        | nil => rfl
        | cons y l ih => simp only [List.map_cons, flat, back_bytes, ih, List.flatMap_cons, List.cons_append]
      · cases h
    · cases h
theorem okParts_clean {l : List ByteArray} (h : okParts l = true) : ∀ s ∈ l, Clean (bytesOf s) := by
  simp only [okParts, Bool.and_eq_true, List.all_eq_true] at h
  exact fun s hs => clean_part (h.2 s hs)
theorem parseOf_shown {l : List ByteArray} (h : okParts l = true) : parseOf (shown l) = some l := by
  unfold parseOf shown
  cases l with
  | nil => simp
  | cons s l =>
    have hb : bytesOf (ptext (s :: l)) = 47 :: (bytesOf s ++ flat l) := ptext_bytes _
    have hc := okParts_clean h
    have hs1 : okPart s = true := by
      simp only [okParts, Bool.and_eq_true, List.all_eq_true] at h
      exact h.2 s (List.mem_cons_self ..)
    have hne : ptext (s :: l) ≠ slash := by
      intro e
      have := congrArg bytesOf e
      rw [hb] at this
      have h1 := (okPart_size hs1).1
      have h3 := congrArg List.length this
      simp only [List.length_cons, List.length_append, bytes_size] at h3
      have h4 : slash.size = 1 := rfl
      omega
    simp only [List.cons_ne_nil, if_false, hne, hb]
    have hp : (pcs [] (bytesOf s ++ flat l)).map (fun x => (⟨x.toArray⟩ : ByteArray)) = s :: l := by
      rw [pcs_clean _ _ _ (hc s (List.mem_cons_self ..)), pcs_flat _ _ (fun t ht => hc t (List.mem_cons_of_mem _ ht))]
      simp only [List.map_cons, List.nil_append, of_bytes, List.map_map]
      congr 1
      rw [show ((fun x => (⟨x.toArray⟩ : ByteArray)) ∘ bytesOf) = id from funext of_bytes, List.map_id]
    simp only [hp, h, if_true]
end Go.Proofs.YtmgpnpmdmelnkaaGreatDoor
