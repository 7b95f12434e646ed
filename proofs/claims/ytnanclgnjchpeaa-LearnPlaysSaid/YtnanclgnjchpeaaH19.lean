import Derived.Test.YtnanclgnjchpeaaF19d
import Derived.WalkKit
import Derived.ProofKit
import Derived.LoopTactic
import Derived.Outline
import Derived.WalkSpells
import Derived.WalkLawsBesides
import Derived.Lib.Hide
import Derived.Deep.LoopGhost
import Derived.Deep.QuietTactic
import Derived.BigQuiet
import Derived.ShutString
namespace Go.Proofs.Ytnanclgnjchpeaa
open Go.ChangeShapes Go.WideShapes Go.ChangeAt Go.RowKit
open Bal
set_option linter.unusedVariables false
set_option linter.unusedSimpArgs false
theorem ba_eq_iff (R G : ByteArray) : R.toList = G.toList ↔ R = G := by
  constructor
  · intro h
    have h' : R.data.toList = G.data.toList := by simpa [ByteArray.toList_eq] using h
    exact ByteArray.ext (Array.toList_inj.1 h')
  · intro h; rw [h]
namespace Ln
def learnR (a : Ln) (slot : Int) (text : ByteArray) : Int :=
  if slot ≤ a.ba then 0 else if hasE a.L slot then (if (oldE a.L slot).text.toList = text.toList then 0 else 7) else if 1024 < slot - a.dn then 6 else 0
def learn (a : Ln) (slot : Int) (text : ByteArray) : Ln :=
  if slot ≤ a.ba then a else if hasE a.L slot then a else if 1024 < slot - a.dn then a else { a with L := setE a.L ⟨slot, 0, 0, text⟩ }
def nextB (a : Ln) : Bool := hasE a.L (a.dn + 1)
def nextE (a : Ln) : E := oldE a.L (a.dn + 1)
def next (a : Ln) : Ln := if a.nextB then { a with dn := a.dn + 1 } else a
/-- What stays. -/
structure Ok (a : Ln) (N : Nat) : Prop where
  asc : Asc a.L
  len : a.L.length ≤ N
  b0 : 0 ≤ a.ba
  bd : a.ba ≤ a.dn
  d1 : a.dn ≤ 1000000
  txt : ∀ e ∈ a.L, e.text.size ≤ 281474976710656
  low : ∀ e ∈ a.L, a.ba < e.slot
  has : ∀ x, a.ba < x → x ≤ a.dn → hasE a.L x = true
end Ln
theorem E.cells_eq (e : E) : (⟨e.slot, e.c, e.n, e.text⟩ : E) = e := rfl
section
variable {w0 : World} {b : Nat} {v : Value} {a : Ln} {N : Nat}
theorem learn_st (slot : Int) (text : ByteArray) (w : World) (h : LnIs w0 w b v a) (hok : a.Ok N) (hN : N ≤ 900) (hs : 0 ≤ slot ∧ slot ≤ 1000000) (ht : text.size ≤ 281474976710656) :
    Calls Try.prog 18 #[.pointer (some ⟨b, 0, none⟩), .int .i64 slot, .string text] w fun e w' => e = .returned (.int .i64 (a.learnR slot text)) ∧ LnTo w0 w w' b v (a.learn slot text) := by
  have hl : a.L.length ≤ 900 := Nat.le_trans hok.len hN
  have hd : 0 ≤ a.dn ∧ a.dn ≤ 1000000 := ⟨Int.le_trans hok.b0 hok.bd, hok.d1⟩
  unfold Ln.learnR Ln.learn
  by_cases hx : slot ≤ a.ba
  · rw [if_pos hx, if_pos hx]
    exact (learn_base slot text w h hl hok.asc hd hs hx).mono fun e w1 ⟨he, hg⟩ => ⟨he, LnTo.same h hg⟩
  · rw [if_neg hx, if_neg hx]
    have hx := Int.not_le.1 hx
    by_cases hh : hasE a.L slot = true
    · rw [if_pos hh, if_pos hh]
      by_cases ho : (oldE a.L slot).text.toList = text.toList
      · rw [if_pos ho]
        exact (learn_same slot text w h hl hok.asc hd hs hx hh ho).mono fun e w1 ⟨he, hg⟩ => ⟨he, LnTo.same h hg⟩
      · rw [if_neg ho]
        exact (learn_other slot text w h hl hok.asc hd hs hx hh ho).mono fun e w1 ⟨he, hg⟩ => ⟨he, LnTo.same h hg⟩
    · rw [if_neg hh, if_neg hh]
      have hh := Bool.eq_false_iff.2 hh
      by_cases hf : 1024 < slot - a.dn
      · rw [if_pos hf, if_pos hf]
        exact (learn_far slot text w h hl hok.asc hd hs hx hh hf).mono fun e w1 ⟨he, hg⟩ => ⟨he, LnTo.same h hg⟩
      · rw [if_neg hf, if_neg hf]
        exact learn_new slot text w h hl hok.asc hd hs hx hh (Int.not_lt.1 hf) ht
theorem next_st (w : World) (h : LnIs w0 w b v a) (hok : a.Ok N) (hN : N ≤ 900) :
    Calls Try.prog 19 #[.pointer (some ⟨b, 0, none⟩)] w fun e w' => e = .returned (.tuple #[.agg #[.int .i64 a.nextE.slot, .int .u64 a.nextE.c, .int .i64 a.nextE.n, .string a.nextE.text], .bool a.nextB]) ∧ LnTo w0 w w' b v a.next := by
  have hl : a.L.length ≤ 1000 := Nat.le_trans hok.len (by omega)
  have hd : 0 ≤ a.dn ∧ a.dn ≤ 1000000 := ⟨Int.le_trans hok.b0 hok.bd, hok.d1⟩
  unfold Ln.nextE Ln.next Ln.nextB
  cases hh : hasE a.L (a.dn + 1)
  · rw [old_out hh, if_neg (by simp)]
    exact (lnext_no w h hl hok.asc hd hh).mono fun e w1 ⟨he, hg⟩ => ⟨he, LnTo.same h hg⟩
  · rw [if_pos rfl]
    exact lnext_yes w h hl hok.asc hd hh hok.txt
end
theorem has_set (L : List E) (e : E) (x : Int) : hasE (setE L e) x = (decide (x = e.slot) || hasE L x) := by
  rw [Bool.eq_iff_iff]
  unfold hasE
  rw [Bool.or_eq_true, decide_eq_true_eq, List.any_eq_true, List.any_eq_true]
  unfold setE
  constructor
  · rintro ⟨y, hy, hx⟩
    have hx := of_decide_eq_true hx
    rcases List.mem_append.1 hy with hy | hy
    · exact .inr ⟨y, (List.mem_filter.1 hy).1, decide_eq_true hx⟩
    · rcases List.mem_cons.1 hy with rfl | hy
      · exact .inl hx.symm
      · exact .inr ⟨y, (List.mem_filter.1 hy).1, decide_eq_true hx⟩
  · rintro (rfl | ⟨y, hy, hx⟩)
    · exact ⟨e, List.mem_append.2 (.inr (List.mem_cons_self ..)), decide_eq_true rfl⟩
    · have hx := of_decide_eq_true hx
      rcases Int.lt_trichotomy y.slot e.slot with h | h | h
      · exact ⟨y, List.mem_append.2 (.inl (List.mem_filter.2 ⟨hy, decide_eq_true h⟩)), decide_eq_true hx⟩
      · exact ⟨e, List.mem_append.2 (.inr (List.mem_cons_self ..)), decide_eq_true (by omega)⟩
      · exact ⟨y, List.mem_append.2 (.inr (List.mem_cons.2 (.inr (List.mem_filter.2 ⟨hy, decide_eq_true h⟩)))), decide_eq_true hx⟩
theorem setE_mem {L : List E} {e y : E} (h : y ∈ setE L e) : y = e ∨ y ∈ L := by
  unfold setE at h
  rcases List.mem_append.1 h with h | h
  · exact .inr (List.mem_filter.1 h).1
  · rcases List.mem_cons.1 h with h | h
    · exact .inl h
    · exact .inr (List.mem_filter.1 h).1
theorem setE_len (L : List E) (e : E) : (setE L e).length ≤ L.length + 1 := by
  unfold setE lowE hiE
  rw [List.length_append, List.length_cons]
  have h1 : (L.filter fun y => decide (y.slot < e.slot)).length + (L.filter fun y => decide (e.slot < y.slot)).length ≤ L.length := by
    induction L with
    | nil => simp
    | cons y t ih =>
      simp only [List.filter_cons]
      by_cases h1 : y.slot < e.slot
      · have h2 : ¬ e.slot < y.slot := by omega
        simp only [h1, h2, decide_true, decide_false, if_true, List.length_cons]
        simp only [Bool.false_eq_true, if_false]
        omega
      · by_cases h2 : e.slot < y.slot
        · simp only [h1, h2, decide_true, decide_false, if_true, List.length_cons]
          simp only [Bool.false_eq_true, if_false]
          omega
        · simp only [h1, h2, decide_false, List.length_cons]
          simp only [Bool.false_eq_true, if_false]
          omega
  omega
theorem has_mem {L : List E} {x : Int} : hasE L x = true ↔ ∃ e ∈ L, e.slot = x := by
  unfold hasE
  rw [List.any_eq_true]
  constructor
  · rintro ⟨e, h1, h2⟩; exact ⟨e, h1, of_decide_eq_true h2⟩
  · rintro ⟨e, h1, h2⟩; exact ⟨e, h1, decide_eq_true h2⟩
theorem old_mem {L : List E} {x : Int} (h : hasE L x = true) : oldE L x ∈ L ∧ (oldE L x).slot = x := by
  unfold oldE
  cases hf : L.find? fun e => decide (e.slot = x) with
  | none =>
    obtain ⟨e, h1, h2⟩ := has_mem.1 h
    rw [List.find?_eq_none] at hf
    exact absurd (decide_eq_true h2) (hf e h1)
  | some y =>
    have h2 := List.find?_some hf
    exact ⟨List.mem_of_find?_eq_some hf, of_decide_eq_true h2⟩
theorem asc_filt {L : List E} (ha : Asc L) (p : E → Bool) : Asc (L.filter p) := by
  have h0 : L.Pairwise fun a b => a.slot < b.slot := List.pairwise_iff_getElem.2 fun i j hi hj hij => ha i j hi hj hij
  exact fun p q hp hq hpq => List.pairwise_iff_getElem.1 (h0.filter _) p q hp hq hpq
theorem has_hi {L : List E} {x y : Int} (h : x < y) : hasE (hiE L x) y = hasE L y := by
  rw [Bool.eq_iff_iff, has_mem, has_mem]
  unfold hiE
  constructor
  · rintro ⟨e, h1, h2⟩; exact ⟨e, (List.mem_filter.1 h1).1, h2⟩
  · rintro ⟨e, h1, h2⟩; exact ⟨e, List.mem_filter.2 ⟨h1, decide_eq_true (by omega)⟩, h2⟩
/-- In order, above a bound: at least so great. -/
theorem asc_ge {L : List E} (ha : Asc L) {x : Int} (hl : ∀ e ∈ L, x < e.slot) : ∀ i (h : i < L.length), x + 1 + i ≤ L[i].slot := by
  intro i
  induction i with
  | zero => intro h; have := hl _ (List.getElem_mem h); omega
  | succ i ih => intro h; have h1 := ih (by omega); have h2 := ha i (i + 1) (by omega) h (by omega); omega
/-- What is executed is there, one slot behind another. -/
theorem asc_run {L : List E} (ha : Asc L) {x y : Int} (hl : ∀ e ∈ L, x < e.slot) (hh : ∀ z, x < z → z ≤ y → hasE L z = true) : ∀ i : Nat, x + 1 + i ≤ y → ∃ h : i < L.length, L[i].slot = x + 1 + i := by
  intro i
  induction i using Nat.strongRecOn with
  | _ i ih =>
    intro hy
    obtain ⟨e, he, hs⟩ := has_mem.1 (hh (x + 1 + i) (by omega) hy)
    obtain ⟨j, hj, rfl⟩ := List.getElem_of_mem he
    have h1 := asc_ge ha hl j hj
    by_cases hji : j = i
    · subst hji; exact ⟨hj, hs⟩
    · have hlt : j < i := by omega
      obtain ⟨_, h2⟩ := ih j hlt (by omega)
      omega
namespace Ln
variable {a : Ln} {N : Nat}
theorem Ok.learn (h : a.Ok N) (slot : Int) {text : ByteArray} (ht : text.size ≤ 281474976710656) : (a.learn slot text).Ok (N + 1) := by
  have hm : a.Ok (N + 1) := ⟨h.asc, Nat.le_succ_of_le h.len, h.b0, h.bd, h.d1, h.txt, h.low, h.has⟩
  unfold Ln.learn
  split
  · exact hm
  · rename_i hx
    split
    · exact hm
    · split
      · exact hm
      · refine ⟨asc_set h.asc _, ?_, h.b0, h.bd, h.d1, fun e he => ?_, fun e he => ?_, fun x h1 h2 => ?_⟩
        · have := setE_len a.L ⟨slot, 0, 0, text⟩
          have := h.len
          show (setE a.L ⟨slot, 0, 0, text⟩).length ≤ N + 1
          omega
        · rcases setE_mem he with rfl | he
          · exact ht
          · exact h.txt e he
        · rcases setE_mem he with rfl | he
          · exact Int.not_le.1 hx
          · exact h.low e he
        · show hasE (setE a.L ⟨slot, 0, 0, text⟩) x = true
          rw [has_set, h.has x h1 h2, Bool.or_true]
theorem Ok.next (h : a.Ok N) (hd : a.dn + 1 ≤ 1000000) : a.next.Ok N := by
  unfold Ln.next
  split
  · rename_i hb
    refine ⟨h.asc, h.len, h.b0, by show a.ba ≤ a.dn + 1; have := h.bd; omega, hd, h.txt, h.low, fun x h1 h2 => ?_⟩
    by_cases e : x = a.dn + 1
    · subst e; exact hb
    · exact h.has x h1 (by have : x ≤ a.dn + 1 := h2; omega)
  · exact h
theorem Ok.forget (h : a.Ok N) (x d : Int) (hx : a.ba ≤ x) (hxd : x ≤ d) (hd : d ≤ 1000000) (hh : ∀ y, x < y → y ≤ d → hasE a.L y = true) : (⟨x, d, hiE a.L x⟩ : Ln).Ok N :=
  ⟨asc_filt h.asc _, Nat.le_trans (List.length_filter_le _ _) h.len, Int.le_trans h.b0 hx, hxd, hd, fun e he => h.txt e (List.mem_filter.1 he).1, fun e he => of_decide_eq_true (List.mem_filter.1 he).2, fun y h1 h2 => (has_hi h1).trans (hh y h1 h2)⟩
theorem Ok.fold (h : a.Ok N) (x : Int) : (a.fold x).Ok N := by
  unfold Ln.fold Ln.folds
  split
  · rename_i hb
    rw [Bool.and_eq_true, decide_eq_true_eq, decide_eq_true_eq] at hb
    exact h.forget x a.dn (by omega) hb.2 h.d1 (fun y h1 h2 => h.has y (by omega) h2)
  · exact h
theorem Ok.install (h : a.Ok N) (x : Int) (hx : x ≤ 1000000) : (a.install x).Ok N := by
  unfold Ln.install Ln.takes
  split
  · rename_i hb
    have hb := of_decide_eq_true hb
    have := h.bd
    exact h.forget x x (by omega) (Int.le_refl _) hx (fun y h1 h2 => by omega)
  · exact h
theorem Ok.mono (h : a.Ok N) {M : Nat} (hm : N ≤ M) : a.Ok M := ⟨h.asc, Nat.le_trans h.len hm, h.b0, h.bd, h.d1, h.txt, h.low, h.has⟩
theorem ok0 {x : Int} (h0 : 0 ≤ x) (h1 : x ≤ 1000000) : (⟨x, x, []⟩ : Ln).Ok 0 :=
  ⟨fun p q hp => by simp at hp, by simp, h0, Int.le_refl _, h1, by simp, by simp, fun y h2 h3 => by have h2 : x < y := h2; have h3 : y ≤ x := h3; omega⟩
end Ln
theorem lnNew_st (x : Int) (w : World) : Calls Try.prog 14 #[.int .i64 x] w fun e w' => e = .returned (.pointer (some ⟨w.heap.size, 0, none⟩)) ∧ LnIs w w' w.heap.size (.slice none 0 0) ⟨max x 0, max x 0, []⟩ ∧ Gr w w' := by
  refine (lnNew_any x w).mono ?_
  rintro e w1 ⟨rfl, rfl⟩
  exact ⟨rfl, ⟨Nat.le_refl _, (Gr.refl _).alloc _, Blk.new w _ _, World.ownsRow_nil _ _ _ _⟩, (Gr.refl _).alloc _⟩
end Go.Proofs.Ytnanclgnjchpeaa
