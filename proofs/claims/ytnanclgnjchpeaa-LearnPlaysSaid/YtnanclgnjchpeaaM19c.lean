import Derived.Test.YtnanclgnjchpeaaF19v
import Derived.WalkKit
import Derived.ProofKit
import Derived.LoopTactic
import Derived.Outline
import Derived.WalkSpells
import Derived.WalkLawsBesides
import Derived.Lib.Hide
import Derived.Deep.LoopGhost
import Derived.Deep.QuietTactic
import Derived.BigQuiet
import Derived.ShutString
namespace Go.Proofs.Ytnanclgnjchpeaa
open Go.ChangeShapes Go.WideShapes Go.ChangeAt Go.RowKit
open Bal
set_option linter.unusedVariables false
set_option linter.unusedSimpArgs false
theorem isMx_unique {has : Int → Bool} {x y : Int} (h : IsMx has x) (k : IsMx has y) : x = y := by
  have key : ∀ {x y : Int}, IsMx has x → IsMx has y → x ≤ y := by
    intro x y h k
    rcases h.at' with e | e
    · have := k.nn; omega
    · exact k.ub x e
  exact Int.le_antisymm (key h k) (key k h)
theorem isMiss_unique {has : Int → Bool} {mx d r s : Int} (hd : 0 ≤ d) (h : IsMiss has mx d r) (k : IsMiss has mx d s) : r = s := by
  rcases h with ⟨rfl, h1⟩ | ⟨h1, h2, h3, h4⟩
  · rcases k with ⟨rfl, _⟩ | ⟨k1, k2, k3, k4⟩
    · rfl
    · have := h1 s k1 k2; rw [k3] at this; simp at this
  · rcases k with ⟨rfl, k1⟩ | ⟨k1, k2, k3, k4⟩
    · have := k1 r h1 h2; rw [h3] at this; simp at this
    · rcases Int.lt_trichotomy r s with h | h | h
      · have := k4 r h1 h; rw [h3] at this; simp at this
      · exact h
      · have := h4 s k1 h; rw [k3] at this; simp at this
/-- What missE answers. -/
theorem missE_spec : ∀ (A : List E) (n : Int), 0 < n → A.Pairwise (fun a b => a.slot < b.slot) → (∀ e ∈ A, n ≤ e.slot) →
    (missE A n = 0 ∧ ∀ e ∈ A, ∀ x, n ≤ x → x ≤ e.slot → hasE A x = true) ∨ (n ≤ missE A n ∧ hasE A (missE A n) = false ∧ (∃ e ∈ A, missE A n < e.slot) ∧ ∀ x, n ≤ x → x < missE A n → hasE A x = true)
  | [], n, _, _, _ => .inl ⟨rfl, by simp⟩
  | y :: t, n, hn, hp, hlo => by
    have hp2 := List.pairwise_cons.1 hp
    have hcons : ∀ x, hasE (y :: t) x = (decide (y.slot = x) || hasE t x) := fun x => rfl
    unfold missE
    by_cases hy : y.slot = n
    · rw [if_pos hy]
      rcases missE_spec t (n + 1) (by omega) hp2.2 (fun e he => by have := hp2.1 e he; omega) with ⟨h1, h2⟩ | ⟨h1, h2, ⟨e, he, hel⟩, h4⟩
      · refine .inl ⟨h1, fun e he x hx hxe => ?_⟩
        rw [hcons]
        by_cases e2 : y.slot = x
        · rw [decide_eq_true e2, Bool.true_or]
        · rcases List.mem_cons.1 he with rfl | he
          · omega
          · rw [h2 e he x (by omega) hxe, Bool.or_true]
      · refine .inr ⟨by omega, ?_, ⟨e, List.mem_cons.2 (.inr he), hel⟩, fun x hx hxl => ?_⟩
        · rw [hcons, h2, decide_eq_false (by omega)]; rfl
        · rw [hcons]
          by_cases e2 : y.slot = x
          · rw [decide_eq_true e2, Bool.true_or]
          · rw [h4 x (by omega) hxl, Bool.or_true]
    · rw [if_neg hy]
      have hy2 := hlo y (List.mem_cons_self ..)
      refine .inr ⟨Int.le_refl _, ?_, ⟨y, List.mem_cons_self .., by omega⟩, fun x h1 h2 => by omega⟩
      rw [Bool.eq_false_iff]
      intro h
      obtain ⟨e, he, hs⟩ := has_mem.1 h
      rcases List.mem_cons.1 he with rfl | he
      · exact hy hs
      · have := hp2.1 e he; omega
/-- What a state of the document's and a learner have in common. -/
structure Same19 (a : Ln) (s : Rs) : Prop where
  ba : s.ba = a.ba
  dn : s.dn = a.dn
  has : ∀ x, hasM s.M x = hasE a.L x
  txt : ∀ x, hasE a.L x = true → txtM s.M x = (oldE a.L x).text
  plain : ∀ e ∈ a.L, e.c = 0 ∧ e.n = 0
  top : ∀ e ∈ s.M, e.slot ≤ 3000
theorem txtM_none {M : List RE} {x : Int} (h : hasM M x = false) : txtM M x = ⟨#[]⟩ := by
  unfold txtM
  rw [List.find?_eq_none.2]
  · rfl
  · intro e he hx
    have : hasM M x = true := List.any_eq_true.2 ⟨e, he, hx⟩
    rw [h] at this
    exact absurd this (by simp)
theorem Same19.knT {a : Ln} {s : Rs} (h : Same19 a s) (x : Int) : a.knT x = txtM s.M x := by
  unfold Ln.knT
  cases hh : hasE a.L x
  · rw [if_neg (by simp), txtM_none ((h.has x).trans hh)]
  · rw [if_pos rfl, h.txt x hh]
theorem hasM_append (M : List RE) (e : RE) (x : Int) : hasM (M ++ [e]) x = (hasM M x || decide (e.slot = x)) := by
  unfold hasM; rw [List.any_append]; simp
theorem txtM_append (M : List RE) (e : RE) (x : Int) : txtM (M ++ [e]) x = if hasM M x then txtM M x else if e.slot = x then e.text else ⟨#[]⟩ := by
  cases hh : hasM M x
  · rw [if_neg (by simp)]
    have hn : M.find? (fun e => decide (e.slot = x)) = none := by
      rw [List.find?_eq_none]
      intro e he hx
      have : hasM M x = true := List.any_eq_true.2 ⟨e, he, hx⟩
      rw [hh] at this
      exact absurd this (by simp)
    unfold txtM
    rw [List.find?_append, hn, Option.none_or]
    by_cases e2 : e.slot = x
    · rw [if_pos e2]; simp [e2]
    · rw [if_neg e2]; simp [e2]
  · rw [if_pos rfl]
    unfold txtM
    rw [List.find?_append]
    obtain ⟨e, he, hx⟩ := List.any_eq_true.1 hh
    cases hf : M.find? (fun e => decide (e.slot = x)) with
    | none => rw [List.find?_eq_none] at hf; exact absurd hx (hf e he)
    | some y => rfl
theorem hasM_drop {M : List RE} {x y : Int} : hasM (dropM M x) y = (decide (x < y) && hasM M y) := by
  rw [Bool.eq_iff_iff, Bool.and_eq_true, decide_eq_true_eq]
  unfold hasM dropM
  rw [List.any_eq_true, List.any_eq_true]
  constructor
  · rintro ⟨e, he, hs⟩
    have h1 := List.mem_filter.1 he
    have h2 := of_decide_eq_true h1.2
    have h3 := of_decide_eq_true hs
    exact ⟨by omega, e, h1.1, hs⟩
  · rintro ⟨h, e, he, hs⟩
    have h3 := of_decide_eq_true hs
    exact ⟨e, List.mem_filter.2 ⟨he, decide_eq_true (by omega)⟩, hs⟩
theorem txtM_drop {M : List RE} {x y : Int} (h : x < y) : txtM (dropM M x) y = txtM M y := by
  unfold txtM dropM
  congr 2
  rw [List.find?_filter]
  congr 1
  funext e
  by_cases h2 : e.slot = y
  · simp [h2, h]
  · simp [h2]
theorem hasE_hi (L : List E) (x y : Int) : hasE (hiE L x) y = (decide (x < y) && hasE L y) := by
  by_cases h : x < y
  · rw [has_hi h, decide_eq_true h, Bool.true_and]
  · rw [decide_eq_false h, Bool.false_and, Bool.eq_false_iff]
    intro hh
    obtain ⟨e, he, hs⟩ := has_mem.1 hh
    have := of_decide_eq_true (List.mem_filter.1 he).2
    omega
theorem oldE_hi {L : List E} {x y : Int} (h : x < y) : oldE (hiE L x) y = oldE L y := by
  unfold oldE hiE
  congr 1
  rw [List.find?_filter]
  congr 1
  funext e
  by_cases h2 : e.slot = y
  · simp [h2, h]
  · simp [h2]
theorem Same19.drop {a : Ln} {s : Rs} (h : Same19 a s) (x d : Int) : Same19 ⟨x, d, hiE a.L x⟩ ⟨x, d, dropM s.M x⟩ := by
  refine ⟨rfl, rfl, fun y => ?_, fun y hy => ?_, fun e he => h.plain e (List.mem_filter.1 he).1, fun e he => h.top e (List.mem_filter.1 he).1⟩
  · show hasM (dropM s.M x) y = hasE (hiE a.L x) y
    rw [hasM_drop, hasE_hi, h.has]
  · have hy : hasE (hiE a.L x) y = true := hy
    rw [hasE_hi, Bool.and_eq_true, decide_eq_true_eq] at hy
    show txtM (dropM s.M x) y = (oldE (hiE a.L x) y).text
    rw [txtM_drop hy.1, oldE_hi hy.1]
    exact h.txt y hy.2
theorem Same19.fold {a : Ln} {s : Rs} (h : Same19 a s) (x : Int) : s.folds x = a.folds x ∧ Same19 (a.fold x) (s.fold x) := by
  have e : s.folds x = a.folds x := by unfold Rs.folds Ln.folds; rw [h.ba, h.dn]
  refine ⟨e, ?_⟩
  unfold Rs.fold Ln.fold
  rw [e]
  split
  · rw [h.dn]; exact h.drop x a.dn
  · exact h
theorem Same19.install {a : Ln} {s : Rs} (h : Same19 a s) (x : Int) : s.takes x = a.takes x ∧ Same19 (a.install x) (s.install x) := by
  have e : s.takes x = a.takes x := by unfold Rs.takes Ln.takes; rw [h.dn]
  refine ⟨e, ?_⟩
  unfold Rs.install Ln.install
  rw [e]
  split
  · exact h.drop x x
  · exact h
theorem Same19.next {a : Ln} {s : Rs} (h : Same19 a s) : hasM s.M (s.dn + 1) = a.nextB ∧ txtM s.M (s.dn + 1) = a.nextE.text ∧ Same19 a.next s.next := by
  have e : hasM s.M (s.dn + 1) = a.nextB := by unfold Ln.nextB; rw [h.dn, h.has]
  refine ⟨e, ?_, ?_⟩
  · unfold Ln.nextE
    rw [h.dn]
    cases hh : hasE a.L (a.dn + 1)
    · rw [old_out hh, txtM_none ((h.has _).trans hh)]; rfl
    · exact h.txt _ hh
  · unfold Rs.next Ln.next
    rw [e]
    split
    · exact ⟨h.ba, by show s.dn + 1 = a.dn + 1; rw [h.dn], h.has, h.txt, h.plain, h.top⟩
    · exact h
theorem oldE_set (L : List E) (e : E) (x : Int) (hh : hasE L e.slot = false) : oldE (setE L e) x = if x = e.slot then e else oldE L x := by
  unfold oldE setE
  rw [List.find?_append, List.find?_cons]
  have hlow : ∀ y, (lowE L e.slot).find? (fun z => decide (z.slot = y)) = if y < e.slot then L.find? (fun z => decide (z.slot = y)) else none := by
    intro y
    unfold lowE
    rw [List.find?_filter]
    by_cases h : y < e.slot
    · rw [if_pos h]
      congr 1
      funext z
      by_cases h2 : z.slot = y
      · simp [h2, h]
      · simp [h2]
    · rw [if_neg h, List.find?_eq_none]
      intro z _ hz
      simp only [decide_eq_true_eq, Bool.and_eq_true] at hz
      omega
  have hhi : ∀ y, (hiE L e.slot).find? (fun z => decide (z.slot = y)) = if e.slot < y then L.find? (fun z => decide (z.slot = y)) else none := by
    intro y
    unfold hiE
    rw [List.find?_filter]
    by_cases h : e.slot < y
    · rw [if_pos h]
      congr 1
      funext z
      by_cases h2 : z.slot = y
      · simp [h2, h]
      · simp [h2]
    · rw [if_neg h, List.find?_eq_none]
      intro z _ hz
      simp only [decide_eq_true_eq, Bool.and_eq_true] at hz
      omega
  rw [hlow, hhi]
  rcases Int.lt_trichotomy x e.slot with h | h | h
  · rw [if_pos h, decide_eq_false (by omega), if_neg (by omega), if_neg (by omega), Option.or_none]
  · subst h
    rw [if_neg (by omega), decide_eq_true rfl, if_pos rfl]
    rfl
  · rw [if_neg (by omega), decide_eq_false (by omega), if_pos h, if_neg (by omega), Option.none_or]
theorem Same19.learn {a : Ln} {s : Rs} (h : Same19 a s) (slot : Int) (text : ByteArray) (hs : slot ≤ 3000) : s.learnR slot text = a.learnR slot text ∧ Same19 (a.learn slot text) (s.learn slot text) := by
  unfold Rs.learnR Ln.learnR Rs.learn Ln.learn
  rw [h.ba, h.dn, h.has]
  by_cases h1 : slot ≤ a.ba
  · rw [if_pos h1, if_pos h1, if_pos h1, if_pos h1]; exact ⟨rfl, h⟩
  · rw [if_neg h1, if_neg h1, if_neg h1, if_neg h1]
    cases hh : hasE a.L slot
    · have e1 : (1024 < slot - a.dn) = (a.dn + 1024 < slot) := by apply propext; omega
      simp only [Bool.false_eq_true, if_false, e1]
      by_cases h2 : a.dn + 1024 < slot
      · simp only [if_pos h2]; exact ⟨trivial, h⟩
      · simp only [if_neg h2]
        refine ⟨trivial, rfl, rfl, fun x => ?_, fun x hx => ?_, fun e he => ?_, fun e he => ?_⟩
        · show hasM (s.M ++ [⟨slot, text⟩]) x = hasE (setE a.L ⟨slot, 0, 0, text⟩) x
          rw [hasM_append, has_set, h.has, Bool.or_comm]
          congr 1
          exact decide_eq_decide.2 ⟨fun e => e.symm, fun e => e.symm⟩
        · have hx : hasE (setE a.L ⟨slot, 0, 0, text⟩) x = true := hx
          show txtM (s.M ++ [⟨slot, text⟩]) x = (oldE (setE a.L ⟨slot, 0, 0, text⟩) x).text
          rw [txtM_append, oldE_set _ _ _ hh, h.has]
          by_cases e : x = slot
          · subst e
            rw [hh, if_pos rfl, if_neg (by simp), if_pos rfl]
          · rw [if_neg e, has_set, decide_eq_false e, Bool.false_or] at *
            rw [hx, if_pos rfl, h.txt x hx]
        · rcases setE_mem he with rfl | he
          · exact ⟨rfl, rfl⟩
          · exact h.plain e he
        · rcases List.mem_append.1 he with he | he
          · exact h.top e he
          · obtain rfl := List.mem_singleton.1 he; exact hs
    · have ht := h.txt slot hh
      simp only [if_true, ht]
      exact ⟨trivial, h⟩
theorem same0 (x : Int) : Same19 ⟨x, x, []⟩ ⟨x, x, []⟩ := ⟨rfl, rfl, fun _ => rfl, fun y hy => by simp [hasE] at hy, by simp, by simp⟩
end Go.Proofs.Ytnanclgnjchpeaa
