import Derived.Test.YtahohgnkichibaaF15l
import Derived.WalkKit
import Derived.ProofKit
import Derived.LoopTactic
import Derived.Outline
import Derived.WalkSpells
import Derived.WalkLawsBesides
import Derived.Lib.Hide
import Derived.Deep.LoopGhost
import Derived.Deep.QuietTactic
import Derived.BigQuiet
import Derived.ShutString
namespace Go.Proofs.Ytahohgnkichibaa
open Go.ChangeShapes Go.WideShapes Go.ChangeAt Go.RowKit
set_option linter.unusedVariables false
set_option linter.unusedSimpArgs false
theorem off_keyless : ∀ {L : List A} (h : InvA L) (k : Int), offA L k = keyless L k
  | [], _, _ => rfl
  | y :: t, h, k => by
    have hk := List.pairwise_cons.1 h.k
    have hs := h.sub (List.sublist_cons_self y t)
    by_cases e : y.key = k
    · unfold offA keyless
      rw [List.eraseP_cons_of_pos (by simp [e]), List.filter_cons_of_neg (by simp [e])]
      symm
      rw [List.filter_eq_self]
      intro x hx
      have := hk.1 x hx
      simp
      intro e2
      exact this (by rw [e, e2])
    · have ih := off_keyless hs k
      unfold offA keyless at ih ⊢
      rw [List.eraseP_cons_of_neg (by simp [e]), List.filter_cons_of_pos (by simp [e]), ih]
theorem ins_perm {α : Type} (L : List α) (i : Nat) (x : α) : (ins L i x).Perm (L ++ [x]) := by
  unfold ins
  have h1 : L.take i ++ L.drop i = L := List.take_append_drop _ _
  calc (L.take i ++ x :: L.drop i).Perm (x :: (L.take i ++ L.drop i)) := List.perm_middle
    _ = x :: L := by rw [h1]
    (x :: L).Perm (L ++ [x]) := (List.perm_append_singleton x L).symm
theorem perm_off {L R : List A} (h : InvA L) (hp : L.Perm R) (k : Int) : (offA L k).Perm (keyless R k) := by
  rw [off_keyless h]
  exact hp.filter _
theorem perm_set {L R : List A} (h : InvA L) (hp : L.Perm R) (k t : Int) : (setA L k t).Perm (keyless R k ++ [⟨k, t⟩]) :=
  (ins_perm _ _ _).trans ((perm_off h hp k).append_right _)
theorem has_off {L R : List A} (h : InvA L) (hp : L.Perm R) (k : Int) : hasA L k = decide ((keyless R k).length < R.length) := by
  rw [← (perm_off h hp k).length_eq, ← hp.length_eq]
  unfold hasA offA
  cases hq : L.any fun x => x.key == k with
  | true => 
    rw [List.any_eq_true] at hq
    obtain ⟨x, hx, hk⟩ := hq
    rw [List.length_eraseP_of_mem hx hk]
    have := List.length_pos_of_mem hx
    simp; omega
  | false =>
    rw [List.any_eq_false] at hq
    rw [List.eraseP_of_forall_not (fun x hx => by have := hq x hx; simpa using this)]
    simp
/-- Not after. -/
def leA (x y : A) : Prop := x.due < y.due ∨ x.due = y.due ∧ x.key ≤ y.key
theorem leA_of {x y : A} (h : cmpA x y < 0) : leA x y := by rw [cmpA_neg] at h; unfold leA; omega
theorem leA_trans {x y z : A} (h : leA x y) (k : leA y z) : leA x z := by unfold leA at *; omega
theorem leA_anti {x y : A} (h : leA x y) (k : leA y x) : x = y := by
  obtain ⟨a, b⟩ := x
  obtain ⟨c, d⟩ := y
  unfold leA at h k
  simp only at h k
  have h1 : a = c := by omega
  have h2 : b = d := by omega
  rw [h1, h2]
theorem leA_ahead {x y : A} (h : aheadA x y = true) : leA x y := by
  have := of_decide_eq_true h
  unfold leA
  omega
theorem leA_not {x y : A} (h : aheadA x y = false) : leA y x := by
  have := of_decide_eq_false h
  unfold leA
  omega
theorem putD_perm (a : A) : ∀ D : List A, (putD a D).Perm (a :: D)
  | [] => List.Perm.refl _
  | b :: t => by
    unfold putD
    split
    · exact List.Perm.refl _
    · exact ((putD_perm a t).cons b).trans (List.Perm.swap a b t)
theorem putD_sorted {a : A} : ∀ {D : List A}, D.Pairwise leA → (putD a D).Pairwise leA
  | [], _ => by simp [putD]
  | b :: t, h => by
    have hs := List.pairwise_cons.1 h
    unfold putD
    split
    · rename_i ha
      rw [List.pairwise_cons]
      refine ⟨fun x hx => ?_, h⟩
      rcases List.mem_cons.1 hx with rfl | hx
      · exact leA_ahead ha
      · exact leA_trans (leA_ahead ha) (hs.1 x hx)
    · rename_i ha
      rw [List.pairwise_cons]
      refine ⟨fun x hx => ?_, putD_sorted hs.2⟩
      rcases List.mem_cons.1 ((putD_perm a t).subset hx) with rfl | hx
      · exact leA_not (by simpa using ha)
      · exact hs.1 x hx
theorem foldD_perm : ∀ (M D : List A), (M.foldl (fun D a => putD a D) D).Perm (M ++ D)
  | [], D => List.Perm.refl _
  | a :: M, D => by
    rw [List.foldl_cons]
    refine (foldD_perm M (putD a D)).trans ?_
    have h1 : (M ++ putD a D).Perm (M ++ a :: D) := (putD_perm a D).append_left M
    exact h1.trans (by rw [List.cons_append]; exact List.perm_middle)
theorem foldD_sorted : ∀ (M : List A) {D : List A}, D.Pairwise leA → (M.foldl (fun D a => putD a D) D).Pairwise leA
  | [], _, h => h
  | a :: M, _, h => foldD_sorted M (putD_sorted h)
theorem sorted_eq : ∀ {L M : List A}, L.Perm M → L.Pairwise leA → M.Pairwise leA → L = M
  | [], M, h, _, _ => by rw [List.nil_perm] at h; exact h.symm
  | x :: L, [], h, _, _ => by have := h.length_eq; simp at this
  | x :: L, y :: M, h, h1, h2 => by
    have s1 := List.pairwise_cons.1 h1
    have s2 := List.pairwise_cons.1 h2
    have e : x = y := by
      have m1 : x ∈ y :: M := h.subset (List.mem_cons_self ..)
      have m2 : y ∈ x :: L := h.symm.subset (List.mem_cons_self ..)
      rcases List.mem_cons.1 m1 with e | m1
      · exact e
      · rcases List.mem_cons.1 m2 with e | m2
        · exact e.symm
        · exact leA_anti (s1.1 y m2) (s2.1 x m1)
    subst e
    rw [sorted_eq (List.Perm.cons_inv h) s1.2 s2.2]
theorem take_due {L : List A} (h : InvA L) (t : Int) : L.take (dueN L t) = L.filter (fun x => !decide (t < x.due)) ∧ L.drop (dueN L t) = L.filter (fun x => decide (t < x.due)) := by
  induction L with
  | nil => exact ⟨rfl, rfl⟩
  | cons y s ih =>
    have hs := List.pairwise_cons.1 h.s
    have iht := ih (h.sub (List.sublist_cons_self y s))
    by_cases hy : t < y.due
    · have e : dueN (y :: s) t = 0 := by unfold dueN; rw [List.findIdx_cons]; simp [hy]
      rw [e]
      have hall : ∀ x ∈ s, t < x.due := fun x hx => by have := (cmpA_neg y x).1 (hs.1 x hx); omega
      refine ⟨?_, ?_⟩
      · rw [List.take_zero]
        symm
        rw [List.filter_eq_nil_iff]
        intro x hx
        rcases List.mem_cons.1 hx with rfl | hx
        · simp [hy]
        · simp [hall x hx]
      · rw [List.drop_zero]
        symm
        rw [List.filter_eq_self]
        intro x hx
        rcases List.mem_cons.1 hx with rfl | hx
        · simp [hy]
        · simp [hall x hx]
    · have e : dueN (y :: s) t = dueN s t + 1 := by unfold dueN; rw [List.findIdx_cons]; simp [hy]
      rw [e, List.take_succ_cons, List.drop_succ_cons, List.filter_cons_of_pos (by simpa using hy), List.filter_cons_of_neg (by simpa using hy), iht.1, iht.2]
      exact ⟨rfl, rfl⟩
theorem due_eq {L R : List A} (h : InvA L) (hp : L.Perm R) (t : Int) : L.take (dueN L t) = dueR R t ∧ (L.drop (dueN L t)).Perm (restR R t) := by
  obtain ⟨h1, h2⟩ := take_due h t
  refine ⟨sorted_eq ?_ ((h.s.sublist (List.take_sublist _ _)).imp fun hc => leA_of hc) (foldD_sorted _ List.Pairwise.nil), by rw [h2]; exact hp.filter _⟩
  rw [h1]
  unfold dueR
  refine (hp.filter _).trans ?_
  have := foldD_perm (R.filter fun x => !decide (t < x.due)) []
  rw [List.append_nil] at this
  exact this.symm
/-- The law's way to look a key up. -/
def lastF (k : Int) (R : List A) : Int × Bool := R.foldl (fun q y => if y.key == k then (y.due, true) else q) (0, false)
theorem lastF_yes {k : Int} {R : List A} {j : Nat} (h : j < R.length) (hk : R[j].key = k) : lastF k (R.take (j + 1)) = (R[j].due, true) := by
  unfold lastF
  rw [List.take_succ_eq_append_getElem h, List.foldl_append]
  simp [hk]
theorem lastF_no {k : Int} {R : List A} {j : Nat} (h : j < R.length) (hk : ¬ R[j].key = k) : lastF k (R.take (j + 1)) = lastF k (R.take j) := by
  unfold lastF
  rw [List.take_succ_eq_append_getElem h, List.foldl_append]
  simp [hk]
theorem fold_none {k : Int} : ∀ {R : List A} (q : Int × Bool), (∀ x ∈ R, x.key ≠ k) → R.foldl (fun q y => if y.key == k then (y.due, true) else q) q = q
  | [], _, _ => rfl
  | y :: t, q, h => by
    rw [List.foldl_cons, if_neg (by have := h y (List.mem_cons_self ..); simpa using this)]
    exact fold_none q fun x hx => h x (List.mem_cons_of_mem _ hx)
theorem fold_one {k : Int} : ∀ {R : List A} (q : Int × Bool) {x : A}, R.Pairwise (fun a b => a.key ≠ b.key) → x ∈ R → x.key = k → R.foldl (fun q y => if y.key == k then (y.due, true) else q) q = (x.due, true)
  | y :: t, q, x, h, hx, hk => by
    have hs := List.pairwise_cons.1 h
    rw [List.foldl_cons]
    rcases List.mem_cons.1 hx with rfl | hx
    · rw [if_pos (by simp [hk])]
      exact fold_none _ fun z hz e => hs.1 z hz (by rw [hk, e])
    · exact fold_one _ hs.2 hx hk
theorem at_last {L R : List A} (h : InvA L) (hp : L.Perm R) (k : Int) : atA L k = lastF k R := by
  have hR : R.Pairwise (fun a b => a.key ≠ b.key) := (hp.pairwise_iff (fun {a b} hab => fun e => hab e.symm)).1 h.k
  unfold atA lastF
  cases hq : L.find? fun x => x.key == k with
  | none =>
    rw [List.find?_eq_none] at hq
    exact (fold_none _ fun x hx e => hq x (hp.symm.subset hx) (by simp [e])).symm
  | some x =>
    have h1 := List.find?_some hq
    have h2 := List.mem_of_find?_eq_some hq
    exact (fold_one _ hR (hp.subset h2) (by simpa using h1)).symm
end Go.Proofs.Ytahohgnkichibaa
