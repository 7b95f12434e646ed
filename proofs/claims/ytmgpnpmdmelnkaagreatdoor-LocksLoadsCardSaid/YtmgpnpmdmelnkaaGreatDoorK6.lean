import Derived.Test.YtmgpnpmdmelnkaaGreatDoorK14
import Derived.Test.YtmgpnpmdmelnkaaGreatDoorF22x
import Derived.WalkKit
import Derived.ProofKit
import Derived.LoopTactic
import Derived.Outline
import Derived.WalkSpells
import Derived.WalkLawsBesides
import Derived.Lib.Hide
import Derived.Deep.LoopGhost
import Derived.Deep.QuietTactic
import Derived.BigQuiet
import Derived.ShutString
import Derived.IntWalk
import Derived.Lib.MinMax
import Derived.Deep.RegionWith
import Derived.Deep.RegionHeld3
namespace Go.Proofs.YtmgpnpmdmelnkaaGreatDoor
open Go.ChangeShapes Go.WideShapes Go.ChangeAt Go.RowKit
set_option linter.unusedVariables false
set_option linter.unusedSimpArgs false
/-- A lock in plain words: the session, the path's parts, whether it is exclusive, the token. -/
abbrev Key22 := Int × List ByteArray × Bool × Int
noncomputable def keyK (x : Lok) : Key22 := (x.ses, pof x.txt, x.ex, x.tok)
def keyR (y : RL) : Key22 := (y.ses, y.l, y.ex, y.tok)
def cflQ (a b : Key22) : Bool := decide (a.1 ≠ b.1) && (a.2.2.1 || b.2.2.1) && (overP a.2.1 b.2.1 || overP b.2.1 a.2.1)
theorem any_map22 {α : Type} (k : α → Key22) (f : α → Bool) (g : Key22 → Bool) (h : ∀ x, f x = g (k x)) (L : List α) : L.any f = (L.map k).any g := by
  rw [List.any_map]
  congr 1
  funext x
  exact h x
theorem free_may {H O : List Lok} {x : Lok} {H' O' : List RL} {x' : RL} (hH : (H.map keyK).Perm (H'.map keyR)) (hO : O.map keyK = O'.map keyR) (hx : keyK x = keyR x') : freeB H O x = mayR H' O' x' := by
  unfold freeB mayR
  rw [any_map22 keyK (cflB x) (cflQ (keyK x)) (fun y => rfl), any_map22 keyK (cflB x) (cflQ (keyK x)) (fun y => rfl), any_map22 keyR (cflR x') (cflQ (keyR x')) (fun y => rfl), any_map22 keyR (cflR x') (cflQ (keyR x')) (fun y => rfl), hx, hO, hH.any_eq]
theorem pof_inj {s t : ByteArray} (hs : IsPath s) (ht : IsPath t) (h : pof s = pof t) : s = t := by
  rw [← (pof_ok hs).2, ← (pof_ok ht).2, h]
theorem cmpP_zero {x y : List ByteArray} : cmpP x y = 0 ↔ x = y := by
  constructor
  · intro h
    have h2 : cmpP y x = 0 := by have := cmpP_anti x y; omega
    have h3 := cmpP_between (List.prefix_refl x) (by omega : cmpP x y ≤ 0) (by omega : cmpP y x ≤ 0)
    have h4 := cmpP_between (List.prefix_refl y) (by omega : cmpP y x ≤ 0) (by omega : cmpP x y ≤ 0)
    exact h3.eq_of_length (Nat.le_antisymm h3.length_le h4.length_le)
  · rintro rfl; exact cmpP_self _
/-- Is it the session's, of the path? -/
def ofK (s : Int) (p : List ByteArray) (k : Key22) : Bool := decide (k.1 = s) && decide (k.2.1 = p)
theorem sameR_of (y : RL) (s : Int) (p : List ByteArray) : sameR y s p = ofK s p (keyR y) := by
  unfold sameR ofK keyR
  simp only [cmpP_zero]
theorem sameB_of {f x : Lok} (hf : IsPath f.txt) (hx : IsPath x.txt) : sameB f x = ofK f.ses (pof f.txt) (keyK x) := by
  unfold sameB ofK keyK
  simp only
  by_cases h1 : f.ses = x.ses
  · rw [h1]
    by_cases h2 : f.txt = x.txt
    · rw [h2]; simp
    · rw [decide_eq_false h2, decide_eq_false (p := pof x.txt = pof f.txt) (fun h => h2 (pof_inj hx hf h).symm)]
  · rw [decide_eq_false h1, decide_eq_false (p := x.ses = f.ses) (fun h => h1 h.symm)]; simp
/-- Two rows, the one's places found as the other's. -/
theorem fst_map {α β : Type} {q : α → Bool} {r : β → Bool} {L : List α} {M : List β} (h : L.map q = M.map r) : fstF q L 0 = fstF r M 0 := by
  have hlen : L.length = M.length := by have := congrArg List.length h; simpa using this
  have hat : ∀ j (hj : j < L.length) (hk : j < M.length), q L[j] = r M[j] := fun j hj hk => by
    have h1 : (L.map q)[j]? = (M.map r)[j]? := by rw [h]
    rw [List.getElem?_map, List.getElem?_map, List.getElem?_eq_getElem hj, List.getElem?_eq_getElem hk] at h1
    simpa using h1
  rcases fstF_spec q L 0 with ⟨h1, h2⟩ | ⟨i, hi, h1, _, h2, h3⟩
  · rcases fstF_spec r M 0 with ⟨h4, _⟩ | ⟨j, hj, _, _, h5, _⟩
    · rw [h1, h4]
    · have := h2 j (by omega) (Nat.zero_le _)
      rw [hat j (by omega) hj, h5] at this; simp at this
  · rcases fstF_spec r M 0 with ⟨_, h5⟩ | ⟨j, hj, h4, _, h5, h6⟩
    · have := h5 i (by omega) (Nat.zero_le _)
      rw [← hat i hi (by omega), h2] at this; simp at this
    · rw [h1, h4]
      have e1 : ¬ j < i := fun hlt => by have := h3 j (by omega) (Nat.zero_le _) hlt; rw [hat j (by omega) hj, h5] at this; simp at this
      have e2 : ¬ i < j := fun hlt => by have := h6 i (by omega) (Nat.zero_le _) hlt; rw [← hat i hi (by omega), h2] at this; simp at this
      omega
theorem apart_eq {L : List Lok} (h : L.Pairwise Apart) {x y : Lok} (hx : x ∈ L) (hy : y ∈ L) (h1 : x.ses = y.ses) (h2 : x.txt = y.txt) : x = y := by
  induction L with
  | nil => simp at hx
  | cons a L ih =>
    rw [List.pairwise_cons] at h
    rcases List.mem_cons.1 hx with ex | hx2
    · rcases List.mem_cons.1 hy with ey | hy2
      · rw [ex, ey]
      · exact absurd ⟨ex ▸ h1, ex ▸ h2⟩ (h.1 y hy2)
    · rcases List.mem_cons.1 hy with ey | hy2
      · exact absurd ⟨(ey ▸ h1).symm, (ey ▸ h2).symm⟩ (h.1 x hx2)
      · exact ih h.2 hx2 hy2
/-- The program's book, and the document's. -/
structure Rel22 (t0 : Int) (n : Nat) (B : Bk) (H W : List RL) : Prop where
  pre : Pre t0 B
  h : (B.H.map keyK).Perm (H.map keyR)
  w : B.W.map keyK = W.map keyR
  last : 0 ≤ B.last ∧ B.last ≤ 18446744073709551615
  len : B.H.length + B.W.length ≤ n
  ses : ∀ x ∈ B.H ++ B.W, 1 ≤ x.ses ∧ x.ses ≤ 9
  wl : B.W.length ≤ 8
theorem rel_new (t : Int) (h0 : 0 ≤ t) (h1 : t ≤ 18446744073709551615) : Rel22 t 0 ⟨[], [], t⟩ [] [] := ⟨pre_new t, List.Perm.refl _, rfl, ⟨h0, h1⟩, by simp, fun x hx => by simp at hx, by simp⟩
theorem Rel22.more {t0 : Int} {n m : Nat} {B : Bk} {H W : List RL} (h : Rel22 t0 n B H W) (hm : n ≤ m) : Rel22 t0 m B H W := ⟨h.pre, h.h, h.w, h.last, Nat.le_trans h.len hm, h.ses, h.wl⟩
theorem Rel22.pathH {t0 : Int} {n : Nat} {B : Bk} {H W : List RL} (h : Rel22 t0 n B H W) : ∀ x ∈ B.H, IsPath x.txt := fun x hx => h.pre.path x (List.mem_append.2 (.inl hx))
theorem Rel22.pathW {t0 : Int} {n : Nat} {B : Bk} {H W : List RL} (h : Rel22 t0 n B H W) : ∀ x ∈ B.W, IsPath x.txt := fun x hx => h.pre.path x (List.mem_append.2 (.inr hx))
theorem Rel22.lenW {t0 : Int} {n : Nat} {B : Bk} {H W : List RL} (h : Rel22 t0 n B H W) : B.W.length = W.length := by have := congrArg List.length h.w; simpa using this
theorem Rel22.lenH {t0 : Int} {n : Nat} {B : Bk} {H W : List RL} (h : Rel22 t0 n B H W) : B.H.length = H.length := by have := h.h.length_eq; simpa using this
/-- What is found. -/
theorem rel_find {t0 : Int} {n : Nat} {B : Bk} {H W : List RL} (h : Rel22 t0 n B H W) {s : Int} {t : ByteArray} (ht : IsPath t) :
    (findB B s t).2 = (findR H W s (pof t)).2 ∧ (0 ≤ (findB B s t).2 → keyK (findB B s t).1 = keyR (findR H W s (pof t)).1 ∧ (findB B s t).1.ses = s ∧ (findB B s t).1.txt = t ∧ (findB B s t).1 ∈ B.H ++ B.W) := by
  have hq : ∀ x ∈ B.H ++ B.W, sameB (askL s t) x = ofK s (pof t) (keyK x) := fun x hx => sameB_of (f := askL s t) ht (h.pre.path x hx)
  have hr : ∀ y, sameR y s (pof t) = ofK s (pof t) (keyR y) := fun y => sameR_of y s _
  have hWm : B.W.map (sameB (askL s t)) = W.map (fun y => sameR y s (pof t)) := by
    have e1 : B.W.map (sameB (askL s t)) = (B.W.map keyK).map (ofK s (pof t)) := by
      rw [List.map_map]
      exact List.map_congr_left fun x hx => hq x (List.mem_append.2 (.inr hx))
    have e2 : W.map (fun y => sameR y s (pof t)) = (W.map keyR).map (ofK s (pof t)) := by
      rw [List.map_map]
      exact List.map_congr_left fun y _ => hr y
    rw [e1, e2, h.w]
  have hWf := fst_map hWm
  have hspec : ∀ x, sameB (askL s t) x = true → x.ses = s ∧ x.txt = t := fun x hx => by
    obtain ⟨a, b⟩ := sameB_iff.1 hx
    exact ⟨a.symm, b.symm⟩
  unfold findB findR
  rw [hWf]
  rcases fstF_spec (sameB (askL s t)) B.H 0 with ⟨h1, h2⟩ | ⟨i, hi, h1, _, h2, h3⟩
  · have hno : fstF (fun y => sameR y s (pof t)) H 0 = -1 := by
      rcases fstF_spec (fun y => sameR y s (pof t)) H 0 with ⟨h4, _⟩ | ⟨j, hj, _, _, h5, _⟩
      · exact h4
      · have hm : keyR H[j] ∈ B.H.map keyK := h.h.mem_iff.2 (List.mem_map_of_mem (List.getElem_mem hj))
        obtain ⟨x, hx, e⟩ := List.mem_map.1 hm
        obtain ⟨k, hk, rfl⟩ := List.getElem_of_mem hx
        have h6 := h2 k hk (Nat.zero_le _)
        rw [hq _ (List.mem_append.2 (.inl hx)), e] at h6
        simp only [hr] at h5
        rw [h5] at h6; simp at h6
    rw [h1, hno, if_neg (show ¬ (0 : Int) ≤ -1 by omega), if_neg (show ¬ (0 : Int) ≤ -1 by omega)]
    rcases fstF_spec (sameB (askL s t)) B.W 0 with ⟨h4, _⟩ | ⟨j, hj, h4, _, h5, _⟩
    · rw [hWf] at h4
      rw [h4, if_neg (show ¬ (0 : Int) ≤ -1 by omega), if_neg (show ¬ (0 : Int) ≤ -1 by omega)]
      exact ⟨rfl, fun h9 => by simp at h9⟩
    · rw [hWf] at h4
      have hjW : j < W.length := by have := h.lenW; omega
      rw [h4, if_pos (show (0 : Int) ≤ (j : Nat) by omega), if_pos (show (0 : Int) ≤ (j : Nat) by omega)]
      refine ⟨rfl, fun _ => ?_⟩
      rw [show ((j : Nat) : Int).toNat = j by omega, List.getD_eq_getElem?_getD, List.getElem?_eq_getElem hj, List.getD_eq_getElem?_getD, List.getElem?_eq_getElem hjW]
      have h6 : (B.W.map keyK)[j]? = (W.map keyR)[j]? := by rw [h.w]
      rw [List.getElem?_map, List.getElem?_map, List.getElem?_eq_getElem hj, List.getElem?_eq_getElem hjW] at h6
      exact ⟨by simpa using h6, (hspec _ h5).1, (hspec _ h5).2, List.mem_append.2 (.inr (List.getElem_mem hj))⟩
  · have hkey : ofK s (pof t) (keyK B.H[i]) = true := by rw [← hq _ (List.mem_append.2 (.inl (List.getElem_mem hi)))]; exact h2
    have hm : keyK B.H[i] ∈ H.map keyR := h.h.mem_iff.1 (List.mem_map_of_mem (List.getElem_mem hi))
    obtain ⟨y, hy, e⟩ := List.mem_map.1 hm
    rcases fstF_spec (fun y => sameR y s (pof t)) H 0 with ⟨_, h5⟩ | ⟨j, hj, h4, _, h5, _⟩
    · obtain ⟨k, hk, rfl⟩ := List.getElem_of_mem hy
      have := h5 k hk (Nat.zero_le _)
      simp only [hr] at this
      rw [e, hkey] at this; simp at this
    · rw [h1, h4, if_pos (show (0 : Int) ≤ (i : Nat) by omega), if_pos (show (0 : Int) ≤ (j : Nat) by omega)]
      refine ⟨rfl, fun _ => ?_⟩
      rw [show ((i : Nat) : Int).toNat = i by omega, show ((j : Nat) : Int).toNat = j by omega, List.getD_eq_getElem?_getD, List.getElem?_eq_getElem hi, List.getD_eq_getElem?_getD, List.getElem?_eq_getElem hj]
      refine ⟨?_, (hspec _ h2).1, (hspec _ h2).2, List.mem_append.2 (.inl (List.getElem_mem hi))⟩
      have hm2 : keyR H[j] ∈ B.H.map keyK := h.h.mem_iff.2 (List.mem_map_of_mem (List.getElem_mem hj))
      obtain ⟨x, hx, e2⟩ := List.mem_map.1 hm2
      have h6 : sameB (askL s t) x = true := by
        rw [hq x (List.mem_append.2 (.inl hx)), e2, ← hr]; exact h5
      have h7 := hspec x h6
      have h8 := hspec _ h2
      have h9 : x = B.H[i] := apart_eq (List.Pairwise.sublist (List.sublist_append_left B.H B.W) h.pre.keys) hx (List.getElem_mem hi) (h7.1.trans h8.1.symm) (h7.2.trans h8.2.symm)
      show keyK B.H[i] = keyR H[j]
      rw [← h9, e2]
/-- serve and pump, one after the other. -/
structure RelS (t0 : Int) (n : Nat) (s : Bk × List Lok × List Lok) (R : List Lok) (r : List RL × Int × List RL × List RL) : Prop where
  pre : Pre t0 ⟨s.1.H, s.2.2 ++ R, s.1.last⟩
  last : s.1.last = r.2.1 ∧ 0 ≤ r.2.1 ∧ r.2.1 ≤ 18446744073709551615
  h : (s.1.H.map keyK).Perm (r.1.map keyR)
  o : s.2.1.map keyK = r.2.2.1.map keyR
  l : s.2.2.map keyK = r.2.2.2.map keyR
  len : s.1.H.length + s.2.2.length + R.length ≤ n ∧ s.2.2.length + R.length ≤ 8 ∧ s.2.1.length + s.2.2.length + R.length ≤ n
  ses : ∀ x ∈ s.1.H ++ (s.2.2 ++ R), 1 ≤ x.ses ∧ x.ses ≤ 9
  po : ∀ x ∈ s.2.1, IsPath x.txt
theorem tokd_key {B : Bk} {x : Lok} {y : RL} (h : keyK x = keyR y) : keyK (tokd B x) = keyR (y.tokd (B.last + 1)) := by
  simp only [keyK, keyR, Prod.mk.injEq] at h
  obtain ⟨h1, h2, h3, _⟩ := h
  simp only [keyK, keyR, tokd, RL.tokd, Prod.mk.injEq]
  exact ⟨h1, h2, h3, trivial⟩
theorem relS_step {t0 : Int} {n : Nat} {s : Bk × List Lok × List Lok} {x : Lok} {R : List Lok} {r : List RL × Int × List RL × List RL} {y : RL} (h : RelS t0 n s (x :: R) r) (hxy : keyK x = keyR y) : RelS t0 n (serveStep s x) R (pumpStep r y) := by
  have hfm := free_may h.h h.l hxy
  have hl := h.last
  have hlen := h.len
  simp only [List.length_cons] at hlen
  have hmem : x ∈ s.1.H ++ (s.2.2 ++ x :: R) := by simp
  have hpath := h.pre.path x hmem
  have hpm : (s.1.H ++ (s.2.2 ++ x :: R)).Perm (x :: (s.1.H ++ (s.2.2 ++ R))) := by
    rw [← List.append_assoc, ← List.append_assoc]
    exact List.perm_middle
  unfold serveStep pumpStep
  by_cases hc : freeB s.1.H s.2.2 x = true ∧ s.1.last ≠ 18446744073709551615
  · rw [if_pos hc, if_pos ⟨by have := hc.2; omega, by rw [← hfm]; exact hc.1⟩]
    have hkeys := h.pre.keys
    have hkeys : (x :: (s.1.H ++ (s.2.2 ++ R))).Pairwise Apart := (hpm.pairwise_iff (fun {a b} hab => hab.symm)).1 hkeys
    rw [List.pairwise_cons] at hkeys
    have hpre : Pre t0 ⟨s.1.H, s.2.2 ++ R, s.1.last⟩ := by
      refine ⟨h.pre.srt, fun y hy => h.pre.path y ?_, h.pre.last, h.pre.tokH, fun y hy => h.pre.tokW y ?_, hkeys.2⟩
      · exact hpm.mem_iff.2 (List.mem_cons_of_mem _ hy)
      · rcases List.mem_append.1 hy with hy | hy
        · exact List.mem_append.2 (.inl hy)
        · exact List.mem_append.2 (.inr (List.mem_cons_of_mem _ hy))
    have hi := ins_perm s.1.H (posK s.1.H (tokd s.1 x)) (tokd s.1 x)
    have hk := tokd_key (B := s.1) hxy
    refine ⟨grant_pre hpre hpath hkeys.1, ⟨by show s.1.last + 1 = r.2.1 + 1; omega, by show 0 ≤ r.2.1 + 1; omega, by show r.2.1 + 1 ≤ _; have := hc.2; omega⟩, ?_, ?_, h.l, ⟨?_, by show s.2.2.length + R.length ≤ 8; omega, ?_⟩, fun z hz => ?_, fun z hz => ?_⟩
    · show ((ins s.1.H _ _).map keyK).Perm ((r.1 ++ [y.tokd (r.2.1 + 1)]).map keyR)
      refine (hi.map keyK).trans ?_
      rw [List.map_cons, List.map_append, List.map_cons, List.map_nil, hk, hl.1]
      exact (List.Perm.cons _ h.h).trans (List.perm_append_singleton _ _).symm
    · show (s.2.1 ++ [tokd s.1 x]).map keyK = (r.2.2.1 ++ [y.tokd (r.2.1 + 1)]).map keyR
      rw [List.map_append, List.map_append, List.map_cons, List.map_nil, List.map_cons, List.map_nil, h.o, hk, hl.1]
    · show (ins s.1.H _ _).length + s.2.2.length + R.length ≤ n
      have := hi.length_eq
      rw [List.length_cons] at this
      omega
    · show (s.2.1 ++ [_]).length + s.2.2.length + R.length ≤ n
      rw [List.length_append, List.length_singleton]; omega
    · have hz : z ∈ ins s.1.H _ _ ++ (s.2.2 ++ R) := hz
      rcases List.mem_append.1 hz with hz | hz
      · rcases mem_ins.1 hz with rfl | hz
        · exact h.ses x hmem
        · exact h.ses z (List.mem_append.2 (.inl hz))
      · exact h.ses z (hpm.mem_iff.2 (List.mem_cons_of_mem _ (List.mem_append.2 (.inr hz))))
    · have hz : z ∈ s.2.1 ++ [tokd s.1 x] := hz
      rcases List.mem_append.1 hz with hz | hz
      · exact h.po z hz
      · rw [List.mem_singleton.1 hz]; exact hpath
  · rw [if_neg hc, if_neg (fun h2 => hc ⟨by rw [hfm]; exact h2.2, by have := h2.1; omega⟩)]
    have he : s.2.2 ++ x :: R = (s.2.2 ++ [x]) ++ R := by simp
    refine ⟨by rw [← he]; exact h.pre, hl, h.h, h.o, ?_, ⟨?_, ?_, ?_⟩, by rw [← he]; exact h.ses, h.po⟩
    · show (s.2.2 ++ [x]).map keyK = (r.2.2.2 ++ [y]).map keyR
      rw [List.map_append, List.map_append, List.map_cons, List.map_nil, List.map_cons, List.map_nil, h.l, hxy]
    · show s.1.H.length + (s.2.2 ++ [x]).length + R.length ≤ n
      rw [List.length_append, List.length_singleton]; omega
    · show (s.2.2 ++ [x]).length + R.length ≤ 8
      rw [List.length_append, List.length_singleton]; omega
    · show s.2.1.length + (s.2.2 ++ [x]).length + R.length ≤ n
      rw [List.length_append, List.length_singleton]; omega
theorem relS_all {t0 : Int} {n : Nat} : ∀ (R : List Lok) (R' : List RL) (s : Bk × List Lok × List Lok) (r : List RL × Int × List RL × List RL), R.map keyK = R'.map keyR → RelS t0 n s R r → RelS t0 n (R.foldl serveStep s) [] (R'.foldl pumpStep r)
  | [], [], s, r, _, h => h
  | [], y :: R', s, r, e, h => by simp at e
  | x :: R, [], s, r, e, h => by simp at e
  | x :: R, y :: R', s, r, e, h => by
    simp only [List.map_cons, List.cons.injEq] at e
    exact relS_all R R' _ _ e.2 (relS_step h e.1)
/-- What serve and pump leave, and give. -/
theorem rel_serve {t0 : Int} {n : Nat} {B : Bk} {H W : List RL} (h : Rel22 t0 n B H W) :
    Rel22 t0 n (serveB B).1 (pumpF H B.last W).1 (pumpF H B.last W).2.2.2 ∧ (serveB B).1.last = (pumpF H B.last W).2.1 ∧ (serveB B).2.map keyK = (pumpF H B.last W).2.2.1.map keyR ∧ (∀ x ∈ (serveB B).2, IsPath x.txt) ∧ (serveB B).2.length ≤ n := by
  have h0 : RelS t0 n (B, [], []) B.W (H, B.last, [], []) := ⟨by simpa using h.pre, ⟨rfl, h.last⟩, h.h, rfl, rfl, ⟨by have := h.len; simpa using this, by have := h.wl; simpa using this, by have := h.len; simp; omega⟩, by simpa using h.ses, fun x hx => by simp at hx⟩
  have h1 := relS_all B.W W _ _ h.w h0
  have hp := h1.pre
  have hs := h1.ses
  have hl := h1.len
  simp only [List.append_nil, List.length_nil, Nat.add_zero] at hp hs hl
  exact ⟨⟨hp, h1.h, h1.l, ⟨by show 0 ≤ (B.W.foldl serveStep (B, [], [])).1.last; rw [h1.last.1]; exact h1.last.2.1, by show (B.W.foldl serveStep (B, [], [])).1.last ≤ _; rw [h1.last.1]; exact h1.last.2.2⟩, hl.1, hs, hl.2.1⟩, h1.last.1, h1.o, h1.po, by have := hl.2.2; show (B.W.foldl serveStep (B, [], [])).2.1.length ≤ n; omega⟩
end Go.Proofs.YtmgpnpmdmelnkaaGreatDoor
namespace Go.Proofs.YtmgpnpmdmelnkaaGreatDoor
open Go.ChangeShapes Go.WideShapes Go.ChangeAt Go.RowKit
set_option linter.unusedVariables false
set_option linter.unusedSimpArgs false
theorem cntS_key (s : Int) (L : List Lok) : cntS s L = (L.map keyK).countP (fun k => decide (k.1 = s)) := by
  unfold cntS
  rw [List.countP_map]
  congr 1
theorem cntR_key (s : Int) (L : List RL) : cntR s L = (((L.map keyR).countP (fun k => decide (k.1 = s)) : Nat) : Int) := by
  unfold cntR
  rw [List.countP_map, List.countP_eq_length_filter]
  rfl
theorem rel_cnt {t0 : Int} {n : Nat} {B : Bk} {H W : List RL} (h : Rel22 t0 n B H W) (s : Int) : ((cntS s B.H + cntS s B.W : Nat) : Int) = cntR s (H ++ W) := by
  rw [cntS_key, cntS_key, cntR_key, List.map_append, List.countP_append, h.w, h.h.countP_eq]
theorem rel_len22 {t0 : Int} {n : Nat} {B : Bk} {H W : List RL} (h : Rel22 t0 n B H W) : B.H.length = H.length ∧ B.W.length = W.length := ⟨h.lenH, h.lenW⟩
/-- A request, by the program and by the document. -/
structure AcqRel (t0 : Int) (n : Nat) (a : Bk × Lok × Int × Int) (r : List RL × List RL × Int × RL × Int × Int) : Prop where
  rel : Rel22 t0 n a.1 r.1 r.2.1
  last : a.1.last = r.2.2.1
  err : a.2.2.2 = r.2.2.2.2.2
  no : r.2.2.2.2.2 ≠ 0 → a.2.1 = zLok ∧ a.2.2.1 = 0
  yes : r.2.2.2.2.2 = 0 → keyK a.2.1 = keyR r.2.2.2.1 ∧ a.2.2.1 = r.2.2.2.2.1 ∧ IsPath a.2.1.txt
theorem clr_key {x : Lok} {y : RL} (h1 : y.ses = x.ses) (h2 : y.l = pof x.txt) (h3 : y.ex = x.ex) : keyK (clr x) = keyR (y.tokd 0) := by
  simp only [keyK, keyR, clr, RL.tokd, Prod.mk.injEq]
  exact ⟨h1.symm, h2.symm, h3.symm, trivial⟩
theorem rel_acq {t0 : Int} {n : Nat} {B : Bk} {H W : List RL} (h : Rel22 t0 n B H W) {x : Lok} {y : RL} (hx : IsPath x.txt) (hs : 1 ≤ x.ses ∧ x.ses ≤ 9) (h1 : y.ses = x.ses) (h2 : y.l = pof x.txt) (h3 : y.ex = x.ex) (wait : Bool) :
    AcqRel t0 (n + 1) (acqB B (clr x) wait) (acqR H W B.last y wait) := by
  have hmo := h.more (Nat.le_succ n)
  have hlen := rel_len22 h
  have hn := h.len
  have hf := rel_find h (s := x.ses) hx
  have hkey := clr_key h1 h2 h3
  have hmay := free_may h.h h.w hkey
  have hcnt := rel_cnt h x.ses
  have hl := h.last
  have e0 : ∀ c : Int, c ≠ 0 → AcqRel t0 (n + 1) (B, zLok, 0, c) (H, W, B.last, zRL, 0, c) := fun c hc => ⟨hmo, rfl, rfl, fun _ => ⟨rfl, rfl⟩, fun h9 => absurd h9 hc⟩
  unfold acqB acqR
  show AcqRel t0 (n + 1) (if 0 ≤ (findB B x.ses x.txt).2 then if (findB B x.ses x.txt).1.ex ≠ x.ex then (B, zLok, 0, 16) else (B, (findB B x.ses x.txt).1, (findB B x.ses x.txt).2, 0)
    else if 8 ≤ cntS x.ses B.H + cntS x.ses B.W then (B, zLok, 0, 17)
    else if freeB B.H B.W (clr x) = true then if B.last = 18446744073709551615 then (B, zLok, 0, 19) else (grantB B (clr x), tokd B (clr x), 0, 0)
    else if wait = false then (B, zLok, 0, 16)
    else if 8 ≤ B.W.length then (B, zLok, 0, 17)
    else (⟨B.H, B.W ++ [clr x], B.last⟩, clr x, (B.W.length : Int) + 1, 0)) _
  rw [h1, h2, h3]
  by_cases c1 : 0 ≤ (findB B x.ses x.txt).2
  · obtain ⟨f1, f2⟩ := hf
    obtain ⟨f3, f4, f5, _⟩ := f2 c1
    rw [if_pos c1, if_pos (show 0 ≤ (findR H W x.ses (pof x.txt)).2 by rw [← f1]; exact c1)]
    have hex : (findB B x.ses x.txt).1.ex = (findR H W x.ses (pof x.txt)).1.ex := by
      simp only [keyK, keyR, Prod.mk.injEq] at f3
      exact f3.2.2.1
    rw [← hex]
    by_cases c2 : (findB B x.ses x.txt).1.ex ≠ x.ex
    · rw [if_pos c2, if_pos c2]
      exact e0 16 (by decide)
    · rw [if_neg c2, if_neg c2]
      exact ⟨hmo, rfl, rfl, fun h9 => absurd rfl h9, fun _ => ⟨f3, f1, by show IsPath (findB B x.ses x.txt).1.txt; rw [f5]; exact hx⟩⟩
  · rw [if_neg c1, if_neg (show ¬ 0 ≤ (findR H W x.ses (pof x.txt)).2 by rw [← hf.1]; exact c1)]
    have hk : ∀ y ∈ B.H ++ B.W, Apart (clr x) y := find_neg (s := x.ses) (t := x.txt) (by omega)
    by_cases c2 : 8 ≤ cntS x.ses B.H + cntS x.ses B.W
    · rw [if_pos c2, if_pos (show 7 < cntR x.ses (H ++ W) by omega)]
      exact e0 17 (by decide)
    · rw [if_neg c2, if_neg (show ¬ 7 < cntR x.ses (H ++ W) by omega)]
      cases hm : freeB B.H B.W (clr x)
      · rw [if_neg (show ¬ (false = true) by simp), if_neg (show ¬ (mayR H W (y.tokd 0) = true) by rw [← hmay, hm]; simp)]
        cases wait
        · rw [if_pos (show false = false from rfl), if_pos (show false = false from rfl)]
          exact e0 16 (by decide)
        · rw [if_neg (show ¬ (true = false) by simp), if_neg (show ¬ (true = false) by simp)]
          by_cases c3 : 8 ≤ B.W.length
          · rw [if_pos c3, if_pos (show 7 < (W.length : Int) by omega)]
            exact e0 17 (by decide)
          · rw [if_neg c3, if_neg (show ¬ 7 < (W.length : Int) by omega)]
            refine ⟨⟨⟨h.pre.srt, fun y hy => ?_, h.pre.last, h.pre.tokH, fun y hy => ?_, ?_⟩, h.h, ?_, hl, ?_, fun y hy => ?_, ?_⟩, rfl, rfl, fun h9 => absurd rfl h9, fun _ => ⟨hkey, by show (B.W.length : Int) + 1 = (W.length : Int) + 1; omega, hx⟩⟩
            · rw [← List.append_assoc] at hy
              rcases List.mem_append.1 hy with hy | hy
              · exact h.pre.path y hy
              · simp at hy; subst hy; exact hx
            · rcases List.mem_append.1 hy with hy | hy
              · exact h.pre.tokW y hy
              · simp at hy; subst hy; rfl
            · show (B.H ++ (B.W ++ [clr x])).Pairwise Apart
              rw [← List.append_assoc]
              have hp : ((B.H ++ B.W) ++ [clr x]).Perm (clr x :: (B.H ++ B.W)) := List.perm_append_singleton _ _
              rw [hp.pairwise_iff (fun {a b} hab => hab.symm), List.pairwise_cons]
              exact ⟨hk, h.pre.keys⟩
            · show (B.W ++ [clr x]).map keyK = (W ++ [y.tokd 0]).map keyR
              rw [List.map_append, List.map_append, List.map_cons, List.map_nil, List.map_cons, List.map_nil, h.w, hkey]
            · show B.H.length + (B.W ++ [clr x]).length ≤ n + 1
              rw [List.length_append, List.length_singleton]; omega
            · rw [← List.append_assoc] at hy
              rcases List.mem_append.1 hy with hy | hy
              · exact h.ses y hy
              · simp at hy; subst hy; exact hs
            · show (B.W ++ [clr x]).length ≤ 8
              rw [List.length_append, List.length_singleton]; omega
      · rw [if_pos (show true = true from rfl), if_pos (show mayR H W (y.tokd 0) = true by rw [← hmay, hm])]
        by_cases c3 : B.last = 18446744073709551615
        · rw [if_pos c3, if_pos c3]
          exact e0 19 (by decide)
        · rw [if_neg c3, if_neg c3]
          have hi := ins_perm B.H (posK B.H (tokd B (clr x))) (tokd B (clr x))
          have hk2 := tokd_key (B := B) hkey
          refine ⟨⟨grant_pre h.pre hx hk, ?_, h.w, ⟨by show 0 ≤ B.last + 1; omega, by show B.last + 1 ≤ _; omega⟩, ?_, fun z hz => ?_, h.wl⟩, rfl, rfl, fun h9 => absurd rfl h9, fun _ => ⟨hk2, rfl, hx⟩⟩
          · show ((ins B.H _ _).map keyK).Perm ((H ++ [y.tokd (B.last + 1)]).map keyR)
            refine (hi.map keyK).trans ?_
            rw [List.map_cons, List.map_append, List.map_cons, List.map_nil, hk2]
            exact (List.Perm.cons _ h.h).trans (List.perm_append_singleton _ _).symm
          · show (ins B.H _ _).length + B.W.length ≤ n + 1
            have := hi.length_eq
            rw [List.length_cons] at this
            omega
          · have hz : z ∈ ins B.H _ _ ++ B.W := hz
            rcases List.mem_append.1 hz with hz | hz
            · rcases mem_ins.1 hz with rfl | hz
              · exact hs
              · exact h.ses z (List.mem_append.2 (.inl hz))
            · exact h.ses z (List.mem_append.2 (.inr hz))
theorem rel_rest {t0 : Int} {n : Nat} {B : Bk} {H W : List RL} (h : Rel22 t0 n B H W) (q : Lok → Bool) (g : RL → Bool) (G : Key22 → Bool) (hq : ∀ x ∈ B.H ++ B.W, (!q x) = G (keyK x)) (hg : ∀ y, g y = G (keyR y)) :
    Rel22 t0 n ⟨restL q B.H, restL q B.W, B.last⟩ (H.filter g) (W.filter g) := by
  have fK : ∀ L : List Lok, (∀ x ∈ L, (!q x) = G (keyK x)) → (restL q L).map keyK = (L.map keyK).filter G := fun L hL => by
    unfold restL
    rw [List.filter_map]
    congr 1
    exact List.filter_congr fun x hx => hL x hx
  have fR : ∀ L : List RL, (L.filter g).map keyR = (L.map keyR).filter G := fun L => by
    rw [List.filter_map]
    congr 1
    exact List.filter_congr fun x _ => hg x
  have l1 := rest_len q B.H
  have l2 := rest_len q B.W
  have hn := h.len
  have hw := h.wl
  refine ⟨pre_rest h.pre q, ?_, ?_, h.last, ?_, fun x hx => ?_, ?_⟩
  · show ((restL q B.H).map keyK).Perm _
    rw [fK _ (fun x hx => hq x (List.mem_append.2 (.inl hx))), fR]
    exact h.h.filter _
  · show (restL q B.W).map keyK = _
    rw [fK _ (fun x hx => hq x (List.mem_append.2 (.inr hx))), fR, h.w]
  · show (restL q B.H).length + (restL q B.W).length ≤ n; omega
  · have hx : x ∈ restL q B.H ++ restL q B.W := hx
    unfold restL at hx
    rw [← List.filter_append] at hx
    exact h.ses x (List.mem_filter.1 hx).1
  · show (restL q B.W).length ≤ 8; omega
/-- What a release or a drop leaves and gives. -/
structure RemRel (t0 : Int) (n : Nat) (b : Bk × List Lok) (r : List RL × Int × List RL × List RL) : Prop where
  rel : Rel22 t0 n b.1 r.1 r.2.2.2
  last : b.1.last = r.2.1
  out : b.2.map keyK = r.2.2.1.map keyR
  path : ∀ x ∈ b.2, IsPath x.txt
  len : b.2.length ≤ n
theorem rel_drop {t0 : Int} {n : Nat} {B : Bk} {H W : List RL} (h : Rel22 t0 n B H W) (s : Int) :
    RemRel t0 n (dropB B s) (pumpF (H.filter (keepR s true [])) B.last (W.filter (keepR s true []))) := by
  have hr := rel_serve (rel_rest h (fun x => x.ses == s) (keepR s true []) (fun k => decide (k.1 ≠ s)) (fun x _ => by
      show (!(x.ses == s)) = decide (x.ses ≠ s)
      by_cases e : x.ses = s <;> simp [e]) (fun y => by
      show (decide (y.ses ≠ s) || (!true && !(sameR y s []))) = decide (y.ses ≠ s)
      simp))
  exact ⟨hr.1, hr.2.1, hr.2.2.1, hr.2.2.2.1, hr.2.2.2.2⟩
theorem rel_rel {t0 : Int} {n : Nat} {B : Bk} {H W : List RL} (h : Rel22 t0 n B H W) (s : Int) {t : ByteArray} (ht : IsPath t) :
    ((findR H W s (pof t)).2 < 0 → relB B s t = (B, [], 20)) ∧ (¬ (findR H W s (pof t)).2 < 0 → (relB B s t).2.2 = 0 ∧ RemRel t0 n ((relB B s t).1, (relB B s t).2.1) (pumpF (H.filter (keepR s false (pof t))) B.last (W.filter (keepR s false (pof t))))) := by
  have hf := rel_find h (s := s) ht
  constructor
  · intro h1
    unfold relB
    rw [if_pos (by rw [hf.1]; exact h1)]
  · intro h1
    have h2 : ¬ (findB B s t).2 < 0 := by rw [hf.1]; exact h1
    obtain ⟨_, f4, f5, _⟩ := hf.2 (by omega)
    have hr := rel_serve (rel_rest h (sameB (findB B s t).1) (keepR s false (pof t)) (fun k => !(ofK s (pof t) k)) (fun x hx => by
        rw [sameB_of (by rw [f5]; exact ht) (h.pre.path x hx), f4, f5]) (fun y => by
        show (decide (y.ses ≠ s) || (!false && !(sameR y s (pof t)))) = !(ofK s (pof t) (keyR y))
        rw [sameR_of]
        unfold ofK keyR
        by_cases e : y.ses = s <;> simp [e]))
    unfold relB
    rw [if_neg h2]
    exact ⟨rfl, hr.1, hr.2.1, hr.2.2.1, hr.2.2.2.1, hr.2.2.2.2⟩
end Go.Proofs.YtmgpnpmdmelnkaaGreatDoor
namespace Go.Proofs.YtmgpnpmdmelnkaaGreatDoor
open Go.ChangeShapes Go.WideShapes Go.ChangeAt Go.RowKit
set_option linter.unusedVariables false
set_option linter.unusedSimpArgs false
/-- Is a lock of the program's the document's? -/
noncomputable def sameX (x : Lok) (y : RL) : Bool := decide (keyK x = keyR y)
theorem sameX_path {x : Lok} {y : RL} (h : ¬ pof x.txt = y.l) : sameX x y = false := decide_eq_false (fun e => h (by simp only [keyK, keyR, Prod.mk.injEq] at e; exact e.2.1))
theorem sameX_rest {x : Lok} {y : RL} (h : pof x.txt = y.l) : sameX x y = (decide (x.ses = y.ses) && (decide (x.ex = y.ex) && decide (x.tok = y.tok))) := by
  unfold sameX keyK keyR
  simp only [Prod.mk.injEq, h, true_and, Bool.decide_and]
set_option maxRecDepth 100000 in
set_option maxHeartbeats 4000000 in
theorem sameX_any (x : Lok) (y : RL) (w : World) (hx : IsPath x.txt) (hy : y.lies w) (hM : ML w) :
    Calls Tryz.prog 25 #[.agg #[.int .i64 x.ses, .string x.txt, .bool x.ex, .int .u64 x.tok], .agg #[.int .i64 y.ses, .slice y.a y.l.length y.c, .bool y.ex, .int .u64 y.tok]] w fun e w' => e = .returned (.bool (sameX x y)) ∧ Gr w w' := by
  have z1 : ∀ (w : World) (o : Obj), (w.alloc o).heap.size = w.heap.size + 1 := fun w o => by simp
  have HX := Lib.hid ((Blk.new w #[.int .i64 x.ses, .string x.txt, .bool x.ex, .int .u64 x.tok] 42).gr ((Gr.refl _).alloc (.cells #[.int .i64 y.ses, .slice y.a y.l.length y.c, .bool y.ex, .int .u64 y.tok] 71)))
  have HY := Lib.hid (Blk.new (w.alloc (.cells #[.int .i64 x.ses, .string x.txt, .bool x.ex, .int .u64 x.tok] 42)) #[.int .i64 y.ses, .slice y.a y.l.length y.c, .bool y.ex, .int .u64 y.tok] 71)
  have HG := Lib.hid (((Gr.refl w).alloc (.cells #[.int .i64 x.ses, .string x.txt, .bool x.ex, .int .u64 x.tok] 42)).alloc (.cells #[.int .i64 y.ses, .slice y.a y.l.length y.c, .bool y.ex, .int .u64 y.tok] 71))
  have HL := Lib.hid (hy : Strs w y.a y.l)
  obtain ⟨ho, ht⟩ := pof_ok hx
  have HP : Hid (∀ w', Gr w w' → Calls Tryz.prog 50 #[.agg #[.string x.txt]] w' (PartsIs (pof x.txt) w')) := Lib.hid fun w' hg => by
    have := parts_any (pof x.txt) w' ho (hM.gr hg)
    rwa [ht] at this
  have HN := Lib.hid (fun h => sameX_path (x := x) (y := y) h)
  have HR := Lib.hid (fun h => sameX_rest (x := x) (y := y) h)
  have hl2 := hy.2.1
  rw [z1] at HY
  clear z1 hx hy hM ho ht
  generalize sameX x y = r at *
  obtain ⟨xs, xt, xe, xk⟩ := x
  obtain ⟨ys, yl, ya, yc, ye, yk⟩ := y
  simp only at *
  generalize pof xt = p at *
  go_enter Tryz.func25, Tryz.ntmps25
  go_upto_region 1 with fail
  generalize (w.alloc (.cells #[.int .i64 xs, .string xt, .bool xe, .int .u64 xk] 42)).alloc (.cells #[.int .i64 ys, .slice ya yl.length yc, .bool ye, .int .u64 yk] 71) = w1 at *
  have x1 := HX.out.cell (i := 1) rfl
  go_wp2_with fail
  refine (HP.out w1 HG.out).mono ?_
  rintro e w2 ⟨pa, pc, rfl, hp, hg2⟩
  have HPS := Lib.hid hp
  have hl1 := hp.2.1
  have HX2 := Lib.hid (HX.out.gr hg2)
  have HY2 := Lib.hid (HY.out.gr hg2)
  have HL2 := Lib.hid (HL.out.gr (HG.out.trans hg2))
  have HG2 := Lib.hid (HG.out.trans hg2)
  clear hp hg2 x1 HX HY HL HG HP
  have y1 := HY2.out.cell (i := 1) rfl
  by_cases hlen : p.length = yl.length
  · go_wp2
    go_loopw [18] (fun i wr => ∃ k : Nat, k ≤ p.length ∧ i = .int .i64 k ∧ Hid (p.take k = yl.take k) ∧ Hid (Gr w2 wr)) (fun i _ => p.length - (intOf i).toNat)
    case atStart => exact ⟨0, by omega, rfl, Lib.hid rfl, Lib.hid (Gr.refl _)⟩
    case round =>
      clear y1
      obtain ⟨k, hk, rfl, hA, hG⟩ := hrel
      by_cases hlt : k < p.length
      · obtain ⟨b1, o1, rfl, _, hc1, _⟩ := HPS.out.at k hlt
        obtain ⟨b2, o2, rfl, _, hc2, _⟩ := HL2.out.at k (by omega)
        replace hc1 := hG.out.cell hc1
        replace hc2 := hG.out.cell hc2
        have hlt2 : k < yl.length := by omega
        have y1 := (HY2.out.gr hG.out).cell (i := 1) rfl
        have hS := Lib.hid (fun (e : p[k] = yl[k]) => same_step hlt hlt2 hA.out e)
        have hN := Lib.hid (fun (e : ¬ p[k] = yl[k]) => HN.out (fun h => by subst h; exact e rfl))
        have hq := str_ne p[k] yl[k]
        generalize p[k] = s at *
        generalize yl[k] = t at *
        by_cases hst : s = t
        · simp only [hst, decide_true] at hq
          go_wp2
          go_region
          go_wp2
          go_roundw
          case rel => exact ⟨k + 1, by omega, by go_num, Lib.hid (hS.out hst), Lib.hid hG.out.drew⟩
          case measure => simp [intOf]; omega
        · simp only [hst, decide_false] at hq
          go_wp2
          go_region
          go_wp2
          go_ret
          exact ⟨by rw [hN.out hst]; rfl, HG2.out.trans hG.out.drew⟩
      · obtain rfl : k = p.length := by omega
        have E := Lib.hid (HR.out (by
          have := hA.out
          rw [List.take_length, hlen, List.take_length] at this
          exact this))
        have x0 := (HX2.out.gr hG.out).cell (i := 0) rfl
        have x2 := (HX2.out.gr hG.out).cell (i := 2) rfl
        have x3 := (HX2.out.gr hG.out).cell (i := 3) rfl
        have y0 := (HY2.out.gr hG.out).cell (i := 0) rfl
        have y2 := (HY2.out.gr hG.out).cell (i := 2) rfl
        have y3 := (HY2.out.gr hG.out).cell (i := 3) rfl
        by_cases h1 : xs = ys
        · have e1 : (xs == ys) = true := by simpa using h1
          have d1 := Lib.hid (decide_eq_true h1)
          clear h1
          by_cases h2 : xe = ye
          · have e2 : (xe == ye) = true := by simpa using h2
            have d2 := Lib.hid (decide_eq_true h2)
            clear h2
            by_cases h3 : xk = yk
            · have e3 : (xk == yk) = true := by simpa using h3
              have d3 := Lib.hid (decide_eq_true h3)
              clear h3
              go_wp2
              go_ret
              exact ⟨by rw [E.out, d1.out, d2.out, d3.out]; rfl, HG2.out.trans hG.out⟩
            · have e3 : (xk == yk) = false := by simpa using h3
              have d3 := Lib.hid (decide_eq_false h3)
              clear h3
              go_wp2
              go_ret
              exact ⟨by rw [E.out, d1.out, d2.out, d3.out]; rfl, HG2.out.trans hG.out⟩
          · have e2 : (xe == ye) = false := by simpa using h2
            have d2 := Lib.hid (decide_eq_false h2)
            clear h2
            go_wp2
            go_ret
            exact ⟨by rw [E.out, d1.out, d2.out]; rfl, HG2.out.trans hG.out⟩
        · have e1 : (xs == ys) = false := by simpa using h1
          have d1 := Lib.hid (decide_eq_false h1)
          clear h1
          go_wp2
          go_ret
          exact ⟨by rw [E.out, d1.out]; rfl, HG2.out.trans hG.out⟩
  · have E := Lib.hid (HN.out (fun h => hlen (by rw [h])))
    go_wp2
    go_ret
    exact ⟨by rw [E.out]; rfl, HG2.out⟩
/-- Are these rows the document's? -/
theorem sameX_true {x : Lok} {y : RL} (h : keyK x = keyR y) : sameX x y = true := decide_eq_true h
set_option maxRecDepth 100000 in
set_option maxHeartbeats 4000000 in
theorem allX_any {b1 b2 : Nat} {v1 v2 : Value} (L : List Lok) (M : List RL) (w : World) (h1 : w.ownsRow b1 42 4 v1 L.length (rcells encLok L)) (h2 : RRow22 w b2 v2 M) (he : L.map keyK = M.map keyR) (hp : ∀ x ∈ L, IsPath x.txt) (hM : ML w) (hl : L.length ≤ 1000) :
    Calls Tryz.prog 27 #[v1, v2] w fun e w' => e = .returned (.bool true) ∧ Gr w w' := by
  have hlen : L.length = M.length := by have := congrArg List.length he; simpa using this
  have HE := Lib.hid (fun k (hk : k < L.length) (hk2 : k < M.length) => show keyK L[k] = keyR M[k] by
    have h9 : (L.map keyK)[k]? = (M.map keyR)[k]? := by rw [he]
    rw [List.getElem?_map, List.getElem?_map, List.getElem?_eq_getElem hk, List.getElem?_eq_getElem hk2] at h9
    simpa using h9)
  have HP := Lib.hid (fun k (hk : k < L.length) => hp _ (List.getElem_mem hk))
  have H1 := Lib.hid h1
  have H2 := Lib.hid h2
  have HM := Lib.hid hM
  obtain ⟨a1, c1, rfl, _⟩ := ownsRow_slice h1
  obtain ⟨a2, c2, rfl, _⟩ := ownsRow_slice h2.1
  have e1 : ((L.length : Int) == (M.length : Int)) = true := by simp [hlen]
  have e2 : ((L.length : Int) != (M.length : Int)) = false := by simp [hlen]
  have HLEN := Lib.hid hlen
  clear h1 h2 he hp hM hlen
  go_enter Tryz.func27, Tryz.ntmps27
  go_wp2
  go_loopw [13] (fun i wr => ∃ k : Nat, k ≤ L.length ∧ i = .int .i64 k ∧ Hid (Gr w wr)) (fun i _ => L.length - (intOf i).toNat)
  case atStart => exact ⟨0, by omega, rfl, Lib.hid (Gr.refl _)⟩
  case round =>
    obtain ⟨k, hk, rfl, hG⟩ := hrel
    by_cases hlt : k < L.length
    · skip
      have hltM : k < M.length := by rw [← HLEN.out]; exact hlt
      obtain ⟨g1, p1, hv1, d0, d1, d2, d3⟩ := lokrow_at (ownsRow_gr hG.out H1.out) k hlt
      simp only [Value.slice.injEq] at hv1
      obtain ⟨rfl, hnn, rfl⟩ := hv1
      clear hnn
      obtain ⟨g2, p2, hv2, f0, f1, f2, f3, hlies⟩ := rlrow_at (H2.out.gr hG.out) k hltM
      simp only [Value.slice.injEq] at hv2
      obtain ⟨rfl, hnn, rfl⟩ := hv2
      clear hnn
      have hke := HE.out k hlt hltM
      have hpx := HP.out k hlt
      generalize L[k] = x at *
      generalize M[k] = y at *
      have HSM : Hid (∀ w', Gr wr w' → Calls Tryz.prog 25 #[.agg #[.int .i64 x.ses, .string x.txt, .bool x.ex, .int .u64 x.tok], .agg #[.int .i64 y.ses, .slice y.a y.l.length y.c, .bool y.ex, .int .u64 y.tok]] w' fun e w'' => e = .returned (.bool true) ∧ Gr w' w'') := Lib.hid fun w' hg => by
        have h9 := sameX_any x y w' hpx (hlies.gr hg) (HM.out.gr (hG.out.trans hg))
        rwa [sameX_true hke] at h9
      have HXX : Hid (∀ w9 : World, Gr wr w9 → (fun w9 => Gr wr w9 ∧ w9.cell? ⟨g1, k * 4, none⟩ = some (.int .i64 x.ses) ∧ w9.cell? ⟨g1, k * 4 + 1, none⟩ = some (.string x.txt) ∧ w9.cell? ⟨g1, k * 4 + 2, none⟩ = some (.bool x.ex) ∧ w9.cell? ⟨g1, k * 4 + 3, none⟩ = some (.int .u64 x.tok) ∧ w9.cell? ⟨g2, k * 4, none⟩ = some (.int .i64 y.ses) ∧ w9.cell? ⟨g2, k * 4 + 1, none⟩ = some (.slice y.a y.l.length y.c) ∧ w9.cell? ⟨g2, k * 4 + 2, none⟩ = some (.bool y.ex) ∧ w9.cell? ⟨g2, k * 4 + 3, none⟩ = some (.int .u64 y.tok)) w9) := Lib.hid fun w9 hg => ⟨hg, hg.cell d0, hg.cell d1, hg.cell d2, hg.cell d3, hg.cell f0, hg.cell f1, hg.cell f2, hg.cell f3⟩
      clear d0 d1 d2 d3 f0 f1 f2 f3 hke hpx hlies
      go_upto_region 6 with fail
      go_wp2_with fail
      refine wp_region_held_drew (S := (fun w9 => Gr wr w9 ∧ w9.cell? ⟨g1, k * 4, none⟩ = some (.int .i64 x.ses) ∧ w9.cell? ⟨g1, k * 4 + 1, none⟩ = some (.string x.txt) ∧ w9.cell? ⟨g1, k * 4 + 2, none⟩ = some (.bool x.ex) ∧ w9.cell? ⟨g1, k * 4 + 3, none⟩ = some (.int .u64 x.tok) ∧ w9.cell? ⟨g2, k * 4, none⟩ = some (.int .i64 y.ses) ∧ w9.cell? ⟨g2, k * 4 + 1, none⟩ = some (.slice y.a y.l.length y.c) ∧ w9.cell? ⟨g2, k * 4 + 2, none⟩ = some (.bool y.ex) ∧ w9.cell? ⟨g2, k * 4 + 3, none⟩ = some (.int .u64 y.tok))) (by kernel_rfl) ?inva (fun h0 => ?_)
      case inva => ((try dsimp only); (exact HXX.out _ (Gr.refl _).drew))
      refine wpAnyH_take (i := 0) (oi := { dst := some 16, op := Go.Op.move (Go.Operand.tmp 0), type := 37, pos := "law.go:57", after := #[], guard := none }) (v := ?va1) rfl (by kernel_rfl) (by kernel_rfl) (by kernel_rfl) (fun _ _ _ h => h) (Or.inl ⟨by rfl, ?ra1⟩) (by assumption) ?_
      case ra1 => (intro w hSw; (try dsimp only at hSw); (go_simp <;> with_reducible rfl))
      try simp only [Act.put, List.setIfInBounds_toArray, List.set_cons_zero, List.set_cons_succ]
      refine wpAnyH_take (i := 1) (oi := { dst := some 17, op := Go.Op.move (Go.Operand.tmp 5), type := 3, pos := "law.go:57", after := #[], guard := none }) (v := ?va2) rfl (by kernel_rfl) (by kernel_rfl) (by kernel_rfl) (fun _ _ _ h => h) (Or.inl ⟨by rfl, ?ra2⟩) (by assumption) ?_
      case ra2 => (intro w hSw; (try dsimp only at hSw); (go_simp <;> with_reducible rfl))
      try simp only [Act.put, List.setIfInBounds_toArray, List.set_cons_zero, List.set_cons_succ]
      refine wpAnyH_take (i := 2) (oi := { dst := some 18, op := Go.Op.indexAddr 37 (Go.Operand.tmp 16) (Go.Operand.tmp 17), type := 0, pos := "law.go:57", after := #[⟨0, .data⟩, ⟨1, .data⟩], guard := none }) (v := ?va3) rfl (by kernel_rfl) (by kernel_rfl) (by kernel_rfl) (fun _ _ _ h => h) (Or.inl ⟨by rfl, ?ra3⟩) (by assumption) ?_
      case ra3 => (intro w hSw; (try dsimp only at hSw); (go_simp <;> with_reducible rfl))
      try simp only [Act.put, List.setIfInBounds_toArray, List.set_cons_zero, List.set_cons_succ]
      refine wpAnyH_take (i := 3) (oi := { dst := some 19, op := Go.Op.load 42 (Go.Operand.tmp 18), type := 42, pos := "law.go:57", after := #[⟨2, .data⟩], guard := none }) (v := ?va4) rfl (by kernel_rfl) (by kernel_rfl) (by kernel_rfl) (fun _ _ _ h => h) (Or.inl ⟨by rfl, ?ra4⟩) (by assumption) ?_
      case ra4 => (intro w hSw; (try dsimp only at hSw); (go_simp <;> with_reducible rfl))
      try simp only [Act.put, List.setIfInBounds_toArray, List.set_cons_zero, List.set_cons_succ]
      refine wpAnyH_take (i := 4) (oi := { dst := some 20, op := Go.Op.move (Go.Operand.tmp 1), type := 27, pos := "law.go:57", after := #[], guard := none }) (v := ?va5) rfl (by kernel_rfl) (by kernel_rfl) (by kernel_rfl) (fun _ _ _ h => h) (Or.inl ⟨by rfl, ?ra5⟩) (by assumption) ?_
      case ra5 => (intro w hSw; (try dsimp only at hSw); (go_simp <;> with_reducible rfl))
      try simp only [Act.put, List.setIfInBounds_toArray, List.set_cons_zero, List.set_cons_succ]
      refine wpAnyH_take (i := 5) (oi := { dst := some 21, op := Go.Op.move (Go.Operand.tmp 5), type := 3, pos := "law.go:57", after := #[], guard := none }) (v := ?va6) rfl (by kernel_rfl) (by kernel_rfl) (by kernel_rfl) (fun _ _ _ h => h) (Or.inl ⟨by rfl, ?ra6⟩) (by assumption) ?_
      case ra6 => (intro w hSw; (try dsimp only at hSw); (go_simp <;> with_reducible rfl))
      try simp only [Act.put, List.setIfInBounds_toArray, List.set_cons_zero, List.set_cons_succ]
      refine wpAnyH_take (i := 6) (oi := { dst := some 22, op := Go.Op.indexAddr 27 (Go.Operand.tmp 20) (Go.Operand.tmp 21), type := 0, pos := "law.go:57", after := #[⟨4, .data⟩, ⟨5, .data⟩], guard := none }) (v := ?va7) rfl (by kernel_rfl) (by kernel_rfl) (by kernel_rfl) (fun _ _ _ h => h) (Or.inl ⟨by rfl, ?ra7⟩) (by assumption) ?_
      case ra7 => (intro w hSw; (try dsimp only at hSw); (go_simp <;> with_reducible rfl))
      try simp only [Act.put, List.setIfInBounds_toArray, List.set_cons_zero, List.set_cons_succ]
      refine wpAnyH_take (i := 7) (oi := { dst := some 23, op := Go.Op.load 71 (Go.Operand.tmp 22), type := 71, pos := "law.go:57", after := #[⟨6, .data⟩], guard := none }) (v := ?va8) rfl (by kernel_rfl) (by kernel_rfl) (by kernel_rfl) (fun _ _ _ h => h) (Or.inl ⟨by rfl, ?ra8⟩) (by assumption) ?_
      case ra8 => (intro w hSw; (try dsimp only at hSw); (go_simp <;> with_reducible rfl))
      try simp only [Act.put, List.setIfInBounds_toArray, List.set_cons_zero, List.set_cons_succ]
      refine wpAnyH_ready (rs := [8]) (by kernel_rfl) (by simp) ?_
      refine AllReadyH.cons (o := { dst := some 24, op := Go.Op.call { callee := Go.Callee.value (Go.Operand.func 25), args := #[Go.Operand.tmp 19, Go.Operand.tmp 23], argTypes := #[42, 71] }, type := 4, pos := "law.go:57", after := #[⟨3, .data⟩, ⟨7, .data⟩], guard := none }) rfl (fun K hK => ?_) AllReadyH.nil
      go_simp
      go_at_call 25
      refine (HSM.out _ h0.1).mono ?_
      rintro e w9 ⟨rfl, hg9⟩
      have HG9 := Lib.hid (h0.1.trans hg9)
      first | refine hK.out _ _ ?sa9 (fun h9 => ?_) | (go_wp2_with fail; refine hK.out _ _ ?sa9 (fun h9 => ?_))
      case sa9 => ((try dsimp only); (exact HXX.out _ HG9.out))
      clear hK K h0
      try simp only [Act.put, List.setIfInBounds_toArray, List.set_cons_zero, List.set_cons_succ]
      refine wpAnyH_take (i := 9) (oi := { dst := some 25, op := Go.Op.unOp Go.UnOp.not 4 (Go.Operand.tmp 24), type := 4, pos := "law.go:57", after := #[⟨8, .data⟩], guard := none }) (v := ?va10) rfl (by kernel_rfl) (by kernel_rfl) (by kernel_rfl) (fun _ _ _ h => h) (Or.inl ⟨by rfl, ?ra10⟩) (by assumption) ?_
      case ra10 => (intro w hSw; (try dsimp only at hSw); (go_simp <;> with_reducible rfl))
      try simp only [Act.put, List.setIfInBounds_toArray, List.set_cons_zero, List.set_cons_succ]
      refine wpAnyH_done (by kernel_rfl) ?_ _
      have HGL := Lib.hid (hG.out.trans HG9.out)
      clear HG9
      go_wp2
      go_roundw
      case rel => exact ⟨k + 1, hlt, by go_num, HGL⟩
      case measure => simp [intOf]; omega
    · obtain rfl : k = L.length := by omega
      go_wp2
      go_ret
      exact ⟨rfl, hG.out⟩
end Go.Proofs.YtmgpnpmdmelnkaaGreatDoor
