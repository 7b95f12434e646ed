import Derived.Test.YtmgpnpmdmelnkaaGreatDoorF22o
import Derived.WalkKit
import Derived.ProofKit
import Derived.LoopTactic
import Derived.Outline
import Derived.WalkSpells
import Derived.WalkLawsBesides
import Derived.Lib.Hide
import Derived.Deep.LoopGhost
import Derived.Deep.QuietTactic
import Derived.BigQuiet
import Derived.ShutString
namespace Go.Proofs.YtmgpnpmdmelnkaaGreatDoor
open Go.ChangeShapes Go.WideShapes Go.ChangeAt Go.RowKit
set_option linter.unusedVariables false
set_option linter.unusedSimpArgs false
/-- What a lock is, but for its token. -/
def sig (x : Lok) : Int × ByteArray × Bool := (x.ses, x.txt, x.ex)
theorem sameB_iff {x y : Lok} : sameB x y = true ↔ x.ses = y.ses ∧ x.txt = y.txt := by unfold sameB; simp
theorem sameB_not {x y : Lok} : sameB x y = false ↔ ¬ (x.ses = y.ses ∧ x.txt = y.txt) := by rw [← sameB_iff]; simp
def Apart (x y : Lok) : Prop := ¬ (x.ses = y.ses ∧ x.txt = y.txt)
theorem Apart.symm {x y : Lok} (h : Apart x y) : Apart y x := fun ⟨a, b⟩ => h ⟨a.symm, b.symm⟩
theorem mem_ins {L : List Lok} {i : Nat} {x y : Lok} : y ∈ ins L i x ↔ y = x ∨ y ∈ L := by
  unfold ins
  have : L = L.take i ++ L.drop i := (List.take_append_drop i L).symm
  constructor
  · intro h
    rcases List.mem_append.1 h with h | h
    · exact .inr (List.mem_of_mem_take h)
    · rcases List.mem_cons.1 h with h | h
      · exact .inl h
      · exact .inr (List.mem_of_mem_drop h)
  · rintro (h | h)
    · subst h; simp
    · rw [this] at h
      rcases List.mem_append.1 h with h | h
      · exact List.mem_append.2 (.inl h)
      · exact List.mem_append.2 (.inr (List.mem_cons_of_mem _ h))
theorem ins_perm (L : List Lok) (i : Nat) (x : Lok) : (ins L i x).Perm (x :: L) := by
  unfold ins
  have h := List.perm_middle (a := x) (l₁ := L.take i) (l₂ := L.drop i)
  rwa [List.take_append_drop] at h
theorem free_mono {H H' O : List Lok} {x : Lok} (h : freeB H O x = false) (hs : ∀ y ∈ H, y ∈ H') : freeB H' O x = false := by
  unfold freeB at *
  simp only [Bool.and_eq_false_iff, Bool.not_eq_false', List.any_eq_true] at *
  rcases h with ⟨y, hy, hc⟩ | h
  · exact .inl ⟨y, hs y hy, hc⟩
  · exact .inr h
/-- A book, but for those who wait without need. -/
structure Pre (t0 : Int) (B : Bk) : Prop where
  srt : SrtK B.H
  path : ∀ x ∈ B.H ++ B.W, IsPath x.txt
  last : t0 ≤ B.last
  tokH : ∀ x ∈ B.H, t0 < x.tok ∧ x.tok ≤ B.last
  tokW : ∀ x ∈ B.W, x.tok = 0
  keys : (B.H ++ B.W).Pairwise Apart
def Stuck (B : Bk) : Prop := ∀ i (h : i < B.W.length), freeB B.H (B.W.take i) B.W[i] = false
theorem pre_new (t : Int) : Pre t ⟨[], [], t⟩ := ⟨List.Pairwise.nil, fun x hx => by simp at hx, Int.le_refl _, fun x hx => by simp at hx, fun x hx => by simp at hx, List.Pairwise.nil⟩
theorem stuck_new (t : Int) : Stuck ⟨[], [], t⟩ := fun i h => by simp at h
theorem grant_pre {t0 : Int} {B : Bk} (h : Pre t0 B) {x : Lok} (hx : IsPath x.txt) (hk : ∀ y ∈ B.H ++ B.W, Apart x y) : Pre t0 (grantB B x) := by
  refine ⟨srt_ins h.srt _, fun y hy => ?_, by have := h.last; show t0 ≤ B.last + 1; omega, fun y hy => ?_, h.tokW, ?_⟩
  · rcases List.mem_append.1 hy with hy | hy
    · rcases mem_ins.1 hy with rfl | hy
      · exact hx
      · exact h.path y (List.mem_append.2 (.inl hy))
    · exact h.path y (List.mem_append.2 (.inr hy))
  · have h0 := h.last
    rcases mem_ins.1 hy with rfl | hy
    · show t0 < B.last + 1 ∧ B.last + 1 ≤ B.last + 1; omega
    · have := h.tokH y hy
      show t0 < y.tok ∧ y.tok ≤ B.last + 1; omega
  · show (ins B.H _ _ ++ B.W).Pairwise Apart
    have hp : (ins B.H (posK B.H (tokd B x)) (tokd B x) ++ B.W).Perm (tokd B x :: (B.H ++ B.W)) := (ins_perm _ _ _).append_right _
    rw [hp.pairwise_iff (fun {a b} hab => hab.symm), List.pairwise_cons]
    exact ⟨fun y hy => hk y hy, h.keys⟩
theorem pre_rest {t0 : Int} {B : Bk} (h : Pre t0 B) (q : Lok → Bool) : Pre t0 ⟨restL q B.H, restL q B.W, B.last⟩ := by
  refine ⟨rest_srt h.srt, fun x hx => ?_, h.last, fun x hx => h.tokH x (List.mem_filter.1 hx).1, fun x hx => h.tokW x (List.mem_filter.1 hx).1, ?_⟩
  · rcases List.mem_append.1 hx with hx | hx
    · exact h.path x (List.mem_append.2 (.inl (List.mem_filter.1 hx).1))
    · exact h.path x (List.mem_append.2 (.inr (List.mem_filter.1 hx).1))
  · show (restL q B.H ++ restL q B.W).Pairwise Apart
    unfold restL
    rw [← List.filter_append]
    exact h.keys.filter _
/-- serve, one after the other: what holds behind the first ones (D), with the others (R) still to come. -/
structure Serving (t0 : Int) (B : Bk) (s : Bk × List Lok × List Lok) (R : List Lok) : Prop where
  pre : Pre t0 ⟨s.1.H, s.2.2 ++ R, s.1.last⟩
  stuck : ∀ i (h : i < s.2.2.length), freeB s.1.H (s.2.2.take i) s.2.2[i] = false
  perm : ((s.1.H ++ (s.2.2 ++ R)).map sig).Perm ((B.H ++ B.W).map sig)
  held : ∀ x ∈ B.H, x ∈ s.1.H
  last : B.last ≤ s.1.last ∧ s.1.last + s.2.2.length + R.length ≤ B.last + B.W.length
theorem serving_step {t0 : Int} {B : Bk} {s : Bk × List Lok × List Lok} {x : Lok} {R : List Lok} (h : Serving t0 B s (x :: R)) (hx : B.last + B.W.length < 18446744073709551615) : Serving t0 B (serveStep s x) R := by
  have hl := h.last
  simp only [List.length_cons] at hl
  unfold serveStep
  split
  · rename_i hc
    have hmem : x ∈ s.1.H ++ (s.2.2 ++ x :: R) := by simp
    have hpath := h.pre.path x hmem
    have hpm : (s.1.H ++ (s.2.2 ++ x :: R)).Perm (x :: (s.1.H ++ (s.2.2 ++ R))) := by
      rw [← List.append_assoc, ← List.append_assoc]
      exact List.perm_middle
    have hkeys := h.pre.keys
    have hkeys : (x :: (s.1.H ++ (s.2.2 ++ R))).Pairwise Apart := (hpm.pairwise_iff (fun {a b} hab => hab.symm)).1 hkeys
    rw [List.pairwise_cons] at hkeys
    have hpre : Pre t0 ⟨s.1.H, s.2.2 ++ R, s.1.last⟩ := by
      refine ⟨h.pre.srt, fun y hy => h.pre.path y ?_, h.pre.last, h.pre.tokH, fun y hy => h.pre.tokW y ?_, hkeys.2⟩
      · exact hpm.mem_iff.2 (List.mem_cons_of_mem _ hy)
      · rcases List.mem_append.1 hy with hy | hy
        · exact List.mem_append.2 (.inl hy)
        · exact List.mem_append.2 (.inr (List.mem_cons_of_mem _ hy))
    refine ⟨grant_pre hpre hpath hkeys.1, fun i hi => free_mono (h.stuck i hi) (fun y hy => mem_ins.2 (.inr hy)), ?_, fun y hy => mem_ins.2 (.inr (h.held y hy)), ?_⟩
    · refine List.Perm.trans ?_ h.perm
      refine List.Perm.trans ?_ (hpm.map sig).symm
      show ((ins s.1.H _ _ ++ (s.2.2 ++ R)).map sig).Perm _
      have h1 : (ins s.1.H (posK s.1.H (tokd s.1 x)) (tokd s.1 x) ++ (s.2.2 ++ R)).Perm (tokd s.1 x :: (s.1.H ++ (s.2.2 ++ R))) := (ins_perm _ _ _).append_right _
      exact h1.map sig
    · show B.last ≤ s.1.last + 1 ∧ s.1.last + 1 + s.2.2.length + R.length ≤ _
      omega
  · rename_i hc
    have he : s.2.2 ++ x :: R = (s.2.2 ++ [x]) ++ R := by simp
    have hfx : freeB s.1.H s.2.2 x = false := by
      rcases hq : freeB s.1.H s.2.2 x with _ | _
      · rfl
      · exact absurd ⟨hq, by omega⟩ hc
    refine ⟨by rw [← he]; exact h.pre, fun i hi => ?_, by rw [← he]; exact h.perm, h.held, ⟨hl.1, by show s.1.last + ((s.2.2 ++ [x]).length : Nat) + R.length ≤ _; rw [List.length_append, List.length_singleton]; omega⟩⟩
    show freeB s.1.H ((s.2.2 ++ [x]).take i) (s.2.2 ++ [x])[i] = false
    simp only [List.length_append, List.length_singleton] at hi
    by_cases e : i = s.2.2.length
    · subst e
      rw [List.take_left', List.getElem_append_right (Nat.le_refl _)]
      · simpa using hfx
      · rfl
    · have hi2 : i < s.2.2.length := by omega
      rw [List.take_append_of_le_length (by omega), List.getElem_append_left hi2]
      exact h.stuck i hi2
theorem serving_all {t0 : Int} {B : Bk} (hx : B.last + B.W.length < 18446744073709551615) : ∀ (R : List Lok) (s : Bk × List Lok × List Lok), Serving t0 B s R → Serving t0 B (R.foldl serveStep s) []
  | [], s, h => h
  | x :: R, s, h => serving_all hx R _ (serving_step h hx)
/-- What serve leaves. -/
structure Served (t0 : Int) (B B' : Bk) : Prop where
  pre : Pre t0 B'
  stuck : Stuck B'
  perm : ((B'.H ++ B'.W).map sig).Perm ((B.H ++ B.W).map sig)
  held : ∀ x ∈ B.H, x ∈ B'.H
  last : B.last ≤ B'.last ∧ B'.last + B'.W.length ≤ B.last + B.W.length
theorem served {t0 : Int} {B : Bk} (h : Pre t0 B) (hx : B.last + B.W.length < 18446744073709551615) : Served t0 B (serveB B).1 := by
  have h0 : Serving t0 B (B, [], []) B.W := ⟨h, fun i hi => by simp at hi, by simp, fun x hx => hx, ⟨Int.le_refl _, by simp⟩⟩
  have h1 := serving_all hx B.W _ h0
  have h2 := h1.pre
  have h3 := h1.perm
  simp only [List.append_nil] at h2 h3
  exact ⟨h2, h1.stuck, h3, h1.held, ⟨h1.last.1, by have := h1.last.2; simp at this; exact this⟩⟩
/-- A book as it is between calls; n bounds what it has. -/
structure Inv (t0 : Int) (n : Nat) (B : Bk) : Prop where
  pre : Pre t0 B
  stuck : Stuck B
  len : B.H.length + B.W.length ≤ n
  last : B.last + B.W.length ≤ t0 + n
theorem find_neg {B : Bk} {s : Int} {t : ByteArray} (h : (findB B s t).2 < 0) : ∀ y ∈ B.H ++ B.W, ¬ (s = y.ses ∧ t = y.txt) := by
  have s1 := fstF_spec (sameB (askL s t)) B.H 0
  have s2 := fstF_spec (sameB (askL s t)) B.W 0
  unfold findB at h
  generalize fstF (sameB (askL s t)) B.H 0 = i1 at *
  generalize fstF (sameB (askL s t)) B.W 0 = i2 at *
  by_cases h1 : 0 ≤ i1
  · rw [if_pos h1] at h; simp at h
  · rw [if_neg h1] at h
    by_cases h2 : 0 ≤ i2
    · rw [if_pos h2] at h; simp at h; omega
    · intro y hy
      rcases s1 with ⟨_, s1⟩ | ⟨i, _, e, _⟩
      · rcases s2 with ⟨_, s2⟩ | ⟨i, _, e, _⟩
        · rcases List.mem_append.1 hy with hy | hy
          · obtain ⟨j, hj, rfl⟩ := List.getElem_of_mem hy
            exact sameB_not.1 (s1 j hj (by omega))
          · obtain ⟨j, hj, rfl⟩ := List.getElem_of_mem hy
            exact sameB_not.1 (s2 j hj (by omega))
        · omega
      · omega
theorem inv_new (t : Int) : Inv t 0 ⟨[], [], t⟩ := ⟨pre_new t, stuck_new t, by simp, by simp⟩
theorem Inv.more {t0 : Int} {n m : Nat} {B : Bk} (h : Inv t0 n B) (hm : n ≤ m) : Inv t0 m B := ⟨h.pre, h.stuck, Nat.le_trans h.len hm, by have := h.last; omega⟩
theorem inv_acq {t0 : Int} {n : Nat} {B : Bk} (h : Inv t0 n B) {x : Lok} (hx : IsPath x.txt) (wait : Bool) (hn : t0 + n < 18446744073709551615) : Inv t0 (n + 1) (acqB B (clr x) wait).1 := by
  have hlt := h.last
  have hln := h.len
  have hmo := h.more (Nat.le_succ n)
  unfold acqB
  split
  · split <;> exact hmo
  · rename_i hf
    have hk : ∀ y ∈ B.H ++ B.W, Apart (clr x) y := find_neg (by omega)
    split
    · exact hmo
    · split
      · split
        · exact hmo
        · refine ⟨grant_pre h.pre hx hk, fun i hi => free_mono (h.stuck i hi) (fun y hy => mem_ins.2 (.inr hy)), ?_, ?_⟩
          · show (ins B.H (posK B.H (tokd B (clr x))) (tokd B (clr x))).length + B.W.length ≤ n + 1
            rw [ins_len _ _ _ (show posK B.H (tokd B (clr x)) ≤ B.H.length from List.findIdx_le_length)]; omega
          · show B.last + 1 + B.W.length ≤ t0 + ((n + 1 : Nat) : Int); omega
      · rename_i hfr
        split
        · exact hmo
        · split
          · exact hmo
          · refine ⟨⟨h.pre.srt, fun y hy => ?_, h.pre.last, h.pre.tokH, fun y hy => ?_, ?_⟩, fun i hi => ?_, ?_, by show B.last + ((B.W ++ [clr x]).length : Nat) ≤ _; rw [List.length_append, List.length_singleton]; omega⟩
            · rw [← List.append_assoc] at hy
              rcases List.mem_append.1 hy with hy | hy
              · exact h.pre.path y hy
              · simp at hy; subst hy; exact hx
            · rcases List.mem_append.1 hy with hy | hy
              · exact h.pre.tokW y hy
              · simp at hy; subst hy; rfl
            · show (B.H ++ (B.W ++ [clr x])).Pairwise Apart
              rw [← List.append_assoc]
              have hp : ((B.H ++ B.W) ++ [clr x]).Perm (clr x :: (B.H ++ B.W)) := List.perm_append_singleton _ _
              rw [hp.pairwise_iff (fun {a b} hab => hab.symm), List.pairwise_cons]
              exact ⟨hk, h.pre.keys⟩
            · show freeB B.H ((B.W ++ [clr x]).take i) (B.W ++ [clr x])[i] = false
              simp only [List.length_append, List.length_singleton] at hi
              by_cases e : i = B.W.length
              · subst e
                rw [List.take_left', List.getElem_append_right (Nat.le_refl _)]
                · simpa using hfr
                · rfl
              · have hi2 : i < B.W.length := by omega
                rw [List.take_append_of_le_length (by omega), List.getElem_append_left hi2]
                exact h.stuck i hi2
            · show B.H.length + (B.W ++ [clr x]).length ≤ _
              rw [List.length_append, List.length_singleton]; omega
structure Removed (t0 : Int) (n : Nat) (q : Lok → Bool) (B B' : Bk) : Prop where
  inv : Inv t0 n B'
  perm : ((B'.H ++ B'.W).map sig).Perm ((restL q (B.H ++ B.W)).map sig)
  held : ∀ x ∈ B.H, q x = false → x ∈ B'.H
theorem removed {t0 : Int} {n : Nat} {B : Bk} (h : Inv t0 n B) (q : Lok → Bool) (hn : t0 + n < 18446744073709551615) : Removed t0 n q B (remB q B).1 := by
  have hl1 := rest_len q B.H
  have hl2 := rest_len q B.W
  have hla := h.last
  have hle := h.len
  have hs := served (pre_rest h.pre q) (by show B.last + ((restL q B.W).length : Nat) < _; omega)
  have hp : (((remB q B).1.H ++ (remB q B).1.W).map sig).Perm ((restL q (B.H ++ B.W)).map sig) := by
    have := hs.perm
    unfold restL at *
    rw [List.filter_append]
    exact this
  have hlen : ((remB q B).1.H ++ (remB q B).1.W).length = (restL q (B.H ++ B.W)).length := by have := hp.length_eq; simpa using this
  have hl3 := rest_len q (B.H ++ B.W)
  rw [List.length_append] at hlen hl3
  refine ⟨⟨hs.pre, hs.stuck, by omega, ?_⟩, hp, fun x hx hq => hs.held x ?_⟩
  · have h4 : (remB q B).1.last + ((remB q B).1.W.length : Nat) ≤ B.last + ((restL q B.W).length : Nat) := hs.last.2
    omega
  · unfold restL
    exact List.mem_filter.2 ⟨hx, by rw [hq]; rfl⟩
theorem rel_inv {t0 : Int} {n : Nat} {B : Bk} (h : Inv t0 n B) (s : Int) (t : ByteArray) (hn : t0 + n < 18446744073709551615) : Inv t0 n (relB B s t).1 := by
  unfold relB
  split
  · exact h
  · exact (removed h _ hn).inv
def ofS (m : Int) (L : List Lok) : List (Int × ByteArray × Bool) := (L.map sig).filter (fun g => g.1 == m)
/-- What a session has, is kept by others' drops. -/
structure Kept (t0 : Int) (n : Nat) (m : Int) (B B' : Bk) : Prop where
  inv : Inv t0 n B'
  perm : (ofS m (B'.H ++ B'.W)).Perm (ofS m (B.H ++ B.W))
  held : ∀ x ∈ B.H, x.ses = m → x ∈ B'.H
  ses : ∀ x ∈ B'.H ++ B'.W, ∃ y ∈ B.H ++ B.W, y.ses = x.ses
theorem Kept.refl {t0 : Int} {n : Nat} {m : Int} {B : Bk} (h : Inv t0 n B) : Kept t0 n m B B := ⟨h, List.Perm.refl _, fun x hx _ => hx, fun x hx => ⟨x, hx, rfl⟩⟩
theorem Kept.trans {t0 : Int} {n : Nat} {m : Int} {A B C : Bk} (h : Kept t0 n m A B) (k : Kept t0 n m B C) : Kept t0 n m A C :=
  ⟨k.inv, k.perm.trans h.perm, fun x hx hm => k.held x (h.held x hx hm) hm, fun x hx => by
    obtain ⟨y, hy, e⟩ := k.ses x hx
    obtain ⟨z, hz, e2⟩ := h.ses y hy
    exact ⟨z, hz, e2.trans e⟩⟩
theorem dropped {t0 : Int} {n : Nat} {m d : Int} {B : Bk} (h : Inv t0 n B) (hd : d ≠ m) (hn : t0 + n < 18446744073709551615) : Kept t0 n m B (dropB B d).1 ∧ ∀ x ∈ (dropB B d).1.H ++ (dropB B d).1.W, x.ses ≠ d := by
  have hr := removed h (fun x => x.ses == d) hn
  have hsub : ∀ x ∈ (dropB B d).1.H ++ (dropB B d).1.W, ∃ y ∈ B.H ++ B.W, y.ses = x.ses ∧ y.ses ≠ d := by
    intro x hx
    have h1 : sig x ∈ ((dropB B d).1.H ++ (dropB B d).1.W).map sig := List.mem_map.2 ⟨x, hx, rfl⟩
    have h2 := (hr.perm.mem_iff).1 h1
    obtain ⟨y, hy, e⟩ := List.mem_map.1 h2
    have h3 := List.mem_filter.1 hy
    exact ⟨y, h3.1, congrArg (·.1) e, by simpa using h3.2⟩
  refine ⟨⟨hr.inv, ?_, fun x hx hm => hr.held x hx (by simp [hm]; exact fun e => hd e.symm), fun x hx => ?_⟩, fun x hx => ?_⟩
  · have h1 := hr.perm.filter (fun g => g.1 == m)
    refine h1.trans ?_
    have : ((restL (fun x => x.ses == d) (B.H ++ B.W)).map sig).filter (fun g => g.1 == m) = ofS m (B.H ++ B.W) := by
      unfold ofS restL
      induction B.H ++ B.W with
      | nil => rfl
      | cons x L ih =>
        by_cases e : x.ses = d
        · have e1 : (!(x.ses == d)) = false := by simp [e]
          have e2 : ((sig x).1 == m) = false := by show (x.ses == m) = false; simp [e, hd]
          rw [List.filter_cons, e1, List.map_cons, List.filter_cons, e2]
          exact ih
        · have e1 : (!(x.ses == d)) = true := by simp [e]
          rw [List.filter_cons, e1, List.map_cons]
          show ((sig x :: (L.filter _).map sig).filter _) = _
          rw [List.filter_cons, List.filter_cons, ih]
    rw [this]
  · obtain ⟨y, hy, e, _⟩ := hsub x hx
    exact ⟨y, hy, e⟩
  · obtain ⟨y, hy, e, e2⟩ := hsub x hx
    rw [← e]; exact e2
/-- All others gone: what waited is held. -/
theorem goes_end {t0 : Int} {n : Nat} {m : Int} {A B : Bk} (h : Kept t0 n m A B) (ho : ∀ x ∈ B.H ++ B.W, x.ses = m) : B.W = [] ∧ (∀ x ∈ A.H ++ A.W, x.ses = m → ∃ y ∈ B.H, sig y = sig x) ∧ B.H.length = (ofS m (A.H ++ A.W)).length := by
  have hw : B.W = [] := by
    rcases hq : B.W with _ | ⟨x, R⟩
    · rfl
    · exfalso
      have h1 := h.inv.stuck 0 (by rw [hq]; simp)
      have hx : B.W[0]'(by rw [hq]; simp) ∈ B.W := List.getElem_mem _
      have hxs := ho _ (List.mem_append.2 (.inr hx))
      unfold freeB at h1
      rw [List.take_zero] at h1
      simp only [List.any_nil, Bool.not_false, Bool.and_true, Bool.not_eq_false', List.any_eq_true] at h1
      obtain ⟨y, hy, hc⟩ := h1
      have hys := ho y (List.mem_append.2 (.inl hy))
      unfold cflB at hc
      rw [hxs, hys] at hc
      simp at hc
  have hall : ofS m (B.H ++ B.W) = (B.H ++ B.W).map sig := by
    unfold ofS
    rw [List.filter_eq_self]
    intro g hg
    obtain ⟨x, hx, rfl⟩ := List.mem_map.1 hg
    simp [sig, ho x hx]
  have hp := h.perm
  rw [hall, hw, List.append_nil] at hp
  refine ⟨hw, fun x hx hm => ?_, by have := hp.length_eq; simpa using this⟩
  have h1 : sig x ∈ ofS m (A.H ++ A.W) := List.mem_filter.2 ⟨List.mem_map.2 ⟨x, hx, rfl⟩, by simp [sig, hm]⟩
  obtain ⟨y, hy, e⟩ := List.mem_map.1 (hp.mem_iff.2 h1)
  exact ⟨y, hy, e⟩
/-- What is held is found. -/
theorem find_held {t0 : Int} {n : Nat} {B : Bk} (h : Inv t0 n B) {y : Lok} (hy : y ∈ B.H) : findB B y.ses y.txt = (y, 0) := by
  have s1 := fstF_spec (sameB (askL y.ses y.txt)) B.H 0
  have hk := h.pre.keys
  rw [List.pairwise_append] at hk
  unfold findB
  generalize fstF (sameB (askL y.ses y.txt)) B.H 0 = i1 at *
  obtain ⟨j, hj, rfl⟩ := List.getElem_of_mem hy
  rcases s1 with ⟨_, s1⟩ | ⟨i, hi, rfl, _, hs, _⟩
  · exact absurd (s1 j hj (by omega)) (by rw [sameB_not]; simp [askL])
  · have hij : i = j := by
      have hs := sameB_iff.1 hs
      rcases Nat.lt_trichotomy i j with hlt | e | hlt
      · exact absurd ⟨hs.1.symm, hs.2.symm⟩ (List.pairwise_iff_getElem.1 hk.1 i j hi hj hlt)
      · exact e
      · exact absurd hs (List.pairwise_iff_getElem.1 hk.1 j i hj hi hlt)
    subst hij
    rw [if_pos (by omega), show (i : Int).toNat = i by omega, List.getD_eq_getElem?_getD, List.getElem?_eq_getElem hi]
    rfl
end Go.Proofs.YtmgpnpmdmelnkaaGreatDoor
