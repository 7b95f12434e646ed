import Derived.Test.YtmgpnpmdmelnkaaGreatDoorM22c
import Derived.Test.YtmgpnpmdmelnkaaGreatDoorF22p
import Derived.WalkKit
import Derived.ProofKit
import Derived.LoopTactic
import Derived.Outline
import Derived.WalkSpells
import Derived.WalkLawsBesides
import Derived.Lib.Hide
import Derived.Deep.LoopGhost
import Derived.Deep.QuietTactic
import Derived.BigQuiet
import Derived.ShutString
namespace Go.Proofs.YtmgpnpmdmelnkaaGreatDoor
open Go.ChangeShapes Go.WideShapes Go.ChangeAt Go.RowKit
set_option linter.unusedVariables false
set_option linter.unusedSimpArgs false
def SesOk (B : Bk) : Prop := ∀ x ∈ B.H ++ B.W, 1 ≤ x.ses ∧ x.ses ≤ 9
theorem ses_acq {B : Bk} (h : SesOk B) {x : Lok} (hx : 1 ≤ x.ses ∧ x.ses ≤ 9) (wait : Bool) : SesOk (acqB B (clr x) wait).1 := by
  unfold acqB
  split
  · split <;> exact h
  · split
    · exact h
    · split
      · split
        · exact h
        · intro y hy
          rcases List.mem_append.1 hy with hy | hy
          · rcases mem_ins.1 hy with rfl | hy
            · exact hx
            · exact h y (List.mem_append.2 (.inl hy))
          · exact h y (List.mem_append.2 (.inr hy))
      · split
        · exact h
        · split
          · exact h
          · intro y hy
            have hy : y ∈ B.H ++ (B.W ++ [clr x]) := hy
            rw [← List.append_assoc] at hy
            rcases List.mem_append.1 hy with hy | hy
            · exact h y hy
            · simp at hy; subst hy; exact hx
theorem removed_ses {t0 : Int} {n : Nat} {q : Lok → Bool} {B B' : Bk} (h : Removed t0 n q B B') : ∀ x ∈ B'.H ++ B'.W, ∃ y ∈ B.H ++ B.W, y.ses = x.ses := by
  intro x hx
  have h1 : sig x ∈ (B'.H ++ B'.W).map sig := List.mem_map.2 ⟨x, hx, rfl⟩
  obtain ⟨y, hy, e⟩ := List.mem_map.1 ((h.perm.mem_iff).1 h1)
  exact ⟨y, (List.mem_filter.1 hy).1, congrArg (·.1) e⟩
theorem ses_removed {t0 : Int} {n : Nat} {q : Lok → Bool} {B B' : Bk} (h : Removed t0 n q B B') (hs : SesOk B) : SesOk B' := fun x hx => by
  obtain ⟨y, hy, e⟩ := removed_ses h x hx
  rw [← e]; exact hs y hy
theorem ses_rel {t0 : Int} {n : Nat} {B : Bk} (h : Inv t0 n B) (hs : SesOk B) (s : Int) (t : ByteArray) (hn : t0 + n < 18446744073709551615) : SesOk (relB B s t).1 := by
  unfold relB
  split
  · exact hs
  · exact ses_removed (removed h _ hn) hs
theorem ses_drop {t0 : Int} {n : Nat} {B : Bk} (h : Inv t0 n B) (hs : SesOk B) (s : Int) (hn : t0 + n < 18446744073709551615) : SesOk (dropB B s).1 := ses_removed (removed h _ hn) hs
theorem drop_inv {t0 : Int} {n : Nat} {B : Bk} (h : Inv t0 n B) (s : Int) (hn : t0 + n < 18446744073709551615) : Inv t0 n (dropB B s).1 := (removed h _ hn).inv
/-- The state of the law's first loop. -/
structure Go22 (w0 w : World) (b : Nat) (t0 : Int) (n : Nat) (u1 u2 : Value) (B : Bk) : Prop where
  bk : BkIs w0 w b u1 u2 B
  inv : Inv t0 n B
  ses : SesOk B
theorem Go22.gr {w0 w w' : World} {b : Nat} {t0 : Int} {n : Nat} {u1 u2 : Value} {B : Bk} (h : Go22 w0 w b t0 n u1 u2 B) (hg : Gr w w') : Go22 w0 w' b t0 n u1 u2 B := ⟨h.bk.gr hg, h.inv, h.ses⟩
theorem inv_bounds {t0 : Int} {n : Nat} {B : Bk} (h : Inv t0 n B) (ht : 0 ≤ t0 ∧ t0 ≤ 1099511627776) (hn : n ≤ 40) : B.H.length + B.W.length ≤ 400 ∧ (0 ≤ B.last ∧ B.last ≤ 18446744073709551615) ∧ (t0 + n < 18446744073709551615) := by
  have h1 := h.len
  have h2 := h.last
  have h3 := h.pre.last
  omega
section
variable {w0 w : World} {b : Nat} {t0 : Int} {n : Nat} {u1 u2 : Value} {B : Bk}
/-- A call of the first loop leaves a book as it should be. -/
def GoTo (w0 w : World) (b : Nat) (t0 : Int) (n : Nat) (e : Ending) (w' : World) : Prop := (∃ v, e = .returned v) ∧ ∃ u1 u2 B, Go22 w0 w' b t0 n u1 u2 B
theorem go_acq (h : Go22 w0 w b t0 n u1 u2 B) (ht : 0 ≤ t0 ∧ t0 ≤ 1099511627776) (hn : n ≤ 39) (hM : ML w0) (s : Int) (t : ByteArray) (x : Bool) (k : Int) (wait : Bool) (hx : IsPath t) (hs : 1 ≤ s ∧ s ≤ 9) :
    Calls Tryz.prog 22 #[.pointer (some ⟨b, 0, none⟩), .agg #[.int .i64 s, .string t, .bool x, .int .u64 k], .bool wait] w (GoTo w0 w b t0 (n + 1)) := by
  obtain ⟨h1, h2, h3⟩ := inv_bounds h.inv ht (by omega)
  refine (bacq_any ⟨s, t, x, k⟩ wait w h.bk h1 h2 hM h.inv.pre.srt hx (fun y hy => h.inv.pre.path y (List.mem_append.2 (.inl hy))) (fun y hy => h.inv.pre.path y (List.mem_append.2 (.inr hy)))).mono ?_
  rintro e w' ⟨he, v1, v2, hk, _⟩
  exact ⟨⟨_, he⟩, v1, v2, _, hk, inv_acq h.inv hx wait h3, ses_acq h.ses hs wait⟩
theorem go_rel (h : Go22 w0 w b t0 n u1 u2 B) (ht : 0 ≤ t0 ∧ t0 ≤ 1099511627776) (hn : n ≤ 39) (hM : ML w0) (s : Int) (t : ByteArray) :
    Calls Tryz.prog 20 #[.pointer (some ⟨b, 0, none⟩), .int .i64 s, .agg #[.string t]] w (GoTo w0 w b t0 (n + 1)) := by
  obtain ⟨h1, h2, h3⟩ := inv_bounds h.inv ht (by omega)
  refine (brel_any s t w h.bk h1 h2 hM h.inv.pre.srt (fun y hy => h.inv.pre.path y (List.mem_append.2 (.inl hy))) (fun y hy => h.inv.pre.path y (List.mem_append.2 (.inr hy)))).mono ?_
  rintro e w' ⟨v3, he, _, v1, v2, hk, _⟩
  exact ⟨⟨_, he⟩, v1, v2, _, hk, (rel_inv h.inv s t h3).more (Nat.le_succ n), ses_rel h.inv h.ses s t h3⟩
theorem go_drop (h : Go22 w0 w b t0 n u1 u2 B) (ht : 0 ≤ t0 ∧ t0 ≤ 1099511627776) (hn : n ≤ 39) (hM : ML w0) (s : Int) :
    Calls Tryz.prog 21 #[.pointer (some ⟨b, 0, none⟩), .int .i64 s] w (GoTo w0 w b t0 (n + 1)) := by
  obtain ⟨h1, h2, h3⟩ := inv_bounds h.inv ht (by omega)
  refine (bdrop_any s w h.bk h1 h2 hM h.inv.pre.srt (fun y hy => h.inv.pre.path y (List.mem_append.2 (.inl hy))) (fun y hy => h.inv.pre.path y (List.mem_append.2 (.inr hy)))).mono ?_
  rintro e w' ⟨v3, he, _, v1, v2, hk, _⟩
  exact ⟨⟨_, he⟩, v1, v2, _, hk, (drop_inv h.inv s h3).more (Nat.le_succ n), ses_drop h.inv h.ses s h3⟩
end
/-- The others' drops: a row of one's own lies where it lay. -/
structure Dr22 (w0 w : World) (b : Nat) (t0 : Int) (n : Nat) (m : Int) (A : Bk) (base : Nat) (v : Value) (L : List Lok) (u1 u2 : Value) (B : Bk) : Prop where
  bk : BkIs w0 w b u1 u2 B
  kept : Kept t0 n m A B
  row : w.ownsRow base 42 4 v L.length (rcells encLok L)
  ob : v.ownBlock ≠ some b
  o1 : v.ownBlock = none ∨ v.ownBlock ≠ u1.ownBlock
  o2 : v.ownBlock = none ∨ v.ownBlock ≠ u2.ownBlock
def DrTo (w0 w : World) (b : Nat) (t0 : Int) (n : Nat) (m d : Int) (A : Bk) (base : Nat) (v : Value) (L : List Lok) (B : Bk) (e : Ending) (w' : World) : Prop :=
  (∃ v, e = .returned v) ∧ ∃ u1 u2, Dr22 w0 w' b t0 n m A base v L u1 u2 (dropB B d).1
theorem Dr22.gr {w0 w w' : World} {b : Nat} {t0 : Int} {n : Nat} {m : Int} {A : Bk} {base : Nat} {v : Value} {L : List Lok} {u1 u2 : Value} {B : Bk} (h : Dr22 w0 w b t0 n m A base v L u1 u2 B) (hg : Gr w w') : Dr22 w0 w' b t0 n m A base v L u1 u2 B :=
  ⟨h.bk.gr hg, h.kept, ownsRow_gr hg h.row, h.ob, h.o1, h.o2⟩
theorem dr_drop {w0 w : World} {b : Nat} {t0 : Int} {n : Nat} {m d : Int} {A : Bk} {base : Nat} {v : Value} {L : List Lok} {u1 u2 : Value} {B : Bk} (h : Dr22 w0 w b t0 n m A base v L u1 u2 B) (hd : d ≠ m) (ht : 0 ≤ t0 ∧ t0 ≤ 1099511627776) (hn : n ≤ 40) (hM : ML w0) :
    Calls Tryz.prog 21 #[.pointer (some ⟨b, 0, none⟩), .int .i64 d] w (DrTo w0 w b t0 n m d A base v L B) := by
  have hi := h.kept.inv
  obtain ⟨h1, h2, h3⟩ := inv_bounds hi ht hn
  refine (bdrop_any d w h.bk h1 h2 hM hi.pre.srt (fun y hy => hi.pre.path y (List.mem_append.2 (.inl hy))) (fun y hy => hi.pre.path y (List.mem_append.2 (.inr hy)))).mono ?_
  rintro e w' ⟨v3, he, _, x1, x2, hk, hF, f1, f2⟩
  have hnew : ∀ {u x : Value}, (v.ownBlock = none ∨ v.ownBlock ≠ u.ownBlock) → From u w x → (v.ownBlock = none ∨ v.ownBlock ≠ x.ownBlock) := by
    intro u x ho hf
    rcases hq : v.ownBlock with _ | k
    · exact .inl rfl
    · refine .inr (fun e => ?_)
      rcases hf k e.symm with h4 | h4
      · rcases ho with h5 | h5
        · rw [hq] at h5; simp at h5
        · exact h5 (hq.trans h4.symm)
      · have := (own_ge h.row hq).2; omega
  refine ⟨⟨_, he⟩, x1, x2, hk, h.kept.trans (dropped hi hd h3).1, ?_, h.ob, hnew h.o1 f1, hnew h.o2 f2⟩
  obtain ⟨r1, r2⟩ := h.row
  refine ⟨r1, r2.imp id ?_⟩
  rintro ⟨g, cap, cur, rfl, hg, hc, r⟩
  have hlt : g < w.heap.size := (Array.getElem?_eq_some_iff.1 hc).1
  refine ⟨g, cap, cur, rfl, hg, (hF.block g hlt (fun e => h.ob (by rw [e]; rfl)) (fun e => ?_) (fun e => ?_)).trans hc, r⟩
  · rcases h.o1 with h4 | h4
    · simp [Value.ownBlock] at h4
    · exact h4 e.symm
  · rcases h.o2 with h4 | h4
    · simp [Value.ownBlock] at h4
    · exact h4 e.symm
/-- Of mine: what is found at the end. -/
theorem mine_found {t0 : Int} {n : Nat} {m : Int} {A B : Bk} (hA : Inv t0 n A) (h : Kept t0 n m A B) (ho : ∀ x ∈ B.H ++ B.W, x.ses = m) :
    B.W = [] ∧ B.H.length = ((A.H ++ A.W).filter (fun x => x.ses == m)).length ∧ ∀ x ∈ (A.H ++ A.W).filter (fun x => x.ses == m), ∃ y, findB B m x.txt = (y, 0) ∧ y.ex = x.ex ∧ (x.tok = 0 ∨ y.tok = x.tok) ∧ t0 < y.tok := by
  obtain ⟨h1, h2, h3⟩ := goes_end h ho
  refine ⟨h1, ?_, fun x hx => ?_⟩
  · rw [h3]
    unfold ofS
    rw [List.filter_map, List.length_map]
    rfl
  · obtain ⟨hx1, hx2⟩ := List.mem_filter.1 hx
    have hxm : x.ses = m := by simpa using hx2
    obtain ⟨y, hy, e⟩ := h2 x hx1 hxm
    have e1 : y.ses = x.ses := congrArg (·.1) e
    have e2 : y.txt = x.txt := congrArg (·.2.1) e
    have e3 : y.ex = x.ex := congrArg (·.2.2) e
    have hf := find_held h.inv hy
    rw [e1, hxm, e2] at hf
    refine ⟨y, hf, e3, ?_, (h.inv.pre.tokH y hy).1⟩
    rcases List.mem_append.1 hx1 with hx1 | hx1
    · right
      have hxB := h.held x hx1 hxm
      have hf2 := find_held h.inv hxB
      rw [hxm, hf] at hf2
      have := congrArg (·.1.tok) hf2
      exact this
    · exact .inl (hA.pre.tokW x hx1)
end Go.Proofs.YtmgpnpmdmelnkaaGreatDoor
