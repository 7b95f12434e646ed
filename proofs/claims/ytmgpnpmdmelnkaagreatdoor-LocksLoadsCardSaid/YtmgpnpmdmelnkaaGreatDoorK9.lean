import Derived.Test.YtmgpnpmdmelnkaaGreatDoorK8
import Derived.WalkKit
import Derived.ProofKit
import Derived.LoopTactic
import Derived.Outline
import Derived.WalkSpells
import Derived.WalkLawsBesides
import Derived.Lib.Hide
import Derived.Deep.LoopGhost
import Derived.Deep.QuietTactic
import Derived.BigQuiet
import Derived.ShutString
import Derived.IntWalk
import Derived.Lib.MinMax
import Derived.Deep.RegionWith
import Derived.Deep.RegionHeld3
namespace Go.Proofs.YtmgpnpmdmelnkaaGreatDoor
open Go.ChangeShapes Go.WideShapes Go.ChangeAt Go.RowKit
set_option linter.unusedVariables false
set_option linter.unusedSimpArgs false
theorem find_held22 {t0 : Int} {B : Bk} (h : Pre t0 B) {y : Lok} (hy : y ∈ B.H) : findB B y.ses y.txt = (y, 0) := by
  have hA : B.H.Pairwise Apart := List.Pairwise.sublist (List.sublist_append_left B.H B.W) h.keys
  unfold findB
  rcases fstF_spec (sameB (askL y.ses y.txt)) B.H 0 with ⟨_, s1⟩ | ⟨i, hi, e, _, hs, _⟩
  · obtain ⟨j, hj, rfl⟩ := List.getElem_of_mem hy
    exact absurd (s1 j hj (by omega)) (by rw [sameB_not]; simp [askL])
  · have hs := sameB_iff.1 hs
    have e2 : B.H[i] = y := apart_eq hA (List.getElem_mem hi) hy hs.1.symm hs.2.symm
    rw [e, if_pos (show (0 : Int) ≤ (i : Nat) by omega), show ((i : Nat) : Int).toNat = i by omega, List.getD_eq_getElem?_getD, List.getElem?_eq_getElem hi]
    show (B.H[i], (0 : Int)) = (y, 0)
    rw [e2]
theorem find_waits22 {t0 : Int} {B : Bk} (h : Pre t0 B) (k : Nat) (hk : k < B.W.length) : findB B B.W[k].ses B.W[k].txt = (B.W[k], (k : Int) + 1) := by
  have hp := h.keys
  rw [List.pairwise_append] at hp
  unfold findB
  rcases fstF_spec (sameB (askL B.W[k].ses B.W[k].txt)) B.H 0 with ⟨e0, _⟩ | ⟨i, hi, _, _, hs, _⟩
  · rw [e0, if_neg (show ¬ (0 : Int) ≤ -1 by omega)]
    rcases fstF_spec (sameB (askL B.W[k].ses B.W[k].txt)) B.W 0 with ⟨_, s1⟩ | ⟨i, hi, e, _, hs, _⟩
    · exact absurd (s1 k hk (by omega)) (by rw [sameB_not]; simp [askL])
    · have hs := sameB_iff.1 hs
      have hik : i = k := by
        rcases Nat.lt_trichotomy i k with hlt | e | hlt
        · exact absurd ⟨hs.1.symm, hs.2.symm⟩ (List.pairwise_iff_getElem.1 hp.2.1 i k hi hk hlt)
        · exact e
        · exact absurd ⟨hs.1, hs.2⟩ (List.pairwise_iff_getElem.1 hp.2.1 k i hk hi hlt)
      subst hik
      rw [e, if_pos (show (0 : Int) ≤ (i : Nat) by omega), show ((i : Nat) : Int).toNat = i by omega, List.getD_eq_getElem?_getD, List.getElem?_eq_getElem hi]
      rfl
  · have hs := sameB_iff.1 hs
    exact absurd ⟨hs.1.symm, hs.2.symm⟩ (hp.2.2 _ (List.getElem_mem hi) _ (List.getElem_mem hk))
theorem DoIs.more {w0 w : World} {b n m : Nat} {v1 v2 : Value} {t0 : Int} {B' : Bk} {e : Ending} {w' : World} (h : DoIs w0 w b v1 v2 t0 n B' e w') (hm : n ≤ m) : DoIs w0 w b v1 v2 t0 m B' e w' := by
  obtain ⟨u1, u2, vH, vW, H', W', he, hd, r⟩ := h
  exact ⟨u1, u2, vH, vW, H', W', he, ⟨hd.bk, hd.rel.more hm, hd.rH, hd.rW, hd.off⟩, r⟩
/-- A call of the law, whatever it is. -/
theorem do_any {w0 : World} {b n : Nat} {v1 v2 vH vW : Value} {t0 : Int} {B : Bk} (H W : List RL) (K S : Int) (Q : List ByteArray) (pa : Option Addr) (pc : Nat) (X Wt : Bool) (w : World) (hd : Doc22 w0 w b v1 v2 t0 n B vH vW H W) (hq : Strs w pa Q) (hn : n ≤ 200) (hM : ML w0) (hE : ET w0) :
    Calls Tryz.prog 10 #[.pointer (some ⟨b, 0, none⟩), .agg #[vH, vW, .int .u64 B.last], .agg #[.int .i64 K, .int .i64 S, .slice pa Q.length pc, .bool X, .bool Wt]] w (DoIs w0 w b v1 v2 t0 (n + 1) (doB B K S Q X Wt)) := by
  unfold doB
  by_cases h0 : K = 0
  · subst h0
    rw [if_pos rfl]
    exact do0_any H W S Q pa pc X Wt w hd hq hn hM hE
  · rw [if_neg h0]
    by_cases h1 : K = 1
    · subst h1
      rw [if_pos rfl]
      exact (do1_any H W S Q pa pc X Wt w hd hq hn hM hE).mono fun _ _ h => h.more (Nat.le_succ _)
    · rw [if_neg h1]
      by_cases h2 : K = 2
      · subst h2
        rw [if_pos rfl]
        exact (do2_any H W S Q pa pc X Wt w hd hq hn hM hE).mono fun _ _ h => h.more (Nat.le_succ _)
      · rw [if_neg h2]
        exact (doN_any H W S Q pa pc X Wt w hd hq hn hM hE K h0 h1 h2).mono fun _ _ h => h.more (Nat.le_succ _)
def pA : List ByteArray := [⟨#[97]⟩]
def pAB : List ByteArray := [⟨#[97]⟩, ⟨#[98]⟩]
theorem okA : okParts pA = true := by decide
theorem okAB : okParts pAB = true := by decide
theorem pof_A : pof (ptext pA) = pA := ptext_inj (pof_ok ⟨pA, okA, rfl⟩).1 okA (pof_ok ⟨pA, okA, rfl⟩).2
theorem pof_AB : pof (ptext pAB) = pAB := ptext_inj (pof_ok ⟨pAB, okAB, rfl⟩).1 okAB (pof_ok ⟨pAB, okAB, rfl⟩).2
/-- The fixed fact's three calls. -/
structure Awake22 (B1 B2 : Bk) (y1 y2 z : Lok) : Prop where
  a1 : acqB ⟨[], [], 0⟩ (clr ⟨1, ptext pA, true, 0⟩) false = (B1, y1, 0, 0)
  t1 : y1.tok = 1
  r1 : ∃ H W, Rel22 0 1 B1 H W
  a2 : acqB B1 (clr ⟨2, ptext pAB, false, 0⟩) true = (B2, y2, 1, 0)
  r2 : ∃ H W, Rel22 0 2 B2 H W
  a3 : (relB B2 1 (ptext pA)).2 = ([z], 0)
  t3 : z.tok = 2
theorem awake_books : ∃ B1 B2 y1 y2 z, Awake22 B1 B2 y1 y2 z := by
  have r0 := rel_acq (rel_new 0 (by omega) (by omega)) (x := ⟨1, ptext pA, true, 0⟩) (y := ⟨1, pA, none, 0, true, 0⟩) ⟨pA, okA, rfl⟩ ⟨by simp, by simp⟩ rfl pof_A.symm rfl false
  have e0 : acqR [] [] (0 : Int) ⟨1, pA, none, 0, true, 0⟩ false = ([⟨1, pA, none, 0, true, 1⟩], [], 1, ⟨1, pA, none, 0, true, 1⟩, 0, 0) := by
    simp [acqR, findR, fstF, cntR, mayR, RL.tokd]
  have r0 : AcqRel 0 1 (acqB ⟨[], [], 0⟩ (clr ⟨1, ptext pA, true, 0⟩) false) (acqR [] [] (0 : Int) ⟨1, pA, none, 0, true, 0⟩ false) := r0
  rw [e0] at r0
  obtain ⟨⟨B1, y1, p1, c1⟩, ha1⟩ : ∃ a, acqB ⟨[], [], 0⟩ (clr ⟨1, ptext pA, true, 0⟩) false = a := ⟨_, rfl⟩
  rw [ha1] at r0
  have l1 : B1.last = 1 := r0.last
  have k1 := r0.yes rfl
  have q1 : c1 = 0 := r0.err
  have s1 := rel_acq r0.rel (x := ⟨2, ptext pAB, false, 0⟩) (y := ⟨2, pAB, none, 0, false, 0⟩) ⟨pAB, okAB, rfl⟩ ⟨by simp, by simp⟩ rfl pof_AB.symm rfl true
  have s1 : AcqRel 0 2 (acqB B1 (clr ⟨2, ptext pAB, false, 0⟩) true) (acqR [⟨1, pA, none, 0, true, 1⟩] [] B1.last ⟨2, pAB, none, 0, false, 0⟩ true) := s1
  rw [l1] at s1
  have hc1 : cflR ⟨2, pAB, none, 0, false, 0⟩ ⟨1, pA, none, 0, true, 1⟩ = true := by decide
  have e1 : acqR [⟨1, pA, none, 0, true, 1⟩] [] (1 : Int) ⟨2, pAB, none, 0, false, 0⟩ true = ([⟨1, pA, none, 0, true, 1⟩], [⟨2, pAB, none, 0, false, 0⟩], 1, ⟨2, pAB, none, 0, false, 0⟩, 1, 0) := by
    simp [acqR, findR, fstF, cntR, mayR, RL.tokd, sameR, hc1]
  rw [e1] at s1
  obtain ⟨⟨B2, y2, p2, c2⟩, ha2⟩ : ∃ a, acqB B1 (clr ⟨2, ptext pAB, false, 0⟩) true = a := ⟨_, rfl⟩
  rw [ha2] at s1
  have l2 : B2.last = 1 := s1.last
  have k2 := s1.yes rfl
  have q2 : c2 = 0 := s1.err
  have t1 := rel_rel2 s1.rel 1 (t := ptext pA) ⟨pA, okA, rfl⟩
  rw [pof_A] at t1
  have t1 : (relB B2 1 (ptext pA)).2.2 = (relRes [⟨1, pA, none, 0, true, 1⟩] [⟨2, pAB, none, 0, false, 0⟩] B2.last 1 pA).2 ∧ RemRel 0 2 ((relB B2 1 (ptext pA)).1, (relB B2 1 (ptext pA)).2.1) (relRes [⟨1, pA, none, 0, true, 1⟩] [⟨2, pAB, none, 0, false, 0⟩] B2.last 1 pA).1 := t1
  rw [l2] at t1
  have hs : cmpP pA pA = 0 := cmpP_self _
  have e2 : relRes [⟨1, pA, none, 0, true, 1⟩] [⟨2, pAB, none, 0, false, 0⟩] (1 : Int) 1 pA = (([⟨2, pAB, none, 0, false, 2⟩], 2, [⟨2, pAB, none, 0, false, 2⟩], []), 0) := by
    simp [relRes, findR, fstF, sameR, hs, keepR, pumpF, pumpStep, mayR, RL.tokd]
  rw [e2] at t1
  have o := t1.2.out
  simp only [List.map_cons, List.map_nil] at o
  obtain ⟨L, hL⟩ : ∃ L, (relB B2 1 (ptext pA)).2.1 = L := ⟨_, rfl⟩
  rw [hL] at o
  rcases L with _ | ⟨z, _ | ⟨z', L⟩⟩
  · simp at o
  · simp only [List.map_cons, List.map_nil, List.cons.injEq, and_true] at o
    refine ⟨B1, B2, y1, y2, z, ⟨by rw [ha1, q1, show p1 = 0 from k1.2.1], ?_, ⟨_, _, r0.rel⟩, by rw [ha2, q2, show p2 = 1 from k2.2.1], ⟨_, _, s1.rel⟩, Prod.ext hL t1.1, ?_⟩⟩
    · have := congrArg (fun k : Key22 => k.2.2.2) k1.1
      exact this
    · have := congrArg (fun k : Key22 => k.2.2.2) o
      exact this
  · simp at o
end Go.Proofs.YtmgpnpmdmelnkaaGreatDoor
namespace Go.Proofs.YtmgpnpmdmelnkaaGreatDoor
open Go.ChangeShapes Go.WideShapes Go.ChangeAt Go.RowKit
set_option linter.unusedVariables false
set_option linter.unusedSimpArgs false
set_option maxRecDepth 100000 in
theorem at22_any (s : ByteArray) (l : List ByteArray) (w : World) (hs : parseOf s = some l) (hz : s.size ≤ 1000000) (he : ET w) (hm : ML w) :
    Calls Tryz.prog 23 #[.string s] w fun e w' => e = .returned (.agg #[.string (ptext l)]) ∧ Gr w w' := by
  have z1 : ∀ (w : World) (o : Obj), (w.alloc o).heap.size = w.heap.size + 1 := fun w o => by simp
  have HG := Lib.hid ((Gr.refl w).alloc (.cells #[.string ⟨#[]⟩] 40))
  have HR := Lib.hid (Blk.new w #[.string ⟨#[]⟩] 40)
  have HP := Lib.hid (fun w' (hg : Gr w w') => parse_any s w' hz (he.gr hg) (hm.gr hg))
  rw [hs] at HP
  clear he hm hz hs
  go_enter Tryz.func23, Tryz.ntmps23
  go_upto_region 1 with fail
  generalize w.alloc (.cells #[.string ⟨#[]⟩] 40) = w1 at *
  go_wp2_with fail
  refine (HP.out w1 HG.out).mono ?_
  rintro e w2 ⟨rfl, hg2⟩
  have hga := hg2.trans ((Gr.refl w2).alloc (.cells #[.string (ptext l)] 40))
  have HN := Lib.hid (Blk.new w2 #[.string (ptext l)] 40)
  have HR2 := Lib.hid (HR.out.gr hga)
  have HG2 := Lib.hid (HG.out.trans hga)
  clear hg2 hga
  go_upto_region 2 with fail
  generalize w2.alloc (.cells #[.string (ptext l)] 40) = w3 at *
  have n0 := HN.out.cell (i := 0) rfl
  have q0 := HR2.out.cell (i := 0) rfl
  have f0 := HR2.out.free 0
  go_wp2
  refine bodyPost_ret (v := .agg #[.string (ptext l)]) (by simp [results, Tryz.results23, go_sem, q0, f0]; try rfl) rfl ?_
  exact ⟨rfl, HG2.out.setCell (p := ⟨_, 0, none⟩) (Nat.le_refl _) _⟩
theorem parse_A : parseOf ⟨#[47, 97]⟩ = some pA := by rfl
theorem parse_AB : parseOf ⟨#[47, 97, 47, 98]⟩ = some pAB := by rfl
set_option maxRecDepth 100000 in
set_option maxHeartbeats 4000000 in
theorem awake22_any (w : World) (he : ET w) (hm : ML w) : Calls Tryz.prog 7 #[] w fun e w' => e = .returned (.bool true) ∧ Gr w w' := by
  obtain ⟨B1, B2, y1, y2, z, hA⟩ := awake_books
  obtain ⟨H1, W1, r1⟩ := hA.r1
  obtain ⟨H2, W2, r2⟩ := hA.r2
  have R1 := Lib.hid r1
  have R2 := Lib.hid r2
  have HA := Lib.hid hA
  have HT1 := Lib.hid hA.t1
  have HT3 := Lib.hid hA.t3
  have HE := Lib.hid (fun w' (hg : Gr w w') => he.gr hg)
  have HM := Lib.hid (fun w' (hg : Gr w w') => hm.gr hg)
  have HMW := Lib.hid hm
  have PA := Lib.hid parse_A
  have PAB := Lib.hid parse_AB
  clear r1 r2 hA he hm
  go_enter Tryz.func7, Tryz.ntmps7
  go_wp2_with fail
  refine (bkNew_any 0 w w (Gr.refl w)).mono ?_
  rintro e w1 ⟨b, rfl, hb, hk1, hg1⟩
  have K1 := Lib.hid hk1
  clear hb hk1 hg1
  go_upto_region 4 with fail
  go_wp2_with fail
  refine (at22_any ⟨#[47, 97]⟩ pA w1 PA.out (by decide) (HE.out _ K1.out.grown) (HM.out _ K1.out.grown)).mono ?_
  rintro e w2 ⟨rfl, hg2⟩
  have K2 := Lib.hid (K1.out.gr hg2)
  clear hg2
  go_wp2_with fail
  refine (bacq_any ⟨1, ptext pA, true, 0⟩ false w2 K2.out (by simp) (by simp) HMW.out List.Pairwise.nil ⟨pA, okA, rfl⟩ (fun x hx => by simp at hx) (fun x hx => by simp at hx)).mono ?_
  rw [HA.out.a1]
  rintro e w3 ⟨rfl, u1, u2, hk3, _, _, _⟩
  have hga := (Gr.refl w3).alloc (.cells #[.int .i64 y1.ses, .string y1.txt, .bool y1.ex, .int .u64 y1.tok] 42)
  have K3 := Lib.hid (hk3.gr hga)
  have Y3 := Lib.hid (Blk.new w3 #[.int .i64 y1.ses, .string y1.txt, .bool y1.ex, .int .u64 y1.tok] 42)
  have hb3 : b < w3.heap.size := hk3.blk.lt
  have hv3 := Lib.hid (And.intro (fun k e => (hk3.r1.lt k e).2) (fun k e => (hk3.r2.lt k e).2) : (∀ k, u1.ownBlock = some k → k < w3.heap.size) ∧ ∀ k, u2.ownBlock = some k → k < w3.heap.size)
  clear hk3 hga
  go_upto_region 5 with fail
  generalize w3.alloc (.cells #[.int .i64 y1.ses, .string y1.txt, .bool y1.ex, .int .u64 y1.tok] 42) = w4 at *
  generalize w3.heap.size = c4 at *
  go_wp2_with fail
  refine (at22_any ⟨#[47, 97, 47, 98]⟩ pAB w4 PAB.out (by decide) (HE.out _ K3.out.grown) (HM.out _ K3.out.grown)).mono ?_
  rintro e w5 ⟨rfl, hg5⟩
  have K5 := Lib.hid (K3.out.gr hg5)
  have Y5 := Lib.hid (Y3.out.gr hg5)
  clear hg5
  go_wp2_with fail
  refine (bacq_any ⟨2, ptext pAB, false, 0⟩ true w5 K5.out (by have := R1.out.len; omega) R1.out.last HMW.out R1.out.pre.srt ⟨pAB, okAB, rfl⟩ R1.out.pathH R1.out.pathW).mono ?_
  rw [HA.out.a2]
  rintro e w6 ⟨rfl, t1, t2, hk6, hF, f1, f2⟩
  have hga := (Gr.refl w6).alloc (.cells #[.int .i64 y2.ses, .string y2.txt, .bool y2.ex, .int .u64 y2.tok] 42)
  have K6 := Lib.hid (hk6.gr hga)
  have Y6 := Lib.hid ((Y5.out.far22 hF (by omega) (fun e => by have := hv3.out.1 _ e; omega) (fun e => by have := hv3.out.2 _ e; omega)).gr hga)
  have hc5 : c4 < w5.heap.size := Y5.out.lt
  have hb6 : b < w6.heap.size := hk6.blk.lt
  have hv6 := Lib.hid (And.intro (fun e => by rcases f1 _ e with q | q; exact absurd (hv3.out.1 _ q) (by omega); omega) (fun e => by rcases f2 _ e with q | q; exact absurd (hv3.out.2 _ q) (by omega); omega) : t1.ownBlock ≠ some c4 ∧ t2.ownBlock ≠ some c4)
  clear hk6 hga hF f1 f2
  go_upto_region 6 with fail
  generalize w6.alloc (.cells #[.int .i64 y2.ses, .string y2.txt, .bool y2.ex, .int .u64 y2.tok] 42) = w7 at *
  go_wp2_with fail
  refine (at22_any ⟨#[47, 97]⟩ pA w7 PA.out (by decide) (HE.out _ K6.out.grown) (HM.out _ K6.out.grown)).mono ?_
  rintro e w8 ⟨rfl, hg8⟩
  have K8 := Lib.hid (K6.out.gr hg8)
  have Y8 := Lib.hid (Y6.out.gr hg8)
  clear hg8
  go_wp2_with fail
  refine (brel_any 1 (ptext pA) w8 K8.out (by have := R2.out.len; omega) R2.out.last HMW.out R2.out.pre.srt R2.out.pathH R2.out.pathW).mono ?_
  rw [show (relB B2 1 (ptext pA)).2.1 = [z] by rw [HA.out.a3], show (relB B2 1 (ptext pA)).2.2 = 0 by rw [HA.out.a3]]
  rintro e w9 ⟨v3, rfl, hr3, x1, x2, hk9, hF9, _, _⟩
  have Y9 := Lib.hid (Y8.out.far22 hF9 (by omega) hv6.out.1 hv6.out.2)
  obtain ⟨g, cap, rfl, _, _, _, d3⟩ := lokrow_at hr3 0 (by simp)
  replace d3 : w9.cell? ⟨g, 3, none⟩ = some (.int .u64 z.tok) := by simpa using d3
  rw [HT3.out] at d3
  have y3 := Y9.out.cell (i := 3) rfl
  replace y3 : w9.cell? ⟨c4, 3, none⟩ = some (.int .u64 y1.tok) := y3
  rw [HT1.out] at y3
  have HG9 := Lib.hid hk9.grown
  clear hr3 hk9 hF9
  go_wp2
  go_ret
  exact ⟨rfl, HG9.out⟩
end Go.Proofs.YtmgpnpmdmelnkaaGreatDoor
namespace Go.Proofs.YtmgpnpmdmelnkaaGreatDoor
open Go.ChangeShapes Go.WideShapes Go.ChangeAt Go.RowKit
set_option linter.unusedVariables false
set_option linter.unusedSimpArgs false
theorem cflB_symm (x y : Lok) : cflB x y = cflB y x := by
  have e1 : decide (x.ses ≠ y.ses) = decide (y.ses ≠ x.ses) := decide_eq_decide.2 ⟨fun h => h.symm, fun h => h.symm⟩
  unfold cflB lineP
  rw [e1, Bool.or_comm x.ex y.ex, Bool.or_comm (overP (pof x.txt) (pof y.txt))]
theorem free_true {H O : List Lok} {x : Lok} (h : freeB H O x = true) : (∀ y ∈ H, cflB x y = false) ∧ ∀ y ∈ O, cflB x y = false := by
  unfold freeB at h
  simp only [Bool.and_eq_true, Bool.not_eq_true', List.any_eq_false] at h
  exact ⟨fun y hy => by simpa using h.1 y hy, fun y hy => by simpa using h.2 y hy⟩
/-- No two that are held conflict; each that waits must, or the tokens are out. -/
structure Safe22 (B : Bk) : Prop where
  cfl : B.H.Pairwise fun x y => cflB x y = false
  stuck : ∀ i (h : i < B.W.length), freeB B.H (B.W.take i) B.W[i] = false ∨ B.last = 18446744073709551615
theorem safe_new (t : Int) : Safe22 ⟨[], [], t⟩ := ⟨List.Pairwise.nil, fun i h => by simp at h⟩
theorem cfl_ins {L : List Lok} (h : L.Pairwise fun x y => cflB x y = false) (i : Nat) {x : Lok} (hx : ∀ y ∈ L, cflB x y = false) : (ins L i x).Pairwise fun x y => cflB x y = false := by
  rw [(ins_perm L i x).pairwise_iff (fun {a b} hab => by rw [cflB_symm]; exact hab), List.pairwise_cons]
  exact ⟨hx, h⟩
/-- serve, one after the other: what holds for those that are granted and those that wait on. -/
structure SvA (B : Bk) (pos : Lok → Nat) (s : Bk × List Lok × List Lok) (R : List Lok) : Prop where
  cfl : s.1.H.Pairwise fun x y => cflB x y = false
  stuck : ∀ i (h : i < s.2.2.length), freeB s.1.H (s.2.2.take i) s.2.2[i] = false ∨ s.1.last = 18446744073709551615
  last : B.last ≤ s.1.last
  left : ∀ z ∈ s.2.2, z ∈ B.W
  new : ∀ y ∈ s.1.H, y ∈ B.H ∨ (B.last < y.tok ∧ ∃ x ∈ B.W, y.ses = x.ses ∧ y.txt = x.txt ∧ (∀ z ∈ R, pos x < pos z) ∧ ∀ z ∈ s.2.2, pos z < pos x → cflB y z = false)
theorem svA_step {B : Bk} {pos : Lok → Nat} {s : Bk × List Lok × List Lok} {x : Lok} {R : List Lok} (h : SvA B pos s (x :: R)) (hx : x ∈ B.W) (hp : ∀ z ∈ R, pos x < pos z) : SvA B pos (serveStep s x) R := by
  unfold serveStep
  by_cases hc : freeB s.1.H s.2.2 x = true ∧ s.1.last ≠ 18446744073709551615
  · rw [if_pos hc]
    obtain ⟨f1, f2⟩ := free_true hc.1
    refine ⟨cfl_ins h.cfl _ f1, fun i hi => ?_, ?_, h.left, fun y hy => ?_⟩
    · rcases h.stuck i hi with q | q
      · exact .inl (free_mono q (fun y hy => mem_ins.2 (.inr hy)))
      · exact absurd q hc.2
    · have := h.last
      show B.last ≤ s.1.last + 1; omega
    · rcases mem_ins.1 hy with e | hy
      · refine .inr ⟨?_, x, hx, ?_, ?_, hp, fun z hz _ => ?_⟩
        · rw [e]; have := h.last; show B.last < s.1.last + 1; omega
        · rw [e]; rfl
        · rw [e]; rfl
        · rw [e]; exact f2 z hz
      · rcases h.new y hy with q | ⟨q1, x', q2, q3, q4, q5, q6⟩
        · exact .inl q
        · exact .inr ⟨q1, x', q2, q3, q4, fun z hz => q5 z (List.mem_cons_of_mem _ hz), q6⟩
  · rw [if_neg hc]
    refine ⟨h.cfl, fun i hi => ?_, h.last, fun z hz => ?_, fun y hy => ?_⟩
    · show freeB s.1.H ((s.2.2 ++ [x]).take i) (s.2.2 ++ [x])[i] = false ∨ s.1.last = _
      have hi : i < (s.2.2 ++ [x]).length := hi
      simp only [List.length_append, List.length_singleton] at hi
      by_cases e : i = s.2.2.length
      · subst e
        rw [List.take_left', List.getElem_append_right (Nat.le_refl _)]
        · simp only [Nat.sub_self, List.getElem_cons_zero]
          by_cases hl : s.1.last = 18446744073709551615
          · exact .inr hl
          · refine .inl ?_
            rcases hq : freeB s.1.H s.2.2 x with _ | _
            · rfl
            · exact absurd ⟨hq, hl⟩ hc
        · rfl
      · have hi2 : i < s.2.2.length := by omega
        rw [List.take_append_of_le_length (by omega), List.getElem_append_left hi2]
        exact h.stuck i hi2
    · rcases List.mem_append.1 hz with hz | hz
      · exact h.left z hz
      · rw [List.mem_singleton.1 hz]; exact hx
    · rcases h.new y hy with q | ⟨q1, x', q2, q3, q4, q5, q6⟩
      · exact .inl q
      · refine .inr ⟨q1, x', q2, q3, q4, fun z hz => q5 z (List.mem_cons_of_mem _ hz), fun z hz hlt => ?_⟩
        rcases List.mem_append.1 hz with hz | hz
        · exact q6 z hz hlt
        · rw [List.mem_singleton.1 hz] at hlt
          have := q5 x (List.mem_cons_self ..)
          omega
theorem svA_all {B : Bk} {pos : Lok → Nat} : ∀ (R : List Lok) (s : Bk × List Lok × List Lok), (∀ z ∈ R, z ∈ B.W) → R.Pairwise (fun a c => pos a < pos c) → SvA B pos s R → SvA B pos (R.foldl serveStep s) []
  | [], s, _, _, h => h
  | x :: R, s, hm, hp, h => by
    rw [List.pairwise_cons] at hp
    exact svA_all R _ (fun z hz => hm z (List.mem_cons_of_mem _ hz)) hp.2 (svA_step h (hm x (List.mem_cons_self ..)) hp.1)
theorem svA_served {B : Bk} {pos : Lok → Nat} (hc : B.H.Pairwise fun x y => cflB x y = false) (hp : B.W.Pairwise fun a c => pos a < pos c) : SvA B pos (B.W.foldl serveStep (B, [], [])) [] :=
  svA_all B.W _ (fun z hz => hz) hp ⟨hc, fun i h => by simp at h, Int.le_refl _, fun z hz => by simp at hz, fun y hy => .inl hy⟩
/-- What a call does: the book stays safe; what is newly held has a new token, and overtakes nobody. -/
structure Fair22 (B B2 : Bk) : Prop where
  safe : Safe22 B2
  new : ∀ y ∈ B2.H, (findB B y.ses y.txt).2 ≠ 0 → B.last < y.tok
  over : ∀ y ∈ B2.H, (findB B y.ses y.txt).2 ≠ 0 → ∀ k (hk : k < B.W.length), ((findB B y.ses y.txt).2 < 0 ∨ (k : Int) < (findB B y.ses y.txt).2 - 1) → 0 < (findB B2 B.W[k].ses B.W[k].txt).2 → cflB y B.W[k] = false
theorem fair_same {t0 : Int} {B B2 : Bk} (hp : Pre t0 B) (hs : Safe22 B2) (hH : B2.H = B.H) : Fair22 B B2 := by
  refine ⟨hs, fun y hy hn => ?_, fun y hy hn => ?_⟩
  · rw [hH] at hy
    exact absurd (by rw [find_held22 hp hy]) hn
  · rw [hH] at hy
    exact absurd (by rw [find_held22 hp hy]) hn
theorem pos_waits {t0 : Int} {B : Bk} (hp : Pre t0 B) (k : Nat) (hk : k < B.W.length) : B.W.findIdx (sameB B.W[k]) = k := by
  have hA : B.W.Pairwise Apart := List.Pairwise.sublist (List.sublist_append_right B.H B.W) hp.keys
  rw [List.findIdx_eq hk]
  refine ⟨by rw [sameB_iff]; exact ⟨rfl, rfl⟩, fun j hj => ?_⟩
  rw [sameB_not]
  rintro ⟨h1, h2⟩
  exact (List.pairwise_iff_getElem.1 hA j k (by omega) hk hj) ⟨h1.symm, h2.symm⟩
theorem pos_pair {t0 : Int} {B : Bk} (hp : Pre t0 B) : B.W.Pairwise fun a c => B.W.findIdx (sameB a) < B.W.findIdx (sameB c) :=
  List.pairwise_iff_getElem.2 fun i j hi hj hij => by rw [pos_waits hp i hi, pos_waits hp j hj]; exact hij
/-- A release or a drop. -/
theorem fair_rem {t0 : Int} {B : Bk} (hp : Pre t0 B) (hs : Safe22 B) (q : Lok → Bool) : Fair22 B (remB q B).1 := by
  have hsub : (restL q B.W).Sublist B.W := List.filter_sublist
  have hv : SvA ⟨restL q B.H, restL q B.W, B.last⟩ (fun a => B.W.findIdx (sameB a)) ((restL q B.W).foldl serveStep (⟨restL q B.H, restL q B.W, B.last⟩, [], [])) [] := svA_served (hs.cfl.sublist List.filter_sublist) ((pos_pair hp).sublist hsub)
  have hH : (remB q B).1.H = ((restL q B.W).foldl serveStep (⟨restL q B.H, restL q B.W, B.last⟩, [], [])).1.H := rfl
  have hW : (remB q B).1.W = ((restL q B.W).foldl serveStep (⟨restL q B.H, restL q B.W, B.last⟩, [], [])).2.2 := rfl
  have key : ∀ y ∈ (remB q B).1.H, (findB B y.ses y.txt).2 ≠ 0 → B.last < y.tok ∧ ∃ i, ∃ hi : i < B.W.length, (findB B y.ses y.txt).2 = (i : Int) + 1 ∧ ∀ z ∈ (remB q B).1.W, B.W.findIdx (sameB z) < i → cflB y z = false := by
    intro y hy hn
    rw [hH] at hy
    rcases hv.new y hy with q0 | ⟨q1, x, q2, q3, q4, _, q6⟩
    · exact absurd (by rw [find_held22 hp (List.mem_filter.1 q0).1]) hn
    · obtain ⟨i, hi, rfl⟩ := List.getElem_of_mem (List.mem_filter.1 q2).1
      refine ⟨q1, i, hi, by rw [q3, q4, find_waits22 hp i hi], fun z hz hlt => ?_⟩
      rw [hW] at hz
      exact q6 z hz (by show B.W.findIdx (sameB z) < B.W.findIdx (sameB B.W[i]); rw [pos_waits hp i hi]; exact hlt)
  refine ⟨⟨hv.cfl, hv.stuck⟩, fun y hy hn => (key y hy hn).1, fun y hy hn k hk hor hst => ?_⟩
  obtain ⟨_, i, hi, e, hall⟩ := key y hy hn
  have hki : k < i := by
    rcases hor with h1 | h1
    · omega
    · omega
  -- the elder one waits on: it is found among those that wait
  have hz : B.W[k] ∈ (remB q B).1.W := by
    unfold findB at hst
    rcases fstF_spec (sameB (askL B.W[k].ses B.W[k].txt)) (remB q B).1.H 0 with ⟨e1, _⟩ | ⟨j, hj, e1, _⟩
    · rw [e1, if_neg (show ¬ (0 : Int) ≤ -1 by omega)] at hst
      rcases fstF_spec (sameB (askL B.W[k].ses B.W[k].txt)) (remB q B).1.W 0 with ⟨e2, _⟩ | ⟨j, hj, e2, _, hsj, _⟩
      · rw [e2, if_neg (show ¬ (0 : Int) ≤ -1 by omega)] at hst
        simp at hst
      · have hsj := sameB_iff.1 hsj
        have hm : (remB q B).1.W[j] ∈ B.W := (List.mem_filter.1 (hv.left _ (by rw [← hW]; exact List.getElem_mem hj))).1
        have hA : B.W.Pairwise Apart := List.Pairwise.sublist (List.sublist_append_right B.H B.W) hp.keys
        have he := apart_eq hA hm (List.getElem_mem hk) hsj.1.symm hsj.2.symm
        rw [← he]
        exact List.getElem_mem hj
    · rw [e1, if_pos (show (0 : Int) ≤ (j : Nat) by omega)] at hst
      simp at hst
  exact hall _ hz (by rw [pos_waits hp k hk]; exact hki)
/-- A request. -/
theorem fair_acq {t0 : Int} {B : Bk} (hp : Pre t0 B) (hs : Safe22 B) (x : Lok) (wait : Bool) : Fair22 B (acqB B (clr x) wait).1 := by
  have h0 := fair_same hp hs rfl
  unfold acqB
  split
  · split <;> exact h0
  · rename_i hf
    have hf : (findB B x.ses x.txt).2 < 0 := by have : ¬ 0 ≤ (findB B x.ses x.txt).2 := hf; omega
    split
    · exact h0
    · split
      · rename_i hfr
        obtain ⟨f1, f2⟩ := free_true hfr
        split
        · exact h0
        · rename_i hl
          refine ⟨⟨cfl_ins hs.cfl _ f1, fun i hi => ?_⟩, fun y hy hn => ?_, fun y hy hn k hk hor hst => ?_⟩
          · rcases hs.stuck i hi with q | q
            · exact .inl (free_mono q (fun y hy => mem_ins.2 (.inr hy)))
            · exact absurd q hl
          · rcases mem_ins.1 hy with e | hy
            · rw [e]; show B.last < B.last + 1; omega
            · exact absurd (by rw [find_held22 hp hy]) hn
          · rcases mem_ins.1 hy with e | hy
            · rw [e]; exact f2 _ (List.getElem_mem hk)
            · exact absurd (by rw [find_held22 hp hy]) hn
      · rename_i hfr
        split
        · exact h0
        · split
          · exact h0
          · refine fair_same hp ⟨hs.cfl, fun i hi => ?_⟩ rfl
            show freeB B.H ((B.W ++ [clr x]).take i) (B.W ++ [clr x])[i] = false ∨ B.last = _
            have hi : i < (B.W ++ [clr x]).length := hi
            simp only [List.length_append, List.length_singleton] at hi
            by_cases e : i = B.W.length
            · subst e
              rw [List.take_left', List.getElem_append_right (Nat.le_refl _)]
              · refine .inl ?_
                simpa using hfr
              · rfl
            · have hi2 : i < B.W.length := by omega
              rw [List.take_append_of_le_length (by omega), List.getElem_append_left hi2]
              exact hs.stuck i hi2
theorem fair_do {t0 : Int} {B : Bk} (hp : Pre t0 B) (hs : Safe22 B) (K S : Int) (Q : List ByteArray) (X Wt : Bool) : Fair22 B (doB B K S Q X Wt) := by
  unfold doB
  split
  · exact fair_acq hp hs _ _
  · split
    · unfold relB
      split
      · exact fair_same hp hs rfl
      · exact fair_rem hp hs _
    · split
      · exact fair_rem hp hs _
      · exact fair_same hp hs rfl
end Go.Proofs.YtmgpnpmdmelnkaaGreatDoor
namespace Go.Proofs.YtmgpnpmdmelnkaaGreatDoor
open Go.ChangeShapes Go.WideShapes Go.ChangeAt Go.RowKit
set_option linter.unusedVariables false
set_option linter.unusedSimpArgs false
set_option maxRecDepth 100000 in
set_option maxHeartbeats 1000000 in
theorem clash_any (x y : Lok) (w : World) (hx : IsPath x.txt) (hy : IsPath y.txt) : Calls Tryz.prog 15 #[.agg #[.int .i64 x.ses, .string x.txt, .bool x.ex, .int .u64 x.tok], .agg #[.int .i64 y.ses, .string y.txt, .bool y.ex, .int .u64 y.tok]] w fun e w' => e = .returned (.bool (cflB x y)) ∧ Gr w w' := by
  have HG := Lib.hid (((Gr.refl w).alloc (.cells #[.int .i64 x.ses, .string x.txt, .bool x.ex, .int .u64 x.tok] 42)).alloc (.cells #[.int .i64 y.ses, .string y.txt, .bool y.ex, .int .u64 y.tok] 42))
  have BX := Lib.hid ((Blk.new w #[.int .i64 x.ses, .string x.txt, .bool x.ex, .int .u64 x.tok] 42).gr ((Gr.refl _).alloc (.cells #[.int .i64 y.ses, .string y.txt, .bool y.ex, .int .u64 y.tok] 42)))
  have BY := Lib.hid (Blk.new (w.alloc (.cells #[.int .i64 x.ses, .string x.txt, .bool x.ex, .int .u64 x.tok] 42)) #[.int .i64 y.ses, .string y.txt, .bool y.ex, .int .u64 y.tok] 42)
  have hsz : (w.alloc (.cells #[.int .i64 x.ses, .string x.txt, .bool x.ex, .int .u64 x.tok] 42)).heap.size = w.heap.size + 1 := by simp
  rw [hsz] at BY
  clear hsz
  have px := pof_ok hx
  have py := pof_ok hy
  have HI := Lib.hid (fun w => inLine_any (pof x.txt) (pof y.txt) w px.1 py.1)
  rw [px.2, py.2] at HI
  have HE : Hid (cflB x y = (decide (x.ses ≠ y.ses) && (x.ex || y.ex) && (overP (pof x.txt) (pof y.txt) || overP (pof y.txt) (pof x.txt)))) := Lib.hid rfl
  generalize cflB x y = r at *
  generalize (overP (pof x.txt) (pof y.txt) || overP (pof y.txt) (pof x.txt)) = ov at *
  clear px py hx hy
  obtain ⟨xs, xt, xe, xk⟩ := x
  obtain ⟨ys, yt, ye, yk⟩ := y
  simp only at HG HI HE ⊢
  by_cases h1 : xs = ys
  · subst h1
    have HR : Hid (r = false) := Lib.hid (by rw [HE.out]; simp)
    rw [HR.out]
    clear HE
    go_enter Tryz.func15, Tryz.ntmps15
    go_wp2
    go_ret
    exact ⟨by simp, HG.out⟩
  · have e1 : (xs != ys) = true := by simpa using h1
    rw [decide_eq_true h1] at HE
    clear h1
    cases xe
    · cases ye
      · have HR : Hid (r = false) := Lib.hid (by rw [HE.out]; rfl)
        rw [HR.out]
        clear HE
        go_enter Tryz.func15, Tryz.ntmps15
        go_wp2
        go_ret
        exact ⟨rfl, HG.out⟩
      · have HR : Hid (r = ov) := Lib.hid (by rw [HE.out]; simp)
        rw [HR.out]
        clear HE
        go_enter Tryz.func15, Tryz.ntmps15
        go_wp2_with fail
        refine (HI.out _).mono ?_
        rintro e w2 ⟨rfl, hg⟩
        have HG2 := Lib.hid (HG.out.trans hg)
        clear hg
        go_wp2
        go_ret
        exact ⟨rfl, HG2.out⟩
    · have HR : Hid (r = ov) := Lib.hid (by rw [HE.out]; simp)
      rw [HR.out]
      clear HE
      go_enter Tryz.func15, Tryz.ntmps15
      go_wp2_with fail
      refine (HI.out _).mono ?_
      rintro e w2 ⟨rfl, hg⟩
      have HG2 := Lib.hid (HG.out.trans hg)
      clear hg
      go_wp2
      go_ret
      exact ⟨rfl, HG2.out⟩
theorem row_cap {w : World} {base g n k cap : Nat} {e : TypeId} {xs : List Value} (h : w.ownsRow base e k (.slice (some ⟨g, 0, none⟩) n cap) n xs) : n ≤ cap := by
  rcases h.2 with ⟨hv, _⟩ | ⟨g', cap', cur, hv, _, _, hle, _⟩
  · simp at hv
  · simp only [Value.slice.injEq] at hv
    rw [hv.2.2]; exact hle
theorem safe_pair {B : Bk} (h : Safe22 B) (j m : Nat) (hj : j < m) (hm : m < B.H.length) : cflB B.H[m] (B.H[j]'(by omega)) = false := by
  rw [cflB_symm]
  exact (List.pairwise_iff_getElem.1 h.cfl) j m (by omega) hm hj
end Go.Proofs.YtmgpnpmdmelnkaaGreatDoor
