import Derived.Test.YtmgpnpmdmelnkaaL21
import Derived.WalkKit
import Derived.ProofKit
import Derived.LoopTactic
import Derived.Outline
import Derived.WalkSpells
import Derived.WalkLawsBesides
import Derived.Lib.Hide
import Derived.Deep.LoopGhost
import Derived.Deep.QuietTactic
import Derived.BigQuiet
import Derived.ShutString
import Derived.IntWalk
import Derived.Lib.MinMax
import Derived.BigQuiet
import Derived.Deep.RegionWith
import Derived.Deep.RegionHeld3
namespace Go.Proofs.Ytmgpnpmdmelnkaa
open Go.ChangeShapes Go.WideShapes Go.ChangeAt Go.RowKit
set_option linter.unusedVariables false
set_option linter.unusedSimpArgs false
/-- A board of which one region was used j times, at one time. -/
def fullB (l s : Int) (r : Nat) (now : Int) (j : Nat) : Brd := ⟨l, s, 4, fun r' i => if r' = r ∧ i < j then now else 0, fun r' => if r' = r then j else 0⟩
theorem full_touch (l s : Int) (r : Nat) (now : Int) (j : Nat) (hj : j < 64) : touchB (fullB l s r now j) r now = fullB l s r now (j + 1) := by
  unfold touchB fullB
  simp only [if_true, Brd.mk.injEq, true_and]
  refine ⟨?_, ?_⟩
  · funext r' i
    rw [Nat.mod_eq_of_lt hj]
    by_cases e : r' = r
    · by_cases e2 : i = j
      · rw [if_pos ⟨e, e2⟩, if_pos ⟨e, by omega⟩]
      · rw [if_neg (by omega)]
        by_cases e3 : i < j
        · rw [if_pos ⟨e, e3⟩, if_pos ⟨e, by omega⟩]
        · rw [if_neg (by omega), if_neg (by omega)]
    · rw [if_neg (by omega), if_neg (by omega), if_neg (by omega)]
  · funext r'
    split <;> rfl
theorem cntT_all {t : Nat → Int} {now span : Int} : ∀ {k : Nat}, (∀ i, i < k → hitT (t i) now span = true) → cntT t now span k = k
  | 0, _ => rfl
  | k + 1, h => by
    unfold cntT
    rw [cntT_all (fun i hi => h i (by omega)), if_pos (h k (by omega))]
theorem cntT_none {t : Nat → Int} {now span : Int} : ∀ {k : Nat}, (∀ i, i < k → hitT (t i) now span = false) → cntT t now span k = 0
  | 0, _ => rfl
  | k + 1, h => by
    unfold cntT
    rw [cntT_none (fun i hi => h i (by omega)), if_neg (by rw [h k (by omega)]; decide)]
theorem full_count (l s : Int) (r : Nat) (now : Int) (j : Nat) (hj : j ≤ 64) (hr : r < 4) (k t : Int) : countB (fullB l s r now j) k t = if k = r ∧ hitT now t s = true then j else 0 := by
  unfold countB
  by_cases hk : hasB (fullB l s r now j) k = true
  · rw [if_pos hk]
    obtain ⟨m, rfl, hm⟩ := has_nat21 hk
    rw [show (m : Int).toNat = m by omega]
    by_cases e : m = r
    · subst e
      have hu : (fullB l s m now j).u m = j := by simp [fullB]
      have ht : ∀ i, i < j → (fullB l s m now j).t m i = now := fun i hi => by simp [fullB, hi]
      rw [hu, show min j 64 = j by omega]
      by_cases h : hitT now t s = true
      · rw [if_pos ⟨rfl, h⟩]
        exact cntT_all (fun i hi => by rw [ht i hi]; exact h)
      · rw [if_neg (fun x => h x.2)]
        exact cntT_none (fun i hi => by rw [ht i hi]; exact Bool.eq_false_iff.2 h)
    · have hu : (fullB l s r now j).u m = 0 := by simp [fullB, e]
      rw [hu, if_neg (by omega)]
      rfl
  · rw [if_neg hk]
    have hk' : ¬ (0 ≤ k ∧ k < 4) := fun h => hk (decide_eq_true h)
    rw [if_neg (by omega)]
theorem full_best (l s : Int) (r : Nat) (now : Int) (j : Nat) (hj : j ≤ 64) (hr : r < 4) (t : Int) : bestB (fullB l s r now j) t 4 = if hitT now t s = true ∧ 0 < j then ((r : Int), j) else (-1, 0) := by
  simp only [bestB, full_count l s r now j hj hr]
  cases hitT now t s
  · simp
  · rcases (show r = 0 ∨ r = 1 ∨ r = 2 ∨ r = 3 by omega) with rfl | rfl | rfl | rfl <;> by_cases h : 0 < j <;> simp [h] <;> omega
theorem zero_full (l s : Int) (r : Nat) (now : Int) : zeroB l s 4 = fullB l s r now 0 := by
  unfold zeroB fullB
  simp only [Brd.mk.injEq, true_and]
  refine ⟨by decide, ?_, ?_⟩
  · funext r' i; rw [if_neg (by omega)]
  · funext r'; split <;> rfl
set_option maxRecDepth 100000 in
set_option maxHeartbeats 1000000 in
theorem busy_walk21 (x0 x1 x2 x3 : Int) (w : World) (_ : ∀ n ∈ [x0, x1, x2, x3], (Lit.int .i64 n).wf = true) : Calls Try.prog 6 #[.agg #[.int .i64 x0, .int .i64 x1, .int .i64 x2, .int .i64 x3]] w fun e w' => e = .returned (.bool true) ∧ Gr w w' := by
  have HB0 := Lib.hid (Blk.new w #[.int .i64 x0, .int .i64 x1, .int .i64 x2, .int .i64 x3] 43)
  have HG0 := Lib.hid ((Gr.refl w).alloc (.cells #[.int .i64 x0, .int .i64 x1, .int .i64 x2, .int .i64 x3] 43))
  have ha : 0 ≤ bits .and .i64 x0 255 ∧ bits .and .i64 x0 255 ≤ 255 := and_mask x0 255 (by decide)
  have hb : 0 ≤ bits .and .i64 x1 65535 ∧ bits .and .i64 x1 65535 ≤ 65535 := and_mask x1 65535 (by decide)
  have hc : 0 ≤ bits .and .i64 x3 3 ∧ bits .and .i64 x3 3 ≤ 3 := and_mask x3 3 (by decide)
  obtain ⟨l, hl, hl1⟩ : ∃ l : Nat, wrap64 (1 + (bits .and .i64 x0 255).tmod 64) = (l : Int) ∧ 1 ≤ l ∧ l ≤ 64 := by
    rw [Int.tmod_eq_emod_of_nonneg ha.1]
    refine ⟨(1 + bits .and .i64 x0 255 % 64).toNat, ?_, ?_⟩
    · unfold wrap64; omega
    · omega
  obtain ⟨s, hs, hs1⟩ : ∃ s : Nat, wrap64 (1 + (bits .and .i64 x1 65535).tmod 1000) = (s : Int) ∧ 1 ≤ s ∧ s ≤ 1000 := by
    rw [Int.tmod_eq_emod_of_nonneg hb.1]
    refine ⟨(1 + bits .and .i64 x1 65535 % 1000).toNat, ?_, ?_⟩
    · unfold wrap64; omega
    · omega
  obtain ⟨r, hr, hr4⟩ : ∃ r : Nat, bits .and .i64 x3 3 = (r : Int) ∧ r < 4 := ⟨(bits .and .i64 x3 3).toNat, by omega, by omega⟩
  obtain ⟨now, hnow, hn1⟩ : ∃ n : Int, (max 0 (min x2 1073741824) : Int) = n ∧ 0 ≤ n ∧ n ≤ 1073741824 := ⟨_, rfl, by omega, by omega⟩
  have HN := Lib.hid (And.intro hl1 (And.intro hs1 (And.intro hr4 hn1)))
  have HC := Lib.hid (check_any21 (l : Int) (s : Int))
  rw [show goodP (l : Int) (s : Int) = true by unfold goodP upTo; simp; omega] at HC
  clear ha hb hc
  go_enter Try.func6, Try.ntmps6
  go_wp2_with fail
  try simp only [hl, hs, hr, hnow]
  have HB1 := Lib.hid (Blk.new (w.alloc (.cells #[.int .i64 x0, .int .i64 x1, .int .i64 x2, .int .i64 x3] 43)) #[.int .i64 l, .int .i64 s] 24)
  have HG1 := Lib.hid (HG0.out.alloc (.cells #[.int .i64 l, .int .i64 s] 24))
  have hsz : (w.alloc (.cells #[.int .i64 x0, .int .i64 x1, .int .i64 x2, .int .i64 x3] 43)).heap.size = w.heap.size + 1 := by show (w.heap.push _).size = _; simp
  rw [hsz] at HB1
  generalize (w.alloc (.cells #[.int .i64 x0, .int .i64 x1, .int .i64 x2, .int .i64 x3] 43)).alloc (.cells #[.int .i64 l, .int .i64 s] 24) = W at *
  generalize w.heap.size + 1 = pb at *
  clear hsz HB0 HG0 hl hs hr hnow hl1 hs1 hr4 hn1
  refine (bdNew_any (l : Int) (s : Int) 4 W).mono ?_
  rintro e w1 ⟨b, p, rfl, hb, hp, hB, hg⟩
  rw [zero_full (l : Int) (s : Int) r now] at hB
  have HP := Lib.hid (And.intro hb hp)
  have HG := Lib.hid hg
  have HB := Lib.hid hB
  have c0 := (HB1.out.gr hg).cell (i := 0) rfl
  have c1 := (HB1.out.gr hg).cell (i := 1) rfl
  clear hb hp hB hg
  go_wp2_with fail
  refine (HC.out _).mono ?_
  rintro e w2 ⟨rfl, hg⟩
  have HG2 := Lib.hid (HG.out.trans hg)
  have HB2 := Lib.hid (HB.out.gr hg)
  have c0 := (HB1.out.gr HG2.out).cell (i := 0) rfl
  clear hg HG HB c1
  have hl0 := HN.out.1.2
  go_wp2
  go_loopw [45] (fun i wr => ∃ k : Nat, k ≤ l ∧ i = .int .i64 k ∧ Hid (Gr W wr) ∧ Hid (BdIs wr b p (fullB l s r now k))) (fun i _ => l - (intOf i).toNat)
  case atStart => exact ⟨0, by omega, rfl, Lib.hid HG2.out, Lib.hid HB2.out⟩
  case round =>
    obtain ⟨k, hk, rfl, hG, hK⟩ := hrel
    by_cases hlt : k < l
    · have hN := HN.out
      have h1 := bdWants_any (r : Int) now wr hK.out (by omega)
      rw [show wantsB (fullB l s r now k) (r : Int) now = false by
        unfold wantsB
        rw [full_count _ _ _ _ _ (by omega) (by omega), if_pos ⟨rfl, decide_eq_true (by omega)⟩]
        exact decide_eq_false (by show ¬ (l : Int) ≤ (k : Int); omega)] at h1
      have H1 := Lib.hid h1
      have H2 := Lib.hid (fun q => bdTouch_any (r : Int) now (wr.drewN q) (hK.out.gr ((Gr.refl _).drewN q)) (by omega) (fun i => by simp only [fullB]; split <;> omega))
      have hh : hasB (fullB l s r now k) (r : Int) = true := decide_eq_true (by show (0 : Int) ≤ r ∧ (r : Int) < ((4 : Nat) : Int); omega)
      have ht : touchI (fullB l s r now k) (r : Int) now = fullB l s r now (k + 1) := by
        unfold touchI
        rw [if_pos hh, show (r : Int).toNat = r by omega]
        exact full_touch _ _ _ _ _ (by omega)
      rw [ht, hh] at H2
      have H3 := Lib.hid (show countB (fullB l s r now (k + 1)) (r : Int) now = k + 1 by rw [full_count _ _ _ _ _ (by omega) (by omega), if_pos ⟨rfl, decide_eq_true (by omega)⟩])
      have hc : (((k + 1 : Nat) : Int) != (k : Int) + 1) = false := by simp
      clear h1 ht hN hh
      go_wp2_with fail
      refine H1.out.mono ?_
      rintro e w4 ⟨rfl, q4, rfl⟩
      go_wp2_with fail
      refine (H2.out q4).mono ?_
      rintro e w5 ⟨rfl, hB5⟩
      have HG5 := Lib.hid (hB5.gr (hG.out.drewN q4) HP.out.2 HP.out.1)
      have HB5 := Lib.hid hB5.1
      have h5 := bdCount_any (r : Int) now w5 hB5.1 (by have := HN.out; omega)
      rw [H3.out] at h5
      have H5 := Lib.hid h5
      clear hB5 h5
      go_wp2_with fail
      refine H5.out.mono ?_
      rintro e w6 ⟨rfl, q6, rfl⟩
      go_wp2
      exact ⟨⟨k + 1, hlt, by simp, Lib.hid (HG5.out.drewN q6), Lib.hid (HB5.out.gr ((Gr.refl _).drewN q6))⟩, by simp [intOf]; omega⟩
    · obtain rfl : k = l := by omega
      obtain ⟨⟨hl1, hl2⟩, ⟨hs1, hs2⟩, hr4, hn0, hn1⟩ := HN.out
      obtain ⟨o, ho, ho4, hor⟩ : ∃ o : Nat, bits .and .i64 ((r : Int) + 1) 3 = (o : Int) ∧ o < 4 ∧ o ≠ r := by
        rcases (show r = 0 ∨ r = 1 ∨ r = 2 ∨ r = 3 by omega) with rfl | rfl | rfl | rfl
        · exact ⟨1, by decide, by omega, by omega⟩
        · exact ⟨2, by decide, by omega, by omega⟩
        · exact ⟨3, by decide, by omega, by omega⟩
        · exact ⟨0, by decide, by omega, by omega⟩
      have hit0 : hitT now now (s : Int) = true := decide_eq_true (by omega)
      have hit1 : hitT now (now + s) (s : Int) = false := decide_eq_false (by omega)
      have hit2 : hitT now (now + s - 1) (s : Int) = true := decide_eq_true (by omega)
      have cr0 : countB (fullB k s r now k) (r : Int) now = k := by rw [full_count _ _ _ _ _ hl2 hr4, if_pos ⟨rfl, hit0⟩]
      have co0 : countB (fullB k s r now k) (o : Int) now = 0 := by rw [full_count _ _ _ _ _ hl2 hr4, if_neg (fun h => hor (by omega))]
      have cr1 : countB (fullB k s r now k) (r : Int) (now + s) = 0 := by rw [full_count _ _ _ _ _ hl2 hr4, if_neg (fun h => by rw [hit1] at h; simp at h)]
      have cr2 : countB (fullB k s r now k) (r : Int) (now + s - 1) = k := by rw [full_count _ _ _ _ _ hl2 hr4, if_pos ⟨rfl, hit2⟩]
      have b0 : bestB (fullB k s r now k) now 4 = ((r : Int), k) := by rw [full_best _ _ _ _ _ hl2 hr4, if_pos ⟨hit0, hl1⟩]
      have b1 : bestB (fullB k s r now k) (now + s) 4 = (-1, 0) := by rw [full_best _ _ _ _ _ hl2 hr4, if_neg (fun h => by rw [hit1] at h; simp at h)]
      have g0 : givesB (fullB k s r now k) (o : Int) now = ((r : Int), true) := by
        show (if (bestB (fullB k s r now k) now 4).1 = (o : Int) ∨ ((bestB (fullB k s r now k) now 4).2 : Int) < (k : Int) ∨ (bestB (fullB k s r now k) now 4).2 ≤ countB (fullB k s r now k) (o : Int) now then ((0 : Int), false) else ((bestB (fullB k s r now k) now 4).1, true)) = _
        rw [b0, co0, if_neg (by simp only; omega)]
      have g1 : givesB (fullB k s r now k) (r : Int) now = (0, false) := if_pos (Or.inl (show (bestB (fullB k s r now k) now 4).1 = (r : Int) by rw [b0]))
      have g2 : givesB (fullB k s r now k) (o : Int) (now + s) = (0, false) := if_pos (Or.inr (Or.inl (show ((bestB (fullB k s r now k) (now + s) 4).2 : Int) < (k : Int) by rw [b1]; simp only; omega)))
      have w0 : wantsB (fullB k s r now k) (r : Int) now = true := decide_eq_true (by rw [cr0]; show (k : Int) ≤ _; omega)
      have w1 : wantsB (fullB k s r now k) (o : Int) now = false := decide_eq_false (by rw [co0]; show ¬ (k : Int) ≤ _; omega)
      have w2 : wantsB (fullB k s r now k) (r : Int) (now + s - 1) = true := decide_eq_true (by rw [cr2]; show (k : Int) ≤ _; omega)
      have w3 : wantsB (fullB k s r now k) (r : Int) (now + s) = false := decide_eq_false (by rw [cr1]; show ¬ (k : Int) ≤ _; omega)
      have G0 := Lib.hid (fun q => bdGives_any (o : Int) now (wr.drewN q) (hK.out.gr ((Gr.refl _).drewN q)) (by omega))
      have G1 := Lib.hid (fun q => bdGives_any (r : Int) now (wr.drewN q) (hK.out.gr ((Gr.refl _).drewN q)) (by omega))
      have G2 := Lib.hid (fun q => bdGives_any (o : Int) (now + s) (wr.drewN q) (hK.out.gr ((Gr.refl _).drewN q)) (by omega))
      have W0 := Lib.hid (fun q => bdWants_any (r : Int) now (wr.drewN q) (hK.out.gr ((Gr.refl _).drewN q)) (by omega))
      have W1 := Lib.hid (fun q => bdWants_any (o : Int) now (wr.drewN q) (hK.out.gr ((Gr.refl _).drewN q)) (by omega))
      have W2 := Lib.hid (fun q => bdWants_any (r : Int) (now + s - 1) (wr.drewN q) (hK.out.gr ((Gr.refl _).drewN q)) (by omega))
      have W3 := Lib.hid (fun q => bdWants_any (r : Int) (now + s) (wr.drewN q) (hK.out.gr ((Gr.refl _).drewN q)) (by omega))
      rw [g0] at G0; rw [g1] at G1; rw [g2] at G2; rw [w0] at W0; rw [w1] at W1; rw [w2] at W2; rw [w3] at W3
      have HO := Lib.hid hor
      have HB9 := Lib.hid (HB1.out.gr hG.out)
      have d1 : wr.cell? ⟨pb, 1, none⟩ = some (.int .i64 (s : Int)) := (HB1.out.gr hG.out).cell (i := 1) rfl
      clear g0 g1 g2 w0 w1 w2 w3 b0 b1 cr0 co0 cr1 cr2 hit0 hit1 hit2 hor c0
      go_wp2_with fail
      refine (G0.out 0).mono ?_
      rintro e v1 ⟨rfl, q1, rfl⟩
      go_wp2_with fail
      refine (G1.out _).mono ?_
      rintro e v2 ⟨rfl, q2, rfl⟩
      go_wp2_with fail
      refine (G2.out _).mono ?_
      rintro e v3 ⟨rfl, q3, rfl⟩
      go_wp2_with fail
      refine (W0.out _).mono ?_
      rintro e v4 ⟨rfl, q4, rfl⟩
      go_wp2_with fail
      refine (W1.out _).mono ?_
      rintro e v5 ⟨rfl, q5, rfl⟩
      go_wp2_with fail
      refine (W2.out _).mono ?_
      rintro e v6 ⟨rfl, q6, rfl⟩
      go_wp2_with fail
      refine (W3.out _).mono ?_
      rintro e v7 ⟨rfl, q7, rfl⟩
      go_wp2
      go_ret
      exact ⟨rfl, (HG1.out.trans hG.out).drewN _⟩
end Go.Proofs.Ytmgpnpmdmelnkaa
