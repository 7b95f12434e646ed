import Derived.Test.YtmgpnpmdmelnkaaM21b
import Derived.WalkKit
import Derived.ProofKit
import Derived.LoopTactic
import Derived.Outline
import Derived.WalkSpells
import Derived.WalkLawsBesides
import Derived.Lib.Hide
import Derived.Deep.LoopGhost
import Derived.Deep.QuietTactic
import Derived.BigQuiet
import Derived.ShutString
import Derived.IntWalk
import Derived.Lib.MinMax
import Derived.BigQuiet
import Derived.Deep.AppendLies
import Derived.Deep.RegionWith
import Derived.Deep.RegionHeld3
import Derived.Deep.Cut
import Derived.Deep.CutRange
import Derived.Deep.CutBlock
import Derived.Laws.OwnMore
namespace Go.Proofs.Ytmgpnpmdmelnkaa
open Go.ChangeShapes Go.WideShapes Go.ChangeAt Go.RowKit
set_option linter.unusedVariables false
set_option linter.unusedSimpArgs false
set_option maxRecDepth 100000 in
set_option maxHeartbeats 4000000 in
theorem counts_walk21 (X0 X1 N : Int) (L : List Tch) (a : Option Addr) (cap : Nat) (w : World) (hX : ∀ n ∈ [X0, X1], (Lit.int .i64 n).wf = true) (hL : TchRow w a L) :
    Calls Try.prog 4 #[.agg #[.int .i64 X0, .int .i64 X1], .int .i64 N, .slice a L.length cap] w fun e w' => e = .returned (.bool true) ∧ Gr w w' := by
  obtain ⟨i0, hi, hz0, hz1, hz2⟩ := tinfo21
  have HL := Lib.hid hL
  have HB0 := Lib.hid (Blk.new w #[.int .i64 X0, .int .i64 X1] 28)
  have HG0 := Lib.hid ((Gr.refl w).alloc (.cells #[.int .i64 X0, .int .i64 X1] 28))
  obtain ⟨m, hm, hm2, hm4⟩ : ∃ m : Nat, (max 0 (min N 4) : Int) = (m : Int) ∧ (min (max N 0) 4).toNat = m ∧ m ≤ 4 := ⟨(min (max N 0) 4).toNat, by omega, rfl, by omega⟩
  have HM2 := Lib.hid hm2
  clear hX hL hm2
  go_enter Try.func4, Try.ntmps4
  go_wp2_with fail
  refine (awake21 _).mono ?_
  rintro e w1 ⟨rfl, hg1⟩
  have HG1 := Lib.hid (HG0.out.trans hg1)
  have c0 := (HB0.out.gr hg1).cell (i := 0) rfl
  have c1 := (HB0.out.gr hg1).cell (i := 1) rfl
  clear hg1 HG0 HB0
  go_wp2_with fail
  refine (right_any21 _ _ _).mono ?_
  rintro e w2 ⟨l, s, rfl, hl1, hl2, hs1, hs2, hg2⟩
  have HC := Lib.hid (check_any21 (l : Int) (s : Int))
  rw [show goodP (l : Int) (s : Int) = true by unfold goodP upTo; simp; omega] at HC
  have HGW := Lib.hid ((HG1.out.trans hg2).alloc (.cells #[.int .i64 l, .int .i64 s] 24))
  have HBW := Lib.hid (Blk.new w2 #[.int .i64 l, .int .i64 s] 24)
  clear hg2 HG1 c0 c1
  go_wp2_with fail
  generalize w2.heap.size = pb at *
  generalize w2.alloc (.cells #[.int .i64 l, .int .i64 s] 24) = W at *
  refine (bdNew_any (l : Int) (s : Int) N W).mono ?_
  rintro e w3 ⟨b, p, rfl, hb, hp, hB, hg⟩
  have d0 := (HBW.out.gr hg).cell (i := 0) rfl
  have d1 := (HBW.out.gr hg).cell (i := 1) rfl
  have HS3 : Hid (St21 W w3 b p l s m (zeroB l s N) [] (.slice none 0 0) 0) := Lib.hid ⟨hg, ⟨hb, hp⟩, hB, by have := near_zero l s N; rw [HM2.out] at this; exact this, holds_zero _ _ _, World.ownsRow_nil _ _ _ _, Nat.le_refl _, fun x hx => by simp at hx⟩
  clear hb hp hB hg
  go_wp2_with fail
  refine (HC.out _).mono ?_
  rintro e w4 ⟨rfl, hg⟩
  have HS4 := Lib.hid (HS3.out.more hg)
  clear hg HS3 d0 d1
  go_wp2_with fail
  go_loopw [9, 10] (fun v i wr => ∃ (k : Nat) (d : Brd) (P : List Tch), k ≤ L.length ∧ k ≤ 150 ∧ i = .int .i64 k ∧ Hid (St21 W wr b p l s m d P v k)) (fun _ i _ => L.length - (intOf i).toNat)
  case atStart => exact ⟨0, _, _, by omega, by omega, rfl, HS4⟩
  case round =>
    obtain ⟨k, d, P, hk, hk2, rfl, hS⟩ := hrel
    clear HS4
    by_cases hlt : k < L.length
    · by_cases hlt2 : k < 150
      · obtain ⟨ab, ao, rfl, _, hat, hok⟩ := HL.out.at k hlt
        have hat2 := hat.gr (HGW.out.trans hS.out.gr)
        obtain ⟨x, hx, hx1⟩ : ∃ x : Int, (max 0 (min L[k].T 1073741824) : Int) = x ∧ 0 ≤ x ∧ x ≤ 1073741824 := ⟨_, rfl, by omega, by omega⟩
        obtain ⟨c0, c1, c2⟩ := hat2
        generalize L[k].K = K at *
        generalize L[k].R = R at *
        generalize L[k].T = T at *
        clear hat hok
        go_upto_region 14 with fail
        have HXB := Lib.hid (Blk.new wr #[.int .i64 K, .int .i64 R, .int .i64 x] 34)
        have HS5 := Lib.hid (hS.out.more ((Gr.refl wr).alloc (.cells #[.int .i64 K, .int .i64 R, .int .i64 x] 34)))
        have HCP : Hid (W.heap.size ≤ wr.heap.size ∧ wr.heap.size ≠ p) := Lib.hid ⟨hS.out.gr.size, by obtain ⟨cs, hc, _⟩ := hS.out.bd.row; have := hc.lt; omega⟩
        have HOB := Lib.hid (fun e => by have := (hS.out.row.lt _ e).2; omega : Value.ownBlock _ ≠ some wr.heap.size)
        clear c0 c1 c2 hS hx
        generalize wr.alloc (.cells #[.int .i64 K, .int .i64 R, .int .i64 x] 34) = wx at *
        generalize wr.heap.size = c at *
        have x0 := HXB.out.cell (i := 0) rfl
        go_upto_if 60 with fail
        clear x0
        go_cut [9] from 39 to 153 (fun v wy => ∃ (d : Brd) (P : List Tch), Hid (St21 W wy b p l s m d P v k) ∧ Hid (Blk wy c #[.int .i64 K, .int .i64 R, .int .i64 x] 34) ∧ Hid (v.ownBlock ≠ some c))
        case first =>
          by_cases hK : K = 1
          · have eK : (K == 1) = true := by simpa using hK
            clear hK
            go_wp2_with fail
            refine (bdReset_any _ HS5.out.bd).mono ?_
            rintro e w6 ⟨rfl, hB⟩
            have HS6 := Lib.hid (HS5.out.reset hB)
            have HXB6 : Hid (Blk w6 c #[.int .i64 K, .int .i64 R, .int .i64 x] 34) := Lib.hid ((hB.2.block c HXB.out.lt HCP.out.2 (by simp [Value.ownBlock])).trans HXB.out)
            clear hB
            go_wp2
            go_meet
            exact ⟨_, _, HS6, HXB6, Lib.hid (by simp [Value.ownBlock])⟩
          · have eK : (K == 1) = false := by simpa using hK
            clear hK
            go_wp2
            go_meet
            exact ⟨_, _, HS5, HXB, HOB⟩
        case rest =>
          clear HS5 HXB HOB
          obtain ⟨d, P, hS, hXB, hOB⟩ := hcut
          have x1 := hXB.out.cell (i := 1) rfl
          have HQ := Lib.hid (show hasB d R = decide (0 ≤ R ∧ R < (m : Int)) by unfold hasB; rw [hS.out.near.n])
          go_upto_region 17 with fail
          go_cut [12] from 39 to 153 (fun u wy => u = .bool (hasB d R) ∧ wy = wc)
          case first =>
            by_cases h0 : 0 ≤ R
            · by_cases h1 : R < (m : Int)
              · go_wp2
                go_meet
                exact ⟨by rw [HQ.out, decide_eq_true ⟨h0, h1⟩], rfl⟩
              · go_wp2
                go_meet
                exact ⟨by rw [HQ.out, decide_eq_false (by omega)], rfl⟩
            · go_wp2
              go_meet
              exact ⟨by rw [HQ.out, decide_eq_false (by omega)], rfl⟩
          case rest =>
            obtain ⟨rfl, hwe⟩ := hcut
            rw [hwe]
            clear hwe
            have x2 := hXB.out.cell (i := 2) rfl
            have HT := Lib.hid (bdTouch_any R x _ hS.out.bd (by omega) (fun i => by have := hS.out.near.u i; omega))
            generalize hq : hasB d R = q at *
            have HQ1 := Lib.hid hq
            have eq0 : (q != q) = false := by simp
            clear hq HQ
            go_wp2_with fail
            refine HT.out.mono ?_
            rintro e w6 ⟨rfl, hB⟩
            have HBT := Lib.hid hB
            have HXB6 : Hid (Blk w6 c #[.int .i64 K, .int .i64 R, .int .i64 x] 34) := Lib.hid ((hB.2.block c hXB.out.lt HCP.out.2 (by simp [Value.ownBlock])).trans hXB.out)
            clear hB x1 x2 HT
            go_upto_if 80 with fail
            go_cut [9] from 39 to 153 (fun v wy => ∃ (d : Brd) (P : List Tch), Hid (St21 W wy b p l s m d P v (k + 1)) ∧ Hid (Blk wy c #[.int .i64 K, .int .i64 R, .int .i64 x] 34))
            case first =>
              cases q
              · go_wp2
                go_meet
                exact ⟨_, _, Lib.hid (hS.out.miss HQ1.out HBT.out), HXB6⟩
              · have hrow0 := hS.out.row_to HBT.out
                have hlen := hS.out.len
                have hlt9 := (hrow0.lt)
                obtain ⟨va, vc, rfl, _⟩ := ownsRow_slice hrow0
                have hrow := ownsRow_gr ((Gr.refl w6).alloc (.cells #[.int .i64 K, .int .i64 R, .int .i64 x] 34)) hrow0
                have HG6 := Lib.hid (HBT.out.gr hS.out.gr hS.out.hb.2 hS.out.hb.1)
                have x0 := HXB6.out.cell (i := 0) rfl
                have x1 := HXB6.out.cell (i := 1) rfl
                have x2 := HXB6.out.cell (i := 2) rfl
                go_wp2_with (at_builtin; go_loud (refine wpList_append_lies _ rfl (.tmp 81) (.tmp 83) 29 rfl W.heap.size 34 i0 (.agg #[.int .i64 0, .int .i64 0, .int .i64 0]) 3 24 Try.underlying29 hi hz0 hz1 hz2 rfl (by decide) _ _ _ rfl hrow ⟨w6.heap.size, 0, none⟩ 1 1 [.int .i64 K, .int .i64 R, .int .i64 x] rfl (by simp) ?c1 ?c2 Nat.one_pos ?c3 ?c4 ?c5 _ rfl ?_))
                case c1 => exact World.news_of_block (cs := #[.int .i64 K, .int .i64 R, .int .i64 x]) (t := 34) (fr := (0, 0)) (heap_alloc_new w6 (.cells #[.int .i64 K, .int .i64 R, .int .i64 x] 34))
                case c2 => first | (intro u hu; simp at hu; rcases hu with rfl | rfl | rfl <;> rfl) | exact ⟨rfl, rfl, rfl⟩
                case c3 => unfold maxLen; omega
                case c4 => omega
                case c5 => have := HG6.out.size; simp; omega
                intro g7 cap7 w7 hown7 hgrow7 hat7 hlt7
                have HS7 := Lib.hid (hS.out.add (x := ⟨K, R, x⟩) HQ1.out (by show 0 ≤ x ∧ x ≤ 1073741824; exact hx1) HBT.out ((Gr.refl w6).alloc (.cells #[.int .i64 K, .int .i64 R, .int .i64 x] 34)) hgrow7 hown7)
                have HXB7 : Hid (Blk w7 c #[.int .i64 K, .int .i64 R, .int .i64 x] 34) := Lib.hid ((hgrow7.block c (by have := HXB6.out.lt; simp; omega) (fun e => hOB.out e.symm)).trans (HXB6.out.gr ((Gr.refl w6).alloc _)))
                clear hown7 hgrow7 hat7 hlt7 hrow hrow0 x0 x1 x2
                go_wp2
                go_meet
                exact ⟨_, _, HS7, HXB7⟩
            case rest =>
              clear hS hXB hOB HBT HXB6 HQ1 eq0
              obtain ⟨d5, P5, hS5, hX5⟩ := hcut
              have x2 := hX5.out.cell (i := 2) rfl
              have d0 := (HBW.out.gr hS5.out.gr).cell (i := 0) rfl
              have d1 := (HBW.out.gr hS5.out.gr).cell (i := 1) rfl
              have hsp : d5.span = (s : Int) := hS5.out.near.span
              have hle : d5.least = (l : Int) := hS5.out.near.least
              have hnm : d5.n = m := hS5.out.near.n
              have HLC0 := Lib.hid (fun (r : Int) q => lawCount_any r x (s : Int) (World.drewN _ q) (ownsRow_gr ((Gr.refl _).drewN q) hS5.out.row) hS5.out.tb hx1 (by omega) (by have := hS5.out.len; omega))
              have HCN0 := Lib.hid (fun (r : Int) q => bdCount_any r x (World.drewN _ q) (hS5.out.bd.gr ((Gr.refl _).drewN q)) (by omega))
              have HWN0 := Lib.hid (fun (r : Int) q => bdWants_any r x (World.drewN _ q) (hS5.out.bd.gr ((Gr.refl _).drewN q)) (by omega))
              have HBZ0 := Lib.hid (fun q => bdBusy_any x (World.drewN _ q) (hS5.out.bd.gr ((Gr.refl _).drewN q)) (by omega))
              have HEQ := Lib.hid (fun r => hS5.out.holds.count r x)
              have HB4 := Lib.hid (show bestB d5 x d5.n = bestB d5 x 4 by have := best_more d5 x (4 - m); rw [hnm, show m + (4 - m) = 4 by omega] at this; rw [hnm]; exact this.symm)
              rw [hsp] at HEQ
              rw [HB4.out] at HBZ0
              have HBS := Lib.hid (fun k => show bestB d5 x (k + 1) = if (bestB d5 x k).2 < countB d5 (k : Nat) x then (((k : Nat) : Int), countB d5 (k : Nat) x) else bestB d5 x k from rfl)
              have HBS0 := Lib.hid (show bestB d5 x 0 = (-1, 0) from rfl)
              have HWE := Lib.hid (fun r => show wantsB d5 r x = decide ((l : Int) ≤ (countB d5 r x : Int)) by unfold wantsB; rw [hle])
              have HNO := Lib.hid (fun r (h : ¬ (0 ≤ r ∧ r < (m : Int))) => show countB d5 r x = 0 from if_neg (by rw [show hasB d5 r = false from decide_eq_false (by rw [hnm]; exact h)]; decide))
              generalize bestB d5 x = B at *
              clear hsp hle hnm HB4
              go_wp2_with fail
              go_loopw [13, 14, 85] (fun bx by' i wr => ∃ j : Nat, j ≤ 4 ∧ i = .int .i64 j ∧ bx = .int .i64 (B j).1 ∧ by' = .int .i64 ((B j).2 : Nat) ∧ Hid (∃ q, wr = wc.drewN q)) (fun _ _ i _ => 4 - (intOf i).toNat)
              case atStart => exact ⟨0, by omega, rfl, by rw [HBS0.out], by rw [HBS0.out]; rfl, Lib.hid ⟨0, rfl⟩⟩
              case round =>
                obtain ⟨j, hj, rfl, rfl, rfl, hq0⟩ := hrel
                obtain ⟨q0, rfl⟩ := hq0.out
                clear hq0
                by_cases hj4 : j < 4
                · have HLC := Lib.hid (HLC0.out (j : Int))
                  have HCN := Lib.hid (HCN0.out (j : Int))
                  have HWN := Lib.hid (HWN0.out (j : Int))
                  have HBk := Lib.hid (HBS.out j)
                  have HNj := Lib.hid (HNO.out (j : Int))
                  rw [← HEQ.out] at HLC
                  rw [HWE.out] at HWN
                  have HWj : Hid (countB d5 (j : Int) x ≤ 64) := Lib.hid (by
                    unfold countB
                    split
                    · have := cntT_le (d5.t (j : Int).toNat) x d5.span (min (d5.u (j : Int).toNat) 64); omega
                    · omega)
                  generalize countB d5 (j : Int) x = cj at *
                  generalize B j = bj at *
                  obtain ⟨x0, y0⟩ := bj
                  simp only at HBk
                  have hne : ((cj : Int) != (cj : Int)) = false := by simp
                  by_cases hjm : j < m
                  · have hjm' : (j : Int) < (m : Int) := by omega
                    by_cases hlc : (l : Int) ≤ (cj : Int)
                    · rw [decide_eq_true hlc] at HWN
                      go_wp2_with fail
                      refine (HLC.out q0).mono ?_
                      rintro e v1 ⟨rfl, rfl⟩
                      go_wp2_with fail
                      refine (HCN.out q0).mono ?_
                      rintro e v2 ⟨rfl, q2, rfl⟩
                      go_wp2_with fail
                      refine (HWN.out _).mono ?_
                      rintro e v3 ⟨rfl, q3, rfl⟩
                      by_cases hy : y0 < cj
                      · simp only [hy, if_true] at HBk
                        have hy' : (y0 : Int) < (cj : Int) := by omega
                        go_wp2
                        exact ⟨⟨j + 1, hj4, by simp, by rw [HBk.out], by rw [HBk.out], Lib.hid ⟨_, rfl⟩⟩, by simp [intOf]; omega⟩
                      · simp only [hy, if_false] at HBk
                        have hy' : ¬ (y0 : Int) < (cj : Int) := by omega
                        go_wp2
                        exact ⟨⟨j + 1, hj4, by simp, by rw [HBk.out], by rw [HBk.out], Lib.hid ⟨_, rfl⟩⟩, by simp [intOf]; omega⟩
                    · rw [decide_eq_false hlc] at HWN
                      go_wp2_with fail
                      refine (HLC.out q0).mono ?_
                      rintro e v1 ⟨rfl, rfl⟩
                      go_wp2_with fail
                      refine (HCN.out q0).mono ?_
                      rintro e v2 ⟨rfl, q2, rfl⟩
                      go_wp2_with fail
                      refine (HWN.out _).mono ?_
                      rintro e v3 ⟨rfl, q3, rfl⟩
                      by_cases hy : y0 < cj
                      · simp only [hy, if_true] at HBk
                        have hy' : (y0 : Int) < (cj : Int) := by omega
                        go_wp2
                        exact ⟨⟨j + 1, hj4, by simp, by rw [HBk.out], by rw [HBk.out], Lib.hid ⟨_, rfl⟩⟩, by simp [intOf]; omega⟩
                      · simp only [hy, if_false] at HBk
                        have hy' : ¬ (y0 : Int) < (cj : Int) := by omega
                        go_wp2
                        exact ⟨⟨j + 1, hj4, by simp, by rw [HBk.out], by rw [HBk.out], Lib.hid ⟨_, rfl⟩⟩, by simp [intOf]; omega⟩
                  · have hjm' : ¬ (j : Int) < (m : Int) := by omega
                    obtain rfl := HNj.out (fun h => hjm' h.2)
                    rw [decide_eq_false (by omega)] at HWN
                    go_wp2_with fail
                    refine (HLC.out q0).mono ?_
                    rintro e v1 ⟨rfl, rfl⟩
                    go_wp2_with fail
                    refine (HCN.out q0).mono ?_
                    rintro e v2 ⟨rfl, q2, rfl⟩
                    go_wp2_with fail
                    refine (HWN.out _).mono ?_
                    rintro e v3 ⟨rfl, q3, rfl⟩
                    simp only [Nat.not_lt_zero, if_false] at HBk
                    go_wp2
                    exact ⟨⟨j + 1, hj4, by simp, by rw [HBk.out], by rw [HBk.out], Lib.hid ⟨_, rfl⟩⟩, by simp [intOf]; omega⟩
                · obtain rfl : j = 4 := by omega
                  have HC9 := HCN0.out (-1)
                  rw [HNO.out (-1) (by omega)] at HC9
                  have HW9 := HWN0.out (m : Int)
                  rw [HWE.out, HNO.out (m : Int) (by omega), decide_eq_false (by omega)] at HW9
                  have HC9 := Lib.hid HC9
                  have HW9 := Lib.hid HW9
                  generalize B 4 = b4 at *
                  obtain ⟨x4, y4⟩ := b4
                  have e4 : (x4 != x4) = false := by simp
                  have e5 : ((y4 : Int) != (y4 : Int)) = false := by simp
                  go_wp2_with fail
                  refine (HBZ0.out q0).mono ?_
                  rintro e v1 ⟨rfl, q1, rfl⟩
                  go_wp2_with fail
                  refine (HC9.out _).mono ?_
                  rintro e v2 ⟨rfl, q2, rfl⟩
                  go_wp2_with fail
                  refine (HW9.out _).mono ?_
                  rintro e v3 ⟨rfl, q3, rfl⟩
                  go_wp2
                  exact ⟨⟨k + 1, d5, P5, hlt, hlt2, by simp, Lib.hid (hS5.out.more ((Gr.refl _).drewN _))⟩, by simp [intOf]; omega⟩
      · go_wp2
        go_ret
        exact ⟨rfl, HGW.out.trans hS.out.gr⟩
    · go_wp2
      go_ret
      exact ⟨rfl, HGW.out.trans hS.out.gr⟩
end Go.Proofs.Ytmgpnpmdmelnkaa
