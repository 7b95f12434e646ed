import Derived.Test.YtmgpnpmdmelnkaaL21
import Derived.Test.YtmgpnpmdmelnkaaC44
import Derived.WalkKit
import Derived.ProofKit
import Derived.LoopTactic
import Derived.Outline
import Derived.WalkSpells
import Derived.WalkLawsBesides
import Derived.Lib.Hide
import Derived.Deep.LoopGhost
import Derived.Deep.QuietTactic
import Derived.BigQuiet
import Derived.ShutString
import Derived.IntWalk
import Derived.Lib.MinMax
import Derived.BigQuiet
import Derived.Deep.RegionWith
import Derived.Deep.RegionHeld3
import Derived.Deep.Cut
import Derived.Deep.CutRange
import Derived.Deep.CutBlock
namespace Go.Proofs.Ytmgpnpmdmelnkaa
open Go.ChangeShapes Go.WideShapes Go.ChangeAt Go.RowKit
set_option linter.unusedVariables false
set_option linter.unusedSimpArgs false
theorem has_neg {d : Brd} : hasB d (-1) = false := decide_eq_false (by omega)
/-- What Busiest tells. -/
def BestIs (d : Brd) (now : Int) (k : Nat) (x : Int) (y : Nat) : Prop := (x = -1 ∧ y = 0 ∧ ∀ i : Nat, i < k → countB d i now = 0) ∨ (∃ j : Nat, j < k ∧ x = j ∧ y = countB d j now ∧ 0 < y ∧ ∀ i : Nat, i < k → countB d i now ≤ y ∧ (i < j → countB d i now < y))
theorem best_is (d : Brd) (now : Int) : ∀ k, BestIs d now k (bestB d now k).1 (bestB d now k).2
  | 0 => .inl ⟨rfl, rfl, fun i hi => by omega⟩
  | k + 1 => by
    have ih := best_is d now k
    unfold bestB
    generalize bestB d now k = q at ih ⊢
    obtain ⟨x, y⟩ := q
    simp only at ih ⊢
    by_cases h : y < countB d (k : Nat) now
    · rw [if_pos h]
      refine .inr ⟨k, by omega, rfl, rfl, by omega, fun i hi => ?_⟩
      have : i < k → countB d i now ≤ y := fun h2 => by
        rcases ih with ⟨_, _, h3⟩ | ⟨j, _, _, _, _, h3⟩
        · rw [h3 i h2]; omega
        · exact (h3 i h2).1
      by_cases e : i = k
      · subst e; exact ⟨by simp only; omega, fun h => by omega⟩
      · have := this (by omega); simp only; exact ⟨by omega, fun _ => by omega⟩
    · rw [if_neg h]
      rcases ih with ⟨h1, h2, h3⟩ | ⟨j, hj, h1, h2, h4, h3⟩
      · refine .inl ⟨h1, h2, fun i hi => ?_⟩
        by_cases e : i = k
        · subst e; omega
        · exact h3 i (by omega)
      · refine .inr ⟨j, by omega, h1, h2, h4, fun i hi => ?_⟩
        by_cases e : i = k
        · subst e; exact ⟨by omega, fun h => by omega⟩
        · exact h3 i (by omega)
set_option maxRecDepth 100000 in
set_option maxHeartbeats 1000000 in
theorem right_any21 (a c : Int) (w : World) : Calls Try.prog 9 #[.int .i64 a, .int .i64 c] w fun e w' => ∃ l s : Nat, e = .returned (.agg #[.int .i64 l, .int .i64 s]) ∧ 1 ≤ l ∧ l ≤ 64 ∧ 1 ≤ s ∧ s ≤ 1024 ∧ Gr w w' := by
  have ha : 0 ≤ bits .and .i64 a 255 ∧ bits .and .i64 a 255 ≤ 255 := and_mask a 255 (by decide)
  have hb : 0 ≤ bits .and .i64 c 1023 ∧ bits .and .i64 c 1023 ≤ 1023 := and_mask c 1023 (by decide)
  obtain ⟨l, hl, hl1⟩ : ∃ l : Nat, wrap64 (1 + (bits .and .i64 a 255).tmod 64) = (l : Int) ∧ 1 ≤ l ∧ l ≤ 64 := by
    rw [Int.tmod_eq_emod_of_nonneg ha.1]
    refine ⟨(1 + bits .and .i64 a 255 % 64).toNat, ?_, ?_⟩
    · unfold wrap64; omega
    · omega
  obtain ⟨s, hs, hs1⟩ : ∃ s : Nat, 1 + bits .and .i64 c 1023 = (s : Int) ∧ 1 ≤ s ∧ s ≤ 1024 := ⟨(1 + bits .and .i64 c 1023).toNat, by omega, by omega⟩
  have HG := Lib.hid ((Gr.refl w).alloc (.cells #[.int .i64 l, .int .i64 s] 24))
  have HB := Lib.hid (Blk.new w #[.int .i64 l, .int .i64 s] 24)
  have HS := Lib.hid (And.intro hl1 hs1)
  clear ha hl1 hs1
  go_enter Try.func9, Try.ntmps9
  go_wp2
  have c0 := HB.out.cell (i := 0) rfl
  have c1 := HB.out.cell (i := 1) rfl
  have f0 := HB.out.free 0
  refine bodyPost_ret (by simp [results, Try.results9, go_sem, c0, c1, f0]; try rfl) rfl ?_
  exact ⟨l, s, rfl, HS.out.1.1, HS.out.1.2, HS.out.2.1, HS.out.2.2, HG.out⟩
/-- What the laws know of a board behind j uses. -/
structure Near21 (d : Brd) (l s : Nat) (n j : Nat) : Prop where
  least : d.least = l
  span : d.span = s
  n : d.n = n
  u : ∀ r, d.u r ≤ j
theorem Near21.touch {d : Brd} {l s n j : Nat} (h : Near21 d l s n j) (r now : Int) : Near21 (touchI d r now) l s n (j + 1) := by
  unfold touchI
  split
  · refine ⟨h.least, h.span, h.n, fun r' => ?_⟩
    simp only [touchB]
    have := h.u r'
    have := h.u r.toNat
    split <;> omega
  · exact ⟨h.least, h.span, h.n, fun r' => by have := h.u r'; omega⟩
theorem Near21.mono {d : Brd} {l s n i j : Nat} (h : Near21 d l s n i) (hi : i ≤ j) : Near21 d l s n j := ⟨h.least, h.span, h.n, fun r => by have := h.u r; omega⟩
theorem near_zero (l s : Nat) (n : Int) : Near21 (zeroB l s n) l s (min (max n 0) 4).toNat 0 := ⟨rfl, rfl, rfl, fun _ => Nat.le_refl _⟩
/-- Gives, as Busiest, Wants and Count tell it. -/
theorem gives_is {d : Brd} {l s j : Nat} (h : Near21 d l s 4 j) (hl : 1 ≤ l) (now : Int) (r : Int) :
    givesB d r now = (if 0 ≤ (bestB d now 4).1 ∧ (bestB d now 4).1 ≠ r ∧ wantsB d (bestB d now 4).1 now = true ∧ countB d r now < (bestB d now 4).2 then ((bestB d now 4).1, true) else (0, false)) := by
  have hb := best_is d now 4
  unfold givesB wantsB
  rw [h.n, h.least]
  generalize bestB d now 4 = q at *
  obtain ⟨x, y⟩ := q
  simp only at *
  rcases hb with ⟨h1, h2, _⟩ | ⟨k, hk, h1, h2, h3, _⟩
  · rw [if_pos (Or.inr (Or.inl (by omega))), if_neg (fun h => by omega)]
  · subst h1
    by_cases c : (k : Int) = r ∨ (y : Int) < l ∨ y ≤ countB d r now
    · rw [if_pos c, if_neg (fun h => by have := of_decide_eq_true h.2.2.1; omega)]
    · rw [if_neg c, if_pos ⟨by omega, by omega, decide_eq_true (by omega), by omega⟩]
theorem gives_back {d : Brd} {now : Int} {x r : Int} (h : (bestB d now d.n).1 = r) : givesB d r now = (0, false) := if_pos (Or.inl h)
theorem Tch_at {w : World} {a : Option Addr} {L : List Tch} (h : TchRow w a L) (i : Nat) (hi : i < L.length) : ∃ b off, a = some ⟨b, off, none⟩ ∧ b < w.heap.size ∧ TchAt w b (off + i * 3) L[i] ∧ L[i].ok := h.at i hi
set_option maxRecDepth 100000 in
set_option maxHeartbeats 2000000 in
theorem gives_walk21 (X0 X1 : Int) (L : List Tch) (a : Option Addr) (cap : Nat) (T : Int) (w : World) (hX : ∀ n ∈ [X0, X1], (Lit.int .i64 n).wf = true) (hL : TchRow w a L) :
    Calls Try.prog 5 #[.agg #[.int .i64 X0, .int .i64 X1], .slice a L.length cap, .int .i64 T] w fun e w' => e = .returned (.bool true) ∧ Gr w w' := by
  have HL := Lib.hid hL
  have HB0 := Lib.hid (Blk.new w #[.int .i64 X0, .int .i64 X1] 28)
  have HG0 := Lib.hid ((Gr.refl w).alloc (.cells #[.int .i64 X0, .int .i64 X1] 28))
  obtain ⟨now, hnow, hn1⟩ : ∃ n : Int, (max 0 (min T 1073741824) : Int) = n ∧ 0 ≤ n ∧ n ≤ 1073741824 := ⟨_, rfl, by omega, by omega⟩
  clear hX hL
  go_enter Try.func5, Try.ntmps5
  go_wp2_with fail
  refine (awake21 _).mono ?_
  rintro e w1 ⟨rfl, hg1⟩
  have HG1 := Lib.hid (HG0.out.trans hg1)
  have c0 := (HB0.out.gr hg1).cell (i := 0) rfl
  have c1 := (HB0.out.gr hg1).cell (i := 1) rfl
  clear hg1 HG0 HB0
  go_wp2_with fail
  refine (right_any21 _ _ _).mono ?_
  rintro e w2 ⟨l, s, rfl, hl1, hl2, hs1, hs2, hg2⟩
  have HG2 := Lib.hid (HG1.out.trans hg2)
  clear hg2 HG1 c0 c1
  go_wp2_with fail
  refine (bdNew_any (l : Int) (s : Int) 4 w2).mono ?_
  rintro e w3 ⟨b, p, rfl, hb, hp, hB, hg⟩
  have HP := Lib.hid (And.intro hb hp)
  have HG3 := Lib.hid hg
  have HB3 := Lib.hid hB
  have HN3 := Lib.hid (near_zero l s 4)
  rw [show (min (max (4 : Int) 0) 4).toNat = 4 by decide] at HN3
  clear hb hp hB hg
  go_upto_block 0 with fail
  go_cut [8] from 30 to 54 (fun u wx => ∃ d : Brd, Hid (Gr w2 wx) ∧ Hid (BdIs wx b p d) ∧ Hid (Near21 d l s 4 150))
  case first =>
    go_wp2_with fail
    go_loopw [8] (fun i wr => ∃ (k : Nat) (d : Brd), k ≤ L.length ∧ k ≤ 150 ∧ i = .int .i64 k ∧ Hid (Gr w2 wr) ∧ Hid (BdIs wr b p d) ∧ Hid (Near21 d l s 4 k)) (fun i _ => L.length - (intOf i).toNat)
    case atStart => exact ⟨0, _, by omega, by omega, rfl, HG3, HB3, HN3⟩
    case round =>
      obtain ⟨k, d, hk, hk2, rfl, hG, hD, hN⟩ := hrel
      by_cases hlt : k < L.length
      · by_cases hlt2 : k < 150
        · obtain ⟨ab, ao, rfl, _, hat, hok⟩ := HL.out.at k hlt
          have HAT := Lib.hid (hat.gr (HG2.out.trans hG.out))
          have HT := Lib.hid (fun x (hx : 0 ≤ x ∧ x ≤ 1099511627776) => bdTouch_any L[k].R x _ (hD.out.gr (Gr.refl _).drew) hx (fun i => by have := hN.out.u i; omega))
          have c1 := HAT.out.2.1
          have c2 := HAT.out.2.2
          clear hat hok
          obtain ⟨x, hx, hx1⟩ : ∃ x : Int, (max 0 (min L[k].T 1073741824) : Int) = x ∧ 0 ≤ x ∧ x ≤ 1073741824 := ⟨_, rfl, by omega, by omega⟩
          have HT2 := Lib.hid (HT.out x (by omega))
          have HN2 := Lib.hid (hN.out.touch L[k].R x)
          generalize L[k].T = tv at *
          generalize L[k].R = rv at *
          clear HT HAT
          go_wp2
          go_region_with ((go_at_call 12; refine HT2.out.mono ?_; rintro e w9 ⟨rfl, hB9⟩; clear HT2))
          all_goals
            have HGG := Lib.hid (hB9.gr hG.out.drew HP.out.2 HP.out.1)
            have HDD := Lib.hid hB9.1
            clear hB9 c1 c2
            go_wp2
            exact ⟨⟨k + 1, _, hlt, hlt2, by simp, HGG, HDD, HN2⟩, by simp [intOf]; omega⟩
        · go_wp2
          go_meet
          exact ⟨d, hG, hD, Lib.hid (hN.out.mono hk2)⟩
      · go_wp2
        go_meet
        exact ⟨d, hG, hD, Lib.hid (hN.out.mono hk2)⟩
  case rest =>
    obtain ⟨d, hG, hD, hN⟩ := hcut
    go_wp2_with fail
    have HBI := Lib.hid (best_is d now 4)
    have HGI := Lib.hid (fun r => gives_is hN.out hl1 now r)
    have hbz := bdBusy_any now wc hD.out (by omega)
    rw [hN.out.n] at hbz
    have HGX := Lib.hid (fun (r : Int) (h : (bestB d now 4).1 = r) => show givesB d r now = (0, false) from if_pos (Or.inl (by rw [hN.out.n]; exact h)))
    obtain ⟨bb, hbb⟩ : ∃ bb, bestB d now 4 = bb := ⟨_, rfl⟩
    rw [hbb] at hbz HBI HGI HGX
    clear hbb
    obtain ⟨x, y⟩ := bb
    simp only at hbz HBI HGI HGX
    refine hbz.mono ?_
    rintro e w5 ⟨rfl, q0, rfl⟩
    clear hbz
    have HD := Lib.hid (hD.out.gr ((Gr.refl _).drewN q0))
    have HGD := Lib.hid (hG.out.drewN q0)
    generalize wc.drewN q0 = wd at *
    clear hD hG
    go_wp2
    go_loopw [60] (fun i wr => ∃ k : Nat, k ≤ 4 ∧ i = .int .i64 k ∧ Hid (∃ q, wr = wd.drewN q)) (fun i _ => 4 - (intOf i).toNat)
    case atStart => exact ⟨0, by omega, rfl, Lib.hid ⟨0, rfl⟩⟩
    case round =>
      obtain ⟨i, hi, rfl, hq⟩ := hrel
      obtain ⟨q, rfl⟩ := hq.out
      clear hq
      by_cases hlt : i < 4
      · have hG := fun q => bdGives_any (i : Int) now (wd.drewN q) (HD.out.gr ((Gr.refl _).drewN q)) (by omega)
        rw [HGI.out] at hG
        have hW := fun q => bdWants_any x now (wd.drewN q) (HD.out.gr ((Gr.refl _).drewN q)) (by omega)
        have CR := Lib.hid (fun q => bdCount_any (i : Int) now (wd.drewN q) (HD.out.gr ((Gr.refl _).drewN q)) (by omega))
        have HX := Lib.hid (fun q => bdGives_any x now (wd.drewN q) (HD.out.gr ((Gr.refl _).drewN q)) (by omega))
        have HXE := Lib.hid (HGX.out x rfl)
        generalize countB d (i : Int) now = c at *
        generalize wantsB d x now = wx at *
        by_cases h1 : 0 ≤ x
        · by_cases h2 : x = (i : Int)
          · rw [if_neg (fun h => h.2.1 h2)] at hG
            have h2e : (x == (i : Int)) = true := by simpa using h2
            have h2f : (x != (i : Int)) = false := by simpa using h2
            have G := Lib.hid hG
            clear hG hW h2
            go_wp2_with fail
            refine (G.out _).mono ?_
            rintro e v1 ⟨rfl, q1, rfl⟩
            go_wp2
            exact ⟨⟨i + 1, hlt, by simp, Lib.hid ⟨_, rfl⟩⟩, by simp [intOf]; omega⟩
          · have h2e : (x == (i : Int)) = false := by simpa using h2
            have h2f : (x != (i : Int)) = true := by simpa using h2
            cases wx
            · rw [if_neg (fun h => by simp at h)] at hG
              have G := Lib.hid hG
              have WX := Lib.hid hW
              clear hG hW h2
              go_wp2_with fail
              refine (G.out _).mono ?_
              rintro e v1 ⟨rfl, q1, rfl⟩
              go_wp2_with fail
              refine (WX.out _).mono ?_
              rintro e v2 ⟨rfl, q2, rfl⟩
              go_wp2
              exact ⟨⟨i + 1, hlt, by simp, Lib.hid ⟨_, rfl⟩⟩, by simp [intOf]; omega⟩
            · by_cases h3 : c < y
              · rw [if_pos ⟨h1, h2, rfl, h3⟩] at hG
                have h3' : (c : Int) < (y : Int) := by omega
                have hX := HX.out
                rw [HXE.out] at hX
                have G := Lib.hid hG
                have WX := Lib.hid hW
                have GX := Lib.hid hX
                clear hG hW h2 hX
                go_wp2_with fail
                refine (G.out _).mono ?_
                rintro e v1 ⟨rfl, q1, rfl⟩
                go_wp2_with fail
                refine (WX.out _).mono ?_
                rintro e v2 ⟨rfl, q2, rfl⟩
                go_wp2_with fail
                refine (CR.out _).mono ?_
                rintro e v3 ⟨rfl, q3, rfl⟩
                go_wp2_with fail
                refine (GX.out _).mono ?_
                rintro e v4 ⟨rfl, q4, rfl⟩
                go_wp2_with fail
                refine (WX.out _).mono ?_
                rintro e v5 ⟨rfl, q5, rfl⟩
                go_wp2
                exact ⟨⟨i + 1, hlt, by simp, Lib.hid ⟨_, rfl⟩⟩, by simp [intOf]; omega⟩
              · rw [if_neg (fun h => h3 h.2.2.2)] at hG
                have h3' : ¬ (c : Int) < (y : Int) := by omega
                have G := Lib.hid hG
                have WX := Lib.hid hW
                clear hG hW h2
                go_wp2_with fail
                refine (G.out _).mono ?_
                rintro e v1 ⟨rfl, q1, rfl⟩
                go_wp2_with fail
                refine (WX.out _).mono ?_
                rintro e v2 ⟨rfl, q2, rfl⟩
                go_wp2_with fail
                refine (CR.out _).mono ?_
                rintro e v3 ⟨rfl, q3, rfl⟩
                go_wp2
                exact ⟨⟨i + 1, hlt, by simp, Lib.hid ⟨_, rfl⟩⟩, by simp [intOf]; omega⟩
        · rw [if_neg (fun h => h1 h.1)] at hG
          have G := Lib.hid hG
          clear hG hW
          go_wp2_with fail
          refine (G.out _).mono ?_
          rintro e v1 ⟨rfl, q1, rfl⟩
          go_wp2
          exact ⟨⟨i + 1, hlt, by simp, Lib.hid ⟨_, rfl⟩⟩, by simp [intOf]; omega⟩
      · obtain rfl : i = 4 := by omega
        go_wp2
        go_ret
        exact ⟨rfl, (HG2.out.trans HGD.out).drewN _⟩
end Go.Proofs.Ytmgpnpmdmelnkaa
