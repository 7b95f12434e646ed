import Derived.Test.YtegapeplbincnaaDoorF09d
import Derived.Test.YtegapeplbincnaaDoorF07r
import Derived.WalkKit
import Derived.ProofKit
import Derived.LoopTactic
import Derived.Outline
import Derived.WalkSpells
import Derived.WalkLawsBesides
import Derived.Lib.Hide
import Derived.Deep.LoopGhost
import Derived.Deep.QuietTactic
import Derived.BigQuiet
import Derived.ShutString
import Derived.IntWalk
import Derived.Lib.MinMax
import Derived.Deep.RegionWith
import Derived.Deep.RegionHeld3
namespace Go.Proofs.YtegapeplbincnaaDoor
open Go.ChangeShapes Go.WideShapes Go.ChangeAt Go.RowKit
open Grids
set_option linter.unusedVariables false
set_option linter.unusedSimpArgs false
theorem region_in {r p W z1 n1 z2 n2 : Nat} (R : Rgt r p W z1 n1 z2 n2) (m : Nat) (hm : m < r * p) (w : World) :
    Calls Tryd.prog 33 #[.agg #[.int .i64 r, .int .i64 p, .int .u32 W, .int .i64 z1, .int .i64 n1, .int .i64 z2, .int .i64 n2], .int .i64 m] w fun e w' => e = .returned (.int .i64 (m / p : Nat)) ∧ Gr w w' := by
  have h := has2_any (m : Int) (len_shp R)
  rw [decide_eq_true (show 0 ≤ (m : Int) ∧ (m : Int) < ((r * p : Nat) : Int) by omega)] at h
  have h9 := shp12 R.shp
  exact regionOf_yes m p (by have := R.shp.hp; omega) (by omega) h w
theorem want_none (p n i : Nat) : want p n 0 i = n := by
  unfold want regC
  rw [cnt_congr (g := fun _ => false) p fun j _ => Nat.zero_testBit _, cnt_none]; rfl
theorem Ints.sole {w w' : World} {p b off : Nat} {l : List Int} (h : Ints w (some ⟨b, off, none⟩) l) (ho : Sole p w w') (hb : b ≠ p) : Ints w' (some ⟨b, off, none⟩) l := by
  obtain ⟨h1, h2, h3⟩ := h
  refine ⟨h1, h2, h3.imp id ?_⟩
  rintro ⟨b', off', e, hc⟩
  cases e
  exact ⟨b, off, rfl, fun i hi => ho.cell hb (hc i hi)⟩
theorem sum_le4 : ∀ (l : List Nat), (∀ m ∈ l, m ≤ 4) → l.sum ≤ 4 * l.length
  | [], _ => by simp
  | x :: l, h => by
    have h1 := h x (by simp)
    have h2 := sum_le4 l fun m hm => h m (by simp [hm])
    simp only [List.sum_cons, List.length_cons]; omega
theorem less_one (g : Nat) : max ((g : Int) - 1) 0 = ((g - 1 : Nat) : Int) := by omega
theorem kz_in {r p W z1 n1 z2 n2 : Nat} (R : Rgt r p W z1 n1 z2 n2) (f : Bool) : 1 ≤ kz f z1 z2 ∧ kz f z1 z2 ≤ r ∧ 1 ≤ kz f n1 n2 ∧ kz f n1 n2 ≤ p := by
  have h1 := R.shp.hz1; have h2 := R.shp.hn1; have h3 := R.shp.hz2; have h4 := R.shp.hn2
  cases f
  · exact ⟨h3.1, h3.2, h4.1, h4.2⟩
  · exact ⟨h1.1, h1.2, h2.1, h2.2⟩
theorem want_new {p n a m i : Nat} (hp : 0 < p) (h : a.testBit m = false) : want p n (a ||| 2 ^ m) i = if i = m / p then want p n a i - 1 else want p n a i := by
  unfold want
  rw [regC_new hp h]
  split <;> omega
/-- What a set's list says to the walk. -/
theorem list_facts {r p s : Nat} (hp : 0 < p) (hs : s < 2 ^ (r * p)) : ∀ k, k < (ints (bitsL s)).length → ∃ m : Nat, (ints (bitsL s))[k]? = some (m : Int) ∧ m < r * p ∧ m < 32 ∧ m / p < r ∧ (setL ((ints (bitsL s)).take k)).testBit m = false ∧ setL ((ints (bitsL s)).take (k + 1)) = setL ((ints (bitsL s)).take k) ||| 2 ^ m := by
  intro k hk
  have hk' : k < (bitsL s).length := by simpa [ints] using hk
  have hb := bitsL_mem (List.getElem_mem hk')
  have hm : (bitsL s)[k] < r * p := by
    apply Nat.lt_of_not_le
    intro hle
    have := Nat.testBit_lt_two_pow (Nat.lt_of_lt_of_le hs (Nat.pow_le_pow_right (n := 2) (by decide) hle))
    rw [hb.2] at this; cases this
  have he : (ints (bitsL s))[k] = ((bitsL s)[k] : Int) := by simp [ints]
  refine ⟨(bitsL s)[k], by rw [List.getElem?_eq_getElem hk, he], hm, hb.1, by rw [Nat.div_lt_iff_lt_mul hp]; exact hm, ?_, by rw [setL_take hk, he, one_in hb.1]⟩
  rw [← Bool.not_eq_true, setL_bit]
  rintro ⟨_, h2⟩
  obtain ⟨j, hj, hj2⟩ := List.getElem_of_mem h2
  rw [List.getElem_take] at hj2
  have hjk : j < k := by simp at hj; omega
  have := List.pairwise_iff_getElem.1 (bitsL_up s) j k (by omega) hk' hjk
  have e2 : (ints (bitsL s))[j]'(by omega) = ((bitsL s)[j]'(by omega) : Int) := by simp [ints]
  rw [e2] at hj2
  omega
set_option maxRecDepth 100000 in
set_option maxHeartbeats 2000000 in
theorem vLeast_any {b r p W z1 n1 z2 n2 s : Nat} {f : Bool} (R : Rgt r p W z1 n1 z2 n2) (hs : s < 2 ^ (r * p)) (w : World) (h : VtIs w b r p W z1 n1 z2 n2 f s) (hT : TB w) :
    Calls Tryd.prog 18 #[.pointer (some ⟨b, 0, none⟩)] w fun e w' => e = .returned (.int .i64 (least r p (kz f z1 z2) (kz f n1 n2) s : Nat)) ∧ Gr w w' := by
  obtain ⟨z0, zr, n0, np⟩ := kz_in R f
  have hr := R.shp.hr
  have hp := R.shp.hp
  have CH := Lib.hid (check_shp R.shp true R.good 0 rfl)
  have RG := Lib.hid (fun m hm w => region_in R m hm w)
  have LF := Lib.hid (list_facts (r := r) (p := p) (s := s) (by omega) hs)
  have KK := Lib.hid (fun w h => vKind_any (f := f) (b := b) (r := r) (p := p) (W := W) (z1 := z1) (n1 := n1) (z2 := z2) (n2 := n2) (s := s) w h)
  have WL := Lib.hid (fun a i => want_le (per := p) (nodes := kz f n1 n2) (set := a) (by omega) i)
  have HV := Lib.hid h
  have HT := Lib.hid hT
  have hls := h.lt
  have hbw := cell_lt h.c0
  obtain ⟨c0, c1, c2, c3, c4, c5, c6, -, -, -, -⟩ := h
  have KZ : Hid (∀ w, VtIs w b r p W z1 n1 z2 n2 f s → Calls Tryd.prog 31 #[.pointer (some ⟨b, 0, none⟩)] w fun e w' => e = .returned (.agg #[.int .i64 (kz f z1 z2 : Nat), .int .i64 (kz f n1 n2 : Nat)]) ∧ Gr w w') := Lib.hid fun w h => KK.out w h
  clear KK hs hT
  unfold least
  generalize kz f z1 z2 = z at *
  generalize kz f n1 n2 = n at *
  go_enter Tryd.func18, Tryd.ntmps18
  go_wp2_with fail
  refine (CH.out _).mono ?_
  rintro e w1 ⟨rfl, hg1⟩
  have HV1 := Lib.hid (HV.out.gr hg1)
  have HG1 := Lib.hid hg1
  clear c0 c1 c2 c3 c4 c5 c6 hg1
  go_wp2_with fail
  refine (KZ.out _ HV1.out).mono ?_
  rintro e w2 ⟨rfl, hg2⟩
  have HG2 := Lib.hid (HG1.out.trans hg2)
  have hz := (Gr.refl w2).alloc (.cells #[.int .i64 (z : Nat), .int .i64 (n : Nat)] 46)
  have hk2 := HG2.out.size
  have HVk := Lib.hid ((HV1.out.gr hg2).gr hz)
  have HGk := Lib.hid (HG2.out.trans hz)
  have k0 : (w2.alloc (.cells #[.int .i64 (z : Nat), .int .i64 (n : Nat)] 46)).cell? ⟨w2.heap.size, 0, none⟩ = some (.int .i64 (z : Nat)) := new_cell rfl rfl
  have k1 : (w2.alloc (.cells #[.int .i64 (z : Nat), .int .i64 (n : Nat)] 46)).cell? ⟨w2.heap.size, 1, none⟩ = some (.int .i64 (n : Nat)) := new_cell rfl rfl
  have hlt : w2.heap.size < (w2.alloc (.cells #[.int .i64 (z : Nat), .int .i64 (n : Nat)] 46)).heap.size := by simp
  have e0 := HVk.out.c0
  have hbk : b < w2.heap.size := by omega
  clear hg2 hz
  go_wp2
  generalize w2.alloc (.cells #[.int .i64 (z : Nat), .int .i64 (n : Nat)] 46) = wk at *
  generalize w2.heap.size = kb at *
  have hlt2 : b < wk.heap.size := by omega
  have RC : Hid (((wk.alloc (.cells #[.int .i64 (n : Nat)] 3)).drew).cell? ⟨wk.heap.size, 0, none⟩ = some (.int .i64 (n : Nat))) := Lib.hid (((Gr.refl _).drew).cell (new_cell rfl rfl))
  have HX := Lib.hid (((Gr.refl wk).alloc (.cells #[.int .i64 (n : Nat)] 3)).drew)
  have hxz : wk.heap.size < ((wk.alloc (.cells #[.int .i64 (n : Nat)] 3)).drew).heap.size := by simp
  go_region_with (go_at_call 32; go_loud (refine (rep_any n r _ hr _ RC.out).mono ?_; rintro e w3 ⟨d, rfl, hd, hrow, hg3⟩))
  all_goals
    have hx3 := HX.out.trans hg3
    have HV3 := Lib.hid (HVk.out.gr hx3)
    have HG3 := Lib.hid (HGk.out.trans hx3)
    have HT3 := Lib.hid (HT.out.gr HG3.out)
    have K0 := Lib.hid (hx3.cell k0)
    have hbd : b ≠ d := by omega
    have hkd : kb ≠ d := by omega
    have hwd : w.heap.size ≤ d := by omega
    have HR3 : Hid (RowG w3 d r (want p n (setL ((ints (bitsL s)).take 0)))) := Lib.hid fun i hi => (by
      have e9 : want p n (setL ((ints (bitsL s)).take 0)) i = n := want_none p n i
      rw [e9]; exact hrow i hi)
    have c8 := HV3.out.c8
    have hd3 : d < w3.heap.size := cell_lt (hrow 0 (by omega)).1
    clear hx3 hrow hg3 k0 k1 e0 RC HX hxz hlt hbk hlt2 hd
    go_wp2_with fail
    refine (list3_any s _ hls HT3.out).mono ?_
    rintro e w4 ⟨a2, cap2, rfl, hi2, hg4, hba⟩
    have HB := Lib.hid (fun b o h => Nat.ne_of_gt (Nat.lt_of_lt_of_le hd3 (hba b o h)))
    clear hba hd3
    have HV4 := Lib.hid (HV3.out.gr hg4)
    have HG4 := Lib.hid (HG3.out.trans hg4)
    have K4 := Lib.hid (hg4.cell K0.out)
    have HR4 := Lib.hid (HR3.out.gr hg4)
    have HI := Lib.hid hi2
    have SB := Lib.hid (show setL (ints (bitsL s)) = s from setL_bitsL hls)
    clear hi2 hg4 c8
    have hB32 : (ints (bitsL s)).length ≤ 32 := by have h1 := bitsL_len s; have h2 := cnt_le s.testBit 32; simp [ints]; omega
    generalize ints (bitsL s) = B at *
    go_wp2
    go_loopw [34] (fun i wr => ∃ k : Nat, k ≤ B.length ∧ i = .int .i64 (k : Nat) ∧ Hid (VtIs wr b r p W z1 n1 z2 n2 f s) ∧ Hid (Gr w wr) ∧ Hid (wr.cell? ⟨kb, 0, none⟩ = some (.int .i64 (z : Nat))) ∧ Hid (RowG wr d r (want p n (setL (B.take k)))) ∧ Hid (Ints wr a2 B)) (fun i _ => B.length - (intOf i).toNat)
    case atStart => exact ⟨0, by omega, rfl, HV4.out, HG4.out, K4.out, HR4.out, HI.out⟩
    case round =>
      obtain ⟨k, hk, rfl, hV, hG, hK, hRow, hIn⟩ := hrel
      by_cases hlt : k < B.length
      · obtain ⟨m, hBm, hm9, hm32, hmr, hfr, hst⟩ := LF.out k hlt
        obtain ⟨-, -, hcl⟩ := hIn.out
        obtain ⟨bl, ol, rfl, hcc⟩ := hcl.resolve_left (by intro e; rw [e] at hlt; simp at hlt)
        have hbl : bl ≠ d := HB.out _ _ rfl
        have x0 := hcc k hlt
        have hBk : B[k] = (m : Int) := by rw [List.getElem?_eq_getElem hlt] at hBm; exact Option.some.inj hBm
        rw [hBk] at x0
        have HN := Lib.hid (fun i => @want_new p n (setL (B.take k)) m i (by omega) hfr)
        rw [← hst] at HN
        have hg4 := WL.out (setL (B.take k)) (m / p)
        clear hBk hBm hcc hcl hfr hst
        have RGm := Lib.hid (RG.out m hm9)
        clear hm9 hm32
        obtain ⟨c0, c1, c2, c3, c4, c5, c6, -, -, -, -⟩ := hV.out
        generalize m / p = t at *
        go_wp2_with fail
        refine (RGm.out _).mono ?_
        rintro e w5 ⟨rfl, hg5⟩
        have hRow5 := hRow.out.gr hg5
        obtain ⟨y0, y1⟩ := hRow5 t hmr
        have HRow5 := Lib.hid hRow5
        have HV5 := Lib.hid (hV.out.gr hg5)
        have HG5 := Lib.hid (hG.out.trans hg5)
        have HK5 := Lib.hid (hg5.cell hK.out)
        have HI5 := Lib.hid (hIn.out.gr hg5)
        have LO := Lib.hid (less_one (want p n (setL (B.take k)) t))
        have HP := Lib.hid (HRow5.out.put (g' := want p n (setL (B.take (k + 1)))) (x := want p n (setL (B.take k)) t - 1) hmr (by rw [HN.out, if_pos rfl]) (fun i hi => by rw [HN.out, if_neg hi]))
        clear c0 c1 c2 c3 c4 c5 c6 x0 hRow5 hg5
        generalize want p n (setL (B.take k)) t = q at *
        go_wp2_with (simp only [LO.out])
        all_goals
          go_roundw
          case rel => exact ⟨k + 1, by omega, by go_num, Lib.hid ((Sole.setCell d t w5 _).vt hbd HV5.out), Lib.hid ((Sole.setCell d t w5 _).gr HG5.out hwd), Lib.hid ((Sole.setCell d t w5 _).cell hkd HK5.out), HP, Lib.hid (HI5.out.sole (Sole.setCell d t w5 _) hbl)⟩
          case measure => simp [intOf]; omega
      · obtain rfl : k = B.length := by omega
        have hR := hRow.out
        rw [List.take_length, SB.out] at hR
        have SO := Lib.hid (sort_any d r (want p n s) hr (fun i => WL.out s i) wr hR)
        clear hR
        go_wp2_with fail
        refine SO.out.mono ?_
        rintro e w5 ⟨rfl, hS, M, hMl, hMs, hM4, hMc⟩
        have kz0 := hS.cell hkd hK.out
        have HG5 := Lib.hid (hS.gr hG.out hwd)
        have HMs := Lib.hid hMs
        have HM4 := Lib.hid hM4
        have HMc := Lib.hid hMc
        have HMl := Lib.hid hMl
        clear hS hMl hMs hM4 hMc
        go_wp2
        go_loop [8, 61] (fun v i => ∃ k : Nat, k ≤ z ∧ i = .int .i64 (k : Nat) ∧ v = .int .i64 ((M.take k).sum : Nat)) (fun _ i => z - (intOf i).toNat)
        case atStart => exact ⟨0, by omega, rfl, rfl⟩
        case round =>
          obtain ⟨k, hk3, rfl, rfl⟩ := hrel
          by_cases hlt3 : k < z
          · have hkM : k < M.length := by rw [HMl.out]; omega
            have y0 := HMc.out k hkM
            have y4 := HM4.out M[k] (List.getElem_mem hkM)
            have HS := Lib.hid (sum_take_succ hkM)
            have hsb : (M.take k).sum ≤ 4 * 4 := by
              have h1 := sum_le4 (M.take k) fun m hm => HM4.out m (List.mem_of_mem_take hm)
              have h2 : (M.take k).length ≤ 4 := by rw [List.length_take]; omega
              omega
            generalize M[k] = q at *
            clear hkM
            generalize (M.take k).sum = sm at *
            go_wp2
            go_round
            case rel => exact ⟨k + 1, by omega, by go_num, by rw [HS.out]; go_num⟩
            case measure => simp [intOf]; omega
          · obtain rfl : k = z := by omega
            have HE := Lib.hid (HMs.out k zr)
            go_wp2
            go_ret
            exact ⟨by rw [← HE.out]; rfl, HG5.out⟩
end Go.Proofs.YtegapeplbincnaaDoor
