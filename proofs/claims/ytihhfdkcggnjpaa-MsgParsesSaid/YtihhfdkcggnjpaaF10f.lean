import Derived.Test.YtihhfdkcggnjpaaF10e
import Derived.WalkKit
import Derived.ProofKit
import Derived.LoopTactic
import Derived.Outline
import Derived.WalkSpells
import Derived.WalkLawsBesides
import Derived.Lib.Hide
import Derived.Deep.LoopGhost
import Derived.Deep.QuietTactic
import Derived.BigQuiet
import Derived.ShutString
import Derived.IntWalk
namespace Go.Proofs.Ytihhfdkcggnjpaa
open Go.ChangeShapes Go.WideShapes Go.ChangeAt Go.RowKit
set_option linter.unusedVariables false
set_option linter.unusedSimpArgs false
theorem among_any (n lo hi : Int) (w : World) : Calls Try.prog 101 #[.int .i64 n, .int .i64 lo, .int .i64 hi] w fun e w' => e = .returned (.bool (decide (lo ≤ n) && decide (n ≤ hi))) ∧ Gr w w' := by
  by_cases h1 : lo ≤ n
  · by_cases h2 : n ≤ hi
    · go_enter Try.func101, Try.ntmps101
      go_wp2
      go_ret
      exact ⟨by simp [h1, h2], Gr.refl _⟩
    · go_enter Try.func101, Try.ntmps101
      go_wp2
      go_ret
      exact ⟨by simp [h1, h2], Gr.refl _⟩
  · go_enter Try.func101, Try.ntmps101
    go_wp2
    go_ret
    exact ⟨by simp [h1]; try omega, Gr.refl _⟩
theorem sound_any (c n : Int) (hc : 0 ≤ c) (w : World) : Calls Try.prog 102 #[.agg #[.int .u64 c, .int .i64 n]] w fun e w' => e = .returned (.bool (balB c n)) ∧ Gr w w' := by
  have HA := Lib.hid ((Gr.refl w).alloc (.cells #[.int .u64 c, .int .i64 n] 78))
  have HO := Lib.hid ((Gr.refl (w.alloc (.cells #[.int .u64 c, .int .i64 n] 78))).own)
  have HU := Lib.hid (among_any n 0 11)
  change Hid (∀ w, Calls Try.prog 101 #[.int .i64 n, .int .i64 0, .int .i64 11] w fun e w' => e = .returned (.bool (upB n 11)) ∧ Gr w w') at HU
  obtain ⟨B, hB⟩ : ∃ B, B = balB c n := ⟨_, rfl⟩
  rw [← hB]
  have hB2 : B = (upB n 11 && (decide (n = 0) || decide (0 < c))) := by
    rw [hB]; unfold balB
    by_cases h1 : 0 < c
    · simp [h1]
    · by_cases h2 : n = 0
      · have h3 : c = 0 := by omega
        simp [h2, h3]
      · simp [h1, h2]
  have HB := Lib.hid hB2
  clear hB hB2
  generalize upB n 11 = x0 at *
  go_enter Try.func102, Try.ntmps102
  go_wp2_with fail
  refine (HU.out _).mono ?_
  rintro e w9 ⟨rfl, hg9⟩
  have HG9 := Lib.hid (HA.out.trans hg9)
  have k0 := hg9.cell (HO.out.1 0 _ rfl)
  have k1 := hg9.cell (HO.out.1 1 _ rfl)
  clear hg9
  cases x0
  · go_wp2
    go_ret
    exact ⟨by rw [HB.out]; first | rfl | simp, HG9.out⟩
  · by_cases h1 : n = 0
    · have h1' : (n == 0) = true := by simp [h1]
      have H1 := Lib.hid h1
      clear h1
      go_wp2
      go_ret
      exact ⟨by rw [HB.out]; simp [H1.out], HG9.out⟩
    · have h1' : (n == 0) = false := by simp [h1]
      have H1 := Lib.hid h1
      clear h1
      by_cases h2 : 0 < c
      · go_wp2
        go_ret
        exact ⟨by rw [HB.out]; simp [H1.out, h2], HG9.out⟩
      · go_wp2
        go_ret
        exact ⟨by rw [HB.out]; simp [H1.out, h2], HG9.out⟩
set_option maxRecDepth 100000 in
set_option maxHeartbeats 4000000 in
theorem refCheck_any {base : Nat} {a : Option Addr} {q : Nat} (kd frm tt sub c n slot time : Int) (ok : Bool) (text : ByteArray) (L : List E) (w : World) (h : w.ownsRow base 164 4 (.slice a L.length q) L.length (rcells encE L)) (hl : L.length ≤ 1000) (hc : 0 ≤ c) (hcs : ∀ y ∈ L, 0 ≤ y.c) :
    Calls Try.prog 40 #[.agg #[.int .i64 kd, .int .i64 frm, .int .i64 tt, .int .i64 sub, .int .u64 c, .int .i64 n, .int .i64 slot, .int .i64 time, .bool ok, .string text, .slice a L.length q]] w fun e w' => e = .returned (.int .i64 (checkM kd frm tt sub c n slot time text L)) ∧ Gr w w' := by
  have HA := Lib.hid ((Gr.refl w).alloc (.cells #[.int .i64 kd, .int .i64 frm, .int .i64 tt, .int .i64 sub, .int .u64 c, .int .i64 n, .int .i64 slot, .int .i64 time, .bool ok, .string text, .slice a L.length q] 81))
  have HO := Lib.hid ((Gr.refl (w.alloc (.cells #[.int .i64 kd, .int .i64 frm, .int .i64 tt, .int .i64 sub, .int .u64 c, .int .i64 n, .int .i64 slot, .int .i64 time, .bool ok, .string text, .slice a L.length q] 81))).own)
  have HG := Lib.hid (Gr.refl (w.alloc (.cells #[.int .i64 kd, .int .i64 frm, .int .i64 tt, .int .i64 sub, .int .u64 c, .int .i64 n, .int .i64 slot, .int .i64 time, .bool ok, .string text, .slice a L.length q] 81)))
  have HR := Lib.hid fun w9 (hg : Gr w w9) k hk => erow_T (ownsRow_gr hg h) k hk
  clear h
  obtain ⟨R, hR⟩ : ∃ R, R = checkM kd frm tt sub c n slot time text L := ⟨_, rfl⟩
  rw [← hR]
  unfold checkM rangeB shortB at hR
  have HRES := Lib.hid hR
  clear hR
  have HK := Lib.hid (among_any kd 1 13)
  change Hid (∀ w, Calls Try.prog 101 #[.int .i64 kd, .int .i64 1, .int .i64 13] w fun e w' => e = .returned (.bool (kindB kd)) ∧ Gr w w') at HK
  have HU := Lib.hid (show ∀ n m w, Calls Try.prog 101 #[.int .i64 n, .int .i64 0, .int .i64 m] w fun e w' => e = .returned (.bool (upB n m)) ∧ Gr w w' from fun n m w => among_any n 0 m w)
  have HS3 := Lib.hid (sound_any c n hc)
  have HSE := Lib.hid fun y (hy : y ∈ L) => sound_any y.c y.n (hcs y hy)
  clear hc hcs
  have HX6 := Lib.hid (rfl : L.any badE = L.any badE)
  have HX7 := Lib.hid (rfl : L.any bigE = L.any bigE)
  have HX8 := Lib.hid (rfl : chainB L = chainB L)
  have H0 := Lib.hid (HU.out frm 11)
  have H1 := Lib.hid (HU.out tt 11)
  have H2 := Lib.hid (HU.out sub 3)
  have H4 := Lib.hid (HU.out slot 1099511627776)
  have H5 := Lib.hid (HU.out time 1099511627776)
  generalize kindB kd = xk at *
  generalize upB frm 11 = x0 at *
  generalize upB tt 11 = x1 at *
  generalize upB sub 3 = x2 at *
  generalize balB c n = x3 at *
  generalize upB slot 1099511627776 = x4 at *
  generalize upB time 1099511627776 = x5 at *
  generalize hx6 : L.any badE = x6 at HRES
  generalize hx7 : L.any bigE = x7 at HRES
  generalize hx8 : chainB L = x8 at HRES
  replace HX6 := Lib.hid hx6
  replace HX7 := Lib.hid hx7
  replace HX8 := Lib.hid hx8
  clear hx6 hx7 hx8
  go_enter Try.func40, Try.ntmps40
  have k0 := HG.out.cell (HO.out.1 0 _ rfl)
  go_wp2_with fail
  refine (HK.out _).mono ?_
  rintro e wk ⟨rfl, hg9⟩
  replace HG := Lib.hid (HG.out.trans hg9)
  clear hg9 k0 HK
  generalize w.alloc (.cells #[.int .i64 kd, .int .i64 frm, .int .i64 tt, .int .i64 sub, .int .u64 c, .int .i64 n, .int .i64 slot, .int .i64 time, .bool ok, .string text, .slice a L.length q] 81) = wa at *
  cases xk
  · go_wp2
    go_ret
    exact ⟨by rw [HRES.out]; first | rfl | simp, HA.out.trans HG.out⟩
  · skip
    have k1 := HG.out.cell (HO.out.1 1 _ rfl)
    go_wp2_with fail
    refine (H0.out _).mono ?_
    rintro e w0 ⟨rfl, hg9⟩
    replace HG := Lib.hid (HG.out.trans hg9)
    clear hg9 k1
    cases x0
    case false =>
      go_wp2
      go_ret
      exact ⟨by rw [HRES.out]; first | rfl | simp, HA.out.trans HG.out⟩
    have k2 := HG.out.cell (HO.out.1 2 _ rfl)
    go_wp2_with fail
    refine (H1.out _).mono ?_
    rintro e w1 ⟨rfl, hg9⟩
    replace HG := Lib.hid (HG.out.trans hg9)
    clear hg9 k2
    cases x1
    case false =>
      go_wp2
      go_ret
      exact ⟨by rw [HRES.out]; first | rfl | simp, HA.out.trans HG.out⟩
    have k3 := HG.out.cell (HO.out.1 3 _ rfl)
    go_wp2_with fail
    refine (H2.out _).mono ?_
    rintro e w2 ⟨rfl, hg9⟩
    replace HG := Lib.hid (HG.out.trans hg9)
    clear hg9 k3
    cases x2
    case false =>
      go_wp2
      go_ret
      exact ⟨by rw [HRES.out]; first | rfl | simp, HA.out.trans HG.out⟩
    have k4 := HG.out.cell (HO.out.1 4 _ rfl)
    have k5 := HG.out.cell (HO.out.1 5 _ rfl)
    go_wp2_with fail
    refine (HS3.out _).mono ?_
    rintro e w3 ⟨rfl, hg9⟩
    replace HG := Lib.hid (HG.out.trans hg9)
    clear hg9 k4 k5
    cases x3
    case false =>
      go_wp2
      go_ret
      exact ⟨by rw [HRES.out]; first | rfl | simp, HA.out.trans HG.out⟩
    have k6 := HG.out.cell (HO.out.1 6 _ rfl)
    go_wp2_with fail
    refine (H4.out _).mono ?_
    rintro e w4 ⟨rfl, hg9⟩
    replace HG := Lib.hid (HG.out.trans hg9)
    clear hg9 k6
    cases x4
    case false =>
      go_wp2
      go_ret
      exact ⟨by rw [HRES.out]; first | rfl | simp, HA.out.trans HG.out⟩
    have k7 := HG.out.cell (HO.out.1 7 _ rfl)
    go_wp2_with fail
    refine (H5.out _).mono ?_
    rintro e w5 ⟨rfl, hg9⟩
    replace HG := Lib.hid (HG.out.trans hg9)
    clear hg9 k7
    cases x5
    case false =>
      go_wp2
      go_ret
      exact ⟨by rw [HRES.out]; first | rfl | simp, HA.out.trans HG.out⟩
    have k10 := HG.out.cell (HO.out.1 10 _ rfl)
    go_wp2
    clear k10
    have k10 := HG.out.cell (HO.out.1 10 _ rfl)
    go_loopw [51] (fun u51 wr => ∃ k : Nat, k ≤ L.length ∧ u51 = .int .i64 (k : Nat) ∧ Hid (∀ j (h : j < L.length), j < k → badE L[j] = false) ∧ Hid (Gr wa wr)) (fun u51 _ => L.length - (intOf u51).toNat)
    case atStart => exact ⟨0, by omega, rfl, Lib.hid (fun j _ h => absurd h (by omega)), HG⟩
    case round =>
      clear HG k10
      obtain ⟨k, hk, rfl, HN, HG⟩ := hrel
      by_cases hlt : k < L.length
      · have hk4 : (k : Int) < (L.length : Int) := by omega
        obtain ⟨g, cap, hv, c0, c1, c2, c3⟩ := HR.out _ (HA.out.trans HG.out) k hlt
        simp only [Value.slice.injEq, true_and] at hv
        obtain ⟨rfl, rfl⟩ := hv
        have HM := Lib.hid (List.getElem_mem hlt)
        generalize hy : L[k] = y at *
        have HY := Lib.hid hy
        clear hy
        have HC := Lib.hid (HSE.out y HM.out)
        have HCU := Lib.hid (HU.out y.slot 1099511627776)
        have HBE := Lib.hid (show badE y = (!upB y.slot 1099511627776 || !balB y.c y.n) from rfl)
        generalize upB y.slot 1099511627776 = z0 at *
        generalize balB y.c y.n = z1 at *
        have HOE := Lib.hid ((Gr.refl (wr.alloc (.cells #[.int .i64 y.slot, .int .u64 y.c, .int .i64 y.n, .string y.text] 164))).own)
        have HGA := Lib.hid (HG.out.alloc (.cells #[.int .i64 y.slot, .int .u64 y.c, .int .i64 y.n, .string y.text] 164))
        go_wp2_with fail
        refine (HC.out _).mono ?_
        rintro e w9 ⟨rfl, hg9⟩
        replace HGA := Lib.hid (HGA.out.trans hg9)
        have e0 := hg9.cell (HOE.out.1 0 _ rfl)
        clear hg9 c0 c1 c2 c3
        cases z1
        · have hx : x6 = true := by rw [← HX6.out]; exact List.any_eq_true.2 ⟨y, HM.out, by rw [HBE.out]; simp⟩
          subst hx
          go_wp2
          go_ret
          exact ⟨by rw [HRES.out]; first | rfl | simp, HA.out.trans HGA.out⟩
        · go_wp2_with fail
          refine (HCU.out _).mono ?_
          rintro e w8 ⟨rfl, hg8⟩
          replace HGA := Lib.hid (HGA.out.trans hg8)
          clear hg8 e0
          cases z0
          · have hx : x6 = true := by rw [← HX6.out]; exact List.any_eq_true.2 ⟨y, HM.out, by rw [HBE.out]; simp⟩
            subst hx
            go_wp2
            go_ret
            exact ⟨by rw [HRES.out]; first | rfl | simp, HA.out.trans HGA.out⟩
          · go_wp2
            go_roundw
            case rel => exact ⟨k + 1, by omega, by go_num, Lib.hid (fun j hj hjk => by
              by_cases e : j = k
              · subst e; rw [HY.out, HBE.out]; rfl
              · exact HN.out j hj (by omega)), HGA⟩
            case measure => simp [intOf]; omega
      · have hk5 : ¬ (k : Int) < (L.length : Int) := by omega
        have HBAD := Lib.hid (show ∀ y ∈ L, badE y = false from fun y hy => by
          obtain ⟨j, hj, rfl⟩ := List.getElem_of_mem hy
          exact HN.out j hj (by omega))
        have hx : x6 = false := by rw [← HX6.out]; exact List.any_eq_false.2 fun y hy => by rw [HBAD.out y hy]; simp
        subst hx
        clear HN hk hlt
        have k9 := HG.out.cell (HO.out.1 9 _ rfl)
        have k10 := HG.out.cell (HO.out.1 10 _ rfl)
        by_cases h1 : text.size ≤ 131072
        case neg =>
          have h1' : (131072 : Int) < (text.size : Int) := by omega
          rw [decide_eq_false h1] at HRES
          clear h1
          go_wp2
          go_ret
          exact ⟨by rw [HRES.out]; first | rfl | simp, HA.out.trans HG.out⟩
        have h1' : ¬ (131072 : Int) < (text.size : Int) := by omega
        rw [decide_eq_true h1] at HRES
        clear h1
        by_cases h2 : L.length ≤ 64
        case neg =>
          have h2' : (64 : Int) < (L.length : Int) := by omega
          rw [decide_eq_false h2] at HRES
          clear h2
          go_wp2
          go_ret
          exact ⟨by rw [HRES.out]; first | rfl | simp, HA.out.trans HG.out⟩
        have h2' : ¬ (64 : Int) < (L.length : Int) := by omega
        rw [decide_eq_true h2] at HRES
        clear h2
        go_wp2
        clear hk5
        go_loopw [79] (fun u51 wr => ∃ k : Nat, k ≤ L.length ∧ u51 = .int .i64 (k : Nat) ∧ Hid (∀ j (h : j < L.length), j < k → bigE L[j] = false) ∧ Hid (Gr wa wr)) (fun u51 _ => L.length - (intOf u51).toNat)
        case atStart => exact ⟨0, by omega, rfl, Lib.hid (fun j _ h => absurd h (by omega)), HG⟩
        case round =>
          clear HG k9 k10 h1' h2'
          obtain ⟨k, hk, rfl, HN, HG⟩ := hrel
          by_cases hlt : k < L.length
          · have hk4 : (k : Int) < (L.length : Int) := by omega
            obtain ⟨g, cap, hv, c0, c1, c2, c3⟩ := HR.out _ (HA.out.trans HG.out) k hlt
            simp only [Value.slice.injEq, true_and] at hv
            obtain ⟨rfl, rfl⟩ := hv
            have HM := Lib.hid (List.getElem_mem hlt)
            generalize hy : L[k] = y at *
            have HY := Lib.hid hy
            clear hy
            have HGA := Lib.hid (HG.out.alloc (.cells #[.int .i64 y.slot, .int .u64 y.c, .int .i64 y.n, .string y.text] 164))
            by_cases hb : 400 < (y.text.size : Int)
            · have hx : x7 = true := by rw [← HX7.out]; exact List.any_eq_true.2 ⟨y, HM.out, by simp [bigE, hb]⟩
              subst hx
              go_wp2
              go_ret
              exact ⟨by rw [HRES.out]; first | rfl | simp, HA.out.trans HGA.out⟩
            · have HNB := Lib.hid (show bigE y = false by simp only [bigE]; exact decide_eq_false hb)
              go_wp2
              go_roundw
              case rel => exact ⟨k + 1, by omega, by go_num, Lib.hid (fun j hj hjk => by
                by_cases e : j = k
                · subst e; rw [HY.out]; exact HNB.out
                · exact HN.out j hj (by omega)), HGA⟩
              case measure => simp [intOf]; omega
          · have hk5 : ¬ (k : Int) < (L.length : Int) := by omega
            have hx : x7 = false := by
              rw [← HX7.out]
              refine List.any_eq_false.2 fun y hy => ?_
              obtain ⟨j, hj, rfl⟩ := List.getElem_of_mem hy
              rw [HN.out j hj (by omega)]; simp
            subst hx
            clear HN hk hlt
            have k10 := HG.out.cell (HO.out.1 10 _ rfl)
            go_wp2
            clear hk5
            go_loopw [91, 7] (fun u51 u7 wr => ∃ (k : Nat) (la : Int), k ≤ L.length ∧ u51 = .int .i64 (k : Nat) ∧ u7 = .int .i64 la ∧ Hid ((k = 0 ∧ la = -1) ∨ ∃ (j : Nat) (h : j < L.length), k = j + 1 ∧ la = L[j].slot) ∧ Hid (∀ i (h : i + 1 < L.length), i + 1 < k → L[i].slot < L[i + 1].slot) ∧ Hid (Gr wa wr)) (fun u51 _ _ => L.length - (intOf u51).toNat)
            case atStart => exact ⟨0, -1, by omega, rfl, rfl, Lib.hid (.inl ⟨rfl, rfl⟩), Lib.hid (fun j _ h => absurd h (by omega)), HG⟩
            case round =>
              clear HG k10
              obtain ⟨k, la, hk, rfl, rfl, HLA, HN, HG⟩ := hrel
              by_cases hlt : k < L.length
              · have hk4 : (k : Int) < (L.length : Int) := by omega
                obtain ⟨g, cap, hv, c0, c1, c2, c3⟩ := HR.out _ (HA.out.trans HG.out) k hlt
                simp only [Value.slice.injEq, true_and] at hv
                obtain ⟨rfl, rfl⟩ := hv
                have HM := Lib.hid (List.getElem_mem hlt)
                have HP := Lib.hid (show 0 ≤ L[k].slot from by
                  have := HBAD.out _ HM.out
                  simp only [badE, upB, Bool.or_eq_false_iff, Bool.not_eq_false', Bool.and_eq_true, decide_eq_true_eq] at this
                  exact this.1.1)
                generalize hy : L[k] = y at *
                have HY := Lib.hid hy
                clear hy
                have HGA := Lib.hid (HG.out.alloc (.cells #[.int .i64 y.slot, .int .u64 y.c, .int .i64 y.n, .string y.text] 164))
                by_cases hb : y.slot ≤ la
                · have hx : x8 = false := by
                    rw [← HX8.out]
                    cases hch : chainB L
                    · rfl
                    · rcases HLA.out with ⟨_, h2⟩ | ⟨j, hj, h2, h3⟩
                      · have := HP.out; omega
                      · subst h2
                        have h4 := (chainB_iff L).1 hch j hlt
                        rw [HY.out, ← h3] at h4
                        omega
                  subst hx
                  go_wp2
                  go_ret
                  exact ⟨by rw [HRES.out]; first | rfl | simp, HA.out.trans HGA.out⟩
                · have HNB := Lib.hid (show la < y.slot by omega)
                  go_wp2
                  go_roundw
                  case rel => exact ⟨k + 1, y.slot, by omega, by go_num, rfl, Lib.hid (.inr ⟨k, hlt, rfl, by rw [HY.out]⟩), Lib.hid (fun i hi hik => by
                    by_cases e : i + 1 = k
                    · subst e
                      rcases HLA.out with ⟨h1, _⟩ | ⟨j, hj, h2, h3⟩
                      · omega
                      · have : j = i := by omega
                        subst this
                        rw [HY.out, ← h3]; exact HNB.out
                    · exact HN.out i hi (by omega)), HGA⟩
                  case measure => simp [intOf]; omega
              · have hk5 : ¬ (k : Int) < (L.length : Int) := by omega
                have hx : x8 = true := by rw [← HX8.out]; exact (chainB_iff L).2 fun i hi => HN.out i hi (by omega)
                subst hx
                go_wp2
                go_ret
                exact ⟨by rw [HRES.out]; first | rfl | simp, HA.out.trans HG.out⟩
end Go.Proofs.Ytihhfdkcggnjpaa
