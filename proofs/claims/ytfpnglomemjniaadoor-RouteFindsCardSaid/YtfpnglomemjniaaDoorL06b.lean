import Derived.Test.YtfpnglomemjniaaDoorF06f
import Derived.Test.YtfpnglomemjniaaDoorL06
import Derived.WalkKit
import Derived.ProofKit
import Derived.LoopTactic
import Derived.Outline
import Derived.WalkSpells
import Derived.WalkLawsBesides
import Derived.Lib.Hide
import Derived.Deep.LoopGhost
import Derived.Deep.QuietTactic
import Derived.BigQuiet
import Derived.ShutString
import Derived.Deep.RegionHeld3
namespace Go.Proofs.YtfpnglomemjniaaDoor
open Go.ChangeShapes Go.WideShapes Go.ChangeAt Go.RowKit
set_option linter.unusedVariables false
set_option linter.unusedSimpArgs false
theorem prefixOf_in {L : List (List ByteArray)} {k : Nat} (h : k < L.length) : prefixOf L (k : Nat) = L[k] := by
  unfold prefixOf; rw [if_neg (by omega)]; simp [List.getD_eq_getElem?_getD, h]
theorem prefixOf_out {L : List (List ByteArray)} {i : Int} (h : i < 0 ∨ (L.length : Int) ≤ i) : prefixOf L i = [] := by
  unfold prefixOf
  rcases Int.lt_or_le i 0 with h1 | h1
  · rw [if_pos h1]
  · rw [if_neg (by omega)]
    have : L.length ≤ i.toNat := by omega
    simp [List.getD_eq_getElem?_getD, this]
set_option maxRecDepth 100000 in
set_option maxHeartbeats 4000000 in
theorem routeFinds_walk (ss : List ByteArray) (a : Option Addr) (c : Nat) (tt : List ByteArray) (a' : Option Addr) (c' : Nat) (N : Int) (w : World) (h : Strs w a ss) (h' : Strs w a' tt) (he : ET w) (hm : ML w) :
    Calls Tryd.prog 8 #[.slice a ss.length c, .slice a' tt.length c', .int .i64 N] w fun e w' => e = .returned (.bool true) ∧ Gr w w' := by
  have q1 := eqNN
  have q2 := eqIN
  have HS := Lib.hid h
  have HS' := Lib.hid h'
  have HE := Lib.hid he
  have HM := Lib.hid hm
  clear h h' he hm
  go_enter Tryd.func8, Tryd.ntmps8
  go_wp2_with fail
  refine (awake06_any _ HE.out HM.out).mono ?_
  rintro e w1 ⟨rfl, hg1⟩
  have HG1 := Lib.hid hg1
  clear hg1
  go_wp2_with fail
  refine (few06_any a ss c _ (HS.out.gr HG1.out)).mono ?_
  rintro e w2 ⟨af, cf, rfl, hst, hg2⟩
  have hfl := fewT_le ss
  generalize fewT ss = T at *
  have HG2 := Lib.hid (HG1.out.trans hg2)
  have hzT : ∀ s ∈ T, s.size ≤ 1000 := fun s hs => Nat.le_trans (hfl.1 s hs) (by decide)
  have NW := Lib.hid (new2_any T af cf w2 hst hzT (HE.out.gr HG2.out) (HM.out.gr HG2.out))
  have RN := Lib.hid (fun w hh => refNew_any T af cf w hh hzT)
  have HT2 := Lib.hid hst
  clear hst hg2 hfl hzT
  obtain ⟨n, L, hn⟩ : ∃ n L, newOf T = (n, L) := ⟨_, _, rfl⟩
  rw [hn] at NW RN
  by_cases hn0 : n = 0
  · subst hn0
    obtain ⟨hcl, hL1, hL4, hpa⟩ := newOf_ok hn
    obtain ⟨hLok, hmap⟩ := parseAll_ok hpa
    go_wp2_with fail
    refine NW.out.mono ?_
    intro e w3 h3
    obtain ⟨b, rfl, htab, hg3⟩ := newIs_ok h3
    have HG3 := Lib.hid (HG2.out.trans hg3)
    have HTb3 := Lib.hid htab
    have HT3 := Lib.hid (HT2.out.gr hg3)
    clear h3 htab hg3 hpa hn NW hcl
    go_wp2_with fail
    refine (RN.out _ HT3.out).mono ?_
    intro e w4 h4
    obtain ⟨ar, cr, rfl, hsr, hg4⟩ := rnewIs_ok h4
    have HG4 := Lib.hid (HG3.out.trans hg4)
    have HTb4 := Lib.hid (HTb3.out.gr hg4)
    have HT4 := Lib.hid (HT3.out.gr hg4)
    have HSR := Lib.hid hsr
    have LE := Lib.hid (fun w hh => len_any b L w hh)
    have PR := Lib.hid (fun (i : Int) w hh => prefix_any b L i w hh hL4)
    have HLok := Lib.hid hLok
    have HMap := Lib.hid hmap
    clear h4 hsr hg4 hLok hmap
    go_wp2_with fail
    refine (LE.out _ HTb4.out).mono ?_
    rintro e w5 ⟨rfl, rfl⟩
    generalize w4 = wz at *
    go_wp2
    go_loopw [70] (fun i wr => ∃ k : Nat, k ≤ L.length ∧ i = .int .i64 k ∧ Hid (Gr wz wr)) (fun i _ => L.length - (intOf i).toNat)
    case atStart => exact ⟨0, by omega, rfl, Lib.hid (Gr.refl _)⟩
    case round =>
      obtain ⟨k, hk, rfl, hG⟩ := hrel
      by_cases hlt : k < L.length
      · have hTk : T.length = L.length := by rw [← HMap.out, List.length_map]
        obtain ⟨b1, o1, rfl, hbw, d1, hsz⟩ := HT4.out.at k (by omega)
        have hTe : T[k]'(by omega) = shown L[k] := by
          have : (L.map shown)[k]? = T[k]? := by rw [HMap.out]
          rw [List.getElem?_map, List.getElem?_eq_getElem hlt, List.getElem?_eq_getElem (show k < T.length by omega)] at this
          simpa using this.symm
        rw [hTe] at d1
        have PRk := Lib.hid (fun w hh => PR.out (k : Nat) w hh)
        rw [prefixOf_in hlt] at PRk
        have TXk := Lib.hid (fun w => text_any L[k] w)
        have hkT : (k : Int) < (T.length : Int) := by omega
        clear hTe hTk hsz
        generalize ptext L[k] = v at *
        generalize shown L[k] = sh at *
        have HX : Hid (∀ w0 w9 : World, Gr w0 w9 → Gr wz w0 ∧ w0.cell? ⟨b1, o1 + k, none⟩ = some (.string sh) ∧ TabIs w0 b L → Gr wz w9 ∧ w9.cell? ⟨b1, o1 + k, none⟩ = some (.string sh) ∧ TabIs w9 b L) :=
          Lib.hid fun w0 w9 hg ⟨h1, h2, h3⟩ => ⟨h1.trans hg, hg.cell h2, h3.gr hg⟩
        have HS0 := And.intro hG.out (And.intro (hG.out.cell d1) (HTb4.out.gr hG.out))
        clear d1 hbw
        go_wp2
        refine wp_region_held_drew (S := (fun w' => Gr wz w' ∧ w'.cell? ⟨b1, o1 + k, none⟩ = some (.string sh) ∧ TabIs w' b L)) (by kernel_rfl) ?inva (fun h0 => ?_)
        case inva => ((try dsimp only); (first | exact HS0 | exact HX.out _ _ ((Gr.refl _).drew) HS0))
        refine wpAnyH_take (i := 0) (oi := { dst := some 73, op := Go.Op.move (Go.Operand.tmp 7), type := 52, pos := "law.go:53", after := #[], guard := none }) (v := ?va0) rfl (by kernel_rfl) (by kernel_rfl) (by kernel_rfl) (fun _ _ _ h => h) (Or.inl ⟨by rfl, ?ra0⟩) (by assumption) ?_
        case ra0 => (intro w hSw; (try dsimp only at hSw); (go_simp <;> with_reducible rfl))
        try simp only [Act.put, List.setIfInBounds_toArray, List.set_cons_zero, List.set_cons_succ]
        refine wpAnyH_take (i := 1) (oi := { dst := some 74, op := Go.Op.move (Go.Operand.tmp 12), type := 3, pos := "law.go:53", after := #[], guard := none }) (v := ?va1) rfl (by kernel_rfl) (by kernel_rfl) (by kernel_rfl) (fun _ _ _ h => h) (Or.inl ⟨by rfl, ?ra1⟩) (by assumption) ?_
        case ra1 => (intro w hSw; (try dsimp only at hSw); (go_simp <;> with_reducible rfl))
        try simp only [Act.put, List.setIfInBounds_toArray, List.set_cons_zero, List.set_cons_succ]
        refine wpAnyH_take (i := 4) (oi := { dst := some 77, op := Go.Op.move (Go.Operand.tmp 0), type := 29, pos := "law.go:53", after := #[], guard := none }) (v := ?va4) rfl (by kernel_rfl) (by kernel_rfl) (by kernel_rfl) (fun _ _ _ h => h) (Or.inl ⟨by rfl, ?ra4⟩) (by assumption) ?_
        case ra4 => (intro w hSw; (try dsimp only at hSw); (go_simp <;> with_reducible rfl))
        try simp only [Act.put, List.setIfInBounds_toArray, List.set_cons_zero, List.set_cons_succ]
        refine wpAnyH_take (i := 5) (oi := { dst := some 78, op := Go.Op.move (Go.Operand.tmp 12), type := 3, pos := "law.go:53", after := #[], guard := none }) (v := ?va5) rfl (by kernel_rfl) (by kernel_rfl) (by kernel_rfl) (fun _ _ _ h => h) (Or.inl ⟨by rfl, ?ra5⟩) (by assumption) ?_
        case ra5 => (intro w hSw; (try dsimp only at hSw); (go_simp <;> with_reducible rfl))
        try simp only [Act.put, List.setIfInBounds_toArray, List.set_cons_zero, List.set_cons_succ]
        refine wpAnyH_take (i := 6) (oi := { dst := some 79, op := Go.Op.indexAddr 29 (Go.Operand.tmp 77) (Go.Operand.tmp 78), type := 0, pos := "law.go:53", after := #[{ on := 4, ground := Go.Ground.data }, { on := 5, ground := Go.Ground.data }], guard := none }) (v := ?va6) rfl (by kernel_rfl) (by kernel_rfl) (by kernel_rfl) (fun _ _ _ h => h) (Or.inl ⟨by rfl, ?ra6⟩) (by assumption) ?_
        case ra6 => (intro w hSw; (try dsimp only at hSw); (go_simp <;> with_reducible rfl))
        try simp only [Act.put, List.setIfInBounds_toArray, List.set_cons_zero, List.set_cons_succ]
        refine wpAnyH_take (i := 7) (oi := { dst := some 80, op := Go.Op.load 9 (Go.Operand.tmp 79), type := 9, pos := "law.go:53", after := #[{ on := 6, ground := Go.Ground.data }], guard := none }) (v := ?va7) rfl (by kernel_rfl) (by kernel_rfl) (by kernel_rfl) (fun _ _ _ h => h) (Or.inl ⟨by rfl, ?ra7⟩) (by assumption) ?_
        case ra7 => (intro w hSw; (try dsimp only at hSw); (go_simp <;> with_reducible rfl))
        try simp only [Act.put, List.setIfInBounds_toArray, List.set_cons_zero, List.set_cons_succ]
        refine wpAnyH_ready (rs := [2]) (by kernel_rfl) (by simp) ?_
        refine AllReadyH.cons (o := { dst := some 75, op := Go.Op.call { callee := Go.Callee.value (Go.Operand.func 35), args := #[Go.Operand.tmp 73, Go.Operand.tmp 74], argTypes := #[52, 3] }, type := 24, pos := "law.go:53", after := #[{ on := 0, ground := Go.Ground.data }, { on := 1, ground := Go.Ground.data }], guard := none }) rfl (fun K hK => ?_) AllReadyH.nil
        go_simp
        (go_at_call 35; refine (PRk.out _ h0.2.2).mono ?_; rintro e w9 ⟨rfl, hgN⟩)
        first | refine hK.out _ _ ?sa1 (fun h1 => ?_) | (go_wp2_with fail; refine hK.out _ _ ?sa1 (fun h1 => ?_))
        case sa1 => ((try dsimp only); exact HX.out _ _ hgN h0)
        clear hK K h0
        try simp only [Act.put, List.setIfInBounds_toArray, List.set_cons_zero, List.set_cons_succ]
        refine wpAnyH_ready (rs := [3]) (by kernel_rfl) (by simp) ?_
        refine AllReadyH.cons (o := { dst := some 76, op := Go.Op.call { callee := Go.Callee.value (Go.Operand.func 17), args := #[Go.Operand.tmp 75], argTypes := #[24] }, type := 9, pos := "law.go:53", after := #[{ on := 2, ground := Go.Ground.data }, { on := 2, ground := Go.Ground.chain }], guard := none }) rfl (fun K hK => ?_) AllReadyH.nil
        go_simp
        (go_at_call 17; refine (TXk.out _).mono ?_; rintro e w9 ⟨rfl, hgN⟩)
        first | refine hK.out _ _ ?sa2 (fun h2 => ?_) | (go_wp2_with fail; refine hK.out _ _ ?sa2 (fun h2 => ?_))
        case sa2 => ((try dsimp only); exact HX.out _ _ hgN h1)
        clear hK K h1
        try simp only [Act.put, List.setIfInBounds_toArray, List.set_cons_zero, List.set_cons_succ]
        refine wpAnyH_take (i := 8) (oi := { dst := some 81, op := Go.Op.binOp Go.BinOp.neq 9 (Go.Operand.tmp 76) (Go.Operand.tmp 80) 9, type := 4, pos := "law.go:53", after := #[{ on := 3, ground := Go.Ground.data }, { on := 7, ground := Go.Ground.data }], guard := none }) (v := ?va8) rfl (by kernel_rfl) (by kernel_rfl) (by kernel_rfl) (fun _ _ _ h => h) (Or.inl ⟨by rfl, ?ra8⟩) (by assumption) ?_
        case ra8 => (intro w hSw; (try dsimp only at hSw); (go_simp <;> with_reducible rfl))
        try simp only [Act.put, List.setIfInBounds_toArray, List.set_cons_zero, List.set_cons_succ]
        refine wpAnyH_done (by kernel_rfl) ?_ _
        obtain ⟨g9, -, -⟩ := h2
        have G9 := Lib.hid g9
        clear g9
        go_wp2
        go_roundw
        case rel => exact ⟨k + 1, by omega, by go_num, G9⟩
        case measure => simp [intOf]; omega
      · have HGz := Lib.hid (HG4.out.trans hG.out)
        have HTz := Lib.hid (HTb4.out.gr hG.out)
        have HSz := Lib.hid (HSR.out.gr hG.out)
        clear HSR HTb4 HTb3 HT4 HT3 HT2 HG3 HG4
        go_wp2_with fail
        refine (lawMade_any a' tt c' _ (HS'.out.gr HGz.out) (HE.out.gr HGz.out)).mono ?_
        rintro e w6 ⟨ap, cp, rfl, hst, hg6⟩
        have hok := madeL_ok tt
        generalize madeL tt = p at *
        have FP := Lib.hid (fun w hh h2 => find_any b L p w hh hok h2 hL4)
        have RF := Lib.hid (fun w hh h2 => refFind_any L p ar ap cr cp w hh h2 hL4)
        generalize ptext p = t at *
        have HG6 := Lib.hid ((HGz.out.trans hg6).alloc (.cells #[.string t] 24))
        have HT6 := Lib.hid ((HTz.out.gr hg6).gr ((Gr.refl w6).alloc (.cells #[.string t] 24)))
        have HS6 := Lib.hid ((HSz.out.gr hg6).gr ((Gr.refl w6).alloc (.cells #[.string t] 24)))
        have HP6 := Lib.hid (hst.gr ((Gr.refl w6).alloc (.cells #[.string t] 24)))
        have c0 : (w6.alloc (.cells #[.string t] 24)).cell? ⟨w6.heap.size, 0, none⟩ = some (.string t) := new_cell rfl rfl
        have hx : findOf L p = -1 ∨ 0 ≤ findOf L p := by rcases findOf_cases L p with e | ⟨i, _, e, _⟩ <;> omega
        generalize findOf L p = x at *
        clear hst hg6 hok
        have hN : (0 ≤ N ∧ N < (L.length : Int)) ∨ N < 0 ∨ (0 ≤ N ∧ (L.length : Int) ≤ N) := by omega
        rcases hx with rfl | hx0
        · go_wp2_with fail
          refine (FP.out _ HT6.out (HE.out.gr HG6.out)).mono ?_
          intro e w7 h7
          obtain ⟨b7, rfl, hch, hg7⟩ := findIs_no h7
          have HG7 := Lib.hid (HG6.out.trans hg7)
          have HT7 := Lib.hid (HT6.out.gr hg7)
          have HC7 := Lib.hid hch
          have RF7 := Lib.hid (RF.out w7 (HS6.out.gr hg7) (HP6.out.gr hg7))
          clear h7 hg7 c0 hch
          go_wp2_with fail
          refine RF7.out.mono ?_
          rintro e w8 ⟨rfl, hg8⟩
          have HG8 := Lib.hid (HG7.out.trans hg8)
          have HT8 := Lib.hid (HT7.out.gr hg8)
          have HC8 := Lib.hid (HC7.out.gr hg8)
          clear hg8
          go_wp2_with fail
          refine (code_any _ lostL _ (by decide) HC8.out (HE.out.gr HG8.out)).mono ?_
          rintro e w9 ⟨rfl, hg9⟩
          have e11 : codeOf lostL = 11 := rfl
          rw [e11]
          have HG9 := Lib.hid (HG8.out.trans hg9)
          have HT9 := Lib.hid (HT8.out.gr hg9)
          clear hg9
          rcases hN with ⟨n0, n1⟩ | n0 | ⟨n0, n1⟩
          · go_wp2_with fail
            refine (LE.out _ HT9.out).mono ?_
            rintro e w10 ⟨rfl, rfl⟩
            go_wp2
            go_ret
            exact ⟨by first | rfl | simp, HG9.out⟩
          · have PN := Lib.hid (fun w hh => PR.out N w hh)
            rw [prefixOf_out (.inl n0)] at PN
            go_wp2_with fail
            refine (PN.out _ HT9.out).mono ?_
            rintro e w10 ⟨rfl, hg10⟩
            have HG10 := Lib.hid (HG9.out.trans hg10)
            have e0 : ptext [] = ⟨#[]⟩ := rfl
            rw [e0]
            clear hg10
            go_wp2
            go_ret
            exact ⟨by first | rfl | simp, HG10.out⟩
          · have PN := Lib.hid (fun w hh => PR.out N w hh)
            rw [prefixOf_out (.inr n1)] at PN
            go_wp2_with fail
            refine (LE.out _ HT9.out).mono ?_
            rintro e w10 ⟨rfl, rfl⟩
            go_wp2_with fail
            refine (PN.out _ HT9.out).mono ?_
            rintro e w11 ⟨rfl, hg10⟩
            have HG10 := Lib.hid (HG9.out.trans hg10)
            have e0 : ptext [] = ⟨#[]⟩ := rfl
            rw [e0]
            clear hg10
            go_wp2
            go_ret
            exact ⟨by first | rfl | simp, HG10.out⟩
        · go_wp2_with fail
          refine (FP.out _ HT6.out (HE.out.gr HG6.out)).mono ?_
          intro e w7 h7
          obtain ⟨rfl, hg7⟩ := findIs_yes hx0 h7
          have HG7 := Lib.hid (HG6.out.trans hg7)
          have HT7 := Lib.hid (HT6.out.gr hg7)
          have RF7 := Lib.hid (RF.out w7 (HS6.out.gr hg7) (HP6.out.gr hg7))
          clear h7 hg7 c0
          go_wp2_with fail
          refine RF7.out.mono ?_
          rintro e w8 ⟨rfl, hg8⟩
          have HG8 := Lib.hid (HG7.out.trans hg8)
          have HT8 := Lib.hid (HT7.out.gr hg8)
          clear hg8
          go_wp2_with fail
          refine (code_any .nilIface [] _ (by decide) rfl (HE.out.gr HG8.out)).mono ?_
          rintro e w9 ⟨rfl, hg9⟩
          have e0 : codeOf [] = 0 := rfl
          rw [e0]
          have HG9 := Lib.hid (HG8.out.trans hg9)
          have HT9 := Lib.hid (HT8.out.gr hg9)
          clear hg9
          rcases hN with ⟨n0, n1⟩ | n0 | ⟨n0, n1⟩
          · go_wp2_with fail
            refine (LE.out _ HT9.out).mono ?_
            rintro e w10 ⟨rfl, rfl⟩
            go_wp2
            go_ret
            exact ⟨by first | rfl | simp, HG9.out⟩
          · have PN := Lib.hid (fun w hh => PR.out N w hh)
            rw [prefixOf_out (.inl n0)] at PN
            go_wp2_with fail
            refine (PN.out _ HT9.out).mono ?_
            rintro e w10 ⟨rfl, hg10⟩
            have HG10 := Lib.hid (HG9.out.trans hg10)
            have e0 : ptext [] = ⟨#[]⟩ := rfl
            rw [e0]
            clear hg10
            go_wp2
            go_ret
            exact ⟨by first | rfl | simp, HG10.out⟩
          · have PN := Lib.hid (fun w hh => PR.out N w hh)
            rw [prefixOf_out (.inr n1)] at PN
            go_wp2_with fail
            refine (LE.out _ HT9.out).mono ?_
            rintro e w10 ⟨rfl, rfl⟩
            go_wp2_with fail
            refine (PN.out _ HT9.out).mono ?_
            rintro e w11 ⟨rfl, hg10⟩
            have HG10 := Lib.hid (HG9.out.trans hg10)
            have e0 : ptext [] = ⟨#[]⟩ := rfl
            rw [e0]
            clear hg10
            go_wp2
            go_ret
            exact ⟨by first | rfl | simp, HG10.out⟩
  · obtain ⟨hc1, hc2, hc3, tl, htl⟩ := errL_facts (newOf_num hn hn0)
    have hn3 := newOf_num hn hn0
    have TR := Lib.hid (fun v w hch hET => trail_any v (errL n) w hc2 hc3 hch hET)
    have CO := Lib.hid (fun v w hch hET => code_any v (errL n) w hc2 hch hET)
    rw [htl] at TR
    rw [hc1] at CO
    have tn : ((n : Int) != 0) = true := by simp; omega
    clear hc1 hc2 hc3 htl hn
    go_wp2_with fail
    refine NW.out.mono ?_
    intro e w3 h3
    obtain ⟨b, rfl, hch, hg3⟩ := newIs_bad hn0 h3
    have HG3 := Lib.hid (HG2.out.trans hg3)
    have HC3 := Lib.hid hch
    have HT3 := Lib.hid (HT2.out.gr hg3)
    clear h3 hg3 NW hch
    go_wp2_with fail
    refine (RN.out _ HT3.out).mono ?_
    intro e w4 h4
    obtain ⟨rfl, hg4⟩ := rnewIs_bad hn0 h4
    have HG4 := Lib.hid (HG3.out.trans hg4)
    have HC4 := Lib.hid (HC3.out.gr hg4)
    clear h4 hg4 hn0 hn3
    go_wp2_with fail
    refine (TR.out _ _ HC4.out (HE.out.gr HG4.out)).mono ?_
    rintro e w5 ⟨a5, c5, rfl, hst, _, hg5⟩
    have HG5 := Lib.hid (HG4.out.trans hg5)
    have HC5 := Lib.hid (HC4.out.gr hg5)
    have HS5 := Lib.hid hst
    clear hst hg5
    go_wp2_with fail
    refine (CO.out _ _ HC5.out (HE.out.gr HG5.out)).mono ?_
    rintro e w6 ⟨rfl, hg6⟩
    have HG6 := Lib.hid (HG5.out.trans hg6)
    obtain ⟨b6, o6, rfl, _, hc6, _⟩ := HS5.out.at 0 (by simp)
    have hc7 := hg6.cell hc6
    clear hg6 hc6
    simp only [List.getElem_cons_zero, Nat.add_zero] at hc7
    have hrw : (routeW.toList == [114, 111, 117, 116, 101]) = true := by decide +kernel
    have hl5 : 0 < (routeW :: tl).length := by simp
    go_wp2
    go_ret
    exact ⟨by first | rfl | simp, HG6.out⟩
end Go.Proofs.YtfpnglomemjniaaDoor
