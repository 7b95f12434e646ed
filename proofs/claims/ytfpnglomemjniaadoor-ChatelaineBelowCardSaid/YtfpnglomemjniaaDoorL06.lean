import Derived.Test.YtfpnglomemjniaaDoorF06d
import Derived.Test.YtfpnglomemjniaaDoorM06b
import Derived.WalkKit
import Derived.ProofKit
import Derived.LoopTactic
import Derived.Outline
import Derived.WalkSpells
import Derived.WalkLawsBesides
import Derived.Lib.Hide
import Derived.Deep.LoopGhost
import Derived.Deep.QuietTactic
import Derived.BigQuiet
import Derived.ShutString
import Derived.Deep.RegionHeld3
namespace Go.Proofs.YtfpnglomemjniaaDoor
open Go.ChangeShapes Go.WideShapes Go.ChangeAt Go.RowKit
set_option linter.unusedVariables false
set_option linter.unusedSimpArgs false
theorem findIs_no {w w' : World} {e : Ending} (h : FindIs (-1) w e w') : ∃ b, e = .returned (.tuple #[.int .i64 (-1), .iface 68 (.pointer (some ⟨b, 0, none⟩))]) ∧ Chain w' (.iface 68 (.pointer (some ⟨b, 0, none⟩))) lostL ∧ Gr w w' := by
  rcases h with ⟨_, h⟩ | ⟨h, _⟩
  · exact h
  · omega
theorem findIs_yes {k : Int} (hk : 0 ≤ k) {w w' : World} {e : Ending} (h : FindIs k w e w') : e = .returned (.tuple #[.int .i64 k, .nilIface]) ∧ Gr w w' := by
  rcases h with ⟨h, _⟩ | ⟨_, h⟩
  · omega
  · exact h
set_option maxRecDepth 100000 in
set_option maxHeartbeats 4000000 in
theorem routeOne_walk (ss : List ByteArray) (a : Option Addr) (c : Nat) (tt : List ByteArray) (a' : Option Addr) (c' : Nat) (uu : List ByteArray) (a'' : Option Addr) (c'' : Nat) (w : World) (h : Strs w a ss) (h' : Strs w a' tt) (h'' : Strs w a'' uu) (he : ET w) (hm : ML w) :
    Calls Tryd.prog 9 #[.slice a ss.length c, .slice a' tt.length c', .slice a'' uu.length c''] w fun e w' => e = .returned (.bool true) ∧ Gr w w' := by
  have q1 := eqNN
  have q2 := eqIN
  have HS := Lib.hid h
  have HS' := Lib.hid h'
  have HS'' := Lib.hid h''
  have HE := Lib.hid he
  have HM := Lib.hid hm
  clear h h' h'' he hm
  go_enter Tryd.func9, Tryd.ntmps9
  go_wp2_with fail
  refine (awake06_any _ HE.out HM.out).mono ?_
  rintro e w1 ⟨rfl, hg1⟩
  have HG1 := Lib.hid hg1
  clear hg1
  go_wp2_with fail
  refine (few06_any a ss c _ (HS.out.gr HG1.out)).mono ?_
  rintro e w2 ⟨af, cf, rfl, hst, hg2⟩
  have hfl := fewT_le ss
  generalize fewT ss = T at *
  have HG2 := Lib.hid (HG1.out.trans hg2)
  have NW := Lib.hid (new2_any T af cf w2 hst (fun s hs => Nat.le_trans (hfl.1 s hs) (by decide)) (HE.out.gr HG2.out) (HM.out.gr HG2.out))
  clear hst hg2 hfl
  obtain ⟨n, L, hn⟩ : ∃ n L, newOf T = (n, L) := ⟨_, _, rfl⟩
  rw [hn] at NW
  by_cases hn0 : n = 0
  · subst hn0
    obtain ⟨hcl, hL1, hL4, hpa⟩ := newOf_ok hn
    go_wp2_with fail
    refine NW.out.mono ?_
    intro e w3 h3
    obtain ⟨b, rfl, htab, hg3⟩ := newIs_ok h3
    have HG3 := Lib.hid (HG2.out.trans hg3)
    have HT3 := Lib.hid htab
    clear h3 htab hg3 hpa hn NW
    go_wp2_with fail
    refine (lawMade_any a' tt c' _ (HS'.out.gr HG3.out) (HE.out.gr HG3.out)).mono ?_
    rintro e w4 ⟨ap, cp, rfl, hst, hg4⟩
    have hok := madeL_ok tt
    generalize madeL tt = p at *
    have HG4 := Lib.hid ((HG3.out.trans hg4).alloc (.cells #[.string (ptext p)] 24))
    have HT4 := Lib.hid ((HT3.out.gr hg4).gr ((Gr.refl w4).alloc (.cells #[.string (ptext p)] 24)))
    have c0 : (w4.alloc (.cells #[.string (ptext p)] 24)).cell? ⟨w4.heap.size, 0, none⟩ = some (.string (ptext p)) := new_cell rfl rfl
    have C0 := Lib.hid c0
    clear hst hg4 c0
    go_wp2_with fail
    refine (lawMade_any a'' uu c'' _ (HS''.out.gr HG4.out) (HE.out.gr HG4.out)).mono ?_
    rintro e w5 ⟨aq, cq, rfl, hst, hg5⟩
    have hok' := madeL_ok uu
    generalize madeL uu = q at *
    have HG5 := Lib.hid ((HG4.out.trans hg5).alloc (.cells #[.string (ptext q)] 24))
    have HT5 := Lib.hid ((HT4.out.gr hg5).gr ((Gr.refl w5).alloc (.cells #[.string (ptext q)] 24)))
    have c1 := (hg5.alloc (.cells #[.string (ptext q)] 24)).cell C0.out
    have c2 : (w5.alloc (.cells #[.string (ptext q)] 24)).cell? ⟨w5.heap.size, 0, none⟩ = some (.string (ptext q)) := new_cell rfl rfl
    have LE := Lib.hid (len_any b L _ HT5.out)
    clear hst hg5 C0
    have OV := Lib.hid (fun (k : Nat) (hk : k < L.length) (hmem : okParts L[k] = true) w => over_any L[k] p w hmem hok)
    have PR := Lib.hid (fun (k : Nat) w (hh : TabIs w b L) => prefix_any b L k w hh hL4)
    have FP := Lib.hid (fun w hh h2 => find_any b L p w hh hok h2 hL4)
    have FQ := Lib.hid (fun w hh h2 => find_any b L q w hh hok' h2 hL4)
    have IL := Lib.hid (fun w => inLine_any p q w hok hok')
    have hcnt := cnt_le hcl p
    have hcf := cnt_find L p
    have hfl := Lib.hid (fun h1 h2 h3 => find_line hcl (p := p) (q := q) h1 h2 h3)
    have hLok : ∀ l ∈ L, okParts l = true := HT5.out.choose_spec.choose_spec.2.2
    have HLok := Lib.hid hLok
    have hpc := findOf_cases L p
    have hqc := findOf_cases L q
    have hp2 : findOf L p = -1 ∨ 0 ≤ findOf L p := by rcases hpc with e | ⟨i, _, e, _⟩ <;> omega
    have hq2 : findOf L q = -1 ∨ 0 ≤ findOf L q := by rcases hqc with e | ⟨i, _, e, _⟩ <;> omega
    clear hok hok' hcl hLok hpc hqc
    go_wp2_with fail
    refine LE.out.mono ?_
    rintro e w6 ⟨rfl, rfl⟩
    generalize ptext p = t at *
    generalize ptext q = u at *
    generalize (w5.alloc (.cells #[.string u] 24)) = wz at *
    generalize w5.heap.size = p2 at *
    generalize w4.heap.size = p1 at *
    have C1 := Lib.hid c1
    have C2 := Lib.hid c2
    clear c1 c2 LE
    go_wp2
    go_loopw [13, 43] (fun n i wr => ∃ k : Nat, k ≤ L.length ∧ i = .int .i64 k ∧ n = .int .i64 (cnt (L.take k) p : Nat) ∧ Hid (Gr wz wr)) (fun _ i _ => L.length - (intOf i).toNat)
    case atStart => exact ⟨0, by omega, rfl, rfl, Lib.hid (Gr.refl _)⟩
    case round =>
      obtain ⟨k, hk, rfl, rfl, hG⟩ := hrel
      by_cases hlt : k < L.length
      · have hpre : prefixOf L (k : Nat) = L[k] := by unfold prefixOf; rw [if_neg (by omega)]; simp [List.getD_eq_getElem?_getD, hlt]
        have hsn := cnt_snoc hlt p
        have PRk := Lib.hid (fun w hh => PR.out k w hh)
        rw [hpre] at PRk
        have OVk := Lib.hid (OV.out k hlt (HLok.out _ (List.getElem_mem hlt)))
        have hcb : cnt (L.take k) p ≤ 4 := Nat.le_trans List.countP_le_length (by rw [List.length_take]; omega)
        generalize cnt (L.take k) p = m at *
        generalize overP L[k] p = z at *
        generalize ptext L[k] = v at *
        clear hpre
        have HSN := Lib.hid hsn
        have HX : Hid (∀ w0 w9 : World, Gr w0 w9 → Gr wz w0 ∧ w0.cell? ⟨p1, 0, none⟩ = some (.string t) ∧ TabIs w0 b L → Gr wz w9 ∧ w9.cell? ⟨p1, 0, none⟩ = some (.string t) ∧ TabIs w9 b L) :=
          Lib.hid fun w0 w9 hg ⟨h1, h2, h3⟩ => ⟨h1.trans hg, hg.cell h2, h3.gr hg⟩
        have HS0 := And.intro hG.out (And.intro (hG.out.cell C1.out) (HT5.out.gr hG.out))
        clear hsn
        go_wp2
        cases z
        · skip
          refine wp_region_held_drew (S := (fun w' => Gr wz w' ∧ w'.cell? ⟨p1, 0, none⟩ = some (.string t) ∧ TabIs w' b L)) (by kernel_rfl) ?inva (fun h0 => ?_)
          case inva => ((try dsimp only); (first | exact HS0 | exact HX.out _ _ ((Gr.refl _).drew) HS0))
          refine wpAnyH_take (i := 0) (oi := { dst := some 46, op := Go.Op.move (Go.Operand.tmp 7), type := 52, pos := "law.go:80", after := #[], guard := none }) (v := ?va0) rfl (by kernel_rfl) (by kernel_rfl) (by kernel_rfl) (fun _ _ _ h => h) (Or.inl ⟨by rfl, ?ra0⟩) (by assumption) ?_
          case ra0 => (intro w hSw; (try dsimp only at hSw); (go_simp <;> with_reducible rfl))
          try simp only [Act.put, List.setIfInBounds_toArray, List.set_cons_zero, List.set_cons_succ]
          refine wpAnyH_take (i := 1) (oi := { dst := some 47, op := Go.Op.move (Go.Operand.tmp 14), type := 3, pos := "law.go:80", after := #[], guard := none }) (v := ?va1) rfl (by kernel_rfl) (by kernel_rfl) (by kernel_rfl) (fun _ _ _ h => h) (Or.inl ⟨by rfl, ?ra1⟩) (by assumption) ?_
          case ra1 => (intro w hSw; (try dsimp only at hSw); (go_simp <;> with_reducible rfl))
          try simp only [Act.put, List.setIfInBounds_toArray, List.set_cons_zero, List.set_cons_succ]
          refine wpAnyH_take (i := 3) (oi := { dst := some 49, op := Go.Op.load 24 (Go.Operand.tmp 9), type := 24, pos := "law.go:80", after := #[], guard := none }) (v := ?va3) rfl (by kernel_rfl) (by kernel_rfl) (by kernel_rfl) (fun _ _ _ h => h) (Or.inl ⟨by rfl, ?ra3⟩) (by assumption) ?_
          case ra3 => (intro w hSw; (try dsimp only at hSw); (go_simp <;> with_reducible rfl))
          try simp only [Act.put, List.setIfInBounds_toArray, List.set_cons_zero, List.set_cons_succ]
          refine wpAnyH_ready (rs := [2]) (by kernel_rfl) (by simp) ?_
          refine AllReadyH.cons (o := { dst := some 48, op := Go.Op.call { callee := Go.Callee.value (Go.Operand.func 35), args := #[Go.Operand.tmp 46, Go.Operand.tmp 47], argTypes := #[52, 3] }, type := 24, pos := "law.go:80", after := #[{ on := 0, ground := Go.Ground.data }, { on := 1, ground := Go.Ground.data }], guard := none }) rfl (fun K hK => ?_) AllReadyH.nil
          go_simp
          (go_at_call 35; refine (PRk.out _ h0.2.2).mono ?_; rintro e w9 ⟨rfl, hgN⟩)
          first | refine hK.out _ _ ?sa1 (fun h1 => ?_) | (go_wp2_with fail; refine hK.out _ _ ?sa1 (fun h1 => ?_))
          case sa1 => ((try dsimp only); exact HX.out _ _ hgN h0)
          clear hK K h0
          try simp only [Act.put, List.setIfInBounds_toArray, List.set_cons_zero, List.set_cons_succ]
          refine wpAnyH_ready (rs := [4]) (by kernel_rfl) (by simp) ?_
          refine AllReadyH.cons (o := { dst := some 50, op := Go.Op.call { callee := Go.Callee.value (Go.Operand.func 24), args := #[Go.Operand.tmp 48, Go.Operand.tmp 49], argTypes := #[24, 24] }, type := 4, pos := "law.go:80", after := #[{ on := 2, ground := Go.Ground.data }, { on := 3, ground := Go.Ground.data }, { on := 2, ground := Go.Ground.chain }], guard := none }) rfl (fun K hK => ?_) AllReadyH.nil
          go_simp
          (go_at_call 24; refine (OVk.out _).mono ?_; rintro e w9 ⟨rfl, hgN⟩)
          first | refine hK.out _ _ ?sa2 (fun h2 => ?_) | (go_wp2_with fail; refine hK.out _ _ ?sa2 (fun h2 => ?_))
          case sa2 => ((try dsimp only); exact HX.out _ _ hgN h1)
          clear hK K h1
          try simp only [Act.put, List.setIfInBounds_toArray, List.set_cons_zero, List.set_cons_succ]
          refine wpAnyH_done (by kernel_rfl) ?_ _
          obtain ⟨g9, -, -⟩ := h2
          have G9 := Lib.hid g9
          clear g9
          go_wp2
          go_roundw
          case rel => exact ⟨k + 1, by omega, by go_num, by rw [HSN.out]; first | rfl | (simp; done) | go_num, G9⟩
          case measure => simp [intOf]; omega
        · skip
          refine wp_region_held_drew (S := (fun w' => Gr wz w' ∧ w'.cell? ⟨p1, 0, none⟩ = some (.string t) ∧ TabIs w' b L)) (by kernel_rfl) ?invb (fun h0 => ?_)
          case invb => ((try dsimp only); (first | exact HS0 | exact HX.out _ _ ((Gr.refl _).drew) HS0))
          refine wpAnyH_take (i := 0) (oi := { dst := some 46, op := Go.Op.move (Go.Operand.tmp 7), type := 52, pos := "law.go:80", after := #[], guard := none }) (v := ?vb0) rfl (by kernel_rfl) (by kernel_rfl) (by kernel_rfl) (fun _ _ _ h => h) (Or.inl ⟨by rfl, ?rb0⟩) (by assumption) ?_
          case rb0 => (intro w hSw; (try dsimp only at hSw); (go_simp <;> with_reducible rfl))
          try simp only [Act.put, List.setIfInBounds_toArray, List.set_cons_zero, List.set_cons_succ]
          refine wpAnyH_take (i := 1) (oi := { dst := some 47, op := Go.Op.move (Go.Operand.tmp 14), type := 3, pos := "law.go:80", after := #[], guard := none }) (v := ?vb1) rfl (by kernel_rfl) (by kernel_rfl) (by kernel_rfl) (fun _ _ _ h => h) (Or.inl ⟨by rfl, ?rb1⟩) (by assumption) ?_
          case rb1 => (intro w hSw; (try dsimp only at hSw); (go_simp <;> with_reducible rfl))
          try simp only [Act.put, List.setIfInBounds_toArray, List.set_cons_zero, List.set_cons_succ]
          refine wpAnyH_take (i := 3) (oi := { dst := some 49, op := Go.Op.load 24 (Go.Operand.tmp 9), type := 24, pos := "law.go:80", after := #[], guard := none }) (v := ?vb3) rfl (by kernel_rfl) (by kernel_rfl) (by kernel_rfl) (fun _ _ _ h => h) (Or.inl ⟨by rfl, ?rb3⟩) (by assumption) ?_
          case rb3 => (intro w hSw; (try dsimp only at hSw); (go_simp <;> with_reducible rfl))
          try simp only [Act.put, List.setIfInBounds_toArray, List.set_cons_zero, List.set_cons_succ]
          refine wpAnyH_ready (rs := [2]) (by kernel_rfl) (by simp) ?_
          refine AllReadyH.cons (o := { dst := some 48, op := Go.Op.call { callee := Go.Callee.value (Go.Operand.func 35), args := #[Go.Operand.tmp 46, Go.Operand.tmp 47], argTypes := #[52, 3] }, type := 24, pos := "law.go:80", after := #[{ on := 0, ground := Go.Ground.data }, { on := 1, ground := Go.Ground.data }], guard := none }) rfl (fun K hK => ?_) AllReadyH.nil
          go_simp
          (go_at_call 35; refine (PRk.out _ h0.2.2).mono ?_; rintro e w9 ⟨rfl, hgN⟩)
          first | refine hK.out _ _ ?sb1 (fun h1 => ?_) | (go_wp2_with fail; refine hK.out _ _ ?sb1 (fun h1 => ?_))
          case sb1 => ((try dsimp only); exact HX.out _ _ hgN h0)
          clear hK K h0
          try simp only [Act.put, List.setIfInBounds_toArray, List.set_cons_zero, List.set_cons_succ]
          refine wpAnyH_ready (rs := [4]) (by kernel_rfl) (by simp) ?_
          refine AllReadyH.cons (o := { dst := some 50, op := Go.Op.call { callee := Go.Callee.value (Go.Operand.func 24), args := #[Go.Operand.tmp 48, Go.Operand.tmp 49], argTypes := #[24, 24] }, type := 4, pos := "law.go:80", after := #[{ on := 2, ground := Go.Ground.data }, { on := 3, ground := Go.Ground.data }, { on := 2, ground := Go.Ground.chain }], guard := none }) rfl (fun K hK => ?_) AllReadyH.nil
          go_simp
          (go_at_call 24; refine (OVk.out _).mono ?_; rintro e w9 ⟨rfl, hgN⟩)
          first | refine hK.out _ _ ?sb2 (fun h2 => ?_) | (go_wp2_with fail; refine hK.out _ _ ?sb2 (fun h2 => ?_))
          case sb2 => ((try dsimp only); exact HX.out _ _ hgN h1)
          clear hK K h1
          try simp only [Act.put, List.setIfInBounds_toArray, List.set_cons_zero, List.set_cons_succ]
          refine wpAnyH_done (by kernel_rfl) ?_ _
          obtain ⟨g9, -, -⟩ := h2
          have G9 := Lib.hid g9
          clear g9
          go_wp2
          go_roundw
          case rel => exact ⟨k + 1, by omega, by go_num, by rw [HSN.out]; first | rfl | (simp; done) | go_num, G9⟩
          case measure => simp [intOf]; omega
      · have hk2 : cnt (L.take k) p = cnt L p := by rw [List.take_of_length_le (by omega)]
        rw [hk2]
        clear hk2
        generalize cnt L p = m at *
        generalize hx : findOf L p = x at *
        generalize hy : findOf L q = y at *
        clear hx hy
        have HGz := Lib.hid (HG5.out.trans hG.out)
        have HTz := Lib.hid (HT5.out.gr hG.out)
        have c1 := hG.out.cell C1.out
        have c2 := hG.out.cell C2.out
        have HCF := Lib.hid hcf
        rcases hp2 with rfl | hx0
        · have hm0 : m = 0 := by have := HCF.out; omega
          subst hm0
          clear hcf
          go_wp2_with fail
          refine (FP.out _ HTz.out (HE.out.gr HGz.out)).mono ?_
          intro e w7 h7
          obtain ⟨b7, rfl, -, hg7⟩ := findIs_no h7
          have HG7 := Lib.hid (HGz.out.trans hg7)
          have HT7 := Lib.hid (HTz.out.gr hg7)
          have d2 := hg7.cell c2
          clear h7 hg7 c1 c2
          go_wp2_with fail
          refine (FQ.out _ HT7.out (HE.out.gr HG7.out)).mono ?_
          intro e w8 h8
          rcases hq2 with rfl | hy0
          · obtain ⟨b8, rfl, -, hg8⟩ := findIs_no h8
            have HG8 := Lib.hid (HG7.out.trans hg8)
            clear h8 hg8
            go_wp2
            go_ret
            exact ⟨by first | rfl | simp, HG8.out⟩
          · obtain ⟨rfl, hg8⟩ := findIs_yes hy0 h8
            have HG8 := Lib.hid (HG7.out.trans hg8)
            clear h8 hg8
            go_wp2
            go_ret
            exact ⟨by first | rfl | simp, HG8.out⟩
        · have hm1 : m = 1 := by have := HCF.out; omega
          subst hm1
          clear hcf
          go_wp2_with fail
          refine (FP.out _ HTz.out (HE.out.gr HGz.out)).mono ?_
          intro e w7 h7
          obtain ⟨rfl, hg7⟩ := findIs_yes hx0 h7
          have HG7 := Lib.hid (HGz.out.trans hg7)
          have HT7 := Lib.hid (HTz.out.gr hg7)
          have d1 := hg7.cell c1
          have d2 := hg7.cell c2
          clear h7 hg7 c1 c2
          go_wp2_with fail
          refine (FQ.out _ HT7.out (HE.out.gr HG7.out)).mono ?_
          intro e w8 h8
          rcases hq2 with rfl | hy0
          · obtain ⟨b8, rfl, -, hg8⟩ := findIs_no h8
            have HG8 := Lib.hid (HG7.out.trans hg8)
            clear h8 hg8
            go_wp2
            go_ret
            exact ⟨by first | rfl | simp, HG8.out⟩
          · obtain ⟨rfl, hg8⟩ := findIs_yes hy0 h8
            have HG8 := Lib.hid (HG7.out.trans hg8)
            have f1 := hg8.cell d1
            have f2 := hg8.cell d2
            clear h8 hg8 d1 d2
            have hz2 : (overP p q || overP q p) = true → x = y := fun hh => hfl.out hh hx0 hy0
            have HZ2 := Lib.hid hz2
            clear hz2
            generalize (overP p q || overP q p) = z at *
            cases z with
            | false =>
              go_wp2_with fail
              refine (IL.out _).mono ?_
              rintro e w9 ⟨rfl, hg9⟩
              have HG9 := Lib.hid (HG8.out.trans hg9)
              clear hg9
              go_wp2
              go_ret
              exact ⟨by first | rfl | simp, HG9.out⟩
            | true =>
              have hxy : x = y := HZ2.out (by simp)
              subst hxy
              go_wp2_with fail
              refine (IL.out _).mono ?_
              rintro e w9 ⟨rfl, hg9⟩
              have HG9 := Lib.hid (HG8.out.trans hg9)
              clear hg9
              go_wp2
              go_ret
              exact ⟨by first | rfl | simp, HG9.out⟩
  · go_wp2_with fail
    refine NW.out.mono ?_
    intro e w3 h3
    obtain ⟨b, rfl, -, hg3⟩ := newIs_bad hn0 h3
    have HG3 := Lib.hid (HG2.out.trans hg3)
    clear h3 hg3 NW
    go_wp2
    go_ret
    exact ⟨by first | rfl | simp, HG3.out⟩
end Go.Proofs.YtfpnglomemjniaaDoor
