import Derived.Test.YtmgpnpmdmelnkaaGreatDoorM22d
import Derived.Test.YtmgpnpmdmelnkaaGreatDoorC45
import Derived.Test.YtmgpnpmdmelnkaaGreatDoorC18
import Derived.Test.YtmgpnpmdmelnkaaGreatDoorC29
import Derived.Test.YtmgpnpmdmelnkaaGreatDoorC42
import Derived.Test.YtmgpnpmdmelnkaaGreatDoorF05j
import Derived.WalkKit
import Derived.ProofKit
import Derived.LoopTactic
import Derived.Outline
import Derived.WalkSpells
import Derived.WalkLawsBesides
import Derived.Lib.Hide
import Derived.Deep.LoopGhost
import Derived.Deep.QuietTactic
import Derived.BigQuiet
import Derived.ShutString
import Derived.IntWalk
import Derived.Lib.MinMax
import Derived.Deep.AppendLies
import Derived.Deep.Upon
import Derived.Deep.RegionWith
import Derived.Deep.RegionHeld3
import Derived.Deep.Cut
import Derived.Deep.CutRange
import Derived.Deep.CutBlock
namespace Go.Proofs.YtmgpnpmdmelnkaaGreatDoor
open Go.ChangeShapes Go.WideShapes Go.ChangeAt Go.RowKit
set_option linter.unusedVariables false
set_option linter.unusedSimpArgs false
theorem wpList_append_nothing {P : Program} {ops : Array Oper} {rest : List Oper} {o : Oper} {a : Act} {Q : Exit → Act → World → Prop} (w : World) (hgd : o.guard = none) (s x : Operand) (t : TypeId)
    (ho : o.op = .call { callee := .builtin .append, args := #[s, x], argTypes := #[t, t] }) (e : TypeId) (i : TypeInfo) (ht : P.underlying t = some (.slice e)) (hi : P.info? e = some i)
    (b : Option Addr) (n cap : Nat) (la : Option Addr) (c : Nat) (hs : a.eval s = .slice b n cap) (hx : a.eval x = .slice la 0 c) (hn : n ≤ cap) (h : wpList P ops Q rest (a.put o.dst (.slice b n cap)) w) : wpList P ops Q (o :: rest) a w :=
  wpList_plain hgd fun K hK => by
    have hsrc : Src P i.size t (.slice la 0 c) 0 [] w := by
      cases la with
      | none => exact Src.ofNil w ht c
      | some ad => exact Src.ofSlice w ht ad 0 c [] (by simp) (by intro j u h; simp at h) (by intro u h; simp at h)
    have hrun := run_append_nothing (P := P) w t t o.type e i ht hi b n cap hn _ hsrc
    unfold Oper.wp
    simp [execOp, ho, resolve, invoke, builtin, hs, hx, hrun, Result.andThen]
    exact hK _ _ h
theorem made_path (l : List ByteArray) : IsPath (ptext (madeL l)) := ⟨_, madeL_ok l, rfl⟩
/-- A session, as the law makes it of a number. -/
theorem ses_of (S : Int) : ∃ s : Int, wrap64 (1 + (bits .and .i64 S 255).tmod 9) = s ∧ 1 ≤ s ∧ s ≤ 9 := by
  have ha : 0 ≤ bits .and .i64 S 255 ∧ bits .and .i64 S 255 ≤ 255 := and_mask S 255 (by decide)
  rw [Int.tmod_eq_emod_of_nonneg ha.1]
  refine ⟨_, rfl, ?_⟩
  unfold wrap64; omega
theorem dr_start {W w4 w6 w8 : World} {b : Nat} {t0 m : Int} {A : Bk} {v u1 u2 : Value} {Mn : List Lok} (hS : Go22 W w4 b t0 40 u1 u2 A) (h6 : Gr w4 w6) (h8 : Gr w6 w8) (hr : w8.ownsRow w6.heap.size 42 4 v Mn.length (rcells encLok Mn)) : Dr22 W w8 b t0 40 m A w6.heap.size v Mn u1 u2 A := by
  have h4 := h6.size
  have hlow : ∀ {u : Value}, (∀ k, u.ownBlock = some k → k < w4.heap.size) → (v.ownBlock = none ∨ v.ownBlock ≠ u.ownBlock) := by
    intro u hu
    rcases hq : v.ownBlock with _ | k
    · exact .inl rfl
    · refine .inr (fun e => ?_)
      have := hu k e.symm
      have := (own_ge hr hq).1
      omega
  refine ⟨hS.bk.gr (h6.trans h8), Kept.refl hS.inv, hr, fun e => ?_, hlow (fun k e => (own_ge hS.bk.r1 e).2), hlow (fun k e => (own_ge hS.bk.r2 e).2)⟩
  have := (own_ge hr e).1
  have := hS.bk.blk.lt
  omega
set_option maxRecDepth 100000 in
set_option maxHeartbeats 4000000 in
theorem goes_walk22 (T M : Int) (L : List Act22) (ra : Option Addr) (rc : Nat) (O : List Int) (oa : Option Addr) (oc : Nat) (W : World) (hT : (Lit.int .u64 T).wf = true) (hL : Act22Row W ra L) (hO : Ints W oa O) (hE : ET W) (hM : ML W) :
    Calls Tryz.prog 6 #[.agg #[.int .u64 T, .slice ra L.length rc, .int .i64 M, .slice oa O.length oc]] W fun e w' => e = .returned (.bool true) ∧ Gr W w' := by
  have HL := Lib.hid hL
  have HO := Lib.hid hO
  have HE := Lib.hid hE
  have HM := Lib.hid hM
  have HB0 := Lib.hid (Blk.new W #[.int .u64 T, .slice ra L.length rc, .int .i64 M, .slice oa O.length oc] 58)
  have HG0 := Lib.hid ((Gr.refl W).alloc (.cells #[.int .u64 T, .slice ra L.length rc, .int .i64 M, .slice oa O.length oc] 58))
  obtain ⟨t0, ht0, ht1⟩ : ∃ t : Int, (min T 1099511627776 : Int) = t ∧ 0 ≤ t ∧ t ≤ 1099511627776 := ⟨_, rfl, by
    have : 0 ≤ T := by simp [Lit.wf] at hT; have e1 : IntKind.u64.min = 0 := rfl; omega
    omega, by omega⟩
  have hl := hL.1
  have ho := hO.1
  clear hL hO hE hM hT
  go_enter Tryz.func6, Tryz.ntmps6
  go_upto_region 1 with fail
  have c0 := HB0.out.cell (i := 0) rfl
  have c1 := HB0.out.cell (i := 1) rfl
  have c2 := HB0.out.cell (i := 2) rfl
  have c3 := HB0.out.cell (i := 3) rfl
  generalize W.alloc (.cells #[.int .u64 T, .slice ra L.length rc, .int .i64 M, .slice oa O.length oc] 58) = w1 at *
  go_region
  clear c0 c1 c2 c3 ht0
  have HGD := Lib.hid HG0.out.drew
  generalize w1.drew = w2 at *
  clear HB0 HG0
  go_wp2_with fail
  refine (bkNew_any t0 W w2 HGD.out).mono ?_
  rintro e w3 ⟨b, rfl, hb, hB, hg⟩
  have HS0 : Hid (Go22 W w3 b t0 0 (.slice none 0 0) (.slice none 0 0) ⟨[], [], t0⟩) := Lib.hid ⟨hB, inv_new t0, fun x hx => by simp at hx⟩
  clear hb hB hg HGD
  go_upto_block 0 with fail
  go_cut [] from 8 (fun wx => ∃ u1 u2 B, Hid (Go22 W wx b t0 40 u1 u2 B))
  case first =>
    as_aux_lemma =>
      go_wp2_with fail
      go_loopw [8] (fun i wr => ∃ (k : Nat) (u1 u2 : Value) (B : Bk), k ≤ L.length ∧ k ≤ 40 ∧ i = .int .i64 k ∧ Hid (Go22 W wr b t0 k u1 u2 B)) (fun i _ => L.length - (intOf i).toNat)
      case atStart => exact ⟨0, _, _, _, by omega, by omega, rfl, HS0⟩
      case round =>
        clear HS0
        obtain ⟨k, u1, u2, B, hk, hk2, rfl, hS⟩ := hrel
        by_cases hlt : k < L.length
        · by_cases hlt2 : k < 40
          · obtain ⟨ab, ao, rfl, _, hat, hok⟩ := HL.out.at k hlt
            obtain ⟨d0, d1, d2, d3, d4, hq⟩ := hat.gr hS.out.bk.grown
            obtain ⟨s, hs, hs1⟩ := ses_of L[k].S
            have HQ := Lib.hid hq
            have HS1 := Lib.hid hs1
            clear hat hok hq hs1
            generalize L[k] = x at *
            obtain ⟨K, S, pa, pc, Q, X, Wt⟩ := x
            simp only at d0 d1 d2 d3 d4 hs HQ
            have HX := Lib.hid (Blk.new wr #[.int .i64 K, .int .i64 S, .slice pa Q.length pc, .bool X, .bool Wt] 35)
            have HSX := Lib.hid (hS.out.gr ((Gr.refl wr).alloc (.cells #[.int .i64 K, .int .i64 S, .slice pa Q.length pc, .bool X, .bool Wt] 35)))
            have HQX := Lib.hid ((HQ.out.gr ((Gr.refl wr).alloc (.cells #[.int .i64 K, .int .i64 S, .slice pa Q.length pc, .bool X, .bool Wt] 35))))
            clear hS HQ
            go_upto_region 9 with fail
            generalize wr.alloc (.cells #[.int .i64 K, .int .i64 S, .slice pa Q.length pc, .bool X, .bool Wt] 35) = wx at *
            generalize wr.heap.size = c at *
            clear d0 d1 d2 d3 d4
            have d2 := HX.out.cell (i := 2) rfl
            go_wp2_with fail
            refine (lawMade_any pa Q pc wx HQX.out (HE.out.gr HSX.out.bk.grown)).mono ?_
            rintro e w5 ⟨ma, mc, rfl, _, hg5⟩
            have HP := Lib.hid (made_path Q)
            generalize ptext (madeL Q) = P at *
            generalize madeL Q = MQ at *
            have HX5 := Lib.hid (HX.out.gr hg5)
            have HS5 := Lib.hid (HSX.out.gr hg5)
            clear d2 hg5 HQX HSX HX
            have HXP := Lib.hid (HX5.out.gr ((Gr.refl w5).alloc (.cells #[.string P] 40)))
            have HSP := Lib.hid (HS5.out.gr ((Gr.refl w5).alloc (.cells #[.string P] 40)))
            have HPB := Lib.hid (Blk.new w5 #[.string P] 40)
            go_upto_region 10 with fail
            generalize w5.alloc (.cells #[.string P] 40) = w6 at *
            generalize w5.heap.size = c2 at *
            clear HX5 HS5
            have d0 := HXP.out.cell (i := 0) rfl
            have d1 := HXP.out.cell (i := 1) rfl
            have d3 := HXP.out.cell (i := 3) rfl
            have d4 := HXP.out.cell (i := 4) rfl
            have p0 := HPB.out.cell (i := 0) rfl
            have ft : 0 ≤ t0 ∧ t0 ≤ 1099511627776 := ht1
            by_cases h1 : K = 1
            · subst h1
              go_wp2_with fail
              refine (go_rel HSP.out ft (by omega) HM.out s P).mono ?_
              rintro e w7 ⟨⟨v, rfl⟩, x1, x2, B2, hS7⟩
              have HS7 := Lib.hid hS7
              clear hS7 d0 d1 d3 d4 p0 HSP HXP HPB
              go_wp2
              exact ⟨⟨k + 1, _, _, _, hlt, hlt2, by simp, HS7⟩, by simp [intOf]; omega⟩
            · have e1 : (K == 1) = false := by simpa using h1
              by_cases h2 : K = 2
              · subst h2
                clear h1
                go_wp2_with fail
                refine (go_drop HSP.out ft (by omega) HM.out s).mono ?_
                rintro e w7 ⟨⟨v, rfl⟩, x1, x2, B2, hS7⟩
                have HS7 := Lib.hid hS7
                clear hS7 d0 d1 d3 d4 p0 HSP HXP HPB
                go_wp2
                exact ⟨⟨k + 1, _, _, _, hlt, hlt2, by simp, HS7⟩, by simp [intOf]; omega⟩
              · have e2 : (K == 2) = false := by simpa using h2
                clear h1 h2
                go_wp2_with fail
                refine (go_acq HSP.out ft (by omega) HM.out s P X 0 Wt HP.out HS1.out).mono ?_
                rintro e w7 ⟨⟨v, rfl⟩, x1, x2, B2, hS7⟩
                have HS7 := Lib.hid hS7
                clear hS7 d0 d1 d3 d4 p0 HSP HXP HPB
                go_wp2
                exact ⟨⟨k + 1, _, _, _, hlt, hlt2, by simp, HS7⟩, by simp [intOf]; omega⟩
          · have HS9 := Lib.hid (show Go22 W wr b t0 40 u1 u2 B from ⟨hS.out.bk, hS.out.inv.more hk2, hS.out.ses⟩)
            clear hS
            go_wp2
            go_meet
            exact ⟨_, _, _, HS9⟩
        · have HS9 := Lib.hid (show Go22 W wr b t0 40 u1 u2 B from ⟨hS.out.bk, hS.out.inv.more hk2, hS.out.ses⟩)
          clear hS
          go_wp2
          go_meet
          exact ⟨_, _, _, HS9⟩
  case rest =>
    obtain ⟨u1, u2, A, hS⟩ := hcut
    clear HS0
    generalize wc = w4 at *
    obtain ⟨m, hm, hm1⟩ := ses_of M
    have HMM := Lib.hid hm1
    clear hm1
    go_upto_region 19 with fail
    rw [hm]
    clear hm
    go_cut [91, 92, 93] from 87 (fun x y z wx => ∃ (la : Option Addr) (lc : Nat), x = .slice la (A.H ++ A.W).length lc ∧ y = .int .i64 (A.H ++ A.W).length ∧ z = .int .i64 0 ∧ Hid (wx.ownsRow w4.heap.size 42 4 (.slice la (A.H ++ A.W).length lc) (A.H ++ A.W).length (rcells encLok (A.H ++ A.W))) ∧ Hid (Gr w4 wx))
    case first =>
      as_aux_lemma =>
        obtain ⟨hb1, hb2, hb3⟩ := inv_bounds hS.out.inv ht1 (by omega)
        have HBN := Lib.hid hb1
        clear hb2 hb3
        go_wp2_with fail
        refine (held_any w4 hS.out.bk (by omega)).mono ?_
        rintro e w5 ⟨v5, rfl, hv5, hg5⟩
        have HV5 := Lib.hid hv5
        have HG5 := Lib.hid hg5
        clear hv5 hg5
        go_wp2_with fail
        refine (waits_any w5 (hS.out.bk.gr HG5.out) (by omega)).mono ?_
        rintro e w6 ⟨v6, rfl, hv6, hg6⟩
        have HV6 := Lib.hid hv6
        have HG6 := Lib.hid hg6
        clear hv6 hg6
        obtain ⟨i0, hi, hz0, hz1, hz2⟩ : ∃ i0 : TypeInfo, Tryz.prog.info? 42 = some i0 ∧ i0.zero = some (.agg #[.int .i64 0, .string ⟨#[]⟩, .bool false, .int .u64 0]) ∧ i0.size = 4 ∧ i0.bytes = 40 := ⟨_, rfl, rfl, rfl, rfl⟩
        obtain ⟨a5, k5, rfl, hk5⟩ : ∃ a c, v5 = .slice a A.H.length c ∧ A.H.length ≤ c := by
          rcases HV5.out.2 with ⟨h1, h2⟩ | ⟨g, cap, cur, h1, _, _, h2, _⟩
          · exact ⟨none, 0, by rw [h1, h2], by omega⟩
          · exact ⟨_, _, h1, h2⟩
        have HR5 := Lib.hid (ownsRow_gr HG6.out HV5.out)
        have HGG := Lib.hid (HG5.out.trans HG6.out)
        clear HV5
        rcases Nat.eq_zero_or_pos A.W.length with h0 | h0
        · have hw := List.length_eq_zero_iff.1 h0
          obtain ⟨a6, k6, hv6, _⟩ := ownsRow_slice HV6.out
          rw [h0] at hv6
          subst hv6
          have HW := Lib.hid hw
          clear h0 hw
          go_wp2_with (at_builtin; go_loud (refine wpList_append_nothing _ rfl (.tmp 88) (.tmp 90) 37 rfl 42 i0 Tryz.underlying37 hi a5 A.H.length k5 a6 k6 rfl rfl hk5 ?_))
          go_meet
          have hrow := HR5.out
          rw [HW.out, List.append_nil]
          exact ⟨a5, k5, rfl, rfl, rfl, Lib.hid hrow, HGG⟩
        · obtain ⟨g6, k6, cur, hv6, _, _, _, _, _, _, hl6, hat6, _⟩ := owns_open HV6.out h0
          subst hv6
          have hrow := HR5.out
          go_wp2_with (at_builtin; go_loud (refine wpList_append_lies _ rfl (.tmp 88) (.tmp 90) 37 rfl w4.heap.size 42 i0 (.agg #[.int .i64 0, .string ⟨#[]⟩, .bool false, .int .u64 0]) 4 40 Tryz.underlying37 hi hz0 hz1 hz2 rfl (by decide) _ _ _ rfl hrow ⟨g6, 0, none⟩ A.W.length k6 (rcells encLok A.W) rfl hl6 ?ka1 (rcells_one encLok_one A.W) h0 ?ka3 ?ka4 HGG.out.size _ rfl ?_))
          case ka1 => intro j u hj; rw [addr_add, Nat.zero_add]; exact hat6 j u hj
          case ka3 => have := HBN.out; unfold maxLen; omega
          case ka4 => have := HBN.out; omega
          intro g7 cap7 w7 hown7 hgrow7 hat7 hlt7
          have HG7 := Lib.hid (HGG.out.append hrow hgrow7)
          have HR7 := Lib.hid hown7
          clear hown7 hgrow7 hat7 hlt7 hrow hat6
          go_wp2
          go_meet
          rw [List.length_append]
          refine ⟨some ⟨g7, 0, none⟩, cap7, rfl, ?_, rfl, Lib.hid ?_, HG7⟩
          · simp
          · have := HR7.out
            rw [← rcells_append] at this
            exact this
    case rest =>
      obtain ⟨la, lc, rfl, rfl, rfl, hR, hG⟩ := hcut
      generalize wc = w6 at *
      obtain ⟨Mn, hMn⟩ : ∃ l : List Lok, (A.H ++ A.W).filter (fun x => x.ses == m) = l := ⟨_, rfl⟩
      have HMn := Lib.hid hMn
      clear hMn
      have hN40 : (A.H ++ A.W).length ≤ 400 := by have := (inv_bounds hS.out.inv ht1 (by omega)).1; rw [List.length_append]; exact this
      go_upto_block 3 with fail
      go_cut [13] from 14 (fun x wx => ∃ (a : Option Addr) (c : Nat), x = .slice a Mn.length c ∧ Hid (wx.ownsRow w6.heap.size 42 4 (.slice a Mn.length c) Mn.length (rcells encLok Mn)) ∧ Hid (Gr w6 wx))
      case first =>
        as_aux_lemma =>
          obtain ⟨i0, hi, hz0, hz1, hz2⟩ : ∃ i0 : TypeInfo, Tryz.prog.info? 42 = some i0 ∧ i0.zero = some (.agg #[.int .i64 0, .string ⟨#[]⟩, .bool false, .int .u64 0]) ∧ i0.size = 4 ∧ i0.bytes = 40 := ⟨_, rfl, rfl, rfl, rfl⟩
          generalize A.H ++ A.W = N at *
          have HSN : Hid (∀ k (h : k < N.length), (N.take (k + 1)).filter (fun x => x.ses == m) = (N.take k).filter (fun x => x.ses == m) ++ (if N[k].ses = m then [N[k]] else [])) := Lib.hid fun k h => by
            rw [List.take_succ_eq_append_getElem h, List.filter_append]
            congr 1
            by_cases e : N[k].ses = m <;> simp [e]
          have HEN : Hid ((N.take N.length).filter (fun x => x.ses == m) = Mn) := Lib.hid (by rw [List.take_length]; exact HMn.out)
          have HLN : Hid (∀ k, ((N.take k).filter (fun x => x.ses == m)).length ≤ 400) := Lib.hid fun k => by
            have := List.length_filter_le (fun x : Lok => x.ses == m) (N.take k)
            rw [List.length_take] at this; omega
          have H0N : Hid ((N.take 0).filter (fun x => x.ses == m) = []) := Lib.hid rfl
          generalize hF : (fun k => (N.take k).filter (fun x => x.ses == m)) = F at *
          have eF : ∀ k, (N.take k).filter (fun x => x.ses == m) = F k := fun k => by rw [← hF]
          simp only [eF] at HSN HEN HLN H0N
          clear hF eF
          go_wp2_with fail
          go_loopw [13, 93] (fun x i wr => ∃ (k : Nat) (a : Option Addr) (c : Nat), k ≤ N.length ∧ i = .int .i64 k ∧ x = .slice a (F k).length c ∧ Hid (wr.ownsRow w6.heap.size 42 4 (.slice a (F k).length c) (F k).length (rcells encLok (F k))) ∧ Hid (Gr w6 wr)) (fun _ i _ => N.length - (intOf i).toNat)
          case atStart => exact ⟨0, none, 0, by omega, rfl, by rw [H0N.out]; rfl, Lib.hid (by rw [H0N.out]; exact World.ownsRow_nil _ _ _ _), Lib.hid (Gr.refl _)⟩
          case round =>
            obtain ⟨k, a, c, hk, rfl, rfl, hF, hGk⟩ := hrel
            by_cases hlt : k < N.length
            · obtain ⟨g, cap, hv, d0, d1, d2, d3⟩ := lokrow_at (ownsRow_gr hGk.out hR.out) k hlt
              simp only [Value.slice.injEq] at hv
              obtain ⟨rfl, hnn, rfl⟩ := hv
              clear hnn
              have HSJ := Lib.hid (HSN.out k hlt)
              have HLJ := Lib.hid (HLN.out k)
              have HY := Lib.hid (Blk.new wr #[.int .i64 N[k].ses, .string N[k].txt, .bool N[k].ex, .int .u64 N[k].tok] 42)
              have HGy := Lib.hid (hGk.out.alloc (.cells #[.int .i64 N[k].ses, .string N[k].txt, .bool N[k].ex, .int .u64 N[k].tok] 42))
              have HFy := Lib.hid (ownsRow_gr ((Gr.refl wr).alloc (.cells #[.int .i64 N[k].ses, .string N[k].txt, .bool N[k].ex, .int .u64 N[k].tok] 42)) hF.out)
              generalize N[k] = y at *
              go_upto_region 22 with fail
              generalize wr.alloc (.cells #[.int .i64 y.ses, .string y.txt, .bool y.ex, .int .u64 y.tok] 42) = wy at *
              generalize wr.heap.size = cy at *
              clear d0 d1 d2 d3 hF hGk
              have d0 := HY.out.cell (i := 0) rfl
              have d1 := HY.out.cell (i := 1) rfl
              have d2 := HY.out.cell (i := 2) rfl
              have d3 := HY.out.cell (i := 3) rfl
              by_cases e : y.ses = m
              · rw [if_pos e] at HSJ
                have e1 : (y.ses == m) = true := by simpa using e
                clear e
                have hrow := ownsRow_gr ((Gr.refl wy).alloc (.cells #[.int .i64 y.ses, .string y.txt, .bool y.ex, .int .u64 y.tok] 42)) HFy.out
                go_wp2_with (at_builtin; go_loud (refine wpList_append_lies _ rfl (.tmp 101) (.tmp 103) 37 rfl w6.heap.size 42 i0 (.agg #[.int .i64 0, .string ⟨#[]⟩, .bool false, .int .u64 0]) 4 40 Tryz.underlying37 hi hz0 hz1 hz2 rfl (by decide) _ _ _ rfl hrow ⟨wy.heap.size, 0, none⟩ 1 1 [.int .i64 y.ses, .string y.txt, .bool y.ex, .int .u64 y.tok] rfl (by simp) ?kb1 ?kb2 Nat.one_pos ?kb3 ?kb4 ?kb5 _ rfl ?_))
                case kb1 => exact World.news_of_block (cs := #[.int .i64 y.ses, .string y.txt, .bool y.ex, .int .u64 y.tok]) (t := 42) (fr := (0, 0)) (heap_alloc_new wy (.cells #[.int .i64 y.ses, .string y.txt, .bool y.ex, .int .u64 y.tok] 42))
                case kb2 => first | (intro u hu; simp at hu; rcases hu with rfl | rfl | rfl | rfl <;> rfl) | exact ⟨rfl, rfl, rfl, rfl⟩
                case kb3 => have := HLJ.out; unfold maxLen; omega
                case kb4 => have := HLJ.out; omega
                case kb5 => have := HGy.out.size; simp; omega
                intro g7 cap7 w7 hown7 hgrow7 hat7 hlt7
                have HG7 := Lib.hid ((HGy.out.alloc (.cells #[.int .i64 y.ses, .string y.txt, .bool y.ex, .int .u64 y.tok] 42)).append hrow hgrow7)
                have HR7 := Lib.hid hown7
                clear hown7 hgrow7 hat7 hlt7 hrow d0 d1 d2 d3
                go_wp2
                have e7 : (F (k + 1)).length = (F k).length + 1 := by rw [HSJ.out, List.length_append, List.length_singleton]
                refine ⟨⟨k + 1, some ⟨g7, 0, none⟩, cap7, hlt, by simp, by rw [e7], Lib.hid ?_, HG7⟩, by simp [intOf]; omega⟩
                rw [e7, HSJ.out, rcells_append]
                exact HR7.out
              · rw [if_neg e, List.append_nil] at HSJ
                have e1 : (y.ses == m) = false := by simpa using e
                clear e
                go_wp2
                refine ⟨⟨k + 1, a, c, hlt, by simp, by rw [HSJ.out], Lib.hid ?_, HGy⟩, by simp [intOf]; omega⟩
                rw [HSJ.out]
                exact HFy.out
            · obtain rfl : k = N.length := by omega
              have hEN := HEN.out
              rw [hEN] at hF
              have HEN2 := Lib.hid hEN
              clear hEN
              go_wp2
              go_meet
              exact ⟨a, c, by rw [HEN2.out], hF, hGk⟩
      case rest =>
        obtain ⟨va, vc, rfl, hr, hg⟩ := hcut
        generalize wc = w8 at *
        have HD0 : Hid (Dr22 W w8 b t0 40 m A w6.heap.size (.slice va Mn.length vc) Mn u1 u2 A) := Lib.hid (dr_start hS.out hG.out hg.out hr.out)
        have HA := Lib.hid hS.out.ses
        have HAI := Lib.hid hS.out.inv
        have hMnl : Mn.length ≤ 400 := by
          have h1 := List.length_filter_le (fun x : Lok => x.ses == m) (A.H ++ A.W)
          rw [HMn.out] at h1; omega
        clear hr hg hS hG hR hN40
        have ft : 0 ≤ t0 ∧ t0 ≤ 1099511627776 := ht1
        go_upto_block 5 with fail
        go_cut [] from 14 (fun wx => ∃ x1 x2 B, Hid (Dr22 W wx b t0 40 m A w6.heap.size (.slice va Mn.length vc) Mn x1 x2 B))
        case first =>
          as_aux_lemma =>
            go_wp2_with fail
            go_loopw [106] (fun i wr => ∃ (k : Nat) (x1 x2 : Value) (B : Bk), k ≤ 9 ∧ i = .int .i64 k ∧ Hid (Dr22 W wr b t0 40 m A w6.heap.size (.slice va Mn.length vc) Mn x1 x2 B)) (fun i _ => 9 - (intOf i).toNat)
            case atStart => exact ⟨0, _, _, _, by omega, rfl, HD0⟩
            case round =>
              clear HD0
              obtain ⟨k, x1, x2, B, hk, rfl, hD⟩ := hrel
              by_cases hlt : k < 9
              · by_cases hlo : k < O.length
                · obtain ⟨s, hs, hs1⟩ := ses_of O[k]
                  have hcell : ∃ ob oo, oa = some ⟨ob, oo, none⟩ ∧ W.cell? ⟨ob, oo + k, none⟩ = some (.int .i64 O[k]) := by
                    rcases HO.out.2.2 with h | ⟨ob, oo, h1, h2⟩
                    · subst h; simp at hlo
                    · exact ⟨ob, oo, h1, h2 k hlo⟩
                  obtain ⟨ob, oo, rfl, hc⟩ := hcell
                  have hc := hD.out.bk.grown.cell hc
                  generalize O[k] = ov at *
                  by_cases e : s = m
                  · have e1 : (s != m) = false := by simp [e]
                    clear e hs1
                    go_wp2
                    exact ⟨⟨k + 1, _, _, _, hlt, by simp, hD⟩, by simp [intOf]; omega⟩
                  · have e1 : (s != m) = true := by simp [e]
                    have HNE := Lib.hid e
                    clear e hs1
                    go_wp2_with fail
                    refine (dr_drop hD.out HNE.out ft (by omega) HM.out).mono ?_
                    rintro e w9 ⟨⟨v, rfl⟩, y1, y2, hD9⟩
                    have HD9 := Lib.hid hD9
                    clear hD9 hc hD
                    go_wp2
                    exact ⟨⟨k + 1, _, _, _, hlt, by simp, HD9⟩, by simp [intOf]; omega⟩
                · by_cases e : (k : Int) + 1 = m
                  · have e1 : ((k : Int) + 1 != m) = false := by simp [e]
                    clear e
                    go_wp2
                    exact ⟨⟨k + 1, _, _, _, hlt, by simp, hD⟩, by simp [intOf]; omega⟩
                  · have e1 : ((k : Int) + 1 != m) = true := by simp [e]
                    have HNE := Lib.hid e
                    clear e
                    go_wp2_with fail
                    refine (dr_drop hD.out HNE.out ft (by omega) HM.out).mono ?_
                    rintro e w9 ⟨⟨v, rfl⟩, y1, y2, hD9⟩
                    have HD9 := Lib.hid hD9
                    clear hD9 hD
                    go_wp2
                    exact ⟨⟨k + 1, _, _, _, hlt, by simp, HD9⟩, by simp [intOf]; omega⟩
              · go_wp2
                go_meet
                exact ⟨_, _, _, hD⟩
        case rest =>
          clear HD0
          obtain ⟨x1, x2, B0, hD0⟩ := hcut
          generalize wc = w10 at *
          go_upto_block 7 with fail
          go_cut [] from 14 (fun wx => ∃ x1 x2 B, Hid (Dr22 W wx b t0 40 m A w6.heap.size (.slice va Mn.length vc) Mn x1 x2 B) ∧ Hid (∀ j : Int, 1 ≤ j → j < 10 → j ≠ m → ∀ x ∈ B.H ++ B.W, x.ses ≠ j))
          case first =>
            as_aux_lemma =>
              go_wp2_with fail
              go_loopw [18] (fun i wr => ∃ (k : Nat) (x1 x2 : Value) (B : Bk), 1 ≤ k ∧ k ≤ 10 ∧ i = .int .i64 k ∧ Hid (Dr22 W wr b t0 40 m A w6.heap.size (.slice va Mn.length vc) Mn x1 x2 B) ∧ Hid (∀ j : Int, 1 ≤ j → j < k → j ≠ m → ∀ x ∈ B.H ++ B.W, x.ses ≠ j)) (fun i _ => 10 - (intOf i).toNat)
              case atStart => exact ⟨1, _, _, _, by omega, by omega, rfl, hD0, Lib.hid fun j h1 h2 => by omega⟩
              case round =>
                clear hD0
                obtain ⟨k, x1, x2, B, hk1, hk, rfl, hD, hJ⟩ := hrel
                by_cases hlt : k ≤ 9
                · by_cases e : (k : Int) = m
                  · have e1 : ((k : Int) != m) = false := by simp [e]
                    have HJ2 : Hid (∀ j : Int, 1 ≤ j → j < ((k + 1 : Nat) : Int) → j ≠ m → ∀ x ∈ B.H ++ B.W, x.ses ≠ j) := Lib.hid fun j h1 h2 h3 => hJ.out j h1 (by omega) h3
                    clear e hJ
                    go_wp2
                    exact ⟨⟨k + 1, _, _, _, by omega, by omega, by simp, hD, HJ2⟩, by simp [intOf]; omega⟩
                  · have e1 : ((k : Int) != m) = true := by simp [e]
                    have HNE := Lib.hid e
                    have hdr := dropped (d := k) hD.out.kept.inv e (inv_bounds hD.out.kept.inv ft (by omega)).2.2
                    have HJ2 : Hid (∀ j : Int, 1 ≤ j → j < ((k + 1 : Nat) : Int) → j ≠ m → ∀ x ∈ (dropB B k).1.H ++ (dropB B k).1.W, x.ses ≠ j) := Lib.hid fun j h1 h2 h3 x hx => by
                      by_cases ej : j = k
                      · subst ej; exact hdr.2 x hx
                      · obtain ⟨y, hy, ey⟩ := hdr.1.ses x hx
                        rw [← ey]; exact hJ.out j h1 (by omega) h3 y hy
                    clear e hJ hdr
                    go_wp2_with fail
                    refine (dr_drop hD.out HNE.out ft (by omega) HM.out).mono ?_
                    rintro e w9 ⟨⟨v, rfl⟩, y1, y2, hD9⟩
                    have HD9 := Lib.hid hD9
                    clear hD9 hD
                    go_wp2
                    exact ⟨⟨k + 1, _, _, _, by omega, by omega, by simp, HD9, HJ2⟩, by simp [intOf]; omega⟩
                · obtain rfl : k = 10 := by omega
                  go_wp2
                  go_meet
                  exact ⟨_, _, _, hD, hJ⟩
          case rest =>
            clear hD0
            obtain ⟨x1, x2, B, hD, hJ⟩ := hcut
            generalize wc = w11 at *
            have hfound := mine_found HAI.out hD.out.kept (fun x hx => by
              obtain ⟨y, hy, ey⟩ := hD.out.kept.ses x hx
              have h1 := HA.out y hy
              by_cases e : x.ses = m
              · exact e
              · exact absurd rfl (hJ.out x.ses (by omega) (by omega) e x hx))
            rw [HMn.out] at hfound
            obtain ⟨hW0, hHl, hall⟩ := hfound
            have HALL := Lib.hid hall
            have HW0 := Lib.hid hW0
            have HHL := Lib.hid hHl
            clear hW0 hHl hall hJ HA HAI HMn
            as_aux_lemma =>
              go_wp2_with fail
              go_loopw [141] (fun i wr => ∃ (k : Nat), k ≤ Mn.length ∧ i = .int .i64 k ∧ Hid (Gr w11 wr)) (fun i _ => Mn.length - (intOf i).toNat)
              case atStart => exact ⟨0, by omega, rfl, Lib.hid (Gr.refl _)⟩
              case round =>
                obtain ⟨k, hk, rfl, hg⟩ := hrel
                by_cases hlt : k < Mn.length
                · obtain ⟨g, cap, hv, d0, d1, d2, d3⟩ := lokrow_at (ownsRow_gr hg.out hD.out.row) k hlt
                  simp only [Value.slice.injEq] at hv
                  obtain ⟨rfl, hnn, rfl⟩ := hv
                  clear hnn
                  obtain ⟨y, hf, hyx, hyt, hyl⟩ := HALL.out Mn[k] (List.getElem_mem hlt)
                  have HY := Lib.hid (Blk.new wr #[.int .i64 Mn[k].ses, .string Mn[k].txt, .bool Mn[k].ex, .int .u64 Mn[k].tok] 42)
                  have HGy := Lib.hid (hg.out.alloc (.cells #[.int .i64 Mn[k].ses, .string Mn[k].txt, .bool Mn[k].ex, .int .u64 Mn[k].tok] 42))
                  generalize Mn[k] = x at *
                  obtain ⟨xs, xt, xx, xk⟩ := x
                  obtain ⟨ys, yt, yx, yk⟩ := y
                  simp only at *
                  subst hyx
                  have HF := Lib.hid hf
                  clear hf
                  go_upto_region 42 with fail
                  generalize wr.alloc (.cells #[.int .i64 xs, .string xt, .bool yx, .int .u64 xk] 42) = wy at *
                  generalize wr.heap.size = cy at *
                  clear d0 d1 d2 d3 hg
                  have d0 := HY.out.cell (i := 0) rfl
                  have d1 := HY.out.cell (i := 1) rfl
                  have d2 := HY.out.cell (i := 2) rfl
                  have d3 := HY.out.cell (i := 3) rfl
                  have hbf := bfind_any m xt wy (hD.out.bk.gr HGy.out) (by have := (inv_bounds hD.out.kept.inv ft (by omega)).1; omega)
                  rw [HF.out] at hbf
                  go_wp2_with fail
                  refine hbf.mono ?_
                  rintro e w12 ⟨rfl, hg12⟩
                  have HX12 := Lib.hid ((HY.out.gr hg12).gr ((Gr.refl w12).alloc (.cells #[.int .i64 ys, .string yt, .bool yx, .int .u64 yk] 42)))
                  have HY12 := Lib.hid (Blk.new w12 #[.int .i64 ys, .string yt, .bool yx, .int .u64 yk] 42)
                  have HG12 := Lib.hid ((HGy.out.trans hg12).alloc (.cells #[.int .i64 ys, .string yt, .bool yx, .int .u64 yk] 42))
                  clear d0 d1 d2 d3 hbf HF hg12 HY HGy
                  simp only
                  go_upto_region 43 with fail
                  generalize w12.alloc (.cells #[.int .i64 ys, .string yt, .bool yx, .int .u64 yk] 42) = wz at *
                  generalize w12.heap.size = cz at *
                  have d2 := HX12.out.cell (i := 2) rfl
                  have d3 := HX12.out.cell (i := 3) rfl
                  have q2 := HY12.out.cell (i := 2) rfl
                  have q3 := HY12.out.cell (i := 3) rfl
                  have f1 : (yx != yx) = false := by simp
                  have f3 : decide (yk ≤ t0) = false := decide_eq_false (by omega)
                  rcases hyt with h0 | h0
                  · subst h0
                    clear hyl
                    go_wp2
                    exact ⟨⟨k + 1, hlt, by simp, HG12⟩, by simp [intOf]; omega⟩
                  · subst h0
                    have f4 : decide (yk > 0) = true := decide_eq_true (by omega)
                    have f5 : (yk != yk) = false := by simp
                    clear hyl
                    go_wp2
                    exact ⟨⟨k + 1, hlt, by simp, HG12⟩, by simp [intOf]; omega⟩
                · obtain rfl : k = Mn.length := by omega
                  have HBK := Lib.hid (hD.out.bk.gr hg.out)
                  have HGW := Lib.hid HBK.out.grown
                  have hbn := (inv_bounds hD.out.kept.inv ft (by omega)).1
                  clear hD hg
                  go_wp2_with fail
                  refine (waits_any wr HBK.out (by omega)).mono ?_
                  rintro e w12 ⟨v12, rfl, hv12, hg12⟩
                  rw [HW0.out] at hv12
                  obtain ⟨a12, k12, rfl, _⟩ := ownsRow_slice hv12
                  have HBK2 := Lib.hid (HBK.out.gr hg12)
                  clear hv12 hg12 HBK HGW
                  go_wp2_with fail
                  refine (held_any w12 HBK2.out (by omega)).mono ?_
                  rintro e w13 ⟨v13, rfl, hv13, hg13⟩
                  obtain ⟨a13, k13, rfl, _⟩ := ownsRow_slice hv13
                  have HG13 := Lib.hid (HBK2.out.grown.trans hg13)
                  clear hv13 hg13 HBK2
                  have f6 : ((B.H.length : Int) == (Mn.length : Int)) = true := by rw [HHL.out]; simp
                  go_wp2
                  go_ret
                  exact ⟨rfl, HG13.out⟩
end Go.Proofs.YtmgpnpmdmelnkaaGreatDoor
