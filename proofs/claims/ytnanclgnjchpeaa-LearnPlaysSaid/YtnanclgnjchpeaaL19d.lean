import Derived.Test.YtnanclgnjchpeaaM19d
import Derived.Test.YtnanclgnjchpeaaF08c
import Derived.Test.YtnanclgnjchpeaaC17
import Derived.WalkKit
import Derived.ProofKit
import Derived.LoopTactic
import Derived.Outline
import Derived.WalkSpells
import Derived.WalkLawsBesides
import Derived.Lib.Hide
import Derived.Deep.LoopGhost
import Derived.Deep.QuietTactic
import Derived.BigQuiet
import Derived.ShutString
import Derived.IntWalk
import Derived.BigQuiet
import Derived.Laws.OwnMore
import Derived.Deep.RegionWith
import Derived.Deep.RegionHeld3
namespace Go.Proofs.Ytnanclgnjchpeaa
open Go.ChangeShapes Go.WideShapes Go.ChangeAt Go.RowKit
open Bal
set_option linter.unusedVariables false
set_option linter.unusedSimpArgs false
theorem missE_nn : ∀ (A : List E) (n : Int), 0 < n → 0 ≤ missE A n
  | [], _, _ => Int.le_refl _
  | y :: t, n, h => by
    unfold missE
    split
    · exact missE_nn t (n + 1) (by omega)
    · omega
theorem none_zero (w : World) : Calls Try.prog 21 #[.agg #[.int .u64 0, .int .i64 0]] w fun e w' => e = .returned (.bool true) ∧ Gr w w' := none08_any 0 0 w
theorem logE_mem {a : Ln} {k : Nat} {frm most : Int} {e : E} (h : e ∈ logE a k frm most) : e ∈ a.L := by
  unfold logE fromE at h
  exact List.mem_of_mem_take (List.mem_filter.1 (List.mem_of_mem_take h)).1
set_option maxRecDepth 100000 in
set_option maxHeartbeats 4000000 in
theorem is_any19 {w0 : World} {b : Nat} {v : Value} {a : Ln} {N : Nat} (s : Rs) (lv : Value) (frm most : Int) (w : World) (h : LnIs w0 w b v a) (hok : a.Ok N) (hN : N ≤ 900) (hS : Same19 a s) (hr : RRow w lv s.M) (hm : s.M.length ≤ 900) (hd9 : a.dn ≤ 500000) :
    Calls Try.prog 26 #[.pointer (some ⟨b, 0, none⟩), s.val lv, .int .i64 frm, .int .i64 most] w fun e w' => e = .returned (.bool true) ∧ Gr w w' := by
  obtain ⟨ba, dn, M⟩ := s
  have hba : ba = a.ba := hS.ba
  have hdn : dn = a.dn := hS.dn
  have h0 := hok.b0
  have h1 := hok.bd
  obtain ⟨k, hk⟩ : ∃ k : Nat, a.dn - a.ba = k := ⟨(a.dn - a.ba).toNat, by omega⟩
  have hl : a.L.length ≤ 900 := Nat.le_trans hok.len hN
  obtain ⟨hkl, _⟩ := hS.rows hok k hk
  have HKN := Lib.hid (fun x wz (h : LnIs w0 wz b v a) => lknown_any x wz h (by omega) hok.asc hok.txt)
  have HLG := Lib.hid (fun wz (h : LnIs w0 wz b v a) => llog_any k frm most wz h hok.asc hk hkl (by omega) hok.txt)
  have HMI := Lib.hid (fun wz (h : LnIs w0 wz b v a) => lmissing_any k wz h hk hkl (by omega) ⟨by omega, hok.d1⟩)
  have HBS := Lib.hid (fun wz (h : LnIs w0 wz b v a) => lnBase_any wz h)
  have HDN := Lib.hid (fun wz (h : LnIs w0 wz b v a) => lnDone_any wz h)
  have HRK := Lib.hid (fun x wz (hr : RRow wz lv M) => refKnown_any ba dn x lv M wz hr (by have : M.length ≤ 900 := hm; omega))
  have HRL := Lib.hid (fun wz (hr : RRow wz lv M) => refLog_any ba dn k frm most lv M wz hr (by have : M.length ≤ 900 := hm; omega) ⟨by omega, by omega⟩ (by omega) (by omega))
  have HRM := Lib.hid (fun wz (hr : RRow wz lv M) => refMissing_any ba dn lv M wz hr (by have : M.length ≤ 900 := hm; omega) ⟨by omega, by omega⟩ (fun e he => by have := hS.top e he; omega))
  have HEQ := Lib.hid (fun x => And.intro (hS.knT x) (hS.has x))
  have HLM := Lib.hid (hS.log hok k hk frm most)
  have HLC := Lib.hid (show ∀ e ∈ logE a k frm most, e.c = 0 ∧ e.n = 0 from fun e he => hS.plain e (logE_mem he))
  have HMS := Lib.hid (fun mx r (h1 : IsMx (hasM M) mx) (h2 : IsMiss (hasM M) mx dn r) => hS.miss (s := ⟨ba, dn, M⟩) hok k hk h1 h2)
  replace HEQ : Hid (∀ x, a.knT x = txtM M x ∧ hasM M x = hasE a.L x) := HEQ
  replace HLM : Hid ((logE a k frm most).map toR = logM M ba k frm most) := HLM
  simp only [← hba, ← hdn] at HBS HDN HMI HMS
  have hb0 : 0 ≤ ba := by omega
  have hb1 : ba ≤ dn := by omega
  have hd1 : dn ≤ 500000 := by omega
  have HI := Lib.hid h
  have HR := Lib.hid (show RRow w lv M from hr)
  have hml : M.length ≤ 900 := hm
  have hll : (logE a k frm most).length ≤ 900 := by
    have e := congrArg List.length HLM.out
    rw [List.length_map] at e
    have := logM_len M ba k frm most
    omega
  have hQ0 := missE_nn (a.L.drop k) (dn + 1) (by omega)
  generalize missE (a.L.drop k) (dn + 1) = Q at *
  obtain ⟨BQ, hBQ⟩ : ∃ BQ, decide (Q ≠ 0) = BQ := ⟨_, rfl⟩
  rw [hBQ] at HMI
  have HBQ := Lib.hid (show decide (Q > 0) = BQ by rw [← hBQ]; apply decide_eq_decide.2; omega)
  clear hBQ hQ0
  generalize logE a k frm most = LE at *
  generalize hLL : logM M ba k frm most = LM at *
  clear hLL hba hdn h0 h1 hk hl hkl hS hok hr hm h hN hd9
  have HG := Lib.hid ((Gr.refl w).alloc (.cells #[.int .i64 ba, .int .i64 dn, lv] 31))
  have HP := Lib.hid (Blk.new w #[.int .i64 ba, .int .i64 dn, lv] 31)
  have hw1 : IntKind.i64.wrap (dn + 70) = dn + 70 := by rw [IntKind.wrap_i64]; omega
  simp only [Rs.val]
  go_enter Try.func26, Try.ntmps26
  go_wp2
  generalize w.alloc (.cells #[.int .i64 ba, .int .i64 dn, lv] 31) = wa at *
  generalize w.heap.size = p at *
  go_loopw [9] (fun u9 wr => ∃ j : Nat, u9 = .int .i64 (ba + j) ∧ ba + (j : Int) ≤ dn + 71 ∧ Hid (Gr wa wr)) (fun u9 _ => (dn + 71 - intOf u9).toNat)
  case atStart => exact ⟨0, by go_num, by omega, Lib.hid (Gr.refl _)⟩
  case round =>
    obtain ⟨j, rfl, hj, HG2⟩ := hrel
    have HSr := Lib.hid (HP.out.gr HG2.out)
    have p0 := HSr.out.cell (i := 0) rfl
    have p1 := HSr.out.cell (i := 1) rfl
    have p2 := HSr.out.cell (i := 2) rfl
    by_cases hlt : ba + (j : Int) ≤ dn + 70
    · have hw2 : IntKind.i64.wrap (ba + (j : Int) + 1) = ba + (j : Int) + 1 := by rw [IntKind.wrap_i64]; omega
      have HK1 := Lib.hid (HKN.out (ba + (j : Int)) _ (HI.out.gr (HG.out.trans HG2.out)))
      have HK2 := Lib.hid (fun wz hr => HRK.out (ba + (j : Int)) wz hr)
      rw [(HEQ.out (ba + (j : Int))).1] at HK1
      rw [(HEQ.out (ba + (j : Int))).2] at HK2
      generalize txtM M (ba + (j : Int)) = T at *
      generalize hasE a.L (ba + (j : Int)) = B at *
      have htt : (T.toList == T.toList) = true := by simp
      go_wp2_with fail
      refine HK1.out.mono ?_
      rintro e w2 ⟨rfl, hg2⟩
      have HG3 := Lib.hid (HG2.out.trans hg2)
      have HP3 := Lib.hid (HSr.out.gr hg2)
      clear hg2 HK1 p0 p1 p2
      have p0 := HP3.out.cell (i := 0) rfl
      have p1 := HP3.out.cell (i := 1) rfl
      have p2 := HP3.out.cell (i := 2) rfl
      go_wp2_with fail
      refine (HK2.out _ (ownsRow_gr (HG.out.trans HG3.out) HR.out)).mono ?_
      rintro e w4 ⟨rfl, hg4⟩
      have HG5 := Lib.hid (HG3.out.trans hg4)
      clear hg4 HK2
      cases B
      · go_wp2
        go_roundw
        case rel => exact ⟨j + 1, by go_num, by omega, HG5⟩
        case measure => simp [intOf]; omega
      · go_wp2
        go_roundw
        case rel => exact ⟨j + 1, by go_num, by omega, HG5⟩
        case measure => simp [intOf]; omega
    · have HG3 := Lib.hid (HG.out.trans HG2.out)
      have HD := Lib.hid (HSr.out.gr (Gr.refl wr).drew)
      have HGD := Lib.hid (HG3.out.trans (Gr.refl wr).drew)
      have d0 := HD.out.cell (i := 0) rfl
      have d1 := HD.out.cell (i := 1) rfl
      have d2 := HD.out.cell (i := 2) rfl
      clear hj
      go_wp2_with fail
      refine wp_region_held_drew (S := (fun w9 => w9.cell? ⟨p, 0, none⟩ = some (.int .i64 ba) ∧ w9.cell? ⟨p, 1, none⟩ = some (.int .i64 dn) ∧ w9.cell? ⟨p, 2, none⟩ = some lv)) (by kernel_rfl) ?invb (fun h0 => ?_)
      case invb => ((try dsimp only); (exact ⟨d0, d1, d2⟩))
      refine wpAnyH_take (i := 0) (oi := { dst := some 49, op := Go.Op.move (Go.Operand.tmp 0), type := 27, pos := "law.go:38", after := #[], guard := none }) (v := ?vb1) rfl (by kernel_rfl) (by kernel_rfl) (by kernel_rfl) (fun _ _ _ h => h) (Or.inl ⟨by rfl, ?rb1⟩) (by assumption) ?_
      case rb1 => (intro w hSw; (try dsimp only at hSw); (go_simp <;> with_reducible rfl))
      try simp only [Act.put, List.setIfInBounds_toArray, List.set_cons_zero, List.set_cons_succ]
      refine wpAnyH_take (i := 1) (oi := { dst := some 50, op := Go.Op.move (Go.Operand.tmp 2), type := 3, pos := "law.go:38", after := #[], guard := none }) (v := ?vb2) rfl (by kernel_rfl) (by kernel_rfl) (by kernel_rfl) (fun _ _ _ h => h) (Or.inl ⟨by rfl, ?rb2⟩) (by assumption) ?_
      case rb2 => (intro w hSw; (try dsimp only at hSw); (go_simp <;> with_reducible rfl))
      try simp only [Act.put, List.setIfInBounds_toArray, List.set_cons_zero, List.set_cons_succ]
      refine wpAnyH_take (i := 2) (oi := { dst := some 51, op := Go.Op.move (Go.Operand.tmp 3), type := 3, pos := "law.go:38", after := #[], guard := none }) (v := ?vb3) rfl (by kernel_rfl) (by kernel_rfl) (by kernel_rfl) (fun _ _ _ h => h) (Or.inl ⟨by rfl, ?rb3⟩) (by assumption) ?_
      case rb3 => (intro w hSw; (try dsimp only at hSw); (go_simp <;> with_reducible rfl))
      try simp only [Act.put, List.setIfInBounds_toArray, List.set_cons_zero, List.set_cons_succ]
      refine wpAnyH_take (i := 4) (oi := { dst := some 53, op := Go.Op.load 31 (Go.Operand.tmp 5), type := 31, pos := "law.go:38", after := #[], guard := none }) (v := ?vb4) rfl (by kernel_rfl) (by kernel_rfl) (by kernel_rfl) (fun _ _ _ h => h) (Or.inl ⟨by rfl, ?rb4⟩) (by assumption) ?_
      case rb4 => (intro w hSw; (try dsimp only at hSw); (go_simp <;> with_reducible rfl))
      try simp only [Act.put, List.setIfInBounds_toArray, List.set_cons_zero, List.set_cons_succ]
      refine wpAnyH_take (i := 5) (oi := { dst := some 54, op := Go.Op.move (Go.Operand.tmp 2), type := 3, pos := "law.go:38", after := #[], guard := none }) (v := ?vb5) rfl (by kernel_rfl) (by kernel_rfl) (by kernel_rfl) (fun _ _ _ h => h) (Or.inl ⟨by rfl, ?rb5⟩) (by assumption) ?_
      case rb5 => (intro w hSw; (try dsimp only at hSw); (go_simp <;> with_reducible rfl))
      try simp only [Act.put, List.setIfInBounds_toArray, List.set_cons_zero, List.set_cons_succ]
      refine wpAnyH_take (i := 6) (oi := { dst := some 55, op := Go.Op.move (Go.Operand.tmp 3), type := 3, pos := "law.go:38", after := #[], guard := none }) (v := ?vb6) rfl (by kernel_rfl) (by kernel_rfl) (by kernel_rfl) (fun _ _ _ h => h) (Or.inl ⟨by rfl, ?rb6⟩) (by assumption) ?_
      case rb6 => (intro w hSw; (try dsimp only at hSw); (go_simp <;> with_reducible rfl))
      try simp only [Act.put, List.setIfInBounds_toArray, List.set_cons_zero, List.set_cons_succ]
      refine wpAnyH_ready (rs := [3]) (by kernel_rfl) (by simp) ?_
      refine AllReadyH.cons (o := { dst := some 52, op := Go.Op.call { callee := Go.Callee.value (Go.Operand.func 29), args := #[Go.Operand.tmp 49, Go.Operand.tmp 50, Go.Operand.tmp 51], argTypes := #[27, 3, 3] }, type := 59, pos := "law.go:38", after := #[{ on := 0, ground := Go.Ground.data }, { on := 1, ground := Go.Ground.data }, { on := 2, ground := Go.Ground.data }], guard := none }) rfl (fun K hK => ?_) AllReadyH.nil
      go_simp
      go_at_call 29
      refine (HLG.out _ (HI.out.gr HGD.out)).mono ?_
      rintro e w3 ⟨ra, rc, rfl, hrow, hg3⟩
      have HE3 := Lib.hid (ERow.of_row hrow)
      have HGa := Lib.hid (HGD.out.trans hg3)
      have HDa := Lib.hid (HD.out.gr hg3)
      first | refine hK.out _ _ ?sb7 (fun h7 => ?_) | (go_wp2_with fail; refine hK.out _ _ ?sb7 (fun h7 => ?_))
      case sb7 => ((try dsimp only); (exact ⟨hg3.cell h0.1, hg3.cell h0.2.1, hg3.cell h0.2.2⟩))
      clear hK K h0
      try simp only [Act.put, List.setIfInBounds_toArray, List.set_cons_zero, List.set_cons_succ]
      refine wpAnyH_ready (rs := [7]) (by kernel_rfl) (by simp) ?_
      refine AllReadyH.cons (o := { dst := some 56, op := Go.Op.call { callee := Go.Callee.value (Go.Operand.func 69), args := #[Go.Operand.tmp 53, Go.Operand.tmp 54, Go.Operand.tmp 55], argTypes := #[31, 3, 3] }, type := 29, pos := "law.go:38", after := #[{ on := 4, ground := Go.Ground.data }, { on := 5, ground := Go.Ground.data }, { on := 6, ground := Go.Ground.data }, { on := 3, ground := Go.Ground.chain }], guard := none }) rfl (fun K hK => ?_) AllReadyH.nil
      go_simp
      go_at_call 69
      refine (HRL.out _ (ownsRow_gr HGa.out HR.out)).mono ?_
      rintro e w5 ⟨qa, qc, rfl, hrow5, hg5⟩
      have HR5 := Lib.hid hrow5
      have HE5 := Lib.hid (HE3.out.gr hg5)
      have HGb := Lib.hid (HGa.out.trans hg5)
      have HSb := Lib.hid (HDa.out.gr hg5)
      first | refine hK.out _ _ ?sb8 (fun h8 => ?_) | (go_wp2_with fail; refine hK.out _ _ ?sb8 (fun h8 => ?_))
      case sb8 => ((try dsimp only); (exact ⟨hg5.cell h7.1, hg5.cell h7.2.1, hg5.cell h7.2.2⟩))
      clear hK K h7
      try simp only [Act.put, List.setIfInBounds_toArray, List.set_cons_zero, List.set_cons_succ]
      refine wpAnyH_take (i := 8) (oi := { dst := some 14, op := Go.Op.assign (Go.Operand.tmp 52), type := 59, pos := "law.go:38", after := #[{ on := 3, ground := Go.Ground.data }, { on := 7, ground := Go.Ground.chain }, { on := 0, ground := Go.Ground.phase }, { on := 1, ground := Go.Ground.phase }, { on := 2, ground := Go.Ground.phase }, { on := 3, ground := Go.Ground.phase }, { on := 4, ground := Go.Ground.textOnly Go.Departure.lateStores }, { on := 5, ground := Go.Ground.textOnly Go.Departure.lateStores }, { on := 6, ground := Go.Ground.textOnly Go.Departure.lateStores }, { on := 7, ground := Go.Ground.textOnly Go.Departure.lateStoresUnsure }], guard := none }) (v := ?vb9) rfl (by kernel_rfl) (by kernel_rfl) (by kernel_rfl) (fun _ _ _ h => h) (Or.inl ⟨by rfl, ?rb9⟩) (by assumption) ?_
      case rb9 => (intro w hSw; (try dsimp only at hSw); (go_simp <;> with_reducible rfl))
      try simp only [Act.put, List.setIfInBounds_toArray, List.set_cons_zero, List.set_cons_succ]
      refine wpAnyH_take (i := 9) (oi := { dst := some 15, op := Go.Op.assign (Go.Operand.tmp 56), type := 29, pos := "law.go:38", after := #[{ on := 7, ground := Go.Ground.data }, { on := 8, ground := Go.Ground.chain }, { on := 0, ground := Go.Ground.phase }, { on := 1, ground := Go.Ground.phase }, { on := 2, ground := Go.Ground.phase }, { on := 3, ground := Go.Ground.phase }, { on := 4, ground := Go.Ground.phase }, { on := 5, ground := Go.Ground.phase }, { on := 6, ground := Go.Ground.phase }, { on := 7, ground := Go.Ground.phase }, { on := 8, ground := Go.Ground.phase }], guard := none }) (v := ?vb10) rfl (by kernel_rfl) (by kernel_rfl) (by kernel_rfl) (fun _ _ _ h => h) (Or.inl ⟨by rfl, ?rb10⟩) (by assumption) ?_
      case rb10 => (intro w hSw; (try dsimp only at hSw); (go_simp <;> with_reducible rfl))
      try simp only [Act.put, List.setIfInBounds_toArray, List.set_cons_zero, List.set_cons_succ]
      refine wpAnyH_done (by kernel_rfl) ?_ _
      clear h8 d0 d1 d2 hrow5 hg5 hrow hg3 HGa HDa HE3 HD HGD HG3 HG2 HSr
      have hlen : LE.length = LM.length := by have := congrArg List.length HLM.out; rwa [List.length_map] at this
      have HAT := Lib.hid (show ∀ i (h1 : i < LE.length) (h2 : i < LM.length), LM[i].slot = LE[i].slot ∧ LM[i].text = LE[i].text from fun i h1 h2 => by
        have e : LM[i] = toR LE[i] := by
          have := HLM.out
          subst this
          rw [List.getElem_map]
        rw [e]; exact ⟨rfl, rfl⟩)
      have HRA := Lib.hid (fun i (h : i < LM.length) => rrow_at HR5.out i h)
      obtain ⟨q, hqa⟩ : ∃ q, LM.length = q := ⟨_, rfl⟩
      have hqe : LE.length = q := hlen.trans hqa
      rw [hqa, hqe]
      have hq9 : q ≤ 900 := by rw [← hqe]; exact hll
      have HQA := Lib.hid hqa
      have HQE := Lib.hid hqe
      clear hlen hqa hqe HR5
      go_wp2
      go_loopw [64] (fun u64 wr => ∃ i : Nat, i ≤ q ∧ u64 = .int .i64 (i : Nat) ∧ Hid (Gr w5 wr)) (fun u64 _ => q - (intOf u64).toNat)
      case atStart => exact ⟨0, by omega, rfl, Lib.hid (Gr.refl _)⟩
      case round =>
        obtain ⟨i, hi, rfl, HGi⟩ := hrel
        by_cases hlt2 : i < q
        · have hi4 : (i : Int) < (q : Int) := by omega
          obtain ⟨g, cap, hv, c0, c1⟩ := HRA.out i (by rw [HQA.out]; exact hlt2)
          simp only [Value.slice.injEq, true_and] at hv
          obtain ⟨rfl, rfl⟩ := hv
          obtain ⟨g2, o2, rfl, e0, e1, e2, e3⟩ := HE5.out.at i (by rw [HQE.out]; exact hlt2)
          obtain ⟨hs1, hs2⟩ := HAT.out i (by rw [HQE.out]; exact hlt2) (by rw [HQA.out]; exact hlt2)
          obtain ⟨hc1, hc2⟩ := HLC.out _ (List.getElem_mem (show i < LE.length by rw [HQE.out]; exact hlt2))
          rw [hs1] at c0
          rw [hs2] at c1
          rw [hc1] at e1
          rw [hc2] at e2
          clear hs1 hs2 hc1 hc2
          generalize LE[i]'(by rw [HQE.out]; exact hlt2) = y at *
          obtain ⟨sl, yc, yn, t⟩ := y
          simp only at c0 c1 e0 e3
          have HGX := Lib.hid (HGi.out.alloc (.cells #[.int .i64 sl, .string t] 119))
          have HBX := Lib.hid (Blk.new wr #[.int .i64 sl, .string t] 119)
          have c0 := HGi.out.cell c0
          have c1 := HGi.out.cell c1
          have e0 := HGX.out.drew.cell e0
          have e1 := HGX.out.drew.cell e1
          have e2 := HGX.out.drew.cell e2
          have e3 := HGX.out.drew.cell e3
          have x0 := (HBX.out.gr (Gr.refl _).drew).cell (i := 0) rfl
          have x1 := (HBX.out.gr (Gr.refl _).drew).cell (i := 1) rfl
          go_wp2_with fail
          generalize wr.alloc (.cells #[.int .i64 sl, .string t] 119) = wx at *
          generalize wr.heap.size = px at *
          clear c0 c1
          refine wp_region_held_drew (S := (fun w9 => w9.cell? ⟨g2, o2 + i * 4, none⟩ = some (.int .i64 sl) ∧ w9.cell? ⟨g2, o2 + i * 4 + 1, none⟩ = some (.int .u64 0) ∧ w9.cell? ⟨g2, o2 + i * 4 + 2, none⟩ = some (.int .i64 0) ∧ w9.cell? ⟨g2, o2 + i * 4 + 3, none⟩ = some (.string t) ∧ w9.cell? ⟨px, 0, none⟩ = some (.int .i64 sl) ∧ w9.cell? ⟨px, 1, none⟩ = some (.string t))) (by kernel_rfl) ?invc (fun h0 => ?_)
          case invc => ((try dsimp only); (exact ⟨e0, e1, e2, e3, x0, x1⟩))
          refine wpAnyH_take (i := 0) (oi := { dst := some 69, op := Go.Op.move (Go.Operand.tmp 14), type := 59, pos := "law.go:43", after := #[], guard := none }) (v := ?vc1) rfl (by kernel_rfl) (by kernel_rfl) (by kernel_rfl) (fun _ _ _ h => h) (Or.inl ⟨by rfl, ?rc1⟩) (by assumption) ?_
          case rc1 => (intro w hSw; (try dsimp only at hSw); (go_simp <;> with_reducible rfl))
          try simp only [Act.put, List.setIfInBounds_toArray, List.set_cons_zero, List.set_cons_succ]
          refine wpAnyH_take (i := 1) (oi := { dst := some 70, op := Go.Op.move (Go.Operand.tmp 16), type := 3, pos := "law.go:43", after := #[], guard := none }) (v := ?vc2) rfl (by kernel_rfl) (by kernel_rfl) (by kernel_rfl) (fun _ _ _ h => h) (Or.inl ⟨by rfl, ?rc2⟩) (by assumption) ?_
          case rc2 => (intro w hSw; (try dsimp only at hSw); (go_simp <;> with_reducible rfl))
          try simp only [Act.put, List.setIfInBounds_toArray, List.set_cons_zero, List.set_cons_succ]
          refine wpAnyH_take (i := 2) (oi := { dst := some 71, op := Go.Op.indexAddr 59 (Go.Operand.tmp 69) (Go.Operand.tmp 70), type := 0, pos := "law.go:43", after := #[{ on := 0, ground := Go.Ground.data }, { on := 1, ground := Go.Ground.data }], guard := none }) (v := ?vc3) rfl (by kernel_rfl) (by kernel_rfl) (by kernel_rfl) (fun _ _ _ h => h) (Or.inl ⟨by rfl, ?rc3⟩) (by assumption) ?_
          case rc3 => (intro w hSw; (try dsimp only at hSw); (go_simp <;> with_reducible rfl))
          try simp only [Act.put, List.setIfInBounds_toArray, List.set_cons_zero, List.set_cons_succ]
          refine wpAnyH_take (i := 3) (oi := { dst := some 72, op := Go.Op.fieldAddr 44 (Go.Operand.tmp 71) 0, type := 0, pos := "law.go:43", after := #[{ on := 2, ground := Go.Ground.data }], guard := none }) (v := ?vc4) rfl (by kernel_rfl) (by kernel_rfl) (by kernel_rfl) (fun _ _ _ h => h) (Or.inl ⟨by rfl, ?rc4⟩) (by assumption) ?_
          case rc4 => (intro w hSw; (try dsimp only at hSw); (go_simp <;> with_reducible rfl))
          try simp only [Act.put, List.setIfInBounds_toArray, List.set_cons_zero, List.set_cons_succ]
          refine wpAnyH_take (i := 4) (oi := { dst := some 73, op := Go.Op.load 3 (Go.Operand.tmp 72), type := 3, pos := "law.go:43", after := #[{ on := 3, ground := Go.Ground.data }], guard := none }) (v := ?vc5) rfl (by kernel_rfl) (by kernel_rfl) (by kernel_rfl) (fun _ _ _ h => h) (Or.inl ⟨by rfl, ?rc5⟩) (by assumption) ?_
          case rc5 => (intro w hSw; (try dsimp only at hSw); (go_simp <;> with_reducible rfl))
          try simp only [Act.put, List.setIfInBounds_toArray, List.set_cons_zero, List.set_cons_succ]
          refine wpAnyH_take (i := 5) (oi := { dst := some 74, op := Go.Op.fieldAddr 119 (Go.Operand.tmp 17) 0, type := 0, pos := "law.go:43", after := #[], guard := none }) (v := ?vc6) rfl (by kernel_rfl) (by kernel_rfl) (by kernel_rfl) (fun _ _ _ h => h) (Or.inl ⟨by rfl, ?rc6⟩) (by assumption) ?_
          case rc6 => (intro w hSw; (try dsimp only at hSw); (go_simp <;> with_reducible rfl))
          try simp only [Act.put, List.setIfInBounds_toArray, List.set_cons_zero, List.set_cons_succ]
          refine wpAnyH_take (i := 6) (oi := { dst := some 75, op := Go.Op.load 3 (Go.Operand.tmp 74), type := 3, pos := "law.go:43", after := #[{ on := 5, ground := Go.Ground.data }], guard := none }) (v := ?vc7) rfl (by kernel_rfl) (by kernel_rfl) (by kernel_rfl) (fun _ _ _ h => h) (Or.inl ⟨by rfl, ?rc7⟩) (by assumption) ?_
          case rc7 => (intro w hSw; (try dsimp only at hSw); (go_simp <;> with_reducible rfl))
          try simp only [Act.put, List.setIfInBounds_toArray, List.set_cons_zero, List.set_cons_succ]
          refine wpAnyH_take (i := 7) (oi := { dst := some 76, op := Go.Op.binOp Go.BinOp.neq 3 (Go.Operand.tmp 73) (Go.Operand.tmp 75) 3, type := 4, pos := "law.go:43", after := #[{ on := 4, ground := Go.Ground.data }, { on := 6, ground := Go.Ground.data }], guard := none }) (v := (.bool false)) rfl (by kernel_rfl) (by kernel_rfl) (by kernel_rfl) (fun _ _ _ h => h) (Or.inl ⟨by rfl, ?rc8⟩) (by assumption) ?_
          case rc8 => (intro w hSw; (try dsimp only at hSw); go_simp; all_goals simp)
          try simp only [Act.put, List.setIfInBounds_toArray, List.set_cons_zero, List.set_cons_succ]
          refine wpAnyH_take (i := 8) (oi := { dst := some 77, op := Go.Op.move (Go.Operand.tmp 76), type := 4, pos := "law.go:43", after := #[{ on := 7, ground := Go.Ground.data }], guard := none }) (v := ?vc9) rfl (by kernel_rfl) (by kernel_rfl) (by kernel_rfl) (fun _ _ _ h => h) (Or.inl ⟨by rfl, ?rc9⟩) (by assumption) ?_
          case rc9 => (intro w hSw; (try dsimp only at hSw); (go_simp <;> with_reducible rfl))
          try simp only [Act.put, List.setIfInBounds_toArray, List.set_cons_zero, List.set_cons_succ]
          refine wpAnyH_take (i := 9) (oi := { dst := some 78, op := Go.Op.move (Go.Operand.tmp 14), type := 59, pos := "law.go:43", after := #[{ on := 8, ground := Go.Ground.guard }], guard := some (8, false) }) (v := ?vc10) rfl (by kernel_rfl) (by kernel_rfl) (by kernel_rfl) (fun _ _ _ h => h) (Or.inl ⟨by rfl, ?rc10⟩) (by assumption) ?_
          case rc10 => (intro w hSw; (try dsimp only at hSw); (go_simp <;> with_reducible rfl))
          try simp only [Act.put, List.setIfInBounds_toArray, List.set_cons_zero, List.set_cons_succ]
          refine wpAnyH_take (i := 10) (oi := { dst := some 79, op := Go.Op.move (Go.Operand.tmp 16), type := 3, pos := "law.go:43", after := #[{ on := 8, ground := Go.Ground.guard }], guard := some (8, false) }) (v := ?vc11) rfl (by kernel_rfl) (by kernel_rfl) (by kernel_rfl) (fun _ _ _ h => h) (Or.inl ⟨by rfl, ?rc11⟩) (by assumption) ?_
          case rc11 => (intro w hSw; (try dsimp only at hSw); (go_simp <;> with_reducible rfl))
          try simp only [Act.put, List.setIfInBounds_toArray, List.set_cons_zero, List.set_cons_succ]
          refine wpAnyH_take (i := 11) (oi := { dst := some 80, op := Go.Op.indexAddr 59 (Go.Operand.tmp 78) (Go.Operand.tmp 79), type := 0, pos := "law.go:43", after := #[{ on := 9, ground := Go.Ground.data }, { on := 10, ground := Go.Ground.data }, { on := 8, ground := Go.Ground.guard }], guard := some (8, false) }) (v := ?vc12) rfl (by kernel_rfl) (by kernel_rfl) (by kernel_rfl) (fun _ _ _ h => h) (Or.inl ⟨by rfl, ?rc12⟩) (by assumption) ?_
          case rc12 => (intro w hSw; (try dsimp only at hSw); (go_simp <;> with_reducible rfl))
          try simp only [Act.put, List.setIfInBounds_toArray, List.set_cons_zero, List.set_cons_succ]
          refine wpAnyH_take (i := 12) (oi := { dst := some 81, op := Go.Op.fieldAddr 44 (Go.Operand.tmp 80) 2, type := 0, pos := "law.go:43", after := #[{ on := 11, ground := Go.Ground.data }, { on := 8, ground := Go.Ground.guard }], guard := some (8, false) }) (v := ?vc13) rfl (by kernel_rfl) (by kernel_rfl) (by kernel_rfl) (fun _ _ _ h => h) (Or.inl ⟨by rfl, ?rc13⟩) (by assumption) ?_
          case rc13 => (intro w hSw; (try dsimp only at hSw); (go_simp <;> with_reducible rfl))
          try simp only [Act.put, List.setIfInBounds_toArray, List.set_cons_zero, List.set_cons_succ]
          refine wpAnyH_take (i := 13) (oi := { dst := some 82, op := Go.Op.load 9 (Go.Operand.tmp 81), type := 9, pos := "law.go:43", after := #[{ on := 12, ground := Go.Ground.data }, { on := 8, ground := Go.Ground.guard }], guard := some (8, false) }) (v := ?vc14) rfl (by kernel_rfl) (by kernel_rfl) (by kernel_rfl) (fun _ _ _ h => h) (Or.inl ⟨by rfl, ?rc14⟩) (by assumption) ?_
          case rc14 => (intro w hSw; (try dsimp only at hSw); (go_simp <;> with_reducible rfl))
          try simp only [Act.put, List.setIfInBounds_toArray, List.set_cons_zero, List.set_cons_succ]
          refine wpAnyH_take (i := 14) (oi := { dst := some 83, op := Go.Op.fieldAddr 119 (Go.Operand.tmp 17) 1, type := 0, pos := "law.go:43", after := #[{ on := 8, ground := Go.Ground.guard }], guard := some (8, false) }) (v := ?vc15) rfl (by kernel_rfl) (by kernel_rfl) (by kernel_rfl) (fun _ _ _ h => h) (Or.inl ⟨by rfl, ?rc15⟩) (by assumption) ?_
          case rc15 => (intro w hSw; (try dsimp only at hSw); (go_simp <;> with_reducible rfl))
          try simp only [Act.put, List.setIfInBounds_toArray, List.set_cons_zero, List.set_cons_succ]
          refine wpAnyH_take (i := 15) (oi := { dst := some 84, op := Go.Op.load 9 (Go.Operand.tmp 83), type := 9, pos := "law.go:43", after := #[{ on := 14, ground := Go.Ground.data }, { on := 8, ground := Go.Ground.guard }], guard := some (8, false) }) (v := ?vc16) rfl (by kernel_rfl) (by kernel_rfl) (by kernel_rfl) (fun _ _ _ h => h) (Or.inl ⟨by rfl, ?rc16⟩) (by assumption) ?_
          case rc16 => (intro w hSw; (try dsimp only at hSw); (go_simp <;> with_reducible rfl))
          try simp only [Act.put, List.setIfInBounds_toArray, List.set_cons_zero, List.set_cons_succ]
          refine wpAnyH_take (i := 16) (oi := { dst := some 85, op := Go.Op.binOp Go.BinOp.neq 9 (Go.Operand.tmp 82) (Go.Operand.tmp 84) 9, type := 4, pos := "law.go:43", after := #[{ on := 13, ground := Go.Ground.data }, { on := 15, ground := Go.Ground.data }, { on := 8, ground := Go.Ground.guard }], guard := some (8, false) }) (v := (.bool false)) rfl (by kernel_rfl) (by kernel_rfl) (by kernel_rfl) (fun _ _ _ h => h) (Or.inl ⟨by rfl, ?rc17⟩) (by assumption) ?_
          case rc17 => (intro w hSw; (try dsimp only at hSw); go_simp; all_goals simp)
          try simp only [Act.put, List.setIfInBounds_toArray, List.set_cons_zero, List.set_cons_succ]
          refine wpAnyH_take (i := 17) (oi := { dst := some 86, op := Go.Op.pick (Go.Operand.tmp 77) (Go.Operand.const (Go.Value.bool true)) (Go.Operand.tmp 85), type := 4, pos := "law.go:43", after := #[{ on := 8, ground := Go.Ground.data }, { on := 16, ground := Go.Ground.data }], guard := none }) (v := ?vc18) rfl (by kernel_rfl) (by kernel_rfl) (by kernel_rfl) (fun _ _ _ h => h) (Or.inl ⟨by rfl, ?rc18⟩) (by assumption) ?_
          case rc18 => (intro w hSw; (try dsimp only at hSw); (go_simp <;> with_reducible rfl))
          try simp only [Act.put, List.setIfInBounds_toArray, List.set_cons_zero, List.set_cons_succ]
          refine wpAnyH_take (i := 18) (oi := { dst := some 87, op := Go.Op.move (Go.Operand.tmp 86), type := 4, pos := "law.go:43", after := #[{ on := 17, ground := Go.Ground.data }, { on := 8, ground := Go.Ground.chain }], guard := none }) (v := ?vc19) rfl (by kernel_rfl) (by kernel_rfl) (by kernel_rfl) (fun _ _ _ h => h) (Or.inl ⟨by rfl, ?rc19⟩) (by assumption) ?_
          case rc19 => (intro w hSw; (try dsimp only at hSw); (go_simp <;> with_reducible rfl))
          try simp only [Act.put, List.setIfInBounds_toArray, List.set_cons_zero, List.set_cons_succ]
          refine wpAnyH_take (i := 19) (oi := { dst := some 88, op := Go.Op.move (Go.Operand.tmp 14), type := 59, pos := "law.go:43", after := #[{ on := 18, ground := Go.Ground.guard }], guard := some (18, false) }) (v := ?vc20) rfl (by kernel_rfl) (by kernel_rfl) (by kernel_rfl) (fun _ _ _ h => h) (Or.inl ⟨by rfl, ?rc20⟩) (by assumption) ?_
          case rc20 => (intro w hSw; (try dsimp only at hSw); (go_simp <;> with_reducible rfl))
          try simp only [Act.put, List.setIfInBounds_toArray, List.set_cons_zero, List.set_cons_succ]
          refine wpAnyH_take (i := 20) (oi := { dst := some 89, op := Go.Op.move (Go.Operand.tmp 16), type := 3, pos := "law.go:43", after := #[{ on := 18, ground := Go.Ground.guard }], guard := some (18, false) }) (v := ?vc21) rfl (by kernel_rfl) (by kernel_rfl) (by kernel_rfl) (fun _ _ _ h => h) (Or.inl ⟨by rfl, ?rc21⟩) (by assumption) ?_
          case rc21 => (intro w hSw; (try dsimp only at hSw); (go_simp <;> with_reducible rfl))
          try simp only [Act.put, List.setIfInBounds_toArray, List.set_cons_zero, List.set_cons_succ]
          refine wpAnyH_take (i := 21) (oi := { dst := some 90, op := Go.Op.indexAddr 59 (Go.Operand.tmp 88) (Go.Operand.tmp 89), type := 0, pos := "law.go:43", after := #[{ on := 19, ground := Go.Ground.data }, { on := 20, ground := Go.Ground.data }, { on := 18, ground := Go.Ground.guard }], guard := some (18, false) }) (v := ?vc22) rfl (by kernel_rfl) (by kernel_rfl) (by kernel_rfl) (fun _ _ _ h => h) (Or.inl ⟨by rfl, ?rc22⟩) (by assumption) ?_
          case rc22 => (intro w hSw; (try dsimp only at hSw); (go_simp <;> with_reducible rfl))
          try simp only [Act.put, List.setIfInBounds_toArray, List.set_cons_zero, List.set_cons_succ]
          refine wpAnyH_take (i := 22) (oi := { dst := some 91, op := Go.Op.fieldAddr 44 (Go.Operand.tmp 90) 1, type := 0, pos := "law.go:43", after := #[{ on := 21, ground := Go.Ground.data }, { on := 18, ground := Go.Ground.guard }], guard := some (18, false) }) (v := ?vc23) rfl (by kernel_rfl) (by kernel_rfl) (by kernel_rfl) (fun _ _ _ h => h) (Or.inl ⟨by rfl, ?rc23⟩) (by assumption) ?_
          case rc23 => (intro w hSw; (try dsimp only at hSw); (go_simp <;> with_reducible rfl))
          try simp only [Act.put, List.setIfInBounds_toArray, List.set_cons_zero, List.set_cons_succ]
          refine wpAnyH_take (i := 23) (oi := { dst := some 92, op := Go.Op.load 42 (Go.Operand.tmp 91), type := 42, pos := "law.go:43", after := #[{ on := 22, ground := Go.Ground.data }, { on := 18, ground := Go.Ground.guard }], guard := some (18, false) }) (v := ?vc24) rfl (by kernel_rfl) (by kernel_rfl) (by kernel_rfl) (fun _ _ _ h => h) (Or.inl ⟨by rfl, ?rc24⟩) (by assumption) ?_
          case rc24 => (intro w hSw; (try dsimp only at hSw); (go_simp <;> with_reducible rfl))
          try simp only [Act.put, List.setIfInBounds_toArray, List.set_cons_zero, List.set_cons_succ]
          refine wpAnyH_ready (rs := [24]) (by kernel_rfl) (by simp) ?_
          refine AllReadyH.cons (o := { dst := some 93, op := Go.Op.call { callee := Go.Callee.value (Go.Operand.func 21), args := #[Go.Operand.tmp 92], argTypes := #[42] }, type := 4, pos := "law.go:43", after := #[{ on := 23, ground := Go.Ground.data }, { on := 18, ground := Go.Ground.chain }, { on := 18, ground := Go.Ground.guard }], guard := some (18, false) }) rfl (fun K hK => ?_) AllReadyH.nil
          go_simp
          go_at_call 21
          refine (none_zero _).mono ?_
          rintro e w7 ⟨rfl, hg7⟩
          have HG7 := Lib.hid (HGX.out.trans ((Gr.refl _).drew.trans hg7))
          first | refine hK.out _ _ ?sc25 (fun h25 => ?_) | (go_wp2_with fail; refine hK.out _ _ ?sc25 (fun h25 => ?_))
          case sc25 => ((try dsimp only); (exact ⟨hg7.cell h0.1, hg7.cell h0.2.1, hg7.cell h0.2.2.1, hg7.cell h0.2.2.2.1, hg7.cell h0.2.2.2.2.1, hg7.cell h0.2.2.2.2.2⟩))
          clear hK K h0
          try simp only [Act.put, List.setIfInBounds_toArray, List.set_cons_zero, List.set_cons_succ]
          refine wpAnyH_take (i := 25) (oi := { dst := some 94, op := Go.Op.unOp Go.UnOp.not 4 (Go.Operand.tmp 93), type := 4, pos := "law.go:43", after := #[{ on := 24, ground := Go.Ground.data }, { on := 18, ground := Go.Ground.guard }], guard := some (18, false) }) (v := ?vc26) rfl (by kernel_rfl) (by kernel_rfl) (by kernel_rfl) (fun _ _ _ h => h) (Or.inl ⟨by rfl, ?rc26⟩) (by assumption) ?_
          case rc26 => (intro w hSw; (try dsimp only at hSw); (go_simp <;> with_reducible rfl))
          try simp only [Act.put, List.setIfInBounds_toArray, List.set_cons_zero, List.set_cons_succ]
          refine wpAnyH_take (i := 26) (oi := { dst := some 95, op := Go.Op.pick (Go.Operand.tmp 87) (Go.Operand.const (Go.Value.bool true)) (Go.Operand.tmp 94), type := 4, pos := "law.go:43", after := #[{ on := 18, ground := Go.Ground.data }, { on := 25, ground := Go.Ground.data }], guard := none }) (v := ?vc27) rfl (by kernel_rfl) (by kernel_rfl) (by kernel_rfl) (fun _ _ _ h => h) (Or.inl ⟨by rfl, ?rc27⟩) (by assumption) ?_
          case rc27 => (intro w hSw; (try dsimp only at hSw); (go_simp <;> with_reducible rfl))
          try simp only [Act.put, List.setIfInBounds_toArray, List.set_cons_zero, List.set_cons_succ]
          refine wpAnyH_done (by kernel_rfl) ?_ _
          clear h25 e0 e1 e2 e3 x0 x1 hg7
          go_wp2
          go_roundw
          case rel => exact ⟨i + 1, by omega, by go_num, HG7⟩
          case measure => simp [intOf]; omega
        · have hi4 : ¬ (i : Int) < (q : Int) := by omega
          have HGc := Lib.hid (HGb.out.trans HGi.out)
          have HSc := Lib.hid (HSb.out.gr HGi.out)
          go_wp2_with fail
          refine (HMI.out _ (HI.out.gr HGc.out)).mono ?_
          rintro e w10 ⟨rfl, hg10⟩
          have HSe := Lib.hid ((HSc.out.gr hg10).gr (Gr.refl w10).drew)
          have HGe := Lib.hid ((HGc.out.trans hg10).trans (Gr.refl w10).drew)
          have d0 := HSe.out.cell (i := 0) rfl
          have d1 := HSe.out.cell (i := 1) rfl
          have d2 := HSe.out.cell (i := 2) rfl
          clear hg10
          go_wp2_with fail
          refine wp_region_held_drew (S := (fun w9 => w9.cell? ⟨p, 0, none⟩ = some (.int .i64 ba) ∧ w9.cell? ⟨p, 1, none⟩ = some (.int .i64 dn) ∧ w9.cell? ⟨p, 2, none⟩ = some lv)) (by kernel_rfl) ?invd (fun h0 => ?_)
          case invd => ((try dsimp only); (exact ⟨d0, d1, d2⟩))
          refine wpAnyH_take (i := 0) (oi := { dst := some 102, op := Go.Op.move (Go.Operand.tmp 0), type := 27, pos := "law.go:48", after := #[], guard := none }) (v := ?vd1) rfl (by kernel_rfl) (by kernel_rfl) (by kernel_rfl) (fun _ _ _ h => h) (Or.inl ⟨by rfl, ?rd1⟩) (by assumption) ?_
          case rd1 => (intro w hSw; (try dsimp only at hSw); (go_simp <;> with_reducible rfl))
          try simp only [Act.put, List.setIfInBounds_toArray, List.set_cons_zero, List.set_cons_succ]
          refine wpAnyH_take (i := 2) (oi := { dst := some 104, op := Go.Op.fieldAddr 31 (Go.Operand.tmp 5) 0, type := 0, pos := "law.go:48", after := #[], guard := none }) (v := ?vd2) rfl (by kernel_rfl) (by kernel_rfl) (by kernel_rfl) (fun _ _ _ h => h) (Or.inl ⟨by rfl, ?rd2⟩) (by assumption) ?_
          case rd2 => (intro w hSw; (try dsimp only at hSw); (go_simp <;> with_reducible rfl))
          try simp only [Act.put, List.setIfInBounds_toArray, List.set_cons_zero, List.set_cons_succ]
          refine wpAnyH_take (i := 3) (oi := { dst := some 105, op := Go.Op.load 3 (Go.Operand.tmp 104), type := 3, pos := "law.go:48", after := #[{ on := 2, ground := Go.Ground.data }], guard := none }) (v := ?vd3) rfl (by kernel_rfl) (by kernel_rfl) (by kernel_rfl) (fun _ _ _ h => h) (Or.inl ⟨by rfl, ?rd3⟩) (by assumption) ?_
          case rd3 => (intro w hSw; (try dsimp only at hSw); (go_simp <;> with_reducible rfl))
          try simp only [Act.put, List.setIfInBounds_toArray, List.set_cons_zero, List.set_cons_succ]
          refine wpAnyH_ready (rs := [1]) (by kernel_rfl) (by simp) ?_
          refine AllReadyH.cons (o := { dst := some 103, op := Go.Op.call { callee := Go.Callee.value (Go.Operand.func 30), args := #[Go.Operand.tmp 102], argTypes := #[27] }, type := 3, pos := "law.go:48", after := #[{ on := 0, ground := Go.Ground.data }], guard := none }) rfl (fun K hK => ?_) AllReadyH.nil
          go_simp
          go_at_call 30
          refine (HBS.out _ (HI.out.gr HGe.out)).mono ?_
          rintro e w11 ⟨rfl, rfl⟩
          first | refine hK.out _ _ ?sd4 (fun h4 => ?_) | (go_wp2_with fail; refine hK.out _ _ ?sd4 (fun h4 => ?_))
          case sd4 => ((try dsimp only); (exact h0))
          clear hK K h0
          try simp only [Act.put, List.setIfInBounds_toArray, List.set_cons_zero, List.set_cons_succ]
          refine wpAnyH_take (i := 4) (oi := { dst := some 106, op := Go.Op.binOp Go.BinOp.eql 3 (Go.Operand.tmp 103) (Go.Operand.tmp 105) 3, type := 4, pos := "law.go:48", after := #[{ on := 1, ground := Go.Ground.data }, { on := 3, ground := Go.Ground.data }], guard := none }) (v := (.bool true)) rfl (by kernel_rfl) (by kernel_rfl) (by kernel_rfl) (fun _ _ _ h => h) (Or.inl ⟨by rfl, ?rd5⟩) (by assumption) ?_
          case rd5 => (intro w hSw; (try dsimp only at hSw); go_simp; all_goals simp)
          try simp only [Act.put, List.setIfInBounds_toArray, List.set_cons_zero, List.set_cons_succ]
          refine wpAnyH_take (i := 5) (oi := { dst := some 107, op := Go.Op.move (Go.Operand.tmp 106), type := 4, pos := "law.go:48", after := #[{ on := 4, ground := Go.Ground.data }, { on := 1, ground := Go.Ground.chain }], guard := none }) (v := ?vd6) rfl (by kernel_rfl) (by kernel_rfl) (by kernel_rfl) (fun _ _ _ h => h) (Or.inl ⟨by rfl, ?rd6⟩) (by assumption) ?_
          case rd6 => (intro w hSw; (try dsimp only at hSw); (go_simp <;> with_reducible rfl))
          try simp only [Act.put, List.setIfInBounds_toArray, List.set_cons_zero, List.set_cons_succ]
          refine wpAnyH_take (i := 6) (oi := { dst := some 108, op := Go.Op.move (Go.Operand.tmp 0), type := 27, pos := "law.go:48", after := #[{ on := 5, ground := Go.Ground.guard }], guard := some (5, true) }) (v := ?vd7) rfl (by kernel_rfl) (by kernel_rfl) (by kernel_rfl) (fun _ _ _ h => h) (Or.inl ⟨by rfl, ?rd7⟩) (by assumption) ?_
          case rd7 => (intro w hSw; (try dsimp only at hSw); (go_simp <;> with_reducible rfl))
          try simp only [Act.put, List.setIfInBounds_toArray, List.set_cons_zero, List.set_cons_succ]
          refine wpAnyH_take (i := 8) (oi := { dst := some 110, op := Go.Op.fieldAddr 31 (Go.Operand.tmp 5) 1, type := 0, pos := "law.go:48", after := #[{ on := 5, ground := Go.Ground.guard }], guard := some (5, true) }) (v := ?vd8) rfl (by kernel_rfl) (by kernel_rfl) (by kernel_rfl) (fun _ _ _ h => h) (Or.inl ⟨by rfl, ?rd8⟩) (by assumption) ?_
          case rd8 => (intro w hSw; (try dsimp only at hSw); (go_simp <;> with_reducible rfl))
          try simp only [Act.put, List.setIfInBounds_toArray, List.set_cons_zero, List.set_cons_succ]
          refine wpAnyH_take (i := 9) (oi := { dst := some 111, op := Go.Op.load 3 (Go.Operand.tmp 110), type := 3, pos := "law.go:48", after := #[{ on := 8, ground := Go.Ground.data }, { on := 5, ground := Go.Ground.guard }], guard := some (5, true) }) (v := ?vd9) rfl (by kernel_rfl) (by kernel_rfl) (by kernel_rfl) (fun _ _ _ h => h) (Or.inl ⟨by rfl, ?rd9⟩) (by assumption) ?_
          case rd9 => (intro w hSw; (try dsimp only at hSw); (go_simp <;> with_reducible rfl))
          try simp only [Act.put, List.setIfInBounds_toArray, List.set_cons_zero, List.set_cons_succ]
          refine wpAnyH_ready (rs := [7]) (by kernel_rfl) (by simp) ?_
          refine AllReadyH.cons (o := { dst := some 109, op := Go.Op.call { callee := Go.Callee.value (Go.Operand.func 28), args := #[Go.Operand.tmp 108], argTypes := #[27] }, type := 3, pos := "law.go:48", after := #[{ on := 6, ground := Go.Ground.data }, { on := 5, ground := Go.Ground.chain }, { on := 5, ground := Go.Ground.guard }], guard := some (5, true) }) rfl (fun K hK => ?_) AllReadyH.nil
          go_simp
          go_at_call 28
          refine (HDN.out _ (HI.out.gr HGe.out)).mono ?_
          rintro e w12 ⟨rfl, rfl⟩
          first | refine hK.out _ _ ?sd10 (fun h10 => ?_) | (go_wp2_with fail; refine hK.out _ _ ?sd10 (fun h10 => ?_))
          case sd10 => ((try dsimp only); (exact h4))
          clear hK K h4
          try simp only [Act.put, List.setIfInBounds_toArray, List.set_cons_zero, List.set_cons_succ]
          refine wpAnyH_take (i := 10) (oi := { dst := some 112, op := Go.Op.binOp Go.BinOp.eql 3 (Go.Operand.tmp 109) (Go.Operand.tmp 111) 3, type := 4, pos := "law.go:48", after := #[{ on := 7, ground := Go.Ground.data }, { on := 9, ground := Go.Ground.data }, { on := 5, ground := Go.Ground.guard }], guard := some (5, true) }) (v := (.bool true)) rfl (by kernel_rfl) (by kernel_rfl) (by kernel_rfl) (fun _ _ _ h => h) (Or.inl ⟨by rfl, ?rd11⟩) (by assumption) ?_
          case rd11 => (intro w hSw; (try dsimp only at hSw); go_simp; all_goals simp)
          try simp only [Act.put, List.setIfInBounds_toArray, List.set_cons_zero, List.set_cons_succ]
          refine wpAnyH_take (i := 11) (oi := { dst := some 113, op := Go.Op.pick (Go.Operand.tmp 107) (Go.Operand.tmp 112) (Go.Operand.const (Go.Value.bool false)), type := 4, pos := "law.go:48", after := #[{ on := 5, ground := Go.Ground.data }, { on := 10, ground := Go.Ground.data }], guard := none }) (v := ?vd12) rfl (by kernel_rfl) (by kernel_rfl) (by kernel_rfl) (fun _ _ _ h => h) (Or.inl ⟨by rfl, ?rd12⟩) (by assumption) ?_
          case rd12 => (intro w hSw; (try dsimp only at hSw); (go_simp <;> with_reducible rfl))
          try simp only [Act.put, List.setIfInBounds_toArray, List.set_cons_zero, List.set_cons_succ]
          refine wpAnyH_take (i := 12) (oi := { dst := some 114, op := Go.Op.move (Go.Operand.tmp 113), type := 4, pos := "law.go:48", after := #[{ on := 11, ground := Go.Ground.data }, { on := 7, ground := Go.Ground.chain }], guard := none }) (v := ?vd13) rfl (by kernel_rfl) (by kernel_rfl) (by kernel_rfl) (fun _ _ _ h => h) (Or.inl ⟨by rfl, ?rd13⟩) (by assumption) ?_
          case rd13 => (intro w hSw; (try dsimp only at hSw); (go_simp <;> with_reducible rfl))
          try simp only [Act.put, List.setIfInBounds_toArray, List.set_cons_zero, List.set_cons_succ]
          refine wpAnyH_take (i := 13) (oi := { dst := some 115, op := Go.Op.move (Go.Operand.tmp 18), type := 3, pos := "law.go:48", after := #[{ on := 12, ground := Go.Ground.guard }], guard := some (12, true) }) (v := ?vd14) rfl (by kernel_rfl) (by kernel_rfl) (by kernel_rfl) (fun _ _ _ h => h) (Or.inl ⟨by rfl, ?rd14⟩) (by assumption) ?_
          case rd14 => (intro w hSw; (try dsimp only at hSw); (go_simp <;> with_reducible rfl))
          try simp only [Act.put, List.setIfInBounds_toArray, List.set_cons_zero, List.set_cons_succ]
          refine wpAnyH_take (i := 14) (oi := { dst := some 116, op := Go.Op.load 31 (Go.Operand.tmp 5), type := 31, pos := "law.go:48", after := #[{ on := 12, ground := Go.Ground.guard }], guard := some (12, true) }) (v := ?vd15) rfl (by kernel_rfl) (by kernel_rfl) (by kernel_rfl) (fun _ _ _ h => h) (Or.inl ⟨by rfl, ?rd15⟩) (by assumption) ?_
          case rd15 => (intro w hSw; (try dsimp only at hSw); (go_simp <;> with_reducible rfl))
          try simp only [Act.put, List.setIfInBounds_toArray, List.set_cons_zero, List.set_cons_succ]
          refine wpAnyH_ready (rs := [15]) (by kernel_rfl) (by simp) ?_
          refine AllReadyH.cons (o := { dst := some 117, op := Go.Op.call { callee := Go.Callee.value (Go.Operand.func 70), args := #[Go.Operand.tmp 116], argTypes := #[31] }, type := 3, pos := "law.go:48", after := #[{ on := 14, ground := Go.Ground.data }, { on := 12, ground := Go.Ground.chain }, { on := 12, ground := Go.Ground.guard }], guard := some (12, true) }) rfl (fun K hK => ?_) AllReadyH.nil
          go_simp
          go_at_call 70
          refine (HRM.out _ (ownsRow_gr HGe.out HR.out)).mono ?_
          rintro e w13 ⟨r, mx, rfl, hmx, hms, hg13⟩
          obtain ⟨rfl, _⟩ := HMS.out mx r hmx hms
          have HGf := Lib.hid (HGe.out.trans hg13)
          first | refine hK.out _ _ ?sd16 (fun h16 => ?_) | (go_wp2_with fail; refine hK.out _ _ ?sd16 (fun h16 => ?_))
          case sd16 => ((try dsimp only); (exact ⟨hg13.cell h10.1, hg13.cell h10.2.1, hg13.cell h10.2.2⟩))
          clear hK K h10
          try simp only [Act.put, List.setIfInBounds_toArray, List.set_cons_zero, List.set_cons_succ]
          refine wpAnyH_take (i := 16) (oi := { dst := some 118, op := Go.Op.binOp Go.BinOp.eql 3 (Go.Operand.tmp 115) (Go.Operand.tmp 117) 3, type := 4, pos := "law.go:48", after := #[{ on := 13, ground := Go.Ground.data }, { on := 15, ground := Go.Ground.data }, { on := 12, ground := Go.Ground.guard }], guard := some (12, true) }) (v := (.bool true)) rfl (by kernel_rfl) (by kernel_rfl) (by kernel_rfl) (fun _ _ _ h => h) (Or.inl ⟨by rfl, ?rd17⟩) (by assumption) ?_
          case rd17 => (intro w hSw; (try dsimp only at hSw); go_simp; all_goals simp)
          try simp only [Act.put, List.setIfInBounds_toArray, List.set_cons_zero, List.set_cons_succ]
          refine wpAnyH_take (i := 17) (oi := { dst := some 119, op := Go.Op.pick (Go.Operand.tmp 114) (Go.Operand.tmp 118) (Go.Operand.const (Go.Value.bool false)), type := 4, pos := "law.go:48", after := #[{ on := 12, ground := Go.Ground.data }, { on := 16, ground := Go.Ground.data }], guard := none }) (v := ?vd18) rfl (by kernel_rfl) (by kernel_rfl) (by kernel_rfl) (fun _ _ _ h => h) (Or.inl ⟨by rfl, ?rd18⟩) (by assumption) ?_
          case rd18 => (intro w hSw; (try dsimp only at hSw); (go_simp <;> with_reducible rfl))
          try simp only [Act.put, List.setIfInBounds_toArray, List.set_cons_zero, List.set_cons_succ]
          refine wpAnyH_take (i := 18) (oi := { dst := some 120, op := Go.Op.move (Go.Operand.tmp 119), type := 4, pos := "law.go:48", after := #[{ on := 17, ground := Go.Ground.data }, { on := 15, ground := Go.Ground.chain }], guard := none }) (v := ?vd19) rfl (by kernel_rfl) (by kernel_rfl) (by kernel_rfl) (fun _ _ _ h => h) (Or.inl ⟨by rfl, ?rd19⟩) (by assumption) ?_
          case rd19 => (intro w hSw; (try dsimp only at hSw); (go_simp <;> with_reducible rfl))
          try simp only [Act.put, List.setIfInBounds_toArray, List.set_cons_zero, List.set_cons_succ]
          refine wpAnyH_take (i := 19) (oi := { dst := some 121, op := Go.Op.move (Go.Operand.tmp 19), type := 4, pos := "law.go:48", after := #[{ on := 18, ground := Go.Ground.guard }], guard := some (18, true) }) (v := ?vd20) rfl (by kernel_rfl) (by kernel_rfl) (by kernel_rfl) (fun _ _ _ h => h) (Or.inl ⟨by rfl, ?rd20⟩) (by assumption) ?_
          case rd20 => (intro w hSw; (try dsimp only at hSw); (go_simp <;> with_reducible rfl))
          try simp only [Act.put, List.setIfInBounds_toArray, List.set_cons_zero, List.set_cons_succ]
          refine wpAnyH_take (i := 20) (oi := { dst := some 122, op := Go.Op.move (Go.Operand.tmp 18), type := 3, pos := "law.go:48", after := #[{ on := 18, ground := Go.Ground.guard }], guard := some (18, true) }) (v := ?vd21) rfl (by kernel_rfl) (by kernel_rfl) (by kernel_rfl) (fun _ _ _ h => h) (Or.inl ⟨by rfl, ?rd21⟩) (by assumption) ?_
          case rd21 => (intro w hSw; (try dsimp only at hSw); (go_simp <;> with_reducible rfl))
          try simp only [Act.put, List.setIfInBounds_toArray, List.set_cons_zero, List.set_cons_succ]
          refine wpAnyH_take (i := 21) (oi := { dst := some 123, op := Go.Op.binOp Go.BinOp.gtr 3 (Go.Operand.tmp 122) (Go.Operand.const (Go.Value.int Go.IntKind.i64 0)) 3, type := 4, pos := "law.go:48", after := #[{ on := 20, ground := Go.Ground.data }, { on := 18, ground := Go.Ground.guard }], guard := some (18, true) }) (v := (.bool BQ)) rfl (by kernel_rfl) (by kernel_rfl) (by kernel_rfl) (fun _ _ _ h => h) (Or.inl ⟨by rfl, ?rd22⟩) (by assumption) ?_
          case rd22 => (intro w hSw; (try dsimp only at hSw); go_simp; all_goals (first | rw [HBQ.out] | (have := HBQ.out; simp_all)))
          try simp only [Act.put, List.setIfInBounds_toArray, List.set_cons_zero, List.set_cons_succ]
          refine wpAnyH_take (i := 22) (oi := { dst := some 124, op := Go.Op.binOp Go.BinOp.eql 4 (Go.Operand.tmp 121) (Go.Operand.tmp 123) 4, type := 4, pos := "law.go:48", after := #[{ on := 19, ground := Go.Ground.data }, { on := 21, ground := Go.Ground.data }, { on := 18, ground := Go.Ground.guard }], guard := some (18, true) }) (v := (.bool true)) rfl (by kernel_rfl) (by kernel_rfl) (by kernel_rfl) (fun _ _ _ h => h) (Or.inl ⟨by rfl, ?rd23⟩) (by assumption) ?_
          case rd23 => (intro w hSw; (try dsimp only at hSw); go_simp; all_goals simp)
          try simp only [Act.put, List.setIfInBounds_toArray, List.set_cons_zero, List.set_cons_succ]
          refine wpAnyH_take (i := 23) (oi := { dst := some 125, op := Go.Op.pick (Go.Operand.tmp 120) (Go.Operand.tmp 124) (Go.Operand.const (Go.Value.bool false)), type := 4, pos := "law.go:48", after := #[{ on := 18, ground := Go.Ground.data }, { on := 22, ground := Go.Ground.data }], guard := none }) (v := ?vd24) rfl (by kernel_rfl) (by kernel_rfl) (by kernel_rfl) (fun _ _ _ h => h) (Or.inl ⟨by rfl, ?rd24⟩) (by assumption) ?_
          case rd24 => (intro w hSw; (try dsimp only at hSw); (go_simp <;> with_reducible rfl))
          try simp only [Act.put, List.setIfInBounds_toArray, List.set_cons_zero, List.set_cons_succ]
          refine wpAnyH_take (i := 24) (oi := { dst := some 8, op := Go.Op.assign (Go.Operand.tmp 125), type := 4, pos := "law.go:48", after := #[{ on := 23, ground := Go.Ground.data }, { on := 18, ground := Go.Ground.chain }, { on := 0, ground := Go.Ground.phase }, { on := 1, ground := Go.Ground.phase }, { on := 2, ground := Go.Ground.phase }, { on := 3, ground := Go.Ground.phase }, { on := 4, ground := Go.Ground.phase }, { on := 5, ground := Go.Ground.phase }, { on := 6, ground := Go.Ground.phase }, { on := 7, ground := Go.Ground.phase }, { on := 8, ground := Go.Ground.phase }, { on := 9, ground := Go.Ground.phase }, { on := 10, ground := Go.Ground.phase }, { on := 11, ground := Go.Ground.phase }, { on := 12, ground := Go.Ground.phase }, { on := 13, ground := Go.Ground.phase }, { on := 14, ground := Go.Ground.phase }, { on := 15, ground := Go.Ground.phase }, { on := 16, ground := Go.Ground.phase }, { on := 17, ground := Go.Ground.phase }, { on := 18, ground := Go.Ground.phase }, { on := 19, ground := Go.Ground.phase }, { on := 20, ground := Go.Ground.phase }, { on := 21, ground := Go.Ground.phase }, { on := 22, ground := Go.Ground.phase }, { on := 23, ground := Go.Ground.phase }], guard := none }) (v := ?vd25) rfl (by kernel_rfl) (by kernel_rfl) (by kernel_rfl) (fun _ _ _ h => h) (Or.inl ⟨by rfl, ?rd25⟩) (by assumption) ?_
          case rd25 => (intro w hSw; (try dsimp only at hSw); (go_simp <;> with_reducible rfl))
          try simp only [Act.put, List.setIfInBounds_toArray, List.set_cons_zero, List.set_cons_succ]
          refine wpAnyH_done (by kernel_rfl) ?_ _
          clear h16 d0 d1 d2 hg13 hmx hms
          go_wp2
          go_ret
          exact ⟨rfl, HGf.out⟩
end Go.Proofs.Ytnanclgnjchpeaa
