import Derived.Test.YtmgpnpmdmelnkaaGreatDoorF22b
import Derived.Test.YtmgpnpmdmelnkaaGreatDoorC35
import Derived.WalkKit
import Derived.ProofKit
import Derived.LoopTactic
import Derived.Outline
import Derived.WalkSpells
import Derived.WalkLawsBesides
import Derived.Lib.Hide
import Derived.Deep.LoopGhost
import Derived.Deep.QuietTactic
import Derived.BigQuiet
import Derived.ShutString
import Derived.IntWalk
import Derived.Lib.MinMax
import Derived.Deep.RegionWith
namespace Go.Proofs.YtmgpnpmdmelnkaaGreatDoor
open Go.ChangeShapes Go.WideShapes Go.ChangeAt Go.RowKit
set_option linter.unusedVariables false
set_option linter.unusedSimpArgs false
theorem zeroValue_Lok (w : World) : (zeroValue 42).run Tryz.prog w = .ok (.agg #[.int .i64 0, .string ⟨#[]⟩, .bool false, .int .u64 0]) w := by kernel_rfl
def restL (q : Lok → Bool) (L : List Lok) : List Lok := L.filter fun y => !q y
theorem rest_snoc (q : Lok → Bool) (L : List Lok) (j : Nat) (hj : j < L.length) : restL q (L.take (j + 1)) = restL q (L.take j) ++ (if q L[j] = true then [] else [L[j]]) := by
  unfold restL
  rw [List.take_succ_eq_append_getElem hj, List.filter_append]
  congr 1
  cases h : q L[j] <;> simp [h]
theorem rcells_set4 (L : List Lok) (e : Lok) : ∀ i, i < L.length → rcells encLok (L.set i e) = ((((rcells encLok L).set (i * 4) (.int .i64 e.ses)).set (i * 4 + 1) (.string e.txt)).set (i * 4 + 2) (.bool e.ex)).set (i * 4 + 3) (.int .u64 e.tok) := by
  induction L with
  | nil => intro i h; exact absurd h (by simp)
  | cons y r ih =>
    intro i h
    cases i with
    | zero => rfl
    | succ i =>
      rw [List.set_cons_succ, rcells_cons, rcells_cons, ih i (by simpa using h)]
      have hl : (encLok y).length = 4 := rfl
      rw [show (i + 1) * 4 = 4 + i * 4 by omega, show 4 + i * 4 + 1 = 4 + (i * 4 + 1) by omega, show 4 + i * 4 + 2 = 4 + (i * 4 + 2) by omega, show 4 + i * 4 + 3 = 4 + (i * 4 + 3) by omega]
      simp only [encLok, List.cons_append, List.nil_append]
      simp only [Nat.add_comm 4, List.set_cons_succ, show ∀ n, n + 4 = n + 1 + 1 + 1 + 1 from fun _ => rfl]
/-- Whatever lies beside an acceptor's block and its row has not turned. -/
theorem stored4 {w : World} {base g m cap i : Nat} {M : List Lok} (e : Lok) (h : w.ownsRow base 42 4 (.slice (some ⟨g, 0, none⟩) m cap) m (rcells encLok M)) (hm : m = M.length) (hi : i < m) :
    ((((w.setCell ⟨g, i * 4, none⟩ (.int .i64 e.ses)).setCell ⟨g, i * 4 + 1, none⟩ (.string e.txt)).setCell ⟨g, i * 4 + 2, none⟩ (.bool e.ex)).setCell ⟨g, i * 4 + 3, none⟩ (.int .u64 e.tok)).ownsRow base 42 4 (.slice (some ⟨g, 0, none⟩) m cap) m (rcells encLok (M.set i e)) := by
  rw [rcells_set4 M e i (by omega)]
  exact ((((h.stored (i * 4) _).1.stored (i * 4 + 1) _).1.stored (i * 4 + 2) _).1.stored (i * 4 + 3) _).1
theorem rcells_takeAt {L : List Lok} {i : Nat} (hi : i ≤ L.length) (j : Nat) (hj : j < i * 4) : (rcells encLok (L.take i))[j]? = (rcells encLok L)[j]? := by
  rw [← rcells_take encLok_len L i hi, List.getElem?_take_of_lt hj]
/-- A row's first, behind a clear of the others. -/
theorem cleared {W : World} {base g cap m i : Nat} {M : List Lok} (h : W.ownsRow base 42 4 (.slice (some ⟨g, 0, none⟩) m cap) m (rcells encLok M)) (hm : M.length = m) (hi : i ≤ m) (ZL : List Value) :
    (W.setCells g (i * 4) ZL).ownsRow base 42 4 (.slice (some ⟨g, 0, none⟩) i cap) i (rcells encLok (M.take i)) := by
  rcases h.2 with ⟨h1, _⟩ | ⟨g', cap', cur, h1, hbg, hcur, hmc, hcm, hsz, htk⟩
  · simp at h1
  · simp only [Value.slice.injEq, Option.some.injEq, Addr.mk.injEq, and_true, true_and] at h1
    obtain ⟨rfl, rfl⟩ := h1
    obtain ⟨c1, hc1, z1⟩ := heap_setCells ZL (i * 4) W cur hcur
    refine owns_of hbg hc1 (by omega) (by omega) hcm (by rw [rcells_len encLok_len, List.length_take]; omega) fun j u hj => ?_
    have hj2 := (List.getElem?_eq_some_iff.1 hj).1
    rw [rcells_len encLok_len, List.length_take] at hj2
    have hj3 : j < i * 4 := Nat.lt_of_lt_of_le hj2 (Nat.mul_le_mul_right 4 (Nat.min_le_left _ _))
    rw [World.cell?_setCells_out _ _ _ _ _ (fun _ _ => Or.inl hj3)]
    rw [rcells_takeAt (by omega) j hj3] at hj
    have := h.cells (g := g) rfl j u hj
    rwa [addr_add, Nat.zero_add] at this
theorem take_set {α : Type} (M : List α) (i : Nat) (x : α) (h : i < M.length) : (M.set i x).take (i + 1) = M.take i ++ [x] := by
  rw [List.take_set, List.take_succ_eq_append_getElem h, List.set_append_right _ _ (by rw [List.length_take]; omega), List.length_take, Nat.min_eq_left (by omega), Nat.sub_self]
  rfl
theorem lokrow_atM {w : World} {base g m cap : Nat} {M : List Lok} (h : w.ownsRow base 42 4 (.slice (some ⟨g, 0, none⟩) m cap) m (rcells encLok M)) (hm : M.length = m) (i : Nat) (hi : i < M.length) :
    w.cell? ⟨g, i * 4, none⟩ = some (.int .i64 M[i].ses) ∧ w.cell? ⟨g, i * 4 + 1, none⟩ = some (.string M[i].txt) ∧ w.cell? ⟨g, i * 4 + 2, none⟩ = some (.bool M[i].ex) ∧ w.cell? ⟨g, i * 4 + 3, none⟩ = some (.int .u64 M[i].tok) ∧ ∀ j, w.frozen? ⟨g, j, none⟩ = false := by
  subst hm
  obtain ⟨g', cap', h1, h2, h3, h4, h5⟩ := lokrow_at h i hi
  simp only [Value.slice.injEq, Option.some.injEq, Addr.mk.injEq, and_true, true_and] at h1
  obtain ⟨rfl, rfl⟩ := h1
  obtain ⟨g', cap', cur, hv, _, _, _, _, _, _, _, _, _, hfz⟩ := owns_open h (by omega)
  simp only [Value.slice.injEq, Option.some.injEq, Addr.mk.injEq, and_true, true_and] at hv
  obtain ⟨rfl, rfl⟩ := hv
  exact ⟨h2, h3, h4, h5, hfz⟩
theorem grown_cells4 {w w' : World} {g : Nat} (h : w.grownBy w' (some g)) (o : Nat) (x0 x1 x2 x3 : Value) :
    w.grownBy ((((w'.setCell ⟨g, o, none⟩ x0).setCell ⟨g, o + 1, none⟩ x1).setCell ⟨g, o + 2, none⟩ x2).setCell ⟨g, o + 3, none⟩ x3) (some g) :=
  grown_trans h (grown_cells g [x0, x1, x2, x3] o w')
set_option maxRecDepth 1000000 in
set_option maxHeartbeats 2000000 in
theorem delLokB_any {base f : Nat} {rv : Value} {v : Value} (q : Lok → Bool) (L : List Lok) (w : World) (h : w.ownsRow base 42 4 v L.length (rcells encLok L)) (hl : L.length ≤ 1000)
    (he : ∀ args w, (callFunc f args).run Tryz.prog w = .ok (.enter f args) w)
    (hf : ∀ (x : Lok), x ∈ L → ∀ (w0 : World), w.grownBy w0 v.ownBlock → Calls Tryz.prog f #[rv, .agg #[.int .i64 x.ses, .string x.txt, .bool x.ex, .int .u64 x.tok]] w0 fun e w' => e = .returned (.bool (q x)) ∧ Gr w0 w') :
    Calls Tryz.prog 65 #[v, .func (.func f) #[rv] #[]] w fun e w' => ∃ v', e = .returned v' ∧ w'.ownsRow base 42 4 v' (restL q L).length (rcells encLok (restL q L)) ∧ w.grownBy w' v.ownBlock ∧ From v w v' := by
  have HI := Lib.hid (idxLokB_any q L w h hl he (fun x hx w0 hg => hf x hx w0 ⟨hg.os, hg.tape, hg.output, hg.size, fun k hk _ => Below.block hg k hk⟩))
  have HSP := Lib.hid (fstF_spec q L 0)
  have HF := Lib.hid hf
  obtain ⟨a, cap, rfl, _⟩ := ownsRow_slice h
  have HO := Lib.hid h
  clear h hf
  obtain ⟨fi, hfi⟩ : ∃ fi, fstF q L 0 = fi := ⟨_, rfl⟩
  rw [hfi] at HI HSP
  clear hfi
  go_enter Tryz.func65, Tryz.ntmps65
  go_wp2_with fail
  refine HI.out.mono ?_
  rintro e w1 ⟨rfl, hg1⟩
  rcases HSP.out with ⟨rfl, hno⟩ | ⟨i0, hi0, rfl, _, hup, hlo⟩
  · have HG1 := Lib.hid hg1
    have HNO := Lib.hid hno
    clear hg1 hno
    go_wp2
    go_ret
    have he : restL q L = L := by
      unfold restL
      rw [List.filter_eq_self]
      intro y hy
      obtain ⟨j, hj, rfl⟩ := List.getElem_of_mem hy
      rw [HNO.out j hj (by omega)]; rfl
    rw [he]
    exact ⟨_, rfl, ownsRow_gr HG1.out HO.out, ⟨HG1.out.os, HG1.out.tape, HG1.out.output, HG1.out.size, fun k hk _ => Below.block HG1.out k hk⟩, From.refl _ _⟩
  · have HG1 := Lib.hid hg1
    obtain ⟨g, cap2, _, hve, _⟩ := owns_open HO.out (by omega)
    simp only [Value.slice.injEq, true_and] at hve
    obtain ⟨rfl, rfl⟩ := hve
    have H0 := Lib.hid (show L.take i0 = restL q (L.take (i0 + 1)) by
      unfold restL
      rw [List.take_succ_eq_append_getElem hi0, List.filter_append]
      have h1 : (L.take i0).filter (fun e => !q e) = L.take i0 := by
        rw [List.filter_eq_self]
        intro y hy
        obtain ⟨j, hj, rfl⟩ := List.getElem_of_mem hy
        rw [List.length_take] at hj
        rw [List.getElem_take, hlo j (by omega) (by omega) (by omega)]; rfl
      rw [h1]
      simp [hup])
    clear hg1 hlo hup
    have hne : ((i0 : Int) == -1) = false := beq_eq_false_iff_ne.2 (by omega)
    have HGG := Lib.hid (show w.grownBy w1 (some g) from ⟨HG1.out.os, HG1.out.tape, HG1.out.output, HG1.out.size, fun k hk _ => Below.block HG1.out k hk⟩)
    have HO1 := Lib.hid (ownsRow_gr HG1.out HO.out)
    clear HI HG1 HSP
    go_wp2
    go_loopw [5, 6] (fun u5 u6 wr => ∃ (i j : Nat) (M : List Lok), i < j ∧ j ≤ L.length ∧ M.length = L.length ∧ u5 = .int .i64 (i : Nat) ∧ u6 = .int .i64 (j : Nat) ∧ Hid (wr.ownsRow base 42 4 (.slice (some ⟨g, 0, none⟩) L.length cap) L.length (rcells encLok M)) ∧ Hid (M.take i = restL q (L.take j)) ∧ Hid (M.drop j = L.drop j) ∧ Hid (w.grownBy wr (some g))) (fun u5 u6 _ => L.length - (intOf u6).toNat)
    case atStart => exact ⟨i0, i0 + 1, L, by omega, by omega, rfl, rfl, by go_num, HO1, H0, Lib.hid rfl, HGG⟩
    case round =>
      clear HO1 HGG H0 hne
      obtain ⟨i, j, M, hij, hjl, hML, rfl, rfl, HO2, HT, HD, HG⟩ := hrel
      have HML := Lib.hid hML
      by_cases hlt : j < L.length
      · have hj4 : (j : Int) < (L.length : Int) := by omega
        have hi4 : (i : Int) < (L.length : Int) := by omega
        have hjM : j < M.length := by omega
        have hiM : i < M.length := by omega
        have HMJ := Lib.hid (show M[j] = L[j] by
          have h1 : (M.drop j)[0]? = (L.drop j)[0]? := by rw [HD.out]
          rw [List.getElem?_drop, List.getElem?_drop, Nat.add_zero, List.getElem?_eq_getElem hjM, List.getElem?_eq_getElem hlt] at h1
          exact Option.some.inj h1)
        obtain ⟨d1, d2, d3, d4, _⟩ := lokrow_atM HO2.out hML j hjM
        have HME := Lib.hid (show M[j] ∈ L by rw [HMJ.out]; exact List.getElem_mem hlt)
        have HSN := Lib.hid (rest_snoc q L j hlt)
        rw [← HMJ.out] at HSN
        have HGA := Lib.hid ((Gr.refl wr).alloc (.cells #[.int .i64 M[j].ses, .string M[j].txt, .bool M[j].ex, .int .u64 M[j].tok] 42))
        have HBX := Lib.hid (Blk.new wr #[.int .i64 M[j].ses, .string M[j].txt, .bool M[j].ex, .int .u64 M[j].tok] 42)
        have HC := Lib.hid (HF.out M[j] HME.out _ (grown_trans HG.out (show wr.grownBy _ (some g) from ⟨HGA.out.os, HGA.out.tape, HGA.out.output, HGA.out.size, fun k hk _ => Below.block HGA.out k hk⟩)))
        clear HME
        have HFD := Lib.hid (fun (k : Nat) => show (M.set i M[j]).drop (j + 1) = L.drop (j + 1) by
          rw [List.drop_set_of_lt (by omega), ← List.drop_drop, HD.out, List.drop_drop])
        have HFD2 := Lib.hid (show M.drop (j + 1) = L.drop (j + 1) by rw [← List.drop_drop, HD.out, List.drop_drop])
        have HTS := Lib.hid (take_set M i M[j] hiM)
        clear HMJ hML
        generalize hy : M[j] = y at *
        clear hy
        cases hx : q y with
        | true =>
          have HX := Lib.hid hx
          rw [hx] at HC
          clear hx
          go_wp2_with fail
          refine HC.out.mono ?_
          rintro e w9 ⟨rfl, hg9⟩
          have HG9 := Lib.hid (grown_trans HG.out (show wr.grownBy w9 (some g) from ⟨(HGA.out.trans hg9).os, (HGA.out.trans hg9).tape, (HGA.out.trans hg9).output, (HGA.out.trans hg9).size, fun k hk _ => Below.block (HGA.out.trans hg9) k hk⟩))
          have HO9 := Lib.hid (ownsRow_gr (HGA.out.trans hg9) HO2.out)
          clear hg9 d1 d2 d3 d4
          go_wp2
          go_roundw
          case rel => exact ⟨i, j + 1, M, by omega, by omega, HML.out, rfl, by go_num, HO9, Lib.hid (by rw [HSN.out, HX.out, if_pos rfl, List.append_nil]; exact HT.out), HFD2, HG9⟩
          case measure => simp [intOf]; omega
        | false =>
          have HX := Lib.hid hx
          rw [hx] at HC
          clear hx
          go_wp2_with fail
          refine HC.out.mono ?_
          rintro e w9 ⟨rfl, hg9⟩
          have HG9 := Lib.hid (grown_trans HG.out (show wr.grownBy w9 (some g) from ⟨(HGA.out.trans hg9).os, (HGA.out.trans hg9).tape, (HGA.out.trans hg9).output, (HGA.out.trans hg9).size, fun k hk _ => Below.block (HGA.out.trans hg9) k hk⟩))
          have HO9 := Lib.hid (ownsRow_gr (HGA.out.trans hg9) HO2.out)
          have HB9 := Lib.hid (HBX.out.gr hg9)
          clear hg9 d1 d2 d3 d4
          obtain ⟨e0, e1, e2, e3, hfz⟩ := lokrow_atM HO9.out HML.out i hiM
          have q0 := hfz (i * 4)
          have q1 := hfz (i * 4 + 1)
          have q2 := hfz (i * 4 + 2)
          have q3 := hfz (i * 4 + 3)
          have b0 := HB9.out.cell (i := 0) rfl
          have b1 := HB9.out.cell (i := 1) rfl
          have b2 := HB9.out.cell (i := 2) rfl
          have b3 := HB9.out.cell (i := 3) rfl
          have HST := Lib.hid (stored4 (i := i) y HO9.out HML.out.symm (by have := HML.out; omega))
          have HGZ := Lib.hid (grown_cells4 HG9.out (i * 4) (.int .i64 y.ses) (.string y.txt) (.bool y.ex) (.int .u64 y.tok))
          have HL2 := Lib.hid (show (M.set i y).length = L.length by rw [List.length_set]; exact HML.out)
          clear hfz
          go_wp2
          go_roundw
          case rel => exact ⟨i + 1, j + 1, M.set i y, by omega, by omega, HL2.out, by go_num, by go_num, HST, Lib.hid (by rw [HTS.out, HSN.out, HX.out, if_neg (by decide), HT.out]), Lib.hid (HFD.out 0), HGZ⟩
          case measure => simp [intOf]; omega
      · have hj5 : ¬ (j : Int) < (L.length : Int) := by omega
        obtain rfl : j = L.length := by omega
        obtain ⟨d, hd⟩ : ∃ d, L.length - i = d + 1 := ⟨L.length - i - 1, by omega⟩
        obtain ⟨g', cap', cur, hve, hbg, hglt, hcur, h1, h2, h3, h4, hat, hso, hfz⟩ := owns_open (n := L.length) HO2.out (by omega)
        simp only [Value.slice.injEq, Option.some.injEq, Addr.mk.injEq, and_true, true_and] at hve
        obtain ⟨rfl, rfl⟩ := hve
        obtain ⟨ZL, hZL⟩ : ∃ ZL, (Builtin.zeroCells (Value.agg #[.int .i64 0, .string ⟨#[]⟩, .bool false, .int .u64 0]).cells (d + 1)).toList = ZL := ⟨_, rfl⟩
        have hZl : ZL.length = (d + 1) * 4 := by rw [← hZL, Array.length_toList, size_zeroCells]; rfl
        have hclr : ∀ ty, (Builtin.clear_ #[37] ty #[.slice (some ⟨g, i * 4, none⟩) (L.length - i) (cap - i)]).run Tryz.prog wr = .ok (.tuple #[]) (wr.setCells g (i * 4) ZL) := fun ty => by
          rw [hd]
          exact run_clear_k _ _ _ ty _ Tryz.underlying37 zeroValue_Lok d ZL hZL (by rw [← hZL]; exact zeroCells_one (by intro v hv; simp [Value.cells] at hv; rcases hv with rfl | rfl | rfl | rfl <;> rfl) (by decide)) g _ _ (fun j hj => hso _ (by omega)) (fun j hj => hfz _)
        have HCL := Lib.hid (cleared (i := i) HO2.out HML.out (by omega) ZL)
        have HGE := Lib.hid (grown_trans HG.out (grown_cells g ZL (i * 4) wr))
        have HTE := Lib.hid (show M.take i = restL q L by rw [HT.out, List.take_length])
        have HLE := Lib.hid (show (restL q L).length = i by rw [← HTE.out, List.length_take, HML.out]; omega)
        have hci : ¬ cap = i := by omega
        have hic : i ≤ cap := by omega
        have hil : i ≤ L.length := by omega
        clear hZL hZl hso hfz hat hcur h3 h4 hd
        go_wp2_with (simp only [hclr])
        go_ret
        refine ⟨_, rfl, ?_, HGE.out, fun k e => .inl e⟩
        rw [HLE.out, ← HTE.out]
        exact HCL.out
set_option maxRecDepth 1000000 in
set_option maxHeartbeats 2000000 in
theorem delLokC_any {base f : Nat} {p : Nat} {v : Value} (q : Lok → Bool) (L : List Lok) (w : World) (h : w.ownsRow base 42 4 v L.length (rcells encLok L)) (hl : L.length ≤ 1000)
    (he : ∀ args w, (callFunc f args).run Tryz.prog w = .ok (.enter f args) w)
    (hf : ∀ (x : Lok), x ∈ L → ∀ (w0 : World), w.grownBy w0 v.ownBlock → Calls Tryz.prog f #[.agg #[.int .i64 x.ses, .string x.txt, .bool x.ex, .int .u64 x.tok], .pointer (some ⟨p, 0, none⟩)] w0 fun e w' => e = .returned (.bool (q x)) ∧ Gr w0 w') :
    Calls Tryz.prog 65 #[v, .func (.func f) #[] #[.pointer (some ⟨p, 0, none⟩)]] w fun e w' => ∃ v', e = .returned v' ∧ w'.ownsRow base 42 4 v' (restL q L).length (rcells encLok (restL q L)) ∧ w.grownBy w' v.ownBlock ∧ From v w v' := by
  have HI := Lib.hid (idxLokC_any q L w h hl he (fun x hx w0 hg => hf x hx w0 ⟨hg.os, hg.tape, hg.output, hg.size, fun k hk _ => Below.block hg k hk⟩))
  have HSP := Lib.hid (fstF_spec q L 0)
  have HF := Lib.hid hf
  obtain ⟨a, cap, rfl, _⟩ := ownsRow_slice h
  have HO := Lib.hid h
  clear h hf
  obtain ⟨fi, hfi⟩ : ∃ fi, fstF q L 0 = fi := ⟨_, rfl⟩
  rw [hfi] at HI HSP
  clear hfi
  go_enter Tryz.func65, Tryz.ntmps65
  go_wp2_with fail
  refine HI.out.mono ?_
  rintro e w1 ⟨rfl, hg1⟩
  rcases HSP.out with ⟨rfl, hno⟩ | ⟨i0, hi0, rfl, _, hup, hlo⟩
  · have HG1 := Lib.hid hg1
    have HNO := Lib.hid hno
    clear hg1 hno
    go_wp2
    go_ret
    have he : restL q L = L := by
      unfold restL
      rw [List.filter_eq_self]
      intro y hy
      obtain ⟨j, hj, rfl⟩ := List.getElem_of_mem hy
      rw [HNO.out j hj (by omega)]; rfl
    rw [he]
    exact ⟨_, rfl, ownsRow_gr HG1.out HO.out, ⟨HG1.out.os, HG1.out.tape, HG1.out.output, HG1.out.size, fun k hk _ => Below.block HG1.out k hk⟩, From.refl _ _⟩
  · have HG1 := Lib.hid hg1
    obtain ⟨g, cap2, _, hve, _⟩ := owns_open HO.out (by omega)
    simp only [Value.slice.injEq, true_and] at hve
    obtain ⟨rfl, rfl⟩ := hve
    have H0 := Lib.hid (show L.take i0 = restL q (L.take (i0 + 1)) by
      unfold restL
      rw [List.take_succ_eq_append_getElem hi0, List.filter_append]
      have h1 : (L.take i0).filter (fun e => !q e) = L.take i0 := by
        rw [List.filter_eq_self]
        intro y hy
        obtain ⟨j, hj, rfl⟩ := List.getElem_of_mem hy
        rw [List.length_take] at hj
        rw [List.getElem_take, hlo j (by omega) (by omega) (by omega)]; rfl
      rw [h1]
      simp [hup])
    clear hg1 hlo hup
    have hne : ((i0 : Int) == -1) = false := beq_eq_false_iff_ne.2 (by omega)
    have HGG := Lib.hid (show w.grownBy w1 (some g) from ⟨HG1.out.os, HG1.out.tape, HG1.out.output, HG1.out.size, fun k hk _ => Below.block HG1.out k hk⟩)
    have HO1 := Lib.hid (ownsRow_gr HG1.out HO.out)
    clear HI HG1 HSP
    go_wp2
    go_loopw [5, 6] (fun u5 u6 wr => ∃ (i j : Nat) (M : List Lok), i < j ∧ j ≤ L.length ∧ M.length = L.length ∧ u5 = .int .i64 (i : Nat) ∧ u6 = .int .i64 (j : Nat) ∧ Hid (wr.ownsRow base 42 4 (.slice (some ⟨g, 0, none⟩) L.length cap) L.length (rcells encLok M)) ∧ Hid (M.take i = restL q (L.take j)) ∧ Hid (M.drop j = L.drop j) ∧ Hid (w.grownBy wr (some g))) (fun u5 u6 _ => L.length - (intOf u6).toNat)
    case atStart => exact ⟨i0, i0 + 1, L, by omega, by omega, rfl, rfl, by go_num, HO1, H0, Lib.hid rfl, HGG⟩
    case round =>
      clear HO1 HGG H0 hne
      obtain ⟨i, j, M, hij, hjl, hML, rfl, rfl, HO2, HT, HD, HG⟩ := hrel
      have HML := Lib.hid hML
      by_cases hlt : j < L.length
      · have hj4 : (j : Int) < (L.length : Int) := by omega
        have hi4 : (i : Int) < (L.length : Int) := by omega
        have hjM : j < M.length := by omega
        have hiM : i < M.length := by omega
        have HMJ := Lib.hid (show M[j] = L[j] by
          have h1 : (M.drop j)[0]? = (L.drop j)[0]? := by rw [HD.out]
          rw [List.getElem?_drop, List.getElem?_drop, Nat.add_zero, List.getElem?_eq_getElem hjM, List.getElem?_eq_getElem hlt] at h1
          exact Option.some.inj h1)
        obtain ⟨d1, d2, d3, d4, _⟩ := lokrow_atM HO2.out hML j hjM
        have HME := Lib.hid (show M[j] ∈ L by rw [HMJ.out]; exact List.getElem_mem hlt)
        have HSN := Lib.hid (rest_snoc q L j hlt)
        rw [← HMJ.out] at HSN
        have HGA := Lib.hid ((Gr.refl wr).alloc (.cells #[.int .i64 M[j].ses, .string M[j].txt, .bool M[j].ex, .int .u64 M[j].tok] 42))
        have HBX := Lib.hid (Blk.new wr #[.int .i64 M[j].ses, .string M[j].txt, .bool M[j].ex, .int .u64 M[j].tok] 42)
        have HC := Lib.hid (HF.out M[j] HME.out _ (grown_trans HG.out (show wr.grownBy _ (some g) from ⟨HGA.out.os, HGA.out.tape, HGA.out.output, HGA.out.size, fun k hk _ => Below.block HGA.out k hk⟩)))
        clear HME
        have HFD := Lib.hid (fun (k : Nat) => show (M.set i M[j]).drop (j + 1) = L.drop (j + 1) by
          rw [List.drop_set_of_lt (by omega), ← List.drop_drop, HD.out, List.drop_drop])
        have HFD2 := Lib.hid (show M.drop (j + 1) = L.drop (j + 1) by rw [← List.drop_drop, HD.out, List.drop_drop])
        have HTS := Lib.hid (take_set M i M[j] hiM)
        clear HMJ hML
        generalize hy : M[j] = y at *
        clear hy
        cases hx : q y with
        | true =>
          have HX := Lib.hid hx
          rw [hx] at HC
          clear hx
          go_wp2_with fail
          refine HC.out.mono ?_
          rintro e w9 ⟨rfl, hg9⟩
          have HG9 := Lib.hid (grown_trans HG.out (show wr.grownBy w9 (some g) from ⟨(HGA.out.trans hg9).os, (HGA.out.trans hg9).tape, (HGA.out.trans hg9).output, (HGA.out.trans hg9).size, fun k hk _ => Below.block (HGA.out.trans hg9) k hk⟩))
          have HO9 := Lib.hid (ownsRow_gr (HGA.out.trans hg9) HO2.out)
          clear hg9 d1 d2 d3 d4
          go_wp2
          go_roundw
          case rel => exact ⟨i, j + 1, M, by omega, by omega, HML.out, rfl, by go_num, HO9, Lib.hid (by rw [HSN.out, HX.out, if_pos rfl, List.append_nil]; exact HT.out), HFD2, HG9⟩
          case measure => simp [intOf]; omega
        | false =>
          have HX := Lib.hid hx
          rw [hx] at HC
          clear hx
          go_wp2_with fail
          refine HC.out.mono ?_
          rintro e w9 ⟨rfl, hg9⟩
          have HG9 := Lib.hid (grown_trans HG.out (show wr.grownBy w9 (some g) from ⟨(HGA.out.trans hg9).os, (HGA.out.trans hg9).tape, (HGA.out.trans hg9).output, (HGA.out.trans hg9).size, fun k hk _ => Below.block (HGA.out.trans hg9) k hk⟩))
          have HO9 := Lib.hid (ownsRow_gr (HGA.out.trans hg9) HO2.out)
          have HB9 := Lib.hid (HBX.out.gr hg9)
          clear hg9 d1 d2 d3 d4
          obtain ⟨e0, e1, e2, e3, hfz⟩ := lokrow_atM HO9.out HML.out i hiM
          have q0 := hfz (i * 4)
          have q1 := hfz (i * 4 + 1)
          have q2 := hfz (i * 4 + 2)
          have q3 := hfz (i * 4 + 3)
          have b0 := HB9.out.cell (i := 0) rfl
          have b1 := HB9.out.cell (i := 1) rfl
          have b2 := HB9.out.cell (i := 2) rfl
          have b3 := HB9.out.cell (i := 3) rfl
          have HST := Lib.hid (stored4 (i := i) y HO9.out HML.out.symm (by have := HML.out; omega))
          have HGZ := Lib.hid (grown_cells4 HG9.out (i * 4) (.int .i64 y.ses) (.string y.txt) (.bool y.ex) (.int .u64 y.tok))
          have HL2 := Lib.hid (show (M.set i y).length = L.length by rw [List.length_set]; exact HML.out)
          clear hfz
          go_wp2
          go_roundw
          case rel => exact ⟨i + 1, j + 1, M.set i y, by omega, by omega, HL2.out, by go_num, by go_num, HST, Lib.hid (by rw [HTS.out, HSN.out, HX.out, if_neg (by decide), HT.out]), Lib.hid (HFD.out 0), HGZ⟩
          case measure => simp [intOf]; omega
      · have hj5 : ¬ (j : Int) < (L.length : Int) := by omega
        obtain rfl : j = L.length := by omega
        obtain ⟨d, hd⟩ : ∃ d, L.length - i = d + 1 := ⟨L.length - i - 1, by omega⟩
        obtain ⟨g', cap', cur, hve, hbg, hglt, hcur, h1, h2, h3, h4, hat, hso, hfz⟩ := owns_open (n := L.length) HO2.out (by omega)
        simp only [Value.slice.injEq, Option.some.injEq, Addr.mk.injEq, and_true, true_and] at hve
        obtain ⟨rfl, rfl⟩ := hve
        obtain ⟨ZL, hZL⟩ : ∃ ZL, (Builtin.zeroCells (Value.agg #[.int .i64 0, .string ⟨#[]⟩, .bool false, .int .u64 0]).cells (d + 1)).toList = ZL := ⟨_, rfl⟩
        have hZl : ZL.length = (d + 1) * 4 := by rw [← hZL, Array.length_toList, size_zeroCells]; rfl
        have hclr : ∀ ty, (Builtin.clear_ #[37] ty #[.slice (some ⟨g, i * 4, none⟩) (L.length - i) (cap - i)]).run Tryz.prog wr = .ok (.tuple #[]) (wr.setCells g (i * 4) ZL) := fun ty => by
          rw [hd]
          exact run_clear_k _ _ _ ty _ Tryz.underlying37 zeroValue_Lok d ZL hZL (by rw [← hZL]; exact zeroCells_one (by intro v hv; simp [Value.cells] at hv; rcases hv with rfl | rfl | rfl | rfl <;> rfl) (by decide)) g _ _ (fun j hj => hso _ (by omega)) (fun j hj => hfz _)
        have HCL := Lib.hid (cleared (i := i) HO2.out HML.out (by omega) ZL)
        have HGE := Lib.hid (grown_trans HG.out (grown_cells g ZL (i * 4) wr))
        have HTE := Lib.hid (show M.take i = restL q L by rw [HT.out, List.take_length])
        have HLE := Lib.hid (show (restL q L).length = i by rw [← HTE.out, List.length_take, HML.out]; omega)
        have hci : ¬ cap = i := by omega
        have hic : i ≤ cap := by omega
        have hil : i ≤ L.length := by omega
        clear hZL hZl hso hfz hat hcur h3 h4 hd
        go_wp2_with (simp only [hclr])
        go_ret
        refine ⟨_, rfl, ?_, HGE.out, fun k e => .inl e⟩
        rw [HLE.out, ← HTE.out]
        exact HCL.out
end Go.Proofs.YtmgpnpmdmelnkaaGreatDoor
