import Derived.Test.YtnanclgnjchpeaaF16l
import Derived.Test.YtnanclgnjchpeaaF16y
import Derived.WalkKit
import Derived.ProofKit
import Derived.LoopTactic
import Derived.Outline
import Derived.WalkSpells
import Derived.WalkLawsBesides
import Derived.Lib.Hide
import Derived.Deep.LoopGhost
import Derived.Deep.QuietTactic
import Derived.BigQuiet
import Derived.ShutString
import Derived.IntWalk
import Derived.BigQuiet
import Derived.Laws.OwnMore
namespace Go.Proofs.Ytnanclgnjchpeaa
open Go.ChangeShapes Go.WideShapes Go.ChangeAt Go.RowKit
open Bal
set_option linter.unusedVariables false
set_option linter.unusedSimpArgs false
/-- The closure that find hands on. -/
theorem lcmp_any (s c n x : Int) (t : ByteArray) (w : World) :
    Calls Try.prog 126 #[.agg #[.int .i64 s, .int .u64 c, .int .i64 n, .string t], .int .i64 x] w fun e w' => e = .returned (.int .i64 (cmpI s x)) ∧ Gr w w' := by
  have HC := Lib.hid (fun w => cmpInt_any s x w)
  generalize cmpI s x = z at *
  go_enter Try.func126, Try.ntmps126
  go_wp2_with fail
  refine (HC.out _).mono ?_
  rintro e w1 ⟨rfl, rfl⟩
  go_wp2
  go_ret
  exact ⟨rfl, (Gr.refl _).alloc _⟩
set_option maxRecDepth 100000 in
set_option maxHeartbeats 2000000 in
theorem lbsE_any {base : Nat} {v : Value} (x : Int) (L : List E) (w : World) (h : w.ownsRow base 44 4 v L.length (rcells encE L)) (hl : L.length ≤ 1000) (ha : Asc L) :
    Calls Try.prog 125 #[v, .int .i64 x, .func (.func 126) #[] #[]] w fun e w' => ∃ (i : Nat) (fd : Bool), e = .returned (.tuple #[.int .i64 i, .bool fd]) ∧ i ≤ L.length ∧ Cut16 L x i i ∧ (fd = true ↔ ∃ h : i < L.length, L[i].slot = x) ∧ Gr w w' := by
  obtain ⟨a, c, rfl, _⟩ := ownsRow_slice h
  have HS := Lib.hid fun k hk => erow_at h k hk
  have HM := Lib.hid ha
  clear ha h
  go_enter Try.func125, Try.ntmps125
  go_wp2_with fail
  go_loopw [9, 10] (fun u1 u2 wr => ∃ i j : Nat, i ≤ j ∧ j ≤ L.length ∧ u1 = .int .i64 i ∧ u2 = .int .i64 j ∧ Hid (Cut16 L x i j) ∧ Hid (Gr w wr)) (fun u1 u2 _ => (intOf u2).toNat - (intOf u1).toNat)
  case atStart => exact ⟨0, L.length, by omega, by omega, rfl, rfl, Lib.hid ⟨fun p _ h => by omega, fun p h h2 => by omega⟩, Lib.hid (Gr.refl _)⟩
  case round =>
    obtain ⟨i, j, hij, hjl, rfl, rfl, hP, hG⟩ := hrel
    by_cases hlt : i < j
    · have hml : (i + j) / 2 < L.length := by omega
      obtain ⟨g, cap, hv, hc1, hc2, hc3, hc4⟩ := HS.out ((i + j) / 2) hml
      simp only [Value.slice.injEq, true_and] at hv
      obtain ⟨rfl, rfl⟩ := hv
      have hd1 := hG.out.cell hc1
      have hd2 := hG.out.cell hc2
      have hd3 := hG.out.cell hc3
      have hd4 := hG.out.cell hc4
      clear hc1 hc2 hc3 hc4
      have hmi : (((i + j) / 2 : Nat) : Int) = ((i : Int) + (j : Int)) / 2 := by omega
      have hmn : 0 ≤ ((i : Int) + (j : Int)) / 2 := by omega
      have htn : (((i : Int) + (j : Int)) / 2).toNat = (i + j) / 2 := by omega
      have hml2 : ((i : Int) + (j : Int)) / 2 < (L.length : Int) := by omega
      by_cases hneg : L[(i + j) / 2].slot < x
      · have HQ2 := Lib.hid (cut_up HM.out hP.out hml hneg)
        have hng := (cmpI_neg _ _).2 hneg
        have HF := Lib.hid (fun w => lcmp_any L[(i + j) / 2].slot L[(i + j) / 2].c L[(i + j) / 2].n x L[(i + j) / 2].text w)
        generalize cmpI L[(i + j) / 2].slot x = z at *
        generalize L[(i + j) / 2] = y at *
        clear hP
        go_wp2_with fail
        refine (HF.out _).mono ?_
        rintro e w9 ⟨rfl, hg9⟩
        have HG9 := Lib.hid (hG.out.trans hg9)
        clear hg9 hd1 hd2 hd3 hd4
        go_wp2
        go_roundw
        case rel => exact ⟨(i + j) / 2 + 1, j, by omega, hjl, by rw [← hmi]; go_num, rfl, HQ2, HG9⟩
        case measure => simp [intOf]; omega
      · have HQ2 := Lib.hid (cut_down HM.out hP.out hml hneg)
        have hng : ¬ cmpI L[(i + j) / 2].slot x < 0 := fun e => hneg ((cmpI_neg _ _).1 e)
        have HF := Lib.hid (fun w => lcmp_any L[(i + j) / 2].slot L[(i + j) / 2].c L[(i + j) / 2].n x L[(i + j) / 2].text w)
        generalize cmpI L[(i + j) / 2].slot x = z at *
        generalize L[(i + j) / 2] = y at *
        clear hP
        go_wp2_with fail
        refine (HF.out _).mono ?_
        rintro e w9 ⟨rfl, hg9⟩
        have HG9 := Lib.hid (hG.out.trans hg9)
        clear hg9 hd1 hd2 hd3 hd4
        go_wp2
        go_roundw
        case rel => exact ⟨i, (i + j) / 2, by omega, by omega, rfl, by rw [hmi], HQ2, HG9⟩
        case measure => simp [intOf]; omega
    · obtain rfl : i = j := by omega
      by_cases hn : i < L.length
      · obtain ⟨g, cap, hv, hc1, hc2, hc3, hc4⟩ := HS.out i hn
        simp only [Value.slice.injEq, true_and] at hv
        obtain ⟨rfl, rfl⟩ := hv
        have hd1 := hG.out.cell hc1
        have hd2 := hG.out.cell hc2
        have hd3 := hG.out.cell hc3
        have hd4 := hG.out.cell hc4
        clear hc1 hc2 hc3 hc4
        have hn2 : (i : Int) < (L.length : Int) := by omega
        have HFD : Hid (decide (cmpI L[i].slot x = 0) = true ↔ ∃ h : i < L.length, L[i].slot = x) := Lib.hid ⟨fun e => ⟨hn, (cmpI_zero _ _).1 (of_decide_eq_true e)⟩, fun ⟨_, e⟩ => decide_eq_true ((cmpI_zero _ _).2 e)⟩
        have HF := Lib.hid (fun w => lcmp_any L[i].slot L[i].c L[i].n x L[i].text w)
        generalize cmpI L[i].slot x = z at *
        generalize L[i] = y at *
        go_wp2_with fail
        refine (HF.out _).mono ?_
        rintro e w9 ⟨rfl, hg9⟩
        have HG9 := Lib.hid (hG.out.trans hg9)
        clear hg9 hd1 hd2 hd3 hd4
        go_wp2
        refine bodyPost_ret (v := .tuple #[.int .i64 (i : Nat), .bool (decide (z = 0))]) (by simp [results, Try.results125, go_sem]; try rfl) rfl ?_
        exact ⟨i, decide (z = 0), rfl, by omega, hP.out, HFD.out, HG9.out⟩
      · have hn2 : ¬ (i : Int) < (L.length : Int) := by omega
        go_wp2
        refine bodyPost_ret (v := .tuple #[.int .i64 (i : Nat), .bool false]) (by simp [results, Try.results125, go_sem]; try rfl) rfl ?_
        exact ⟨i, Or.inl ⟨rfl, by omega, hP.out, fun h => absurd h hn, hG.out⟩⟩
theorem forget1_any (s c n x : Int) (t : ByteArray) (p : Nat) (w : World) (h : w.cell? ⟨p, 0, none⟩ = some (.int .i64 x)) :
    Calls Try.prog 132 #[.agg #[.int .i64 s, .int .u64 c, .int .i64 n, .string t], .pointer (some ⟨p, 0, none⟩)] w fun e w' => e = .returned (.bool (decide (s ≤ x))) ∧ Gr w w' := by
  have c0 := ((Gr.refl w).alloc (.cells #[.int .i64 s, .int .u64 c, .int .i64 n, .string t] 44)).cell h
  clear h
  by_cases hx : s ≤ x
  · rw [decide_eq_true hx]
    go_enter Try.func132, Try.ntmps132
    go_wp2
    go_ret
    exact ⟨by first | rfl | simp [hx], (Gr.refl _).alloc _⟩
  · rw [decide_eq_false hx]
    go_enter Try.func132, Try.ntmps132
    go_wp2
    go_ret
    exact ⟨by first | rfl | simp [hx], (Gr.refl _).alloc _⟩
set_option maxRecDepth 100000 in
set_option maxHeartbeats 2000000 in
/-- The first that is up to x. -/
theorem lidxE_any {base p : Nat} {v : Value} (x : Int) (L : List E) (w : World) (h : w.ownsRow base 44 4 v L.length (rcells encE L)) (hp : w.cell? ⟨p, 0, none⟩ = some (.int .i64 x)) (hl : L.length ≤ 1000) :
    Calls Try.prog 176 #[v, .func (.func 132) #[] #[.pointer (some ⟨p, 0, none⟩)]] w fun e w' => Gr w w' ∧ ((e = .returned (.int .i64 (-1)) ∧ ∀ y ∈ L, x < y.slot) ∨ ∃ i : Nat, e = .returned (.int .i64 i) ∧ i < L.length ∧ (∀ j (hj : j < L.length), j < i → x < L[j].slot) ∧ ∀ hi : i < L.length, L[i].slot ≤ x) := by
  obtain ⟨a, c, rfl, _⟩ := ownsRow_slice h
  have HS := Lib.hid fun k hk => erow_at h k hk
  have HP := Lib.hid hp
  clear h hp
  go_enter Try.func176, Try.ntmps176
  go_wp2
  go_loopw [8] (fun u1 wr => ∃ k : Nat, k ≤ L.length ∧ u1 = .int .i64 (k : Nat) ∧ Hid (∀ j (hj : j < L.length), j < k → x < L[j].slot) ∧ Hid (Gr w wr)) (fun u1 _ => L.length - (intOf u1).toNat)
  case atStart => exact ⟨0, by omega, rfl, Lib.hid (fun j _ hj => absurd hj (by omega)), Lib.hid (Gr.refl _)⟩
  case round =>
    obtain ⟨k, hk, rfl, HN, HG⟩ := hrel
    by_cases hlt : k < L.length
    · have hk4 : (k : Int) < (L.length : Int) := by omega
      obtain ⟨g, cap, hv, hc1, hc2, hc3, hc4⟩ := HS.out k hlt
      simp only [Value.slice.injEq, true_and] at hv
      obtain ⟨rfl, rfl⟩ := hv
      have d1 := HG.out.cell hc1
      have d2 := HG.out.cell hc2
      have d3 := HG.out.cell hc3
      have d4 := HG.out.cell hc4
      clear hc1 hc2 hc3 hc4
      have HC := Lib.hid (forget1_any L[k].slot L[k].c L[k].n x L[k].text p wr (HG.out.cell HP.out))
      have HK := Lib.hid (rfl : L[k].slot = L[k].slot)
      generalize hy : L[k] = y at *
      have HY := Lib.hid hy
      clear hy
      by_cases hx : y.slot ≤ x
      · have HX := Lib.hid hx
        rw [decide_eq_true hx] at HC
        clear hx
        go_wp2_with fail
        refine HC.out.mono ?_
        rintro e w9 ⟨rfl, hg9⟩
        have HG9 := Lib.hid (HG.out.trans hg9)
        clear hg9 d1 d2 d3 d4
        go_wp2
        go_ret
        exact ⟨HG9.out, .inr ⟨k, rfl, hlt, HN.out, fun _ => by rw [HY.out]; exact HX.out⟩⟩
      · have HX := Lib.hid (Int.not_le.1 hx)
        rw [decide_eq_false hx] at HC
        clear hx
        go_wp2_with fail
        refine HC.out.mono ?_
        rintro e w9 ⟨rfl, hg9⟩
        have HG9 := Lib.hid (HG.out.trans hg9)
        clear hg9 d1 d2 d3 d4
        go_wp2
        go_roundw
        case rel => exact ⟨k + 1, by omega, by go_num, Lib.hid (fun j hj hjk => by
          by_cases e : j = k
          · subst e; rw [HY.out]; exact HX.out
          · exact HN.out j hj (by omega)), HG9⟩
        case measure => simp [intOf]; omega
    · have hk5 : ¬ (k : Int) < (L.length : Int) := by omega
      go_wp2
      go_ret
      refine ⟨HG.out, .inl ⟨rfl, fun y hy => ?_⟩⟩
      obtain ⟨j, hj, rfl⟩ := List.getElem_of_mem hy
      exact HN.out j hj (by omega)
set_option maxRecDepth 1000000 in
set_option maxHeartbeats 2000000 in
theorem ldelE_any {base p : Nat} {v : Value} (x : Int) (L : List E) (w : World) (h : w.ownsRow base 44 4 v L.length (rcells encE L)) (hp : w.cell? ⟨p, 0, none⟩ = some (.int .i64 x)) (hpv : v.ownBlock ≠ some p) (hl : L.length ≤ 1000) :
    Calls Try.prog 131 #[v, .func (.func 132) #[] #[.pointer (some ⟨p, 0, none⟩)]] w fun e w' => ∃ v', e = .returned v' ∧ w'.ownsRow base 44 4 v' (hiE L x).length (rcells encE (hiE L x)) ∧ w.grownBy w' v.ownBlock ∧ From v w v' := by
  have HI := Lib.hid (lidxE_any x L w h hp hl)
  obtain ⟨a, cap, rfl, _⟩ := ownsRow_slice h
  have HO := Lib.hid h
  have HP := Lib.hid hp
  have HPV := Lib.hid hpv
  clear h hp hpv
  go_enter Try.func131, Try.ntmps131
  go_wp2_with fail
  refine HI.out.mono ?_
  rintro e w1 ⟨hg1, ⟨rfl, hno⟩ | ⟨i0, rfl, hi0, hlo, hup⟩⟩
  · have HG1 := Lib.hid hg1
    have HNO := Lib.hid hno
    clear hg1 hno
    go_wp2
    go_ret
    have he : hiE L x = L := by
      unfold hiE
      rw [List.filter_eq_self]
      exact fun y hy => decide_eq_true (HNO.out y hy)
    rw [he]
    exact ⟨_, rfl, ownsRow_gr HG1.out HO.out, ⟨HG1.out.os, HG1.out.tape, HG1.out.output, HG1.out.size, fun k hk _ => Below.block HG1.out k hk⟩, From.refl _ _⟩
  · have HG1 := Lib.hid hg1
    have hup := hup hi0
    obtain ⟨g, cap2, _, hve, _⟩ := owns_open HO.out (by omega)
    simp only [Value.slice.injEq, true_and] at hve
    obtain ⟨rfl, rfl⟩ := hve
    have HPG := Lib.hid (show p ≠ g from fun e => HPV.out (by rw [e]; rfl))
    have H0 := Lib.hid (show L.take i0 = hiE (L.take (i0 + 1)) x by
      unfold hiE
      rw [List.take_succ_eq_append_getElem hi0, List.filter_append]
      have h1 : (L.take i0).filter (fun e => decide (x < e.slot)) = L.take i0 := by
        rw [List.filter_eq_self]
        intro y hy
        obtain ⟨j, hj, rfl⟩ := List.getElem_of_mem hy
        rw [List.length_take] at hj
        rw [List.getElem_take]
        exact decide_eq_true (hlo j (by omega) (by omega))
      rw [h1]
      simp [Int.not_lt.2 hup])
    clear hg1 hlo hup
    have hne : ((i0 : Int) == -1) = false := beq_eq_false_iff_ne.2 (by omega)
    have HGG := Lib.hid (show w.grownBy w1 (some g) from ⟨HG1.out.os, HG1.out.tape, HG1.out.output, HG1.out.size, fun k hk _ => Below.block HG1.out k hk⟩)
    have HO1 := Lib.hid (ownsRow_gr HG1.out HO.out)
    have hpl := Lib.hid (cell_lt HP.out)
    clear HI HG1
    go_wp2
    go_loopw [5, 6] (fun u5 u6 wr => ∃ (i j : Nat) (M : List E), i < j ∧ j ≤ L.length ∧ M.length = L.length ∧ u5 = .int .i64 (i : Nat) ∧ u6 = .int .i64 (j : Nat) ∧ Hid (wr.ownsRow base 44 4 (.slice (some ⟨g, 0, none⟩) L.length cap) L.length (rcells encE M)) ∧ Hid (M.take i = hiE (L.take j) x) ∧ Hid (M.drop j = L.drop j) ∧ Hid (w.grownBy wr (some g))) (fun u5 u6 _ => L.length - (intOf u6).toNat)
    case atStart => exact ⟨i0, i0 + 1, L, by omega, by omega, rfl, rfl, by go_num, HO1, H0, Lib.hid rfl, HGG⟩
    case round =>
      clear HO1 HGG H0 hne
      obtain ⟨i, j, M, hij, hjl, hML, rfl, rfl, HO2, HT, HD, HG⟩ := hrel
      have HML := Lib.hid hML
      by_cases hlt : j < L.length
      · have hj4 : (j : Int) < (L.length : Int) := by omega
        have hi4 : (i : Int) < (L.length : Int) := by omega
        have hjM : j < M.length := by omega
        have hiM : i < M.length := by omega
        have HMJ := Lib.hid (show M[j] = L[j] by
          have h1 : (M.drop j)[0]? = (L.drop j)[0]? := by rw [HD.out]
          rw [List.getElem?_drop, List.getElem?_drop, Nat.add_zero, List.getElem?_eq_getElem hjM, List.getElem?_eq_getElem hlt] at h1
          exact Option.some.inj h1)
        obtain ⟨d1, d2, d3, d4, _⟩ := erow_atM HO2.out hML j hjM
        have HPW := Lib.hid (show wr.cell? ⟨p, 0, none⟩ = some (.int .i64 x) from (World.cell?_of_block (w := w) (a := ⟨p, 0, none⟩) (HG.out.block p hpl.out (fun e => HPG.out (Option.some.inj e)))).trans HP.out)
        have HSN := Lib.hid (hi_snoc L x j hlt)
        rw [← HMJ.out] at HSN
        have HGA := Lib.hid ((Gr.refl wr).alloc (.cells #[.int .i64 M[j].slot, .int .u64 M[j].c, .int .i64 M[j].n, .string M[j].text] 44))
        have HBX := Lib.hid (Blk.new wr #[.int .i64 M[j].slot, .int .u64 M[j].c, .int .i64 M[j].n, .string M[j].text] 44)
        have HC := Lib.hid (forget1_any M[j].slot M[j].c M[j].n x M[j].text p _ (HGA.out.cell HPW.out))
        have HFD := Lib.hid (fun (k : Nat) => show (M.set i M[j]).drop (j + 1) = L.drop (j + 1) by
          rw [List.drop_set_of_lt (by omega), ← List.drop_drop, HD.out, List.drop_drop])
        have HFD2 := Lib.hid (show M.drop (j + 1) = L.drop (j + 1) by rw [← List.drop_drop, HD.out, List.drop_drop])
        have HTS := Lib.hid (take_set M i M[j] hiM)
        clear HMJ hML
        generalize hy : M[j] = y at *
        clear hy
        by_cases hx : y.slot ≤ x
        · have HX := Lib.hid hx
          rw [decide_eq_true hx] at HC
          clear hx
          go_wp2_with fail
          refine HC.out.mono ?_
          rintro e w9 ⟨rfl, hg9⟩
          have HG9 := Lib.hid (grown_trans HG.out (show wr.grownBy w9 (some g) from ⟨(HGA.out.trans hg9).os, (HGA.out.trans hg9).tape, (HGA.out.trans hg9).output, (HGA.out.trans hg9).size, fun k hk _ => Below.block (HGA.out.trans hg9) k hk⟩))
          have HO9 := Lib.hid (ownsRow_gr (HGA.out.trans hg9) HO2.out)
          clear hg9 d1 d2 d3 d4
          go_wp2
          go_roundw
          case rel => exact ⟨i, j + 1, M, by omega, by omega, HML.out, rfl, by go_num, HO9, Lib.hid (by rw [HSN.out, if_neg (Int.not_lt.2 HX.out), List.append_nil]; exact HT.out), HFD2, HG9⟩
          case measure => simp [intOf]; omega
        · have HX := Lib.hid (Int.not_le.1 hx)
          rw [decide_eq_false hx] at HC
          clear hx
          go_wp2_with fail
          refine HC.out.mono ?_
          rintro e w9 ⟨rfl, hg9⟩
          have HG9 := Lib.hid (grown_trans HG.out (show wr.grownBy w9 (some g) from ⟨(HGA.out.trans hg9).os, (HGA.out.trans hg9).tape, (HGA.out.trans hg9).output, (HGA.out.trans hg9).size, fun k hk _ => Below.block (HGA.out.trans hg9) k hk⟩))
          have HO9 := Lib.hid (ownsRow_gr (HGA.out.trans hg9) HO2.out)
          have HB9 := Lib.hid (HBX.out.gr hg9)
          clear hg9 d1 d2 d3 d4
          obtain ⟨e0, e1, e2, e3, hfz⟩ := erow_atM HO9.out HML.out i hiM
          have q0 := hfz (i * 4)
          have q1 := hfz (i * 4 + 1)
          have q2 := hfz (i * 4 + 2)
          have q3 := hfz (i * 4 + 3)
          have b0 := HB9.out.cell (i := 0) rfl
          have b1 := HB9.out.cell (i := 1) rfl
          have b2 := HB9.out.cell (i := 2) rfl
          have b3 := HB9.out.cell (i := 3) rfl
          have HST := Lib.hid (stored4 (i := i) y HO9.out HML.out.symm (by have := HML.out; omega))
          have HGZ := Lib.hid (grown_cells4 HG9.out (i * 4) (.int .i64 y.slot) (.int .u64 y.c) (.int .i64 y.n) (.string y.text))
          have HL2 := Lib.hid (show (M.set i y).length = L.length by rw [List.length_set]; exact HML.out)
          clear hfz
          go_wp2
          go_roundw
          case rel => exact ⟨i + 1, j + 1, M.set i y, by omega, by omega, HL2.out, by go_num, by go_num, HST, Lib.hid (by rw [HTS.out, HSN.out, if_pos HX.out, HT.out]), Lib.hid (HFD.out 0), HGZ⟩
          case measure => simp [intOf]; omega
      · have hj5 : ¬ (j : Int) < (L.length : Int) := by omega
        obtain rfl : j = L.length := by omega
        obtain ⟨d, hd⟩ : ∃ d, L.length - i = d + 1 := ⟨L.length - i - 1, by omega⟩
        obtain ⟨g', cap', cur, hve, hbg, hglt, hcur, h1, h2, h3, h4, hat, hso, hfz⟩ := owns_open (n := L.length) HO2.out (by omega)
        simp only [Value.slice.injEq, Option.some.injEq, Addr.mk.injEq, and_true, true_and] at hve
        obtain ⟨rfl, rfl⟩ := hve
        obtain ⟨ZL, hZL⟩ : ∃ ZL, (Builtin.zeroCells (Value.agg #[.int .i64 0, .int .u64 0, .int .i64 0, .string ⟨#[]⟩]).cells (d + 1)).toList = ZL := ⟨_, rfl⟩
        have hZl : ZL.length = (d + 1) * 4 := by rw [← hZL, Array.length_toList, size_zeroCells]; rfl
        have hclr : ∀ ty, (Builtin.clear_ #[59] ty #[.slice (some ⟨g, i * 4, none⟩) (L.length - i) (cap - i)]).run Try.prog wr = .ok (.tuple #[]) (wr.setCells g (i * 4) ZL) := fun ty => by
          rw [hd]
          exact run_clear_k _ _ _ ty _ Try.underlying59 zeroValue_E d ZL hZL (by rw [← hZL]; exact zeroCells_one (by intro v hv; simp [Value.cells] at hv; rcases hv with rfl | rfl | rfl | rfl <;> rfl) (by decide)) g _ _ (fun j hj => hso _ (by omega)) (fun j hj => hfz _)
        have HCL := Lib.hid (cleared (i := i) HO2.out HML.out (by omega) ZL)
        have HGE := Lib.hid (grown_trans HG.out (grown_cells g ZL (i * 4) wr))
        have HTE := Lib.hid (show M.take i = hiE L x by rw [HT.out, List.take_length])
        have HLE := Lib.hid (show (hiE L x).length = i by rw [← HTE.out, List.length_take, HML.out]; omega)
        have hci : ¬ cap = i := by omega
        have hic : i ≤ cap := by omega
        have hil : i ≤ L.length := by omega
        clear hZL hZl hso hfz hat hcur h3 h4 hd
        go_wp2_with (simp only [hclr])
        go_ret
        refine ⟨_, rfl, ?_, HGE.out, fun k e => .inl e⟩
        rw [HLE.out, ← HTE.out]
        exact HCL.out
end Go.Proofs.Ytnanclgnjchpeaa
