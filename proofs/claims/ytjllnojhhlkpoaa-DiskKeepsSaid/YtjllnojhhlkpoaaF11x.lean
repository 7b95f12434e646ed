import Derived.Test.YtjllnojhhlkpoaaF11w
import Derived.WalkKit
import Derived.ProofKit
import Derived.LoopTactic
import Derived.Outline
import Derived.WalkSpells
import Derived.WalkLawsBesides
import Derived.Lib.Hide
import Derived.Deep.LoopGhost
import Derived.Deep.QuietTactic
import Derived.BigQuiet
import Derived.ShutString
import Derived.IntWalk
import Derived.Lib.MinMax
import Derived.Deep.RegionWith
import Derived.Deep.RegionHeld3
namespace Go.Proofs.Ytjllnojhhlkpoaa
open Go.ChangeShapes Go.WideShapes Go.ChangeAt Go.RowKit
open Dk
set_option linter.unusedVariables false
set_option linter.unusedSimpArgs false
theorem mid_next (d : D) (C : List Int) (k : Nat) (f : F) (hf : (mid d C k).fs k = f) (z : ByteArray) (hz : z = (crashF f (crashN k d.fs C).2).now) : putF (mid d C k) k ⟨z, z, false⟩ = mid d C (k + 1) := by
  have hf' : (crashN k d.fs C).1 k = f := hf
  have hfl := crashF_flat f (crashN k d.fs C).2
  show (⟨d.room, upd (crashN k d.fs C).1 k ⟨z, z, false⟩, 0⟩ : D) = ⟨d.room, upd (crashN k d.fs C).1 k (crashF ((crashN k d.fs C).1 k) (crashN k d.fs C).2), 0⟩
  rw [hf']
  have e : (⟨z, z, false⟩ : F) = crashF f (crashN k d.fs C).2 := by
    generalize crashF f (crashN k d.fs C).2 = c at *
    obtain ⟨a, b, p⟩ := c
    simp only at hz hfl
    rw [hz, ← hfl.1, hfl.2]
  rw [e]
theorem mid_cho (d : D) (C : List Int) (k : Nat) (f : F) (hf : (mid d C k).fs k = f) : (crashN (k + 1) d.fs C).2 = if f.now = f.sure then (crashN k d.fs C).2 else (crashN k d.fs C).2.tail := by
  have hf' : (crashN k d.fs C).1 k = f := hf
  show crashC ((crashN k d.fs C).1 k) (crashN k d.fs C).2 = _
  rw [hf']; rfl
theorem crashF_same {f : F} (L : List Int) (h : f.now = f.sure) : (crashF f L).now = f.now := by unfold crashF; rw [if_pos h]; rfl
theorem crashF_other {f : F} (L : List Int) (h : ¬ f.now = f.sure) : (crashF f L).now = left f (L.headD 0) := by unfold crashF; rw [if_neg h]
theorem RkIs.mid {w : World} {v : Value} {d : D} {C : List Int} {k : Nat} (h : RkIs w v (mid d C k)) : ∃ g off cap, v = .agg #[.slice (some ⟨g, off, none⟩) 4 cap, .int .i64 (d.room : Nat), .int .i64 (-1)] ∧ RkAt w g off (Ytjllnojhhlkpoaa.mid d C k).fs := by
  obtain ⟨g, off, cap, rfl, ha⟩ := h; exact ⟨g, off, cap, rfl, ha⟩
theorem left_put (n u : ByteArray) (x : Int) : left ⟨n, u, true⟩ x = if (x % ((n.size : Int) + 2)).toNat = 0 then u else n.extract 0 ((x % ((n.size : Int) + 2)).toNat - 1) := by
  unfold left leftN; simp only [if_true]
theorem left_app (n u : ByteArray) (x : Int) : left ⟨n, u, false⟩ x = n.extract 0 (u.size + (x % ((n.size : Int) - u.size + 1)).toNat) := by
  unfold left leftN; simp
theorem emod_ways (x W : Int) (hW : 0 < W) : x % W = if x.tmod W < 0 then x.tmod W + W else x.tmod W := by
  have h1 := Int.tmod_lt_of_pos x hW
  have h2 := Int.lt_tmod_of_pos x hW
  have h := mod_emod x W hW
  split
  · rw [← h, Int.tmod_eq_of_lt (by omega) (by omega)]
  · rw [← h, Int.tmod_eq_emod_of_nonneg (by omega), Int.add_emod_right, Int.emod_eq_of_lt (by omega) (by omega)]
theorem drop_at {C : List Int} {j : Nat} (h : j < C.length) : (C.drop j).headD 0 = C[j] ∧ (C.drop j).tail = C.drop (j + 1) := by
  rw [List.drop_eq_getElem_cons h]; exact ⟨rfl, rfl⟩
theorem drop_out {C : List Int} {j : Nat} (h : ¬ j < C.length) : (C.drop j).headD 0 = 0 ∧ (C.drop j).tail = C.drop (j + 1) := by
  rw [List.drop_eq_nil_of_le (by omega), List.drop_eq_nil_of_le (by omega)]; exact ⟨rfl, rfl⟩
set_option maxRecDepth 100000 in
set_option maxHeartbeats 4000000 in
theorem refCrash_any {d : D} (C : List Int) (a : Option Addr) (cc : Nat) (v : Value) (w : World) (h : RkIs w v d) (ho : d.Ok) (hC : Ints w a C) :
    Calls Try.prog 54 #[v, .slice a C.length cc] w fun e w' => ∃ v', e = .returned v' ∧ RkIs w' v' (crash d C) ∧ Gr w w' ∧ (rowOf v' = rowOf v ∨ w.heap.size ≤ rowOf v') := by
  obtain ⟨gb, off, cap, rfl, ha⟩ := h
  have HA := Lib.hid ha
  have HOK := Lib.hid ho
  have HCI := Lib.hid hC
  have hCl := hC.1
  generalize hr : (d.room : Int) = R at *
  generalize hf : (d.fail : Int) - 1 = fv at *
  have HR := Lib.hid hr
  clear hr hf ha ho hC
  have G0 := (Gr.refl w).alloc (.cells #[.slice (some ⟨gb, off, none⟩) 4 cap, .int .i64 R, .int .i64 (-1)] 28)
  have B8 := Blk.new (w.alloc (.cells #[.slice (some ⟨gb, off, none⟩) 4 cap, .int .i64 R, .int .i64 (-1)] 28)) #[.slice none 0 0, .int .i64 0, .int .i64 0] 28
  have HB4 := Lib.hid ((Blk.new w #[.slice (some ⟨gb, off, none⟩) 4 cap, .int .i64 R, .int .i64 (-1)] 28).gr ((Gr.refl _).alloc (.cells #[.slice none 0 0, .int .i64 0, .int .i64 0] 28)))
  have hsz : (w.alloc (.cells #[.slice (some ⟨gb, off, none⟩) 4 cap, .int .i64 R, .int .i64 (-1)] 28)).heap.size = w.heap.size + 1 := by simp
  rw [hsz] at B8
  have HB8 := Lib.hid B8
  have HG := Lib.hid (G0.alloc (.cells #[.slice none 0 0, .int .i64 0, .int .i64 0] 28))
  clear G0 B8 hsz
  go_enter Try.func54, Try.ntmps54
  go_wp2
  generalize (w.alloc (.cells #[.slice (some ⟨gb, off, none⟩) 4 cap, .int .i64 R, .int .i64 (-1)] 28)).alloc (.cells #[.slice none 0 0, .int .i64 0, .int .i64 0] 28) = w1 at *
  go_loopw [5, 6] (fun kk i wr => ∃ (j k : Nat) (L : List Int) (g5 off5 cap5 : Nat), j ≤ k ∧ k ≤ 4 ∧ kk = .int .i64 (j : Nat) ∧ i = .int .i64 (k : Nat) ∧ Hid ((crashN k d.fs C).2 = L ∧ L = C.drop j) ∧ Hid (RkAt wr g5 off5 (mid d C k).fs) ∧ Hid (Blk wr w.heap.size #[.slice (some ⟨g5, off5, none⟩) 4 cap5, .int .i64 R, .int .i64 (-1)] 28) ∧ Hid (Blk wr (w.heap.size + 1) #[.slice none 0 0, .int .i64 0, .int .i64 0] 28) ∧ Hid (Gr w wr) ∧ Hid (g5 = gb ∨ w.heap.size ≤ g5)) (fun _ i _ => 4 - (intOf i).toNat)
  case atStart => exact ⟨0, 0, C, gb, off, cap, by omega, by omega, rfl, rfl, Lib.hid ⟨rfl, rfl⟩, Lib.hid (HA.out.gr HG.out), HB4, HB8, HG, Lib.hid (.inl rfl)⟩
  case round =>
    clear HA HB4 HB8 HG
    obtain ⟨j, k, L, g5, off5, cap5, hjk, hk, rfl, rfl, HL, HA, HB4, HB8, HG, HN⟩ := hrel
    by_cases hlt : k < 4
    · have hk4 : (k : Int) < 4 := by omega
      obtain ⟨f, hf⟩ : ∃ f, (mid d C k).fs k = f := ⟨_, rfl⟩
      have HF := Lib.hid hf
      have hok := mid_ok HOK.out C k (by omega)
      have hbn := ok_now hok k hlt
      have hfo := hok.ok k hlt
      rw [hf] at hbn hfo
      have HFO := Lib.hid hfo
      obtain ⟨c0, c1, c2⟩ := rk_cells HA.out hlt
      rw [hf] at c0 c1 c2
      have HW := Lib.hid (fun (z : ByteArray) (v : Value) (w : World) (h : RkIs w v (mid d C k)) => refWith_any k hlt ⟨z, z, false⟩ (mid d C k) v w h)
      have HRK : Hid (∀ W, Gr wr W → RkIs W (.agg #[.slice (some ⟨g5, off5, none⟩) 4 cap5, .int .i64 R, .int .i64 (-1)]) (mid d C k)) := Lib.hid fun W hW => ⟨g5, off5, cap5, by rw [← HR.out]; rfl, HA.out.gr hW⟩
      have d0 : wr.cell? ⟨w.heap.size, 0, none⟩ = some (.slice (some ⟨g5, off5, none⟩) 4 cap5) := HB4.out.cell rfl
      have d1 : wr.cell? ⟨w.heap.size, 1, none⟩ = some (.int .i64 R) := HB4.out.cell rfl
      have d2 : wr.cell? ⟨w.heap.size, 2, none⟩ = some (.int .i64 (-1)) := HB4.out.cell rfl
      have e0 := HB4.out.free 0
      have e1 := HB4.out.free 1
      have e2 := HB4.out.free 2
      have hbl := HB4.out.lt
      obtain ⟨n, u, p⟩ := f
      simp only at c0 c1 c2 hbn
      obtain ⟨hbn1, hbn2, hbn3⟩ := hbn
      clear hf hok hfo hbn3
      by_cases hnu : n = u
      · have hbeq : (n.toList == u.toList) = true := by rw [hnu]; simp
        have HNU := Lib.hid hnu
        clear hnu
        go_wp2_with fail
        refine (HW.out _ _ _ (HRK.out _ ((Gr.refl _).alloc _))).mono ?_
        rintro e w5 ⟨v5, rfl, hr5, hg5, hn5⟩
        rw [mid_next d C k _ HF.out _ (by rw [crashF_same _ HNU.out])] at hr5
        obtain ⟨g6, off6, cap6, hv5, ha6⟩ := hr5.mid
        rw [HR.out] at hv5
        subst hv5
        have HN6 : Hid (g6 = gb ∨ w.heap.size ≤ g6) := Lib.hid (.inr (Nat.le_trans (HG.out.trans ((Gr.refl wr).alloc _)).size hn5))
        clear hn5
        have hg5' : Gr wr w5 := ((Gr.refl wr).alloc _).trans hg5
        have HB5 := Lib.hid (HB4.out.gr hg5')
        have HST := Lib.hid (stored (d := mid d C (k + 1)) (R := R) (fv := -1) (cap := cap6) HB5.out ha6)
        have HB85 := Lib.hid ((((HB8.out.gr hg5').other (c := w.heap.size) (by omega) 0 (.slice (some ⟨g6, off6, none⟩) 4 cap6)).other (c := w.heap.size) (by omega) 1 (.int .i64 R)).other (c := w.heap.size) (by omega) 2 (.int .i64 (-1)))
        have HG6 := Lib.hid ((HG.out.trans hg5').store3 (b := w.heap.size) (by omega) (.slice (some ⟨g6, off6, none⟩) 4 cap6) (.int .i64 R) (.int .i64 (-1)))
        have b0 : w5.cell? ⟨w.heap.size, 0, none⟩ = some (.slice (some ⟨g5, off5, none⟩) 4 cap5) := HB5.out.cell rfl
        have b1 : w5.cell? ⟨w.heap.size, 1, none⟩ = some (.int .i64 R) := HB5.out.cell rfl
        have b2 : w5.cell? ⟨w.heap.size, 2, none⟩ = some (.int .i64 (-1)) := HB5.out.cell rfl
        have f0 := HB5.out.free 0
        have f1 := HB5.out.free 1
        have f2 := HB5.out.free 2
        have HLN : Hid ((crashN (k + 1) d.fs C).2 = C.drop (j)) := Lib.hid (by rw [mid_cho d C k _ HF.out, if_pos HNU.out, HL.out.1, HL.out.2])
        clear hg5 hg5' ha6 hr5 d0 d1 d2 e0 e1 e2 c0 c1 c2
        go_wp2
        go_roundw
        case rel => exact ⟨j, k + 1, _, g6, off6, cap6, by omega, by omega, by go_num, by go_num, Lib.hid ⟨rfl, HLN.out⟩, Lib.hid HST.out.2, Lib.hid HST.out.1, HB85, HG6, HN6⟩
        case measure => simp [intOf]; omega
      · have hbeq : (n.toList == u.toList) = false := by rw [toList_beq]; exact decide_eq_false hnu
        have HNU := Lib.hid hnu
        clear hnu
        by_cases hj : j < C.length
        · obtain ⟨bb, ob, rfl, hcc⟩ := HCI.out.2.2.resolve_left (by intro e; rw [e] at hj; simp at hj)
          have hx0 := hcc j hj
          have hxw := bounds_i64 (HCI.out.2.1 C[j] (List.getElem_mem hj))
          have HX := Lib.hid (drop_at hj)
          generalize C[j] = x at *
          have hx := ((HG.out.alloc (.cells #[.string n, .string u, .bool p] 106))).cell hx0
          clear hcc hx0
          cases p
          · have hun : u.size ≤ n.size := HFO.out.le rfl
            have hW : (0 : Int) < (n.size : Int) - u.size + 1 := by omega
            have hm := emod_ways x _ hW
            have h1 := Int.tmod_lt_of_pos x hW
            have h2 := Int.lt_tmod_of_pos x hW
            obtain ⟨W, hWe⟩ : ∃ W : Int, (n.size : Int) - u.size + 1 = W := ⟨_, rfl⟩
            rw [hWe] at hm h1 h2 hW
            obtain ⟨r, hr⟩ : ∃ r : Int, x.tmod W = r := ⟨_, rfl⟩
            rw [hr] at hm h1 h2
            by_cases hneg : r < 0
            · rw [if_pos hneg] at hm
              have HM := Lib.hid hm
              have w1 : wrap64 (r + W) = r + W := by unfold wrap64; omega
              have w2 : wrap64 ((u.size : Int) + (r + W)) = (u.size : Int) + (r + W) := by unfold wrap64; omega
              clear hm
              go_wp2_with fail
              refine (HW.out _ _ _ (HRK.out _ ((Gr.refl _).alloc _))).mono ?_
              rintro e w5 ⟨v5, rfl, hr5, hg5, hn5⟩
              rw [mid_next d C k _ HF.out _ (by rw [HL.out.1, HL.out.2, crashF_other _ HNU.out, HX.out.1, left_app, hWe, HM.out]; (first | done | (congr 1 <;> omega)))] at hr5
              obtain ⟨g6, off6, cap6, hv5, ha6⟩ := hr5.mid
              rw [HR.out] at hv5
              subst hv5
              have HN6 : Hid (g6 = gb ∨ w.heap.size ≤ g6) := Lib.hid (.inr (Nat.le_trans (HG.out.trans ((Gr.refl wr).alloc _)).size hn5))
              clear hn5
              have hg5' : Gr wr w5 := ((Gr.refl wr).alloc _).trans hg5
              have HB5 := Lib.hid (HB4.out.gr hg5')
              have HST := Lib.hid (stored (d := mid d C (k + 1)) (R := R) (fv := -1) (cap := cap6) HB5.out ha6)
              have HB85 := Lib.hid ((((HB8.out.gr hg5').other (c := w.heap.size) (by omega) 0 (.slice (some ⟨g6, off6, none⟩) 4 cap6)).other (c := w.heap.size) (by omega) 1 (.int .i64 R)).other (c := w.heap.size) (by omega) 2 (.int .i64 (-1)))
              have HG6 := Lib.hid ((HG.out.trans hg5').store3 (b := w.heap.size) (by omega) (.slice (some ⟨g6, off6, none⟩) 4 cap6) (.int .i64 R) (.int .i64 (-1)))
              have b0 : w5.cell? ⟨w.heap.size, 0, none⟩ = some (.slice (some ⟨g5, off5, none⟩) 4 cap5) := HB5.out.cell rfl
              have b1 : w5.cell? ⟨w.heap.size, 1, none⟩ = some (.int .i64 R) := HB5.out.cell rfl
              have b2 : w5.cell? ⟨w.heap.size, 2, none⟩ = some (.int .i64 (-1)) := HB5.out.cell rfl
              have f0 := HB5.out.free 0
              have f1 := HB5.out.free 1
              have f2 := HB5.out.free 2
              have HLN : Hid ((crashN (k + 1) d.fs C).2 = C.drop (j + 1)) := Lib.hid (by rw [mid_cho d C k _ HF.out, if_neg HNU.out, HL.out.1, HL.out.2]; exact HX.out.2)
              clear hg5 hg5' ha6 hr5 d0 d1 d2 e0 e1 e2 c0 c1 c2
              go_wp2
              go_roundw
              case rel => exact ⟨j + 1, k + 1, _, g6, off6, cap6, by omega, by omega, by go_num, by go_num, Lib.hid ⟨rfl, HLN.out⟩, Lib.hid HST.out.2, Lib.hid HST.out.1, HB85, HG6, HN6⟩
              case measure => simp [intOf]; omega
            · rw [if_neg hneg] at hm
              have HM := Lib.hid hm
              have w2 : wrap64 ((u.size : Int) + r) = (u.size : Int) + r := by unfold wrap64; omega
              clear hm
              go_wp2_with fail
              refine (HW.out _ _ _ (HRK.out _ ((Gr.refl _).alloc _))).mono ?_
              rintro e w5 ⟨v5, rfl, hr5, hg5, hn5⟩
              rw [mid_next d C k _ HF.out _ (by rw [HL.out.1, HL.out.2, crashF_other _ HNU.out, HX.out.1, left_app, hWe, HM.out]; (first | done | (congr 1 <;> omega)))] at hr5
              obtain ⟨g6, off6, cap6, hv5, ha6⟩ := hr5.mid
              rw [HR.out] at hv5
              subst hv5
              have HN6 : Hid (g6 = gb ∨ w.heap.size ≤ g6) := Lib.hid (.inr (Nat.le_trans (HG.out.trans ((Gr.refl wr).alloc _)).size hn5))
              clear hn5
              have hg5' : Gr wr w5 := ((Gr.refl wr).alloc _).trans hg5
              have HB5 := Lib.hid (HB4.out.gr hg5')
              have HST := Lib.hid (stored (d := mid d C (k + 1)) (R := R) (fv := -1) (cap := cap6) HB5.out ha6)
              have HB85 := Lib.hid ((((HB8.out.gr hg5').other (c := w.heap.size) (by omega) 0 (.slice (some ⟨g6, off6, none⟩) 4 cap6)).other (c := w.heap.size) (by omega) 1 (.int .i64 R)).other (c := w.heap.size) (by omega) 2 (.int .i64 (-1)))
              have HG6 := Lib.hid ((HG.out.trans hg5').store3 (b := w.heap.size) (by omega) (.slice (some ⟨g6, off6, none⟩) 4 cap6) (.int .i64 R) (.int .i64 (-1)))
              have b0 : w5.cell? ⟨w.heap.size, 0, none⟩ = some (.slice (some ⟨g5, off5, none⟩) 4 cap5) := HB5.out.cell rfl
              have b1 : w5.cell? ⟨w.heap.size, 1, none⟩ = some (.int .i64 R) := HB5.out.cell rfl
              have b2 : w5.cell? ⟨w.heap.size, 2, none⟩ = some (.int .i64 (-1)) := HB5.out.cell rfl
              have f0 := HB5.out.free 0
              have f1 := HB5.out.free 1
              have f2 := HB5.out.free 2
              have HLN : Hid ((crashN (k + 1) d.fs C).2 = C.drop (j + 1)) := Lib.hid (by rw [mid_cho d C k _ HF.out, if_neg HNU.out, HL.out.1, HL.out.2]; exact HX.out.2)
              clear hg5 hg5' ha6 hr5 d0 d1 d2 e0 e1 e2 c0 c1 c2
              go_wp2
              go_roundw
              case rel => exact ⟨j + 1, k + 1, _, g6, off6, cap6, by omega, by omega, by go_num, by go_num, Lib.hid ⟨rfl, HLN.out⟩, Lib.hid HST.out.2, Lib.hid HST.out.1, HB85, HG6, HN6⟩
              case measure => simp [intOf]; omega
          · have hW : (0 : Int) < (n.size : Int) + 2 := by omega
            have hm := emod_ways x _ hW
            have h1 := Int.tmod_lt_of_pos x hW
            have h2 := Int.lt_tmod_of_pos x hW
            obtain ⟨W, hWe⟩ : ∃ W : Int, (n.size : Int) + 2 = W := ⟨_, rfl⟩
            rw [hWe] at hm h1 h2 hW
            obtain ⟨r, hr⟩ : ∃ r : Int, x.tmod W = r := ⟨_, rfl⟩
            rw [hr] at hm h1 h2
            by_cases hneg : r < 0
            · rw [if_pos hneg] at hm
              have HM := Lib.hid hm
              have w1 : wrap64 (r + W) = r + W := by unfold wrap64; omega
              have w2 : wrap64 (r + W - 1) = r + W - 1 := by unfold wrap64; omega
              have h0 : (r + W == 0) = false := by simp; omega
              clear hm
              go_wp2_with fail
              refine (HW.out _ _ _ (HRK.out _ ((Gr.refl _).alloc _))).mono ?_
              rintro e w5 ⟨v5, rfl, hr5, hg5, hn5⟩
              rw [mid_next d C k _ HF.out _ (by rw [HL.out.1, HL.out.2, crashF_other _ HNU.out, HX.out.1, left_put, hWe, HM.out, if_neg (by omega)]; (first | done | (congr 1 <;> omega)))] at hr5
              obtain ⟨g6, off6, cap6, hv5, ha6⟩ := hr5.mid
              rw [HR.out] at hv5
              subst hv5
              have HN6 : Hid (g6 = gb ∨ w.heap.size ≤ g6) := Lib.hid (.inr (Nat.le_trans (HG.out.trans ((Gr.refl wr).alloc _)).size hn5))
              clear hn5
              have hg5' : Gr wr w5 := ((Gr.refl wr).alloc _).trans hg5
              have HB5 := Lib.hid (HB4.out.gr hg5')
              have HST := Lib.hid (stored (d := mid d C (k + 1)) (R := R) (fv := -1) (cap := cap6) HB5.out ha6)
              have HB85 := Lib.hid ((((HB8.out.gr hg5').other (c := w.heap.size) (by omega) 0 (.slice (some ⟨g6, off6, none⟩) 4 cap6)).other (c := w.heap.size) (by omega) 1 (.int .i64 R)).other (c := w.heap.size) (by omega) 2 (.int .i64 (-1)))
              have HG6 := Lib.hid ((HG.out.trans hg5').store3 (b := w.heap.size) (by omega) (.slice (some ⟨g6, off6, none⟩) 4 cap6) (.int .i64 R) (.int .i64 (-1)))
              have b0 : w5.cell? ⟨w.heap.size, 0, none⟩ = some (.slice (some ⟨g5, off5, none⟩) 4 cap5) := HB5.out.cell rfl
              have b1 : w5.cell? ⟨w.heap.size, 1, none⟩ = some (.int .i64 R) := HB5.out.cell rfl
              have b2 : w5.cell? ⟨w.heap.size, 2, none⟩ = some (.int .i64 (-1)) := HB5.out.cell rfl
              have f0 := HB5.out.free 0
              have f1 := HB5.out.free 1
              have f2 := HB5.out.free 2
              have HLN : Hid ((crashN (k + 1) d.fs C).2 = C.drop (j + 1)) := Lib.hid (by rw [mid_cho d C k _ HF.out, if_neg HNU.out, HL.out.1, HL.out.2]; exact HX.out.2)
              clear hg5 hg5' ha6 hr5 d0 d1 d2 e0 e1 e2 c0 c1 c2
              go_wp2
              go_roundw
              case rel => exact ⟨j + 1, k + 1, _, g6, off6, cap6, by omega, by omega, by go_num, by go_num, Lib.hid ⟨rfl, HLN.out⟩, Lib.hid HST.out.2, Lib.hid HST.out.1, HB85, HG6, HN6⟩
              case measure => simp [intOf]; omega
            · rw [if_neg hneg] at hm
              have HM := Lib.hid hm
              clear hm
              by_cases hz : r = 0
              · subst hz
                go_wp2_with fail
                refine (HW.out _ _ _ (HRK.out _ ((Gr.refl _).alloc _))).mono ?_
                rintro e w5 ⟨v5, rfl, hr5, hg5, hn5⟩
                rw [mid_next d C k _ HF.out _ (by rw [HL.out.1, HL.out.2, crashF_other _ HNU.out, HX.out.1, left_put, hWe, HM.out, if_pos (by rfl)])] at hr5
                obtain ⟨g6, off6, cap6, hv5, ha6⟩ := hr5.mid
                rw [HR.out] at hv5
                subst hv5
                have HN6 : Hid (g6 = gb ∨ w.heap.size ≤ g6) := Lib.hid (.inr (Nat.le_trans (HG.out.trans ((Gr.refl wr).alloc _)).size hn5))
                clear hn5
                have hg5' : Gr wr w5 := ((Gr.refl wr).alloc _).trans hg5
                have HB5 := Lib.hid (HB4.out.gr hg5')
                have HST := Lib.hid (stored (d := mid d C (k + 1)) (R := R) (fv := -1) (cap := cap6) HB5.out ha6)
                have HB85 := Lib.hid ((((HB8.out.gr hg5').other (c := w.heap.size) (by omega) 0 (.slice (some ⟨g6, off6, none⟩) 4 cap6)).other (c := w.heap.size) (by omega) 1 (.int .i64 R)).other (c := w.heap.size) (by omega) 2 (.int .i64 (-1)))
                have HG6 := Lib.hid ((HG.out.trans hg5').store3 (b := w.heap.size) (by omega) (.slice (some ⟨g6, off6, none⟩) 4 cap6) (.int .i64 R) (.int .i64 (-1)))
                have b0 : w5.cell? ⟨w.heap.size, 0, none⟩ = some (.slice (some ⟨g5, off5, none⟩) 4 cap5) := HB5.out.cell rfl
                have b1 : w5.cell? ⟨w.heap.size, 1, none⟩ = some (.int .i64 R) := HB5.out.cell rfl
                have b2 : w5.cell? ⟨w.heap.size, 2, none⟩ = some (.int .i64 (-1)) := HB5.out.cell rfl
                have f0 := HB5.out.free 0
                have f1 := HB5.out.free 1
                have f2 := HB5.out.free 2
                have HLN : Hid ((crashN (k + 1) d.fs C).2 = C.drop (j + 1)) := Lib.hid (by rw [mid_cho d C k _ HF.out, if_neg HNU.out, HL.out.1, HL.out.2]; exact HX.out.2)
                clear hg5 hg5' ha6 hr5 d0 d1 d2 e0 e1 e2 c0 c1 c2
                go_wp2
                go_roundw
                case rel => exact ⟨j + 1, k + 1, _, g6, off6, cap6, by omega, by omega, by go_num, by go_num, Lib.hid ⟨rfl, HLN.out⟩, Lib.hid HST.out.2, Lib.hid HST.out.1, HB85, HG6, HN6⟩
                case measure => simp [intOf]; omega
              · have w2 : wrap64 (r - 1) = r - 1 := by unfold wrap64; omega
                have h0 : (r == 0) = false := by simp; omega
                go_wp2_with fail
                refine (HW.out _ _ _ (HRK.out _ ((Gr.refl _).alloc _))).mono ?_
                rintro e w5 ⟨v5, rfl, hr5, hg5, hn5⟩
                rw [mid_next d C k _ HF.out _ (by rw [HL.out.1, HL.out.2, crashF_other _ HNU.out, HX.out.1, left_put, hWe, HM.out, if_neg (by omega)]; (first | done | (congr 1 <;> omega)))] at hr5
                obtain ⟨g6, off6, cap6, hv5, ha6⟩ := hr5.mid
                rw [HR.out] at hv5
                subst hv5
                have HN6 : Hid (g6 = gb ∨ w.heap.size ≤ g6) := Lib.hid (.inr (Nat.le_trans (HG.out.trans ((Gr.refl wr).alloc _)).size hn5))
                clear hn5
                have hg5' : Gr wr w5 := ((Gr.refl wr).alloc _).trans hg5
                have HB5 := Lib.hid (HB4.out.gr hg5')
                have HST := Lib.hid (stored (d := mid d C (k + 1)) (R := R) (fv := -1) (cap := cap6) HB5.out ha6)
                have HB85 := Lib.hid ((((HB8.out.gr hg5').other (c := w.heap.size) (by omega) 0 (.slice (some ⟨g6, off6, none⟩) 4 cap6)).other (c := w.heap.size) (by omega) 1 (.int .i64 R)).other (c := w.heap.size) (by omega) 2 (.int .i64 (-1)))
                have HG6 := Lib.hid ((HG.out.trans hg5').store3 (b := w.heap.size) (by omega) (.slice (some ⟨g6, off6, none⟩) 4 cap6) (.int .i64 R) (.int .i64 (-1)))
                have b0 : w5.cell? ⟨w.heap.size, 0, none⟩ = some (.slice (some ⟨g5, off5, none⟩) 4 cap5) := HB5.out.cell rfl
                have b1 : w5.cell? ⟨w.heap.size, 1, none⟩ = some (.int .i64 R) := HB5.out.cell rfl
                have b2 : w5.cell? ⟨w.heap.size, 2, none⟩ = some (.int .i64 (-1)) := HB5.out.cell rfl
                have f0 := HB5.out.free 0
                have f1 := HB5.out.free 1
                have f2 := HB5.out.free 2
                have HLN : Hid ((crashN (k + 1) d.fs C).2 = C.drop (j + 1)) := Lib.hid (by rw [mid_cho d C k _ HF.out, if_neg HNU.out, HL.out.1, HL.out.2]; exact HX.out.2)
                clear hg5 hg5' ha6 hr5 d0 d1 d2 e0 e1 e2 c0 c1 c2
                go_wp2
                go_roundw
                case rel => exact ⟨j + 1, k + 1, _, g6, off6, cap6, by omega, by omega, by go_num, by go_num, Lib.hid ⟨rfl, HLN.out⟩, Lib.hid HST.out.2, Lib.hid HST.out.1, HB85, HG6, HN6⟩
                case measure => simp [intOf]; omega
        · have HX := Lib.hid (drop_out hj)
          have hj2 : (C.length : Int) ≤ j := by omega
          cases p
          · have hun : u.size ≤ n.size := HFO.out.le rfl
            have hW : (0 : Int) < (n.size : Int) - u.size + 1 := by omega
            obtain ⟨W, hWe⟩ : ∃ W : Int, (n.size : Int) - u.size + 1 = W := ⟨_, rfl⟩
            rw [hWe] at hW
            have hr : (0 : Int).tmod W = 0 := Int.zero_tmod _
            go_wp2_with fail
            refine (HW.out _ _ _ (HRK.out _ ((Gr.refl _).alloc _))).mono ?_
            rintro e w5 ⟨v5, rfl, hr5, hg5, hn5⟩
            rw [mid_next d C k _ HF.out _ (by rw [HL.out.1, HL.out.2, crashF_other _ HNU.out, HX.out.1, left_app]; simp)] at hr5
            obtain ⟨g6, off6, cap6, hv5, ha6⟩ := hr5.mid
            rw [HR.out] at hv5
            subst hv5
            have HN6 : Hid (g6 = gb ∨ w.heap.size ≤ g6) := Lib.hid (.inr (Nat.le_trans (HG.out.trans ((Gr.refl wr).alloc _)).size hn5))
            clear hn5
            have hg5' : Gr wr w5 := ((Gr.refl wr).alloc _).trans hg5
            have HB5 := Lib.hid (HB4.out.gr hg5')
            have HST := Lib.hid (stored (d := mid d C (k + 1)) (R := R) (fv := -1) (cap := cap6) HB5.out ha6)
            have HB85 := Lib.hid ((((HB8.out.gr hg5').other (c := w.heap.size) (by omega) 0 (.slice (some ⟨g6, off6, none⟩) 4 cap6)).other (c := w.heap.size) (by omega) 1 (.int .i64 R)).other (c := w.heap.size) (by omega) 2 (.int .i64 (-1)))
            have HG6 := Lib.hid ((HG.out.trans hg5').store3 (b := w.heap.size) (by omega) (.slice (some ⟨g6, off6, none⟩) 4 cap6) (.int .i64 R) (.int .i64 (-1)))
            have b0 : w5.cell? ⟨w.heap.size, 0, none⟩ = some (.slice (some ⟨g5, off5, none⟩) 4 cap5) := HB5.out.cell rfl
            have b1 : w5.cell? ⟨w.heap.size, 1, none⟩ = some (.int .i64 R) := HB5.out.cell rfl
            have b2 : w5.cell? ⟨w.heap.size, 2, none⟩ = some (.int .i64 (-1)) := HB5.out.cell rfl
            have f0 := HB5.out.free 0
            have f1 := HB5.out.free 1
            have f2 := HB5.out.free 2
            have HLN : Hid ((crashN (k + 1) d.fs C).2 = C.drop (j + 1)) := Lib.hid (by rw [mid_cho d C k _ HF.out, if_neg HNU.out, HL.out.1, HL.out.2]; exact HX.out.2)
            clear hg5 hg5' ha6 hr5 d0 d1 d2 e0 e1 e2 c0 c1 c2
            go_wp2
            go_roundw
            case rel => exact ⟨j + 1, k + 1, _, g6, off6, cap6, by omega, by omega, by go_num, by go_num, Lib.hid ⟨rfl, HLN.out⟩, Lib.hid HST.out.2, Lib.hid HST.out.1, HB85, HG6, HN6⟩
            case measure => simp [intOf]; omega
          · have hW : (0 : Int) < (n.size : Int) + 2 := by omega
            obtain ⟨W, hWe⟩ : ∃ W : Int, (n.size : Int) + 2 = W := ⟨_, rfl⟩
            rw [hWe] at hW
            have hr : (0 : Int).tmod W = 0 := Int.zero_tmod _
            go_wp2_with fail
            refine (HW.out _ _ _ (HRK.out _ ((Gr.refl _).alloc _))).mono ?_
            rintro e w5 ⟨v5, rfl, hr5, hg5, hn5⟩
            rw [mid_next d C k _ HF.out _ (by rw [HL.out.1, HL.out.2, crashF_other _ HNU.out, HX.out.1, left_put, Int.zero_emod, if_pos (by rfl)])] at hr5
            obtain ⟨g6, off6, cap6, hv5, ha6⟩ := hr5.mid
            rw [HR.out] at hv5
            subst hv5
            have HN6 : Hid (g6 = gb ∨ w.heap.size ≤ g6) := Lib.hid (.inr (Nat.le_trans (HG.out.trans ((Gr.refl wr).alloc _)).size hn5))
            clear hn5
            have hg5' : Gr wr w5 := ((Gr.refl wr).alloc _).trans hg5
            have HB5 := Lib.hid (HB4.out.gr hg5')
            have HST := Lib.hid (stored (d := mid d C (k + 1)) (R := R) (fv := -1) (cap := cap6) HB5.out ha6)
            have HB85 := Lib.hid ((((HB8.out.gr hg5').other (c := w.heap.size) (by omega) 0 (.slice (some ⟨g6, off6, none⟩) 4 cap6)).other (c := w.heap.size) (by omega) 1 (.int .i64 R)).other (c := w.heap.size) (by omega) 2 (.int .i64 (-1)))
            have HG6 := Lib.hid ((HG.out.trans hg5').store3 (b := w.heap.size) (by omega) (.slice (some ⟨g6, off6, none⟩) 4 cap6) (.int .i64 R) (.int .i64 (-1)))
            have b0 : w5.cell? ⟨w.heap.size, 0, none⟩ = some (.slice (some ⟨g5, off5, none⟩) 4 cap5) := HB5.out.cell rfl
            have b1 : w5.cell? ⟨w.heap.size, 1, none⟩ = some (.int .i64 R) := HB5.out.cell rfl
            have b2 : w5.cell? ⟨w.heap.size, 2, none⟩ = some (.int .i64 (-1)) := HB5.out.cell rfl
            have f0 := HB5.out.free 0
            have f1 := HB5.out.free 1
            have f2 := HB5.out.free 2
            have HLN : Hid ((crashN (k + 1) d.fs C).2 = C.drop (j + 1)) := Lib.hid (by rw [mid_cho d C k _ HF.out, if_neg HNU.out, HL.out.1, HL.out.2]; exact HX.out.2)
            clear hg5 hg5' ha6 hr5 d0 d1 d2 e0 e1 e2 c0 c1 c2
            go_wp2
            go_roundw
            case rel => exact ⟨j + 1, k + 1, _, g6, off6, cap6, by omega, by omega, by go_num, by go_num, Lib.hid ⟨rfl, HLN.out⟩, Lib.hid HST.out.2, Lib.hid HST.out.1, HB85, HG6, HN6⟩
            case measure => simp [intOf]; omega
    · obtain rfl : k = 4 := by omega
      have d0 : wr.cell? ⟨w.heap.size, 0, none⟩ = some (.slice (some ⟨g5, off5, none⟩) 4 cap5) := HB4.out.cell rfl
      have d1 : wr.cell? ⟨w.heap.size, 1, none⟩ = some (.int .i64 R) := HB4.out.cell rfl
      have d2 : wr.cell? ⟨w.heap.size, 2, none⟩ = some (.int .i64 (-1)) := HB4.out.cell rfl
      have b0 : wr.cell? ⟨w.heap.size + 1, 0, none⟩ = some (.slice none 0 0) := HB8.out.cell rfl
      have b1 : wr.cell? ⟨w.heap.size + 1, 1, none⟩ = some (.int .i64 0) := HB8.out.cell rfl
      have b2 : wr.cell? ⟨w.heap.size + 1, 2, none⟩ = some (.int .i64 0) := HB8.out.cell rfl
      have f0 := HB8.out.free 0
      have f1 := HB8.out.free 1
      have f2 := HB8.out.free 2
      have HST := Lib.hid (stored (d := mid d C 4) (R := R) (fv := -1) (cap := cap5) HB8.out HA.out)
      have HG6 := Lib.hid (HG.out.store3 (b := w.heap.size + 1) (by omega) (.slice (some ⟨g5, off5, none⟩) 4 cap5) (.int .i64 R) (.int .i64 (-1)))
      go_wp2
      have r0 := HST.out.1.cell (i := 0) rfl
      have r1 := HST.out.1.cell (i := 1) rfl
      have r2 := HST.out.1.cell (i := 2) rfl
      refine bodyPost_ret (v := .agg #[.slice (some ⟨g5, off5, none⟩) 4 cap5, .int .i64 R, .int .i64 (-1)]) (by simp [results, Try.results54, go_sem, r0, r1, r2]; try rfl) rfl ?_
      exact ⟨_, rfl, ⟨g5, off5, cap5, by rw [← HR.out]; rfl, HST.out.2⟩, HG6.out, HN.out⟩
end Go.Proofs.Ytjllnojhhlkpoaa
