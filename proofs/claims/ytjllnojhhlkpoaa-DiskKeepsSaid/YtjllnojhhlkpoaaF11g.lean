import Derived.Test.YtjllnojhhlkpoaaJ11
import Derived.Test.YtjllnojhhlkpoaaC18
import Derived.WalkKit
import Derived.ProofKit
import Derived.LoopTactic
import Derived.Outline
import Derived.WalkSpells
import Derived.WalkLawsBesides
import Derived.Lib.Hide
import Derived.Deep.LoopGhost
import Derived.Deep.QuietTactic
import Derived.BigQuiet
import Derived.ShutString
import Derived.IntWalk
import Derived.Lib.MinMax
import Derived.OpenShut
import Derived.BigQuiet
import Derived.Deep.RegionWith
import Derived.Deep.RegionHeld3
namespace Go.Proofs.Ytjllnojhhlkpoaa
open Go.ChangeShapes Go.WideShapes Go.ChangeAt Go.RowKit
set_option linter.unusedVariables false
set_option linter.unusedSimpArgs false
open Dk
def Off (a : Option Addr) (b : Nat) : Prop := ∀ bb off, a = some ⟨bb, off, none⟩ → bb ≠ b
theorem Ints.sole {w w' : World} {p : Nat} {a : Option Addr} {l : List Int} (h : Ints w a l) (hs : Sole p w w') (hb : l = [] ∨ Off a p) : Ints w' a l := by
  obtain ⟨h1, h2, h3⟩ := h
  rcases hb with rfl | hb
  · exact ⟨h1, h2, .inl rfl⟩
  · refine ⟨h1, h2, h3.imp id ?_⟩
    rintro ⟨b, off, rfl, hc⟩
    exact ⟨b, off, rfl, fun i hi => hs.cell (hb _ _ rfl) (hc i hi)⟩
theorem Ints.tail {w : World} {bb off : Nat} {x : Int} {l : List Int} (h : Ints w (some ⟨bb, off, none⟩) (x :: l)) : Ints w (some ⟨bb, off + 1, none⟩) l := by
  obtain ⟨h1, h2, h3⟩ := h
  refine ⟨by simp at h1; omega, fun n hn => h2 n (by simp [hn]), .inr ⟨bb, off + 1, rfl, fun i hi => ?_⟩⟩
  rcases h3 with h3 | ⟨b2, o2, e, hc⟩
  · cases h3
  · cases e
    have := hc (i + 1) (by simp; omega)
    rw [show bb = bb from rfl, show off + (i + 1) = off + 1 + i by omega] at this
    simpa using this
/-- The disk in the midst of a crash. -/
def mid (d : D) (C : List Int) (k : Nat) : D := ⟨d.room, (crashN k d.fs C).1, 0⟩
theorem mid_ok {d : D} (h : d.Ok) (C : List Int) (k : Nat) (hk : k ≤ 4) : (mid d C k).Ok :=
  ⟨h.room, Nat.le_trans (crashN_used d.fs C k hk) h.used, Nat.zero_le _, fun j hj => crashN_ok C h.ok k j hj⟩
theorem upd_upd (fs : Nat → F) (k : Nat) (f g : F) : upd (upd fs k f) k g = upd fs k g := by
  funext j; unfold upd; split <;> rfl
theorem mid_flat (d : D) (C L : List Int) (k : Nat) (hL : (crashN k d.fs C).2 = L) (he : ((mid d C k).fs k).now = ((mid d C k).fs k).sure) : putF (mid d C k) k (gKeep ((mid d C k).fs k)) = mid d C (k + 1) ∧ (crashN (k + 1) d.fs C).2 = L := by
  have he' : ((crashN k d.fs C).1 k).now = ((crashN k d.fs C).1 k).sure := he
  constructor
  · show (⟨d.room, upd (crashN k d.fs C).1 k (gKeep ((crashN k d.fs C).1 k)), 0⟩ : D) = ⟨d.room, upd (crashN k d.fs C).1 k (crashF ((crashN k d.fs C).1 k) (crashN k d.fs C).2), 0⟩
    unfold crashF; rw [if_pos he']
  · show crashC ((crashN k d.fs C).1 k) (crashN k d.fs C).2 = L
    unfold crashC; rw [if_pos he']; exact hL
theorem mid_left (d : D) (C L : List Int) (k : Nat) (f : F) (hL : (crashN k d.fs C).2 = L) (hf : (mid d C k).fs k = f) (he : ¬ f.now = f.sure) :
    putF (putF (mid d C k) k ⟨left f (L.headD 0), f.sure, f.put⟩) k ⟨left f (L.headD 0), left f (L.headD 0), false⟩ = mid d C (k + 1) ∧ (crashN (k + 1) d.fs C).2 = L.tail := by
  have hf' : (crashN k d.fs C).1 k = f := hf
  constructor
  · show (⟨d.room, upd (upd (crashN k d.fs C).1 k _) k _, 0⟩ : D) = ⟨d.room, upd (crashN k d.fs C).1 k (crashF ((crashN k d.fs C).1 k) (crashN k d.fs C).2), 0⟩
    rw [upd_upd, hf', hL]; unfold crashF; rw [if_neg he]
  · show crashC ((crashN k d.fs C).1 k) (crashN k d.fs C).2 = L.tail
    rw [hf', hL]; unfold crashC; rw [if_neg he]
theorem left_okF {f : F} (h : f.Ok) (c : Int) : F.Ok ⟨left f c, f.sure, f.put⟩ := fun hp => left_pre f c h hp
theorem left_fits {f : F} (c : Int) : F.size ⟨left f c, f.sure, f.put⟩ ≤ f.size := by have := left_size f c; unfold F.size at *; simp only; omega
theorem setNow {w : World} {b k : Nat} {d : D} (h : DkIs w b d) (hk : k < 4) (s : ByteArray) (ho : (putF d k ⟨s, (d.fs k).sure, (d.fs k).put⟩).Ok) : DkIs (w.setCell ⟨b, 1 + k * 3, none⟩ (.string s)) b (putF d k ⟨s, (d.fs k).sure, (d.fs k).put⟩) := by
  refine h.of hk ho (fun i => by rw [World.frozen?_setCell]) ?_ ?_ ?_ (fun i v h1 h2 h3 hv => ?_)
  · exact World.cell?_setCell_same' _ _ _ (by rw [h.now k hk]; rfl)
  · rw [World.cell?_setCell_other _ _ _ _ (by simp)]; exact h.sure k hk
  · rw [World.cell?_setCell_other _ _ _ _ (by simp)]; exact h.put k hk
  · rw [World.cell?_setCell_other _ _ _ _ (by simp [h1])]; exact hv
set_option maxRecDepth 100000 in
set_option maxHeartbeats 2000000 in
theorem crash_any {b : Nat} {d : D} (C : List Int) (a : Option Addr) (cap : Nat) (w : World) (hC : Ints w a C) (hcap : C.length ≤ cap) (hab : C = [] ∨ Off a b) (h : DkIs w b d) :
    Calls Try.prog 20 #[.pointer (some ⟨b, 0, none⟩), .slice a C.length cap] w fun e w' => e = .returned (.tuple #[]) ∧ DkIs w' b (crash d C) ∧ Sole b w w' := by
  have c13 := h.fail
  have f13 := h.free 13 (by decide)
  have HOK := Lib.hid h.ok
  have HD0 := Lib.hid (h.setFail (d' := mid d C 0) rfl rfl (mid_ok h.ok C 0 (by decide)))
  have HC := Lib.hid hC
  have HAB := Lib.hid hab
  have HCAP := Lib.hid hcap
  have HS0 := Lib.hid (Sole.setCell b 13 w (.int .i64 ((mid d C 0).fail : Nat)))
  clear h hC hab hcap
  go_enter Try.func20, Try.ntmps20
  go_wp2
  go_loopw [1, 10] (fun ch i wr => ∃ (k : Nat) (L : List Int) (a2 : Option Addr) (c2 : Nat), k ≤ 4 ∧ i = .int .i64 (k : Nat) ∧ ch = .slice a2 L.length c2 ∧ Hid ((crashN k d.fs C).2 = L) ∧ Hid (L.length ≤ c2) ∧ Hid (L = [] ∨ Off a2 b) ∧ Hid (Ints wr a2 L) ∧ Hid (DkIs wr b (mid d C k)) ∧ Hid (Sole b w wr)) (fun _ i _ => 4 - (intOf i).toNat)
  case atStart => exact ⟨0, C, a, cap, by omega, rfl, rfl, Lib.hid rfl, HCAP, HAB, Lib.hid (HC.out.sole HS0.out HAB.out), HD0.out, HS0.out⟩
  case round =>
    obtain ⟨k, L, a2, c2, hk, rfl, rfl, HL, HLC, HA2, HI, HD, HS⟩ := hrel
    by_cases hlt : k < 4
    · have hk4 : (k : Int) < 4 := by omega
      have SU := Lib.hid (fun w h => sure_in k hlt (b := b) (d := mid d C k) w h)
      have HK := Lib.hid hlt
      obtain ⟨q, hq⟩ : ∃ q, decide (((mid d C k).fs k).now = ((mid d C k).fs k).sure) = q := ⟨_, rfl⟩
      rw [hq] at SU
      have HQ := Lib.hid hq
      clear hq
      cases q
      · obtain ⟨f, hf⟩ : ∃ f, (mid d C k).fs k = f := ⟨_, rfl⟩
        have HF := Lib.hid hf
        have HNE := Lib.hid (of_decide_eq_false HQ.out)
        clear hf HQ
        rw [HF.out] at HNE
        have HOF := Lib.hid (show f.Ok ∧ f.now.size ≤ 1099511627776 ∧ f.sure.size ≤ 1099511627776 from by rw [← HF.out]; exact ⟨HD.out.ok.ok k HK.out, (ok_now HD.out.ok k HK.out).1, (ok_now HD.out.ok k HK.out).2.1⟩)
        rcases L with _ | ⟨x, L⟩
        · skip
          have LF := Lib.hid (fun w => left_any11 f 0 (by decide) HOF.out.1 HOF.out.2.1 HOF.out.2.2 w)
          obtain ⟨hm1, hm2⟩ := mid_left d C [] k f HL.out HF.out HNE.out
          have HM := Lib.hid (show putF (putF (mid d C k) k ⟨left f 0, f.sure, f.put⟩) k ⟨left f 0, left f 0, false⟩ = mid d C (k + 1) from hm1)
          have HM2 := Lib.hid hm2
          have HPO := Lib.hid (show (putF (mid d C k) k ⟨left f 0, f.sure, f.put⟩).Ok from putF_ok HD.out.ok HK.out (left_okF HOF.out.1 _) (full_keep HD.out.ok _ _ (by rw [HF.out]; exact left_fits _)))
          clear hm1 hm2
          go_wp2_with fail
          refine (SU.out _ HD.out).mono ?_
          rintro e w2 ⟨rfl, hg2⟩
          have hd2 := HD.out.gr hg2
          have n0 := hd2.now k HK.out
          have s0 := hd2.sure k HK.out
          have p0 := hd2.put k HK.out
          have fn := hd2.free (1 + k * 3) (by omega)
          rw [HF.out] at n0 s0 p0
          have HD2 := Lib.hid hd2
          have HI2 := Lib.hid (HI.out.gr hg2)
          have HS2 := Lib.hid (HS.out.trans (Sole.of_gr hg2))
          have hblt := cell_lt n0
          clear hg2 hd2
          go_wp2_with fail
          refine (LF.out _).mono ?_
          rintro e w3 ⟨rfl, hg3⟩
          have hz3 : Gr w2 w3 := by first | exact hg3 | exact hg3.of_drew
          replace n0 := hz3.cell n0
          replace fn := (hz3.frozen hblt).trans fn
          have HD3 := Lib.hid (setNow (HD2.out.gr hz3) HK.out (left f 0) (by rw [HF.out]; exact HPO.out))
          have HS3 := Lib.hid ((HS2.out.trans (Sole.of_gr hz3)).trans (Sole.setCell b (1 + k * 3) w3 (.string (left f 0))))
          have HI3 := Lib.hid ((HI2.out.gr hz3).sole (Sole.setCell b (1 + k * 3) w3 (.string (left f 0))) (.inl rfl))
          rw [HF.out] at HD3
          have KP := Lib.hid (keep_any k HK.out _ HD3.out)
          have e5 : (putF (mid d C k) k ⟨left f 0, f.sure, f.put⟩).fs k = ⟨left f 0, f.sure, f.put⟩ := upd_same _ _ _
          rw [e5] at KP
          have KP2 := Lib.hid (show gKeep ⟨left f 0, f.sure, f.put⟩ = ⟨left f 0, left f 0, false⟩ from rfl)
          rw [KP2.out, HM.out] at KP
          clear hg3 hz3 s0 p0 e5
          generalize left f 0 = z at *
          go_wp2_with fail
          refine KP.out.mono ?_
          rintro e w5 ⟨rfl, hd5, hs5⟩
          have HD5 := Lib.hid hd5
          have HI5 := Lib.hid (HI3.out.sole hs5 (.inl rfl))
          have HS5 := Lib.hid (HS3.out.trans hs5)
          clear hd5 hs5 n0 fn
          go_wp2
          go_roundw
          case rel => exact ⟨k + 1, [], a2, c2, by omega, by go_num, rfl, HM2, HLC, Lib.hid (.inl rfl), HI5, HD5.out, HS5.out⟩
          case measure => simp [intOf]; omega
        · obtain ⟨bb, off, rfl, hcc⟩ := HI.out.2.2.resolve_left (by simp)
          have hx := hcc 0 (by simp)
          rw [List.getElem_cons_zero, Nat.add_zero] at hx
          have hxw := HI.out.2.1 x (by simp)
          have hlc := HLC.out
          rw [List.length_cons] at hlc
          have hll : L.length + 1 ≤ 9223372036854775807 := by have := HI.out.1; simpa using this
          clear hcc
          by_cases hc1 : c2 = 1
          · have HLZ := Lib.hid (show L = [] from List.length_eq_zero_iff.1 (by omega))
            have LF := Lib.hid (fun w => left_any11 f x hxw HOF.out.1 HOF.out.2.1 HOF.out.2.2 w)
            obtain ⟨hm1, hm2⟩ := mid_left d C (x :: L) k f HL.out HF.out HNE.out
            have HM := Lib.hid (show putF (putF (mid d C k) k ⟨left f x, f.sure, f.put⟩) k ⟨left f x, left f x, false⟩ = mid d C (k + 1) from hm1)
            have HM2 := Lib.hid hm2
            have HPO := Lib.hid (show (putF (mid d C k) k ⟨left f x, f.sure, f.put⟩).Ok from putF_ok HD.out.ok HK.out (left_okF HOF.out.1 _) (full_keep HD.out.ok _ _ (by rw [HF.out]; exact left_fits _)))
            clear hm1 hm2
            go_wp2_with fail
            refine (SU.out _ HD.out).mono ?_
            rintro e w2 ⟨rfl, hg2⟩
            have hd2 := HD.out.gr hg2
            have n0 := hd2.now k HK.out
            have s0 := hd2.sure k HK.out
            have p0 := hd2.put k HK.out
            have fn := hd2.free (1 + k * 3) (by omega)
            rw [HF.out] at n0 s0 p0
            have HD2 := Lib.hid hd2
            have HI2 := Lib.hid (HI.out.gr hg2)
            have HS2 := Lib.hid (HS.out.trans (Sole.of_gr hg2))
            have hblt := cell_lt n0
            have hgx := hg2
            clear hg2 hd2
            have hx2 := Gr.cell hgx hx
            go_wp2
            go_region
            go_wp2_with fail
            refine (LF.out _).mono ?_
            rintro e w3 ⟨rfl, hg3⟩
            have hz3 : Gr w2 w3 := by first | exact hg3 | exact hg3.of_drew
            replace n0 := hz3.cell n0
            replace fn := (hz3.frozen hblt).trans fn
            have HD3 := Lib.hid (setNow (HD2.out.gr hz3) HK.out (left f x) (by rw [HF.out]; exact HPO.out))
            have HS3 := Lib.hid ((HS2.out.trans (Sole.of_gr hz3)).trans (Sole.setCell b (1 + k * 3) w3 (.string (left f x))))
            have HI3 := Lib.hid ((HI2.out.gr hz3).sole (Sole.setCell b (1 + k * 3) w3 (.string (left f x))) HA2.out)
            rw [HF.out] at HD3
            have KP := Lib.hid (keep_any k HK.out _ HD3.out)
            have e5 : (putF (mid d C k) k ⟨left f x, f.sure, f.put⟩).fs k = ⟨left f x, f.sure, f.put⟩ := upd_same _ _ _
            rw [e5] at KP
            have KP2 := Lib.hid (show gKeep ⟨left f x, f.sure, f.put⟩ = ⟨left f x, left f x, false⟩ from rfl)
            rw [KP2.out, HM.out] at KP
            clear hg3 hz3 s0 p0 e5
            generalize left f x = z at *
            go_wp2_with fail
            refine KP.out.mono ?_
            rintro e w5 ⟨rfl, hd5, hs5⟩
            have HD5 := Lib.hid hd5
            have HI5 := Lib.hid (HI3.out.sole hs5 HA2.out)
            have HS5 := Lib.hid (HS3.out.trans hs5)
            clear hd5 hs5 n0 fn
            go_wp2
            go_roundw
            case rel => exact ⟨k + 1, L, some ⟨bb, off, none⟩, 0, by omega, by go_num, rfl, HM2, Lib.hid (by omega), Lib.hid (.inl HLZ.out), Lib.hid (by have h8 := HLZ.out; subst h8; exact ⟨by simp, by simp, .inl rfl⟩), HD5.out, HS5.out⟩
            case measure => simp [intOf]; omega
          · skip
            have LF := Lib.hid (fun w => left_any11 f x hxw HOF.out.1 HOF.out.2.1 HOF.out.2.2 w)
            obtain ⟨hm1, hm2⟩ := mid_left d C (x :: L) k f HL.out HF.out HNE.out
            have HM := Lib.hid (show putF (putF (mid d C k) k ⟨left f x, f.sure, f.put⟩) k ⟨left f x, left f x, false⟩ = mid d C (k + 1) from hm1)
            have HM2 := Lib.hid hm2
            have HPO := Lib.hid (show (putF (mid d C k) k ⟨left f x, f.sure, f.put⟩).Ok from putF_ok HD.out.ok HK.out (left_okF HOF.out.1 _) (full_keep HD.out.ok _ _ (by rw [HF.out]; exact left_fits _)))
            clear hm1 hm2
            go_wp2_with fail
            refine (SU.out _ HD.out).mono ?_
            rintro e w2 ⟨rfl, hg2⟩
            have hd2 := HD.out.gr hg2
            have n0 := hd2.now k HK.out
            have s0 := hd2.sure k HK.out
            have p0 := hd2.put k HK.out
            have fn := hd2.free (1 + k * 3) (by omega)
            rw [HF.out] at n0 s0 p0
            have HD2 := Lib.hid hd2
            have HI2 := Lib.hid (HI.out.gr hg2)
            have HS2 := Lib.hid (HS.out.trans (Sole.of_gr hg2))
            have hblt := cell_lt n0
            have hgx := hg2
            clear hg2 hd2
            have hx2 := Gr.cell hgx hx
            go_wp2
            go_region
            go_wp2_with fail
            refine (LF.out _).mono ?_
            rintro e w3 ⟨rfl, hg3⟩
            have hz3 : Gr w2 w3 := by first | exact hg3 | exact hg3.of_drew
            replace n0 := hz3.cell n0
            replace fn := (hz3.frozen hblt).trans fn
            have HD3 := Lib.hid (setNow (HD2.out.gr hz3) HK.out (left f x) (by rw [HF.out]; exact HPO.out))
            have HS3 := Lib.hid ((HS2.out.trans (Sole.of_gr hz3)).trans (Sole.setCell b (1 + k * 3) w3 (.string (left f x))))
            have HI3 := Lib.hid ((HI2.out.gr hz3).sole (Sole.setCell b (1 + k * 3) w3 (.string (left f x))) HA2.out)
            rw [HF.out] at HD3
            have KP := Lib.hid (keep_any k HK.out _ HD3.out)
            have e5 : (putF (mid d C k) k ⟨left f x, f.sure, f.put⟩).fs k = ⟨left f x, f.sure, f.put⟩ := upd_same _ _ _
            rw [e5] at KP
            have KP2 := Lib.hid (show gKeep ⟨left f x, f.sure, f.put⟩ = ⟨left f x, left f x, false⟩ from rfl)
            rw [KP2.out, HM.out] at KP
            clear hg3 hz3 s0 p0 e5
            generalize left f x = z at *
            go_wp2_with fail
            refine KP.out.mono ?_
            rintro e w5 ⟨rfl, hd5, hs5⟩
            have HD5 := Lib.hid hd5
            have HI5 := Lib.hid (HI3.out.sole hs5 HA2.out)
            have HS5 := Lib.hid (HS3.out.trans hs5)
            clear hd5 hs5 n0 fn
            go_wp2
            go_roundw
            case rel => exact ⟨k + 1, L, some ⟨bb, off + 1, none⟩, c2 - 1, by omega, by go_num, rfl, HM2, Lib.hid (by omega), Lib.hid (.inr (fun b1 o1 e1 => by cases e1; exact (HA2.out.resolve_left (by simp)) _ _ rfl)), Lib.hid HI5.out.tail, HD5.out, HS5.out⟩
            case measure => simp [intOf]; omega
      · obtain ⟨hm1, hm2⟩ := mid_flat d C L k HL.out (of_decide_eq_true HQ.out)
        have HM := Lib.hid hm1
        have HM2 := Lib.hid hm2
        clear hm1 hm2 HQ
        go_wp2_with fail
        refine (SU.out _ HD.out).mono ?_
        rintro e w2 ⟨rfl, hg2⟩
        have HD2 := Lib.hid (HD.out.gr hg2)
        have HI2 := Lib.hid (HI.out.gr hg2)
        have HS2 := Lib.hid (HS.out.trans (Sole.of_gr hg2))
        clear hg2
        go_wp2_with fail
        refine (keep_any k HK.out _ HD2.out).mono ?_
        rintro e w3 ⟨rfl, hd3, hs3⟩
        rw [HM.out] at hd3
        have HD3 := Lib.hid hd3
        have HI3 := Lib.hid (HI2.out.sole hs3 HA2.out)
        have HS3 := Lib.hid (HS2.out.trans hs3)
        clear hd3 hs3
        go_wp2
        go_roundw
        case rel => exact ⟨k + 1, L, a2, c2, by omega, by go_num, rfl, HM2, HLC, HA2, HI3, HD3.out, HS3.out⟩
        case measure => simp [intOf]; omega
    · obtain rfl : k = 4 := by omega
      go_wp2
      go_end0
      exact ⟨rfl, HD.out, HS.out⟩
end Go.Proofs.Ytjllnojhhlkpoaa
