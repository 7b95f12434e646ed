import Derived.Test.YtgbicckclepplaaDoorL03d
import Derived.WalkKit
import Derived.ProofKit
import Derived.LoopTactic
import Derived.Outline
import Derived.WalkSpells
import Derived.WalkLawsBesides
import Derived.Lib.Hide
import Derived.Deep.LoopGhost
import Derived.Deep.QuietTactic
import Derived.BigQuiet
import Derived.ShutString
import Derived.Laws.Pointers
import Derived.OwnWalk
import Derived.Laws.AppendOwnNone
namespace Go.Proofs.YtgbicckclepplaaDoor
open Go.ChangeShapes Go.WideShapes Go.ChangeAt Go.RowKit
set_option linter.unusedVariables false
theorem faultError_any (b : Nat) (M : List Lk) (w : World) (hL : M.length ≤ 1000) (hs : Short 1000 M) (hc : Codes M) (h : Chain w (.iface 45 (.pointer (some ⟨b, 0, none⟩))) M) (he : ET w) :
    Calls Tryd.prog 27 #[.pointer (some ⟨b, 0, none⟩)] w fun e w' => e = .returned (.string (textP M)) ∧ Gr w w' := by
  have HV := Lib.hid h
  have HE := Lib.hid he
  have HS := Lib.hid hs
  have HC := Lib.hid hc
  clear h he hs hc
  go_enter Tryd.func27, Tryd.ntmps27
  go_wp2_with fail
  refine (text_all _ M _ hL HS.out HC.out HV.out HE.out).mono ?_
  rintro e w1 ⟨rfl, hg⟩
  generalize hx : textP M = tx at *
  have HX := Lib.hid hx
  clear hx
  go_wp2
  go_ret
  exact ⟨by rw [HX.out]; rfl, hg⟩
theorem few3_nil (a : Option Addr) (cap : Nat) (w : World) : Calls Tryd.prog 11 #[.slice a 0 cap] w fun e w' => e = .returned (.slice none 0 0) ∧ w = w' := by
  go_enter Tryd.func11, Tryd.ntmps11
  go_wp2
  go_loopw [3, 4] (fun v i wr => v = .slice none 0 0 ∧ i = .int .i64 0 ∧ w = wr) (fun _ _ _ => 0)
  case atStart => exact ⟨rfl, rfl, rfl⟩
  case round =>
    obtain ⟨rfl, rfl, rfl⟩ := hrel
    go_wp2
    go_ret
    exact ⟨rfl, rfl⟩
set_option maxRecDepth 100000 in
set_option maxHeartbeats 1000000 in
theorem faultUnwraps_in (L : List LinkD) (a : Option Addr) (cap : Nat) (c0 : Int) (s0 T : ByteArray) (w : World) (hst : LinkRow w a L) (hs : s0.size ≤ 9223372036854775807) (hT : 20 < s0.size ∧ s0.extract 0 20 = T ∨ s0.size ≤ 20 ∧ T = s0) (he : ET w) (hL0 : L ≠ []) :
    Calls Tryd.prog 8 #[.slice a L.length cap, .int .i64 c0, .string s0] w fun e w' => e = .returned (.bool true) ∧ Gr w w' := by
  obtain ⟨i0, hi, hz0, hz1, hz2⟩ := info_parts info_link
  have HST := Lib.hid hst
  have HE := Lib.hid he
  have hk := fewKs_small L
  have hkl := fewKs_len L
  have hL1 : 0 < L.length := List.length_pos_iff.2 hL0
  have hT20 : T.size ≤ 20 := by
    rcases hT with ⟨h1, rfl⟩ | ⟨h1, rfl⟩
    · simp; omega
    · exact h1
  obtain ⟨m1, m2⟩ := tmod_bd c0
  have hcd : 1 ≤ 1 + c0.tmod 22 % 22 ∧ 1 + c0.tmod 22 % 22 ≤ 22 := by omega
  obtain ⟨d1, d2⟩ := hcd
  have q1 := eqNN
  have q2 := eqIN
  clear hst he
  rcases hT with ⟨h1, hT2⟩ | ⟨h1, rfl⟩
  all_goals
    go_enter Tryd.func8, Tryd.ntmps8
    go_wp2_with fail
    refine (awake3 _ HE.out).mono ?_
    rintro e w1 ⟨rfl, hg1⟩
    have HG1 := Lib.hid hg1
    clear hg1
    go_wp2_with fail
    refine (few3_any L a cap _ (HST.out.gr HG1.out)).mono ?_
    rintro e w2 ⟨a2, cap2, rfl, hrow, hg2⟩
    have HR := Lib.hid hrow
    have HG2 := Lib.hid (HG1.out.trans hg2)
    clear hrow hg2
    generalize fewKs L = K at *
    have HK := Lib.hid hk
    have hK10 : K.length ≤ 10 := by omega
    have hK0 : K ≠ [] := by intro h; rw [h] at hkl; simp at hkl; omega
    have tK : ((K.length : Int) == 0) = false := by rw [beq_eq_false_iff_ne]; intro h; apply hK0; exact List.length_eq_zero_iff.1 (by omega)
    clear hk hkl
    go_wp2_with fail
    refine (chain_any K a2 cap2 _ HR.out (by omega)).mono ?_
    rintro e w3 ⟨u, rfl, hch, hg3⟩
    have HC := Lib.hid hch
    have HR3 := Lib.hid (HR.out.gr hg3)
    have HG3 := Lib.hid (HG2.out.trans hg3)
    have hIE := hch.isErr
    clear hg3 hch
    have hml : (K.map lkOf).length ≤ 999 := by simp; omega
    generalize 1 + c0.tmod 22 % 22 = cd at *
    have HSH := Lib.hid (chain_short HK.out)
    have HCD := Lib.hid (codes_small HK.out)
    have HSH2 := Lib.hid (show Short 1000 (.fault cd T :: K.map lkOf) from by
      intro c s hm
      rcases List.mem_cons.1 hm with h | h
      · cases h; omega
      · exact HSH.out c s h)
    have HCD2 := Lib.hid (show Codes (.fault cd T :: K.map lkOf) from by
      intro c s hm
      rcases List.mem_cons.1 hm with h | h
      · cases h; omega
      · exact HCD.out c s h)
    have HSM := Lib.hid (show ∀ p ∈ (⟨false, cd, T⟩ :: K : List LinkD), p.small from by
      intro p hp
      rcases List.mem_cons.1 hp with rfl | hp
      · exact ⟨d1, d2, hT20⟩
      · exact HK.out p hp)
    have HMM := Lib.hid (show (⟨false, cd, T⟩ :: K : List LinkD).map lkOf = .fault cd T :: K.map lkOf from rfl)
    have HCC := Lib.hid (codeOf_cons cd T (K.map lkOf))

    rcases hIE with rfl | ⟨ut, ua, rfl⟩
    · exact absurd (chain_nil HC.out) (by simpa using hK0)
    · skip
      have HB := Lib.hid (fault_new (w := w3) (t := 49) (c := cd) (s := T) HC.out)
      have HGB := Lib.hid (HG3.out.alloc (.cells #[.int .i64 cd, .string T, .iface ut (.pointer ua)] 49))
      have HRB := Lib.hid (HR3.out.gr ((Gr.refl w3).alloc (.cells #[.int .i64 cd, .string T, .iface ut (.pointer ua)] 49)))
      have HCB := Lib.hid (HC.out.gr ((Gr.refl w3).alloc (.cells #[.int .i64 cd, .string T, .iface ut (.pointer ua)] 49)))
      have HU2 := Lib.hid (show (w3.alloc (.cells #[.int .i64 cd, .string T, .iface ut (.pointer ua)] 49)).cell? ⟨w3.heap.size, 2, none⟩ = some (.iface ut (.pointer ua)) from new_cell rfl rfl)
      obtain ⟨bs, os, rfl, hsrc⟩ := src_cells (HRB.out.gr ((Gr.refl (w3.alloc (.cells #[.int .i64 cd, .string T, .iface ut (.pointer ua)] 49))).alloc (.cells #[.bool false, .int .i64 cd, .string T] 39))) hK0
      have HSRC := Lib.hid hsrc
      have hown : ((w3.alloc (.cells #[.int .i64 cd, .string T, .iface ut (.pointer ua)] 49)).alloc (.cells #[.bool false, .int .i64 cd, .string T] 39)).ownsRow (w3.heap.size + 1) 39 3 (.slice (some ⟨w3.heap.size + 1, 0, none⟩) 1 1) 1 [.bool false, .int .i64 cd, .string T] := by
        have := own_one (w3.alloc (.cells #[.int .i64 cd, .string T, .iface ut (.pointer ua)] 49)) (.bool false) (.int .i64 cd) (.string T); simpa using this
      clear hsrc
      go_wp2_with (at_builtin; refine wpList_append_own _ rfl _ _ 22 rfl (w3.heap.size + 1) 39 i0 (.agg #[.bool false, .int .i64 0, .string ⟨#[]⟩]) 3 32 Tryd.underlying22 hi hz0 hz1 hz2 rfl (by decide) _ _ _ rfl hown ⟨bs, os, none⟩ K.length cap2 (linkCells K) rfl (linkCells_len K) HSRC.out linkCells_one ?c3 ?c4 ?c5 ?_)
      case c3 => unfold maxLen; omega
      case c4 => omega
      case c5 => simp
      intro v' w9 hown9 hgrow _
      have HG9 := Lib.hid (((Gr.refl (w3.alloc (.cells #[.int .i64 cd, .string T, .iface ut (.pointer ua)] 49))).alloc (.cells #[.bool false, .int .i64 cd, .string T] 39)).append (by simpa using hown) hgrow)
      obtain ⟨a9, cap9, rfl, hr9⟩ := links_of_row (l := ⟨false, cd, T⟩ :: K) (by rw [List.length_cons, Nat.add_comm]; exact hown9) (fun p hp => small_ok (HSM.out p hp)) (by simp; omega)
      clear hown9 hgrow hown
      have HR9 := Lib.hid hr9
      have HB9 := Lib.hid (HB.out.gr HG9.out)
      have HC9 := Lib.hid (HCB.out.gr HG9.out)
      have HRK := Lib.hid (HRB.out.gr HG9.out)
      have HGA := Lib.hid (HGB.out.trans HG9.out)
      have HU9 := Lib.hid (HG9.out.cell HU2.out)
      clear hr9
      go_wp2_with fail
      refine (faultError_any w3.heap.size _ _ (by simp; omega) HSH2.out HCD2.out HB9.out (HE.out.gr HGA.out)).mono ?_
      rintro e wa ⟨rfl, hga⟩
      have HRa := Lib.hid (HR9.out.gr hga)
      have HGB2 := Lib.hid (HGA.out.trans hga)
      have HUa := Lib.hid (hga.cell HU9.out)
      have HBa := Lib.hid (HB9.out.gr hga)
      have HCa := Lib.hid (HC9.out.gr hga)
      have HRKa := Lib.hid (HRK.out.gr hga)
      clear hga
      go_wp2_with fail
      refine (refText_all _ a9 cap9 _ HRa.out (by simp; omega) HSM.out).mono ?_
      rintro e wb ⟨rfl, hgb⟩
      rw [HMM.out]
      have HGC := Lib.hid (HGB2.out.trans hgb)
      have HUb := Lib.hid (hgb.cell HUa.out)
      have HBb := Lib.hid (HBa.out.gr hgb)
      have HCb := Lib.hid (HCa.out.gr hgb)
      have HRKb := Lib.hid (HRKa.out.gr hgb)
      clear hgb
      generalize textP (.fault cd T :: K.map lkOf) = tx at *
      go_wp2_with fail
      refine (faultUnwrap_any w3.heap.size _ _ HUb.out).mono ?_
      rintro e wc ⟨rfl, rfl⟩
      go_wp2_with fail
      refine (text_all _ _ _ (by omega) HSH.out HCD.out HCb.out (HE.out.gr HGC.out)).mono ?_
      rintro e wd ⟨rfl, hgd⟩
      have HGD := Lib.hid (HGC.out.trans hgd)
      have HUd := Lib.hid (hgd.cell HUb.out)
      have HBd := Lib.hid (HBb.out.gr hgd)
      have HRKd := Lib.hid (HRKb.out.gr hgd)
      clear hgd
      go_wp2_with fail
      refine (refText_all K _ _ _ HRKd.out (by omega) HK.out).mono ?_
      rintro e we ⟨rfl, hge⟩
      have HGE := Lib.hid (HGD.out.trans hge)
      have HUe := Lib.hid (hge.cell HUd.out)
      have HBe := Lib.hid (HBd.out.gr hge)
      clear hge
      generalize textP (K.map lkOf) = tk at *
      go_wp2_with fail
      refine (faultUnwrap_any w3.heap.size _ _ HUe.out).mono ?_
      rintro e wf ⟨rfl, rfl⟩
      go_wp2_with fail
      refine (code_any _ _ _ (by simp; omega) HBe.out (HE.out.gr HGE.out)).mono ?_
      rintro e wg ⟨rfl, hgg⟩
      rw [HCC.out]
      have HGF := Lib.hid (HGE.out.trans hgg)
      clear hgg
      go_wp2
      go_ret
      exact ⟨by first | rfl | (simp; done) | (simp; omega), HGF.out⟩
set_option maxRecDepth 100000 in
set_option maxHeartbeats 1000000 in
theorem faultUnwraps_nil (a : Option Addr) (cap : Nat) (c0 : Int) (s0 T : ByteArray) (w : World) (hs : s0.size ≤ 9223372036854775807) (hT : 20 < s0.size ∧ s0.extract 0 20 = T ∨ s0.size ≤ 20 ∧ T = s0) (he : ET w) :
    Calls Tryd.prog 8 #[.slice a 0 cap, .int .i64 c0, .string s0] w fun e w' => e = .returned (.bool true) ∧ Gr w w' := by
  obtain ⟨i0, hi, hz0, hz1, hz2⟩ := info_parts info_link
  have HE := Lib.hid he
  have hT20 : T.size ≤ 20 := by
    rcases hT with ⟨h1, rfl⟩ | ⟨h1, rfl⟩
    · simp; omega
    · exact h1
  obtain ⟨m1, m2⟩ := tmod_bd c0
  have hcd : 1 ≤ 1 + c0.tmod 22 % 22 ∧ 1 + c0.tmod 22 % 22 ≤ 22 := by omega
  obtain ⟨d1, d2⟩ := hcd
  have q1 := eqNN
  have q2 := eqIN
  clear he
  rcases hT with ⟨h1, hT2⟩ | ⟨h1, rfl⟩
  all_goals
    go_enter Tryd.func8, Tryd.ntmps8
    go_wp2_with fail
    refine (awake3 _ HE.out).mono ?_
    rintro e w1 ⟨rfl, hg1⟩
    have HG1 := Lib.hid hg1
    clear hg1
    go_wp2_with fail
    refine (few3_nil a cap _).mono ?_
    rintro e w2 ⟨rfl, rfl⟩
    have HR := Lib.hid (show LinkRow w1 none [] from ⟨by simp, by simp, .inl rfl⟩)
    go_wp2_with fail
    refine (chain_any [] none 0 _ HR.out (by simp)).mono ?_
    rintro e w3 ⟨u, rfl, hch, hg3⟩
    have HR3 := Lib.hid (HR.out.gr hg3)
    have HG3 := Lib.hid (HG1.out.trans hg3)
    obtain rfl : u = .nilIface := hch
    have HC := Lib.hid (show Chain w3 .nilIface [] from rfl)
    clear hg3
    generalize 1 + c0.tmod 22 % 22 = cd at *
    have HKN := Lib.hid (show ∀ p ∈ ([] : List LinkD), p.small by simp)
    have HSH := Lib.hid (show Short 1000 ([] : List Lk) by intro c s h; simp at h)
    have HCD := Lib.hid (show Codes ([] : List Lk) by intro c s h; simp at h)
    have HSH2 := Lib.hid (show Short 1000 (.fault cd T :: ([] : List Lk)) from by
      intro c s hm
      rcases List.mem_cons.1 hm with h | h
      · cases h; omega
      · exact HSH.out c s h)
    have HCD2 := Lib.hid (show Codes (.fault cd T :: ([] : List Lk)) from by
      intro c s hm
      rcases List.mem_cons.1 hm with h | h
      · cases h; omega
      · exact HCD.out c s h)
    have HSM := Lib.hid (show ∀ p ∈ (⟨false, cd, T⟩ :: [] : List LinkD), p.small from by
      intro p hp
      rcases List.mem_cons.1 hp with rfl | hp
      · exact ⟨d1, d2, hT20⟩
      · exact HKN.out p hp)
    have HMM := Lib.hid (show ([⟨false, cd, T⟩] : List LinkD).map lkOf = [.fault cd T] from rfl)
    have HCC := Lib.hid (codeOf_cons cd T [])

    have HB := Lib.hid (fault_new (w := w3) (t := 49) (c := cd) (s := T) HC.out)
    have HGB := Lib.hid (HG3.out.alloc (.cells #[.int .i64 cd, .string T, .nilIface] 49))
    have HRB := Lib.hid (HR3.out.gr ((Gr.refl w3).alloc (.cells #[.int .i64 cd, .string T, .nilIface] 49)))
    have HCB := Lib.hid (HC.out.gr ((Gr.refl w3).alloc (.cells #[.int .i64 cd, .string T, .nilIface] 49)))
    have HU2 := Lib.hid (show (w3.alloc (.cells #[.int .i64 cd, .string T, .nilIface] 49)).cell? ⟨w3.heap.size, 2, none⟩ = some .nilIface from new_cell rfl rfl)
    have hown : ((w3.alloc (.cells #[.int .i64 cd, .string T, .nilIface] 49)).alloc (.cells #[.bool false, .int .i64 cd, .string T] 39)).ownsRow (w3.heap.size + 1) 39 3 (.slice (some ⟨w3.heap.size + 1, 0, none⟩) 1 1) 1 [.bool false, .int .i64 cd, .string T] := by
        have := own_one (w3.alloc (.cells #[.int .i64 cd, .string T, .nilIface] 49)) (.bool false) (.int .i64 cd) (.string T); simpa using this
    go_wp2_with (at_builtin; refine wpList_append_own_none rfl _ _ 22 rfl (w3.heap.size + 1) 39 i0 3 Tryd.underlying22 hi _ _ _ rfl hown rfl ?_)
    go_wp2_with fail
    have HG9 := Lib.hid ((Gr.refl (w3.alloc (.cells #[.int .i64 cd, .string T, .nilIface] 49))).alloc (.cells #[.bool false, .int .i64 cd, .string T] 39))
    obtain ⟨a9, cap9, hv9, hr9⟩ := links_of_row (l := [⟨false, cd, T⟩]) (show _ from hown) (fun p hp => small_ok (HSM.out p hp)) (by simp)
    injection hv9 with hv9a hv9b hv9c
    subst hv9a hv9c
    clear hv9b
    generalize (w3.alloc (.cells #[.int .i64 cd, .string T, .nilIface] 49)).alloc (.cells #[.bool false, .int .i64 cd, .string T] 39) = w9 at *
    clear hown
    have HR9 := Lib.hid hr9
    have HB9 := Lib.hid (HB.out.gr HG9.out)
    have HC9 := Lib.hid (HCB.out.gr HG9.out)
    have HRK := Lib.hid (HRB.out.gr HG9.out)
    have HGA := Lib.hid (HGB.out.trans HG9.out)
    have HU9 := Lib.hid (HG9.out.cell HU2.out)
    clear hr9
    refine (faultError_any w3.heap.size _ _ (by simp) HSH2.out HCD2.out HB9.out (HE.out.gr HGA.out)).mono ?_
    rintro e wa ⟨rfl, hga⟩
    have HRa := Lib.hid (HR9.out.gr hga)
    have HGB2 := Lib.hid (HGA.out.trans hga)
    have HUa := Lib.hid (hga.cell HU9.out)
    have HBa := Lib.hid (HB9.out.gr hga)
    have HCa := Lib.hid (HC9.out.gr hga)
    have HRKa := Lib.hid (HRK.out.gr hga)
    clear hga
    go_wp2_with fail
    refine (refText_all [⟨false, cd, T⟩] _ _ _ HRa.out (by simp) HSM.out).mono ?_
    rintro e wb ⟨rfl, hgb⟩
    rw [HMM.out]
    have HGC := Lib.hid (HGB2.out.trans hgb)
    have HUb := Lib.hid (hgb.cell HUa.out)
    have HBb := Lib.hid (HBa.out.gr hgb)
    have HCb := Lib.hid (HCa.out.gr hgb)
    have HRKb := Lib.hid (HRKa.out.gr hgb)
    clear hgb
    generalize textP [.fault cd T] = tx at *
    go_wp2_with fail
    refine (faultUnwrap_any w3.heap.size _ _ HUb.out).mono ?_
    rintro e wc ⟨rfl, rfl⟩
    go_wp2_with fail
    refine (text_all _ _ _ (by simp) HSH.out HCD.out HCb.out (HE.out.gr HGC.out)).mono ?_
    rintro e wd ⟨rfl, hgd⟩
    have HGD := Lib.hid (HGC.out.trans hgd)
    have HUd := Lib.hid (hgd.cell HUb.out)
    have HBd := Lib.hid (HBb.out.gr hgd)
    have HRKd := Lib.hid (HRKb.out.gr hgd)
    clear hgd
    go_wp2_with fail
    refine (refText_all [] _ _ _ HRKd.out (by simp) (by simp)).mono ?_
    rintro e we ⟨rfl, hge⟩
    rw [show ([] : List LinkD).map lkOf = ([] : List Lk) from rfl]
    have HGE := Lib.hid (HGD.out.trans hge)
    have HUe := Lib.hid (hge.cell HUd.out)
    have HBe := Lib.hid (HBd.out.gr hge)
    clear hge
    generalize textP ([] : List Lk) = tk at *
    go_wp2_with fail
    refine (faultUnwrap_any w3.heap.size _ _ HUe.out).mono ?_
    rintro e wf ⟨rfl, rfl⟩
    go_wp2_with fail
    refine (code_any _ _ _ (by simp) HBe.out (HE.out.gr HGE.out)).mono ?_
    rintro e wg ⟨rfl, hgg⟩
    rw [HCC.out]
    have HGF := Lib.hid (HGE.out.trans hgg)
    clear hgg
    go_wp2
    go_ret
    exact ⟨by first | rfl | (simp; done) | (simp; omega), HGF.out⟩
theorem faultUnwraps_walk (L : List LinkD) (a : Option Addr) (cap : Nat) (c0 : Int) (s0 : ByteArray) (w : World) (hst : LinkRow w a L) (hs : s0.size ≤ maxLen) (he : ET w) :
    Calls Tryd.prog 8 #[.slice a L.length cap, .int .i64 c0, .string s0] w fun e w' => e = .returned (.bool true) ∧ Gr w w' := by
  have hT : ∃ T, 20 < s0.size ∧ s0.extract 0 20 = T ∨ s0.size ≤ 20 ∧ T = s0 := by
    by_cases h : 20 < s0.size
    · exact ⟨_, .inl ⟨h, rfl⟩⟩
    · exact ⟨s0, .inr ⟨by omega, rfl⟩⟩
  obtain ⟨T, hT⟩ := hT
  by_cases hL : L = []
  · subst hL
    exact faultUnwraps_nil a cap c0 s0 T w hs hT he
  · exact faultUnwraps_in L a cap c0 s0 T w hst hs hT he hL
end Go.Proofs.YtgbicckclepplaaDoor
