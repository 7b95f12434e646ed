import Derived.Test.YtgbicckclepplaaDoorL03f
import Derived.Test.YtgbicckclepplaaDoorL03d
import Derived.WalkKit
import Derived.ProofKit
import Derived.LoopTactic
import Derived.Outline
import Derived.WalkSpells
import Derived.WalkLawsBesides
import Derived.Lib.Hide
import Derived.Deep.LoopGhost
import Derived.Deep.QuietTactic
import Derived.BigQuiet
import Derived.ShutString
import Derived.Laws.Pointers
import Derived.Deep.RegionWith
import Derived.Deep.RegionHeld3
namespace Go.Proofs.YtgbicckclepplaaDoor
open Go.ChangeShapes Go.WideShapes Go.ChangeAt Go.RowKit
set_option linter.unusedVariables false
theorem hasOf_none {M : List Lk} (h : firstF M = none) (c : Int) : hasOf M c = false := by
  induction M with
  | nil => rfl
  | cons x t ih =>
    cases x with
    | other => rw [hasOf_other]; exact ih h
    | fault c2 s2 => cases h
theorem codeOf_some {M M' : List Lk} {c : Int} {s : ByteArray} (h : firstF M = some (c, s, M')) : codeOf M = c := by
  unfold codeOf
  cases M with
  | nil => cases h
  | cons x t => rw [h]
def elsewhere : ByteArray := ⟨#[101, 108, 115, 101, 119, 104, 101, 114, 101]⟩
theorem elsewhere_ne : elsewhere.toList.isEmpty = false := by decide +kernel
set_option maxRecDepth 100000 in
set_option maxHeartbeats 2000000 in
theorem faultIs_walk (L : List LinkD) (a : Option Addr) (cap : Nat) (c0 : Int) (w : World) (hst : LinkRow w a L) (he : ET w) :
    Calls Tryd.prog 5 #[.slice a L.length cap, .int .i64 c0] w fun e w' => e = .returned (.bool true) ∧ Gr w w' := by
  have HST := Lib.hid hst
  have HE := Lib.hid he
  have hk := fewKs_small L
  have hkl := fewKs_len L
  obtain ⟨m1, m2⟩ := tmod_bd c0
  have hcd : 1 ≤ 1 + c0.tmod 22 % 22 ∧ 1 + c0.tmod 22 % 22 ≤ 22 := by omega
  obtain ⟨d1, d2⟩ := hcd
  clear hst he
  go_enter Tryd.func5, Tryd.ntmps5
  go_wp2_with fail
  refine (awake3 _ HE.out).mono ?_
  rintro e w1 ⟨rfl, hg1⟩
  have HG1 := Lib.hid hg1
  clear hg1
  go_wp2_with fail
  refine (few3_any L a cap _ (HST.out.gr HG1.out)).mono ?_
  rintro e w2 ⟨a2, cap2, rfl, hrow, hg2⟩
  have HR := Lib.hid hrow
  have HG2 := Lib.hid (HG1.out.trans hg2)
  clear hrow hg2
  generalize fewKs L = K at *
  have HK := Lib.hid hk
  have hK10 : K.length ≤ 10 := by omega
  clear hk hkl
  go_wp2_with fail
  generalize 1 + c0.tmod 22 % 22 = cd at *
  have tc : (cd == 0) = false := by simp; omega
  refine (chainB_any K a2 cap2 _ HR.out (by omega)).mono ?_
  rintro e w3 ⟨u, rfl, hch, hg3⟩
  have HC := Lib.hid (hch.mono (ok' := (· < w3.heap.size)) (fun b hb _ => hb))
  have HR3 := Lib.hid (HR.out.gr hg3)
  have HG3 := Lib.hid (HG2.out.trans hg3)
  clear hg3 hch
  have hml : (K.map lkOf).length ≤ 999 := by simp; omega
  go_wp2_with fail
  refine (ofB_any cd _ tc).mono ?_
  rintro e w4 ⟨ut, rfl, hut, hg4⟩
  obtain ⟨nt, vt, rfl, hnt, hbt, hvt⟩ := hut
  obtain rfl : vt = .nilIface := hvt
  have HT := Lib.hid (show Target w4 nt cd true from ⟨_, hbt, .inl ⟨rfl, rfl⟩⟩)
  have HC4 := Lib.hid (HC.out.gr hg4)
  have HN4 := Lib.hid ((HC.out.gr hg4).mono (ok' := (· ≠ nt)) (fun b _ h => by omega))
  have HR4 := Lib.hid (HR3.out.gr hg4)
  have HG4 := Lib.hid (HG3.out.trans hg4)
  have hsz4 := hg4.size
  clear hg4 hbt
  go_wp2_with fail
  refine (isTop_any _ _ nt cd true _ _ HN4.out (Gr.refl _) HT.out).mono ?_
  rintro e w5 ⟨rfl, hg5⟩
  have HC5 := Lib.hid (HC4.out.gr hg5)
  have HR5 := Lib.hid (HR4.out.gr hg5)
  have HG5 := Lib.hid (HG4.out.trans hg5)
  have hsz5 := hg5.size
  clear hg5
  rw [Bool.true_and]
  go_wp2_with fail
  refine (refHas_any K a2 cap2 cd _ HR5.out).mono ?_
  rintro e w6 ⟨rfl, hg6⟩
  have HC6 := Lib.hid (HC5.out.gr hg6)
  have HR6 := Lib.hid (HR5.out.gr hg6)
  have HG6 := Lib.hid (HG5.out.trans hg6)
  have hsz6 := hg6.size
  clear hg6
  generalize hasOf (K.map lkOf) cd = hv at *
  have HES := Lib.hid elsewhere_ne
  have hvv : (hv != hv) = false := by cases hv <;> rfl
  go_wp2_with fail
  refine (newB_any cd elsewhere _ tc).mono ?_
  rintro e w7 ⟨ue, rfl, hue, hg7⟩
  obtain ⟨ne, ve, rfl, hne, hbe, hve⟩ := hue
  obtain rfl : ve = .nilIface := hve
  have HT7 := Lib.hid (show Target w7 ne cd false from ⟨_, hbe, .inr ⟨rfl, HES.out⟩⟩)
  have HN7 := Lib.hid ((HC6.out.gr hg7).mono (ok' := (· ≠ ne)) (fun b _ h => by omega))
  have HC7 := Lib.hid (HC6.out.gr hg7)
  have HR7 := Lib.hid (HR6.out.gr hg7)
  have HG7 := Lib.hid (HG6.out.trans hg7)
  clear hg7 hbe
  go_wp2_with fail
  refine (isTop_any _ _ ne cd false _ _ HN7.out (Gr.refl _) HT7.out).mono ?_
  rintro e w8 ⟨rfl, hg8⟩
  have HC8 := Lib.hid (HC7.out.gr hg8)
  have HR8 := Lib.hid (HR7.out.gr hg8)
  have HG8 := Lib.hid (HG7.out.trans hg8)
  clear hg8
  rw [Bool.false_and]
  go_wp2_with fail
  refine (asTop_any _ _ w8.heap.size (.pointer none) w8 _ HC8.out.chain ((Gr.refl w8).alloc _) (new_cell rfl rfl) (new_free rfl) ((HE.out.gr HG8.out).gr ((Gr.refl w8).alloc _))).mono ?_
  intro e w9 hA9
  cases hF : firstF (K.map lkOf) with
  | none =>
    obtain ⟨rfl, hg9⟩ := asIs_none hF hA9
    have HH := Lib.hid (hasOf_none hF (codeOf (K.map lkOf)))
    have HR9 := Lib.hid ((HR8.out.gr ((Gr.refl w8).alloc _)).gr hg9)
    have HG9 := Lib.hid ((HG8.out.alloc _).trans hg9)
    clear hA9 hg9 hF
    go_wp2_with fail
    refine (refCode_any K a2 cap2 _ HR9.out).mono ?_
    rintro e wa ⟨rfl, hga⟩
    have HRa := Lib.hid (HR9.out.gr hga)
    have HGa := Lib.hid (HG9.out.trans hga)
    clear hga
    go_wp2_with fail
    refine (refHas_any K a2 cap2 _ _ HRa.out).mono ?_
    rintro e wb ⟨rfl, hgb⟩
    rw [HH.out]
    have HGb := Lib.hid (HGa.out.trans hgb)
    clear hgb
    go_wp2
    go_ret
    exact ⟨by first | rfl | (simp; done), HGb.out⟩
  | some x =>
    obtain ⟨c, s, M'⟩ := x
    obtain ⟨rfl, bf, hfa, hh⟩ := asIs_some hF hA9
    have HCO := Lib.hid (codeOf_some hF)
    have hgr := hh.gr ((Gr.refl w8).alloc _) (Nat.le_refl _)
    obtain ⟨k0, -, -⟩ := hfa.gr hgr
    have fc := hh.2.1
    have HR9 := Lib.hid (HR8.out.gr hgr)
    have HG9 := Lib.hid (HG8.out.trans hgr)
    clear hA9 hF hh hgr hfa
    go_wp2
    go_region_held3 (fun w' => Gr w9 w' ∧ w'.cell? ⟨w8.heap.size, 0, none⟩ = some (.pointer (some ⟨bf, 0, none⟩)) ∧ w'.cell? ⟨bf, 0, none⟩ = some (.int .i64 c)) (first | exact ⟨Gr.refl _, fc, k0⟩ | exact ⟨(Gr.refl _).drew, fc, k0⟩ | (go_split_ands; refine ⟨Gr.trans ?_ hga, hga.cell ?_, hga.cell ?_⟩ <;> assumption)) (first | (go_at_call 16; go_split_ands; refine (refCode_any K a2 cap2 _ (HR9.out.gr (by assumption))).mono ?_; rintro e wa ⟨rfl, hga⟩; rw [HCO.out]))
    go_split_ands
    go_wp2
    go_ret
    exact ⟨by first | rfl | (simp; done), HG9.out.trans (by assumption)⟩
end Go.Proofs.YtgbicckclepplaaDoor
