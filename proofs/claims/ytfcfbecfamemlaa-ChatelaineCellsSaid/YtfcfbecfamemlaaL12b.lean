import Derived.Test.YtfcfbecfamemlaaJ12
import Derived.Test.YtfcfbecfamemlaaC12
import Derived.Test.YtfcfbecfamemlaaC02
import Derived.Test.YtfcfbecfamemlaaC22
import Derived.WalkKit
import Derived.ProofKit
import Derived.LoopTactic
import Derived.Outline
import Derived.WalkSpells
import Derived.WalkLawsBesides
import Derived.Lib.Hide
import Derived.Deep.LoopGhost
import Derived.Deep.QuietTactic
import Derived.BigQuiet
import Derived.ShutString
import Derived.IntWalk
import Derived.Lib.MinMax
import Derived.Deep.RegionWith
import Derived.Deep.RegionHeld3
namespace Go.Proofs.Ytfcfbecfamemlaa
open Go.ChangeShapes Go.WideShapes Go.ChangeAt Go.RowKit
open Dk Enc
set_option linter.unusedVariables false
set_option linter.unusedSimpArgs false
/-- A settled disk: what is known of it. -/
structure Calm (B r f v : Nat) (t : ByteArray) (Q : D) : Prop where
  bd : Bd B Q.fs
  room : Q.room = r
  fail : Q.fail = 0
  a : Q.fs f = flat (hv v t)
  b : Q.fs (f + 1) = flat (hv v t)
  z : v = 0 → t = ⟨#[]⟩
theorem calm_new (B r f : Nat) : Calm B r f 0 ⟨#[]⟩ (new r) := ⟨bd_new r B, rfl, rfl, rfl, rfl, fun _ => rfl⟩
theorem Calm.opens {B r f v : Nat} {t : ByteArray} {Q : D} (h : Calm B r f v t Q) (hok : Q.Ok) (hr : 5 * B ≤ r) (hf : f + 1 < 4) (hv : v ≤ 1000000) (ht : t.size ≤ 600000) : ∃ Q', openM Q f (f + 1) = (Q', 0, v, t) ∧ Calm B r f v t Q' := by
  obtain ⟨Q', e, _, h2, h3, h4, _, h5, h6⟩ := open_settled hok h.bd (by rw [h.room]; exact hr) h.fail rfl hf hv ht h.z h.a h.b
  exact ⟨Q', e, h4, h2.trans h.room, h3, h5, h6, h.z⟩
theorem Calm.crashes {B r f v : Nat} {t : ByteArray} {Q : D} (h : Calm B r f v t Q) (hf : f + 1 < 4) (ch : List Int) : Calm B r f v t (crash Q ch) :=
  ⟨crash_bd ch h.bd, h.room, rfl, crash_flat ch (by omega) h.a, crash_flat ch hf h.b, h.z⟩
theorem Calm.writes {B r f v : Nat} {t u : ByteArray} {Q : D} (h : Calm B r f v t Q) (hok : Q.Ok) (hr : 5 * B ≤ r) (hf : f + 1 < 4) (hu : u.size + 26 ≤ B) : ∃ Q', wr Q f (spell (v + 1) u) = (Q', 0) ∧ Calm B r f (v + 1) u Q' := by
  obtain ⟨Q', _, h2, h3, _, hw⟩ := wr_ways hok h.bd (by rw [h.room]; exact hr) f (f + 1) rfl hf (hv v t) (spell (v + 1) u) (Nat.le_trans (spell_le _ _) hu) h.a h.b
  rcases hw with ⟨_, hne, _⟩ | ⟨e, ha, hb, hz⟩
  · exact absurd h.fail hne
  · exact ⟨Q', e, h3, h2.trans h.room, hz h.fail, by rw [hv_pos (by omega)]; exact ha, by rw [hv_pos (by omega)]; exact hb, fun e0 => by omega⟩
set_option maxRecDepth 100000 in
set_option maxHeartbeats 2000000 in
theorem counts_walk (ss : List ByteArray) (a : Option Addr) (cap : Nat) (A : List Bool) (da : Option Addr) (dcap : Nat) (w : World) (hst : Strs w a ss) (hD : Bools w da A) :
    Calls Try.prog 9 #[.slice a ss.length cap, .slice da A.length dcap] w fun e w' => e = .returned (.bool true) ∧ Gr w w' := by
  obtain ⟨Q0, ho, hcalm⟩ := (calm_new 100 10000 1).opens (new_ok 10000 (by decide)) (by decide) (by decide) (by decide) (by decide)
  have HO := Lib.hid ho
  have HCA := Lib.hid hcalm
  have HB := Lib.hid (bd_new 10000 100)
  have hsl := hst.2.1
  have HST := Lib.hid hst
  have HDA := Lib.hid hD
  have hDl := hD.1
  clear ho hcalm hst hD
  go_enter Try.func9, Try.ntmps9
  go_wp2_with fail
  refine (awake12 w).mono ?_
  rintro e w1 ⟨rfl, hg1⟩
  have HG1 := Lib.hid hg1
  clear hg1
  go_wp2_with fail
  refine (new_any 10000 (by decide) _).mono ?_
  rintro e w2 ⟨d, rfl, hbe, hd2, hg2⟩
  have HD2 := Lib.hid hd2
  have HG2 := Lib.hid (HG1.out.trans hg2)
  have HDW := Lib.hid (show w.heap.size ≤ d by have := HG1.out.size; omega)
  clear hbe hd2 hg2
  go_wp2_with fail
  refine (open_to (B := 100) (f := 1) (g := 2) _ HD2.out HB.out (by decide) rfl (by decide) HO.out).mono ?_
  rintro e w3 ⟨c, rfl, hcw, hcl, hd3, hs3⟩
  have HC3 := Lib.hid hcl
  have HD3 := Lib.hid hd3
  have HG3 := Lib.hid (hs3.gr HG2.out HDW.out)
  have HCW := Lib.hid (show w.heap.size ≤ c from Nat.le_trans HG2.out.size hcw)
  clear hcw hcl hd3 hs3
  go_wp2
  go_loopw [6, 9] (fun cp i wr => ∃ (k c : Nat) (Q : D) (t : ByteArray), k ≤ ss.length ∧ k ≤ 12 ∧ i = .int .i64 (k : Nat) ∧ cp = .pointer (some ⟨c, 0, none⟩) ∧ Hid (ClIs wr c d 1 k) ∧ Hid (DkIs wr d Q) ∧ Hid (Calm 100 10000 1 k t Q) ∧ Hid (w.heap.size ≤ c) ∧ Hid (Gr w wr)) (fun _ i _ => ss.length - (intOf i).toNat)
  case atStart => exact ⟨0, c, Q0, ⟨#[]⟩, by omega, by omega, rfl, rfl, HC3, HD3, HCA, HCW, HG3⟩
  case round =>
    clear HC3 HD3 HCA HCW HG3 HO
    obtain ⟨k, c, Q, t, hk, hk12, rfl, rfl, HC, HD, HCA, HCW, HG⟩ := hrel
    by_cases hlt : k < ss.length
    · by_cases h12 : k < 12
      · obtain ⟨b1, o1, rfl, _, hc1, hz1⟩ := HST.out.at k hlt
        replace hc1 := HG.out.cell hc1
        generalize ss[k] = s0 at *
        have CU := Lib.hid (fun w => cut_any s0 40 w hz1 (by decide))
        have hcs := cutB_le s0 40
        obtain ⟨s, hs⟩ : ∃ s, cutB s0 40 = s := ⟨_, rfl⟩
        rw [hs] at CU hcs
        clear hs
        have hs40 : s.size ≤ 40 := by omega
        clear hcs
        obtain ⟨Q1, hw1, hcalm1⟩ := HCA.out.writes (u := s) HD.out.ok (by decide) (by decide) (by omega)
        obtain ⟨m, hm⟩ : ∃ m, k + 1 = m := ⟨_, rfl⟩
        rw [hm] at hcalm1
        have HW1 := Lib.hid hw1
        have HCA1 := Lib.hid hcalm1
        have HM := Lib.hid hm
        have hm1 : (k : Int) + 1 = (m : Int) := by omega
        have hmw : IntKind.u64.wrap (m : Int) = (m : Int) := IntWalk.u64_in _ (by omega)
        have hmi : IntKind.i64.wrap (m : Int) = (m : Int) := IntWalk.i64_in _ (by omega)
        clear hw1 hcalm1
        go_wp2_with fail
        refine (CU.out _).mono ?_
        rintro e w4 ⟨rfl, rfl⟩
        go_wp2_with fail
        refine (write_to _ HD.out HC.out (by decide) (by omega) (by omega) HW1.out).mono ?_
        rintro e w5 ⟨rfl, hd5, hc5, hs5⟩
        have HD5 := Lib.hid hd5
        have HC5 : Hid (ClIs w5 c d 1 m) := Lib.hid (by rw [if_pos rfl, HM.out] at hc5; exact hc5)
        have HG5 := Lib.hid (hs5.gr HG.out HCW.out HDW.out)
        clear hd5 hc5 hs5 hc1
        go_wp2_with fail
        refine (version_any _ HC5.out).mono ?_
        rintro e w6 ⟨rfl, rfl⟩
        by_cases hkA : k < A.length
        · obtain ⟨-, hcl⟩ := HDA.out.gr HG5.out
          obtain ⟨bd, od, rfl, hcc⟩ := hcl.resolve_left (by intro e; rw [e] at hkA; simp at hkA)
          have d0 := hcc k hkA
          clear hcl hcc
          generalize A[k] = bv at *
          cases bv
          · go_wp2
            go_roundw
            case rel => exact ⟨m, c, Q1, s, by omega, by omega, rfl, rfl, HC5, HD5, HCA1, HCW, HG5⟩
            case measure => simp [intOf]; omega
          · obtain ⟨Q2, ho2, hcalm2⟩ := (HCA1.out.crashes (by decide) []).opens (crash_ok HD5.out.ok []) (by decide) (by decide) (by omega) (by omega)
            have HO2 := Lib.hid ho2
            have HCA2 := Lib.hid hcalm2
            have hss : (s.toList == s.toList) = true := by simp
            clear ho2 hcalm2
            go_wp2_with fail
            refine (crash_none _ HD5.out).mono ?_
            rintro e w7 ⟨rfl, hd7, hs7⟩
            have HD7 := Lib.hid hd7
            have HG7 := Lib.hid (hs7.gr HG5.out HDW.out)
            clear hd7 hs7 d0
            go_wp2_with fail
            refine (open_to (B := 100) (f := 1) (g := 2) _ HD7.out (HCA1.out.crashes (by decide) []).bd (by decide) rfl (by decide) HO2.out).mono ?_
            rintro e w8 ⟨c8, rfl, hcw8, hcl8, hd8, hs8⟩
            have HC8 := Lib.hid hcl8
            have HD8 := Lib.hid hd8
            have HG8 := Lib.hid (hs8.gr HG7.out HDW.out)
            have HCW8 := Lib.hid (show w.heap.size ≤ c8 from Nat.le_trans HG7.out.size hcw8)
            clear hcw8 hcl8 hd8 hs8
            go_wp2_with fail
            refine (version_any _ HC8.out).mono ?_
            rintro e w9 ⟨rfl, rfl⟩
            go_wp2
            go_roundw
            case rel => exact ⟨m, c8, Q2, s, by omega, by omega, rfl, rfl, HC8, HD8, HCA2, HCW8, HG8⟩
            case measure => simp [intOf]; omega
        · go_wp2
          go_roundw
          case rel => exact ⟨m, c, Q1, s, by omega, by omega, rfl, rfl, HC5, HD5, HCA1, HCW, HG5⟩
          case measure => simp [intOf]; omega
      · go_wp2
        go_ret
        exact ⟨rfl, HG.out⟩
    · go_wp2
      go_ret
      exact ⟨rfl, HG.out⟩
end Go.Proofs.Ytfcfbecfamemlaa
