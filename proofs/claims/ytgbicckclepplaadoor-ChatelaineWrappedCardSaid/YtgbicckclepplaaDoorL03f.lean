import Derived.Test.YtgbicckclepplaaDoorF03m
import Derived.Test.YtgbicckclepplaaDoorL03c
import Derived.WalkKit
import Derived.ProofKit
import Derived.LoopTactic
import Derived.Outline
import Derived.WalkSpells
import Derived.WalkLawsBesides
import Derived.Lib.Hide
import Derived.Deep.LoopGhost
import Derived.Deep.QuietTactic
import Derived.BigQuiet
import Derived.ShutString
import Derived.Laws.Pointers
namespace Go.Proofs.YtgbicckclepplaaDoor
open Go.ChangeShapes Go.WideShapes Go.ChangeAt Go.RowKit
set_option linter.unusedVariables false
theorem asIs_some {W : World} {t : Nat} {L L' : List Lk} {c : Int} {s : ByteArray} {w w' : World} {e : Ending} (h : firstF L = some (c, s, L')) (ha : AsIs W t L w e w') : e = .returned (.bool true) ∧ ∃ b, FaultAt W b c s L' ∧ Hits t (.pointer (some ⟨b, 0, none⟩)) w w' := by
  unfold AsIs at ha; rw [h] at ha; exact ha
theorem asIs_none {W : World} {t : Nat} {L : List Lk} {w w' : World} {e : Ending} (h : firstF L = none) (ha : AsIs W t L w e w') : e = .returned (.bool false) ∧ Gr w w' := by
  unfold AsIs at ha; rw [h] at ha; exact ha
theorem faultNews_zero (s : ByteArray) (w : World) (he : ET w) :
    Calls Tryd.prog 6 #[.int .i64 0, .string s] w fun e w' => e = .returned (.bool true) ∧ Gr w w' := by
  have q1 := eqNN
  have HE := Lib.hid he
  clear he
  go_enter Tryd.func6, Tryd.ntmps6
  go_wp2_with fail
  refine (awake3 _ HE.out).mono ?_
  rintro e w1 ⟨rfl, hg1⟩
  go_wp2_with fail
  refine (of_zero _).mono ?_
  rintro e w2 ⟨rfl, rfl⟩
  go_wp2_with fail
  refine (new_zero _ _).mono ?_
  rintro e w2 ⟨rfl, rfl⟩
  go_wp2
  go_ret
  exact ⟨rfl, hg1⟩
set_option maxRecDepth 100000 in
set_option maxHeartbeats 1000000 in
theorem faultNews_some (c : Int) (s : ByteArray) (w : World) (hc : (c == 0) = false) (he : ET w) :
    Calls Tryd.prog 6 #[.int .i64 c, .string s] w fun e w' => e = .returned (.bool true) ∧ Gr w w' := by
  have q1 := eqNN
  have q2 := eqIN
  have HE := Lib.hid he
  clear he
  go_enter Tryd.func6, Tryd.ntmps6
  go_wp2_with fail
  refine (awake3 _ HE.out).mono ?_
  rintro e w1 ⟨rfl, hg1⟩
  have HG1 := Lib.hid hg1
  clear hg1
  go_wp2_with fail
  refine (ofB_any c _ hc).mono ?_
  rintro e w2 ⟨ua, rfl, hua, hg2⟩
  have HA := Lib.hid hua
  have HG2 := Lib.hid (HG1.out.trans hg2)
  clear hg2
  obtain ⟨na, va, rfl, hna, hba, hva⟩ := hua
  obtain rfl : va = .nilIface := hva
  have HT := Lib.hid (show Target w2 na c true from ⟨_, hba, .inl ⟨rfl, rfl⟩⟩)
  have hnal : na < w2.heap.size := (Array.getElem?_eq_some_iff.1 hba).1
  clear hba
  go_wp2_with fail
  refine (newB_any c s _ hc).mono ?_
  rintro e w3 ⟨ub, rfl, hub, hg3⟩
  have HB := Lib.hid (hub.mono (ok' := (· ≠ na)) (fun b _ h => by omega))
  have HA3 := Lib.hid (HA.out.gr hg3)
  have HT3 := Lib.hid (HT.out.gr hg3)
  have HG3 := Lib.hid (HG2.out.trans hg3)
  clear hg3
  obtain ⟨nb, vb, rfl, -⟩ := hub
  go_wp2_with fail
  refine (asTop_any _ _ w3.heap.size (.pointer none) w3 _ HB.out.chain ((Gr.refl w3).alloc _) (new_cell rfl rfl) (new_free rfl) ((HE.out.gr HG3.out).gr ((Gr.refl w3).alloc _))).mono ?_
  intro e w4 hA4
  obtain ⟨rfl, bf, hfa, hh⟩ := asIs_some (show firstF [.fault c s] = some (c, s, []) from rfl) hA4
  clear hA4
  have hgr := hh.gr ((Gr.refl w3).alloc _) (Nat.le_refl _)
  obtain ⟨k0, k1, uf, k2, kc⟩ := hfa.gr hgr
  obtain rfl : uf = .nilIface := kc
  have fc := hh.2.1
  have HA4 := Lib.hid (HA3.out.gr hgr)
  have HB4 := Lib.hid (HB.out.gr hgr)
  have HT4 := Lib.hid (HT3.out.gr hgr)
  have HG4 := Lib.hid (HG3.out.trans hgr)
  have HCA := Lib.hid (show codeOf [.fault c ⟨#[]⟩] = c from rfl)
  have HCB := Lib.hid (show codeOf [.fault c s] = c from rfl)
  clear hh hgr hfa
  go_wp2_with fail
  refine (code_any _ _ _ (by simp) HA4.out.chain (HE.out.gr HG4.out)).mono ?_
  rintro e w5 ⟨rfl, hg5⟩
  rw [HCA.out]
  have HA5 := Lib.hid (HA4.out.gr hg5)
  have HB5 := Lib.hid (HB4.out.gr hg5)
  have HT5 := Lib.hid (HT4.out.gr hg5)
  have HG5 := Lib.hid (HG4.out.trans hg5)
  clear hg5 k0 k1 k2 fc
  go_wp2_with fail
  refine (code_any _ _ _ (by simp) HB5.out.chain (HE.out.gr HG5.out)).mono ?_
  rintro e w6 ⟨rfl, hg6⟩
  rw [HCB.out]
  have HA6 := Lib.hid (HA5.out.gr hg6)
  have HB6 := Lib.hid (HB5.out.gr hg6)
  have HT6 := Lib.hid (HT5.out.gr hg6)
  have HG6 := Lib.hid (HG5.out.trans hg6)
  clear hg6
  go_wp2_with fail
  refine (trail_any _ _ _ (by simp) (by intro c2 s2 hm; simp at hm; obtain ⟨_, rfl⟩ := hm; show 0 ≤ _; omega) HA6.out.chain (HE.out.gr HG6.out)).mono ?_
  rintro e w7 ⟨a7, cap7, rfl, -, -, hg7⟩
  have HB7 := Lib.hid (HB6.out.gr hg7)
  have HT7 := Lib.hid (HT6.out.gr hg7)
  have HG7 := Lib.hid (HG6.out.trans hg7)
  have hlen : (trailOf [.fault c ⟨#[]⟩]).length = 0 := rfl
  clear hg7
  rw [hlen]
  go_wp2_with fail
  refine (isTop_any _ _ na c true _ _ HB7.out (Gr.refl _) HT7.out).mono ?_
  rintro e w8 ⟨rfl, hg8⟩
  have HH := Lib.hid (show (true && hasOf [.fault c s] c) = true by simp [hasOf])
  rw [HH.out]
  have HG8 := Lib.hid (HG7.out.trans hg8)
  clear hg8
  go_wp2
  go_ret
  exact ⟨by first | rfl | (simp; done), HG8.out⟩
theorem faultNews_walk (c : Int) (s : ByteArray) (w : World) (hs : s.size ≤ maxLen) (he : ET w) :
    Calls Tryd.prog 6 #[.int .i64 c, .string s] w fun e w' => e = .returned (.bool true) ∧ Gr w w' := by
  cases hc : (c == 0)
  · exact faultNews_some c s w hc he
  · have : c = 0 := by simpa using hc
    subst this
    exact faultNews_zero s w he
end Go.Proofs.YtgbicckclepplaaDoor
