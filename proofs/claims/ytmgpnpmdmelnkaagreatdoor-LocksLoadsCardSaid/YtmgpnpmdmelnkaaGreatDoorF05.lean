import Derived.Test.YtmgpnpmdmelnkaaGreatDoorK1
import Derived.Test.YtmgpnpmdmelnkaaGreatDoorM05
import Derived.WalkKit
import Derived.ProofKit
import Derived.LoopTactic
import Derived.Outline
import Derived.WalkSpells
import Derived.WalkLawsBesides
import Derived.Lib.Hide
import Derived.Deep.LoopGhost
import Derived.Deep.QuietTactic
import Derived.BigQuiet
import Derived.ShutString
namespace Go.Proofs.YtmgpnpmdmelnkaaGreatDoor
open Go.ChangeShapes Go.WideShapes Go.ChangeAt Go.RowKit
set_option linter.unusedVariables false
theorem inPart_any (n : Int) (w : World) (h0 : 0 ≤ n) (h1 : n < 256) :
    Calls Tryz.prog 81 #[.int .u8 n] w fun e w' => e = .returned (.bool (okN n)) ∧ w = w' := by
  have H := Lib.hid (show okN n = okN n from rfl)
  generalize hk : okN n = r at *
  have HK := Lib.hid hk; clear hk H
  go_enter Tryz.func81, Tryz.ntmps81
  go_wp2
  all_goals
    go_ret
    refine ⟨ret_bool ?_, rfl⟩
    rw [← HK.out]
    rw [Bool.eq_iff_iff]
    simp [okN]
    try omega
set_option maxRecDepth 100000 in
set_option maxHeartbeats 1000000 in
theorem isPart_any (s : ByteArray) (w : World) (hs : s.size ≤ 9223372036854775807) :
    Calls Tryz.prog 64 #[.string s] w fun e w' => e = .returned (.bool (okPart s)) ∧ w = w' := by
  by_cases h0 : s.size = 0
  · have hz : s = ⟨#[]⟩ := ByteArray.ext (Array.eq_empty_of_size_eq_zero h0)
    subst hz
    have E := Lib.hid (show okPart ⟨#[]⟩ = false from rfl)
    rw [E.out]; clear h0 hs
    go_enter Tryz.func64, Tryz.ntmps64
    go_wp2
    go_ret
    exact ⟨rfl, rfl⟩
  · have t1 : s.toList = [] → False := by
      intro e; apply h0
      have h' : s.data.toList = [] := by simpa [ByteArray.toList_eq] using e
      simpa using congrArg List.length h'
    have t2 : s.toList.isEmpty = false := by
      cases h : s.toList with
      | nil => exact absurd h t1
      | cons _ _ => rfl
    by_cases h1 : 16 < s.size
    · have E := Lib.hid (show okPart s = false by simp [okPart]; intro _ h; omega)
      rw [E.out]
      go_enter Tryz.func64, Tryz.ntmps64
      go_wp2
      go_ret
      exact ⟨rfl, rfl⟩
    · generalize hr : okPart s = r
      have HR := Lib.hid hr; clear hr
      go_enter Tryz.func64, Tryz.ntmps64
      go_wp2
      go_loop [13] (fun i => ∃ k : Nat, k ≤ s.size ∧ i = .int .i64 k ∧ Hid (((bytesOf s).take k).all okB = true)) (fun i => s.size - (intOf i).toNat)
      case atStart => exact ⟨0, by omega, rfl, Lib.hid (by simp)⟩
      case round =>
        obtain ⟨k, hk, rfl, hA⟩ := hrel
        by_cases hlt : k < s.size
        · have hb : (s[k].toNat : Int) < 256 := by have := s[k].toNat_lt; omega
          have hb0 : 0 ≤ (s[k].toNat : Int) := by omega
          have hS := Lib.hid (allTake s k hlt)
          have hB := Lib.hid (fun h => okPart_bad (s := s) (k := k) hlt h)
          obtain ⟨q, hq⟩ : ∃ q, okB s[k] = q := ⟨_, rfl⟩
          have hN := Lib.hid (show okN s[k].toNat = q from hq)
          have HQ := Lib.hid hq; clear hq
          cases q
          ·  go_wp2_with (go_at_call 81; refine (inPart_any _ _ hb0 hb).mono ?_; rintro e w' ⟨rfl, rfl⟩; rw [hN.out])
             go_ret
             exact ⟨ret_bool (by rw [← HR.out, hB.out HQ.out]), rfl⟩
          · go_wp2_with (go_at_call 81; refine (inPart_any _ _ hb0 hb).mono ?_; rintro e w' ⟨rfl, rfl⟩; rw [hN.out])
            go_round
            case rel => exact ⟨k + 1, by omega, by go_num, Lib.hid (by rw [hS.out, hA.out, HQ.out]; rfl)⟩
            case measure => simp [intOf]; omega
        · obtain rfl : k = s.size := by omega
          go_wp2
          go_ret
          exact ⟨ret_bool (by rw [← HR.out, okPart_of (by omega) (by omega) hA.out]), rfl⟩
end Go.Proofs.YtmgpnpmdmelnkaaGreatDoor
