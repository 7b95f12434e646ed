import Derived.Test.YtmgpnpmdmelnkaaGreatDoorF05
import Derived.Test.YtmgpnpmdmelnkaaGreatDoorC02
import Derived.WalkKit
import Derived.ProofKit
import Derived.LoopTactic
import Derived.Outline
import Derived.WalkSpells
import Derived.WalkLawsBesides
import Derived.Lib.Hide
import Derived.Deep.LoopGhost
import Derived.Deep.QuietTactic
import Derived.BigQuiet
import Derived.ShutString
namespace Go.Proofs.YtmgpnpmdmelnkaaGreatDoor
open Go.ChangeShapes Go.WideShapes Go.ChangeAt Go.RowKit
set_option linter.unusedVariables false
set_option maxRecDepth 100000 in
set_option maxHeartbeats 1000000 in
/-- The reference's test of a part. -/
theorem refPart_any (s : ByteArray) (w : World) (hs : s.size ≤ 9223372036854775807) :
    Calls Tryz.prog 62 #[.string s] w fun e w' => e = .returned (.bool (okPart s)) ∧ w = w' := by
  generalize hr : okPart s = r
  have HR := Lib.hid hr; clear hr
  go_enter Tryz.func62, Tryz.ntmps62
  go_wp2
  go_loop [3] (fun i => ∃ k : Nat, k ≤ s.size ∧ i = .int .i64 k ∧ Hid (((bytesOf s).take k).all okB = true)) (fun i => s.size - (intOf i).toNat)
  case atStart => exact ⟨0, by omega, rfl, Lib.hid (by simp)⟩
  case round =>
    obtain ⟨k, hk, rfl, hA⟩ := hrel
    by_cases hlt : k < s.size
    · have hb := s[k].toNat_lt
      have hS := Lib.hid (allTake s k hlt)
      have hB := Lib.hid (fun h => okPart_bad (s := s) (k := k) hlt h)
      have hN := Lib.hid (show okN s[k].toNat = okB s[k] from rfl)
      go_wp2
      all_goals first
        | go_round
          case rel =>
            have key : okN s[k].toNat = true := by
              clear hS hB hA hN HR
              simp [okN] at *
              omega
            exact ⟨k + 1, by omega, by go_num, Lib.hid (by rw [hS.out, hA.out, ← hN.out, key]; rfl)⟩
          case measure => simp [intOf]; omega
        | go_ret
          have key : okN s[k].toNat = false := by
            clear hS hB hA hN HR
            simp [okN] at *
            omega
          exact ⟨ret_bool (by rw [← HR.out, hB.out (by rw [← hN.out, key])]), rfl⟩
    · obtain rfl : k = s.size := by omega
      have hb2 : okPart s = (decide (0 < s.size) && decide (s.size < 17)) := by
        have := hA.out
        rw [take_size] at this
        unfold okPart
        rw [this, Bool.eq_iff_iff]; simp; omega
      have HB2 := Lib.hid hb2; clear hb2
      go_wp2
      all_goals
        go_ret
        refine ⟨ret_bool ?_, rfl⟩
        rw [← HR.out, HB2.out, Bool.eq_iff_iff]
        simp
        try omega
theorem okParts_bad {l : List ByteArray} {k : Nat} (h : k < l.length) (hk : okPart l[k] = false) : okParts l = false := by
  unfold okParts
  have : l.all okPart = false := by rw [List.all_eq_false]; exact ⟨_, List.getElem_mem h, by simp [hk]⟩
  rw [this]; simp
theorem allTakeP (l : List ByteArray) (k : Nat) (h : k < l.length) : (l.take (k + 1)).all okPart = ((l.take k).all okPart && okPart l[k]) := by
  rw [List.take_succ_eq_append_getElem h, List.all_append]; simp only [List.all_cons, List.all_nil, Bool.and_true]
theorem okParts_of {l : List ByteArray} (h1 : l.length ≤ 6) (h : (l.take l.length).all okPart = true) : okParts l = true := by
  rw [List.take_length] at h; simp only [okParts, h, h1]; decide
theorem okParts_long {l : List ByteArray} (h1 : 6 < l.length) : okParts l = false := by
  unfold okParts; rw [show decide (l.length ≤ 6) = false by simp; omega]; rfl
set_option maxRecDepth 100000 in
set_option maxHeartbeats 1000000 in
theorem refMade_any (a : Option Addr) (ss : List ByteArray) (c : Nat) (w : World) (h : Strs w a ss) :
    Calls Tryz.prog 38 #[.slice a ss.length c] w fun e w' => e = .returned (.bool (okParts ss)) ∧ w = w' := by
  generalize hr : okParts ss = r
  have HR := Lib.hid hr; clear hr
  have hl := h.2.1
  have HS := Lib.hid h; clear h
  go_enter Tryz.func38, Tryz.ntmps38
  go_wp2
  go_loop [7] (fun i => ∃ k : Nat, k ≤ ss.length ∧ i = .int .i64 k ∧ Hid ((ss.take k).all okPart = true)) (fun i => ss.length - (intOf i).toNat)
  case atStart => exact ⟨0, by omega, rfl, Lib.hid (by simp)⟩
  case round =>
    obtain ⟨k, hk, rfl, hA⟩ := hrel
    by_cases hlt : k < ss.length
    · obtain ⟨b, off, rfl, hbw, hcell, hsz⟩ := HS.out.at k hlt
      have hS := Lib.hid (allTakeP ss k hlt)
      have hB := Lib.hid (fun h => okParts_bad (l := ss) (k := k) hlt h)
      generalize ss[k] = s at *
      generalize hq : okPart s = q at *
      have HQ := Lib.hid hq; clear hq
      cases q
      · go_wp2_with (go_at_call 62; refine (refPart_any _ _ (by assumption)).mono ?_; rintro e w' ⟨rfl, rfl⟩; rw [HQ.out])
        go_ret
        exact ⟨ret_bool (by rw [← HR.out, hB.out (by simp)]), rfl⟩
      · go_wp2_with (go_at_call 62; refine (refPart_any _ _ (by assumption)).mono ?_; rintro e w' ⟨rfl, rfl⟩; rw [HQ.out])
        go_round
        case rel => exact ⟨k + 1, by omega, by go_num, Lib.hid (by rw [hS.out, hA.out]; rfl)⟩
        case measure => simp [intOf]; omega
    · obtain rfl : k = ss.length := by omega
      by_cases h6 : ss.length ≤ 6
      · have E := Lib.hid (okParts_of h6 hA.out)
        go_wp2
        go_ret
        refine ⟨ret_bool ?_, rfl⟩
        rw [← HR.out, E.out]
        try (simp; omega)
      · have E := Lib.hid (okParts_long (l := ss) (by omega))
        go_wp2
        go_ret
        refine ⟨ret_bool ?_, rfl⟩
        rw [← HR.out, E.out]
        try (simp; omega)
end Go.Proofs.YtmgpnpmdmelnkaaGreatDoor
