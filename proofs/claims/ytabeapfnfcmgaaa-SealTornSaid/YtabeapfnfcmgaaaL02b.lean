import Derived.Test.YtabeapfnfcmgaaaF02f
import Derived.Test.YtabeapfnfcmgaaaL02a
import Derived.WalkKit
import Derived.ProofKit
import Derived.LoopTactic
import Derived.Outline
import Derived.WalkSpells
import Derived.WalkLawsBesides
import Derived.Lib.Hide
import Derived.Deep.LoopGhost
import Derived.Deep.QuietTactic
import Derived.BigQuiet
import Derived.ShutString
import Derived.OpenShut
namespace Go.Proofs.Ytabeapfnfcmgaaa
open Go.ChangeShapes Go.WideShapes Go.ChangeAt Go.RowKit
open Crc
set_option linter.unusedVariables false
theorem bt_list (s : ByteArray) (i : Nat) : bt s i = ((bytesOf s).getD i 0).toNat := by
  unfold bt bytesOf
  by_cases h : i < s.size
  · rw [dif_pos h]
    have h' : i < s.data.toList.length := by simpa using h
    rw [List.getD_eq_getElem?_getD, List.getElem?_eq_getElem h']
    rfl
  · rw [dif_neg h]
    have h' : s.data.toList.length ≤ i := by simpa using h
    rw [List.getD_eq_getElem?_getD, List.getElem?_eq_none h']
    rfl
theorem rframe_size (k : Nat) (s : ByteArray) : (rframe k s).size = s.size + 8 := by
  unfold rframe rframeB
  rw [ByteArray.size_append, ByteArray.size_append, ByteArray.size_append, dig_size, dig_size]
  show 1 + 3 + s.size + 4 = _; omega
theorem extract_left (a b : ByteArray) : (a ++ b).extract 0 a.size = a := by
  apply ba_ext
  rw [bytesOf_extract, bytesOf_append, List.drop_zero, Nat.sub_zero, ← bytesOf_length a]
  exact List.take_left
theorem frame_bytes (k : Nat) (s m : ByteArray) : bytesOf (rframe k s ++ m) = b8 (k : Int) :: b8 (s.size / 65536 % 256 : Nat) :: b8 (s.size / 256 % 256 : Nat) :: b8 (s.size % 256 : Nat) :: (bytesOf s ++ (bytesOf (dig (4294967295 - crc 4294967295 (bytesOf (rframeB k s))) 4) ++ bytesOf m)) := by
  unfold rframe
  rw [bytesOf_append, bytesOf_append]
  unfold rframeB
  rw [bytesOf_append, bytesOf_append, dig3]
  simp [bytesOf]
theorem open_frame (k : Nat) (s m : ByteArray) (hk : k < 256) (hk1 : 1 ≤ k) (hs : s.size ≤ 1048576) : openB (rframe k s ++ m) = (k, s, 0) := by
  have hb := frame_bytes k s m
  have hz : (rframe k s ++ m).size = s.size + 8 + m.size := by rw [ByteArray.size_append, rframe_size]
  have b0 : bt (rframe k s ++ m) 0 = k := by rw [bt_list, hb]; simp only [List.getD_cons_zero]; exact b8_nat k hk
  have b1 : bt (rframe k s ++ m) 1 = s.size / 65536 % 256 := by rw [bt_list, hb]; simp only [List.getD_cons_succ, List.getD_cons_zero]; exact b8_nat _ (by omega)
  have b2 : bt (rframe k s ++ m) 2 = s.size / 256 % 256 := by rw [bt_list, hb]; simp only [List.getD_cons_succ, List.getD_cons_zero]; exact b8_nat _ (by omega)
  have b3 : bt (rframe k s ++ m) 3 = s.size % 256 := by rw [bt_list, hb]; simp only [List.getD_cons_succ, List.getD_cons_zero]; exact b8_nat _ (by omega)
  have hn : n3 (rframe k s ++ m) = s.size := by unfold n3; rw [b1, b2, b3]; omega
  have hx : (rframe k s ++ m).extract 4 (4 + s.size) = s := by
    apply ba_ext
    rw [bytesOf_extract, hb]
    have : 4 + s.size - 4 = (bytesOf s).length := by rw [bytesOf_length]; omega
    rw [this]
    exact List.take_left
  have hy : (rframe k s ++ m).extract 0 (s.size + 8) = rframe k s := by rw [← rframe_size k s]; exact extract_left _ _
  have hi := (rframe_iff (rframe k s ++ m) (by omega) (by rw [hn]; omega)).1 (by rw [b0, hn, hx, hy])
  rw [hn] at hi
  have c1 : ¬ (rframe k s ++ m).size < 4 := by omega
  have c2 : ¬ k = 0 := by omega
  have c3 : ¬ 1048576 < s.size := by omega
  have c4 : ¬ (rframe k s ++ m).size < s.size + 8 := by omega
  unfold openB
  rw [if_neg c1, b0, if_neg c2, hn, if_neg c3, if_neg c4, if_neg (not_not_intro hi), hx]
theorem ropen_is {s : ByteArray} {k : Nat} {t : ByteArray} {n : Nat} (h : openB s = (k, t, n)) {w w' : World} {e : Ending} (ho : ROpenIs s w e w') :
    e = .returned (.tuple #[.agg #[.int .u8 k, .string t], .int .i64 n]) ∧ Gr w w' := by
  unfold ROpenIs at ho; rw [h] at ho; exact ho
theorem open_is {s : ByteArray} {k : Nat} {t : ByteArray} {n : Nat} (h : openB s = (k, t, n)) {w w' : World} {e : Ending} (ho : OpenIs s w e w') :
    e = .returned (.tuple #[.int .u8 k, .string t, .int .i64 n]) ∧ Gr w w' := by
  unfold OpenIs at ho; rw [h] at ho; exact ho
set_option maxHeartbeats 1000000 in
theorem sealFrames_nat (k : Nat) (K : Nat) (s m : ByteArray) (w : World) (hk : k < 256) (hK : k = 0 ∧ K = 1 ∨ 1 ≤ k ∧ K = k) (hs : s.size ≤ 9223372036854775807) (hm : m.size ≤ 9223372036854775807) :
    Calls Try.prog 8 #[.int .u8 k, .string s, .string m] w fun e w' => e = .returned (.bool true) ∧ Gr w w' := by
  have zs := cutB_le s 600
  have zm := cutB_le m 100
  have hK1 : 1 ≤ K ∧ K < 256 := by omega
  have hfr : ∀ W, Calls Try.prog 36 #[.int .u8 k, .string (cutB s 600)] W fun e w' => e = .returned (.string (frameB K (cutB s 600))) ∧ Gr W w' := by
    intro W
    rcases hK with ⟨h, rfl⟩ | ⟨h, rfl⟩
    · exact frame_zero k (by omega) _ W (by omega)
    · exact frame_any _ _ W hk h (by omega)
  have Hfr := Lib.hid hfr; clear hfr
  have Hop := Lib.hid (open_frame K (cutB s 600) (cutB m 100) hK1.2 hK1.1 (by omega))
  have Hfe := Lib.hid (frame_eq K (cutB s 600) hK1.2 (by omega))
  have zf : (rframe K (cutB s 600)).size ≤ 608 := by rw [rframe_size]; omega
  have zz : (rframe K (cutB s 600) ++ cutB m 100).size ≤ 1000000000 := by rw [ByteArray.size_append]; omega
  have hmax : (1 ≤ (k : Int) ∧ K = k) ∨ ((k : Int) < 1 ∧ K = 1) := by omega
  have hM : max (k : Int) 1 = K := by omega
  have HM := Lib.hid hM; clear hM hmax
  have HK := Lib.hid hK; clear hK
  go_enter Try.func8, Try.ntmps8
  go_wp2_with fail
  refine (awake2 w).mono ?_
  rintro e w1 ⟨rfl, hg⟩
  go_wp2_with fail
  refine (cut_any s 600 _ hs (by decide)).mono ?_
  rintro e w2 ⟨rfl, rfl⟩
  go_wp2_with fail
  refine (cut_any m 100 _ hm (by decide)).mono ?_
  rintro e w2 ⟨rfl, rfl⟩
  clear hs hm
  generalize cutB s 600 = s at *
  generalize cutB m 100 = m at *
  go_wp2_with fail
  refine (Hfr.out _).mono ?_
  rintro e w2 ⟨rfl, hg2⟩
  rw [Hfe.out]
  go_wp2_with fail
  refine (open_any _ _ zz).mono ?_
  intro e w3 ho
  obtain ⟨rfl, hg3⟩ := open_is Hop.out ho
  go_wp2_with fail
  clear ho
  rw [HM.out]
  refine (rframe_any K s _ hK1.2 (by omega)).mono ?_
  rintro e w4 ⟨rfl, hg4⟩
  go_wp2
  go_ret
  exact ⟨rfl, ((hg.trans hg2).trans hg3).trans hg4⟩
theorem sealFrames_walk (a : Int) (s m : ByteArray) (w : World) (wa : (Lit.int .u8 a).wf = true) (hs : s.size ≤ maxLen) (hm : m.size ≤ maxLen) :
    Calls Try.prog 8 #[.int .u8 a, .string s, .string m] w fun e w' => e = .returned (.bool true) ∧ Gr w w' := by
  have hb : 0 ≤ a ∧ a < 256 := by have := bounds_u8 wa; omega
  obtain ⟨k, rfl⟩ := Int.eq_ofNat_of_zero_le hb.1
  have hk : k < 256 := by omega
  by_cases h0 : k = 0
  · exact sealFrames_nat k 1 s m w hk (.inl ⟨h0, rfl⟩) hs hm
  · exact sealFrames_nat k k s m w hk (.inr ⟨by omega, rfl⟩) hs hm
theorem sealOpens_walk (s : ByteArray) (w : World) (hs : s.size ≤ maxLen) :
    Calls Try.prog 9 #[.string s] w fun e w' => e = .returned (.bool true) ∧ Gr w w' := by
  have hs' : s.size ≤ 9223372036854775807 := hs
  clear hs
  have zs := cutB_le s 600
  go_enter Try.func9, Try.ntmps9
  go_wp2_with fail
  refine (awake2 w).mono ?_
  rintro e w1 ⟨rfl, hg⟩
  go_wp2_with fail
  refine (cut_any s 600 _ hs' (by decide)).mono ?_
  rintro e w2 ⟨rfl, rfl⟩
  clear hs'
  generalize cutB s 600 = s at *
  obtain ⟨K, T, N, hO⟩ : ∃ K T N, openB s = (K, T, N) := ⟨_, _, _, rfl⟩
  have HO := Lib.hid hO; clear hO
  go_wp2_with fail
  refine (open_any s _ (by omega)).mono ?_
  intro e w3 ho
  obtain ⟨rfl, hg3⟩ := open_is HO.out ho
  clear ho
  go_wp2_with fail
  refine (ropen_any s _ (by omega)).mono ?_
  intro e w4 ho
  obtain ⟨rfl, hg4⟩ := ropen_is HO.out ho
  clear ho
  go_wp2
  go_ret
  exact ⟨rfl, ((hg.trans hg3).trans hg4).alloc _⟩
end Go.Proofs.Ytabeapfnfcmgaaa
