import Derived.Test.YtjllnojhhlkpoaaF02f
import Derived.Test.YtjllnojhhlkpoaaL02a
import Derived.WalkKit
import Derived.ProofKit
import Derived.LoopTactic
import Derived.Outline
import Derived.WalkSpells
import Derived.WalkLawsBesides
import Derived.Lib.Hide
import Derived.Deep.LoopGhost
import Derived.Deep.QuietTactic
import Derived.BigQuiet
import Derived.ShutString
import Derived.OpenShut
namespace Go.Proofs.Ytjllnojhhlkpoaa
open Go.ChangeShapes Go.WideShapes Go.ChangeAt Go.RowKit
open Crc
set_option linter.unusedVariables false
theorem bt_list (s : ByteArray) (i : Nat) : bt s i = ((bytesOf s).getD i 0).toNat := by
  unfold bt bytesOf
  by_cases h : i < s.size
  · rw [dif_pos h]
    have h' : i < s.data.toList.length := by simpa using h
    rw [List.getD_eq_getElem?_getD, List.getElem?_eq_getElem h']
    rfl
  · rw [dif_neg h]
    have h' : s.data.toList.length ≤ i := by simpa using h
    rw [List.getD_eq_getElem?_getD, List.getElem?_eq_none h']
    rfl
theorem rframe_size (k : Nat) (s : ByteArray) : (rframe k s).size = s.size + 8 := by
  unfold rframe rframeB
  rw [ByteArray.size_append, ByteArray.size_append, ByteArray.size_append, dig_size, dig_size]
  show 1 + 3 + s.size + 4 = _; omega
theorem extract_left (a b : ByteArray) : (a ++ b).extract 0 a.size = a := by
  apply ba_ext
  rw [bytesOf_extract, bytesOf_append, List.drop_zero, Nat.sub_zero, ← bytesOf_length a]
  exact List.take_left
theorem frame_bytes (k : Nat) (s m : ByteArray) : bytesOf (rframe k s ++ m) = b8 (k : Int) :: b8 (s.size / 65536 % 256 : Nat) :: b8 (s.size / 256 % 256 : Nat) :: b8 (s.size % 256 : Nat) :: (bytesOf s ++ (bytesOf (dig (4294967295 - crc 4294967295 (bytesOf (rframeB k s))) 4) ++ bytesOf m)) := by
  unfold rframe
  rw [bytesOf_append, bytesOf_append]
  unfold rframeB
  rw [bytesOf_append, bytesOf_append, dig3]
  simp [bytesOf]
theorem open_frame (k : Nat) (s m : ByteArray) (hk : k < 256) (hk1 : 1 ≤ k) (hs : s.size ≤ 1048576) : openB (rframe k s ++ m) = (k, s, 0) := by
  have hb := frame_bytes k s m
  have hz : (rframe k s ++ m).size = s.size + 8 + m.size := by rw [ByteArray.size_append, rframe_size]
  have b0 : bt (rframe k s ++ m) 0 = k := by rw [bt_list, hb]; simp only [List.getD_cons_zero]; exact b8_nat k hk
  have b1 : bt (rframe k s ++ m) 1 = s.size / 65536 % 256 := by rw [bt_list, hb]; simp only [List.getD_cons_succ, List.getD_cons_zero]; exact b8_nat _ (by omega)
  have b2 : bt (rframe k s ++ m) 2 = s.size / 256 % 256 := by rw [bt_list, hb]; simp only [List.getD_cons_succ, List.getD_cons_zero]; exact b8_nat _ (by omega)
  have b3 : bt (rframe k s ++ m) 3 = s.size % 256 := by rw [bt_list, hb]; simp only [List.getD_cons_succ, List.getD_cons_zero]; exact b8_nat _ (by omega)
  have hn : n3 (rframe k s ++ m) = s.size := by unfold n3; rw [b1, b2, b3]; omega
  have hx : (rframe k s ++ m).extract 4 (4 + s.size) = s := by
    apply ba_ext
    rw [bytesOf_extract, hb]
    have : 4 + s.size - 4 = (bytesOf s).length := by rw [bytesOf_length]; omega
    rw [this]
    exact List.take_left
  have hy : (rframe k s ++ m).extract 0 (s.size + 8) = rframe k s := by rw [← rframe_size k s]; exact extract_left _ _
  have hi := (rframe_iff (rframe k s ++ m) (by omega) (by rw [hn]; omega)).1 (by rw [b0, hn, hx, hy])
  rw [hn] at hi
  have c1 : ¬ (rframe k s ++ m).size < 4 := by omega
  have c2 : ¬ k = 0 := by omega
  have c3 : ¬ 1048576 < s.size := by omega
  have c4 : ¬ (rframe k s ++ m).size < s.size + 8 := by omega
  unfold openB
  rw [if_neg c1, b0, if_neg c2, hn, if_neg c3, if_neg c4, if_neg (not_not_intro hi), hx]
theorem ropen_is {s : ByteArray} {k : Nat} {t : ByteArray} {n : Nat} (h : openB s = (k, t, n)) {w w' : World} {e : Ending} (ho : ROpenIs s w e w') :
    e = .returned (.tuple #[.agg #[.int .u8 k, .string t], .int .i64 n]) ∧ Gr w w' := by
  unfold ROpenIs at ho; rw [h] at ho; exact ho
theorem open_is {s : ByteArray} {k : Nat} {t : ByteArray} {n : Nat} (h : openB s = (k, t, n)) {w w' : World} {e : Ending} (ho : OpenIs s w e w') :
    e = .returned (.tuple #[.int .u8 k, .string t, .int .i64 n]) ∧ Gr w w' := by
  unfold OpenIs at ho; rw [h] at ho; exact ho
end Go.Proofs.Ytjllnojhhlkpoaa
