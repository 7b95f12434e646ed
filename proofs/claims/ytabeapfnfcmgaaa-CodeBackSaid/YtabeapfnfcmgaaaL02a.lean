import Derived.Test.YtabeapfnfcmgaaaF02b
import Derived.WalkKit
import Derived.ProofKit
import Derived.LoopTactic
import Derived.Outline
import Derived.WalkSpells
import Derived.WalkLawsBesides
import Derived.Lib.Hide
import Derived.Deep.LoopGhost
import Derived.Deep.QuietTactic
import Derived.BigQuiet
import Derived.ShutString
import Derived.OpenShut
import Derived.ChangeOld
import Derived.Below
namespace Go.Proofs.Ytabeapfnfcmgaaa
open Go.ChangeShapes Go.WideShapes Go.ChangeAt Go.RowKit
open Crc
theorem cutB_le (s : ByteArray) (n : Nat) : (cutB s n).size ≤ n := by
  unfold cutB; split
  · simp; omega
  · omega
set_option maxHeartbeats 1000000 in
theorem sealSums_walk (a b : ByteArray) (w : World) (ha : a.size ≤ maxLen) (hb : b.size ≤ maxLen) :
    Calls Try.prog 7 #[.string a, .string b] w fun e w' => e = .returned (.bool true) ∧ Gr w w' := by
  have ha' : a.size ≤ 9223372036854775807 := ha
  have hb' : b.size ≤ 9223372036854775807 := hb
  clear ha hb
  have za := cutB_le a 300
  have zb := cutB_le b 300
  have h0 : (4294967295 - crc 4294967295 (bytesOf ⟨#[]⟩) : Nat) = 0 := by decide +kernel
  have H0 := Lib.hid h0; clear h0
  have H2 := Lib.hid (cat_two (cutB a 300) (cutB b 300))
  have H1 := Lib.hid (cat_one (cutB a 300))
  go_enter Try.func7, Try.ntmps7
  go_wp2_with fail
  refine (awake2 w).mono ?_
  rintro e w1 ⟨rfl, hg⟩
  go_wp2_with fail
  refine (cut_any a 300 _ ha' (by decide)).mono ?_
  rintro e w2 ⟨rfl, rfl⟩
  go_wp2_with fail
  refine (cut_any b 300 _ hb' (by decide)).mono ?_
  rintro e w2 ⟨rfl, rfl⟩
  clear ha' hb'
  generalize cutB a 300 = a at *
  generalize cutB b 300 = b at *
  go_wp2_with fail
  refine (sum_two _ _ _ _ rfl (by omega) (by omega)).mono ?_
  rintro e w2 ⟨rfl, rfl⟩
  go_wp2_with fail
  have zc : (a ++ b).size ≤ 600 := by rw [ByteArray.size_append]; omega
  refine (refSum_any _ _ (by omega)).mono ?_
  rintro e w2 ⟨rfl, rfl⟩
  rw [H2.out]
  go_wp2_with fail
  refine (sum_one a (w1.alloc _) _ (by simp) (by omega)).mono ?_
  rintro e w2 ⟨rfl, rfl⟩
  go_wp2_with fail
  refine (refSum_any _ _ (by omega)).mono ?_
  rintro e w2 ⟨rfl, rfl⟩
  rw [H1.out]
  go_wp2_with fail
  refine (sum_none _).mono ?_
  rintro e w2 ⟨rfl, rfl⟩
  go_wp2_with fail
  refine (refSum_any _ _ (by decide)).mono ?_
  rintro e w2 ⟨rfl, rfl⟩
  rw [H0.out]
  go_wp2
  go_ret
  exact ⟨rfl, (hg.alloc _).alloc _⟩
end Go.Proofs.Ytabeapfnfcmgaaa
