import Derived.Test.YtfcfbecfamemlaaL01c
import Derived.WalkKit
import Derived.ProofKit
import Derived.LoopTactic
import Derived.Outline
import Derived.WalkSpells
import Derived.WalkLawsBesides
import Derived.Lib.Hide
import Derived.Deep.LoopGhost
import Derived.Deep.QuietTactic
import Derived.BigQuiet
import Derived.ShutString
namespace Go.Proofs.Ytfcfbecfamemlaa
open Go.ChangeShapes Go.WideShapes Go.ChangeAt Go.RowKit
set_option linter.unusedVariables false
set_option maxRecDepth 100000 in
theorem refN_any (n : Int) (w : World) (hn : (Lit.int .i64 n).wf = true) :
    Calls Try.prog 80 #[.int .i64 n] w fun e w' => e = .returned (.string (ofL (Enc.encN n))) ∧ Gr w w' := by
  have hb := bounds_i64 hn
  by_cases h : n < 0
  · have hE : Enc.encN n = Enc.encU 0 := by unfold Enc.encN; rw [show (max n 0).toNat = 0 by omega]
    have HE := Lib.hid hE; clear hE
    go_enter Try.func80, Try.ntmps80
    go_wp2_with fail
    refine (refU_any 0 _ (by decide)).mono ?_
    rintro e w2 ⟨rfl, hg⟩
    generalize Enc.encU 0 = D at *
    go_wp2
    go_ret
    exact ⟨by rw [HE.out]; rfl, hg⟩
  · obtain ⟨m, rfl⟩ : ∃ m : Nat, n = m := ⟨n.toNat, by omega⟩
    have hE : Enc.encN m = Enc.encU m := by unfold Enc.encN; rw [show (max (m : Int) 0).toNat = m by omega]
    have HE := Lib.hid hE; clear hE
    go_enter Try.func80, Try.ntmps80
    go_wp2_with fail
    refine (refU_any m _ (by omega)).mono ?_
    rintro e w2 ⟨rfl, hg⟩
    generalize Enc.encU m = D at *
    go_wp2
    go_ret
    exact ⟨by rw [HE.out]; rfl, hg⟩
set_option maxRecDepth 100000 in
theorem refS_any (s : ByteArray) (w : World) (hs : s.size ≤ 1000000) :
    Calls Try.prog 60 #[.string s] w fun e w' => e = .returned (.string (ofL (Enc.encS (bytesOf s)))) ∧ Gr w w' := by
  have hE : ofL (Enc.encS (bytesOf s)) = ofL (Enc.encN s.size) ++ s := by
    unfold Enc.encS Enc.encN
    rw [lenB, show (max (s.size : Int) 0).toNat = s.size by omega, ← ofL_app, ofL_bytes]
  have HE := Lib.hid hE; clear hE
  have hz : (ofL (Enc.encN s.size)).size ≤ 9 := by rw [ofL_size]; exact Enc.encU_le _
  go_enter Try.func60, Try.ntmps60
  go_wp2_with fail
  refine (refN_any s.size _ (WalkArith.wf_i64 (by omega))).mono ?_
  rintro e w2 ⟨rfl, hg⟩
  generalize ofL (Enc.encN s.size) = D at *
  go_wp2
  go_ret
  exact ⟨by rw [HE.out]; rfl, hg⟩
end Go.Proofs.Ytfcfbecfamemlaa
