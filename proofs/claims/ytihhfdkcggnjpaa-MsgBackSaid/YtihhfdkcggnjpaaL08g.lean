import Derived.Test.YtihhfdkcggnjpaaK3
import Derived.Test.YtihhfdkcggnjpaaC12
import Derived.WalkKit
import Derived.ProofKit
import Derived.LoopTactic
import Derived.Outline
import Derived.WalkSpells
import Derived.WalkLawsBesides
import Derived.Lib.Hide
import Derived.Deep.LoopGhost
import Derived.Deep.QuietTactic
import Derived.BigQuiet
import Derived.ShutString
import Derived.IntWalk
import Derived.OpenShut
import Derived.Deep.RegionHeld3
namespace Go.Proofs.Ytihhfdkcggnjpaa
open Go.ChangeShapes Go.WideShapes Go.ChangeAt Go.RowKit
open Enc Bal
set_option linter.unusedVariables false
set_option linter.unusedSimpArgs false
theorem getS_back (c m : Nat) (hc : c < 18446744073709551616) (hm : m ≤ 11) (h0 : c = 0 → m = 0) : getS (ofL (encU c ++ encN (m : Int))) 0 = (ofL [], 0, c, m) := by
  have h1 := uS_back (ofL (encU c ++ encN (m : Int))) c (encN (m : Int)) hc (bytesOf_ofL _)
  have h2 : nS (ofL (encN (m : Int))) 0 11 = (ofL [], 0, m) := nS_back _ m [] 11 (by omega) (by omega) (by rw [bytesOf_ofL, List.append_nil]; unfold encN; rw [show (max (m : Int) 0).toNat = m by omega])
  unfold getS
  rw [h1]
  simp only
  rw [h2]
  simp only [ne_eq, not_true_eq_false, if_false]
  rw [if_neg (by omega)]
theorem get_to {p : Nat} {r a : ByteArray} {e b c n : Nat} (h : getS r e = (a, b, c, n)) (w : World) (hR : RdIs w p r e) :
    Calls Try.prog 136 #[.pointer (some ⟨p, 0, none⟩)] w fun en w' => en = .returned (.agg #[.int .u64 (c : Int), .int .i64 (n : Int)]) ∧ RdIs w' p a b ∧ Only p w w' := by
  have := bGet_any p r e w hR
  unfold GetIs at this
  rwa [h] at this
theorem rget_to {r a : ByteArray} {e b c n : Nat} (h : getS r e = (a, b, c, n)) (hr : r.size ≤ 1000000) (w : World) :
    Calls Try.prog 119 #[.agg #[.string r, .int .i64 (e : Int)]] w fun en w' => en = .returned (.tuple #[.agg #[.string a, .int .i64 (b : Int)], .agg #[.int .u64 (c : Int), .int .i64 (n : Int)]]) ∧ Gr w w' := by
  have := refGet_any r e w hr
  unfold RGetIs at this
  rwa [h] at this
end Go.Proofs.Ytihhfdkcggnjpaa
