import Derived.Test.YtjllnojhhlkpoaaL01b
import Derived.WalkKit
import Derived.ProofKit
import Derived.LoopTactic
import Derived.Outline
import Derived.WalkSpells
import Derived.WalkLawsBesides
import Derived.Lib.Hide
import Derived.Deep.LoopGhost
import Derived.Deep.QuietTactic
import Derived.BigQuiet
import Derived.ShutString
namespace Go.Proofs.Ytjllnojhhlkpoaa
open Go.ChangeShapes Go.WideShapes Go.ChangeAt Go.RowKit
set_option linter.unusedVariables false
/-- Bytes of a list. -/
def ofL (l : List UInt8) : ByteArray := ⟨l.toArray⟩
theorem bytesOf_ofL (l : List UInt8) : bytesOf (ofL l) = l := by simp [bytesOf, ofL]
theorem bytesOf_app (a b : ByteArray) : bytesOf (a ++ b) = bytesOf a ++ bytesOf b := by simp [bytesOf]
theorem ofL_app (a b : List UInt8) : ofL a ++ ofL b = ofL (a ++ b) := eB (by rw [bytesOf_app, bytesOf_ofL, bytesOf_ofL, bytesOf_ofL])
theorem ofL_size (l : List UInt8) : (ofL l).size = l.length := by simp [ofL, ByteArray.size]
theorem ofL_bytes (s : ByteArray) : ofL (bytesOf s) = s := eB (bytesOf_ofL _)
theorem conv1u (w : World) (n0 : Nat) (h0 : n0 < 256) :
    (convert 48 9 (.slice (some ⟨w.heap.size, 0, none⟩) 1 1)).run Try.prog (w.alloc (.cells #[.int .u8 n0] 5)) =
      .ok (.string ⟨#[Enc.b8 n0]⟩) (w.alloc (.cells #[.int .u8 n0] 5)) := by
  have := run_convert_bytes_back (P := Try.prog) (w.alloc (.cells #[.int .u8 n0] 5)) 48 9 5 ⟨w.heap.size, 0, none⟩ 1 [Enc.b8 n0] Try.underlying48 Try.underlying5 Try.underlying9 (by
    intro j hj
    have hj' : j < 1 := hj
    match j, hj' with
    | 0, _ => simp [Addr.add, Enc.b8_toNat h0])
  exact this
set_option maxRecDepth 100000 in
set_option maxHeartbeats 400000 in
theorem refWide_any (v n : Nat) (m : Int) (w : World) (hm : m = n) (hv : v < 18446744073709551616) (hn : n ≤ 8) :
    Calls Try.prog 78 #[.int .u64 v, .int .i64 m] w fun e w' => e = .returned (.string (ofL (Enc.wide v n))) ∧ Gr w w' := by
  subst hm
  go_enter Try.func78, Try.ntmps78
  go_wp2
  go_loopw [0, 5, 6] (fun x s i wr => ∃ k : Nat, k ≤ n ∧ i = .int .i64 k ∧ x = .int .u64 (v / 256 ^ k : Nat) ∧ s = .string (ofL (Enc.wide v k)) ∧ Gr w wr) (fun _ _ i _ => n - (intOf i).toNat)
  case atStart => exact ⟨0, by omega, rfl, by simp, rfl, Gr.refl _⟩
  case round =>
    obtain ⟨k, hk, rfl, rfl, rfl, hg⟩ := hrel
    by_cases hlt : k < n
    · have hx : v / 256 ^ k < 18446744073709551616 := Nat.lt_of_le_of_lt (Nat.div_le_self _ _) hv
      have hp : v / 256 ^ (k + 1) = v / 256 ^ k / 256 := by rw [Nat.div_div_eq_div_mul, ← Nat.pow_succ]
      have hd : ofL (Enc.wide v (k + 1)) = ⟨#[Enc.b8 (v / 256 ^ k % 256)]⟩ ++ ofL (Enc.wide v k) := by
        exact (ofL_app [_] _).symm
      have Hp := Lib.hid hp; clear hp
      have Hd := Lib.hid hd; clear hd
      have hz : (ofL (Enc.wide v k)).size ≤ 8 := by rw [ofL_size, Enc.wide_length]; omega
      generalize v / 256 ^ k = x at *
      generalize ofL (Enc.wide v k) = d at *
      have C := conv1u wr (x % 256) (by omega)
      rw [show ((x % 256 : Nat) : Int) = (x : Int) % 256 by omega] at C
      go_wp2
      go_roundw
      case rel => exact ⟨k + 1, by omega, by go_num, by rw [Hp.out]; go_num, by rw [Hd.out], hg.alloc _⟩
      case measure => simp [intOf]; omega
    · obtain rfl : k = n := by omega
      go_wp2
      go_ret
      exact ⟨rfl, hg⟩
set_option maxRecDepth 100000 in
theorem refU_small (v : Nat) (w : World) (hv : v < 252) :
    Calls Try.prog 39 #[.int .u64 v] w fun e w' => e = .returned (.string (ofL (Enc.wide v 1))) ∧ Gr w w' := by
  go_enter Try.func39, Try.ntmps39
  go_wp2_with fail
  refine (refWide_any v 1 _ _ rfl (by omega) (by decide)).mono ?_
  rintro e w2 ⟨rfl, hg⟩
  go_wp2
  go_ret
  exact ⟨rfl, hg⟩
set_option maxRecDepth 100000 in
theorem refU_big (v n : Nat) (x : UInt8) (b c : Bool) (w : World) (hv : Hid (v < 18446744073709551616)) (h1 : decide ((v : Int) < 252) = false) (h2 : decide ((v : Int) < 65536) = b) (h3 : decide ((v : Int) < 4294967296) = c)
    (hn : n = if b then 2 else if c then 4 else 8) (hx : x = if b then 252 else if c then 253 else 254) :
    Calls Try.prog 39 #[.int .u64 v] w fun e w' => e = .returned (.string (⟨#[x]⟩ ++ ofL (Enc.wide v n))) ∧ Gr w w' := by
  have hz : (ofL (Enc.wide v n)).size ≤ 8 := by
    rw [ofL_size, Enc.wide_length, hn]; cases b <;> cases c <;> decide
  cases b <;> cases c <;> simp only [if_true, if_false, Bool.false_eq_true] at hn hx <;> subst hn <;> subst hx <;>
    (go_enter Try.func39, Try.ntmps39
     go_wp2_with fail
     refine (refWide_any v _ _ _ rfl hv.out (by decide)).mono ?_
     rintro e w2 ⟨rfl, hg⟩
     generalize hD : ofL (Enc.wide v _) = D at *
     have HD := Lib.hid hD; clear hD
     go_wp2
     go_ret
     exact ⟨by rw [HD.out]; rfl, hg⟩)
theorem refU_any (v : Nat) (w : World) (hv : v < 18446744073709551616) :
    Calls Try.prog 39 #[.int .u64 v] w fun e w' => e = .returned (.string (ofL (Enc.encU v))) ∧ Gr w w' := by
  by_cases h1 : v < 252
  · have hE : ofL (Enc.encU v) = ofL (Enc.wide v 1) := by
      have : Enc.first v = v := if_pos h1
      unfold Enc.encU; rw [this]
      have h2 : Enc.more v = 0 := by unfold Enc.more; rw [if_neg (by omega), if_neg (by omega), if_neg (by omega)]
      rw [h2]; congr 1
      show [Enc.b8 v] = [Enc.b8 (v / 256 ^ 0 % 256)]
      rw [Nat.pow_zero, Nat.div_one, Nat.mod_eq_of_lt (by omega)]
    rw [hE]
    exact refU_small v w h1
  · have key : ∀ n x, Enc.first v = x → Enc.more x = n → ofL (Enc.encU v) = ⟨#[Enc.b8 x]⟩ ++ ofL (Enc.wide v n) := by
      rintro n x rfl rfl
      exact (ofL_app [_] _).symm
    by_cases h2 : v < 65536
    · rw [key 2 252 (by unfold Enc.first; rw [if_neg h1, if_pos h2]) rfl]
      exact refU_big v 2 _ true _ w (Lib.hid hv) (by simp; omega) (by simp; omega) rfl rfl rfl
    · by_cases h3 : v < 4294967296
      · rw [key 4 253 (by unfold Enc.first; rw [if_neg h1, if_neg h2, if_pos h3]) rfl]
        exact refU_big v 4 _ false true w (Lib.hid hv) (by simp; omega) (by simp; omega) (by simp; omega) rfl rfl
      · rw [key 8 254 (by unfold Enc.first; rw [if_neg h1, if_neg h2, if_neg h3]) rfl]
        exact refU_big v 8 _ false false w (Lib.hid hv) (by simp; omega) (by simp; omega) (by simp; omega) rfl rfl
end Go.Proofs.Ytjllnojhhlkpoaa
