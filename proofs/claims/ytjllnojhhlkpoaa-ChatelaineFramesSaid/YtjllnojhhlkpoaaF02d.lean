import Derived.Test.YtjllnojhhlkpoaaF02c
import Derived.WalkKit
import Derived.ProofKit
import Derived.LoopTactic
import Derived.Outline
import Derived.WalkSpells
import Derived.WalkLawsBesides
import Derived.Lib.Hide
import Derived.Deep.LoopGhost
import Derived.Deep.QuietTactic
import Derived.BigQuiet
import Derived.ShutString
import Derived.Deep.RegionWith
namespace Go.Proofs.Ytjllnojhhlkpoaa
open Go.ChangeShapes Go.WideShapes Go.ChangeAt Go.RowKit
open Crc
set_option linter.unusedVariables false
/-- string([]byte{x}) over a new block of one. -/
theorem conv1 (w : World) (n0 : Int) (h0 : 0 ≤ n0 ∧ n0 < 256) :
    (convert 48 9 (.slice (some ⟨w.heap.size, 0, none⟩) 1 1)).run Try.prog (w.alloc (.cells #[.int .u8 n0] 5)) =
      .ok (.string ⟨#[b8 n0]⟩) (w.alloc (.cells #[.int .u8 n0] 5)) := by
  have := run_convert_bytes_back (P := Try.prog) (w.alloc (.cells #[.int .u8 n0] 5)) 48 9 5 ⟨w.heap.size, 0, none⟩ 1 [b8 n0] Try.underlying48 Try.underlying5 Try.underlying9 (by
    intro j hj
    have hj' : j < 1 := hj
    match j, hj' with
    | 0, _ => simp [Addr.add, b8_toNat h0.1 h0.2])
  exact this
theorem conv1_at (k : Int) (h0 : 0 ≤ k ∧ k < 256) (W : World) (b : Nat) (hc : W.cell? ⟨b, 0, none⟩ = some (.int .u8 k)) :
    (convert 48 9 (.slice (some ⟨b, 0, none⟩) 1 1)).run Try.prog W = .ok (.string ⟨#[b8 k]⟩) W :=
  run_convert_bytes_back (P := Try.prog) W 48 9 5 ⟨b, 0, none⟩ 1 [b8 k] Try.underlying48 Try.underlying5 Try.underlying9 (by
    intro j hj
    have hj' : j < 1 := hj
    match j, hj' with
    | 0, _ => simpa [Addr.add, b8_toNat h0.1 h0.2] using hc)
/-- n bytes of a number, the first the greatest. -/
def dig (v : Nat) : Nat → ByteArray
  | 0 => ⟨#[]⟩
  | k + 1 => ⟨#[b8 (v / 256 ^ k % 256 : Nat)]⟩ ++ dig v k
theorem dig_size (v : Nat) : ∀ k, (dig v k).size = k
  | 0 => rfl
  | k + 1 => by rw [dig, ByteArray.size_append, dig_size v k]; show 1 + k = k + 1; omega
set_option maxRecDepth 100000 in
set_option maxHeartbeats 400000 in
theorem digits_any (v n : Nat) (m : Int) (w : World) (hm : m = n) (hv : v < 4294967296) (hn : n ≤ 8) :
    Calls Try.prog 76 #[.int .u32 v, .int .i64 m] w fun e w' => e = .returned (.string (dig v n)) ∧ Gr w w' := by
  subst hm
  go_enter Try.func76, Try.ntmps76
  go_wp2
  go_loopw [0, 5, 6] (fun x s i wr => ∃ k : Nat, k ≤ n ∧ i = .int .i64 k ∧ x = .int .u32 (v / 256 ^ k : Nat) ∧ s = .string (dig v k) ∧ Gr w wr) (fun _ _ i _ => n - (intOf i).toNat)
  case atStart => exact ⟨0, by omega, rfl, by simp, rfl, Gr.refl _⟩
  case round =>
    obtain ⟨k, hk, rfl, rfl, rfl, hg⟩ := hrel
    by_cases hlt : k < n
    · have hx : v / 256 ^ k < 4294967296 := Nat.lt_of_le_of_lt (Nat.div_le_self _ _) hv
      have hp : v / 256 ^ (k + 1) = v / 256 ^ k / 256 := by rw [Nat.div_div_eq_div_mul, ← Nat.pow_succ]
      have hd : dig v (k + 1) = ⟨#[b8 (v / 256 ^ k % 256 : Nat)]⟩ ++ dig v k := rfl
      have Hp := Lib.hid hp; clear hp
      have Hd := Lib.hid hd; clear hd
      have hz : (dig v k).size ≤ 8 := by rw [dig_size]; omega
      generalize v / 256 ^ k = x at *
      generalize dig v k = d at *
      have C := conv1 wr (x % 256) (by omega)
      go_wp2
      go_roundw
      case rel => exact ⟨k + 1, by omega, by go_num, by rw [Hp.out]; go_num, by rw [Hd.out]; rfl, hg.alloc _⟩
      case measure => simp [intOf]; omega
    · obtain rfl : k = n := by omega
      go_wp2
      go_ret
      exact ⟨rfl, hg⟩

def num (l : List UInt8) : Nat := l.foldl (fun n b => 256 * n + b.toNat) 0
theorem num_snoc (l : List UInt8) (b : UInt8) : num (l ++ [b]) = 256 * num l + b.toNat := by simp [num]
theorem num_lt (l : List UInt8) : num l < 256 ^ l.length := by
  generalize hl : l.length = n
  induction n generalizing l with
  | zero => have := List.length_eq_zero_iff.1 hl; subst this; simp [num]
  | succ n ih =>
    have hne : l ≠ [] := by intro e; simp [e] at hl
    rw [← List.dropLast_concat_getLast hne, num_snoc]
    have h1 := ih l.dropLast (by simp [hl])
    have h2 := (l.getLast hne).toNat_lt
    rw [Nat.pow_succ]; omega
/-- A frame, as the reference makes it. -/
def rframeB (k : Nat) (s : ByteArray) : ByteArray :=
  ⟨#[b8 k]⟩ ++ dig s.size 3 ++ s
def rframe (k : Nat) (s : ByteArray) : ByteArray :=
  rframeB k s ++ dig (4294967295 - crc 4294967295 (bytesOf (rframeB k s))) 4
set_option maxRecDepth 100000 in
set_option maxHeartbeats 400000 in
theorem rframe_any (k : Nat) (s : ByteArray) (w : World) (hk : k < 256) (hs : s.size ≤ 1048576) :
    Calls Try.prog 38 #[.int .u8 k, .string s] w fun e w' => e = .returned (.string (rframe k s)) ∧ Gr w w' := by
  have hz : s.size < 4294967296 := by omega
  have hcv := conv1_at (k : Int) (by omega)
  have hdz : (dig s.size 3).size ≤ 3 := by rw [dig_size]; omega
  have hwr : IntKind.u32.wrap (s.size : Int) = s.size := IntWalk.u32_in _ (by omega)
  go_enter Try.func38, Try.ntmps38
  go_wp2
  go_region_with (first | (go_at_call 76; refine (digits_any s.size 3 _ _ rfl hz (by decide)).mono ?_; rintro e w2 ⟨rfl, hg⟩; (first | (have hcell : w2.cell? ⟨w.heap.size, 0, none⟩ = some (.int .u8 (k : Int)) := hg.cell (new_cell rfl rfl)) | skip)))
  all_goals
    go_wp2_with fail
    clear hwr
    (try clear hcell)
    refine (refSum_any _ _ (by rw [ByteArray.size_append, ByteArray.size_append, dig_size]; show 1 + 3 + s.size ≤ _; omega)).mono ?_
    rintro e w3 ⟨rfl, rfl⟩
    go_wp2_with fail
    refine (digits_any _ 4 _ _ rfl (by omega) (by decide)).mono ?_
    rintro e w3 ⟨rfl, hg3⟩
    have hR : rframe k s = ⟨#[b8 (k : Int)]⟩ ++ dig s.size 3 ++ s ++ dig (4294967295 - crc 4294967295 (bytesOf (⟨#[b8 (k : Int)]⟩ ++ dig s.size 3 ++ s))) 4 := rfl
    have HR := Lib.hid hR; clear hR
    have z4 : (dig (4294967295 - crc 4294967295 (bytesOf (⟨#[b8 (k : Int)]⟩ ++ dig s.size 3 ++ s))) 4).size ≤ 4 := by rw [dig_size]; omega
    have z5 : (⟨#[b8 (k : Int)]⟩ ++ dig s.size 3 ++ s : ByteArray).size ≤ 1048580 := by rw [ByteArray.size_append, ByteArray.size_append, dig_size]; show 1 + 3 + s.size ≤ _; omega
    generalize dig (4294967295 - crc 4294967295 (bytesOf (⟨#[b8 (k : Int)]⟩ ++ dig s.size 3 ++ s))) 4 = T at *
    generalize (⟨#[b8 (k : Int)]⟩ ++ dig s.size 3 ++ s : ByteArray) = R at *
    go_wp2
    go_ret
    first
      | exact ⟨by rw [HR.out]; rfl, (((Gr.refl _).alloc _).drew.trans hg).trans hg3⟩
      | exact ⟨by rw [HR.out]; rfl, ((((Gr.refl _).drew).trans hg).alloc _).trans hg3⟩
end Go.Proofs.Ytjllnojhhlkpoaa
