import Derived.Test.YtfgkgpkaohkehaaGreatDoorK18
import Derived.Test.YtfgkgpkaohkehaaGreatDoorC12
import Derived.WalkKit
import Derived.ProofKit
import Derived.LoopTactic
import Derived.Outline
import Derived.WalkSpells
import Derived.WalkLawsBesides
import Derived.Lib.Hide
import Derived.Deep.LoopGhost
import Derived.Deep.QuietTactic
import Derived.BigQuiet
import Derived.ShutString
namespace Go.Proofs.YtfgkgpkaohkehaaGreatDoor
open Go.ChangeShapes Go.WideShapes Go.ChangeAt Go.RowKit
open Crc
/-- A byte's number as a byte. -/
def b8 (n : Int) : UInt8 := UInt8.ofNat n.toNat
theorem b8_toNat {n : Int} (h0 : 0 ≤ n) (h1 : n < 256) : ((b8 n).toNat : Int) = n := by
  unfold b8; simp; omega
/-- string([]byte{..}) over a new block of four. -/
theorem conv4 (w : World) (n0 n1 n2 n3 : Int) (h0 : 0 ≤ n0 ∧ n0 < 256) (h1 : 0 ≤ n1 ∧ n1 < 256) (h2 : 0 ≤ n2 ∧ n2 < 256) (h3 : 0 ≤ n3 ∧ n3 < 256) :
    (convert 78 9 (.slice (some ⟨w.heap.size, 0, none⟩) 4 4)).run Tryz.prog (w.alloc (.cells #[.int .u8 n0, .int .u8 n1, .int .u8 n2, .int .u8 n3] 5)) =
      .ok (.string ⟨#[b8 n0, b8 n1, b8 n2, b8 n3]⟩) (w.alloc (.cells #[.int .u8 n0, .int .u8 n1, .int .u8 n2, .int .u8 n3] 5)) := by
  have := run_convert_bytes_back (P := Tryz.prog) (w.alloc (.cells #[.int .u8 n0, .int .u8 n1, .int .u8 n2, .int .u8 n3] 5)) 78 9 5 ⟨w.heap.size, 0, none⟩ 4 [b8 n0, b8 n1, b8 n2, b8 n3] Tryz.underlying78 Tryz.underlying5 Tryz.underlying9 (by
    intro j hj
    have hj' : j < 4 := hj
    have hb := World.cell?_alloc_new w
    match j, hj' with
    | 0, _ => simp [Addr.add, b8_toNat h0.1 h0.2]
    | 1, _ => simp [Addr.add, b8_toNat h1.1 h1.2]
    | 2, _ => simp [Addr.add, b8_toNat h2.1 h2.2]
    | 3, _ => simp [Addr.add, b8_toNat h3.1 h3.2])
  exact this
/-- Four bytes of a number, the first the greatest. -/
def be4 (v : Nat) : ByteArray := ⟨#[b8 (v / 16777216 : Nat), b8 (v / 65536 % 256 : Nat), b8 (v / 256 % 256 : Nat), b8 (v % 256 : Nat)]⟩
theorem be4_size (v : Nat) : (be4 v).size = 4 := rfl
set_option maxRecDepth 100000 in
set_option maxHeartbeats 400000 in
theorem put_any (v : Nat) (w : World) (hv : v < 4294967296) :
    Calls Tryz.prog 66 #[.int .u32 v] w fun e w' => e = .returned (.string (be4 v)) ∧ Gr w w' := by
  have C := conv4 w (v / 16777216) (v / 65536 % 256) (v / 256 % 256) (v % 256) (by omega) (by omega) (by omega) (by omega)
  go_enter Tryz.func66, Tryz.ntmps66
  go_wp2
  go_ret
  exact ⟨rfl, (Gr.refl _).alloc _⟩
def num4 (b0 b1 b2 b3 : UInt8) : Nat := b0.toNat * 16777216 + b1.toNat * 65536 + b2.toNat * 256 + b3.toNat
theorem num4_walk (b0 b1 b2 b3 : UInt8) :
    bits .or .u32 (bits .or .u32 (bits .or .u32 ((b0.toNat : Int) * 16777216) ((b1.toNat : Int) * 65536)) ((b2.toNat : Int) * 256)) (b3.toNat : Int) = (num4 b0 b1 b2 b3 : Nat) := by
  have h0 := b0.toNat_lt; have h1 := b1.toNat_lt; have h2 := b2.toNat_lt; have h3 := b3.toNat_lt
  unfold num4
  generalize b0.toNat = x0 at *; generalize b1.toNat = x1 at *; generalize b2.toNat = x2 at *; generalize b3.toNat = x3 at *
  have e1 : bits .or .u32 ((x0 : Int) * 16777216) ((x1 : Int) * 65536) = ((x0 * 16777216 + x1 * 65536 : Nat) : Int) := by
    have := u32_or_nat (x0 * 16777216) (x1 * 65536) (by omega) (by omega)
    rw [← show (x0 * 16777216 + x1 * 65536) = (x0 * 16777216 ||| x1 * 65536) by
      have := Nat.two_pow_add_eq_or_of_lt (i := 24) (b := x1 * 65536) (by omega) x0
      rw [Nat.mul_comm] at this; simpa using this] at this
    simpa using this
  have e2 : bits .or .u32 ((x0 * 16777216 + x1 * 65536 : Nat) : Int) ((x2 : Int) * 256) = ((x0 * 16777216 + x1 * 65536 + x2 * 256 : Nat) : Int) := by
    have := u32_or_nat (x0 * 16777216 + x1 * 65536) (x2 * 256) (by omega) (by omega)
    rw [← show (x0 * 16777216 + x1 * 65536 + x2 * 256) = ((x0 * 16777216 + x1 * 65536) ||| x2 * 256) by
      have := Nat.two_pow_add_eq_or_of_lt (i := 16) (b := x2 * 256) (by omega) (x0 * 256 + x1)
      rw [show 2 ^ 16 * (x0 * 256 + x1) = x0 * 16777216 + x1 * 65536 by omega] at this; exact this] at this
    simpa using this
  have e3 : bits .or .u32 ((x0 * 16777216 + x1 * 65536 + x2 * 256 : Nat) : Int) (x3 : Int) = ((x0 * 16777216 + x1 * 65536 + x2 * 256 + x3 : Nat) : Int) := by
    have := u32_or_nat (x0 * 16777216 + x1 * 65536 + x2 * 256) x3 (by omega) (by omega)
    rw [← show (x0 * 16777216 + x1 * 65536 + x2 * 256 + x3) = ((x0 * 16777216 + x1 * 65536 + x2 * 256) ||| x3) by
      have := Nat.two_pow_add_eq_or_of_lt (i := 8) (b := x3) (by omega) (x0 * 65536 + x1 * 256 + x2)
      rw [show 2 ^ 8 * (x0 * 65536 + x1 * 256 + x2) = x0 * 16777216 + x1 * 65536 + x2 * 256 by omega] at this; exact this] at this
    exact this
  rw [e1, e2, e3]
set_option maxHeartbeats 400000 in
theorem get_any (s : ByteArray) (w : World) (hs : 4 ≤ s.size) (hs' : s.size ≤ 9223372036854775807) :
    Calls Tryz.prog 52 #[.string s] w fun e w' => e = .returned (.int .u32 (num4 s[0] s[1] s[2] s[3])) ∧ Dr w w' := by
  have i0 : 0 < s.size := by omega
  have i1 : (1 : Int) < s.size := by omega
  have i2 : (2 : Int) < s.size := by omega
  have i3 : (3 : Int) < s.size := by omega
  have h0 := s[0].toNat_lt; have h1 := s[1].toNat_lt; have h2 := s[2].toNat_lt; have h3 := s[3].toNat_lt
  go_enter Tryz.func52, Tryz.ntmps52
  go_wp2
  go_quiet (fail)
  go_wp2
  go_ret
  exact ⟨ret_int (num4_walk _ _ _ _), ⟨_, rfl⟩⟩
def headB (k n : Nat) : ByteArray := be4 (k * 16777216 + n)
def frameB (k : Nat) (s : ByteArray) : ByteArray :=
  headB k s.size ++ s ++ be4 (4294967295 - crc 4294967295 (cat [headB k s.size, s]))
theorem or_head (k n : Nat) (hk : k < 256) (hn : n ≤ 1048576) : bits .or .u32 ((k : Int) * 16777216) (n : Int) = ((k * 16777216 + n : Nat) : Int) := by
  have := u32_or_nat (k * 16777216) n (by omega) (by omega)
  rw [← show (k * 16777216 + n) = (k * 16777216 ||| n) by
      have := Nat.two_pow_add_eq_or_of_lt (i := 24) (b := n) (by omega) k
      rw [Nat.mul_comm] at this; simpa using this] at this
  simpa using this

theorem cells2 (w : World) (x y : Value) (t : TypeId) (f : Nat × Nat) : (w.alloc (.cells #[x, y] t f)).cell? ⟨w.heap.size, 0, none⟩ = some x ∧ (w.alloc (.cells #[x, y] t f)).cell? ⟨w.heap.size, 1, none⟩ = some y :=
  ⟨World.cell?_alloc_mark w _ t f 0, World.cell?_alloc_mark w _ t f 1⟩
/-- The sum over one text that lies in a new block. -/
theorem sum_one (a : ByteArray) (w : World) (n : Nat) (hn : n = w.heap.size) (ha : a.size ≤ 9223372036854775807) :
    Calls Tryz.prog 53 #[.slice (some ⟨n, 0, none⟩) 1 1] (w.alloc (.cells #[.string a] 9)) fun e w' => e = .returned (.int .u32 (4294967295 - crc 4294967295 (cat [a]) : Nat)) ∧ w.alloc (.cells #[.string a] 9) = w' := by
  subst hn
  exact sum_any [a] w.heap.size 0 _ (by intro s hs; simp at hs; subst hs; assumption) (by simp) (by
    intro i hi
    have hc := World.cell?_alloc_mark w #[.string a] 9 (0, 0) 0
    match i, hi with
    | 0, _ => exact hc)
set_option maxHeartbeats 400000 in
/-- The sum over no text. -/
theorem sum_none (w : World) :
    Calls Tryz.prog 53 #[.slice none 0 0] w fun e w' => e = .returned (.int .u32 0) ∧ w = w' := by
  go_enter Tryz.func53, Tryz.ntmps53
  go_wp2
  go_loop [3, 9] (fun r i => r = .int .u32 4294967295 ∧ i = .int .i64 0) (fun _ _ => 0)
  case atStart => exact ⟨rfl, rfl⟩
  case round =>
    obtain ⟨rfl, rfl⟩ := hrel
    go_wp2
    go_ret
    exact ⟨rfl, rfl⟩
/-- The sum over two texts that lie in a new block. -/
theorem sum_two (a b : ByteArray) (w : World) (n : Nat) (hn : n = w.heap.size) (ha : a.size ≤ 9223372036854775807) (hb : b.size ≤ 9223372036854775807) :
    Calls Tryz.prog 53 #[.slice (some ⟨n, 0, none⟩) 2 2] (w.alloc (.cells #[.string a, .string b] 9)) fun e w' => e = .returned (.int .u32 (4294967295 - crc 4294967295 (cat [a, b]) : Nat)) ∧ w.alloc (.cells #[.string a, .string b] 9) = w' := by
  subst hn
  exact sum_any [a, b] w.heap.size 0 _ (by intro s hs; simp at hs; rcases hs with rfl | rfl <;> assumption) (by simp) (by
    intro i hi
    have hc := cells2 w (.string a) (.string b) 9 (0, 0)
    match i, hi with
    | 0, _ => exact hc.1
    | 1, _ => exact hc.2)
set_option maxRecDepth 100000 in
set_option maxHeartbeats 400000 in
theorem frame_any (k : Nat) (s : ByteArray) (w : World) (hk : k < 256) (hk1 : 1 ≤ k) (hs : s.size ≤ 1048576) :
    Calls Tryz.prog 37 #[.int .u8 k, .string s] w fun e w' => e = .returned (.string (frameB k s)) ∧ Gr w w' := by
  have H := Lib.hid (or_head k s.size hk hs)
  have hz : (be4 (k * 16777216 + s.size)).size ≤ 4 := by rw [be4_size]; omega
  have hc := crc0_lt (cat [be4 (k * 16777216 + s.size), s])
  have F : frameB k s = be4 (k * 16777216 + s.size) ++ s ++ be4 (4294967295 - crc 4294967295 (cat [be4 (k * 16777216 + s.size), s])) := rfl
  have HF := Lib.hid F; clear F
  go_enter Tryz.func37, Tryz.ntmps37
  go_wp2_with fail
  rw [H.out]
  refine (put_any _ _ (by omega)).mono ?_
  rintro e w1 ⟨rfl, hg⟩
  generalize be4 (k * 16777216 + s.size) = hd at *
  go_wp2_with fail
  refine (sum_two hd s w1 _ rfl (by omega) (by omega)).mono ?_
  rintro e w2 ⟨rfl, rfl⟩
  go_wp2_with fail
  refine (put_any _ _ (by omega)).mono ?_
  rintro e w3 ⟨rfl, hg3⟩
  generalize crc 4294967295 (cat [hd, s]) = C at *
  have hz' : (be4 (4294967295 - C)).size ≤ 4 := by rw [be4_size]; omega
  generalize be4 (4294967295 - C) = tl at *
  go_wp2_with fail
  go_ret
  exact ⟨by rw [HF.out]; rfl, (hg.trans ((Gr.refl _).alloc _)).trans hg3⟩
set_option maxRecDepth 100000 in
set_option maxHeartbeats 400000 in
theorem frame_zero (k : Nat) (hk : (k : Int) < 1) (s : ByteArray) (w : World) (hs : s.size ≤ 1048576) :
    Calls Tryz.prog 37 #[.int .u8 k, .string s] w fun e w' => e = .returned (.string (frameB 1 s)) ∧ Gr w w' := by
  have H := Lib.hid (or_head 1 s.size (by decide) hs)
  have hz : (be4 (1 * 16777216 + s.size)).size ≤ 4 := by rw [be4_size]; omega
  have hc := crc0_lt (cat [be4 (1 * 16777216 + s.size), s])
  have F : frameB 1 s = be4 (1 * 16777216 + s.size) ++ s ++ be4 (4294967295 - crc 4294967295 (cat [be4 (1 * 16777216 + s.size), s])) := rfl
  have HF := Lib.hid F; clear F
  go_enter Tryz.func37, Tryz.ntmps37
  go_wp2_with fail
  rw [show (16777216 : Int) = ((1 : Nat) : Int) * 16777216 from rfl, H.out]
  refine (put_any _ _ (by omega)).mono ?_
  rintro e w1 ⟨rfl, hg⟩
  generalize be4 (1 * 16777216 + s.size) = hd at *
  go_wp2_with fail
  refine (sum_two hd s w1 _ rfl (by omega) (by omega)).mono ?_
  rintro e w2 ⟨rfl, rfl⟩
  go_wp2_with fail
  refine (put_any _ _ (by omega)).mono ?_
  rintro e w3 ⟨rfl, hg3⟩
  generalize crc 4294967295 (cat [hd, s]) = C at *
  have hz' : (be4 (4294967295 - C)).size ≤ 4 := by rw [be4_size]; omega
  generalize be4 (4294967295 - C) = tl at *
  go_wp2_with fail
  go_ret
  exact ⟨by rw [HF.out]; rfl, (hg.trans ((Gr.refl _).alloc _)).trans hg3⟩
theorem cat_one (a : ByteArray) : cat [a] = bytesOf a := by simp [cat]
theorem cat_two (a b : ByteArray) : cat [a, b] = bytesOf (a ++ b) := by simp [cat, bytesOf]
theorem u32_eq (a b : Nat) (h : a = b) : (Value.int .u32 (a : Int)) = .int .u32 (b : Int) := by rw [h]
theorem frameB_size (k : Nat) (s : ByteArray) : (frameB k s).size = s.size + 8 := by
  unfold frameB headB; rw [ByteArray.size_append, ByteArray.size_append, be4_size, be4_size]; omega
end Go.Proofs.YtfgkgpkaohkehaaGreatDoor
