import Derived.Test.YtfgkgpkaohkehaaGreatDoorK19
import Derived.WalkKit
import Derived.ProofKit
import Derived.LoopTactic
import Derived.Outline
import Derived.WalkSpells
import Derived.WalkLawsBesides
import Derived.Lib.Hide
import Derived.Deep.LoopGhost
import Derived.Deep.QuietTactic
import Derived.BigQuiet
import Derived.ShutString
namespace Go.Proofs.YtfgkgpkaohkehaaGreatDoor
open Go.ChangeShapes Go.WideShapes Go.ChangeAt Go.RowKit
open Crc
set_option linter.unusedVariables false
theorem ba_ext {a b : ByteArray} (h : bytesOf a = bytesOf b) : a = b := ByteArray.ext (Array.toList_inj.1 h)
theorem bytesOf_append (a b : ByteArray) : bytesOf (a ++ b) = bytesOf a ++ bytesOf b := by simp [bytesOf]
theorem bytesOf_extract (s : ByteArray) (a b : Nat) : bytesOf (s.extract a b) = ((bytesOf s).drop a).take (b - a) := Lib.extract_data s a b
theorem bytesOf_length (s : ByteArray) : (bytesOf s).length = s.size := by simp [bytesOf]
theorem b8_nat (n : Nat) (h : n < 256) : (b8 (n : Int)).toNat = n := by
  have := b8_toNat (n := (n : Int)) (by omega) (by omega)
  omega
theorem b8_byte (b : UInt8) : b8 (b.toNat : Int) = b := by
  apply UInt8.toNat_inj.1
  exact b8_nat _ b.toNat_lt
theorem b8_inj {a b : Nat} (ha : a < 256) (hb : b < 256) (h : b8 (a : Int) = b8 (b : Int)) : a = b := by
  have := congrArg UInt8.toNat h
  rwa [b8_nat a ha, b8_nat b hb] at this
theorem dig3 (v : Nat) : bytesOf (dig v 3) = [b8 (v / 65536 % 256 : Nat), b8 (v / 256 % 256 : Nat), b8 (v % 256 : Nat)] := by
  simp [dig, bytesOf]
theorem dig4 (v : Nat) : bytesOf (dig v 4) = [b8 (v / 16777216 % 256 : Nat), b8 (v / 65536 % 256 : Nat), b8 (v / 256 % 256 : Nat), b8 (v % 256 : Nat)] := by
  simp [dig, bytesOf]
theorem dig4_inj {v u : Nat} (hv : v < 4294967296) (hu : u < 4294967296) (h : dig v 4 = dig u 4) : v = u := by
  have h' := congrArg bytesOf h
  rw [dig4, dig4] at h'
  simp only [List.cons.injEq, and_true] at h'
  obtain ⟨h1, h2, h3, h4⟩ := h'
  have h1 := b8_inj (by omega) (by omega) h1
  have h2 := b8_inj (by omega) (by omega) h2
  have h3 := b8_inj (by omega) (by omega) h3
  have h4 := b8_inj (by omega) (by omega) h4
  omega
theorem be4_dig (v : Nat) (h : v < 4294967296) : be4 v = dig v 4 := by
  apply ba_ext
  rw [dig4]
  have : v / 16777216 % 256 = v / 16777216 := by omega
  rw [this]; rfl
theorem four_at (s : ByteArray) (i : Nat) (h : i + 4 ≤ s.size) : bytesOf (s.extract i (i + 4)) = [s[i], s[i + 1], s[i + 2], s[i + 3]] := by
  unfold bytesOf
  apply List.ext_getElem
  · simp; omega
  · intro k h1 h2
    simp at h2
    match k, h2 with
    | 0, _ => simp; rfl
    | 1, _ => simp; rfl
    | 2, _ => simp; rfl
    | 3, _ => simp; rfl
theorem dig_n4 (s : ByteArray) (i : Nat) (h : i + 4 ≤ s.size) : dig (n4 s i) 4 = s.extract i (i + 4) := by
  apply ba_ext
  have h0 := bt_lt s i; have h1 := bt_lt s (i + 1); have h2 := bt_lt s (i + 2); have h3 := bt_lt s (i + 3)
  rw [dig4, four_at s i h]
  have e0 : n4 s i / 16777216 % 256 = bt s i := by unfold n4; omega
  have e1 : n4 s i / 65536 % 256 = bt s (i + 1) := by unfold n4; omega
  have e2 : n4 s i / 256 % 256 = bt s (i + 2) := by unfold n4; omega
  have e3 : n4 s i % 256 = bt s (i + 3) := by unfold n4; omega
  rw [e0, e1, e2, e3, ← bt_at s i (by omega), ← bt_at s (i + 1) (by omega), ← bt_at s (i + 2) (by omega), ← bt_at s (i + 3) (by omega), b8_byte, b8_byte, b8_byte, b8_byte]
theorem n4_lt (s : ByteArray) (i : Nat) : n4 s i < 4294967296 := by
  have h0 := bt_lt s i; have h1 := bt_lt s (i + 1); have h2 := bt_lt s (i + 2); have h3 := bt_lt s (i + 3)
  unfold n4; omega
theorem bt_extract (s : ByteArray) (a i : Nat) (h : a ≤ s.size) : bt (s.extract a s.size) i = bt s (a + i) := by
  unfold bt
  by_cases hi : a + i < s.size
  · have h1 : i < (s.extract a s.size).size := by simp; omega
    rw [dif_pos hi, dif_pos h1, ByteArray.getElem_extract]
  · have h1 : ¬ i < (s.extract a s.size).size := by simp; omega
    rw [dif_neg hi, dif_neg h1]
theorem n4_extract (s : ByteArray) (a : Nat) (h : a ≤ s.size) : n4 (s.extract a s.size) 0 = n4 s a := by
  unfold n4
  rw [bt_extract s a _ h, bt_extract s a _ h, bt_extract s a _ h, bt_extract s a _ h]
  simp
theorem extract_join (s : ByteArray) (a b : Nat) (h1 : a ≤ b) (h2 : b ≤ s.size) : s.extract 0 a ++ s.extract a b = s.extract 0 b := by
  apply ba_ext
  rw [bytesOf_append, bytesOf_extract, bytesOf_extract, bytesOf_extract]
  simp only [List.drop_zero, Nat.sub_zero]
  rw [← List.take_add]
  congr 1; omega
/-- The frame's head and content are what the frame begins with. -/
theorem rframeB_eq (s : ByteArray) (h1 : 4 ≤ s.size) (h4 : n3 s + 8 ≤ s.size) : rframeB (bt s 0) (s.extract 4 (4 + n3 s)) = s.extract 0 (4 + n3 s) := by
  have hz : (s.extract 4 (4 + n3 s)).size = n3 s := by simp; omega
  have e : ⟨#[b8 (bt s 0 : Nat)]⟩ ++ dig (n3 s) 3 = s.extract 0 4 := by
    apply ba_ext
    have := four_at s 0 (by omega)
    simp only [Nat.zero_add] at this
    rw [this, bytesOf_append, dig3]
    have h1 := bt_lt s 1; have h2 := bt_lt s 2; have h3 := bt_lt s 3
    have e1 : n3 s / 65536 % 256 = bt s 1 := by unfold n3; omega
    have e2 : n3 s / 256 % 256 = bt s 2 := by unfold n3; omega
    have e3 : n3 s % 256 = bt s 3 := by unfold n3; omega
    rw [e1, e2, e3, ← bt_at s 0 (by omega), ← bt_at s 1 (by omega), ← bt_at s 2 (by omega), ← bt_at s 3 (by omega), b8_byte, b8_byte, b8_byte, b8_byte]
    rfl
  unfold rframeB
  rw [hz, e]
  exact extract_join s 4 (4 + n3 s) (by omega) (by omega)
theorem rframe_iff (s : ByteArray) (h1 : 4 ≤ s.size) (h4 : n3 s + 8 ≤ s.size) :
    rframe (bt s 0) (s.extract 4 (4 + n3 s)) = s.extract 0 (n3 s + 8) ↔ 4294967295 - crc 4294967295 (bytesOf (s.extract 0 (4 + n3 s))) = n4 (s.extract (4 + n3 s) s.size) 0 := by
  unfold rframe
  rw [rframeB_eq s h1 h4, n4_extract s _ (by omega), ← extract_join s (4 + n3 s) (n3 s + 8) (by omega) h4]
  have e : s.extract (4 + n3 s) (n3 s + 8) = dig (n4 s (4 + n3 s)) 4 := by
    rw [dig_n4 s _ (by omega)]
    congr 1; omega
  rw [e]
  constructor
  · intro h
    have h' := congrArg bytesOf h
    rw [bytesOf_append, bytesOf_append] at h'
    exact dig4_inj (by omega) (n4_lt _ _) (ba_ext (List.append_cancel_left h'))
  · intro h; rw [h]
theorem frame_eq (k : Nat) (s : ByteArray) (hk : k < 256) (hs : s.size ≤ 1048576) : frameB k s = rframe k s := by
  have hc := crc0_lt (cat [headB k s.size, s])
  have e : headB k s.size = ⟨#[b8 (k : Int)]⟩ ++ dig s.size 3 := by
    unfold headB
    apply ba_ext
    rw [be4_dig _ (by omega), dig4, bytesOf_append, dig3]
    have e0 : (k * 16777216 + s.size) / 16777216 % 256 = k := by omega
    have e1 : (k * 16777216 + s.size) / 65536 % 256 = s.size / 65536 % 256 := by omega
    have e2 : (k * 16777216 + s.size) / 256 % 256 = s.size / 256 % 256 := by omega
    have e3 : (k * 16777216 + s.size) % 256 = s.size % 256 := by omega
    rw [e0, e1, e2, e3]; rfl
  unfold frameB rframe rframeB
  rw [be4_dig _ (by omega), cat_two, e]
end Go.Proofs.YtfgkgpkaohkehaaGreatDoor
