import Derived.WalkKit
import Derived.Test.YtfgkgpkaohkehaaGreatDoorK1
import Derived.ProofKit
import Derived.LoopTactic
import Derived.Outline
import Derived.WalkSpells
import Derived.WalkLawsBesides
import Derived.Lib.Hide
import Derived.Deep.LoopGhost
import Derived.Deep.QuietTactic
import Derived.BigQuiet
import Derived.ShutString
/- Plain mathematics for the checksum: the register's step over the numbers, and that the two ways to run it agree. No program is imported here. -/
namespace Go.Proofs.YtfgkgpkaohkehaaGreatDoor.Crc

/-- One bit through the register. -/
def sh (c : Nat) : Nat := if c % 2 = 1 then (c / 2) ^^^ 3988292384 else c / 2
def shN : Nat → Nat → Nat
  | 0, c => c
  | k + 1, c => sh (shN k c)
/-- One bit, by the two low bits. -/
def rf (c b : Nat) : Nat := if c % 2 = b % 2 then c / 2 else (c / 2) ^^^ 3988292384
def rfN : Nat → Nat → Nat → Nat
  | 0, c, _ => c
  | k + 1, c, b => rf (rfN k c b) (b / 2 ^ k)
def byte (c b : Nat) : Nat := shN 8 (c ^^^ b)
def crc (c : Nat) (l : List UInt8) : Nat := l.foldl (fun c b => byte c b.toNat) c

theorem half_lt {c : Nat} (h : c < 4294967296) : c / 2 < 4294967296 := by omega
theorem xor_lt {a b : Nat} (ha : a < 4294967296) (hb : b < 4294967296) : a ^^^ b < 4294967296 := Nat.xor_lt_two_pow (n := 32) ha hb
theorem sh_lt {c : Nat} (h : c < 4294967296) : sh c < 4294967296 := by
  unfold sh; split
  · exact xor_lt (by omega) (by decide)
  · omega
theorem shN_lt {c : Nat} (h : c < 4294967296) : ∀ k, shN k c < 4294967296
  | 0 => h
  | k + 1 => sh_lt (shN_lt h k)
theorem rf_lt {c b : Nat} (h : c < 4294967296) : rf c b < 4294967296 := by
  unfold rf; split
  · omega
  · exact xor_lt (by omega) (by decide)
theorem rfN_lt {c b : Nat} (h : c < 4294967296) : ∀ k, rfN k c b < 4294967296
  | 0 => h
  | k + 1 => rf_lt (rfN_lt h k)
theorem byte_lt {c b : Nat} (h : c < 4294967296) (hb : b < 4294967296) : byte c b < 4294967296 := shN_lt (xor_lt h hb) 8
theorem crc_lt {c : Nat} (h : c < 4294967296) (l : List UInt8) : crc c l < 4294967296 := by
  induction l generalizing c with
  | nil => exact h
  | cons b t ih => exact ih (byte_lt h (by have := b.toNat_lt; omega))

theorem xor_half (c b : Nat) : (c ^^^ b) / 2 = (c / 2) ^^^ (b / 2) := by
  have := Nat.shiftRight_xor_distrib (a := c) (b := b) (i := 1)
  simpa [Nat.shiftRight_eq_div_pow] using this
theorem xor_mod (c b : Nat) : (c ^^^ b) % 2 = if c % 2 = b % 2 then 0 else 1 := by
  have h := Nat.xor_mod_two_pow (a := c) (b := b) (n := 1)
  simp only [Nat.pow_one] at h
  rw [h]
  have h1 : c % 2 = 0 ∨ c % 2 = 1 := by omega
  have h2 : b % 2 = 0 ∨ b % 2 = 1 := by omega
  rcases h1 with h1 | h1 <;> rcases h2 with h2 | h2 <;> rw [h1, h2] <;> decide

theorem step_eq (c b : Nat) : sh (c ^^^ b) = rf c b ^^^ (b / 2) := by
  unfold sh rf
  rw [xor_mod, xor_half]
  by_cases h : c % 2 = b % 2
  · simp [h]
  · simp only [h, if_false, if_true]
    rw [Nat.xor_assoc, Nat.xor_assoc, Nat.xor_comm (b / 2)]
theorem steps_eq (c b : Nat) : ∀ k, shN k (c ^^^ b) = rfN k c b ^^^ (b / 2 ^ k)
  | 0 => by simp [shN, rfN]
  | k + 1 => by
    rw [shN, steps_eq c b k, step_eq, rfN, Nat.div_div_eq_div_mul, ← Nat.pow_succ]
theorem byte_eq (c b : Nat) (hb : b < 256) : byte c b = rfN 8 c b := by
  unfold byte
  rw [steps_eq, Nat.div_eq_of_lt (by omega), Nat.xor_zero]

theorem crc_append (c : Nat) (l m : List UInt8) : crc c (l ++ m) = crc (crc c l) m := by simp [crc]
theorem crc_snoc (c : Nat) (l : List UInt8) (b : UInt8) : crc c (l ++ [b]) = byte (crc c l) b.toNat := by simp [crc]

/-- The register's step in the spelling of the words' operations. -/
theorem neg_and (c : Nat) (h : c < 4294967296) : IntKind.u32.wrap (-(bits .and .u32 (c : Int) 1)) = if c % 2 = 1 then 4294967295 else 0 := by
  have e : bits .and .u32 (c : Int) 1 = ((c % 2 : Nat) : Int) := by
    have := u32_and_nat c 1 h (by decide)
    rw [Nat.and_one_is_mod] at this
    exact this
  rw [e]
  have : c % 2 = 0 ∨ c % 2 = 1 := by omega
  rcases this with h | h <;> rw [h] <;> decide
theorem sh_bits (c : Nat) (h : c < 4294967296) :
    bits .xor .u32 ((c : Int) / 2) (bits .and .u32 3988292384 (IntKind.u32.wrap (-(bits .and .u32 (c : Int) 1)))) = ((sh c : Nat) : Int) := by
  rw [neg_and c h]
  unfold sh
  have e : ((c : Int) / 2) = ((c / 2 : Nat) : Int) := by omega
  rw [e]
  split
  · have : bits .and .u32 3988292384 4294967295 = ((3988292384 : Nat) : Int) := by decide +kernel
    rw [this]
    exact u32_xor_nat _ _ (by omega) (by decide)
  · have : bits .and .u32 3988292384 0 = ((0 : Nat) : Int) := by decide +kernel
    rw [this, u32_xor_nat _ _ (by omega) (by decide), Nat.xor_zero]
theorem not_u32 (c : Nat) (h : c < 4294967296) : (4294967295 : Int) - c = ((4294967295 - c : Nat) : Int) := by omega
end Go.Proofs.YtfgkgpkaohkehaaGreatDoor.Crc
namespace Go.Proofs.YtfgkgpkaohkehaaGreatDoor
open Go.ChangeShapes Go.WideShapes Go.ChangeAt Go.RowKit
open Crc
theorem sh_walk (c : Nat) (h : c < 4294967296) :
    bits .xor .u32 ((c : Int) / 2) (bits .and .u32 3988292384 (-(bits .and .u32 (c : Int) 1) % 4294967296)) = ((sh c : Nat) : Int) := by
  have := sh_bits c h
  rwa [IntKind.wrap_u32'] at this
set_option maxHeartbeats 400000 in
theorem shift_any (r b : Nat) (w : World) (h1 : r < 4294967296) (g1 : b < 256) :
    Calls Tryz.prog 91 #[.int .u32 r, .int .u8 b] w fun e w' => e = .returned (.int .u32 (byte r b)) ∧ w = w' := by
  have X := u32_xor_nat r b h1 (by omega)
  have hx := xor_lt h1 (show b < 4294967296 by omega)
  go_enter Tryz.func91, Tryz.ntmps91
  go_wp2
  go_loop [0, 9] (fun r' i => ∃ k : Nat, k ≤ 8 ∧ i = .int .i64 k ∧ r' = .int .u32 (shN k (r ^^^ b) : Nat)) (fun _ i => 8 - (intOf i).toNat)
  case atStart => exact ⟨0, by omega, rfl, rfl⟩
  case round =>
    obtain ⟨k, hk, rfl, rfl⟩ := hrel
    have hc := shN_lt hx k
    by_cases hlt : k < 8
    · go_wp2
      go_round
      case rel => exact ⟨k + 1, by omega, by go_num, by rw [sh_walk _ hc]; rfl⟩
      case measure => simp [intOf]; omega
    · obtain rfl : k = 8 := by omega
      go_wp2
      go_ret
      exact ⟨rfl, rfl⟩

theorem not_walk (c : Nat) (h : c < 4294967296) : bits .xor .u32 IntKind.u32.max (c : Int) = ((4294967295 - c : Nat) : Int) := by
  have e : IntKind.u32.max = ((4294967295 : Nat) : Int) := by decide
  rw [e, u32_xor_nat _ _ (by decide) h]
  congr 1
  have h2 : c < 2 ^ 32 := h
  have : 4294967295 ^^^ c = 2 ^ 32 - (c + 1) := by
    apply Nat.eq_of_testBit_eq
    intro i
    rw [Nat.testBit_two_pow_sub_succ h2, Nat.testBit_xor, show (4294967295 : Nat) = 2 ^ 32 - 1 by decide, Nat.testBit_two_pow_sub_one]
    by_cases hi : i < 32
    · simp [hi]
    · have : c.testBit i = false := Nat.testBit_lt_two_pow (Nat.lt_of_lt_of_le h2 (Nat.pow_le_pow_right (by decide) (by omega)))
      simp [hi, this]
  rw [this]; omega
set_option maxHeartbeats 400000 in
theorem sum_any (ss : List ByteArray) (b off : Nat) (w : World) (hz : ∀ s ∈ ss, s.size ≤ 9223372036854775807) (hl : ss.length ≤ 1000)
   (hc : ∀ i, (h : i < ss.length) → w.cell? ⟨b, off + i, none⟩ = some (.string ss[i])) :
    Calls Tryz.prog 53 #[.slice (some ⟨b, off, none⟩) ss.length ss.length] w fun e w' => e = .returned (.int .u32 (4294967295 - crc 4294967295 (cat ss) : Nat)) ∧ w = w' := by
  have Hc := Lib.hid hc; clear hc
  have Hz := Lib.hid hz; clear hz
  go_enter Tryz.func53, Tryz.ntmps53
  go_wp2
  go_loop [3, 9] (fun r i => ∃ k : Nat, k ≤ ss.length ∧ i = .int .i64 k ∧ r = .int .u32 (crc 4294967295 (cat (ss.take k)) : Nat)) (fun _ i => ss.length - (intOf i).toNat)
  case atStart => exact ⟨0, by omega, rfl, rfl⟩
  case round =>
    obtain ⟨k, hk, rfl, rfl⟩ := hrel
    by_cases hlt : k < ss.length
    · have hck := Hc.out k hlt
      have hsk := Hz.out ss[k] (List.getElem_mem hlt)
      have hcs := cat_snoc ss k hlt
      have hr := crc_lt (show 4294967295 < 4294967296 by decide) (cat (ss.take k))
      generalize ss[k] = s at *
      have Hcs := Lib.hid hcs; clear hcs
      generalize hA : cat (ss.take k) = A at *
      have HA := Lib.hid hA; clear hA
      go_wp2
      go_loop [3, 15] (fun r i => ∃ j : Nat, j ≤ s.size ∧ i = .int .i64 j ∧ r = .int .u32 (crc 4294967295 (A ++ (bytesOf s).take j) : Nat)) (fun _ i => s.size - (intOf i).toNat)
      case atStart => exact ⟨0, by omega, rfl, by simp⟩
      case round =>
        obtain ⟨j, hj, rfl, rfl⟩ := hrel
        have hr' := crc_lt (show 4294967295 < 4294967296 by decide) (A ++ (bytesOf s).take j)
        by_cases hjl : j < s.size
        · have hb := s[j].toNat_lt
          have hts := Lib.hid (take_snoc s j hjl)
          go_wp2_with (go_at_call 91; refine (shift_any _ _ _ (by assumption) (by assumption)).mono ?_; rintro e w' ⟨rfl, rfl⟩)
          go_round
          case rel => exact ⟨j + 1, by omega, by go_num, by rw [hts.out, ← List.append_assoc, crc_snoc]⟩
          case measure => simp [intOf]; omega
        · obtain rfl : j = s.size := by omega
          go_wp2
          go_round
          case rel => exact ⟨k + 1, by omega, by go_num, by rw [Hcs.out, take_size]⟩
          case measure => simp [intOf]; omega
    · obtain rfl : k = ss.length := by omega
      have hr := crc_lt (show 4294967295 < 4294967296 by decide) (cat (ss.take ss.length))
      go_wp2
      go_ret
      exact ⟨ret_int (not_walk _ (by simpa using hr)), rfl⟩
theorem rf_t (c B : Nat) (hc : c < 4294967296) (h : ((c : Int) % 2 != (B : Int) % 2) = true) : bits .xor .u32 ((c : Int) / 2) 3988292384 = ((rf c B : Nat) : Int) := by
  have h' : ¬ c % 2 = B % 2 := by intro e; simp at h; omega
  unfold rf; rw [if_neg h']
  have e : ((c : Int) / 2) = ((c / 2 : Nat) : Int) := by omega
  rw [e]; exact u32_xor_nat _ _ (by omega) (by decide)
theorem rf_f (c B : Nat) (h : ((c : Int) % 2 != (B : Int) % 2) = false) : (c : Int) / 2 = ((rf c B : Nat) : Int) := by
  have h' : c % 2 = B % 2 := by simp at h; omega
  unfold rf; rw [if_pos h']; omega
theorem crc0_lt (l : List UInt8) : crc 4294967295 l < 4294967296 := crc_lt (by decide) l
end Go.Proofs.YtfgkgpkaohkehaaGreatDoor
