import Derived.Test.YtjllnojhhlkpoaaC00
import Derived.Test.YtjllnojhhlkpoaaM02
import Derived.WalkKit
import Derived.ProofKit
import Derived.LoopTactic
import Derived.Outline
import Derived.WalkSpells
import Derived.WalkLawsBesides
import Derived.Lib.Hide
import Derived.Deep.LoopGhost
import Derived.Deep.QuietTactic
import Derived.BigQuiet
import Derived.ShutString
namespace Go.Proofs.Ytjllnojhhlkpoaa
open Go.ChangeShapes Go.WideShapes Go.ChangeAt Go.RowKit
open Crc
theorem sh_walk (c : Nat) (h : c < 4294967296) :
    bits .xor .u32 ((c : Int) / 2) (bits .and .u32 3988292384 (-(bits .and .u32 (c : Int) 1) % 4294967296)) = ((sh c : Nat) : Int) := by
  have := sh_bits c h
  rwa [IntKind.wrap_u32'] at this
set_option maxHeartbeats 400000 in
theorem shift_any (r b : Nat) (w : World) (h1 : r < 4294967296) (g1 : b < 256) :
    Calls Try.prog 69 #[.int .u32 r, .int .u8 b] w fun e w' => e = .returned (.int .u32 (byte r b)) ∧ w = w' := by
  have X := u32_xor_nat r b h1 (by omega)
  have hx := xor_lt h1 (show b < 4294967296 by omega)
  go_enter Try.func69, Try.ntmps69
  go_wp2
  go_loop [0, 9] (fun r' i => ∃ k : Nat, k ≤ 8 ∧ i = .int .i64 k ∧ r' = .int .u32 (shN k (r ^^^ b) : Nat)) (fun _ i => 8 - (intOf i).toNat)
  case atStart => exact ⟨0, by omega, rfl, rfl⟩
  case round =>
    obtain ⟨k, hk, rfl, rfl⟩ := hrel
    have hc := shN_lt hx k
    by_cases hlt : k < 8
    · go_wp2
      go_round
      case rel => exact ⟨k + 1, by omega, by go_num, by rw [sh_walk _ hc]; rfl⟩
      case measure => simp [intOf]; omega
    · obtain rfl : k = 8 := by omega
      go_wp2
      go_ret
      exact ⟨rfl, rfl⟩

theorem not_walk (c : Nat) (h : c < 4294967296) : bits .xor .u32 IntKind.u32.max (c : Int) = ((4294967295 - c : Nat) : Int) := by
  have e : IntKind.u32.max = ((4294967295 : Nat) : Int) := by decide
  rw [e, u32_xor_nat _ _ (by decide) h]
  congr 1
  have h2 : c < 2 ^ 32 := h
  have : 4294967295 ^^^ c = 2 ^ 32 - (c + 1) := by
    apply Nat.eq_of_testBit_eq
    intro i
    rw [Nat.testBit_two_pow_sub_succ h2, Nat.testBit_xor, show (4294967295 : Nat) = 2 ^ 32 - 1 by decide, Nat.testBit_two_pow_sub_one]
    by_cases hi : i < 32
    · simp [hi]
    · have : c.testBit i = false := Nat.testBit_lt_two_pow (Nat.lt_of_lt_of_le h2 (Nat.pow_le_pow_right (by decide) (by omega)))
      simp [hi, this]
  rw [this]; omega
set_option maxHeartbeats 400000 in
theorem sum_any (ss : List ByteArray) (b off : Nat) (w : World) (hz : ∀ s ∈ ss, s.size ≤ 9223372036854775807) (hl : ss.length ≤ 1000)
   (hc : ∀ i, (h : i < ss.length) → w.cell? ⟨b, off + i, none⟩ = some (.string ss[i])) :
    Calls Try.prog 34 #[.slice (some ⟨b, off, none⟩) ss.length ss.length] w fun e w' => e = .returned (.int .u32 (4294967295 - crc 4294967295 (cat ss) : Nat)) ∧ w = w' := by
  have Hc := Lib.hid hc; clear hc
  have Hz := Lib.hid hz; clear hz
  go_enter Try.func34, Try.ntmps34
  go_wp2
  go_loop [3, 9] (fun r i => ∃ k : Nat, k ≤ ss.length ∧ i = .int .i64 k ∧ r = .int .u32 (crc 4294967295 (cat (ss.take k)) : Nat)) (fun _ i => ss.length - (intOf i).toNat)
  case atStart => exact ⟨0, by omega, rfl, rfl⟩
  case round =>
    obtain ⟨k, hk, rfl, rfl⟩ := hrel
    by_cases hlt : k < ss.length
    · have hck := Hc.out k hlt
      have hsk := Hz.out ss[k] (List.getElem_mem hlt)
      have hcs := cat_snoc ss k hlt
      have hr := crc_lt (show 4294967295 < 4294967296 by decide) (cat (ss.take k))
      generalize ss[k] = s at *
      have Hcs := Lib.hid hcs; clear hcs
      generalize hA : cat (ss.take k) = A at *
      have HA := Lib.hid hA; clear hA
      go_wp2
      go_loop [3, 15] (fun r i => ∃ j : Nat, j ≤ s.size ∧ i = .int .i64 j ∧ r = .int .u32 (crc 4294967295 (A ++ (bytesOf s).take j) : Nat)) (fun _ i => s.size - (intOf i).toNat)
      case atStart => exact ⟨0, by omega, rfl, by simp⟩
      case round =>
        obtain ⟨j, hj, rfl, rfl⟩ := hrel
        have hr' := crc_lt (show 4294967295 < 4294967296 by decide) (A ++ (bytesOf s).take j)
        by_cases hjl : j < s.size
        · have hb := s[j].toNat_lt
          have hts := Lib.hid (take_snoc s j hjl)
          go_wp2_with (go_at_call 69; refine (shift_any _ _ _ (by assumption) (by assumption)).mono ?_; rintro e w' ⟨rfl, rfl⟩)
          go_round
          case rel => exact ⟨j + 1, by omega, by go_num, by rw [hts.out, ← List.append_assoc, crc_snoc]⟩
          case measure => simp [intOf]; omega
        · obtain rfl : j = s.size := by omega
          go_wp2
          go_round
          case rel => exact ⟨k + 1, by omega, by go_num, by rw [Hcs.out, take_size]⟩
          case measure => simp [intOf]; omega
    · obtain rfl : k = ss.length := by omega
      have hr := crc_lt (show 4294967295 < 4294967296 by decide) (cat (ss.take ss.length))
      go_wp2
      go_ret
      exact ⟨ret_int (not_walk _ (by simpa using hr)), rfl⟩
theorem rf_t (c B : Nat) (hc : c < 4294967296) (h : ((c : Int) % 2 != (B : Int) % 2) = true) : bits .xor .u32 ((c : Int) / 2) 3988292384 = ((rf c B : Nat) : Int) := by
  have h' : ¬ c % 2 = B % 2 := by intro e; simp at h; omega
  unfold rf; rw [if_neg h']
  have e : ((c : Int) / 2) = ((c / 2 : Nat) : Int) := by omega
  rw [e]; exact u32_xor_nat _ _ (by omega) (by decide)
theorem rf_f (c B : Nat) (h : ((c : Int) % 2 != (B : Int) % 2) = false) : (c : Int) / 2 = ((rf c B : Nat) : Int) := by
  have h' : c % 2 = B % 2 := by simp at h; omega
  unfold rf; rw [if_pos h']; omega
theorem crc0_lt (l : List UInt8) : crc 4294967295 l < 4294967296 := crc_lt (by decide) l
set_option maxHeartbeats 400000 in
theorem refSum_any (s : ByteArray) (w : World) (hs : s.size ≤ 9223372036854775807) :
    Calls Try.prog 77 #[.string s] w fun e w' => e = .returned (.int .u32 (4294967295 - crc 4294967295 (bytesOf s) : Nat)) ∧ w = w' := by
  go_enter Try.func77, Try.ntmps77
  go_wp2
  go_loop [3, 4] (fun r i => ∃ k : Nat, k ≤ s.size ∧ i = .int .i64 k ∧ r = .int .u32 (crc 4294967295 ((bytesOf s).take k) : Nat)) (fun _ i => s.size - (intOf i).toNat)
  case atStart => exact ⟨0, by omega, rfl, rfl⟩
  case round =>
    obtain ⟨k, hk, rfl, rfl⟩ := hrel
    have hr := crc0_lt ((bytesOf s).take k)
    by_cases hlt : k < s.size
    · have hts := Lib.hid (take_snoc s k hlt)
      have hb := s[k].toNat_lt
      generalize hC : crc 4294967295 ((bytesOf s).take k) = C at *
      have HC := Lib.hid hC; clear hC
      go_wp2
      go_loop [3, 5, 6] (fun r b i => ∃ j : Nat, j ≤ 8 ∧ i = .int .i64 j ∧ r = .int .u32 (rfN j C s[k].toNat : Nat) ∧ b = .int .u8 (s[k].toNat / 2 ^ j : Nat)) (fun _ _ i => 8 - (intOf i).toNat)
      case atStart => exact ⟨0, by omega, rfl, rfl, by simp⟩
      case round =>
        obtain ⟨j, hj, rfl, rfl, rfl⟩ := hrel
        by_cases hjl : j < 8
        · have hc := rfN_lt hr (b := s[k].toNat) j
          have hd : s[k].toNat / 2 ^ j < 256 := Nat.lt_of_le_of_lt (Nat.div_le_self _ _) hb
          have hp : s[k].toNat / 2 ^ (j + 1) = s[k].toNat / 2 ^ j / 2 := by rw [Nat.div_div_eq_div_mul, ← Nat.pow_succ]
          have hn : rfN (j + 1) C s[k].toNat = rf (rfN j C s[k].toNat) (s[k].toNat / 2 ^ j) := rfl
          have Hp := Lib.hid hp; clear hp
          have Hn := Lib.hid hn; clear hn
          generalize s[k].toNat / 2 ^ j = B at *
          generalize rfN j C s[k].toNat = c at *
          go_wp2
          all_goals
            go_round
            case rel => exact ⟨j + 1, by omega, by go_num, by rw [Hn.out]; first | rw [rf_t c B hc (by assumption)] | rw [rf_f c B (by assumption)], by rw [Hp.out]; go_num⟩
            case measure => simp [intOf]; omega
        · obtain rfl : j = 8 := by omega
          go_wp2
          go_round
          case rel => exact ⟨k + 1, by omega, by go_num, by rw [hts.out, crc_snoc, HC.out, byte_eq _ _ hb]⟩
          case measure => simp [intOf]; omega
    · obtain rfl : k = s.size := by omega
      go_wp2
      go_ret
      exact ⟨ret_int (by rw [take_size] at *; omega), rfl⟩
end Go.Proofs.Ytjllnojhhlkpoaa
