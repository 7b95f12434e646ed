import Derived.WalkKit
import Derived.Test.YtihhfdkcggnjpaaC00
import Derived.ProofKit
import Derived.LoopTactic
import Derived.Outline
import Derived.WalkSpells
import Derived.WalkLawsBesides
import Derived.Lib.Hide
import Derived.Deep.LoopGhost
import Derived.Deep.QuietTactic
import Derived.BigQuiet
import Derived.ShutString
import Derived.Test.YtihhfdkcggnjpaaC12
/- Plain mathematics for the checksum: the register's step over the numbers, and that the two ways to run it agree. No program is imported here. -/
namespace Go.Proofs.Ytihhfdkcggnjpaa.Crc

/-- One bit through the register. -/
def sh (c : Nat) : Nat := if c % 2 = 1 then (c / 2) ^^^ 3988292384 else c / 2
def shN : Nat → Nat → Nat
  | 0, c => c
  | k + 1, c => sh (shN k c)
/-- One bit, by the two low bits. -/
def rf (c b : Nat) : Nat := if c % 2 = b % 2 then c / 2 else (c / 2) ^^^ 3988292384
def rfN : Nat → Nat → Nat → Nat
  | 0, c, _ => c
  | k + 1, c, b => rf (rfN k c b) (b / 2 ^ k)
def byte (c b : Nat) : Nat := shN 8 (c ^^^ b)
def crc (c : Nat) (l : List UInt8) : Nat := l.foldl (fun c b => byte c b.toNat) c

theorem half_lt {c : Nat} (h : c < 4294967296) : c / 2 < 4294967296 := by omega
theorem xor_lt {a b : Nat} (ha : a < 4294967296) (hb : b < 4294967296) : a ^^^ b < 4294967296 := Nat.xor_lt_two_pow (n := 32) ha hb
theorem sh_lt {c : Nat} (h : c < 4294967296) : sh c < 4294967296 := by
  unfold sh; split
  · exact xor_lt (by omega) (by decide)
  · omega
theorem shN_lt {c : Nat} (h : c < 4294967296) : ∀ k, shN k c < 4294967296
  | 0 => h
  | k + 1 => sh_lt (shN_lt h k)
theorem rf_lt {c b : Nat} (h : c < 4294967296) : rf c b < 4294967296 := by
  unfold rf; split
  · omega
  · exact xor_lt (by omega) (by decide)
theorem rfN_lt {c b : Nat} (h : c < 4294967296) : ∀ k, rfN k c b < 4294967296
  | 0 => h
  | k + 1 => rf_lt (rfN_lt h k)
theorem byte_lt {c b : Nat} (h : c < 4294967296) (hb : b < 4294967296) : byte c b < 4294967296 := shN_lt (xor_lt h hb) 8
theorem crc_lt {c : Nat} (h : c < 4294967296) (l : List UInt8) : crc c l < 4294967296 := by
  induction l generalizing c with
  | nil => exact h
  | cons b t ih => exact ih (byte_lt h (by have := b.toNat_lt; omega))

theorem xor_half (c b : Nat) : (c ^^^ b) / 2 = (c / 2) ^^^ (b / 2) := by
  have := Nat.shiftRight_xor_distrib (a := c) (b := b) (i := 1)
  simpa [Nat.shiftRight_eq_div_pow] using this
theorem xor_mod (c b : Nat) : (c ^^^ b) % 2 = if c % 2 = b % 2 then 0 else 1 := by
  have h := Nat.xor_mod_two_pow (a := c) (b := b) (n := 1)
  simp only [Nat.pow_one] at h
  rw [h]
  have h1 : c % 2 = 0 ∨ c % 2 = 1 := by omega
  have h2 : b % 2 = 0 ∨ b % 2 = 1 := by omega
  rcases h1 with h1 | h1 <;> rcases h2 with h2 | h2 <;> rw [h1, h2] <;> decide

theorem step_eq (c b : Nat) : sh (c ^^^ b) = rf c b ^^^ (b / 2) := by
  unfold sh rf
  rw [xor_mod, xor_half]
  by_cases h : c % 2 = b % 2
  · simp [h]
  · simp only [h, if_false, if_true]
    rw [Nat.xor_assoc, Nat.xor_assoc, Nat.xor_comm (b / 2)]
theorem steps_eq (c b : Nat) : ∀ k, shN k (c ^^^ b) = rfN k c b ^^^ (b / 2 ^ k)
  | 0 => by simp [shN, rfN]
  | k + 1 => by
    rw [shN, steps_eq c b k, step_eq, rfN, Nat.div_div_eq_div_mul, ← Nat.pow_succ]
theorem byte_eq (c b : Nat) (hb : b < 256) : byte c b = rfN 8 c b := by
  unfold byte
  rw [steps_eq, Nat.div_eq_of_lt (by omega), Nat.xor_zero]

theorem crc_append (c : Nat) (l m : List UInt8) : crc c (l ++ m) = crc (crc c l) m := by simp [crc]
theorem crc_snoc (c : Nat) (l : List UInt8) (b : UInt8) : crc c (l ++ [b]) = byte (crc c l) b.toNat := by simp [crc]

/-- The register's step in the spelling of the words' operations. -/
theorem neg_and (c : Nat) (h : c < 4294967296) : IntKind.u32.wrap (-(bits .and .u32 (c : Int) 1)) = if c % 2 = 1 then 4294967295 else 0 := by
  have e : bits .and .u32 (c : Int) 1 = ((c % 2 : Nat) : Int) := by
    have := u32_and_nat c 1 h (by decide)
    rw [Nat.and_one_is_mod] at this
    exact this
  rw [e]
  have : c % 2 = 0 ∨ c % 2 = 1 := by omega
  rcases this with h | h <;> rw [h] <;> decide
theorem sh_bits (c : Nat) (h : c < 4294967296) :
    bits .xor .u32 ((c : Int) / 2) (bits .and .u32 3988292384 (IntKind.u32.wrap (-(bits .and .u32 (c : Int) 1)))) = ((sh c : Nat) : Int) := by
  rw [neg_and c h]
  unfold sh
  have e : ((c : Int) / 2) = ((c / 2 : Nat) : Int) := by omega
  rw [e]
  split
  · have : bits .and .u32 3988292384 4294967295 = ((3988292384 : Nat) : Int) := by decide +kernel
    rw [this]
    exact u32_xor_nat _ _ (by omega) (by decide)
  · have : bits .and .u32 3988292384 0 = ((0 : Nat) : Int) := by decide +kernel
    rw [this, u32_xor_nat _ _ (by omega) (by decide), Nat.xor_zero]
theorem not_u32 (c : Nat) (h : c < 4294967296) : (4294967295 : Int) - c = ((4294967295 - c : Nat) : Int) := by omega
end Go.Proofs.Ytihhfdkcggnjpaa.Crc
namespace Go.Proofs.Ytihhfdkcggnjpaa
open Go.ChangeShapes Go.WideShapes Go.ChangeAt Go.RowKit
open Crc
theorem sh_walk (c : Nat) (h : c < 4294967296) :
    bits .xor .u32 ((c : Int) / 2) (bits .and .u32 3988292384 (-(bits .and .u32 (c : Int) 1) % 4294967296)) = ((sh c : Nat) : Int) := by
  have := sh_bits c h
  rwa [IntKind.wrap_u32'] at this
set_option maxHeartbeats 400000 in
theorem shift_any (r b : Nat) (w : World) (h1 : r < 4294967296) (g1 : b < 256) :
    Calls Try.prog 211 #[.int .u32 r, .int .u8 b] w fun e w' => e = .returned (.int .u32 (byte r b)) ∧ w = w' := by
  have X := u32_xor_nat r b h1 (by omega)
  have hx := xor_lt h1 (show b < 4294967296 by omega)
  go_enter Try.func211, Try.ntmps211
  go_wp2
  go_loop [0, 9] (fun r' i => ∃ k : Nat, k ≤ 8 ∧ i = .int .i64 k ∧ r' = .int .u32 (shN k (r ^^^ b) : Nat)) (fun _ i => 8 - (intOf i).toNat)
  case atStart => exact ⟨0, by omega, rfl, rfl⟩
  case round =>
    obtain ⟨k, hk, rfl, rfl⟩ := hrel
    have hc := shN_lt hx k
    by_cases hlt : k < 8
    · go_wp2
      go_round
      case rel => exact ⟨k + 1, by omega, by go_num, by rw [sh_walk _ hc]; rfl⟩
      case measure => simp [intOf]; omega
    · obtain rfl : k = 8 := by omega
      go_wp2
      go_ret
      exact ⟨rfl, rfl⟩

theorem not_walk (c : Nat) (h : c < 4294967296) : bits .xor .u32 IntKind.u32.max (c : Int) = ((4294967295 - c : Nat) : Int) := by
  have e : IntKind.u32.max = ((4294967295 : Nat) : Int) := by decide
  rw [e, u32_xor_nat _ _ (by decide) h]
  congr 1
  have h2 : c < 2 ^ 32 := h
  have : 4294967295 ^^^ c = 2 ^ 32 - (c + 1) := by
    apply Nat.eq_of_testBit_eq
    intro i
    rw [Nat.testBit_two_pow_sub_succ h2, Nat.testBit_xor, show (4294967295 : Nat) = 2 ^ 32 - 1 by decide, Nat.testBit_two_pow_sub_one]
    by_cases hi : i < 32
    · simp [hi]
    · have : c.testBit i = false := Nat.testBit_lt_two_pow (Nat.lt_of_lt_of_le h2 (Nat.pow_le_pow_right (by decide) (by omega)))
      simp [hi, this]
  rw [this]; omega
set_option maxHeartbeats 400000 in
theorem sum_any (ss : List ByteArray) (b off : Nat) (w : World) (hz : ∀ s ∈ ss, s.size ≤ 9223372036854775807) (hl : ss.length ≤ 1000)
   (hc : ∀ i, (h : i < ss.length) → w.cell? ⟨b, off + i, none⟩ = some (.string ss[i])) :
    Calls Try.prog 172 #[.slice (some ⟨b, off, none⟩) ss.length ss.length] w fun e w' => e = .returned (.int .u32 (4294967295 - crc 4294967295 (cat ss) : Nat)) ∧ w = w' := by
  have Hc := Lib.hid hc; clear hc
  have Hz := Lib.hid hz; clear hz
  go_enter Try.func172, Try.ntmps172
  go_wp2
  go_loop [3, 9] (fun r i => ∃ k : Nat, k ≤ ss.length ∧ i = .int .i64 k ∧ r = .int .u32 (crc 4294967295 (cat (ss.take k)) : Nat)) (fun _ i => ss.length - (intOf i).toNat)
  case atStart => exact ⟨0, by omega, rfl, rfl⟩
  case round =>
    obtain ⟨k, hk, rfl, rfl⟩ := hrel
    by_cases hlt : k < ss.length
    · have hck := Hc.out k hlt
      have hsk := Hz.out ss[k] (List.getElem_mem hlt)
      have hcs := cat_snoc ss k hlt
      have hr := crc_lt (show 4294967295 < 4294967296 by decide) (cat (ss.take k))
      generalize ss[k] = s at *
      have Hcs := Lib.hid hcs; clear hcs
      generalize hA : cat (ss.take k) = A at *
      have HA := Lib.hid hA; clear hA
      go_wp2
      go_loop [3, 15] (fun r i => ∃ j : Nat, j ≤ s.size ∧ i = .int .i64 j ∧ r = .int .u32 (crc 4294967295 (A ++ (bytesOf s).take j) : Nat)) (fun _ i => s.size - (intOf i).toNat)
      case atStart => exact ⟨0, by omega, rfl, by simp⟩
      case round =>
        obtain ⟨j, hj, rfl, rfl⟩ := hrel
        have hr' := crc_lt (show 4294967295 < 4294967296 by decide) (A ++ (bytesOf s).take j)
        by_cases hjl : j < s.size
        · have hb := s[j].toNat_lt
          have hts := Lib.hid (take_snoc s j hjl)
          go_wp2_with (go_at_call 211; refine (shift_any _ _ _ (by assumption) (by assumption)).mono ?_; rintro e w' ⟨rfl, rfl⟩)
          go_round
          case rel => exact ⟨j + 1, by omega, by go_num, by rw [hts.out, ← List.append_assoc, crc_snoc]⟩
          case measure => simp [intOf]; omega
        · obtain rfl : j = s.size := by omega
          go_wp2
          go_round
          case rel => exact ⟨k + 1, by omega, by go_num, by rw [Hcs.out, take_size]⟩
          case measure => simp [intOf]; omega
    · obtain rfl : k = ss.length := by omega
      have hr := crc_lt (show 4294967295 < 4294967296 by decide) (cat (ss.take ss.length))
      go_wp2
      go_ret
      exact ⟨ret_int (not_walk _ (by simpa using hr)), rfl⟩
theorem rf_t (c B : Nat) (hc : c < 4294967296) (h : ((c : Int) % 2 != (B : Int) % 2) = true) : bits .xor .u32 ((c : Int) / 2) 3988292384 = ((rf c B : Nat) : Int) := by
  have h' : ¬ c % 2 = B % 2 := by intro e; simp at h; omega
  unfold rf; rw [if_neg h']
  have e : ((c : Int) / 2) = ((c / 2 : Nat) : Int) := by omega
  rw [e]; exact u32_xor_nat _ _ (by omega) (by decide)
theorem rf_f (c B : Nat) (h : ((c : Int) % 2 != (B : Int) % 2) = false) : (c : Int) / 2 = ((rf c B : Nat) : Int) := by
  have h' : c % 2 = B % 2 := by simp at h; omega
  unfold rf; rw [if_pos h']; omega
theorem crc0_lt (l : List UInt8) : crc 4294967295 l < 4294967296 := crc_lt (by decide) l
set_option maxHeartbeats 400000 in
theorem refSum_any (s : ByteArray) (w : World) (hs : s.size ≤ 9223372036854775807) :
    Calls Try.prog 174 #[.string s] w fun e w' => e = .returned (.int .u32 (4294967295 - crc 4294967295 (bytesOf s) : Nat)) ∧ w = w' := by
  go_enter Try.func174, Try.ntmps174
  go_wp2
  go_loop [3, 4] (fun r i => ∃ k : Nat, k ≤ s.size ∧ i = .int .i64 k ∧ r = .int .u32 (crc 4294967295 ((bytesOf s).take k) : Nat)) (fun _ i => s.size - (intOf i).toNat)
  case atStart => exact ⟨0, by omega, rfl, rfl⟩
  case round =>
    obtain ⟨k, hk, rfl, rfl⟩ := hrel
    have hr := crc0_lt ((bytesOf s).take k)
    by_cases hlt : k < s.size
    · have hts := Lib.hid (take_snoc s k hlt)
      have hb := s[k].toNat_lt
      generalize hC : crc 4294967295 ((bytesOf s).take k) = C at *
      have HC := Lib.hid hC; clear hC
      go_wp2
      go_loop [3, 5, 6] (fun r b i => ∃ j : Nat, j ≤ 8 ∧ i = .int .i64 j ∧ r = .int .u32 (rfN j C s[k].toNat : Nat) ∧ b = .int .u8 (s[k].toNat / 2 ^ j : Nat)) (fun _ _ i => 8 - (intOf i).toNat)
      case atStart => exact ⟨0, by omega, rfl, rfl, by simp⟩
      case round =>
        obtain ⟨j, hj, rfl, rfl, rfl⟩ := hrel
        by_cases hjl : j < 8
        · have hc := rfN_lt hr (b := s[k].toNat) j
          have hd : s[k].toNat / 2 ^ j < 256 := Nat.lt_of_le_of_lt (Nat.div_le_self _ _) hb
          have hp : s[k].toNat / 2 ^ (j + 1) = s[k].toNat / 2 ^ j / 2 := by rw [Nat.div_div_eq_div_mul, ← Nat.pow_succ]
          have hn : rfN (j + 1) C s[k].toNat = rf (rfN j C s[k].toNat) (s[k].toNat / 2 ^ j) := rfl
          have Hp := Lib.hid hp; clear hp
          have Hn := Lib.hid hn; clear hn
          generalize s[k].toNat / 2 ^ j = B at *
          generalize rfN j C s[k].toNat = c at *
          go_wp2
          all_goals
            go_round
            case rel => exact ⟨j + 1, by omega, by go_num, by rw [Hn.out]; first | rw [rf_t c B hc (by assumption)] | rw [rf_f c B (by assumption)], by rw [Hp.out]; go_num⟩
            case measure => simp [intOf]; omega
        · obtain rfl : j = 8 := by omega
          go_wp2
          go_round
          case rel => exact ⟨k + 1, by omega, by go_num, by rw [hts.out, crc_snoc, HC.out, byte_eq _ _ hb]⟩
          case measure => simp [intOf]; omega
    · obtain rfl : k = s.size := by omega
      go_wp2
      go_ret
      exact ⟨ret_int (by rw [take_size] at *; omega), rfl⟩
end Go.Proofs.Ytihhfdkcggnjpaa
namespace Go.Proofs.Ytihhfdkcggnjpaa
open Go.ChangeShapes Go.WideShapes Go.ChangeAt Go.RowKit
open Crc
/-- A byte's number as a byte. -/
def b8 (n : Int) : UInt8 := UInt8.ofNat n.toNat
theorem b8_toNat {n : Int} (h0 : 0 ≤ n) (h1 : n < 256) : ((b8 n).toNat : Int) = n := by
  unfold b8; simp; omega
/-- string([]byte{..}) over a new block of four. -/
theorem conv4 (w : World) (n0 n1 n2 n3 : Int) (h0 : 0 ≤ n0 ∧ n0 < 256) (h1 : 0 ≤ n1 ∧ n1 < 256) (h2 : 0 ≤ n2 ∧ n2 < 256) (h3 : 0 ≤ n3 ∧ n3 < 256) :
    (convert 109 9 (.slice (some ⟨w.heap.size, 0, none⟩) 4 4)).run Try.prog (w.alloc (.cells #[.int .u8 n0, .int .u8 n1, .int .u8 n2, .int .u8 n3] 5)) =
      .ok (.string ⟨#[b8 n0, b8 n1, b8 n2, b8 n3]⟩) (w.alloc (.cells #[.int .u8 n0, .int .u8 n1, .int .u8 n2, .int .u8 n3] 5)) := by
  have := run_convert_bytes_back (P := Try.prog) (w.alloc (.cells #[.int .u8 n0, .int .u8 n1, .int .u8 n2, .int .u8 n3] 5)) 109 9 5 ⟨w.heap.size, 0, none⟩ 4 [b8 n0, b8 n1, b8 n2, b8 n3] Try.underlying109 Try.underlying5 Try.underlying9 (by
    intro j hj
    have hj' : j < 4 := hj
    have hb := World.cell?_alloc_new w
    match j, hj' with
    | 0, _ => simp [Addr.add, b8_toNat h0.1 h0.2]
    | 1, _ => simp [Addr.add, b8_toNat h1.1 h1.2]
    | 2, _ => simp [Addr.add, b8_toNat h2.1 h2.2]
    | 3, _ => simp [Addr.add, b8_toNat h3.1 h3.2])
  exact this
/-- Four bytes of a number, the first the greatest. -/
def be4 (v : Nat) : ByteArray := ⟨#[b8 (v / 16777216 : Nat), b8 (v / 65536 % 256 : Nat), b8 (v / 256 % 256 : Nat), b8 (v % 256 : Nat)]⟩
theorem be4_size (v : Nat) : (be4 v).size = 4 := rfl
set_option maxRecDepth 100000 in
set_option maxHeartbeats 400000 in
theorem put_any (v : Nat) (w : World) (hv : v < 4294967296) :
    Calls Try.prog 171 #[.int .u32 v] w fun e w' => e = .returned (.string (be4 v)) ∧ Gr w w' := by
  have C := conv4 w (v / 16777216) (v / 65536 % 256) (v / 256 % 256) (v % 256) (by omega) (by omega) (by omega) (by omega)
  go_enter Try.func171, Try.ntmps171
  go_wp2
  go_ret
  exact ⟨rfl, (Gr.refl _).alloc _⟩
def num4 (b0 b1 b2 b3 : UInt8) : Nat := b0.toNat * 16777216 + b1.toNat * 65536 + b2.toNat * 256 + b3.toNat
theorem num4_walk (b0 b1 b2 b3 : UInt8) :
    bits .or .u32 (bits .or .u32 (bits .or .u32 ((b0.toNat : Int) * 16777216) ((b1.toNat : Int) * 65536)) ((b2.toNat : Int) * 256)) (b3.toNat : Int) = (num4 b0 b1 b2 b3 : Nat) := by
  have h0 := b0.toNat_lt; have h1 := b1.toNat_lt; have h2 := b2.toNat_lt; have h3 := b3.toNat_lt
  unfold num4
  generalize b0.toNat = x0 at *; generalize b1.toNat = x1 at *; generalize b2.toNat = x2 at *; generalize b3.toNat = x3 at *
  have e1 : bits .or .u32 ((x0 : Int) * 16777216) ((x1 : Int) * 65536) = ((x0 * 16777216 + x1 * 65536 : Nat) : Int) := by
    have := u32_or_nat (x0 * 16777216) (x1 * 65536) (by omega) (by omega)
    rw [← show (x0 * 16777216 + x1 * 65536) = (x0 * 16777216 ||| x1 * 65536) by
      have := Nat.two_pow_add_eq_or_of_lt (i := 24) (b := x1 * 65536) (by omega) x0
      rw [Nat.mul_comm] at this; simpa using this] at this
    simpa using this
  have e2 : bits .or .u32 ((x0 * 16777216 + x1 * 65536 : Nat) : Int) ((x2 : Int) * 256) = ((x0 * 16777216 + x1 * 65536 + x2 * 256 : Nat) : Int) := by
    have := u32_or_nat (x0 * 16777216 + x1 * 65536) (x2 * 256) (by omega) (by omega)
    rw [← show (x0 * 16777216 + x1 * 65536 + x2 * 256) = ((x0 * 16777216 + x1 * 65536) ||| x2 * 256) by
      have := Nat.two_pow_add_eq_or_of_lt (i := 16) (b := x2 * 256) (by omega) (x0 * 256 + x1)
      rw [show 2 ^ 16 * (x0 * 256 + x1) = x0 * 16777216 + x1 * 65536 by omega] at this; exact this] at this
    simpa using this
  have e3 : bits .or .u32 ((x0 * 16777216 + x1 * 65536 + x2 * 256 : Nat) : Int) (x3 : Int) = ((x0 * 16777216 + x1 * 65536 + x2 * 256 + x3 : Nat) : Int) := by
    have := u32_or_nat (x0 * 16777216 + x1 * 65536 + x2 * 256) x3 (by omega) (by omega)
    rw [← show (x0 * 16777216 + x1 * 65536 + x2 * 256 + x3) = ((x0 * 16777216 + x1 * 65536 + x2 * 256) ||| x3) by
      have := Nat.two_pow_add_eq_or_of_lt (i := 8) (b := x3) (by omega) (x0 * 65536 + x1 * 256 + x2)
      rw [show 2 ^ 8 * (x0 * 65536 + x1 * 256 + x2) = x0 * 16777216 + x1 * 65536 + x2 * 256 by omega] at this; exact this] at this
    exact this
  rw [e1, e2, e3]
set_option maxHeartbeats 400000 in
theorem get_any (s : ByteArray) (w : World) (hs : 4 ≤ s.size) (hs' : s.size ≤ 9223372036854775807) :
    Calls Try.prog 175 #[.string s] w fun e w' => e = .returned (.int .u32 (num4 s[0] s[1] s[2] s[3])) ∧ Dr w w' := by
  have i0 : 0 < s.size := by omega
  have i1 : (1 : Int) < s.size := by omega
  have i2 : (2 : Int) < s.size := by omega
  have i3 : (3 : Int) < s.size := by omega
  have h0 := s[0].toNat_lt; have h1 := s[1].toNat_lt; have h2 := s[2].toNat_lt; have h3 := s[3].toNat_lt
  go_enter Try.func175, Try.ntmps175
  go_wp2
  go_quiet (fail)
  go_wp2
  go_ret
  exact ⟨ret_int (num4_walk _ _ _ _), ⟨_, rfl⟩⟩
def headB (k n : Nat) : ByteArray := be4 (k * 16777216 + n)
def frameB (k : Nat) (s : ByteArray) : ByteArray :=
  headB k s.size ++ s ++ be4 (4294967295 - crc 4294967295 (cat [headB k s.size, s]))
theorem or_head (k n : Nat) (hk : k < 256) (hn : n ≤ 1048576) : bits .or .u32 ((k : Int) * 16777216) (n : Int) = ((k * 16777216 + n : Nat) : Int) := by
  have := u32_or_nat (k * 16777216) n (by omega) (by omega)
  rw [← show (k * 16777216 + n) = (k * 16777216 ||| n) by
      have := Nat.two_pow_add_eq_or_of_lt (i := 24) (b := n) (by omega) k
      rw [Nat.mul_comm] at this; simpa using this] at this
  simpa using this

theorem cells2 (w : World) (x y : Value) (t : TypeId) (f : Nat × Nat) : (w.alloc (.cells #[x, y] t f)).cell? ⟨w.heap.size, 0, none⟩ = some x ∧ (w.alloc (.cells #[x, y] t f)).cell? ⟨w.heap.size, 1, none⟩ = some y :=
  ⟨World.cell?_alloc_mark w _ t f 0, World.cell?_alloc_mark w _ t f 1⟩
/-- The sum over one text that lies in a new block. -/
theorem sum_one (a : ByteArray) (w : World) (n : Nat) (hn : n = w.heap.size) (ha : a.size ≤ 9223372036854775807) :
    Calls Try.prog 172 #[.slice (some ⟨n, 0, none⟩) 1 1] (w.alloc (.cells #[.string a] 9)) fun e w' => e = .returned (.int .u32 (4294967295 - crc 4294967295 (cat [a]) : Nat)) ∧ w.alloc (.cells #[.string a] 9) = w' := by
  subst hn
  exact sum_any [a] w.heap.size 0 _ (by intro s hs; simp at hs; subst hs; assumption) (by simp) (by
    intro i hi
    have hc := World.cell?_alloc_mark w #[.string a] 9 (0, 0) 0
    match i, hi with
    | 0, _ => exact hc)
set_option maxHeartbeats 400000 in
/-- The sum over no text. -/
theorem sum_none (w : World) :
    Calls Try.prog 172 #[.slice none 0 0] w fun e w' => e = .returned (.int .u32 0) ∧ w = w' := by
  go_enter Try.func172, Try.ntmps172
  go_wp2
  go_loop [3, 9] (fun r i => r = .int .u32 4294967295 ∧ i = .int .i64 0) (fun _ _ => 0)
  case atStart => exact ⟨rfl, rfl⟩
  case round =>
    obtain ⟨rfl, rfl⟩ := hrel
    go_wp2
    go_ret
    exact ⟨rfl, rfl⟩
/-- The sum over two texts that lie in a new block. -/
theorem sum_two (a b : ByteArray) (w : World) (n : Nat) (hn : n = w.heap.size) (ha : a.size ≤ 9223372036854775807) (hb : b.size ≤ 9223372036854775807) :
    Calls Try.prog 172 #[.slice (some ⟨n, 0, none⟩) 2 2] (w.alloc (.cells #[.string a, .string b] 9)) fun e w' => e = .returned (.int .u32 (4294967295 - crc 4294967295 (cat [a, b]) : Nat)) ∧ w.alloc (.cells #[.string a, .string b] 9) = w' := by
  subst hn
  exact sum_any [a, b] w.heap.size 0 _ (by intro s hs; simp at hs; rcases hs with rfl | rfl <;> assumption) (by simp) (by
    intro i hi
    have hc := cells2 w (.string a) (.string b) 9 (0, 0)
    match i, hi with
    | 0, _ => exact hc.1
    | 1, _ => exact hc.2)
set_option maxRecDepth 100000 in
set_option maxHeartbeats 400000 in
theorem frame_any (k : Nat) (s : ByteArray) (w : World) (hk : k < 256) (hk1 : 1 ≤ k) (hs : s.size ≤ 1048576) :
    Calls Try.prog 112 #[.int .u8 k, .string s] w fun e w' => e = .returned (.string (frameB k s)) ∧ Gr w w' := by
  have H := Lib.hid (or_head k s.size hk hs)
  have hz : (be4 (k * 16777216 + s.size)).size ≤ 4 := by rw [be4_size]; omega
  have hc := crc0_lt (cat [be4 (k * 16777216 + s.size), s])
  have F : frameB k s = be4 (k * 16777216 + s.size) ++ s ++ be4 (4294967295 - crc 4294967295 (cat [be4 (k * 16777216 + s.size), s])) := rfl
  have HF := Lib.hid F; clear F
  go_enter Try.func112, Try.ntmps112
  go_wp2_with fail
  rw [H.out]
  refine (put_any _ _ (by omega)).mono ?_
  rintro e w1 ⟨rfl, hg⟩
  generalize be4 (k * 16777216 + s.size) = hd at *
  go_wp2_with fail
  refine (sum_two hd s w1 _ rfl (by omega) (by omega)).mono ?_
  rintro e w2 ⟨rfl, rfl⟩
  go_wp2_with fail
  refine (put_any _ _ (by omega)).mono ?_
  rintro e w3 ⟨rfl, hg3⟩
  generalize crc 4294967295 (cat [hd, s]) = C at *
  have hz' : (be4 (4294967295 - C)).size ≤ 4 := by rw [be4_size]; omega
  generalize be4 (4294967295 - C) = tl at *
  go_wp2_with fail
  go_ret
  exact ⟨by rw [HF.out]; rfl, (hg.trans ((Gr.refl _).alloc _)).trans hg3⟩
set_option maxRecDepth 100000 in
set_option maxHeartbeats 400000 in
theorem frame_zero (k : Nat) (hk : (k : Int) < 1) (s : ByteArray) (w : World) (hs : s.size ≤ 1048576) :
    Calls Try.prog 112 #[.int .u8 k, .string s] w fun e w' => e = .returned (.string (frameB 1 s)) ∧ Gr w w' := by
  have H := Lib.hid (or_head 1 s.size (by decide) hs)
  have hz : (be4 (1 * 16777216 + s.size)).size ≤ 4 := by rw [be4_size]; omega
  have hc := crc0_lt (cat [be4 (1 * 16777216 + s.size), s])
  have F : frameB 1 s = be4 (1 * 16777216 + s.size) ++ s ++ be4 (4294967295 - crc 4294967295 (cat [be4 (1 * 16777216 + s.size), s])) := rfl
  have HF := Lib.hid F; clear F
  go_enter Try.func112, Try.ntmps112
  go_wp2_with fail
  rw [show (16777216 : Int) = ((1 : Nat) : Int) * 16777216 from rfl, H.out]
  refine (put_any _ _ (by omega)).mono ?_
  rintro e w1 ⟨rfl, hg⟩
  generalize be4 (1 * 16777216 + s.size) = hd at *
  go_wp2_with fail
  refine (sum_two hd s w1 _ rfl (by omega) (by omega)).mono ?_
  rintro e w2 ⟨rfl, rfl⟩
  go_wp2_with fail
  refine (put_any _ _ (by omega)).mono ?_
  rintro e w3 ⟨rfl, hg3⟩
  generalize crc 4294967295 (cat [hd, s]) = C at *
  have hz' : (be4 (4294967295 - C)).size ≤ 4 := by rw [be4_size]; omega
  generalize be4 (4294967295 - C) = tl at *
  go_wp2_with fail
  go_ret
  exact ⟨by rw [HF.out]; rfl, (hg.trans ((Gr.refl _).alloc _)).trans hg3⟩
theorem cat_one (a : ByteArray) : cat [a] = bytesOf a := by simp [cat]
theorem cat_two (a b : ByteArray) : cat [a, b] = bytesOf (a ++ b) := by simp [cat, bytesOf]
theorem u32_eq (a b : Nat) (h : a = b) : (Value.int .u32 (a : Int)) = .int .u32 (b : Int) := by rw [h]
theorem frameB_size (k : Nat) (s : ByteArray) : (frameB k s).size = s.size + 8 := by
  unfold frameB headB; rw [ByteArray.size_append, ByteArray.size_append, be4_size, be4_size]; omega
end Go.Proofs.Ytihhfdkcggnjpaa
