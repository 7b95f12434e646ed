/- Plain mathematics for the checksum: the register's step over the numbers, and that the two ways to run it agree. No program is imported here. -/
import Derived.WalkKit
namespace Go.Proofs.Ytjllnojhhlkpoaa.Crc

/-- One bit through the register. -/
def sh (c : Nat) : Nat := if c % 2 = 1 then (c / 2) ^^^ 3988292384 else c / 2
def shN : Nat → Nat → Nat
  | 0, c => c
  | k + 1, c => sh (shN k c)
/-- One bit, by the two low bits. -/
def rf (c b : Nat) : Nat := if c % 2 = b % 2 then c / 2 else (c / 2) ^^^ 3988292384
def rfN : Nat → Nat → Nat → Nat
  | 0, c, _ => c
  | k + 1, c, b => rf (rfN k c b) (b / 2 ^ k)
def byte (c b : Nat) : Nat := shN 8 (c ^^^ b)
def crc (c : Nat) (l : List UInt8) : Nat := l.foldl (fun c b => byte c b.toNat) c

theorem half_lt {c : Nat} (h : c < 4294967296) : c / 2 < 4294967296 := by omega
theorem xor_lt {a b : Nat} (ha : a < 4294967296) (hb : b < 4294967296) : a ^^^ b < 4294967296 := Nat.xor_lt_two_pow (n := 32) ha hb
theorem sh_lt {c : Nat} (h : c < 4294967296) : sh c < 4294967296 := by
  unfold sh; split
  · exact xor_lt (by omega) (by decide)
  · omega
theorem shN_lt {c : Nat} (h : c < 4294967296) : ∀ k, shN k c < 4294967296
  | 0 => h
  | k + 1 => sh_lt (shN_lt h k)
theorem rf_lt {c b : Nat} (h : c < 4294967296) : rf c b < 4294967296 := by
  unfold rf; split
  · omega
  · exact xor_lt (by omega) (by decide)
theorem rfN_lt {c b : Nat} (h : c < 4294967296) : ∀ k, rfN k c b < 4294967296
  | 0 => h
  | k + 1 => rf_lt (rfN_lt h k)
theorem byte_lt {c b : Nat} (h : c < 4294967296) (hb : b < 4294967296) : byte c b < 4294967296 := shN_lt (xor_lt h hb) 8
theorem crc_lt {c : Nat} (h : c < 4294967296) (l : List UInt8) : crc c l < 4294967296 := by
  induction l generalizing c with
  | nil => exact h
  | cons b t ih => exact ih (byte_lt h (by have := b.toNat_lt; omega))

theorem xor_half (c b : Nat) : (c ^^^ b) / 2 = (c / 2) ^^^ (b / 2) := by
  have := Nat.shiftRight_xor_distrib (a := c) (b := b) (i := 1)
  simpa [Nat.shiftRight_eq_div_pow] using this
theorem xor_mod (c b : Nat) : (c ^^^ b) % 2 = if c % 2 = b % 2 then 0 else 1 := by
  have h := Nat.xor_mod_two_pow (a := c) (b := b) (n := 1)
  simp only [Nat.pow_one] at h
  rw [h]
  have h1 : c % 2 = 0 ∨ c % 2 = 1 := by omega
  have h2 : b % 2 = 0 ∨ b % 2 = 1 := by omega
  rcases h1 with h1 | h1 <;> rcases h2 with h2 | h2 <;> rw [h1, h2] <;> decide

theorem step_eq (c b : Nat) : sh (c ^^^ b) = rf c b ^^^ (b / 2) := by
  unfold sh rf
  rw [xor_mod, xor_half]
  by_cases h : c % 2 = b % 2
  · simp [h]
  · simp only [h, if_false, if_true]
    rw [Nat.xor_assoc, Nat.xor_assoc, Nat.xor_comm (b / 2)]
theorem steps_eq (c b : Nat) : ∀ k, shN k (c ^^^ b) = rfN k c b ^^^ (b / 2 ^ k)
  | 0 => by simp [shN, rfN]
  | k + 1 => by
    rw [shN, steps_eq c b k, step_eq, rfN, Nat.div_div_eq_div_mul, ← Nat.pow_succ]
theorem byte_eq (c b : Nat) (hb : b < 256) : byte c b = rfN 8 c b := by
  unfold byte
  rw [steps_eq, Nat.div_eq_of_lt (by omega), Nat.xor_zero]

theorem crc_append (c : Nat) (l m : List UInt8) : crc c (l ++ m) = crc (crc c l) m := by simp [crc]
theorem crc_snoc (c : Nat) (l : List UInt8) (b : UInt8) : crc c (l ++ [b]) = byte (crc c l) b.toNat := by simp [crc]

/-- The register's step in the spelling of the words' operations. -/
theorem neg_and (c : Nat) (h : c < 4294967296) : IntKind.u32.wrap (-(bits .and .u32 (c : Int) 1)) = if c % 2 = 1 then 4294967295 else 0 := by
  have e : bits .and .u32 (c : Int) 1 = ((c % 2 : Nat) : Int) := by
    have := u32_and_nat c 1 h (by decide)
    rw [Nat.and_one_is_mod] at this
    exact this
  rw [e]
  have : c % 2 = 0 ∨ c % 2 = 1 := by omega
  rcases this with h | h <;> rw [h] <;> decide
theorem sh_bits (c : Nat) (h : c < 4294967296) :
    bits .xor .u32 ((c : Int) / 2) (bits .and .u32 3988292384 (IntKind.u32.wrap (-(bits .and .u32 (c : Int) 1)))) = ((sh c : Nat) : Int) := by
  rw [neg_and c h]
  unfold sh
  have e : ((c : Int) / 2) = ((c / 2 : Nat) : Int) := by omega
  rw [e]
  split
  · have : bits .and .u32 3988292384 4294967295 = ((3988292384 : Nat) : Int) := by decide +kernel
    rw [this]
    exact u32_xor_nat _ _ (by omega) (by decide)
  · have : bits .and .u32 3988292384 0 = ((0 : Nat) : Int) := by decide +kernel
    rw [this, u32_xor_nat _ _ (by omega) (by decide), Nat.xor_zero]
theorem not_u32 (c : Nat) (h : c < 4294967296) : (4294967295 : Int) - c = ((4294967295 - c : Nat) : Int) := by omega
end Go.Proofs.Ytjllnojhhlkpoaa.Crc
