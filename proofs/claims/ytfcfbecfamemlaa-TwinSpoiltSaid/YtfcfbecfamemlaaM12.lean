/- Plain mathematics: the checksum's register is turned one to one, so one byte that is another one turns the checksum. -/
import Derived.Test.YtfcfbecfamemlaaM02
namespace Go.Proofs.Ytfcfbecfamemlaa.Crc
theorem xor_cr {a b c : Nat} (h : a ^^^ c = b ^^^ c) : a = b := by
  have := congrArg (· ^^^ c) h
  simpa [Nat.xor_assoc] using this
theorem xor_cl {a b : Nat} (c : Nat) (h : c ^^^ a = c ^^^ b) : a = b := xor_cr (c := c) (by rw [Nat.xor_comm a c, Nat.xor_comm b c]; exact h)
theorem sh_odd {c : Nat} (h : c < 4294967296) (ho : c % 2 = 1) : (sh c).testBit 31 = true := by
  unfold sh
  rw [if_pos ho, Nat.testBit_xor, Nat.testBit_lt_two_pow (show c / 2 < 2 ^ 31 by omega)]
  decide
theorem sh_even {c : Nat} (h : c < 4294967296) (ho : ¬ c % 2 = 1) : (sh c).testBit 31 = false := by
  unfold sh
  rw [if_neg ho, Nat.testBit_lt_two_pow (show c / 2 < 2 ^ 31 by omega)]
theorem sh_inj {a b : Nat} (ha : a < 4294967296) (hb : b < 4294967296) (h : sh a = sh b) : a = b := by
  by_cases oa : a % 2 = 1
  · by_cases ob : b % 2 = 1
    · unfold sh at h
      rw [if_pos oa, if_pos ob] at h
      have := xor_cr h
      omega
    · have h1 := sh_odd ha oa
      rw [h, sh_even hb ob] at h1
      cases h1
  · by_cases ob : b % 2 = 1
    · have h1 := sh_odd hb ob
      rw [← h, sh_even ha oa] at h1
      cases h1
    · unfold sh at h
      rw [if_neg oa, if_neg ob] at h
      omega
theorem shN_inj {a b : Nat} (ha : a < 4294967296) (hb : b < 4294967296) : ∀ k, shN k a = shN k b → a = b
  | 0, h => h
  | k + 1, h => shN_inj ha hb k (sh_inj (shN_lt ha k) (shN_lt hb k) h)
theorem byte_inj_reg {a b x : Nat} (ha : a < 4294967296) (hb : b < 4294967296) (hx : x < 256) (h : byte a x = byte b x) : a = b :=
  xor_cr (shN_inj (xor_lt ha (by omega)) (xor_lt hb (by omega)) 8 h)
theorem byte_inj {a x y : Nat} (ha : a < 4294967296) (hx : x < 256) (hy : y < 256) (h : byte a x = byte a y) : x = y :=
  xor_cl _ (shN_inj (xor_lt ha (by omega)) (xor_lt ha (by omega)) 8 h)
theorem crc_inj_reg : ∀ (l : List UInt8) {a b : Nat}, a < 4294967296 → b < 4294967296 → crc a l = crc b l → a = b
  | [], _, _, _, _, h => h
  | x :: l, a, b, ha, hb, h => byte_inj_reg ha hb x.toNat_lt (crc_inj_reg l (byte_lt ha (by have := x.toNat_lt; omega)) (byte_lt hb (by have := x.toNat_lt; omega)) h)
/-- Two lists that differ in one place at most and have one checksum are the same. -/
theorem crc_one (c : Nat) (hc : c < 4294967296) (l m : List UInt8) (x y : UInt8) (h : crc c (l ++ x :: m) = crc c (l ++ y :: m)) : x = y := by
  rw [crc_append, crc_append] at h
  have h1 := crc_lt hc l
  have h2 : byte (crc c l) x.toNat = byte (crc c l) y.toNat := crc_inj_reg m (byte_lt h1 (by have := x.toNat_lt; omega)) (byte_lt h1 (by have := y.toNat_lt; omega)) h
  exact UInt8.toNat_inj.1 (byte_inj h1 x.toNat_lt y.toNat_lt h2)
end Go.Proofs.Ytfcfbecfamemlaa.Crc
