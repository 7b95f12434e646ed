/- Plain mathematics of counts of bits: a byte's count, a word's count, the mask of a region. No program is imported here. -/
import Derived.Test.YtnanclgnjchpeaaM07
import Derived.Lib.Tables
import Derived.Laws.BitsLemmas
namespace Go.Proofs.Ytnanclgnjchpeaa.Grids
theorem pop8_fin : ∀ n : Fin 256, Lib.pop8 (n.val : Int) = (cnt n.val.testBit 8 : Nat) := by decide +kernel
theorem pop8_cnt (n : Nat) (h : n < 256) : Lib.pop8 (n : Int) = (cnt n.testBit 8 : Nat) := pop8_fin ⟨n, h⟩
theorem cnt_add (f : Nat → Bool) (a : Nat) : ∀ n, cnt f (a + n) = cnt f a + cnt (fun i => f (a + i)) n
  | 0 => rfl
  | n + 1 => by
    show cnt f (a + n) + (if f (a + n) then 1 else 0) = cnt f a + (cnt (fun i => f (a + i)) n + (if f (a + n) then 1 else 0))
    rw [cnt_add f a n, Nat.add_assoc]
theorem byte_cnt (x k : Nat) : cnt (x / 2 ^ k % 256).testBit 8 = cnt (fun i => x.testBit (k + i)) 8 :=
  cnt_congr _ fun i hi => by
    rw [show (256 : Nat) = 2 ^ 8 from rfl, Nat.testBit_mod_two_pow, decide_eq_true hi, Bool.true_and, Nat.testBit_div_two_pow, Nat.add_comm]
theorem pop_word (x : Nat) : cnt x.testBit 32 = cnt (x / 2 ^ 24 % 256).testBit 8 + cnt (x / 2 ^ 16 % 256).testBit 8 + cnt (x / 2 ^ 8 % 256).testBit 8 + cnt (x % 256).testBit 8 := by
  have h1 : cnt x.testBit 32 = cnt x.testBit 24 + cnt (fun i => x.testBit (24 + i)) 8 := cnt_add _ 24 8
  have h2 : cnt x.testBit 24 = cnt x.testBit 16 + cnt (fun i => x.testBit (16 + i)) 8 := cnt_add _ 16 8
  have h3 : cnt x.testBit 16 = cnt x.testBit 8 + cnt (fun i => x.testBit (8 + i)) 8 := cnt_add _ 8 8
  have h4 : cnt (x % 256).testBit 8 = cnt x.testBit 8 := cnt_congr _ fun i hi => by
    rw [show (256 : Nat) = 2 ^ 8 from rfl, Nat.testBit_mod_two_pow, decide_eq_true hi, Bool.true_and]
  rw [byte_cnt, byte_cnt, byte_cnt, h4]
  omega
def mask (p r : Nat) : Nat := (2 ^ p - 1) * 2 ^ (r * p)
theorem mask_bit (p r i : Nat) : (mask p r).testBit i = (decide (r * p ≤ i) && decide (i - r * p < p)) := by
  unfold mask
  rw [Nat.testBit_mul_two_pow, Nat.testBit_two_pow_sub_one]
theorem mask_lt {p r : Nat} (h : r * p + p ≤ 16) : mask p r < 65536 := by
  unfold mask
  have h1 : 2 ^ p * 2 ^ (r * p) ≤ 2 ^ 16 := by rw [← Nat.pow_add]; exact Nat.pow_le_pow_right (by decide) (by omega)
  have h2 : 0 < 2 ^ (r * p) := Nat.pow_pos (by decide)
  have h3 : 0 < 2 ^ p := Nat.pow_pos (by decide)
  rw [Nat.sub_mul, Nat.one_mul]
  have h4 := Nat.le_mul_of_pos_left (2 ^ (r * p)) h3
  omega
theorem pop_region {p r x : Nat} (h : r * p + p ≤ 32) : cnt (x &&& mask p r).testBit 32 = regC p x r := by
  obtain ⟨d, hd⟩ : ∃ d, 32 = r * p + p + d := ⟨32 - (r * p + p), by omega⟩
  rw [hd, cnt_add, cnt_add]
  have e1 : cnt (x &&& mask p r).testBit (r * p) = 0 := by
    rw [cnt_congr (g := fun _ => false) _ fun i hi => by rw [Nat.testBit_and, mask_bit, decide_eq_false (by omega)]; simp, cnt_none]
  have e3 : cnt (fun i => (x &&& mask p r).testBit (r * p + p + i)) d = 0 := by
    rw [cnt_congr (g := fun _ => false) _ fun i hi => by rw [Nat.testBit_and, mask_bit, show decide (r * p + p + i - r * p < p) = false from decide_eq_false (by omega)]; simp, cnt_none]
  have e2 : cnt (fun i => (x &&& mask p r).testBit (r * p + i)) p = regC p x r :=
    cnt_congr _ fun i hi => by
      rw [Nat.testBit_and, mask_bit, decide_eq_true (show r * p ≤ r * p + i by omega), decide_eq_true (show r * p + i - r * p < p by omega)]; simp
  rw [e1, e2, e3]; omega
theorem wraps_u32 (n : Int) (h₀ : 0 ≤ n) (h₁ : n < 2 ^ 32) : IntKind.u32.wrap n = n := by rw [IntKind.wrap_u32]; omega
theorem w32_and (a b : Nat) (ha : a < 4294967296) (hb : b < 4294967296) : bits .and .u32 (a : Int) (b : Int) = ((a &&& b : Nat) : Int) :=
  (bits_nat .u32 32 (by decide) wraps_u32 a b ha hb).1
end Go.Proofs.Ytnanclgnjchpeaa.Grids
