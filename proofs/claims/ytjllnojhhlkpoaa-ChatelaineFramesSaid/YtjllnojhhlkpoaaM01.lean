import Derived.WalkKit
namespace Go.Proofs.Ytjllnojhhlkpoaa.Enc
/-- A number as a byte. -/
def b8 (n : Nat) : UInt8 := UInt8.ofNat n
theorem b8_toNat {n : Nat} (h : n < 256) : (b8 n).toNat = n := by unfold b8; simp; omega
theorem b8_byte (b : UInt8) : b8 b.toNat = b := by apply UInt8.toNat_inj.1; exact b8_toNat b.toNat_lt
/-- n bytes of a number, the first the greatest. -/
def wide (v : Nat) : Nat → List UInt8
  | 0 => []
  | k + 1 => b8 (v / 256 ^ k % 256) :: wide v k
theorem wide_length (v : Nat) : ∀ k, (wide v k).length = k
  | 0 => rfl
  | k + 1 => by rw [wide, List.length_cons, wide_length v k]
theorem wide_at (v : Nat) : ∀ k i (h : i < (wide v k).length), (wide v k)[i] = b8 (v / 256 ^ (k - 1 - i) % 256)
  | 0, i, h => by simp [wide] at h
  | k + 1, 0, h => by simp [wide]
  | k + 1, i + 1, h => by
    have := wide_at v k i (by simpa [wide] using h)
    simp only [wide, List.getElem_cons_succ]
    rw [this]
    congr 4; omega
/-- The first byte of a number's form, and how many follow it. -/
def first (v : Nat) : Nat := if v < 252 then v else if v < 65536 then 252 else if v < 4294967296 then 253 else 254
def more (f : Nat) : Nat := if f = 252 then 2 else if f = 253 then 4 else if f = 254 then 8 else 0
def encU (v : Nat) : List UInt8 := b8 (first v) :: wide v (more (first v))
def encN (n : Int) : List UInt8 := encU (max n 0).toNat
def encB (b : Bool) : List UInt8 := [if b then 1 else 0]
def encS (s : List UInt8) : List UInt8 := encU s.length ++ s
theorem first_lt (v : Nat) : first v < 255 := by unfold first; split <;> (try split) <;> (try split) <;> omega
theorem more_le (f : Nat) : more f ≤ 8 := by unfold more; split <;> (try split) <;> (try split) <;> omega
theorem encU_length (v : Nat) : (encU v).length = 1 + more (first v) := by rw [encU, List.length_cons, wide_length]; omega
theorem encU_le (v : Nat) : (encU v).length ≤ 9 := by rw [encU_length]; have := more_le (first v); omega
end Go.Proofs.Ytjllnojhhlkpoaa.Enc
