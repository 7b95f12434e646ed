import Derived.Test.YtjllnojhhlkpoaaL01c
namespace Go.Proofs.Ytjllnojhhlkpoaa
open Enc
theorem num8_cons (b : UInt8) (l : List UInt8) : num8 (b :: l) = b.toNat * 256 ^ l.length + num8 l := by
  have hsplit : ∀ (x : Nat) (u : List UInt8), u.foldl (fun n b => 256 * n + b.toNat) x = x * 256 ^ u.length + num8 u := by
    intro x u
    induction u generalizing x with
    | nil => simp [num8]
    | cons c v ihv =>
      rw [List.foldl_cons, ihv]
      have := ihv c.toNat
      simp only [num8, List.foldl_cons, Nat.mul_zero, Nat.zero_add] at *
      rw [this, List.length_cons, Nat.pow_succ]
      rw [Nat.add_mul, Nat.mul_comm 256 x, Nat.mul_assoc, Nat.mul_comm 256]
      omega
  have := hsplit b.toNat l
  unfold num8 at *
  rw [List.foldl_cons, Nat.mul_zero, Nat.zero_add]
  exact this
theorem num8_wide (v : Nat) : ∀ k, num8 (wide v k) = v % 256 ^ k
  | 0 => by simp [wide, num8, Nat.mod_one]
  | k + 1 => by
    rw [wide, num8_cons, wide_length, num8_wide v k, Enc.b8_toNat (Nat.mod_lt _ (by decide)), Nat.pow_succ, Nat.mod_mul]
    rw [Nat.mul_comm, Nat.add_comm]
theorem first_fit (v : Nat) (hv : v < 18446744073709551616) : (more (first v) = 0 ∧ first v = v) ∨ (more (first v) ≠ 0 ∧ v < 256 ^ more (first v)) := by
  unfold first
  split
  · left
    refine ⟨?_, rfl⟩
    unfold more
    rw [if_neg (by omega), if_neg (by omega), if_neg (by omega)]
  · right
    split
    · exact ⟨by decide, by show v < 256 ^ 2; omega⟩
    · split
      · exact ⟨by decide, by show v < 256 ^ 4; omega⟩
      · exact ⟨by decide, by show v < 256 ^ 8; omega⟩
theorem e8_inj {a b : Nat} (ha : a < 256) (hb : b < 256) (h : Enc.b8 a = Enc.b8 b) : a = b := by
  have := congrArg UInt8.toNat h
  rwa [Enc.b8_toNat ha, Enc.b8_toNat hb] at this
/-- What was written is read back. -/
theorem uS_back (R : ByteArray) (v : Nat) (t : List UInt8) (hv : v < 18446744073709551616) (h : bytesOf R = encU v ++ t) : uS R 0 = (ofL t, 0, v) := by
  have hsz : R.size = 1 + more (first v) + t.length := by rw [← lenB, h, List.length_append, encU_length]
  have hb := hd_list R (by omega)
  rw [h, encU, List.cons_append] at hb
  obtain ⟨h1, h2⟩ := List.cons.inj hb
  have hf := e8_inj (by have := first_lt v; omega) (hd_lt R) h1
  have hz : (R.extract 1 R.size).size = R.size - 1 := by simp
  unfold uS
  rw [if_neg (by omega), if_neg (by omega), ← hf]
  generalize R.extract 1 R.size = R1 at *
  unfold uR
  rcases first_fit v hv with ⟨m0, fv⟩ | ⟨m0, fv⟩
  · rw [if_pos m0, fv, if_pos fv]
    rw [m0] at h2
    have : R1 = ofL t := eB (by rw [bytesOf_ofL, ← h2]; rfl)
    rw [this]
  · have hx : bytesOf (R1.extract 0 (more (first v))) = wide v (more (first v)) := by
      rw [exB, ← h2, List.drop_zero, Nat.sub_zero, List.take_append_of_le_length (by rw [wide_length]; omega), List.take_of_length_le (by rw [wide_length]; omega)]
    have hy : R1.extract (more (first v)) R1.size = ofL t := by
      apply eB
      rw [exB, ← h2, bytesOf_ofL, List.drop_append_of_le_length (by rw [wide_length]; omega), List.drop_eq_nil_of_le (by rw [wide_length]; omega), List.nil_append, List.take_of_length_le (by omega)]
    rw [if_neg m0, if_neg (by omega), hx, num8_wide, Nat.mod_eq_of_lt fv, if_pos rfl, hy]
theorem nS_back (R : ByteArray) (v : Nat) (t : List UInt8) (most : Int) (hv : v < 18446744073709551616) (hm : (v : Int) ≤ most) (h : bytesOf R = encU v ++ t) : nS R 0 most = (ofL t, 0, v) := by
  unfold nS
  rw [uS_back R v t hv h, if_neg (by show ¬ (max most 0).toNat < v; omega)]
theorem bS_back (R : ByteArray) (b : Bool) (t : List UInt8) (h : bytesOf R = encB b ++ t) : bS R 0 = (ofL t, 0, b) := by
  have hsz : R.size = 1 + t.length := by rw [← lenB, h, List.length_append]; rfl
  have hb := hd_list R (by omega)
  rw [h] at hb
  obtain ⟨h1, h2⟩ := List.cons.inj (show (if b then 1 else 0) :: t = _ from hb)
  have hf : hd R = if b then 1 else 0 := by
    refine e8_inj (hd_lt R) (by cases b <;> decide) ?_
    exact Eq.trans (b := (if b then 1 else 0 : UInt8)) h1.symm (by cases b <;> rfl)
  have hR : R.extract 1 R.size = ofL t := eB (by rw [bytesOf_ofL, ← h2])
  unfold bS
  rw [if_neg (by omega), if_neg (by omega), hf, hR]
  cases b <;> rfl
theorem sS_back (R S : ByteArray) (t : List UInt8) (most : Int) (hS : S.size ≤ 1000000) (hm : (S.size : Int) ≤ most) (h : bytesOf R = encS (bytesOf S) ++ t) : sS R 0 most = (ofL t, 0, S) := by
  unfold encS at h
  rw [lenB, List.append_assoc] at h
  unfold sS
  rw [nS_back R S.size _ most (by omega) hm h]
  show takeS (ofL (bytesOf S ++ t)) 0 S.size = _
  have hz : (ofL (bytesOf S ++ t)).size = S.size + t.length := by rw [ofL_size, List.length_append, lenB]
  unfold takeS
  rw [if_neg (by omega), if_neg (by omega)]
  have h1 : (ofL (bytesOf S ++ t)).extract S.size (ofL (bytesOf S ++ t)).size = ofL t := by
    apply eB
    rw [exB, bytesOf_ofL, bytesOf_ofL, hz, List.drop_append_of_le_length (by rw [lenB]; omega), List.drop_eq_nil_of_le (by rw [lenB]; omega), List.nil_append, List.take_of_length_le (by omega)]
  have h2 : (ofL (bytesOf S ++ t)).extract 0 S.size = S := by
    apply eB
    rw [exB, bytesOf_ofL, List.drop_zero, Nat.sub_zero, List.take_append_of_le_length (by rw [lenB]; omega), List.take_of_length_le (by rw [lenB]; omega)]
  rw [h1, h2]
end Go.Proofs.Ytjllnojhhlkpoaa
