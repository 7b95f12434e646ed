import Derived.WalkKit
import Derived.Test.YtfgkgpkaohkehaaGreatDoorK1
import Derived.ProofKit
import Derived.LoopTactic
import Derived.Outline
import Derived.WalkSpells
import Derived.WalkLawsBesides
import Derived.Lib.Hide
import Derived.Deep.LoopGhost
import Derived.Deep.QuietTactic
import Derived.BigQuiet
import Derived.ShutString
import Derived.IntWalk
import Derived.Test.YtfgkgpkaohkehaaGreatDoorK23
import Derived.Deep.MidRow
import Derived.Deep.CutRange
/- Plain mathematics for rates: the nearest times, and the search by halves. No program is imported here. -/
namespace Go.Proofs.YtfgkgpkaohkehaaGreatDoor.Rates
/-- The time that is nearest to t. -/
def lim (t : Int) : Int := max 0 (min t 1099511627776)
theorem lim_bd (t : Int) : 0 ≤ lim t ∧ lim t ≤ 1099511627776 := by unfold lim; omega
theorem lim_self {t : Int} (h0 : 0 ≤ t) (h1 : t ≤ 1099511627776) : lim t = t := by unfold lim; omega
theorem lim_ne (t : Int) : (t = lim t) ↔ (0 ≤ t ∧ t ≤ 1099511627776) := by unfold lim; omega
/-- What may be a rate. -/
def good (p q : Int) : Bool := decide (1 ≤ q ∧ q ≤ p ∧ p ≤ 1000 ∧ p ≤ 4 * q)
theorem good_of {p q : Int} (h : good p q = true) : 1 ≤ q ∧ q ≤ p ∧ p ≤ 1000 ∧ p ≤ 4 * q := by simpa [good] using h
theorem good_mk {p q : Int} (h : 1 ≤ q ∧ q ≤ p ∧ p ≤ 1000 ∧ p ≤ 4 * q) : good p q = true := by simpa [good] using h
theorem good_not {p q : Int} (h : good p q = false) : ¬ (1 ≤ q ∧ q ≤ p ∧ p ≤ 1000 ∧ p ≤ 4 * q) := by simpa [good] using h
def longer (p q t : Int) : Int := if good p q then (lim t * p + q - 1) / q else lim t
def shorter (p q t : Int) : Int := if good p q then lim t * q / p else lim t
def fits (p q a b : Int) : Bool := good p q && decide (0 ≤ a ∧ a ≤ 1099511627776 ∧ 0 ≤ b ∧ b ≤ 1099511627776) && decide (a * q ≤ b * p ∧ b * q ≤ a * p)
theorem mul_bd {a b x y : Int} (a0 : 0 ≤ a) (b0 : 0 ≤ b) (ha : a ≤ x) (hb : b ≤ y) : 0 ≤ a * b ∧ a * b ≤ x * y :=
  ⟨Int.mul_nonneg a0 b0, Int.mul_le_mul ha hb b0 (Int.le_trans a0 ha)⟩
/-- The least n whose n q is not below t p. -/
theorem up_le {p q t n : Int} (hq : 0 < q) : (t * p + q - 1) / q ≤ n ↔ t * p ≤ n * q := by
  rw [← Int.lt_add_one_iff, Int.ediv_lt_iff_lt_mul hq, Int.add_mul]; omega
theorem lt_up {p q t n : Int} (hq : 0 < q) : n < (t * p + q - 1) / q ↔ n * q < t * p := by
  have := @up_le p q t n hq; omega
theorem le_down {p q t n : Int} (hp : 0 < p) : n ≤ t * q / p ↔ n * p ≤ t * q := Int.le_ediv_iff_mul_le hp
theorem up_bd {p q t : Int} (h : 1 ≤ q ∧ q ≤ p ∧ p ≤ 1000 ∧ p ≤ 4 * q) (h0 : 0 ≤ t) : t ≤ (t * p + q - 1) / q ∧ (t * p + q - 1) / q ≤ 4 * t := by
  obtain ⟨h1, h2, h3, h4⟩ := h
  constructor
  · rw [Int.le_ediv_iff_mul_le (by omega)]
    have := Int.mul_le_mul_of_nonneg_left h2 h0
    omega
  · rw [up_le (by omega), show 4 * t * q = t * (4 * q) by rw [Int.mul_comm 4 t, Int.mul_assoc]]
    exact Int.mul_le_mul_of_nonneg_left h4 h0
theorem down_bd {p q t : Int} (h : 1 ≤ q ∧ q ≤ p ∧ p ≤ 1000 ∧ p ≤ 4 * q) (h0 : 0 ≤ t) : 0 ≤ t * q / p ∧ t * q / p ≤ t := by
  obtain ⟨h1, h2, h3, h4⟩ := h
  constructor
  · exact Int.ediv_nonneg (Int.mul_nonneg h0 (by omega)) (by omega)
  · have := Int.mul_le_mul_of_nonneg_left h2 h0
    have h5 : t * q / p < t + 1 := by rw [Int.ediv_lt_iff_lt_mul (by omega), Int.add_mul]; omega
    omega
/-- The step of the k-th half: 2^(k-1), then 0. -/
def half (k : Nat) : Int := 2 ^ k / 2
theorem half_zero : half 0 = 0 := rfl
theorem half_succ (k : Nat) : half (k + 1) = 2 ^ k := by unfold half; rw [Int.pow_succ]; omega
theorem half_half (k : Nat) : half (k + 1) / 2 = half k := by rw [half_succ]; rfl
theorem pow_pos (k : Nat) : (1 : Int) ≤ 2 ^ k := by
  have := Int.pow_pos (n := 2) (m := k) (by decide); omega
theorem pow_le {k n : Nat} (h : k ≤ n) : (2 : Int) ^ k ≤ 2 ^ n := by
  have := Nat.pow_le_pow_right (n := 2) (by decide) h
  have e : ∀ j : Nat, (2 : Int) ^ j = ((2 ^ j : Nat) : Int) := fun j => by simp
  rw [e, e]; omega
theorem longer_in {p q t : Int} (h : good p q = true) (h0 : 0 ≤ t) (h1 : t ≤ 1099511627776) : longer p q t = (t * p + q - 1) / q := by
  unfold longer; rw [h, if_pos rfl, lim_self h0 h1]
theorem shorter_in {p q t : Int} (h : good p q = true) (h0 : 0 ≤ t) (h1 : t ≤ 1099511627776) : shorter p q t = t * q / p := by
  unfold shorter; rw [h, if_pos rfl, lim_self h0 h1]
/-- What holds of any rate and any two times up to 2^38. -/
theorem rises {p q t d : Int} (h : good p q = true) (h0 : 0 ≤ t) (h1 : t ≤ 274877906944) (d0 : 0 ≤ d) (d1 : d ≤ 274877906944) :
    ∃ l s sl ls l2 s2 : Int, longer p q t = l ∧ shorter p q t = s ∧ shorter p q l = sl ∧ longer p q s = ls ∧ longer p q (t + d) = l2 ∧ shorter p q (t + d) = s2 ∧ fits p q t t = true ∧
      t ≤ l ∧ l ≤ 1099511627776 ∧ 0 ≤ s ∧ s ≤ t ∧ t ≤ sl ∧ ls ≤ t ∧ l ≤ l2 ∧ s ≤ s2 ∧ (l - 1) * q < t * p := by
  have hg := good_of h
  obtain ⟨q1, q2, q3, q4⟩ := good_of h
  obtain ⟨u1, u2⟩ := up_bd hg h0
  obtain ⟨s1, s2⟩ := down_bd hg h0
  have e1 := longer_in h h0 (show t ≤ 1099511627776 by omega)
  have e2 := shorter_in h h0 (show t ≤ 1099511627776 by omega)
  have m := Int.mul_le_mul_of_nonneg_right (show t ≤ t + d by omega) (show 0 ≤ p by omega)
  have m' := Int.mul_le_mul_of_nonneg_right (show t ≤ t + d by omega) (show 0 ≤ q by omega)
  have A1 := (@up_le p q t ((t * p + q - 1) / q) (by omega)).1 (Int.le_refl _)
  have A2 := (@le_down p q t (t * q / p) (by omega)).1 (Int.le_refl _)
  have A3 := (@up_le p q (t + d) (((t + d) * p + q - 1) / q) (by omega)).1 (Int.le_refl _)
  refine ⟨_, _, _, _, _, _, e1, e2, shorter_in h (by omega) (by omega), longer_in h (by omega) (by omega), longer_in h (by omega) (by omega), shorter_in h (by omega) (by omega), ?_, u1, by omega, s1, s2, ?_, ?_, ?_, ?_, ?_⟩
  · have hq := Int.mul_le_mul_of_nonneg_left q2 h0
    unfold fits
    rw [h, decide_eq_true ⟨h0, (by omega : t ≤ 1099511627776), h0, (by omega : t ≤ 1099511627776)⟩, decide_eq_true ⟨hq, hq⟩]; rfl
  · exact (le_down (by omega)).2 A1
  · exact (up_le (by omega)).2 A2
  · exact (up_le (by omega)).2 (by omega)
  · exact (le_down (by omega)).2 (by omega)
  · exact (lt_up (by omega)).1 (by omega)
/-- The ways of two times that are not both small, and their sum within the range. -/
inductive LW (t b n : Int) : Prop
  | a : t < 0 → b < 0 → n = 0 → LW t b n
  | b : t < 0 → 0 ≤ b → b ≤ 1099511627776 → n = b → LW t b n
  | c : t < 0 → 1099511627776 < b → n = 1099511627776 → LW t b n
  | d : 549755813888 < t → t < 1099511627776 → 0 ≤ n → n ≤ 1099511627776 → LW t b n
  | e : 1099511627776 ≤ t → n = 1099511627776 → LW t b n
  | f : t = 0 → b < 0 → n = 0 → LW t b n
  | g : 0 < t → t ≤ 549755813888 → b < 0 → 0 ≤ n → n ≤ 1099511627776 → LW t b n
  | h : t = 0 → 549755813888 < b → b ≤ 1099511627776 → n = b → LW t b n
  | i : t = 0 → 1099511627776 < b → n = 1099511627776 → LW t b n
  | j : 0 < t → t ≤ 549755813888 → 549755813888 < b → 0 ≤ n → n ≤ 1099511627776 → LW t b n
theorem lim_ways (t : Int) : t < 0 ∧ lim t = 0 ∨ 0 ≤ t ∧ t ≤ 1099511627776 ∧ lim t = t ∨ 1099511627776 < t ∧ lim t = 1099511627776 := by unfold lim; omega
theorem later_ways (t b n : Int) (hn : lim (lim t + lim b) = n) (h : ¬ (0 ≤ t ∧ t ≤ 549755813888 ∧ 0 ≤ b ∧ b ≤ 549755813888)) : LW t b n := by
  have hb := lim_bd (lim t + lim b)
  rw [hn] at hb
  have hu := lim_ways (lim t + lim b)
  rw [hn] at hu
  rcases lim_ways t with ⟨t1, t2⟩ | ⟨t1, t3, t2⟩ | ⟨t1, t2⟩ <;> rcases lim_ways b with ⟨b1, b2⟩ | ⟨b1, b3, b2⟩ | ⟨b1, b2⟩ <;> rw [t2, b2] at hu <;> clear hn t2 b2
  · exact .a t1 b1 (by omega)
  · exact .b t1 b1 b3 (by omega)
  · exact .c t1 b1 (by omega)
  · by_cases c : t = 0
    · exact .f c b1 (by omega)
    · by_cases c2 : t ≤ 549755813888
      · exact .g (by omega) c2 b1 hb.1 hb.2
      · by_cases c3 : t < 1099511627776
        · exact .d (by omega) c3 hb.1 hb.2
        · exact .e (by omega) (by omega)
  · by_cases c2 : t ≤ 549755813888
    · by_cases c : t = 0
      · exact .h c (by omega) b3 (by omega)
      · exact .j (by omega) c2 (by omega) hb.1 hb.2
    · by_cases c3 : t < 1099511627776
      · exact .d (by omega) c3 hb.1 hb.2
      · exact .e (by omega) (by omega)
  · by_cases c2 : t ≤ 549755813888
    · by_cases c : t = 0
      · exact .i c b1 (by omega)
      · exact .j (by omega) c2 (by omega) hb.1 hb.2
    · by_cases c3 : t < 1099511627776
      · exact .d (by omega) c3 hb.1 hb.2
      · exact .e (by omega) (by omega)
  · exact .e (by omega) (by omega)
  · exact .e (by omega) (by omega)
  · exact .e (by omega) (by omega)
end Go.Proofs.YtfgkgpkaohkehaaGreatDoor.Rates
namespace Go.Proofs.YtfgkgpkaohkehaaGreatDoor
open Go.ChangeShapes Go.WideShapes Go.ChangeAt Go.RowKit
open Rates
set_option linter.unusedVariables false
theorem and_mask (a : Int) (m : Nat) (hm : m < 9223372036854775808) : 0 ≤ bits .and .i64 a (m : Int) ∧ bits .and .i64 a (m : Int) ≤ m := by
  have e : (BitVec.ofInt 64 (m : Int)).toNat = m := by
    rw [BitVec.ofInt_natCast, BitVec.toNat_ofNat]; exact Nat.mod_eq_of_lt (by omega)
  have hx : (BitVec.ofInt 64 a &&& BitVec.ofInt 64 (m : Int)).toNat ≤ m := by
    rw [BitVec.toNat_and, e]; exact Nat.and_le_right
  have e3 := IntWalk.i64_in ((BitVec.ofInt 64 a &&& BitVec.ofInt 64 (m : Int)).toNat : Int) ⟨by omega, by omega⟩
  have e2 : bits .and .i64 a (m : Int) = ((BitVec.ofInt 64 a &&& BitVec.ofInt 64 (m : Int)).toNat : Int) := e3
  omega
theorem bad_ways {p q : Int} (h : good p q = false) : q < 1 ∨ 1 ≤ q ∧ p < q ∨ 1 ≤ q ∧ q ≤ p ∧ 1000 < p ∨ 1 ≤ q ∧ q ≤ p ∧ p ≤ 1000 ∧ 4 * q < p := by
  have := good_not h; omega
end Go.Proofs.YtfgkgpkaohkehaaGreatDoor
namespace Go.Proofs.YtfgkgpkaohkehaaGreatDoor
open Go.ChangeShapes Go.WideShapes Go.ChangeAt Go.RowKit
open Enc Bal
set_option linter.unusedVariables false
set_option linter.unusedSimpArgs false
theorem mod13 (N : Int) : ∃ n : Nat, n ≤ 12 ∧ (wrap64 (N.tmod 13 + 13)).tmod 13 = (n : Int) := by
  have h1 := Int.tmod_lt_of_pos N (show (0 : Int) < 13 by decide)
  have h2 := Int.lt_tmod_of_pos N (show (0 : Int) < 13 by decide)
  generalize N.tmod 13 = t at *
  have hw : wrap64 (t + 13) = t + 13 := by unfold wrap64; omega
  rw [hw, Int.tmod_eq_emod_of_nonneg (by omega)]
  exact ⟨((t + 13) % 13).toNat, by omega, by omega⟩
theorem mod12r (N : Int) : ∃ n : Nat, n ≤ 11 ∧ (wrap64 (N.tmod 12 + 12)).tmod 12 = (n : Int) := by
  have h1 := Int.tmod_lt_of_pos N (show (0 : Int) < 12 by decide)
  have h2 := Int.lt_tmod_of_pos N (show (0 : Int) < 12 by decide)
  generalize N.tmod 12 = t at *
  have hw : wrap64 (t + 12) = t + 12 := by unfold wrap64; omega
  rw [hw, Int.tmod_eq_emod_of_nonneg (by omega)]
  exact ⟨((t + 12) % 12).toNat, by omega, by omega⟩
theorem right08r_det (N : Int) (c : Nat) : ∃ n : Nat, n ≤ 11 ∧ (c = 0 → n = 0) ∧ ∀ w : World, Calls Tryz.prog 30 #[.agg #[.int .u64 c, .int .i64 N]] w fun e w' => e = .returned (.agg #[.int .u64 c, .int .i64 n]) ∧ Gr w w' := by
  obtain ⟨n, hn, he⟩ := mod12r N
  by_cases hc : c = 0
  · subst hc
    refine ⟨0, by omega, fun _ => rfl, fun w => ?_⟩
    go_enter Tryz.func30, Tryz.ntmps30
    go_wp2
    exact bodyPost_ret (v := .agg #[.int .u64 0, .int .i64 0]) (by simp [results, Tryz.results30, go_sem]) rfl ⟨rfl, ((Gr.refl _).alloc _).alloc _⟩
  · have hc' : ((c : Int) == 0) = false := by simp; omega
    refine ⟨n, hn, fun h => absurd h hc, fun w => ?_⟩
    go_enter Tryz.func30, Tryz.ntmps30
    go_wp2
    exact bodyPost_ret (v := .agg #[.int .u64 c, .int .i64 n]) (by simp [results, Tryz.results30, go_sem, he]) rfl ⟨rfl, ((Gr.refl _).alloc _).alloc _⟩
theorem rcells_set (r : Nat) (v : Value) (f : E → E) (hf : ∀ y, (encE y).set r v = encE (f y)) (hr : r < 4) : ∀ (L : List E) (i : Nat) (h : i < L.length), (rcells encE L).set (i * 4 + r) v = rcells encE (L.set i (f L[i]))
  | [], i, h => by simp at h
  | x :: L, 0, _ => by
    rw [List.set_cons_zero, rcells_cons, rcells_cons, List.getElem_cons_zero, ← hf x, Nat.zero_mul, Nat.zero_add, List.set_append_left _ _ (by rw [encE_len]; exact hr)]
  | x :: L, i + 1, h => by
    have ih := rcells_set r v f hf hr L i (by simpa using h)
    rw [List.set_cons_succ, rcells_cons, rcells_cons, List.getElem_cons_succ, ← ih, List.set_append_right _ _ (by rw [encE_len]; omega), encE_len]
    congr 2
    omega
theorem few_base {va : Option Addr} {vc : Nat} (m : Mg) (w : World) (hm : m.Wf) (hr : ERow w va m.L) (hcap : m.L.length ≤ vc) :
    Calls Tryz.prog 29 #[.agg #[.int .i64 m.kd, .int .i64 m.frm, .int .i64 m.tt, .int .i64 m.sub, .int .u64 m.c, .int .i64 m.n, .int .i64 m.slot, .int .i64 m.time, .bool m.ok, .string m.text, .slice va m.L.length vc]] w fun e w' => ∃ ms a q, e = .returned (.agg (List.toArray ms)) ∧ Hid (ms = [.int .i64 m.few.kd, .int .i64 m.few.frm, .int .i64 m.few.tt, .int .i64 m.few.sub, .int .u64 m.few.c, .int .i64 m.few.n, .int .i64 m.few.slot, .int .i64 m.few.time, .bool m.few.ok, .string m.few.text, .slice a m.few.L.length q]) ∧ Hid (w'.ownsRow w.heap.size 72 4 (.slice a m.few.L.length q) m.few.L.length (rcells encE m.few.L)) ∧ Gr w w' := by
  refine (few_any10 m.kd m.frm m.tt m.sub m.c m.n m.slot m.time m.ok m.text m.L w hr hcap hm.text).mono ?_
  rintro e w' ⟨a, q, rfl, h, hg⟩
  exact ⟨_, a, q, rfl, Lib.hid rfl, Lib.hid h, hg⟩
/-- How far the loop has come. -/
structure RtInv (M : List E) (k : Nat) : Prop where
  c : ∀ i (h : i < M.length), 0 ≤ M[i].c ∧ M[i].c < 18446744073709551616 ∧ M[i].text.size ≤ 1000
  d : ∀ i (h : i < M.length), i < k → 1000 * (i : Int) ≤ M[i].slot ∧ M[i].slot ≤ 1000 * (i : Int) + 999 ∧ 0 ≤ M[i].n ∧ M[i].n ≤ 11 ∧ (M[i].c = 0 → M[i].n = 0) ∧ M[i].text.size ≤ 400
theorem RtInv.step {M : List E} {k : Nat} (h : RtInv M k) (hk : k < M.length) (y : E) (hc : 0 ≤ y.c ∧ y.c < 18446744073709551616) (hs : 1000 * (k : Int) ≤ y.slot ∧ y.slot ≤ 1000 * (k : Int) + 999) (hn : 0 ≤ y.n ∧ y.n ≤ 11) (hz : y.c = 0 → y.n = 0) (ht : y.text.size ≤ 400) : RtInv (M.set k y) (k + 1) := by
  refine ⟨fun i hi => ?_, fun i hi hik => ?_⟩
  · rw [List.length_set] at hi
    by_cases e : k = i
    · subst e; rw [List.getElem_set_self]; exact ⟨hc.1, hc.2, by omega⟩
    · rw [List.getElem_set_ne e]; exact h.c i hi
  · rw [List.length_set] at hi
    by_cases e : k = i
    · subst e; rw [List.getElem_set_self]; exact ⟨hs.1, hs.2, hn.1, hn.2, hz, ht⟩
    · rw [List.getElem_set_ne e]; exact h.d i hi (by omega)
theorem rt_slot (k : Nat) (hk : k < 60) (s : Int) : ∃ v : Int, wrap64 (1000 * (k : Int) + (bits .and .i64 s 65535).tmod 1000) = v ∧ 1000 * (k : Int) ≤ v ∧ v ≤ 1000 * (k : Int) + 999 := by
  have h : 0 ≤ bits .and .i64 s 65535 ∧ bits .and .i64 s 65535 ≤ 65535 := and_mask s 65535 (by decide)
  generalize bits .and .i64 s 65535 = x at *
  rw [Int.tmod_eq_emod_of_nonneg h.1]
  refine ⟨1000 * (k : Int) + x % 1000, ?_, by omega, by omega⟩
  unfold wrap64
  omega
/-- What Right gives may be sent. -/
theorem rt_ok {k13 f12 t12 cc b12 : Nat} {s3 sl ti : Int} {ok : Bool} {T3 : ByteArray} {M : List E} (h13 : k13 ≤ 12) (hf : f12 ≤ 11) (ht : t12 ≤ 11) (hs : 0 ≤ s3 ∧ s3 ≤ 3) (hc : (cc : Int) < 18446744073709551616) (hb : b12 ≤ 11) (hz : cc = 0 → b12 = 0) (hsl : 0 ≤ sl ∧ sl ≤ 16777215) (hti : 0 ≤ ti ∧ ti ≤ 16777215) (hT : T3.size ≤ 300) (hM : M.length ≤ 60) (hI : RtInv M M.length) :
    (⟨1 + (k13 : Int), f12, t12, s3, cc, b12, sl, ti, ok, T3, M⟩ : Mg).Sm ∧ (⟨1 + (k13 : Int), f12, t12, s3, cc, b12, sl, ti, ok, T3, M⟩ : Mg).check = 0 := by
  have wf : ∀ x : Int, 0 ≤ x → x ≤ 1099511627776 → (Lit.int .i64 x).wf = true := fun x h1 h2 => by simp [Lit.wf, IntKind.min, IntKind.max, IntKind.bits, IntKind.signed]; omega
  have hE : ∀ y ∈ M, 0 ≤ y.slot ∧ y.slot ≤ 100000 ∧ 0 ≤ y.c ∧ y.c < 18446744073709551616 ∧ 0 ≤ y.n ∧ y.n ≤ 11 ∧ (y.c = 0 → y.n = 0) ∧ y.text.size ≤ 400 := fun y hy => by
    obtain ⟨i, hi, rfl⟩ := List.mem_iff_getElem.1 hy
    have h1 := hI.c i hi
    have h2 := hI.d i hi hi
    refine ⟨by omega, by omega, h1.1, h1.2.1, h2.2.2.1, h2.2.2.2.1, h2.2.2.2.2.1, h2.2.2.2.2.2⟩
  refine ⟨⟨wf _ (by show (0 : Int) ≤ f12; omega) (by show (f12 : Int) ≤ _; omega), wf _ (by show (0 : Int) ≤ t12; omega) (by show (t12 : Int) ≤ _; omega), wf _ hs.1 (by show s3 ≤ _; omega), wf _ hsl.1 (by show sl ≤ _; omega), wf _ hti.1 (by show ti ≤ _; omega), ⟨by show (0 : Int) ≤ cc; omega, hc⟩, by show T3.size ≤ 1000; omega, by show M.length ≤ 100; omega, fun y hy => ?_⟩, ?_⟩
  · have := hE y hy
    exact ⟨wf _ this.1 (by omega), this.2.2.1, this.2.2.2.1, by omega⟩
  · have hcB : balB (cc : Int) (b12 : Int) = true := by
      simp only [balB, Bool.and_eq_true, Bool.or_eq_true, decide_eq_true_eq, upB_iff]
      refine ⟨by omega, ?_⟩
      rcases Nat.eq_zero_or_pos cc with h | h
      · right; have := hz h; omega
      · left; omega
    have h1 : kindB (1 + (k13 : Int)) = true := by simp only [kindB, Bool.and_eq_true, decide_eq_true_eq]; omega
    have h2 : rangeB f12 t12 s3 cc b12 sl ti M = true := by
      simp only [rangeB, Bool.and_eq_true, upB_iff, Bool.not_eq_true', List.any_eq_false]
      refine ⟨by omega, by omega, hs, hcB, by omega, by omega, fun y hy => ?_⟩
      have := hE y hy
      simp only [badE, balB, Bool.or_eq_true, Bool.not_eq_true', not_or, Bool.not_eq_false, Bool.and_eq_true, upB_iff, decide_eq_true_eq]
      refine ⟨by omega, by omega, ?_⟩
      by_cases h0 : y.c = 0
      · right; exact ⟨h0, this.2.2.2.2.2.2.1 h0⟩
      · left; omega
    have h3 : shortB T3 M = true := by
      simp only [shortB, Bool.and_eq_true, decide_eq_true_eq, Bool.not_eq_true', List.any_eq_false, bigE]
      refine ⟨by omega, by omega, fun y hy => ?_⟩
      have := hE y hy
      omega
    have h4 : chainB M = true := (chainB_iff M).2 fun i hi => by
      have a1 := hI.d i (by omega) (by omega)
      have a2 := hI.d (i + 1) hi hi
      have e : ((i + 1 : Nat) : Int) = (i : Int) + 1 := by omega
      rw [e] at a2
      omega
    show checkM _ _ _ _ _ _ _ _ _ _ = 0
    unfold checkM
    rw [if_pos h1, if_pos h2, if_pos h3, if_pos h4]
def RightIs (w : World) (e : Ending) (w' : World) : Prop := ∃ (k : Mg) (ms : List Value) (a : Option Addr) (q : Nat), e = .returned (.agg ms.toArray) ∧ Hid (ms = [.int .i64 k.kd, .int .i64 k.frm, .int .i64 k.tt, .int .i64 k.sub, .int .u64 k.c, .int .i64 k.n, .int .i64 k.slot, .int .i64 k.time, .bool k.ok, .string k.text, .slice a k.L.length q]) ∧ Hid (k.Sm ∧ k.check = 0) ∧ Hid (ORow 72 w' k.L a q) ∧ Gr w w'
set_option maxRecDepth 100000 in
set_option maxHeartbeats 8000000 in
theorem right10_any {va : Option Addr} {vc : Nat} (kd frm tt sub c n slot time : Int) (ok : Bool) (tx : ByteArray) (L : List E) (w : World) (hm : (⟨kd, frm, tt, sub, c, n, slot, time, ok, tx, L⟩ : Mg).Wf) (hr : ERow w va L) (hcap : L.length ≤ vc) :
    Calls Tryz.prog 11 #[.agg #[.int .i64 kd, .int .i64 frm, .int .i64 tt, .int .i64 sub, .int .u64 c, .int .i64 n, .int .i64 slot, .int .i64 time, .bool ok, .string tx, .slice va L.length vc]] w fun e w' => RightIs w e w' := by
  have hsm := Mg.few_sm hm
  have HFA := Lib.hid fun w9 (hg : Gr w w9) => few_base (⟨kd, frm, tt, sub, c, n, slot, time, ok, tx, L⟩ : Mg) w9 hm (hr.gr hg) hcap
  have hcb := hsm.c
  have hT3 : (cutB tx 300).size ≤ 300 := cutB_le _ _
  have hFL : (fewE L).length ≤ 70 := by unfold fewE; rw [List.length_map, List.length_take]; omega
  have hFE : ∀ y ∈ fewE L, 0 ≤ y.c ∧ y.c < 18446744073709551616 ∧ y.text.size ≤ 1000 := fun y hy => (hsm.ent y hy).2
  simp only [Mg.few] at HFA
  replace hcb : 0 ≤ c ∧ c < 18446744073709551616 := hcb
  clear hsm hm hr hcap
  generalize cutB tx 300 = T3 at *
  generalize fewE L = F at *
  obtain ⟨cc, rfl⟩ := Int.eq_ofNat_of_zero_le hcb.1
  obtain ⟨b12, hb12, hz12, hR8⟩ := right08r_det n cc
  have HR8 := Lib.hid hR8
  obtain ⟨k13, h13, e13⟩ := mod13 kd
  obtain ⟨f12, hf12, ef12⟩ := mod12r frm
  obtain ⟨t12, ht12, et12⟩ := mod12r tt
  have hs3 : 0 ≤ bits .and .i64 sub 3 ∧ bits .and .i64 sub 3 ≤ 3 := and_mask sub 3 (by decide)
  have hsl : 0 ≤ bits .and .i64 slot 16777215 ∧ bits .and .i64 slot 16777215 ≤ 16777215 := and_mask slot 16777215 (by decide)
  have hti : 0 ≤ bits .and .i64 time 16777215 ∧ bits .and .i64 time 16777215 ≤ 16777215 := and_mask time 16777215 (by decide)
  generalize hes3 : bits .and .i64 sub 3 = s3 at *
  generalize hesl : bits .and .i64 slot 16777215 = sl at *
  generalize heti : bits .and .i64 time 16777215 = ti at *
  have HOK := Lib.hid fun (M : List E) (hM : M.length ≤ 60) (hI : RtInv M M.length) => rt_ok (ok := ok) h13 hf12 ht12 hs3 hcb.2 hb12 hz12 hsl hti hT3 hM hI
  have e1k : wrap64 (1 + (k13 : Int)) = 1 + (k13 : Int) := by unfold wrap64; omega
  clear hs3 hsl hti hcb hb12 hz12 hR8 h13 hf12 ht12 hT3
  obtain ⟨nn, hnn⟩ : ∃ x, F.length = x := ⟨_, rfl⟩
  simp only [hnn] at HFA
  have HB := Lib.hid ((Blk.new w #[.int .i64 kd, .int .i64 frm, .int .i64 tt, .int .i64 sub, .int .u64 (cc : Int), .int .i64 n, .int .i64 slot, .int .i64 time, .bool ok, .string tx, .slice va L.length vc] 49).gr ((Gr.refl _).alloc (.cells #[.int .i64 0, .int .i64 0, .int .i64 0, .int .i64 0, .int .u64 0, .int .i64 0, .int .i64 0, .int .i64 0, .bool false, .string ⟨#[]⟩, .slice none 0 0] 49)))
  have HZ := Lib.hid (Blk.new (w.alloc (.cells #[.int .i64 kd, .int .i64 frm, .int .i64 tt, .int .i64 sub, .int .u64 (cc : Int), .int .i64 n, .int .i64 slot, .int .i64 time, .bool ok, .string tx, .slice va L.length vc] 49)) #[.int .i64 0, .int .i64 0, .int .i64 0, .int .i64 0, .int .u64 0, .int .i64 0, .int .i64 0, .int .i64 0, .bool false, .string ⟨#[]⟩, .slice none 0 0] 49)
  rw [show (w.alloc (.cells #[.int .i64 kd, .int .i64 frm, .int .i64 tt, .int .i64 sub, .int .u64 (cc : Int), .int .i64 n, .int .i64 slot, .int .i64 time, .bool ok, .string tx, .slice va L.length vc] 49)).heap.size = w.heap.size + 1 by simp] at HZ
  have HG := Lib.hid (((Gr.refl w).alloc (.cells #[.int .i64 kd, .int .i64 frm, .int .i64 tt, .int .i64 sub, .int .u64 (cc : Int), .int .i64 n, .int .i64 slot, .int .i64 time, .bool ok, .string tx, .slice va L.length vc] 49)).alloc (.cells #[.int .i64 0, .int .i64 0, .int .i64 0, .int .i64 0, .int .u64 0, .int .i64 0, .int .i64 0, .int .i64 0, .bool false, .string ⟨#[]⟩, .slice none 0 0] 49))
  have g0 := HB.out.cell (i := 0) rfl
  have g1 := HB.out.cell (i := 1) rfl
  have g2 := HB.out.cell (i := 2) rfl
  have g3 := HB.out.cell (i := 3) rfl
  have g4 := HB.out.cell (i := 4) rfl
  have g5 := HB.out.cell (i := 5) rfl
  have g6 := HB.out.cell (i := 6) rfl
  have g7 := HB.out.cell (i := 7) rfl
  have g8 := HB.out.cell (i := 8) rfl
  have g9 := HB.out.cell (i := 9) rfl
  have g10 := HB.out.cell (i := 10) rfl
  go_enter Tryz.func11, Tryz.ntmps11
  go_wp2_with fail
  generalize (w.alloc (.cells #[.int .i64 kd, .int .i64 frm, .int .i64 tt, .int .i64 sub, .int .u64 (cc : Int), .int .i64 n, .int .i64 slot, .int .i64 time, .bool ok, .string tx, .slice va L.length vc] 49)).alloc (.cells #[.int .i64 0, .int .i64 0, .int .i64 0, .int .i64 0, .int .u64 0, .int .i64 0, .int .i64 0, .int .i64 0, .bool false, .string ⟨#[]⟩, .slice none 0 0] 49) = w1 at *
  have HWR := Lib.hid HG.out.size
  refine (HFA.out _ HG.out).mono ?_
  rintro e w2 ⟨ms1, la, qa, rfl, HM1, HRA, hg⟩
  clear g0 g1 g2 g3 g4 g5 g6 g7 g8 g9 g10 HFA
  replace HG := Lib.hid (HG.out.trans hg)
  replace HB := Lib.hid (HB.out.gr hg)
  replace HZ := Lib.hid (HZ.out.gr hg)
  clear hg
  obtain ⟨ms, hms, hml, hT, hO, hgr, hBl⟩ := blk_put HB.out #[.int .i64 kd, .int .i64 frm, .int .i64 tt, .int .i64 sub, .int .u64 (cc : Int), .int .i64 n, .int .i64 slot, .int .i64 time, .bool ok, .string T3, .slice la nn qa] rfl (eleven_one _ _ _ _ _ _ _ _ _ _ _ _ _)
  obtain rfl : ms = ms1 := by rw [HM1.out]; have := congrArg (fun v => match v with | Value.agg a => a.toList | _ => []) hms; simpa using this.symm
  replace HG := Lib.hid (gr_put HG.out hgr (Nat.le_refl _))
  have HRO := Lib.hid (HRA.out.kept hgr (.inr (row_off HB.out HRA.out (by decide))))
  replace HZ := Lib.hid (HZ.out.put_other hgr (show w.heap.size + 1 ≠ w.heap.size by omega))
  replace HB := Lib.hid hBl
  have HML := Lib.hid hml
  have HTT := Lib.hid hT
  have HOO := Lib.hid hO
  clear hms hml hT hO hgr hBl HM1 HRA
  go_upto_region 2 with (first | (refine wpList_store_mid rfl 49 (.tmp 1) (.tmp 6) (by rfl) w.heap.size 0 ms.toArray (by rfl) (by rfl) HTT.out (by rw [HML.out]; kernel_rfl) HOO.out ?_))
  clear HML HTT HOO
  generalize w2.setCells w.heap.size 0 ms = w3 at *
  generalize w1.heap.size = rbase at *
  have hrb := row_off HB.out HRO.out (by decide)
  have j0 := HB.out.cell (i := 0) rfl
  have f0 := HB.out.free 0
  go_upto_region 3 with fail
  clear j0 f0
  replace HB := Lib.hid (HB.out.set 0 (.int .i64 (1 + (k13 : Int))))
  replace HZ := Lib.hid (HZ.out.other (show w.heap.size + 1 ≠ w.heap.size by omega) 0 (.int .i64 (1 + (k13 : Int))))
  replace HG := Lib.hid (HG.out.setCell (p := ⟨w.heap.size, 0, none⟩) (Nat.le_refl _) (.int .i64 (1 + (k13 : Int))))
  replace HRO := Lib.hid (ownsRow_setCell_other (a := ⟨w.heap.size, 0, none⟩) HRO.out hrb (.int .i64 (1 + (k13 : Int))))
  replace HB := Lib.hid (show Blk _ _ #[.int .i64 (1 + (k13 : Int)), .int .i64 frm, .int .i64 tt, .int .i64 sub, .int .u64 (cc : Int), .int .i64 n, .int .i64 slot, .int .i64 time, .bool ok, .string T3, .slice la nn qa] _ from HB.out)
  generalize (w3.setCell ⟨w.heap.size, 0, none⟩ (.int .i64 (1 + (k13 : Int)))) = w3a at *
  have j1 := HB.out.cell (i := 1) rfl
  have f1 := HB.out.free 1
  have j2 := HB.out.cell (i := 2) rfl
  have f2 := HB.out.free 2
  have j3 := HB.out.cell (i := 3) rfl
  have f3 := HB.out.free 3
  go_upto_region 4 with fail
  clear j1 j2 j3 f1 f2 f3
  replace HB := Lib.hid (HB.out.set 1 (.int .i64 (f12 : Int)))
  replace HZ := Lib.hid (HZ.out.other (show w.heap.size + 1 ≠ w.heap.size by omega) 1 (.int .i64 (f12 : Int)))
  replace HG := Lib.hid (HG.out.setCell (p := ⟨w.heap.size, 1, none⟩) (Nat.le_refl _) (.int .i64 (f12 : Int)))
  replace HRO := Lib.hid (ownsRow_setCell_other (a := ⟨w.heap.size, 1, none⟩) HRO.out hrb (.int .i64 (f12 : Int)))
  replace HB := Lib.hid (HB.out.set 2 (.int .i64 (t12 : Int)))
  replace HZ := Lib.hid (HZ.out.other (show w.heap.size + 1 ≠ w.heap.size by omega) 2 (.int .i64 (t12 : Int)))
  replace HG := Lib.hid (HG.out.setCell (p := ⟨w.heap.size, 2, none⟩) (Nat.le_refl _) (.int .i64 (t12 : Int)))
  replace HRO := Lib.hid (ownsRow_setCell_other (a := ⟨w.heap.size, 2, none⟩) HRO.out hrb (.int .i64 (t12 : Int)))
  replace HB := Lib.hid (HB.out.set 3 (.int .i64 s3))
  replace HZ := Lib.hid (HZ.out.other (show w.heap.size + 1 ≠ w.heap.size by omega) 3 (.int .i64 s3))
  replace HG := Lib.hid (HG.out.setCell (p := ⟨w.heap.size, 3, none⟩) (Nat.le_refl _) (.int .i64 s3))
  replace HRO := Lib.hid (ownsRow_setCell_other (a := ⟨w.heap.size, 3, none⟩) HRO.out hrb (.int .i64 s3))
  replace HB := Lib.hid (show Blk _ _ #[.int .i64 (1 + (k13 : Int)), .int .i64 (f12 : Int), .int .i64 (t12 : Int), .int .i64 s3, .int .u64 (cc : Int), .int .i64 n, .int .i64 slot, .int .i64 time, .bool ok, .string T3, .slice la nn qa] _ from HB.out)
  generalize (((w3a.setCell ⟨w.heap.size, 1, none⟩ (.int .i64 (f12 : Int))).setCell ⟨w.heap.size, 2, none⟩ (.int .i64 (t12 : Int))).setCell ⟨w.heap.size, 3, none⟩ (.int .i64 s3)) = w4 at *
  have j4 := HB.out.cell (i := 4) rfl
  have j5 := HB.out.cell (i := 5) rfl
  go_wp2_with fail
  clear j4 j5
  refine (HR8.out _).mono ?_
  rintro e w5 ⟨rfl, hg⟩
  replace HG := Lib.hid (HG.out.trans hg)
  replace HB := Lib.hid (HB.out.gr hg)
  replace HZ := Lib.hid (HZ.out.gr hg)
  replace HRO := Lib.hid (ownsRow_gr hg HRO.out)
  clear hg HR8
  have j4 := HB.out.cell (i := 4) rfl
  have f4 := HB.out.free 4
  have j5 := HB.out.cell (i := 5) rfl
  have f5 := HB.out.free 5
  have j6 := HB.out.cell (i := 6) rfl
  have f6 := HB.out.free 6
  have j7 := HB.out.cell (i := 7) rfl
  have f7 := HB.out.free 7
  have j10 := HB.out.cell (i := 10) rfl
  have f10 := HB.out.free 10
  replace HB := Lib.hid (HB.out.set 4 (.int .u64 (cc : Int)))
  replace HZ := Lib.hid (HZ.out.other (show w.heap.size + 1 ≠ w.heap.size by omega) 4 (.int .u64 (cc : Int)))
  replace HG := Lib.hid (HG.out.setCell (p := ⟨w.heap.size, 4, none⟩) (Nat.le_refl _) (.int .u64 (cc : Int)))
  replace HRO := Lib.hid (ownsRow_setCell_other (a := ⟨w.heap.size, 4, none⟩) HRO.out hrb (.int .u64 (cc : Int)))
  replace HB := Lib.hid (HB.out.set 5 (.int .i64 (b12 : Int)))
  replace HZ := Lib.hid (HZ.out.other (show w.heap.size + 1 ≠ w.heap.size by omega) 5 (.int .i64 (b12 : Int)))
  replace HG := Lib.hid (HG.out.setCell (p := ⟨w.heap.size, 5, none⟩) (Nat.le_refl _) (.int .i64 (b12 : Int)))
  replace HRO := Lib.hid (ownsRow_setCell_other (a := ⟨w.heap.size, 5, none⟩) HRO.out hrb (.int .i64 (b12 : Int)))
  replace HB := Lib.hid (HB.out.set 6 (.int .i64 sl))
  replace HZ := Lib.hid (HZ.out.other (show w.heap.size + 1 ≠ w.heap.size by omega) 6 (.int .i64 sl))
  replace HG := Lib.hid (HG.out.setCell (p := ⟨w.heap.size, 6, none⟩) (Nat.le_refl _) (.int .i64 sl))
  replace HRO := Lib.hid (ownsRow_setCell_other (a := ⟨w.heap.size, 6, none⟩) HRO.out hrb (.int .i64 sl))
  replace HB := Lib.hid (HB.out.set 7 (.int .i64 ti))
  replace HZ := Lib.hid (HZ.out.other (show w.heap.size + 1 ≠ w.heap.size by omega) 7 (.int .i64 ti))
  replace HG := Lib.hid (HG.out.setCell (p := ⟨w.heap.size, 7, none⟩) (Nat.le_refl _) (.int .i64 ti))
  replace HRO := Lib.hid (ownsRow_setCell_other (a := ⟨w.heap.size, 7, none⟩) HRO.out hrb (.int .i64 ti))
  replace HB := Lib.hid (show Blk _ _ #[.int .i64 (1 + (k13 : Int)), .int .i64 (f12 : Int), .int .i64 (t12 : Int), .int .i64 s3, .int .u64 (cc : Int), .int .i64 (b12 : Int), .int .i64 sl, .int .i64 ti, .bool ok, .string T3, .slice la nn qa] _ from HB.out)
  by_cases h60 : 60 < nn
  · have h61 : (60 : Int) < (nn : Int) := by omega
    have hME : ∀ y ∈ F.take 60, 0 ≤ y.c ∧ y.c < 18446744073709551616 ∧ y.text.size ≤ 1000 := fun y hy => hFE y (List.mem_of_mem_take hy)
    have hMN : (F.take 60).length = 60 := by rw [List.length_take]; omega
    have hN60 : 60 ≤ 60 := Nat.le_refl _
    obtain ⟨g0, q0, cur0, hv0, _, _, _, hq2, hq3, hq1, hq4, _⟩ := owns_open HRO.out (by omega)
    simp only [Value.slice.injEq, true_and] at hv0
    obtain ⟨rfl, rfl⟩ := hv0
    subst hnn
    have HR6 := Lib.hid (owns_take encE_len F HRO.out (i := 60) (by omega))
    replace HRO := HR6
    clear HR6
    have hcap : 60 ≤ qa := by omega
    have f10 := HB.out.free 10
    replace HB := Lib.hid (HB.out.set 10 (.slice (some ⟨g0, 0, none⟩) 60 qa))
    replace HZ := Lib.hid (HZ.out.other (show w.heap.size + 1 ≠ w.heap.size by omega) 10 (.slice (some ⟨g0, 0, none⟩) 60 qa))
    replace HG := Lib.hid (HG.out.setCell (p := ⟨w.heap.size, 10, none⟩) (Nat.le_refl _) (.slice (some ⟨g0, 0, none⟩) 60 qa))
    replace HRO := Lib.hid (ownsRow_setCell_other (a := ⟨w.heap.size, 10, none⟩) HRO.out hrb (.slice (some ⟨g0, 0, none⟩) 60 qa))
    go_upto_region 8 with fail
    generalize (((((w5.setCell ⟨w.heap.size, 4, none⟩ (.int .u64 (cc : Int))).setCell ⟨w.heap.size, 5, none⟩ (.int .i64 (b12 : Int))).setCell ⟨w.heap.size, 6, none⟩ (.int .i64 sl)).setCell ⟨w.heap.size, 7, none⟩ (.int .i64 ti)).setCell ⟨w.heap.size, 10, none⟩ (.slice (some ⟨g0, 0, none⟩) 60 qa)) = w6 at *
    clear h61 h60 j4 j5 j6 j7 j10 f4 f5 f6 f7 f10 hrb
    generalize (some ⟨g0, 0, none⟩ : Option Addr) = la at *
    have HI0 := Lib.hid (show RtInv (F.take 60) 0 from ⟨fun i hi => hME _ (List.getElem_mem _), fun i hi h => by omega⟩)
    have HMN := Lib.hid hMN
    clear hME hMN
    generalize (F.take 60) = M0 at *
    have j10 := HB.out.cell (i := 10) rfl
    go_wp2
    clear j10
    go_loopw [53] (fun u53 wr => ∃ (k : Nat) (M : List E), k ≤ 60 ∧ M.length = 60 ∧ u53 = .int .i64 (k : Nat) ∧ Hid (RtInv M k) ∧ Hid (Gr w wr) ∧ Hid (Blk wr w.heap.size #[.int .i64 (1 + (k13 : Int)), .int .i64 (f12 : Int), .int .i64 (t12 : Int), .int .i64 s3, .int .u64 (cc : Int), .int .i64 (b12 : Int), .int .i64 sl, .int .i64 ti, .bool ok, .string T3, .slice la 60 qa] 49) ∧ Hid (Blk wr (w.heap.size + 1) #[.int .i64 0, .int .i64 0, .int .i64 0, .int .i64 0, .int .u64 0, .int .i64 0, .int .i64 0, .int .i64 0, .bool false, .string ⟨#[]⟩, .slice none 0 0] 49) ∧ Hid (wr.ownsRow rbase 72 4 (.slice (la) 60 qa) 60 (rcells encE M))) (fun u53 _ => 60 - (intOf u53).toNat)
    case atStart => exact ⟨0, M0, by omega, HMN.out, rfl, HI0, HG, HB, HZ, HRO⟩
    case round =>
      clear HI0 HG HB HZ HRO HMN hFE
      obtain ⟨k, M, hk, hML, rfl, HI, HG, HB, HZ, HO⟩ := hrel
      by_cases hlt : k < 60
      · have hk4 : (k : Int) < (60 : Int) := by omega
        have hkM : k < M.length := by omega
        obtain ⟨g, qx, cur, hvv, hgs, _, _, _, _, _, _, _, _, hfz⟩ := owns_open HO.out (by omega)
        simp only [Value.slice.injEq, true_and] at hvv
        obtain ⟨rfl, rfl⟩ := hvv
        have d0 := HO.out.cells (g := g) rfl (k * 4 + 0) (.int .i64 M[k].slot) (by rw [rcells_at encE_len _ k hkM 0 (by omega)]; rfl)
        have d1 := HO.out.cells (g := g) rfl (k * 4 + 1) (.int .u64 M[k].c) (by rw [rcells_at encE_len _ k hkM 1 (by omega)]; rfl)
        have d2 := HO.out.cells (g := g) rfl (k * 4 + 2) (.int .i64 M[k].n) (by rw [rcells_at encE_len _ k hkM 2 (by omega)]; rfl)
        have d3 := HO.out.cells (g := g) rfl (k * 4 + 3) (.string M[k].text) (by rw [rcells_at encE_len _ k hkM 3 (by omega)]; rfl)
        rw [addr_add, Nat.zero_add] at d0 d1 d2 d3
        rw [Nat.add_zero] at d0
        have z0 := hfz (k * 4)
        have z1 := hfz (k * 4 + 1)
        have z2 := hfz (k * 4 + 2)
        have z3 := hfz (k * 4 + 3)
        have hgb : g ≠ w.heap.size := fun e => absurd (congrArg some e) (fun e2 => row_off HB.out HO.out (by decide) e2)
        have hgz : g ≠ w.heap.size + 1 := fun e => absurd (congrArg some e) (fun e2 => row_off HZ.out HO.out (by decide) e2)
        obtain ⟨cs, hcs⟩ : ∃ x : Nat, M[k].c = (x : Int) := ⟨M[k].c.toNat, by have := HI.out.c k hkM; omega⟩
        obtain ⟨nb, hnb, hzb, hR8⟩ := right08r_det M[k].n cs
        have HR8 := Lib.hid hR8
        obtain ⟨sv, hsv, hs1, hs2⟩ := rt_slot k (by have := hN60; omega) M[k].slot
        have hic := HI.out.c k hkM
        have HCU := Lib.hid (fun w => cut_any M[k].text 400 w (by omega) (by decide))
        have hct := cutB_le M[k].text 400
        rw [hcs] at d1
        have HI2 := Lib.hid (HI.out.step hkM ⟨sv, cs, nb, cutB M[k].text 400⟩ (by rw [← hcs]; exact ⟨hic.1, hic.2.1⟩) ⟨hs1, hs2⟩ ⟨by show (0 : Int) ≤ nb; omega, by show (nb : Int) ≤ 11; omega⟩ (fun h => by have h2 : (cs : Int) = 0 := h; have := hzb (by omega); show (nb : Int) = 0; omega) hct)
        have HEQ := Lib.hid (show ((((rcells encE M).set (k * 4) (.int .i64 sv)).set (k * 4 + 1) (.int .u64 (cs : Int))).set (k * 4 + 2) (.int .i64 (nb : Int))).set (k * 4 + 3) (.string (cutB M[k].text 400)) = rcells encE (M.set k ⟨sv, cs, nb, cutB M[k].text 400⟩) from by
          have e0 := rcells_set 0 (.int .i64 sv) (fun y => ⟨sv, y.c, y.n, y.text⟩) (fun y => rfl) (by omega) M k hkM
          rw [Nat.add_zero] at e0
          rw [e0, rcells_set 1 (.int .u64 (cs : Int)) (fun y => ⟨y.slot, cs, y.n, y.text⟩) (fun y => rfl) (by omega) _ k (by simpa using hkM), rcells_set 2 (.int .i64 (nb : Int)) (fun y => ⟨y.slot, y.c, nb, y.text⟩) (fun y => rfl) (by omega) _ k (by simpa using hkM), rcells_set 3 (.string (cutB M[k].text 400)) (fun y => ⟨y.slot, y.c, y.n, cutB M[k].text 400⟩) (fun y => rfl) (by omega) _ k (by simpa using hkM)]
          simp)
        have hlen : (M.set k ⟨sv, cs, nb, cutB M[k].text 400⟩).length = 60 := by rw [List.length_set]; exact hML
        generalize M.set k ⟨sv, cs, nb, cutB M[k].text 400⟩ = M2 at *
        have E1 := Lib.hid (show (rcells encE M)[k * 4 + 1]? = some (.int .u64 (cs : Int)) by rw [rcells_at encE_len _ k hkM 1 (by omega), ← hcs]; rfl)
        have E2 := Lib.hid (show (rcells encE M)[k * 4 + 2]? = some (.int .i64 M[k].n) by rw [rcells_at encE_len _ k hkM 2 (by omega)]; rfl)
        have E3 := Lib.hid (show (rcells encE M)[k * 4 + 3]? = some (.string M[k].text) by rw [rcells_at encE_len _ k hkM 3 (by omega)]; rfl)
        generalize M[k].text = tx at *
        generalize cutB tx 400 = tx2 at *
        generalize M[k].slot = ms0 at *
        generalize M[k].n = mn0 at *
        clear hic hct hs1 hs2 hnb hzb hcs HI hR8
        have hwb : w.heap.size ≠ g := Ne.symm hgb
        have hwz : w.heap.size + 1 ≠ g := Ne.symm hgz
        have hwg : w.heap.size ≤ g := Nat.le_trans HWR.out hgs
        have b10 := HB.out.cell (i := 10) rfl
        go_wp2_with fail
        clear b10 d0 d1 d2 d3 z0 z1 z2 z3
        replace HB := Lib.hid (HB.out.other hwb (k * 4) (.int .i64 sv))
        replace HZ := Lib.hid (HZ.out.other hwz (k * 4) (.int .i64 sv))
        replace HG := Lib.hid (HG.out.setCell (p := ⟨g, k * 4, none⟩) hwg (.int .i64 sv))
        replace HO := Lib.hid (HO.out.stored (k * 4) (.int .i64 sv)).1
        generalize wr.setCell ⟨g, k * 4, none⟩ (.int .i64 sv) = y1 at *
        refine (HR8.out _).mono ?_
        rintro e y2 ⟨rfl, hg⟩
        replace HB := Lib.hid (HB.out.gr hg)
        replace HZ := Lib.hid (HZ.out.gr hg)
        replace HG := Lib.hid (HG.out.trans hg)
        replace HO := Lib.hid (ownsRow_gr hg HO.out)
        clear hg HR8
        have d1 := HO.out.cells (g := g) rfl (k * 4 + 1) (.int .u64 (cs : Int)) (by rw [List.getElem?_set_ne (by omega)]; exact E1.out)
        have d2 := HO.out.cells (g := g) rfl (k * 4 + 2) (.int .i64 mn0) (by rw [List.getElem?_set_ne (by omega)]; exact E2.out)
        have d3 := HO.out.cells (g := g) rfl (k * 4 + 3) (.string tx) (by rw [List.getElem?_set_ne (by omega)]; exact E3.out)
        rw [addr_add, Nat.zero_add] at d1 d2 d3
        have z1 := HO.out.frozenAt (k * 4 + 1)
        have z2 := HO.out.frozenAt (k * 4 + 2)
        go_wp2_with fail
        clear d1 d2 d3 z1 z2
        replace HB := Lib.hid (HB.out.other hwb (k * 4 + 1) (.int .u64 (cs : Int)))
        replace HZ := Lib.hid (HZ.out.other hwz (k * 4 + 1) (.int .u64 (cs : Int)))
        replace HG := Lib.hid (HG.out.setCell (p := ⟨g, k * 4 + 1, none⟩) hwg (.int .u64 (cs : Int)))
        replace HO := Lib.hid (HO.out.stored (k * 4 + 1) (.int .u64 (cs : Int))).1
        replace HB := Lib.hid (HB.out.other hwb (k * 4 + 2) (.int .i64 (nb : Int)))
        replace HZ := Lib.hid (HZ.out.other hwz (k * 4 + 2) (.int .i64 (nb : Int)))
        replace HG := Lib.hid (HG.out.setCell (p := ⟨g, k * 4 + 2, none⟩) hwg (.int .i64 (nb : Int)))
        replace HO := Lib.hid (HO.out.stored (k * 4 + 2) (.int .i64 (nb : Int))).1
        generalize (y2.setCell ⟨g, k * 4 + 1, none⟩ (.int .u64 (cs : Int))).setCell ⟨g, k * 4 + 2, none⟩ (.int .i64 (nb : Int)) = y3 at *
        refine (HCU.out _).mono ?_
        rintro e y4 ⟨rfl, rfl⟩
        clear HCU
        have d3 := HO.out.cells (g := g) rfl (k * 4 + 3) (.string tx) (by rw [List.getElem?_set_ne (by omega), List.getElem?_set_ne (by omega), List.getElem?_set_ne (by omega)]; exact E3.out)
        rw [addr_add, Nat.zero_add] at d3
        have z3 := HO.out.frozenAt (k * 4 + 3)
        replace HB := Lib.hid (HB.out.other hwb (k * 4 + 3) (.string tx2))
        replace HZ := Lib.hid (HZ.out.other hwz (k * 4 + 3) (.string tx2))
        replace HG := Lib.hid (HG.out.setCell (p := ⟨g, k * 4 + 3, none⟩) hwg (.string tx2))
        replace HO := Lib.hid (HO.out.stored (k * 4 + 3) (.string tx2)).1
        rw [HEQ.out] at HO
        go_wp2
        go_roundw
        case rel => exact ⟨k + 1, M2, by omega, hlen, by go_num, HI2, HG, HB, HZ, HO⟩
        case measure => simp [intOf]; omega
      · have hk5 : ¬ (k : Int) < (60 : Int) := by omega
        obtain rfl : 60 = k := by omega
        have hok := HOK.out M (by omega) (by rw [hML]; exact HI.out)
        obtain ⟨ms9, hms, hmsl, hT, hO, hgr, hBl⟩ := blk_put HZ.out #[.int .i64 (1 + (k13 : Int)), .int .i64 (f12 : Int), .int .i64 (t12 : Int), .int .i64 s3, .int .u64 (cc : Int), .int .i64 (b12 : Int), .int .i64 sl, .int .i64 ti, .bool ok, .string T3, .slice la 60 qa] rfl (eleven_one _ _ _ _ _ _ _ _ _ _ _ _ _)
        have HGF := Lib.hid (gr_put HG.out hgr (by omega))
        have HOG := Lib.hid (HO.out.kept hgr (.inr (row_off HZ.out HO.out (by decide))))
        have HMS := Lib.hid hms
        have HML := Lib.hid hmsl
        have HTT := Lib.hid hT
        have HOO := Lib.hid hO
        have z0 := hBl.cell (i := 0) rfl
        have m0 := HB.out.cell (i := 0) rfl
        have z1 := hBl.cell (i := 1) rfl
        have m1 := HB.out.cell (i := 1) rfl
        have z2 := hBl.cell (i := 2) rfl
        have m2 := HB.out.cell (i := 2) rfl
        have z3 := hBl.cell (i := 3) rfl
        have m3 := HB.out.cell (i := 3) rfl
        have z4 := hBl.cell (i := 4) rfl
        have m4 := HB.out.cell (i := 4) rfl
        have z5 := hBl.cell (i := 5) rfl
        have m5 := HB.out.cell (i := 5) rfl
        have z6 := hBl.cell (i := 6) rfl
        have m6 := HB.out.cell (i := 6) rfl
        have z7 := hBl.cell (i := 7) rfl
        have m7 := HB.out.cell (i := 7) rfl
        have z8 := hBl.cell (i := 8) rfl
        have m8 := HB.out.cell (i := 8) rfl
        have z9 := hBl.cell (i := 9) rfl
        have m9 := HB.out.cell (i := 9) rfl
        have z10 := hBl.cell (i := 10) rfl
        have m10 := HB.out.cell (i := 10) rfl
        clear hms hmsl hT hO hgr hBl HB HZ HG HO
        go_wp2_with (first | (refine wpList_store_mid rfl 49 (.tmp 2) (.tmp 89) (by rfl) (w.heap.size + 1) 0 ms9.toArray (by rfl) (by exact HMS.out) HTT.out (by rw [HML.out]; kernel_rfl) HOO.out ?_))
        refine bodyPost_ret (v := .agg #[.int .i64 (1 + (k13 : Int)), .int .i64 (f12 : Int), .int .i64 (t12 : Int), .int .i64 s3, .int .u64 (cc : Int), .int .i64 (b12 : Int), .int .i64 sl, .int .i64 ti, .bool ok, .string T3, .slice la 60 qa]) (by simp [results, Tryz.results11, go_sem, z0, z1, z2, z3, z4, z5, z6, z7, z8, z9, z10]; try rfl) rfl ?_
        refine ⟨⟨1 + (k13 : Int), f12, t12, s3, cc, b12, sl, ti, ok, T3, M⟩, [.int .i64 (1 + (k13 : Int)), .int .i64 (f12 : Int), .int .i64 (t12 : Int), .int .i64 s3, .int .u64 (cc : Int), .int .i64 (b12 : Int), .int .i64 sl, .int .i64 ti, .bool ok, .string T3, .slice la 60 qa], la, qa, rfl, Lib.hid ?_, Lib.hid hok, Lib.hid ⟨rbase, ?_⟩, HGF.out⟩
        · simp only [hML]
        · simp only [hML]; exact HOG.out
  · have h61 : ¬ (60 : Int) < (nn : Int) := by omega
    have hMN : F.length = nn := hnn
    have hME := hFE
    have hN60 : nn ≤ 60 := by omega
    go_upto_region 8 with fail
    generalize ((((w5.setCell ⟨w.heap.size, 4, none⟩ (.int .u64 (cc : Int))).setCell ⟨w.heap.size, 5, none⟩ (.int .i64 (b12 : Int))).setCell ⟨w.heap.size, 6, none⟩ (.int .i64 sl)).setCell ⟨w.heap.size, 7, none⟩ (.int .i64 ti)) = w6 at *
    clear h61 h60 j4 j5 j6 j7 j10 f4 f5 f6 f7 f10
    have HI0 := Lib.hid (show RtInv F 0 from ⟨fun i hi => hME _ (List.getElem_mem _), fun i hi h => by omega⟩)
    have HMN := Lib.hid hMN
    clear hME hMN
    generalize F = M0 at *
    have j10 := HB.out.cell (i := 10) rfl
    go_wp2
    clear j10
    go_loopw [53] (fun u53 wr => ∃ (k : Nat) (M : List E), k ≤ nn ∧ M.length = nn ∧ u53 = .int .i64 (k : Nat) ∧ Hid (RtInv M k) ∧ Hid (Gr w wr) ∧ Hid (Blk wr w.heap.size #[.int .i64 (1 + (k13 : Int)), .int .i64 (f12 : Int), .int .i64 (t12 : Int), .int .i64 s3, .int .u64 (cc : Int), .int .i64 (b12 : Int), .int .i64 sl, .int .i64 ti, .bool ok, .string T3, .slice la nn qa] 49) ∧ Hid (Blk wr (w.heap.size + 1) #[.int .i64 0, .int .i64 0, .int .i64 0, .int .i64 0, .int .u64 0, .int .i64 0, .int .i64 0, .int .i64 0, .bool false, .string ⟨#[]⟩, .slice none 0 0] 49) ∧ Hid (wr.ownsRow rbase 72 4 (.slice (la) nn qa) nn (rcells encE M))) (fun u53 _ => nn - (intOf u53).toNat)
    case atStart => exact ⟨0, M0, by omega, HMN.out, rfl, HI0, HG, HB, HZ, HRO⟩
    case round =>
      clear HI0 HG HB HZ HRO HMN hFE
      obtain ⟨k, M, hk, hML, rfl, HI, HG, HB, HZ, HO⟩ := hrel
      by_cases hlt : k < nn
      · have hk4 : (k : Int) < (nn : Int) := by omega
        have hkM : k < M.length := by omega
        obtain ⟨g, qx, cur, hvv, hgs, _, _, _, _, _, _, _, _, hfz⟩ := owns_open HO.out (by omega)
        simp only [Value.slice.injEq, true_and] at hvv
        obtain ⟨rfl, rfl⟩ := hvv
        have d0 := HO.out.cells (g := g) rfl (k * 4 + 0) (.int .i64 M[k].slot) (by rw [rcells_at encE_len _ k hkM 0 (by omega)]; rfl)
        have d1 := HO.out.cells (g := g) rfl (k * 4 + 1) (.int .u64 M[k].c) (by rw [rcells_at encE_len _ k hkM 1 (by omega)]; rfl)
        have d2 := HO.out.cells (g := g) rfl (k * 4 + 2) (.int .i64 M[k].n) (by rw [rcells_at encE_len _ k hkM 2 (by omega)]; rfl)
        have d3 := HO.out.cells (g := g) rfl (k * 4 + 3) (.string M[k].text) (by rw [rcells_at encE_len _ k hkM 3 (by omega)]; rfl)
        rw [addr_add, Nat.zero_add] at d0 d1 d2 d3
        rw [Nat.add_zero] at d0
        have z0 := hfz (k * 4)
        have z1 := hfz (k * 4 + 1)
        have z2 := hfz (k * 4 + 2)
        have z3 := hfz (k * 4 + 3)
        have hgb : g ≠ w.heap.size := fun e => absurd (congrArg some e) (fun e2 => row_off HB.out HO.out (by decide) e2)
        have hgz : g ≠ w.heap.size + 1 := fun e => absurd (congrArg some e) (fun e2 => row_off HZ.out HO.out (by decide) e2)
        obtain ⟨cs, hcs⟩ : ∃ x : Nat, M[k].c = (x : Int) := ⟨M[k].c.toNat, by have := HI.out.c k hkM; omega⟩
        obtain ⟨nb, hnb, hzb, hR8⟩ := right08r_det M[k].n cs
        have HR8 := Lib.hid hR8
        obtain ⟨sv, hsv, hs1, hs2⟩ := rt_slot k (by have := hN60; omega) M[k].slot
        have hic := HI.out.c k hkM
        have HCU := Lib.hid (fun w => cut_any M[k].text 400 w (by omega) (by decide))
        have hct := cutB_le M[k].text 400
        rw [hcs] at d1
        have HI2 := Lib.hid (HI.out.step hkM ⟨sv, cs, nb, cutB M[k].text 400⟩ (by rw [← hcs]; exact ⟨hic.1, hic.2.1⟩) ⟨hs1, hs2⟩ ⟨by show (0 : Int) ≤ nb; omega, by show (nb : Int) ≤ 11; omega⟩ (fun h => by have h2 : (cs : Int) = 0 := h; have := hzb (by omega); show (nb : Int) = 0; omega) hct)
        have HEQ := Lib.hid (show ((((rcells encE M).set (k * 4) (.int .i64 sv)).set (k * 4 + 1) (.int .u64 (cs : Int))).set (k * 4 + 2) (.int .i64 (nb : Int))).set (k * 4 + 3) (.string (cutB M[k].text 400)) = rcells encE (M.set k ⟨sv, cs, nb, cutB M[k].text 400⟩) from by
          have e0 := rcells_set 0 (.int .i64 sv) (fun y => ⟨sv, y.c, y.n, y.text⟩) (fun y => rfl) (by omega) M k hkM
          rw [Nat.add_zero] at e0
          rw [e0, rcells_set 1 (.int .u64 (cs : Int)) (fun y => ⟨y.slot, cs, y.n, y.text⟩) (fun y => rfl) (by omega) _ k (by simpa using hkM), rcells_set 2 (.int .i64 (nb : Int)) (fun y => ⟨y.slot, y.c, nb, y.text⟩) (fun y => rfl) (by omega) _ k (by simpa using hkM), rcells_set 3 (.string (cutB M[k].text 400)) (fun y => ⟨y.slot, y.c, y.n, cutB M[k].text 400⟩) (fun y => rfl) (by omega) _ k (by simpa using hkM)]
          simp)
        have hlen : (M.set k ⟨sv, cs, nb, cutB M[k].text 400⟩).length = nn := by rw [List.length_set]; exact hML
        generalize M.set k ⟨sv, cs, nb, cutB M[k].text 400⟩ = M2 at *
        have E1 := Lib.hid (show (rcells encE M)[k * 4 + 1]? = some (.int .u64 (cs : Int)) by rw [rcells_at encE_len _ k hkM 1 (by omega), ← hcs]; rfl)
        have E2 := Lib.hid (show (rcells encE M)[k * 4 + 2]? = some (.int .i64 M[k].n) by rw [rcells_at encE_len _ k hkM 2 (by omega)]; rfl)
        have E3 := Lib.hid (show (rcells encE M)[k * 4 + 3]? = some (.string M[k].text) by rw [rcells_at encE_len _ k hkM 3 (by omega)]; rfl)
        generalize M[k].text = tx at *
        generalize cutB tx 400 = tx2 at *
        generalize M[k].slot = ms0 at *
        generalize M[k].n = mn0 at *
        clear hic hct hs1 hs2 hnb hzb hcs HI hR8
        have hwb : w.heap.size ≠ g := Ne.symm hgb
        have hwz : w.heap.size + 1 ≠ g := Ne.symm hgz
        have hwg : w.heap.size ≤ g := Nat.le_trans HWR.out hgs
        have b10 := HB.out.cell (i := 10) rfl
        go_wp2_with fail
        clear b10 d0 d1 d2 d3 z0 z1 z2 z3
        replace HB := Lib.hid (HB.out.other hwb (k * 4) (.int .i64 sv))
        replace HZ := Lib.hid (HZ.out.other hwz (k * 4) (.int .i64 sv))
        replace HG := Lib.hid (HG.out.setCell (p := ⟨g, k * 4, none⟩) hwg (.int .i64 sv))
        replace HO := Lib.hid (HO.out.stored (k * 4) (.int .i64 sv)).1
        generalize wr.setCell ⟨g, k * 4, none⟩ (.int .i64 sv) = y1 at *
        refine (HR8.out _).mono ?_
        rintro e y2 ⟨rfl, hg⟩
        replace HB := Lib.hid (HB.out.gr hg)
        replace HZ := Lib.hid (HZ.out.gr hg)
        replace HG := Lib.hid (HG.out.trans hg)
        replace HO := Lib.hid (ownsRow_gr hg HO.out)
        clear hg HR8
        have d1 := HO.out.cells (g := g) rfl (k * 4 + 1) (.int .u64 (cs : Int)) (by rw [List.getElem?_set_ne (by omega)]; exact E1.out)
        have d2 := HO.out.cells (g := g) rfl (k * 4 + 2) (.int .i64 mn0) (by rw [List.getElem?_set_ne (by omega)]; exact E2.out)
        have d3 := HO.out.cells (g := g) rfl (k * 4 + 3) (.string tx) (by rw [List.getElem?_set_ne (by omega)]; exact E3.out)
        rw [addr_add, Nat.zero_add] at d1 d2 d3
        have z1 := HO.out.frozenAt (k * 4 + 1)
        have z2 := HO.out.frozenAt (k * 4 + 2)
        go_wp2_with fail
        clear d1 d2 d3 z1 z2
        replace HB := Lib.hid (HB.out.other hwb (k * 4 + 1) (.int .u64 (cs : Int)))
        replace HZ := Lib.hid (HZ.out.other hwz (k * 4 + 1) (.int .u64 (cs : Int)))
        replace HG := Lib.hid (HG.out.setCell (p := ⟨g, k * 4 + 1, none⟩) hwg (.int .u64 (cs : Int)))
        replace HO := Lib.hid (HO.out.stored (k * 4 + 1) (.int .u64 (cs : Int))).1
        replace HB := Lib.hid (HB.out.other hwb (k * 4 + 2) (.int .i64 (nb : Int)))
        replace HZ := Lib.hid (HZ.out.other hwz (k * 4 + 2) (.int .i64 (nb : Int)))
        replace HG := Lib.hid (HG.out.setCell (p := ⟨g, k * 4 + 2, none⟩) hwg (.int .i64 (nb : Int)))
        replace HO := Lib.hid (HO.out.stored (k * 4 + 2) (.int .i64 (nb : Int))).1
        generalize (y2.setCell ⟨g, k * 4 + 1, none⟩ (.int .u64 (cs : Int))).setCell ⟨g, k * 4 + 2, none⟩ (.int .i64 (nb : Int)) = y3 at *
        refine (HCU.out _).mono ?_
        rintro e y4 ⟨rfl, rfl⟩
        clear HCU
        have d3 := HO.out.cells (g := g) rfl (k * 4 + 3) (.string tx) (by rw [List.getElem?_set_ne (by omega), List.getElem?_set_ne (by omega), List.getElem?_set_ne (by omega)]; exact E3.out)
        rw [addr_add, Nat.zero_add] at d3
        have z3 := HO.out.frozenAt (k * 4 + 3)
        replace HB := Lib.hid (HB.out.other hwb (k * 4 + 3) (.string tx2))
        replace HZ := Lib.hid (HZ.out.other hwz (k * 4 + 3) (.string tx2))
        replace HG := Lib.hid (HG.out.setCell (p := ⟨g, k * 4 + 3, none⟩) hwg (.string tx2))
        replace HO := Lib.hid (HO.out.stored (k * 4 + 3) (.string tx2)).1
        rw [HEQ.out] at HO
        go_wp2
        go_roundw
        case rel => exact ⟨k + 1, M2, by omega, hlen, by go_num, HI2, HG, HB, HZ, HO⟩
        case measure => simp [intOf]; omega
      · have hk5 : ¬ (k : Int) < (nn : Int) := by omega
        obtain rfl : nn = k := by omega
        have hok := HOK.out M (by omega) (by rw [hML]; exact HI.out)
        obtain ⟨ms9, hms, hmsl, hT, hO, hgr, hBl⟩ := blk_put HZ.out #[.int .i64 (1 + (k13 : Int)), .int .i64 (f12 : Int), .int .i64 (t12 : Int), .int .i64 s3, .int .u64 (cc : Int), .int .i64 (b12 : Int), .int .i64 sl, .int .i64 ti, .bool ok, .string T3, .slice la nn qa] rfl (eleven_one _ _ _ _ _ _ _ _ _ _ _ _ _)
        have HGF := Lib.hid (gr_put HG.out hgr (by omega))
        have HOG := Lib.hid (HO.out.kept hgr (.inr (row_off HZ.out HO.out (by decide))))
        have HMS := Lib.hid hms
        have HML := Lib.hid hmsl
        have HTT := Lib.hid hT
        have HOO := Lib.hid hO
        have z0 := hBl.cell (i := 0) rfl
        have m0 := HB.out.cell (i := 0) rfl
        have z1 := hBl.cell (i := 1) rfl
        have m1 := HB.out.cell (i := 1) rfl
        have z2 := hBl.cell (i := 2) rfl
        have m2 := HB.out.cell (i := 2) rfl
        have z3 := hBl.cell (i := 3) rfl
        have m3 := HB.out.cell (i := 3) rfl
        have z4 := hBl.cell (i := 4) rfl
        have m4 := HB.out.cell (i := 4) rfl
        have z5 := hBl.cell (i := 5) rfl
        have m5 := HB.out.cell (i := 5) rfl
        have z6 := hBl.cell (i := 6) rfl
        have m6 := HB.out.cell (i := 6) rfl
        have z7 := hBl.cell (i := 7) rfl
        have m7 := HB.out.cell (i := 7) rfl
        have z8 := hBl.cell (i := 8) rfl
        have m8 := HB.out.cell (i := 8) rfl
        have z9 := hBl.cell (i := 9) rfl
        have m9 := HB.out.cell (i := 9) rfl
        have z10 := hBl.cell (i := 10) rfl
        have m10 := HB.out.cell (i := 10) rfl
        clear hms hmsl hT hO hgr hBl HB HZ HG HO
        go_wp2_with (first | (refine wpList_store_mid rfl 49 (.tmp 2) (.tmp 89) (by rfl) (w.heap.size + 1) 0 ms9.toArray (by rfl) (by exact HMS.out) HTT.out (by rw [HML.out]; kernel_rfl) HOO.out ?_))
        refine bodyPost_ret (v := .agg #[.int .i64 (1 + (k13 : Int)), .int .i64 (f12 : Int), .int .i64 (t12 : Int), .int .i64 s3, .int .u64 (cc : Int), .int .i64 (b12 : Int), .int .i64 sl, .int .i64 ti, .bool ok, .string T3, .slice la nn qa]) (by simp [results, Tryz.results11, go_sem, z0, z1, z2, z3, z4, z5, z6, z7, z8, z9, z10]; try rfl) rfl ?_
        refine ⟨⟨1 + (k13 : Int), f12, t12, s3, cc, b12, sl, ti, ok, T3, M⟩, [.int .i64 (1 + (k13 : Int)), .int .i64 (f12 : Int), .int .i64 (t12 : Int), .int .i64 s3, .int .u64 (cc : Int), .int .i64 (b12 : Int), .int .i64 sl, .int .i64 ti, .bool ok, .string T3, .slice la nn qa], la, qa, rfl, Lib.hid ?_, Lib.hid hok, Lib.hid ⟨rbase, ?_⟩, HGF.out⟩
        · simp only [hML]
        · simp only [hML]; exact HOG.out
end Go.Proofs.YtfgkgpkaohkehaaGreatDoor
