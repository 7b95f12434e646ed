import Derived.WalkKit
import Derived.Test.YtfgkgpkaohkehaaGreatDoorK1
import Derived.ProofKit
import Derived.LoopTactic
import Derived.Outline
import Derived.WalkSpells
import Derived.WalkLawsBesides
import Derived.Lib.Hide
import Derived.Deep.LoopGhost
import Derived.Deep.QuietTactic
import Derived.BigQuiet
import Derived.ShutString
import Derived.IntWalk
import Derived.Lib.Tables
import Derived.Laws.Bits64b
import Derived.Laws.AppendOwn
import Derived.Shelf.Spec.TrailingZeros
import Derived.Laws.BitsLemmas
/- Plain mathematics of sets of nodes: counts, quorums, and when two quorums can be apart. No program is imported here. -/
namespace Go.Proofs.YtfgkgpkaohkehaaGreatDoor.Grids
/-- How many numbers below n have a mark. -/
def cnt (f : Nat → Bool) : Nat → Nat
  | 0 => 0
  | n + 1 => cnt f n + (if f n then 1 else 0)
theorem cnt_le (f : Nat → Bool) : ∀ n, cnt f n ≤ n
  | 0 => Nat.le_refl _
  | n + 1 => by have := cnt_le f n; unfold cnt; split <;> omega
theorem cnt_mono {f g : Nat → Bool} : ∀ n, (∀ i, i < n → f i = true → g i = true) → cnt f n ≤ cnt g n
  | 0, _ => Nat.le_refl _
  | n + 1, h => by
    have := cnt_mono n fun i hi => h i (by omega)
    have hn := h n (by omega)
    unfold cnt
    cases hf : f n <;> cases hg : g n <;> simp_all <;> omega
theorem cnt_congr {f g : Nat → Bool} : ∀ n, (∀ i, i < n → f i = g i) → cnt f n = cnt g n
  | 0, _ => rfl
  | n + 1, h => by unfold cnt; rw [cnt_congr n fun i hi => h i (by omega), h n (by omega)]
theorem cnt_all : ∀ n, cnt (fun _ => true) n = n
  | 0 => rfl
  | n + 1 => by unfold cnt; rw [cnt_all n]; rfl
theorem cnt_none : ∀ n, cnt (fun _ => false) n = 0
  | 0 => rfl
  | n + 1 => by unfold cnt; rw [cnt_none n]; rfl
theorem cnt_apart {f g l : Nat → Bool} : ∀ n, (∀ i, i < n → f i = true → g i = true → l i = true) → cnt f n + cnt g n ≤ n + cnt l n
  | 0, _ => Nat.le_refl _
  | n + 1, h => by
    have := cnt_apart n fun i hi => h i (by omega)
    have hn := h n (by omega)
    unfold cnt
    cases hf : f n <;> cases hg : g n <;> cases hl : l n <;> simp_all <;> omega
def put (f : Nat → Bool) (n : Nat) (b : Bool) : Nat → Bool := fun i => if i = n then b else f i
theorem put_at (f : Nat → Bool) (n : Nat) (b : Bool) : put f n b n = b := by simp [put]
theorem put_of (f : Nat → Bool) {n i : Nat} (b : Bool) (h : i < n) : put f n b i = f i := by unfold put; rw [if_neg (by omega)]
theorem cnt_put (f : Nat → Bool) (n : Nat) (b : Bool) : cnt (put f n b) (n + 1) = cnt f n + (if b then 1 else 0) := by
  show cnt (put f n b) n + (if put f n b n = true then 1 else 0) = _
  rw [put_at, cnt_congr n fun i hi => put_of f b hi]
theorem choose_step {l : Nat → Bool} {n a b : Nat} {f g : Nat → Bool} (x y : Bool) (ha : a ≤ cnt f n) (hb : b ≤ cnt g n) (h : ∀ i, i < n → f i = true → g i = true → l i = true) (hx : x = true → y = true → l n = true) :
    ∃ f g : Nat → Bool, a + (if x then 1 else 0) ≤ cnt f (n + 1) ∧ b + (if y then 1 else 0) ≤ cnt g (n + 1) ∧ ∀ i, i < n + 1 → f i = true → g i = true → l i = true := by
  refine ⟨put f n x, put g n y, by rw [cnt_put]; omega, by rw [cnt_put]; omega, fun i hi => ?_⟩
  rcases Nat.lt_or_ge i n with h1 | h1
  · rw [put_of f x h1, put_of g y h1]; exact h i h1
  · obtain rfl : i = n := by omega
    rw [put_at, put_at]; exact hx
/-- Two choices that have only free ones in common, if there are so many. -/
theorem cnt_choose (l : Nat → Bool) : ∀ n a b, a ≤ n → b ≤ n → a + b ≤ n + cnt l n → ∃ f g : Nat → Bool, a ≤ cnt f n ∧ b ≤ cnt g n ∧ ∀ i, i < n → f i = true → g i = true → l i = true
  | 0, a, b, ha, hb, _ => ⟨fun _ => false, fun _ => false, by unfold cnt; omega, by unfold cnt; omega, fun _ h => by omega⟩
  | n + 1, a, b, ha, hb, h => by
    have hc := cnt_le l n
    unfold cnt at h
    cases hl : l n
    · rw [hl] at h
      simp only [Bool.false_eq_true, if_false, Nat.add_zero] at h
      by_cases h0 : a = 0 ∨ b = n + 1
      · obtain ⟨f, g, h1, h2, h3⟩ := cnt_choose l n a (b - 1) (by omega) (by omega) (by omega)
        obtain ⟨f', g', h4, h5, h6⟩ := choose_step false true h1 h2 h3 (fun e => (by cases e))
        simp at h4 h5
        exact ⟨f', g', by omega, by omega, h6⟩
      · obtain ⟨f, g, h1, h2, h3⟩ := cnt_choose l n (a - 1) b (by omega) (by omega) (by omega)
        obtain ⟨f', g', h4, h5, h6⟩ := choose_step true false h1 h2 h3 (fun _ e => (by cases e))
        simp at h4 h5
        exact ⟨f', g', by omega, by omega, h6⟩
    · rw [hl] at h
      simp only [if_true] at h
      obtain ⟨f, g, h1, h2, h3⟩ := cnt_choose l n (a - 1) (b - 1) (by omega) (by omega) (by omega)
      obtain ⟨f', g', h4, h5, h6⟩ := choose_step true true h1 h2 h3 (fun _ _ => hl)
      simp at h4 h5
      exact ⟨f', g', by omega, by omega, h6⟩
/-- The number whose first n bits are these. -/
def ofB (f : Nat → Bool) : Nat → Nat
  | 0 => 0
  | n + 1 => ofB f n + (if f n then 2 ^ n else 0)
theorem ofB_lt (f : Nat → Bool) : ∀ n, ofB f n < 2 ^ n
  | 0 => Nat.one_pos
  | n + 1 => by have := ofB_lt f n; unfold ofB; rw [Nat.pow_succ]; split <;> omega
theorem ofB_bit (f : Nat → Bool) : ∀ n i, (ofB f n).testBit i = (decide (i < n) && f i)
  | 0, i => by simp [ofB]
  | n + 1, i => by
    have ih := ofB_bit f n
    have hlt := ofB_lt f n
    unfold ofB
    cases hf : f n
    · simp only [Bool.false_eq_true, if_false, Nat.add_zero]
      rw [ih i]
      rcases Nat.lt_trichotomy i n with h | h | h
      · simp [h, Nat.lt_succ_of_lt h]
      · subst h; simp [hf]
      · simp [show ¬ i < n by omega, show ¬ i < n + 1 by omega]
    · simp only [if_true]
      rw [Nat.add_comm]
      rcases Nat.lt_trichotomy i n with h | h | h
      · rw [Nat.testBit_two_pow_add_gt h, ih i]; simp [h, Nat.lt_succ_of_lt h]
      · subst h; rw [Nat.testBit_two_pow_add_eq, ih i]; simp [hf]
      · rw [Nat.testBit_lt_two_pow (show 2 ^ n + ofB f n < 2 ^ i by
          have : 2 ^ (n + 1) ≤ 2 ^ i := Nat.pow_le_pow_right (by decide) h
          rw [Nat.pow_succ] at this; omega)]
        simp [show ¬ i < n + 1 by omega]
/-- A number's own bits. -/
theorem ofB_self {x n : Nat} (h : x < 2 ^ n) : ofB x.testBit n = x := by
  apply Nat.eq_of_testBit_eq
  intro i
  rw [ofB_bit]
  rcases Nat.lt_or_ge i n with h1 | h1
  · simp [h1]
  · rw [Nat.testBit_lt_two_pow (Nat.lt_of_lt_of_le h (Nat.pow_le_pow_right (by decide) h1))]; simp
/-- From the last bit on: bits shifted in one by one. -/
theorem ofB_front (f : Nat → Bool) : ∀ n, ofB f (n + 1) = 2 * ofB (fun i => f (i + 1)) n + (if f 0 then 1 else 0)
  | 0 => by simp [ofB]
  | n + 1 => by
    show ofB f (n + 1) + (if f (n + 1) then 2 ^ (n + 1) else 0) = 2 * (ofB (fun i => f (i + 1)) n + (if f (n + 1) then 2 ^ n else 0)) + _
    rw [ofB_front f n, Nat.pow_succ]; split <;> split <;> omega
/-- How many of a set's nodes lie in region r. -/
def regC (per set r : Nat) : Nat := cnt (fun i => set.testBit (r * per + i)) per
/-- Is a set a quorum of a kind? -/
def isQ (regions per zones nodes set : Nat) : Bool := decide (zones ≤ cnt (fun r => decide (nodes ≤ regC per set r)) regions)
def loose (per w n1 n2 r : Nat) : Bool := decide (n1 + n2 ≤ per + regC per w r)
def meetsB (regions per w z1 n1 z2 n2 : Nat) : Bool := !decide (z1 + z2 ≤ regions + cnt (loose per w n1 n2) regions)
theorem reg_lt {r i regions per : Nat} (hr : r < regions) (hi : i < per) : r * per + i < regions * per := by
  have := Nat.mul_le_mul_right per (show r + 1 ≤ regions by omega)
  rw [Nat.add_mul] at this; omega
theorem isQ_mono {regions per z n a b : Nat} (h : ∀ i, i < regions * per → a.testBit i = true → b.testBit i = true) (ha : isQ regions per z n a = true) : isQ regions per z n b = true := by
  unfold isQ at *
  rw [decide_eq_true_eq] at *
  refine Nat.le_trans ha (cnt_mono _ fun r hr h1 => ?_)
  rw [decide_eq_true_eq] at *
  exact Nat.le_trans h1 (cnt_mono _ fun i hi => h _ (reg_lt hr hi))
theorem isQ_congr {regions per z n a b : Nat} (h : ∀ i, i < regions * per → a.testBit i = b.testBit i) : isQ regions per z n a = isQ regions per z n b := by
  have h1 := @isQ_mono regions per z n a b fun i hi e => by rw [← h i hi]; exact e
  have h2 := @isQ_mono regions per z n b a fun i hi e => by rw [h i hi]; exact e
  cases ha : isQ regions per z n a <;> cases hb : isQ regions per z n b <;> simp_all
/-- Any two quorums have a node in common that is not a witness. -/
def Meets (regions per w z1 n1 z2 n2 : Nat) : Prop :=
  ∀ a b : Nat, isQ regions per z1 n1 a = true → isQ regions per z2 n2 b = true → ∃ i, i < regions * per ∧ a.testBit i = true ∧ b.testBit i = true ∧ w.testBit i = false
theorem meets_of {regions per w z1 n1 z2 n2 : Nat} (h : meetsB regions per w z1 n1 z2 n2 = true) : Meets regions per w z1 n1 z2 n2 := by
  intro a b ha hb
  apply Classical.byContradiction
  intro hno
  have hall : ∀ i, i < regions * per → a.testBit i = true → b.testBit i = true → w.testBit i = true := by
    intro i hi h1 h2
    cases hw : w.testBit i
    · exact absurd ⟨i, hi, h1, h2, hw⟩ hno
    · rfl
  unfold isQ at ha hb
  rw [decide_eq_true_eq] at ha hb
  have hz := @cnt_apart (fun r => decide (n1 ≤ regC per a r)) (fun r => decide (n2 ≤ regC per b r)) (loose per w n1 n2) regions fun r hr h1 h2 => by
    rw [decide_eq_true_eq] at h1 h2
    have := @cnt_apart (fun i => a.testBit (r * per + i)) (fun i => b.testBit (r * per + i)) (fun i => w.testBit (r * per + i)) per fun _ hi => hall _ (reg_lt hr hi)
    unfold loose
    rw [decide_eq_true_eq]
    unfold regC at h1 h2 ⊢
    omega
  unfold meetsB at h
  simp at h
  omega
theorem reg_div {r i per : Nat} (hi : i < per) : (r * per + i) / per = r := by
  rw [Nat.mul_comm, Nat.mul_add_div (by omega), Nat.div_eq_of_lt hi]; rfl
theorem reg_mod {r i per : Nat} (hi : i < per) : (r * per + i) % per = i := by
  rw [Nat.mul_comm, Nat.mul_add_mod, Nat.mod_eq_of_lt hi]
/-- The set of which region r has these nodes. -/
def setOf (regions per : Nat) (F : Nat → Nat → Bool) : Nat := ofB (fun k => F (k / per) (k % per)) (regions * per)
theorem setOf_bit {regions per : Nat} (F : Nat → Nat → Bool) {r i : Nat} (hr : r < regions) (hi : i < per) : (setOf regions per F).testBit (r * per + i) = F r i := by
  unfold setOf
  rw [ofB_bit, decide_eq_true (reg_lt hr hi), reg_div hi, reg_mod hi]; rfl
theorem setOf_regC {regions per : Nat} (F : Nat → Nat → Bool) {r : Nat} (hr : r < regions) : regC per (setOf regions per F) r = cnt (F r) per :=
  cnt_congr _ fun _ hi => setOf_bit F hr hi
theorem of_meets {regions per w z1 n1 z2 n2 : Nat} (hp : 0 < per) (hz1 : z1 ≤ regions) (hz2 : z2 ≤ regions) (hn1 : n1 ≤ per) (hn2 : n2 ≤ per) (h : Meets regions per w z1 n1 z2 n2) : meetsB regions per w z1 n1 z2 n2 = true := by
  apply Classical.byContradiction
  intro hno
  unfold meetsB at hno
  simp at hno
  obtain ⟨f, g, hf, hg, hfg⟩ := cnt_choose (loose per w n1 n2) regions z1 z2 hz1 hz2 hno
  have hr : ∀ r, ∃ p : (Nat → Bool) × (Nat → Bool), r < regions → (f r = true → n1 ≤ cnt p.1 per) ∧ (g r = true → n2 ≤ cnt p.2 per) ∧ ∀ i, i < per → p.1 i = true → p.2 i = true → w.testBit (r * per + i) = true := by
    intro r
    cases h1 : f r
    · exact ⟨(fun _ => false, fun _ => true), fun _ => ⟨fun e => (by cases e), fun _ => (by rw [cnt_all]; exact hn2), fun _ _ e => (by cases e)⟩⟩
    · cases h2 : g r
      · exact ⟨(fun _ => true, fun _ => false), fun _ => ⟨fun _ => (by rw [cnt_all]; exact hn1), fun e => (by cases e), fun _ _ _ e => (by cases e)⟩⟩
      · by_cases hlt : r < regions
        · have hl := hfg r hlt h1 h2
          unfold loose at hl
          rw [decide_eq_true_eq] at hl
          obtain ⟨x, y, hx, hy, hxy⟩ := cnt_choose (fun i => w.testBit (r * per + i)) per n1 n2 hn1 hn2 hl
          exact ⟨(x, y), fun _ => ⟨fun _ => hx, fun _ => hy, hxy⟩⟩
        · exact ⟨(fun _ => false, fun _ => false), fun e => absurd e hlt⟩
  obtain ⟨p, hp'⟩ := Classical.axiomOfChoice hr
  obtain ⟨i, hi, h1, h2, h3⟩ := h (setOf regions per fun r => (p r).1) (setOf regions per fun r => (p r).2)
    (by
      unfold isQ
      rw [decide_eq_true_eq]
      refine Nat.le_trans hf (cnt_mono _ fun r hr1 e => ?_)
      rw [decide_eq_true_eq, setOf_regC _ hr1]
      exact (hp' r hr1).1 e)
    (by
      unfold isQ
      rw [decide_eq_true_eq]
      refine Nat.le_trans hg (cnt_mono _ fun r hr1 e => ?_)
      rw [decide_eq_true_eq, setOf_regC _ hr1]
      exact (hp' r hr1).2.1 e)
  have hlt : i / per < regions := by rw [Nat.div_lt_iff_lt_mul hp]; exact hi
  have hm : i % per < per := Nat.mod_lt _ hp
  have e : i / per * per + i % per = i := by rw [Nat.mul_comm]; exact Nat.div_add_mod i per
  rw [← e, setOf_bit _ hlt hm] at h1 h2
  have := (hp' _ hlt).2.2 _ hm h1 h2
  rw [e] at this
  rw [this] at h3
  cases h3
/-- What the set has not, and what w has, within n bits. -/
def restOr (n a w : Nat) : Nat := ofB (fun i => !a.testBit i || w.testBit i) n
def GoodAll (regions per w z1 n1 z2 n2 : Nat) : Prop := ∀ a : Nat, a < 2 ^ (regions * per) → isQ regions per z1 n1 a = true → isQ regions per z2 n2 (restOr (regions * per) a w) = false
theorem good_of_meets {regions per w z1 n1 z2 n2 : Nat} (h : Meets regions per w z1 n1 z2 n2) : GoodAll regions per w z1 n1 z2 n2 := by
  intro a _ h1
  cases h2 : isQ regions per z2 n2 (restOr (regions * per) a w)
  · rfl
  · obtain ⟨i, hi, ha, hb, hw⟩ := h _ _ h1 h2
    unfold restOr at hb
    rw [ofB_bit, ha, hw] at hb
    simp at hb
theorem meets_of_good {regions per w z1 n1 z2 n2 : Nat} (h : GoodAll regions per w z1 n1 z2 n2) : Meets regions per w z1 n1 z2 n2 := by
  intro a b ha hb
  apply Classical.byContradiction
  intro hno
  have e : ∀ i, i < regions * per → a.testBit i = (ofB a.testBit (regions * per)).testBit i := fun i hi => by rw [ofB_bit, decide_eq_true hi]; rfl
  have h1 := h _ (ofB_lt a.testBit (regions * per)) (by rw [← isQ_congr e]; exact ha)
  have h2 := @isQ_mono regions per z2 n2 b (restOr (regions * per) (ofB a.testBit (regions * per)) w) (fun i hi hbi => by
    unfold restOr
    rw [ofB_bit, ← e i hi, decide_eq_true hi]
    cases ha' : a.testBit i
    · rfl
    · cases hw : w.testBit i
      · exact absurd ⟨i, hi, ha', hbi, hw⟩ hno
      · rfl) hb
  rw [h1] at h2
  cases h2
theorem good_iff {regions per w z1 n1 z2 n2 : Nat} (hp : 0 < per) (hz1 : z1 ≤ regions) (hz2 : z2 ≤ regions) (hn1 : n1 ≤ per) (hn2 : n2 ≤ per) : meetsB regions per w z1 n1 z2 n2 = true ↔ GoodAll regions per w z1 n1 z2 n2 :=
  ⟨fun h => good_of_meets (meets_of h), fun h => of_meets hp hz1 hz2 hn1 hn2 (meets_of_good h)⟩
end Go.Proofs.YtfgkgpkaohkehaaGreatDoor.Grids
namespace Go.Proofs.YtfgkgpkaohkehaaGreatDoor
open Go.ChangeShapes Go.WideShapes Go.ChangeAt Go.RowKit
open Grids
set_option linter.unusedVariables false
theorem gupTo_any (n m : Int) (w : World) :
    Calls Tryz.prog 73 #[.int .i64 n, .int .i64 m] w fun e w' => e = .returned (.bool (decide (1 ≤ n ∧ n ≤ m))) ∧ w = w' := by
  have hc : n < 1 ∧ decide (1 ≤ n ∧ n ≤ m) = false ∨ 1 ≤ n ∧ n ≤ m ∧ decide (1 ≤ n ∧ n ≤ m) = true ∨ 1 ≤ n ∧ m < n ∧ decide (1 ≤ n ∧ n ≤ m) = false := by
    simp only [decide_eq_false_iff_not, decide_eq_true_eq]; omega
  rcases hc with ⟨h1, h2⟩ | ⟨h1, h3, h2⟩ | ⟨h1, h3, h2⟩
  all_goals
    rw [h2]; clear h2
    go_enter Tryz.func73, Tryz.ntmps73
    go_wp2
    go_ret
    exact ⟨by first | rfl | (simp <;> omega), rfl⟩
theorem apart_any (a b n f : Int) (w : World) (ha : 0 ≤ a ∧ a ≤ 1000) (hb : 0 ≤ b ∧ b ≤ 1000) (hn : 0 ≤ n ∧ n ≤ 1000) (hf : 0 ≤ f ∧ f ≤ 1000) :
    Calls Tryz.prog 77 #[.int .i64 a, .int .i64 b, .int .i64 n, .int .i64 f] w fun e w' => e = .returned (.bool (decide (a + b ≤ n + f))) ∧ w = w' := by
  obtain ⟨a1, a2⟩ := ha
  obtain ⟨b1, b2⟩ := hb
  obtain ⟨n1, n2⟩ := hn
  obtain ⟨f1, f2⟩ := hf
  go_enter Tryz.func77, Tryz.ntmps77
  go_wp2
  go_ret
  exact ⟨rfl, rfl⟩
theorem between_any (n l h : Int) (w : World) :
    Calls Tryz.prog 70 #[.int .i64 n, .int .i64 l, .int .i64 h] w fun e w' => e = .returned (.bool (decide (l ≤ n ∧ n ≤ h))) ∧ w = w' := by
  have hc : n < l ∧ decide (l ≤ n ∧ n ≤ h) = false ∨ l ≤ n ∧ n ≤ h ∧ decide (l ≤ n ∧ n ≤ h) = true ∨ l ≤ n ∧ h < n ∧ decide (l ≤ n ∧ n ≤ h) = false := by
    simp only [decide_eq_false_iff_not, decide_eq_true_eq]; omega
  rcases hc with ⟨h1, h2⟩ | ⟨h1, h3, h2⟩ | ⟨h1, h3, h2⟩
  all_goals
    rw [h2]; clear h2
    go_enter Tryz.func70, Tryz.ntmps70
    go_wp2
    go_ret
    exact ⟨by first | rfl | (simp <;> omega), rfl⟩
theorem u2 (x : Nat) : (x : Int) / 2 = ((x / 2 : Nat) : Int) := rfl
theorem has_any (x n : Nat) (w : World) (hx : x < 4294967296) (hn : n ≤ 1000) :
    Calls Tryz.prog 71 #[.int .u32 x, .int .i64 n] w fun e w' => e = .returned (.bool (x.testBit n)) ∧ w = w' := by
  obtain ⟨b, hb⟩ : ∃ b, Hid (x.testBit n = b) := ⟨_, Lib.hid rfl⟩
  rw [hb.out]
  go_enter Tryz.func71, Tryz.ntmps71
  go_wp2
  go_loop [0, 5] (fun a i => ∃ k : Nat, k ≤ n ∧ i = .int .i64 k ∧ a = .int .u32 ((x / 2 ^ k : Nat) : Int)) (fun _ i => n - (intOf i).toNat)
  case atStart => exact ⟨0, by omega, rfl, by simp⟩
  case round =>
    obtain ⟨k, hk, rfl, rfl⟩ := hrel
    have hle : x / 2 ^ k ≤ x := Nat.div_le_self _ _
    have E : Hid (x / 2 ^ k / 2 = x / 2 ^ (k + 1)) := Lib.hid (by rw [Nat.pow_succ, Nat.div_div_eq_div_mul])
    have B : Hid (decide (x / 2 ^ k % 2 = 1) = x.testBit k) := Lib.hid (by rw [Nat.testBit_eq_decide_div_mod_eq])
    generalize x / 2 ^ k = y at *
    by_cases hlt : k < n
    · go_wp2
      go_round
      case rel => exact ⟨k + 1, by omega, by go_num, by rw [← E.out]; rfl⟩
      case measure => simp [intOf]; omega
    · obtain rfl : k = n := by omega
      go_wp2
      go_ret
      refine ⟨?_, rfl⟩
      rw [← hb.out, ← B.out]
      congr 2
      show Value.bool ((y : Int) % 2 == 1) = Value.bool (decide (y % 2 = 1))
      congr 1
      rw [Bool.eq_iff_iff]
      simp
      omega
theorem hasKind_any (R P W z1 n1 z2 n2 z n : Int) (w : World) :
    Calls Tryz.prog 74 #[.agg #[.int .i64 R, .int .i64 P, .int .u32 W, .int .i64 z1, .int .i64 n1, .int .i64 z2, .int .i64 n2], .agg #[.int .i64 z, .int .i64 n]] w fun e w' => e = .returned (.bool (decide (1 ≤ z ∧ z ≤ R) && decide (1 ≤ n ∧ n ≤ P))) ∧ Gr w w' := by
  have c1 := Lib.hid (gupTo_any z R)
  have c2 := Lib.hid (gupTo_any n P)
  generalize decide (1 ≤ z ∧ z ≤ R) = a at *
  generalize decide (1 ≤ n ∧ n ≤ P) = b at *
  cases a
  · go_enter Tryz.func74, Tryz.ntmps74
    go_wp2_with fail
    refine (c1.out _).mono ?_
    rintro e w1 ⟨rfl, rfl⟩
    go_wp2
    go_ret
    exact ⟨rfl, ((Gr.refl _).alloc _).alloc _⟩
  · go_enter Tryz.func74, Tryz.ntmps74
    go_wp2_with fail
    refine (c1.out _).mono ?_
    rintro e w1 ⟨rfl, rfl⟩
    go_wp2_with fail
    refine (c2.out _).mono ?_
    rintro e w1 ⟨rfl, rfl⟩
    go_wp2
    go_ret
    exact ⟨rfl, ((Gr.refl _).alloc _).alloc _⟩
end Go.Proofs.YtfgkgpkaohkehaaGreatDoor
namespace Go.Proofs.YtfgkgpkaohkehaaGreatDoor
open Go.ChangeShapes Go.WideShapes Go.ChangeAt Go.RowKit
open Grids
set_option linter.unusedVariables false
set_option linter.unusedSimpArgs false
/-- The table of math/bits in its variable. -/
def TB (w : World) : Prop := TabAt 0 Lib.deBruijn32tab w
theorem TB.gr {w w' : World} (h : TB w) (hg : Gr w w') : TB w' := fun j hj => hg.cell (h j hj)
set_option maxHeartbeats 1000000 in
theorem tz_core (x k idx : Nat) (w : World) (h0 : ((x : Int) == 0) = false)
    (key : bits BinOp.and IntKind.u32 (x : Int) (-(x : Int) % 4294967296) * 125613361 % 4294967296 / 134217728 = (idx : Int))
    (hi : idx < 32) (hk : k < 32) (hcell : w.cell? ⟨0, idx, none⟩ = some (.int .u8 k)) :
    Calls Tryz.prog 49 #[.int .u32 x] w fun e w' => e = .returned (.int .i64 (k : Nat)) ∧ w = w' := by
  go_enter Tryz.func49, Tryz.ntmps49
  go_wp2_with (simp only [key])
  go_ret
  exact ⟨rfl, rfl⟩
theorem tz_any (x : Nat) (w : World) (hx0 : x ≠ 0) (hx : x < 4294967296) (hT : TB w) :
    Calls Tryz.prog 49 #[.int .u32 x] w fun e w' => e = .returned (.int .i64 (Lib.ctz 32 x : Nat)) ∧ w = w' := by
  obtain ⟨hlow, hk⟩ := Lib.lowest_bit 32 x hx0 hx
  obtain ⟨hi, htab⟩ := Lib.deBruijn32_at _ hk
  have hcell := hT _ hi
  rw [htab] at hcell
  exact tz_core x _ _ w (by simp; omega) (tz32_key x _ hx hx0 hlow) hi hk hcell
end Go.Proofs.YtfgkgpkaohkehaaGreatDoor
/- Plain mathematics of counts of bits: a byte's count, a word's count, the mask of a region. No program is imported here. -/
namespace Go.Proofs.YtfgkgpkaohkehaaGreatDoor.Grids
theorem pop8_fin : ∀ n : Fin 256, Lib.pop8 (n.val : Int) = (cnt n.val.testBit 8 : Nat) := by decide +kernel
theorem pop8_cnt (n : Nat) (h : n < 256) : Lib.pop8 (n : Int) = (cnt n.testBit 8 : Nat) := pop8_fin ⟨n, h⟩
theorem cnt_add (f : Nat → Bool) (a : Nat) : ∀ n, cnt f (a + n) = cnt f a + cnt (fun i => f (a + i)) n
  | 0 => rfl
  | n + 1 => by
    show cnt f (a + n) + (if f (a + n) then 1 else 0) = cnt f a + (cnt (fun i => f (a + i)) n + (if f (a + n) then 1 else 0))
    rw [cnt_add f a n, Nat.add_assoc]
theorem byte_cnt (x k : Nat) : cnt (x / 2 ^ k % 256).testBit 8 = cnt (fun i => x.testBit (k + i)) 8 :=
  cnt_congr _ fun i hi => by
    rw [show (256 : Nat) = 2 ^ 8 from rfl, Nat.testBit_mod_two_pow, decide_eq_true hi, Bool.true_and, Nat.testBit_div_two_pow, Nat.add_comm]
theorem pop_word (x : Nat) : cnt x.testBit 32 = cnt (x / 2 ^ 24 % 256).testBit 8 + cnt (x / 2 ^ 16 % 256).testBit 8 + cnt (x / 2 ^ 8 % 256).testBit 8 + cnt (x % 256).testBit 8 := by
  have h1 : cnt x.testBit 32 = cnt x.testBit 24 + cnt (fun i => x.testBit (24 + i)) 8 := cnt_add _ 24 8
  have h2 : cnt x.testBit 24 = cnt x.testBit 16 + cnt (fun i => x.testBit (16 + i)) 8 := cnt_add _ 16 8
  have h3 : cnt x.testBit 16 = cnt x.testBit 8 + cnt (fun i => x.testBit (8 + i)) 8 := cnt_add _ 8 8
  have h4 : cnt (x % 256).testBit 8 = cnt x.testBit 8 := cnt_congr _ fun i hi => by
    rw [show (256 : Nat) = 2 ^ 8 from rfl, Nat.testBit_mod_two_pow, decide_eq_true hi, Bool.true_and]
  rw [byte_cnt, byte_cnt, byte_cnt, h4]
  omega
def mask (p r : Nat) : Nat := (2 ^ p - 1) * 2 ^ (r * p)
theorem mask_bit (p r i : Nat) : (mask p r).testBit i = (decide (r * p ≤ i) && decide (i - r * p < p)) := by
  unfold mask
  rw [Nat.testBit_mul_two_pow, Nat.testBit_two_pow_sub_one]
theorem mask_lt {p r : Nat} (h : r * p + p ≤ 16) : mask p r < 65536 := by
  unfold mask
  have h1 : 2 ^ p * 2 ^ (r * p) ≤ 2 ^ 16 := by rw [← Nat.pow_add]; exact Nat.pow_le_pow_right (by decide) (by omega)
  have h2 : 0 < 2 ^ (r * p) := Nat.pow_pos (by decide)
  have h3 : 0 < 2 ^ p := Nat.pow_pos (by decide)
  rw [Nat.sub_mul, Nat.one_mul]
  have h4 := Nat.le_mul_of_pos_left (2 ^ (r * p)) h3
  omega
theorem pop_region {p r x : Nat} (h : r * p + p ≤ 32) : cnt (x &&& mask p r).testBit 32 = regC p x r := by
  obtain ⟨d, hd⟩ : ∃ d, 32 = r * p + p + d := ⟨32 - (r * p + p), by omega⟩
  rw [hd, cnt_add, cnt_add]
  have e1 : cnt (x &&& mask p r).testBit (r * p) = 0 := by
    rw [cnt_congr (g := fun _ => false) _ fun i hi => by rw [Nat.testBit_and, mask_bit, decide_eq_false (by omega)]; simp, cnt_none]
  have e3 : cnt (fun i => (x &&& mask p r).testBit (r * p + p + i)) d = 0 := by
    rw [cnt_congr (g := fun _ => false) _ fun i hi => by rw [Nat.testBit_and, mask_bit, show decide (r * p + p + i - r * p < p) = false from decide_eq_false (by omega)]; simp, cnt_none]
  have e2 : cnt (fun i => (x &&& mask p r).testBit (r * p + i)) p = regC p x r :=
    cnt_congr _ fun i hi => by
      rw [Nat.testBit_and, mask_bit, decide_eq_true (show r * p ≤ r * p + i by omega), decide_eq_true (show r * p + i - r * p < p by omega)]; simp
  rw [e1, e2, e3]; omega
theorem wraps_u32 (n : Int) (h₀ : 0 ≤ n) (h₁ : n < 2 ^ 32) : IntKind.u32.wrap n = n := by rw [IntKind.wrap_u32]; omega
theorem w32_and (a b : Nat) (ha : a < 4294967296) (hb : b < 4294967296) : bits .and .u32 (a : Int) (b : Int) = ((a &&& b : Nat) : Int) :=
  (bits_nat .u32 32 (by decide) wraps_u32 a b ha hb).1
end Go.Proofs.YtfgkgpkaohkehaaGreatDoor.Grids
