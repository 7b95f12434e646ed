import Derived.Test.YtfgkgpkaohkehaaGreatDoorK2
import Derived.Lib.TrailingZeros
import Derived.Test.YtfgkgpkaohkehaaGreatDoorK1
import Derived.WalkKit
import Derived.ProofKit
import Derived.LoopTactic
import Derived.Outline
import Derived.WalkSpells
import Derived.WalkLawsBesides
import Derived.Lib.Hide
import Derived.Deep.LoopGhost
import Derived.Deep.QuietTactic
import Derived.BigQuiet
import Derived.ShutString
import Derived.IntWalk
import Derived.Laws.AppendOwn
import Derived.Laws.Bits64b
/- Plain mathematics of wanted votes: the least sum of so many numbers out of a row, and what a set of nodes wants to a quorum. No program is imported here. -/
namespace Go.Proofs.YtfgkgpkaohkehaaGreatDoor.Grids
set_option linter.unusedVariables false
/-- The least sum of z numbers out of a row; 1000 if there are not so many. -/
def ld : List Nat → Nat → Nat
  | _, 0 => 0
  | [], _ + 1 => 1000
  | x :: l, z + 1 => min (x + ld l z) (ld l (z + 1))
theorem ld_zero (l : List Nat) : ld l 0 = 0 := by cases l <;> rfl
theorem ld_nil (z : Nat) : ld [] (z + 1) = 1000 := rfl
theorem ld_cons (x : Nat) (l : List Nat) (z : Nat) : ld (x :: l) (z + 1) = min (x + ld l z) (ld l (z + 1)) := rfl
theorem ld_perm {a b : List Nat} (h : a.Perm b) : ∀ z, ld a z = ld b z := by
  induction h with
  | nil => intro z; rfl
  | cons x h ih =>
    intro z
    cases z with
    | zero => rw [ld_zero, ld_zero]
    | succ z => rw [ld_cons, ld_cons, ih, ih]
  | swap x y l =>
    intro z
    cases z with
    | zero => rw [ld_zero, ld_zero]
    | succ z =>
      cases z with
      | zero => simp only [ld_cons, ld_zero]; omega
      | succ z => simp only [ld_cons]; omega
  | trans h k ih jh => intro z; rw [ih, jh]
theorem ld_many : ∀ (l : List Nat) (z : Nat), l.length < z → 1000 ≤ ld l z
  | [], z + 1, _ => Nat.le_refl _
  | x :: l, z + 1, h => by
    simp only [List.length_cons] at h
    have h1 := ld_many l z (by omega)
    have h2 := ld_many l (z + 1) (by omega)
    rw [ld_cons]; omega
theorem ld_sum : ∀ (l : List Nat) (z : Nat), z ≤ l.length → ld l z ≤ l.sum
  | l, 0, _ => by rw [ld_zero]; omega
  | x :: l, z + 1, h => by
    simp only [List.length_cons] at h
    have h1 := ld_sum l z (by omega)
    rw [ld_cons, List.sum_cons]; omega
theorem ld_front {x : Nat} : ∀ (l : List Nat) (z : Nat), (∀ y ∈ l, x ≤ y) → z ≤ l.length → x + l.sum ≤ 1000 → x + ld l z ≤ ld l (z + 1)
  | [], 0, _, _, h => by simp at h; rw [ld_zero, ld_nil]; omega
  | y :: m, 0, h, _, hs => by
    have hy := h y (by simp)
    simp only [List.sum_cons] at hs
    have := ld_front m 0 (fun a ha => h a (by simp [ha])) (by omega) (by omega)
    rw [ld_zero] at *
    rw [ld_cons, ld_zero]; omega
  | y :: m, z + 1, h, hz, hs => by
    have hy := h y (by simp)
    simp only [List.sum_cons] at hs
    simp only [List.length_cons] at hz
    rw [ld_cons, ld_cons]
    rcases Nat.lt_or_ge z m.length with h1 | h1
    · have := ld_front m (z + 1) (fun a ha => h a (by simp [ha])) (by omega) (by omega)
      omega
    · have h2 := ld_many m (z + 1 + 1) (by omega)
      have h3 := ld_sum m z (by omega)
      omega
/-- Of a row in order the first ones. -/
theorem ld_sorted : ∀ (l : List Nat) (z : Nat), l.Pairwise (· ≤ ·) → z ≤ l.length → l.sum ≤ 1000 → (l.take z).sum = ld l z
  | l, 0, _, _, _ => by rw [ld_zero]; simp
  | x :: l, z + 1, hp, hz, hs => by
    simp only [List.length_cons] at hz
    simp only [List.sum_cons] at hs
    rw [List.pairwise_cons] at hp
    have h1 := ld_front l z hp.1 (by omega) hs
    have h2 := ld_sorted l z hp.2 (by omega) (by omega)
    rw [List.take_succ_cons, List.sum_cons, h2, ld_cons]; omega
/-- The least sum of z of the first n values. -/
def lst (g : Nat → Nat) (n z : Nat) : Nat := ld ((List.range n).map g) z
theorem lst_zero (g : Nat → Nat) (n : Nat) : lst g n 0 = 0 := ld_zero _
theorem lst_nil (g : Nat → Nat) (z : Nat) : lst g 0 (z + 1) = 1000 := rfl
theorem lst_succ (g : Nat → Nat) (n z : Nat) : lst g (n + 1) (z + 1) = min (g n + lst g n z) (lst g n (z + 1)) := by
  unfold lst
  rw [List.range_succ, List.map_append, List.map_singleton, ld_perm (List.perm_append_singleton _ _), ld_cons]
theorem lst_many (g : Nat → Nat) (n z : Nat) (h : n < z) : 1000 ≤ lst g n z := ld_many _ _ (by simpa using h)
def sumS (f : Nat → Bool) (g : Nat → Nat) : Nat → Nat
  | 0 => 0
  | n + 1 => sumS f g n + (if f n then g n else 0)
theorem lst_le {f : Nat → Bool} {g : Nat → Nat} : ∀ n z, z ≤ cnt f n → lst g n z ≤ sumS f g n
  | n, 0, _ => by rw [lst_zero]; omega
  | 0, z + 1, h => by simp [cnt] at h
  | n + 1, z + 1, h => by
    unfold cnt at h
    unfold sumS
    rw [lst_succ]
    cases hf : f n
    · rw [hf] at h; simp at h
      have := lst_le (g := g) n (z + 1) h
      simp; omega
    · rw [hf] at h; simp at h
      have := lst_le (g := g) n z h
      simp; omega
theorem sumS_put (f : Nat → Bool) (g : Nat → Nat) (n : Nat) (b : Bool) : ∀ m, m ≤ n → sumS (put f n b) g m = sumS f g m
  | 0, _ => rfl
  | m + 1, h => by unfold sumS; rw [sumS_put f g n b m (by omega), put_of f b (by omega)]
theorem lst_bd {g : Nat → Nat} (hg : ∀ i, g i ≤ 4) : ∀ n z, z ≤ n → lst g n z ≤ 4 * n
  | n, 0, _ => by rw [lst_zero]; omega
  | n + 1, z + 1, h => by
    have := lst_bd hg n z (by omega)
    have := hg n
    rw [lst_succ]; omega
theorem lst_ex {g : Nat → Nat} (hg : ∀ i, g i ≤ 4) : ∀ n z, n ≤ 4 → z ≤ n → ∃ f : Nat → Bool, cnt f n = z ∧ sumS f g n = lst g n z
  | n, 0, _, _ => ⟨fun _ => false, cnt_none n, by
      rw [lst_zero]
      have : ∀ m, sumS (fun _ => false) g m = 0 := by
        intro m; induction m with
        | zero => rfl
        | succ m ih => unfold sumS; rw [ih]; rfl
      exact this n⟩
  | n + 1, z + 1, hn, h => by
    obtain ⟨f, hf1, hf2⟩ := lst_ex hg n z (by omega) (by omega)
    have yes : g n + lst g n z ≤ lst g n (z + 1) → ∃ f : Nat → Bool, cnt f (n + 1) = z + 1 ∧ sumS f g (n + 1) = lst g (n + 1) (z + 1) := by
      intro hle
      refine ⟨put f n true, by rw [cnt_put, hf1]; rfl, ?_⟩
      unfold sumS
      rw [put_at, sumS_put f g n true n (Nat.le_refl _), hf2, lst_succ]; simp; omega
    rcases Nat.lt_or_ge n (z + 1) with h1 | h1
    · have h2 := lst_many g n (z + 1) h1
      have h3 := lst_bd hg n z (by omega)
      have h4 := hg n
      exact yes (by omega)
    · rcases Nat.lt_or_ge (lst g n (z + 1)) (g n + lst g n z) with h2 | h2
      · obtain ⟨f, hf1, hf2⟩ := lst_ex hg n (z + 1) (by omega) h1
        refine ⟨put f n false, by rw [cnt_put, hf1]; rfl, ?_⟩
        unfold sumS
        rw [put_at, sumS_put f g n false n (Nat.le_refl _), hf2, lst_succ]; simp; omega
      · exact yes h2
theorem sumS_le {f : Nat → Bool} {g g' : Nat → Nat} : ∀ n, (∀ i, i < n → f i = true → g i ≤ g' i) → sumS f g n ≤ sumS f g' n
  | 0, _ => Nat.le_refl _
  | n + 1, h => by
    have := sumS_le n fun i hi => h i (by omega)
    have hn := h n (by omega)
    unfold sumS; cases hf : f n
    · simp; omega
    · have := hn hf; simp; omega
theorem sumS_step {f : Nat → Bool} {g g' : Nat → Nat} {r : Nat} (hr : g r ≤ g' r + 1) (ho : ∀ i, i ≠ r → g i ≤ g' i) : ∀ n, sumS f g n ≤ sumS f g' n + 1 := by
    have key : ∀ n, sumS f g n ≤ sumS f g' n + (if r < n then 1 else 0) := by
      intro n
      induction n with
      | zero => simp [sumS]
      | succ n ih =>
        unfold sumS
        by_cases hrn : r = n
        · subst hrn
          rw [if_neg (show ¬ r < r by omega)] at ih
          rw [if_pos (show r < r + 1 by omega)]
          cases f r <;> simp <;> omega
        · have h1 := ho n (by omega)
          rcases Nat.lt_or_ge r n with h2 | h2
          · rw [if_pos h2] at ih
            rw [if_pos (show r < n + 1 by omega)]
            cases f n <;> simp <;> omega
          · rw [if_neg (show ¬ r < n by omega)] at ih
            rw [if_neg (show ¬ r < n + 1 by omega)]
            cases f n
            · simpa using ih
            · simp; omega
    intro n
    have h1 := key n
    have h2 : (if r < n then 1 else 0) ≤ 1 := by split <;> omega
    omega
theorem lst_mono {g g' : Nat → Nat} (hg : ∀ i, g' i ≤ 4) {n z : Nat} (hn : n ≤ 4) (hz : z ≤ n) (h : ∀ i, i < n → g i ≤ g' i) : lst g n z ≤ lst g' n z := by
  obtain ⟨f, h1, h2⟩ := lst_ex hg n z hn hz
  rw [← h2]
  exact Nat.le_trans (lst_le n z (by omega)) (sumS_le n fun i hi _ => h i hi)
theorem lst_step {g g' : Nat → Nat} (hg : ∀ i, g' i ≤ 4) {n z r : Nat} (hn : n ≤ 4) (hz : z ≤ n) (hr : g r ≤ g' r + 1) (ho : ∀ i, i ≠ r → g i ≤ g' i) : lst g n z ≤ lst g' n z + 1 := by
  obtain ⟨f, h1, h2⟩ := lst_ex hg n z hn hz
  rw [← h2]
  exact Nat.le_trans (lst_le n z (by omega)) (sumS_step hr ho n)
theorem sumS_zero {f : Nat → Bool} {g : Nat → Nat} : ∀ n, sumS f g n = 0 ↔ ∀ i, i < n → f i = true → g i = 0
  | 0 => by simp [sumS]
  | n + 1 => by
    have ih := @sumS_zero f g n
    unfold sumS
    constructor
    · intro h i hi hf
      rcases Nat.lt_or_ge i n with h1 | h1
      · exact ih.1 (by omega) i h1 hf
      · obtain rfl : i = n := by omega
        rw [hf] at h; simp at h; omega
    · intro h
      have h1 := ih.2 fun i hi => h i (by omega)
      have h2 := h n (by omega)
      cases hf : f n
      · simp; exact h1
      · simp; exact ⟨h1, h2 hf⟩
theorem lst_none {g : Nat → Nat} (hg : ∀ i, g i ≤ 4) {n z : Nat} (hn : n ≤ 4) (hz : z ≤ n) : lst g n z = 0 ↔ z ≤ cnt (fun i => decide (g i = 0)) n := by
  constructor
  · intro h
    obtain ⟨f, h1, h2⟩ := lst_ex hg n z hn hz
    rw [h] at h2
    rw [← h1]
    exact cnt_mono n fun i hi hf => by rw [decide_eq_true_eq]; exact (sumS_zero n).1 h2 i hi hf
  · intro h
    have := lst_le (g := g) n z h
    rw [(sumS_zero n).2 (fun i _ hf => by rw [decide_eq_true_eq] at hf; exact hf)] at this
    omega
/-- What region r wants to so many nodes. -/
def want (per nodes set r : Nat) : Nat := nodes - regC per set r
/-- How many nodes more a set wants to a quorum. -/
def least (regions per z nodes set : Nat) : Nat := lst (want per nodes set) regions z
theorem want_le {per nodes set : Nat} (h : nodes ≤ 4) (r : Nat) : want per nodes set r ≤ 4 := by unfold want; omega
theorem least_zero {R per z nodes set : Nat} (hR : R ≤ 4) (hz : z ≤ R) (hn : nodes ≤ 4) : least R per z nodes set = 0 ↔ isQ R per z nodes set = true := by
  unfold least isQ
  rw [lst_none (want_le hn) hR hz, decide_eq_true_eq, cnt_congr R fun i _ => show decide (want per nodes set i = 0) = decide (nodes ≤ regC per set i) by unfold want; rw [decide_eq_decide]; omega]
theorem regC_mono {per a b r : Nat} (h : ∀ i, a.testBit i = true → b.testBit i = true) : regC per a r ≤ regC per b r := cnt_mono _ fun i _ => h _
theorem least_mono {R per z nodes a b : Nat} (hR : R ≤ 4) (hz : z ≤ R) (hn : nodes ≤ 4) (h : ∀ i, a.testBit i = true → b.testBit i = true) : least R per z nodes b ≤ least R per z nodes a :=
  lst_mono (want_le hn) hR hz fun i _ => by have := @regC_mono per a b i h; unfold want; omega
theorem least_le {R per z nodes set : Nat} (hR : R ≤ 4) (hz : z ≤ R) (hn : nodes ≤ 4) : least R per z nodes set ≤ 16 := by
  have := lst_bd (want_le (per := per) (set := set) hn) R z hz
  unfold least; omega
/-- With one node more a region has one more. -/
theorem cnt_one {f g : Nat → Bool} {k : Nat} (h : ∀ i, i ≠ k → g i = f i) : ∀ n, cnt g n ≤ cnt f n + (if k < n then 1 else 0)
  | 0 => by simp [cnt]
  | n + 1 => by
    have ih := cnt_one h n
    unfold cnt
    by_cases hk : k = n
    · subst hk
      rw [if_neg (Nat.lt_irrefl k)] at ih
      rw [if_pos (Nat.lt_succ_self k)]
      split <;> split <;> omega
    · rw [h n (by omega)]
      rcases Nat.lt_or_ge k n with h1 | h1
      · rw [if_pos h1] at ih; rw [if_pos (show k < n + 1 by omega)]; omega
      · rw [if_neg (show ¬ k < n by omega)] at ih; rw [if_neg (show ¬ k < n + 1 by omega)]; omega
theorem regC_one {per a n r : Nat} (hp : 0 < per) : regC per (a ||| 2 ^ n) r ≤ regC per a r + (if r = n / per then 1 else 0) := by
  unfold regC
  by_cases hr : r = n / per
  · rw [if_pos hr]
    have := @cnt_one (fun i => a.testBit (r * per + i)) (fun i => (a ||| 2 ^ n).testBit (r * per + i)) (n % per) (fun i hi => by
      simp only [Nat.testBit_or, Nat.testBit_two_pow]
      have : ¬ n = r * per + i := by
        intro e
        have := Nat.div_add_mod n per
        rw [← hr, Nat.mul_comm] at this
        omega
      simp [this]) per
    rw [if_pos (Nat.mod_lt _ hp)] at this
    exact this
  · rw [if_neg hr, Nat.add_zero]
    refine cnt_mono per fun i hi h => ?_
    simp only [Nat.testBit_or, Nat.testBit_two_pow, Bool.or_eq_true, decide_eq_true_eq] at h
    rcases h with h | h
    · exact h
    · exfalso
      apply hr
      rw [h, reg_div hi]
theorem least_step {R per z nodes a n : Nat} (hR : R ≤ 4) (hz : z ≤ R) (hn : nodes ≤ 4) (hp : 0 < per) : least R per z nodes a ≤ least R per z nodes (a ||| 2 ^ n) + 1 :=
  lst_step (want_le hn) (r := n / per) hR hz (by have := @regC_one per a n (n / per) hp; rw [if_pos rfl] at this; unfold want; omega)
    (fun i hi => by have := @regC_one per a n i hp; rw [if_neg hi] at this; unfold want; omega)
theorem regC_or {per a b r : Nat} : regC per (a ||| b) r ≤ regC per a r + regC per b r := by
  unfold regC
  have : ∀ n, cnt (fun i => (a ||| b).testBit (r * per + i)) n ≤ cnt (fun i => a.testBit (r * per + i)) n + cnt (fun i => b.testBit (r * per + i)) n := by
    intro n
    induction n with
    | zero => simp [cnt]
    | succ n ih =>
      unfold cnt
      simp only [Nat.testBit_or] at ih ⊢
      cases a.testBit (r * per + n) <;> cases b.testBit (r * per + n) <;> simp <;> omega
  exact this per
/-- A set's nodes are those of its regions. -/
theorem cnt_regs (per m : Nat) : ∀ R, cnt m.testBit (R * per) = sumS (fun _ => true) (regC per m) R
  | 0 => by rw [Nat.zero_mul]; rfl
  | R + 1 => by
    rw [Nat.add_mul, Nat.one_mul, cnt_add, cnt_regs per m R]
    rfl
theorem sumS_all {f : Nat → Bool} {g : Nat → Nat} : ∀ n, sumS f g n ≤ sumS (fun _ => true) g n
  | 0 => Nat.le_refl _
  | n + 1 => by have := @sumS_all f g n; unfold sumS; split <;> simp <;> omega
/-- No fewer nodes make a quorum. -/
theorem least_bound {R per z nodes set more : Nat} (h : isQ R per z nodes (set ||| more) = true) : least R per z nodes set ≤ cnt more.testBit (R * per) := by
  unfold isQ at h
  rw [decide_eq_true_eq] at h
  rw [cnt_regs]
  refine Nat.le_trans (lst_le R z h) (Nat.le_trans (sumS_le R fun i hi hf => ?_) (sumS_all R))
  rw [decide_eq_true_eq] at hf
  have := @regC_or per set more i
  unfold want; omega
theorem cnt_pick {h : Nat → Bool} : ∀ n k, k ≤ cnt h n → ∃ f : Nat → Bool, (∀ i, f i = true → h i = true) ∧ cnt f n = k
  | n, 0, _ => ⟨fun _ => false, fun _ e => (by cases e), cnt_none n⟩
  | 0, k + 1, hk => by simp [cnt] at hk
  | n + 1, k + 1, hk => by
    unfold cnt at hk
    cases hh : h n
    · rw [hh] at hk; simp at hk
      obtain ⟨f, h1, h2⟩ := cnt_pick n (k + 1) hk
      refine ⟨put f n false, fun i hi => ?_, by rw [cnt_put, h2]; rfl⟩
      unfold put at hi
      split at hi
      · cases hi
      · exact h1 i hi
    · rw [hh] at hk; simp at hk
      obtain ⟨f, h1, h2⟩ := cnt_pick n k hk
      refine ⟨put f n true, fun i hi => ?_, by rw [cnt_put, h2]; rfl⟩
      unfold put at hi
      split at hi
      · rename_i e; rw [e]; exact hh
      · exact h1 i hi
theorem cnt_not (f : Nat → Bool) : ∀ n, cnt f n + cnt (fun i => !f i) n = n
  | 0 => rfl
  | n + 1 => by have := cnt_not f n; unfold cnt; cases f n <;> simp <;> omega
theorem cnt_disj {f g h : Nat → Bool} (hd : ∀ i, g i = true → f i = false) (hh : ∀ i, h i = (f i || g i)) : ∀ n, cnt h n = cnt f n + cnt g n
  | 0 => rfl
  | n + 1 => by
    have ih := @cnt_disj f g h hd hh n
    have hn := hd n
    unfold cnt; rw [hh n, ih]
    cases hf : f n <;> cases hg : g n <;> simp_all <;> omega
/-- And so many make one. -/
theorem least_meets {R per z nodes set : Nat} (hR : R ≤ 4) (hz : z ≤ R) (hn : nodes ≤ 4) (hnp : nodes ≤ per) : ∃ more, more < 2 ^ (R * per) ∧ isQ R per z nodes (set ||| more) = true ∧ cnt more.testBit (R * per) = least R per z nodes set := by
  obtain ⟨f, hf1, hf2⟩ := lst_ex (want_le (per := per) (set := set) hn) R z hR hz
  have hp : ∀ r, ∃ p : Nat → Bool, (∀ i, p i = true → set.testBit (r * per + i) = false) ∧ cnt p per = if f r then want per nodes set r else 0 := by
    intro r
    have h1 := cnt_not (fun i => set.testBit (r * per + i)) per
    have h2 : want per nodes set r ≤ cnt (fun i => !set.testBit (r * per + i)) per := by unfold want regC; omega
    obtain ⟨p, h3, h4⟩ := cnt_pick (h := fun i => !set.testBit (r * per + i)) per (if f r then want per nodes set r else 0) (by split <;> omega)
    exact ⟨p, fun i hi => by have := h3 i hi; simpa using this, h4⟩
  obtain ⟨p, hp'⟩ := Classical.axiomOfChoice hp
  refine ⟨setOf R per p, ofB_lt _ _, ?_, ?_⟩
  · unfold isQ
    rw [decide_eq_true_eq, ← hf1]
    refine cnt_mono R fun r hr hf => ?_
    rw [decide_eq_true_eq]
    have h1 : regC per (set ||| setOf R per p) r = regC per set r + cnt (p r) per := by
      unfold regC
      have e : cnt (fun i => (set ||| setOf R per p).testBit (r * per + i)) per = cnt (fun i => set.testBit (r * per + i) || p r i) per :=
        cnt_congr per fun i hi => by rw [Nat.testBit_or, setOf_bit p hr hi]
      rw [e]
      exact cnt_disj (fun i hi => (hp' r).1 i hi) (fun _ => rfl) per
    rw [h1, (hp' r).2, hf]
    simp only [if_true]
    unfold want; omega
  · rw [cnt_regs]
    show _ = lst _ _ _
    rw [← hf2]
    have : ∀ m, m ≤ R → sumS (fun _ => true) (regC per (setOf R per p)) m = sumS f (want per nodes set) m := by
      intro m
      induction m with
      | zero => intro _; rfl
      | succ m ih =>
        intro hm
        unfold sumS
        rw [ih (by omega), setOf_regC p (by omega), (hp' m).2]; rfl
    exact this R (Nat.le_refl _)
end Go.Proofs.YtfgkgpkaohkehaaGreatDoor.Grids
/- Plain mathematics of sets as lists of nodes. No program is imported here. -/
namespace Go.Proofs.YtfgkgpkaohkehaaGreatDoor.Grids
set_option linter.unusedVariables false
/-- Those of the n numbers from j on that have a mark. -/
def bl (f : Nat → Bool) : Nat → Nat → List Nat
  | 0, _ => []
  | n + 1, j => if f j then j :: bl f n (j + 1) else bl f n (j + 1)
theorem bl_congr {f g : Nat → Bool} : ∀ n j, (∀ i, j ≤ i → f i = g i) → bl f n j = bl g n j
  | 0, _, _ => rfl
  | n + 1, j, h => by unfold bl; rw [h j (Nat.le_refl _), bl_congr n (j + 1) fun i hi => h i (by omega)]
theorem bl_head {f g : Nat → Bool} {k : Nat} (hf : ∀ i, i < k → f i = false) (hk : f k = true) (hg : ∀ i, g i = (f i && decide (i ≠ k))) : ∀ n j, j ≤ k → k < j + n → bl f n j = k :: bl g n j
  | 0, j, h1, h2 => by omega
  | n + 1, j, h1, h2 => by
    rcases Nat.lt_or_ge j k with h | h
    · unfold bl
      rw [hf j h, hg j, hf j h]
      simp only [Bool.false_and, Bool.false_eq_true, if_false]
      exact bl_head hf hk hg n (j + 1) (by omega) (by omega)
    · obtain rfl : j = k := by omega
      unfold bl
      rw [hk, hg j]
      simp only [ne_eq, not_true_eq_false, decide_false, Bool.and_false, Bool.false_eq_true, if_true, if_false]
      rw [bl_congr (f := f) (g := g) n (j + 1) fun i hi => by rw [hg i, decide_eq_true (by omega : i ≠ j), Bool.and_true]]
theorem bl_mem {f : Nat → Bool} : ∀ n j i, i ∈ bl f n j ↔ j ≤ i ∧ i < j + n ∧ f i = true
  | 0, j, i => by simp [bl]; omega
  | n + 1, j, i => by
    unfold bl
    have ih := @bl_mem f n (j + 1) i
    by_cases h : f j = true
    · rw [if_pos h, List.mem_cons, ih]
      constructor
      · rintro (rfl | ⟨h1, h2, h3⟩)
        · exact ⟨by omega, by omega, h⟩
        · exact ⟨by omega, by omega, h3⟩
      · rintro ⟨h1, h2, h3⟩
        by_cases e : i = j
        · exact .inl e
        · exact .inr ⟨by omega, by omega, h3⟩
    · rw [if_neg h, ih]
      constructor
      · rintro ⟨h1, h2, h3⟩; exact ⟨by omega, by omega, h3⟩
      · rintro ⟨h1, h2, h3⟩
        by_cases e : i = j
        · subst e; exact absurd h3 h
        · exact ⟨by omega, by omega, h3⟩
theorem bl_up {f : Nat → Bool} : ∀ n j, (bl f n j).Pairwise (· < ·)
  | 0, _ => List.Pairwise.nil
  | n + 1, j => by
    unfold bl
    split
    · exact List.Pairwise.cons (fun i hi => by have := (bl_mem n (j + 1) i).1 hi; omega) (bl_up n (j + 1))
    · exact bl_up n (j + 1)
theorem bl_len {f : Nat → Bool} : ∀ n j, (bl f n j).length = cnt (fun i => f (j + i)) n
  | 0, _ => rfl
  | n + 1, j => by
    have h := cnt_add (fun i => f (j + i)) 1 n
    rw [Nat.add_comm 1 n] at h
    rw [h]
    have e : cnt (fun i => f (j + (1 + i))) n = cnt (fun i => f (j + 1 + i)) n := cnt_congr n fun i _ => by rw [Nat.add_assoc]
    rw [e, ← bl_len n (j + 1)]
    have e1 : cnt (fun i => f (j + i)) 1 = if f j then 1 else 0 := by simp [cnt]
    rw [e1]
    show (if f j then j :: bl f n (j + 1) else bl f n (j + 1)).length = _
    cases f j
    · simp
    · simp; omega
/-- The nodes of a set in order. -/
def bitsL (x : Nat) : List Nat := bl x.testBit 32 0
theorem bitsL_zero : bitsL 0 = [] := by
  have : ∀ n j, bl (Nat.testBit 0) n j = [] := by
    intro n
    induction n with
    | zero => intro j; rfl
    | succ n ih => intro j; unfold bl; rw [Nat.zero_testBit]; simp [ih]
  exact this 32 0
theorem bitsL_len (x : Nat) : (bitsL x).length = cnt x.testBit 32 := by
  unfold bitsL
  rw [bl_len]
  exact cnt_congr 32 fun i _ => by rw [Nat.zero_add]
theorem bitsL_mem {x i : Nat} (h : i ∈ bitsL x) : i < 32 ∧ x.testBit i = true := by
  have := (bl_mem 32 0 i).1 h
  exact ⟨by omega, this.2.2⟩
theorem bitsL_up (x : Nat) : (bitsL x).Pairwise (· < ·) := bl_up 32 0
theorem less_bit {k m : Nat} (i : Nat) : ((2 ^ k * (2 * m + 1)) &&& (2 ^ k * (2 * m + 1) - 1)).testBit i = ((2 ^ k * (2 * m + 1)).testBit i && decide (i ≠ k)) := by
  have e : 2 ^ k * (2 * m + 1) - 1 = 2 ^ k * (2 * m) + (2 ^ k - 1) := by
    have : 0 < 2 ^ k := Nat.two_pow_pos k
    rw [Nat.mul_add, Nat.mul_one]; omega
  have h0 : 2 ^ k - 1 < 2 ^ k := by have : 0 < 2 ^ k := Nat.two_pow_pos k; omega
  have e1 : (2 ^ k * (2 * m + 1)).testBit i = if i < k then false else (2 * m + 1).testBit (i - k) := by
    have := Nat.testBit_two_pow_mul_add (2 * m + 1) (Nat.two_pow_pos k) i
    rw [Nat.add_zero] at this
    rw [this]; split
    · exact Nat.zero_testBit i
    · rfl
  rw [Nat.testBit_and, e, Nat.testBit_two_pow_mul_add _ h0, e1]
  rcases Nat.lt_trichotomy i k with h | h | h
  · rw [if_pos h]; rfl
  · subst h
    rw [if_neg (Nat.lt_irrefl _), if_neg (Nat.lt_irrefl _), Nat.sub_self, Nat.testBit_zero, Nat.testBit_zero]
    simp
  · rw [if_neg (by omega), if_neg (by omega)]
    obtain ⟨d, hd⟩ : ∃ d, i - k = d + 1 := ⟨i - k - 1, by omega⟩
    rw [hd, Nat.testBit_succ, Nat.testBit_succ, show (2 * m + 1) / 2 = m by omega, show 2 * m / 2 = m by omega, decide_eq_true (by omega : i ≠ k)]
    simp
/-- The least node first, then the others. -/
theorem bitsL_step {x : Nat} (h0 : x ≠ 0) (hx : x < 4294967296) : bitsL x = Lib.ctz 32 x :: bitsL (x &&& (x - 1)) := by
  obtain ⟨m, hm, hk⟩ := Lib.ctzFrom_spec 32 x (by omega) hx
  have e : Lib.ctz 32 x = Lib.ctzFrom 32 x := by unfold Lib.ctz; rw [if_neg h0]
  rw [e]
  generalize Lib.ctzFrom 32 x = k at *
  subst hm
  refine bl_head (fun i hi => ?_) ?_ (fun i => less_bit i) 32 0 (by omega) (by omega)
  · have := Nat.testBit_two_pow_mul_add (2 * m + 1) (Nat.two_pow_pos k) i
    rw [Nat.add_zero] at this
    rw [this, if_pos hi]; exact Nat.zero_testBit i
  · have := Nat.testBit_two_pow_mul_add (2 * m + 1) (Nat.two_pow_pos k) k
    rw [Nat.add_zero] at this
    rw [this, if_neg (Nat.lt_irrefl _), Nat.sub_self, Nat.testBit_zero]
    simp
theorem snoc_ind {α : Type} {P : List α → Prop} (h0 : P []) (hs : ∀ l x, P l → P (l ++ [x])) (l : List α) : P l := by
  have : ∀ r : List α, P r.reverse := by
    intro r
    induction r with
    | nil => exact h0
    | cons x r ih => rw [List.reverse_cons]; exact hs _ _ ih
  have h := this l.reverse
  rwa [List.reverse_reverse] at h
/-- A node's own set; none of a number that is no node. -/
def one (n : Int) : Nat := if 0 ≤ n ∧ n < 32 then 2 ^ n.toNat else 0
def setL (l : List Int) : Nat := l.foldl (fun a n => a ||| one n) 0
theorem one_lt (n : Int) : one n < 4294967296 := by
  unfold one; split
  · exact Nat.lt_of_lt_of_le (Nat.pow_lt_pow_right (by decide) (show n.toNat < 32 by omega)) (by decide)
  · decide
theorem setL_snoc (l : List Int) (n : Int) : setL (l ++ [n]) = setL l ||| one n := by unfold setL; rw [List.foldl_append]; rfl
theorem setL_lt (l : List Int) : setL l < 4294967296 := by
  refine snoc_ind (P := fun l => setL l < 4294967296) (by decide) (fun l n ih => ?_) l
  rw [setL_snoc]; exact Nat.or_lt_two_pow (n := 32) ih (one_lt n)
theorem one_bit {n : Int} {i : Nat} : (one n).testBit i = decide (0 ≤ n ∧ n < 32 ∧ n = (i : Int)) := by
  unfold one; split
  · rename_i h
    rw [Nat.testBit_two_pow, decide_eq_decide]; omega
  · rename_i h
    rw [Nat.zero_testBit, eq_comm, decide_eq_false_iff_not]; omega
theorem setL_bit (l : List Int) (i : Nat) : (setL l).testBit i = true ↔ i < 32 ∧ (i : Int) ∈ l := by
  refine snoc_ind (P := fun l => (setL l).testBit i = true ↔ i < 32 ∧ (i : Int) ∈ l) (by simp [setL]) (fun l n ih => ?_) l
  · rw [setL_snoc, Nat.testBit_or, Bool.or_eq_true, ih, one_bit, decide_eq_true_eq, List.mem_append, List.mem_singleton]
    constructor
    · rintro (⟨h1, h2⟩ | ⟨h1, h2, h3⟩)
      · exact ⟨h1, .inl h2⟩
      · exact ⟨by omega, .inr h3.symm⟩
    · rintro ⟨h1, h2 | h2⟩
      · exact .inl ⟨h1, h2⟩
      · exact .inr ⟨by omega, by omega, h2.symm⟩
theorem cnt_setL (l : List Int) : cnt (setL l).testBit 32 ≤ l.length := by
  refine snoc_ind (P := fun l => cnt (setL l).testBit 32 ≤ l.length) (by decide +kernel) (fun l n ih => ?_) l
  · rw [setL_snoc, List.length_append]
    have h := @cnt_one (setL l).testBit (setL l ||| one n).testBit n.toNat (fun i hi => by
      rw [Nat.testBit_or, one_bit, decide_eq_false (by omega), Bool.or_false]) 32
    have h2 : (if n.toNat < 32 then 1 else 0) ≤ 1 := by split <;> omega
    simp only [List.length_singleton]
    omega
/-- A set is that of its nodes. -/
theorem setL_bitsL {x : Nat} (hx : x < 4294967296) : setL ((bitsL x).map fun n : Nat => (n : Int)) = x := by
  apply Nat.eq_of_testBit_eq
  intro i
  rw [Bool.eq_iff_iff, setL_bit]
  constructor
  · rintro ⟨h1, h2⟩
    obtain ⟨j, hj, e⟩ := List.mem_map.1 h2
    obtain rfl : j = i := by omega
    exact (bitsL_mem hj).2
  · intro h
    have hlt : i < 32 := by
      apply Nat.lt_of_not_le
      intro hle
      rw [Nat.testBit_lt_two_pow (Nat.lt_of_lt_of_le hx (Nat.pow_le_pow_right (n := 2) (by decide) hle))] at h
      cases h
    exact ⟨hlt, List.mem_map.2 ⟨i, (bl_mem 32 0 i).2 ⟨by omega, by omega, h⟩, rfl⟩⟩
end Go.Proofs.YtfgkgpkaohkehaaGreatDoor.Grids
namespace Go.Proofs.YtfgkgpkaohkehaaGreatDoor
open Go.ChangeShapes Go.WideShapes Go.ChangeAt Go.RowKit
open Grids
set_option linter.unusedVariables false
set_option linter.unusedSimpArgs false
theorem w32_or (a b : Nat) (ha : a < 4294967296) (hb : b < 4294967296) : bits .or .u32 (a : Int) (b : Int) = ((a ||| b : Nat) : Int) :=
  (bits_nat .u32 32 (by decide) wraps_u32 a b ha hb).2
theorem set_step {l : List Int} {k : Nat} (h : k < l.length) : setL (l.take (k + 1)) = setL (l.take k) ||| one l[k] := by
  rw [List.take_succ_eq_append_getElem h, setL_snoc]
theorem one_in {n : Nat} (h : n < 32) : one (n : Int) = 2 ^ n := by unfold one; rw [if_pos (by omega)]; rfl
theorem one_out {z : Int} (h : z < 0 ∨ 32 ≤ z) : one z = 0 := by unfold one; rw [if_neg (by omega)]
set_option maxHeartbeats 1000000 in
theorem gset_any (l : List Int) (a : Option Addr) (cap : Nat) (w : World) (h : Ints w a l) :
    Calls Tryz.prog 39 #[.slice a l.length cap] w fun e w' => e = .returned (.int .u32 (setL l : Nat)) ∧ w = w' := by
  obtain ⟨hl, -, hc⟩ := h
  have HE := Lib.hid (show setL l = setL (l.take l.length) by rw [List.take_length])
  go_enter Tryz.func39, Tryz.ntmps39
  go_wp2
  go_loop [3, 8] (fun v i => ∃ k : Nat, k ≤ l.length ∧ i = .int .i64 (k : Nat) ∧ v = .int .u32 (setL (l.take k) : Nat)) (fun _ i => l.length - (intOf i).toNat)
  case atStart => exact ⟨0, by omega, rfl, rfl⟩
  case round =>
    obtain ⟨k, hk, rfl, rfl⟩ := hrel
    by_cases hlt : k < l.length
    · obtain ⟨b, off, rfl, hcc⟩ := hc.resolve_left (by intro e; rw [e] at hlt; simp at hlt)
      have c0 := hcc k hlt
      have HS := Lib.hid (set_step hlt)
      have hsl := setL_lt (l.take k)
      clear hcc hc
      generalize l[k] = z at *
      generalize setL (l.take k) = s at *
      rcases (show z < 0 ∨ 32 ≤ z ∨ 0 ≤ z ∧ z < 32 by omega) with hz | hz | ⟨hz0, hz⟩
      · have E := Lib.hid (show s ||| one z = s by rw [one_out (.inl hz), Nat.or_zero])
        go_wp2
        go_round
        case rel => exact ⟨k + 1, by omega, by go_num, by rw [HS.out, E.out]⟩
        case measure => simp [intOf]; omega
      · have E := Lib.hid (show s ||| one z = s by rw [one_out (.inr hz), Nat.or_zero])
        go_wp2
        go_round
        case rel => exact ⟨k + 1, by omega, by go_num, by rw [HS.out, E.out]⟩
        case measure => simp [intOf]; omega
      · obtain ⟨n, rfl⟩ := Int.eq_ofNat_of_zero_le hz0
        have hn : n < 32 := by omega
        have hp : 2 ^ n < 4294967296 := Nat.lt_of_lt_of_le (Nat.pow_lt_pow_right (by decide) hn) (by decide)
        have hw := w32_or s (2 ^ n) hsl hp
        have hx : (2 : Int) ^ n % 4294967296 = ((2 ^ n : Nat) : Int) := by
          obtain ⟨m, e1, e2⟩ : ∃ m : Nat, 2 ^ n = m ∧ (2 : Int) ^ n = (m : Int) := ⟨2 ^ n, rfl, by simp⟩
          rw [e1] at hp ⊢; rw [e2]; omega
        rw [← hx] at hw
        clear hx
        have HW := Lib.hid hw
        clear hw
        have E := Lib.hid (show s ||| one (n : Int) = s ||| 2 ^ n by rw [one_in hn])
        clear hp
        go_wp2
        go_round
        case rel => exact ⟨k + 1, by omega, by go_num, by rw [HS.out, E.out, ← HW.out]⟩
        case measure => simp [intOf]; omega
    · obtain rfl : k = l.length := by omega
      go_wp2
      go_ret
      exact ⟨by rw [HE.out]; rfl, rfl⟩
/-- Nodes as numbers. -/
def ints (P : List Nat) : List Int := P.map fun n : Nat => (n : Int)
theorem ints_of_row {w : World} {base : Nat} {e : TypeId} {v : Value} {n : Nat} {l : List Int} (h : w.ownsRow base e 1 v n (l.map (Value.int .i64))) (hz : ∀ z ∈ l, (Lit.int .i64 z).wf = true) (hl : l.length ≤ 9223372036854775807) :
    ∃ a cap, v = .slice a n cap ∧ n = l.length ∧ Ints w a l := by
  have hn : n = l.length := by have := h.1; simpa using this.symm
  subst hn
  obtain ⟨a, cap, rfl, h1⟩ := ownsRow_slice h
  refine ⟨a, cap, rfl, rfl, hl, hz, ?_⟩
  rcases h1 with ⟨rfl, h0⟩ | ⟨g, rfl, _, hc⟩
  · exact .inl (List.length_eq_zero_iff.1 h0)
  · refine .inr ⟨g, 0, rfl, fun i hi => ?_⟩
    simp only [Nat.zero_add]
    exact hc i _ (by simp [hi])
theorem info_int : (Tryz.prog.info? 3).map (fun i => (i.zero, i.size, i.bytes)) = some (some (.int .i64 0), 1, 8) := by kernel_rfl
theorem ints_wf {P : List Nat} (h : ∀ n ∈ P, n < 32) : ∀ z ∈ ints P, (Lit.int .i64 z).wf = true := by
  intro z hz
  obtain ⟨n, hn, rfl⟩ := List.mem_map.1 hz
  have := h n hn
  simp [Lit.wf, IntKind.min, IntKind.max, IntKind.signed, IntKind.bits]
  omega
theorem and_less {y : Nat} (h : y ≠ 0) : y &&& (y - 1) < y := Nat.lt_of_le_of_lt Nat.and_le_right (by omega)
def ListIs (x : Nat) (w : World) (e : Ending) (w' : World) : Prop := ∃ a cap, e = .returned (.slice a (ints (bitsL x)).length cap) ∧ Ints w' a (ints (bitsL x)) ∧ Gr w w'
theorem listIs_mk {x : Nat} {P : List Nat} {v : Value} {w w' : World} (hP : P = bitsL x) (ho : w'.ownsRow w.heap.size 3 1 v P.length ((ints P).map (Value.int .i64))) (hg : Gr w w') : ListIs x w (.returned v) w' := by
  subst hP
  have hl : (ints (bitsL x)).length ≤ 9223372036854775807 := by
    have h1 := bitsL_len x
    have h2 := cnt_le x.testBit 32
    simp [ints]; omega
  obtain ⟨a, cap, rfl, hn, hi⟩ := ints_of_row ho (ints_wf fun n hn => (bitsL_mem hn).1) hl
  exact ⟨a, cap, by rw [hn], hi, hg⟩
set_option maxRecDepth 100000 in
set_option maxHeartbeats 1000000 in
theorem list_any (x : Nat) (w : World) (hx : x < 4294967296) (hT : TB w) : Calls Tryz.prog 21 #[.int .u32 x] w (ListIs x w) := by
  obtain ⟨i0, hi, hz0, hz1, hz2⟩ := info_parts info_int
  have HT := Lib.hid hT
  clear hT
  go_enter Tryz.func21, Tryz.ntmps21
  go_wp2
  go_loopw [3, 0] (fun v s wr => ∃ (P : List Nat) (y : Nat), y < 4294967296 ∧ s = .int .u32 (y : Nat) ∧ Hid (P ++ bitsL y = bitsL x) ∧ wr.ownsRow w.heap.size 3 1 v P.length ((ints P).map (Value.int .i64)) ∧ Hid (Gr w wr)) (fun _ s _ => (intOf s).toNat)
  case atStart => exact ⟨[], x, hx, rfl, Lib.hid rfl, World.ownsRow_nil _ _ _ _, Lib.hid (Gr.refl _)⟩
  case round =>
    obtain ⟨P, y, hy, rfl, hP, hown, hG⟩ := hrel
    by_cases hy0 : y = 0
    · subst hy0
      have HP := Lib.hid (show P = bitsL x by have := hP.out; rwa [bitsL_zero, List.append_nil] at this)
      go_wp2
      go_ret
      exact listIs_mk HP.out hown hG.out
    · have t0 : ((y : Int) != 0) = true := by simp; omega
      have hPl : P.length ≤ 32 := by
        have h1 := congrArg List.length hP.out
        have h2 := bitsL_len x
        have h3 := cnt_le x.testBit 32
        rw [List.length_append] at h1; omega
      have TZ := Lib.hid (tz_any y wr hy0 hy (HT.out.gr hG.out))
      have HB := Lib.hid (bitsL_step hy0 hy)
      have HL := Lib.hid (and_less hy0)
      have HA := Lib.hid (w32_and y (y - 1) hy (by omega))
      have hc32 : Lib.ctz 32 y < 32 := (Lib.lowest_bit 32 y hy0 hy).2
      have y1 : ((y : Int) - 1) = ((y - 1 : Nat) : Int) := by omega
      have HY := Lib.hid y1
      have hy1 : 1 ≤ y := by omega
      clear y1 hy0
      generalize hc : Lib.ctz 32 y = c at *
      clear hc
      go_wp2_with fail
      refine TZ.out.mono ?_
      rintro e w2 ⟨rfl, rfl⟩
      go_wp2_with (at_builtin; refine wpList_append_own _ rfl (.tmp 10) (.tmp 13) 61 rfl w.heap.size 3 i0 (.int .i64 0) 1 8 Tryz.underlying61 hi hz0 hz1 hz2 rfl (by decide) _ _ _ rfl (hown.alloc _) ⟨wr.heap.size, 0, none⟩ 1 1 [.int .i64 (c : Nat)] rfl rfl ?c1 ?c2 ?c3 ?c4 ?c5 ?_)
      case c1 => intro j u hj; obtain ⟨hj1, hj2⟩ := List.getElem?_eq_some_iff.1 hj; simp at hj1; subst hj1; simp at hj2; subst hj2; exact new_cell rfl rfl
      case c2 => intro u hu; simp at hu; rcases hu with rfl; rfl
      case c3 => unfold maxLen; omega
      case c4 => omega
      case c5 => have := hG.out.size; simp; omega
      · intro v' w3 hown3 hgrow _
        have hg3 := Lib.hid ((hG.out.alloc _).append (hown.alloc _) hgrow)
        clear hgrow hown
        go_wp2
        go_roundw
        case rel =>
          refine ⟨P ++ [c], y &&& (y - 1), Nat.lt_trans HL.out hy, ?_, ?_, ?_, hg3⟩
          · rw [← HA.out, ← HY.out]
          · exact Lib.hid (by rw [List.append_assoc]; have := hP.out; rw [HB.out] at this; exact this)
          · have := hown3
            simpa [ints] using this
        case measure => simp only [intOf]; rw [HY.out, HA.out]; have := HL.out; omega
end Go.Proofs.YtfgkgpkaohkehaaGreatDoor
