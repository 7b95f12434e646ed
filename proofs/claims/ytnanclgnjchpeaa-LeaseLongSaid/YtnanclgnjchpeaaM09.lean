/- Plain mathematics of wanted votes: the least sum of so many numbers out of a row, and what a set of nodes wants to a quorum. No program is imported here. -/
import Derived.Test.YtnanclgnjchpeaaM07b
namespace Go.Proofs.Ytnanclgnjchpeaa.Grids
set_option linter.unusedVariables false
/-- The least sum of z numbers out of a row; 1000 if there are not so many. -/
def ld : List Nat → Nat → Nat
  | _, 0 => 0
  | [], _ + 1 => 1000
  | x :: l, z + 1 => min (x + ld l z) (ld l (z + 1))
theorem ld_zero (l : List Nat) : ld l 0 = 0 := by cases l <;> rfl
theorem ld_nil (z : Nat) : ld [] (z + 1) = 1000 := rfl
theorem ld_cons (x : Nat) (l : List Nat) (z : Nat) : ld (x :: l) (z + 1) = min (x + ld l z) (ld l (z + 1)) := rfl
theorem ld_perm {a b : List Nat} (h : a.Perm b) : ∀ z, ld a z = ld b z := by
  induction h with
  | nil => intro z; rfl
  | cons x h ih =>
    intro z
    cases z with
    | zero => rw [ld_zero, ld_zero]
    | succ z => rw [ld_cons, ld_cons, ih, ih]
  | swap x y l =>
    intro z
    cases z with
    | zero => rw [ld_zero, ld_zero]
    | succ z =>
      cases z with
      | zero => simp only [ld_cons, ld_zero]; omega
      | succ z => simp only [ld_cons]; omega
  | trans h k ih jh => intro z; rw [ih, jh]
theorem ld_many : ∀ (l : List Nat) (z : Nat), l.length < z → 1000 ≤ ld l z
  | [], z + 1, _ => Nat.le_refl _
  | x :: l, z + 1, h => by
    simp only [List.length_cons] at h
    have h1 := ld_many l z (by omega)
    have h2 := ld_many l (z + 1) (by omega)
    rw [ld_cons]; omega
theorem ld_sum : ∀ (l : List Nat) (z : Nat), z ≤ l.length → ld l z ≤ l.sum
  | l, 0, _ => by rw [ld_zero]; omega
  | x :: l, z + 1, h => by
    simp only [List.length_cons] at h
    have h1 := ld_sum l z (by omega)
    rw [ld_cons, List.sum_cons]; omega
theorem ld_front {x : Nat} : ∀ (l : List Nat) (z : Nat), (∀ y ∈ l, x ≤ y) → z ≤ l.length → x + l.sum ≤ 1000 → x + ld l z ≤ ld l (z + 1)
  | [], 0, _, _, h => by simp at h; rw [ld_zero, ld_nil]; omega
  | y :: m, 0, h, _, hs => by
    have hy := h y (by simp)
    simp only [List.sum_cons] at hs
    have := ld_front m 0 (fun a ha => h a (by simp [ha])) (by omega) (by omega)
    rw [ld_zero] at *
    rw [ld_cons, ld_zero]; omega
  | y :: m, z + 1, h, hz, hs => by
    have hy := h y (by simp)
    simp only [List.sum_cons] at hs
    simp only [List.length_cons] at hz
    rw [ld_cons, ld_cons]
    rcases Nat.lt_or_ge z m.length with h1 | h1
    · have := ld_front m (z + 1) (fun a ha => h a (by simp [ha])) (by omega) (by omega)
      omega
    · have h2 := ld_many m (z + 1 + 1) (by omega)
      have h3 := ld_sum m z (by omega)
      omega
/-- Of a row in order the first ones. -/
theorem ld_sorted : ∀ (l : List Nat) (z : Nat), l.Pairwise (· ≤ ·) → z ≤ l.length → l.sum ≤ 1000 → (l.take z).sum = ld l z
  | l, 0, _, _, _ => by rw [ld_zero]; simp
  | x :: l, z + 1, hp, hz, hs => by
    simp only [List.length_cons] at hz
    simp only [List.sum_cons] at hs
    rw [List.pairwise_cons] at hp
    have h1 := ld_front l z hp.1 (by omega) hs
    have h2 := ld_sorted l z hp.2 (by omega) (by omega)
    rw [List.take_succ_cons, List.sum_cons, h2, ld_cons]; omega
/-- The least sum of z of the first n values. -/
def lst (g : Nat → Nat) (n z : Nat) : Nat := ld ((List.range n).map g) z
theorem lst_zero (g : Nat → Nat) (n : Nat) : lst g n 0 = 0 := ld_zero _
theorem lst_nil (g : Nat → Nat) (z : Nat) : lst g 0 (z + 1) = 1000 := rfl
theorem lst_succ (g : Nat → Nat) (n z : Nat) : lst g (n + 1) (z + 1) = min (g n + lst g n z) (lst g n (z + 1)) := by
  unfold lst
  rw [List.range_succ, List.map_append, List.map_singleton, ld_perm (List.perm_append_singleton _ _), ld_cons]
theorem lst_many (g : Nat → Nat) (n z : Nat) (h : n < z) : 1000 ≤ lst g n z := ld_many _ _ (by simpa using h)
def sumS (f : Nat → Bool) (g : Nat → Nat) : Nat → Nat
  | 0 => 0
  | n + 1 => sumS f g n + (if f n then g n else 0)
theorem lst_le {f : Nat → Bool} {g : Nat → Nat} : ∀ n z, z ≤ cnt f n → lst g n z ≤ sumS f g n
  | n, 0, _ => by rw [lst_zero]; omega
  | 0, z + 1, h => by simp [cnt] at h
  | n + 1, z + 1, h => by
    unfold cnt at h
    unfold sumS
    rw [lst_succ]
    cases hf : f n
    · rw [hf] at h; simp at h
      have := lst_le (g := g) n (z + 1) h
      simp; omega
    · rw [hf] at h; simp at h
      have := lst_le (g := g) n z h
      simp; omega
theorem sumS_put (f : Nat → Bool) (g : Nat → Nat) (n : Nat) (b : Bool) : ∀ m, m ≤ n → sumS (put f n b) g m = sumS f g m
  | 0, _ => rfl
  | m + 1, h => by unfold sumS; rw [sumS_put f g n b m (by omega), put_of f b (by omega)]
theorem lst_bd {g : Nat → Nat} (hg : ∀ i, g i ≤ 4) : ∀ n z, z ≤ n → lst g n z ≤ 4 * n
  | n, 0, _ => by rw [lst_zero]; omega
  | n + 1, z + 1, h => by
    have := lst_bd hg n z (by omega)
    have := hg n
    rw [lst_succ]; omega
theorem lst_ex {g : Nat → Nat} (hg : ∀ i, g i ≤ 4) : ∀ n z, n ≤ 4 → z ≤ n → ∃ f : Nat → Bool, cnt f n = z ∧ sumS f g n = lst g n z
  | n, 0, _, _ => ⟨fun _ => false, cnt_none n, by
      rw [lst_zero]
      have : ∀ m, sumS (fun _ => false) g m = 0 := by
        intro m; induction m with
        | zero => rfl
        | succ m ih => unfold sumS; rw [ih]; rfl
      exact this n⟩
  | n + 1, z + 1, hn, h => by
    obtain ⟨f, hf1, hf2⟩ := lst_ex hg n z (by omega) (by omega)
    have yes : g n + lst g n z ≤ lst g n (z + 1) → ∃ f : Nat → Bool, cnt f (n + 1) = z + 1 ∧ sumS f g (n + 1) = lst g (n + 1) (z + 1) := by
      intro hle
      refine ⟨put f n true, by rw [cnt_put, hf1]; rfl, ?_⟩
      unfold sumS
      rw [put_at, sumS_put f g n true n (Nat.le_refl _), hf2, lst_succ]; simp; omega
    rcases Nat.lt_or_ge n (z + 1) with h1 | h1
    · have h2 := lst_many g n (z + 1) h1
      have h3 := lst_bd hg n z (by omega)
      have h4 := hg n
      exact yes (by omega)
    · rcases Nat.lt_or_ge (lst g n (z + 1)) (g n + lst g n z) with h2 | h2
      · obtain ⟨f, hf1, hf2⟩ := lst_ex hg n (z + 1) (by omega) h1
        refine ⟨put f n false, by rw [cnt_put, hf1]; rfl, ?_⟩
        unfold sumS
        rw [put_at, sumS_put f g n false n (Nat.le_refl _), hf2, lst_succ]; simp; omega
      · exact yes h2
theorem sumS_le {f : Nat → Bool} {g g' : Nat → Nat} : ∀ n, (∀ i, i < n → f i = true → g i ≤ g' i) → sumS f g n ≤ sumS f g' n
  | 0, _ => Nat.le_refl _
  | n + 1, h => by
    have := sumS_le n fun i hi => h i (by omega)
    have hn := h n (by omega)
    unfold sumS; cases hf : f n
    · simp; omega
    · have := hn hf; simp; omega
theorem sumS_step {f : Nat → Bool} {g g' : Nat → Nat} {r : Nat} (hr : g r ≤ g' r + 1) (ho : ∀ i, i ≠ r → g i ≤ g' i) : ∀ n, sumS f g n ≤ sumS f g' n + 1 := by
    have key : ∀ n, sumS f g n ≤ sumS f g' n + (if r < n then 1 else 0) := by
      intro n
      induction n with
      | zero => simp [sumS]
      | succ n ih =>
        unfold sumS
        by_cases hrn : r = n
        · subst hrn
          rw [if_neg (show ¬ r < r by omega)] at ih
          rw [if_pos (show r < r + 1 by omega)]
          cases f r <;> simp <;> omega
        · have h1 := ho n (by omega)
          rcases Nat.lt_or_ge r n with h2 | h2
          · rw [if_pos h2] at ih
            rw [if_pos (show r < n + 1 by omega)]
            cases f n <;> simp <;> omega
          · rw [if_neg (show ¬ r < n by omega)] at ih
            rw [if_neg (show ¬ r < n + 1 by omega)]
            cases f n
            · simpa using ih
            · simp; omega
    intro n
    have h1 := key n
    have h2 : (if r < n then 1 else 0) ≤ 1 := by split <;> omega
    omega
theorem lst_mono {g g' : Nat → Nat} (hg : ∀ i, g' i ≤ 4) {n z : Nat} (hn : n ≤ 4) (hz : z ≤ n) (h : ∀ i, i < n → g i ≤ g' i) : lst g n z ≤ lst g' n z := by
  obtain ⟨f, h1, h2⟩ := lst_ex hg n z hn hz
  rw [← h2]
  exact Nat.le_trans (lst_le n z (by omega)) (sumS_le n fun i hi _ => h i hi)
theorem lst_step {g g' : Nat → Nat} (hg : ∀ i, g' i ≤ 4) {n z r : Nat} (hn : n ≤ 4) (hz : z ≤ n) (hr : g r ≤ g' r + 1) (ho : ∀ i, i ≠ r → g i ≤ g' i) : lst g n z ≤ lst g' n z + 1 := by
  obtain ⟨f, h1, h2⟩ := lst_ex hg n z hn hz
  rw [← h2]
  exact Nat.le_trans (lst_le n z (by omega)) (sumS_step hr ho n)
theorem sumS_zero {f : Nat → Bool} {g : Nat → Nat} : ∀ n, sumS f g n = 0 ↔ ∀ i, i < n → f i = true → g i = 0
  | 0 => by simp [sumS]
  | n + 1 => by
    have ih := @sumS_zero f g n
    unfold sumS
    constructor
    · intro h i hi hf
      rcases Nat.lt_or_ge i n with h1 | h1
      · exact ih.1 (by omega) i h1 hf
      · obtain rfl : i = n := by omega
        rw [hf] at h; simp at h; omega
    · intro h
      have h1 := ih.2 fun i hi => h i (by omega)
      have h2 := h n (by omega)
      cases hf : f n
      · simp; exact h1
      · simp; exact ⟨h1, h2 hf⟩
theorem lst_none {g : Nat → Nat} (hg : ∀ i, g i ≤ 4) {n z : Nat} (hn : n ≤ 4) (hz : z ≤ n) : lst g n z = 0 ↔ z ≤ cnt (fun i => decide (g i = 0)) n := by
  constructor
  · intro h
    obtain ⟨f, h1, h2⟩ := lst_ex hg n z hn hz
    rw [h] at h2
    rw [← h1]
    exact cnt_mono n fun i hi hf => by rw [decide_eq_true_eq]; exact (sumS_zero n).1 h2 i hi hf
  · intro h
    have := lst_le (g := g) n z h
    rw [(sumS_zero n).2 (fun i _ hf => by rw [decide_eq_true_eq] at hf; exact hf)] at this
    omega
/-- What region r wants to so many nodes. -/
def want (per nodes set r : Nat) : Nat := nodes - regC per set r
/-- How many nodes more a set wants to a quorum. -/
def least (regions per z nodes set : Nat) : Nat := lst (want per nodes set) regions z
theorem want_le {per nodes set : Nat} (h : nodes ≤ 4) (r : Nat) : want per nodes set r ≤ 4 := by unfold want; omega
theorem least_zero {R per z nodes set : Nat} (hR : R ≤ 4) (hz : z ≤ R) (hn : nodes ≤ 4) : least R per z nodes set = 0 ↔ isQ R per z nodes set = true := by
  unfold least isQ
  rw [lst_none (want_le hn) hR hz, decide_eq_true_eq, cnt_congr R fun i _ => show decide (want per nodes set i = 0) = decide (nodes ≤ regC per set i) by unfold want; rw [decide_eq_decide]; omega]
theorem regC_mono {per a b r : Nat} (h : ∀ i, a.testBit i = true → b.testBit i = true) : regC per a r ≤ regC per b r := cnt_mono _ fun i _ => h _
theorem least_mono {R per z nodes a b : Nat} (hR : R ≤ 4) (hz : z ≤ R) (hn : nodes ≤ 4) (h : ∀ i, a.testBit i = true → b.testBit i = true) : least R per z nodes b ≤ least R per z nodes a :=
  lst_mono (want_le hn) hR hz fun i _ => by have := @regC_mono per a b i h; unfold want; omega
theorem least_le {R per z nodes set : Nat} (hR : R ≤ 4) (hz : z ≤ R) (hn : nodes ≤ 4) : least R per z nodes set ≤ 16 := by
  have := lst_bd (want_le (per := per) (set := set) hn) R z hz
  unfold least; omega
/-- With one node more a region has one more. -/
theorem cnt_one {f g : Nat → Bool} {k : Nat} (h : ∀ i, i ≠ k → g i = f i) : ∀ n, cnt g n ≤ cnt f n + (if k < n then 1 else 0)
  | 0 => by simp [cnt]
  | n + 1 => by
    have ih := cnt_one h n
    unfold cnt
    by_cases hk : k = n
    · subst hk
      rw [if_neg (Nat.lt_irrefl k)] at ih
      rw [if_pos (Nat.lt_succ_self k)]
      split <;> split <;> omega
    · rw [h n (by omega)]
      rcases Nat.lt_or_ge k n with h1 | h1
      · rw [if_pos h1] at ih; rw [if_pos (show k < n + 1 by omega)]; omega
      · rw [if_neg (show ¬ k < n by omega)] at ih; rw [if_neg (show ¬ k < n + 1 by omega)]; omega
theorem regC_one {per a n r : Nat} (hp : 0 < per) : regC per (a ||| 2 ^ n) r ≤ regC per a r + (if r = n / per then 1 else 0) := by
  unfold regC
  by_cases hr : r = n / per
  · rw [if_pos hr]
    have := @cnt_one (fun i => a.testBit (r * per + i)) (fun i => (a ||| 2 ^ n).testBit (r * per + i)) (n % per) (fun i hi => by
      simp only [Nat.testBit_or, Nat.testBit_two_pow]
      have : ¬ n = r * per + i := by
        intro e
        have := Nat.div_add_mod n per
        rw [← hr, Nat.mul_comm] at this
        omega
      simp [this]) per
    rw [if_pos (Nat.mod_lt _ hp)] at this
    exact this
  · rw [if_neg hr, Nat.add_zero]
    refine cnt_mono per fun i hi h => ?_
    simp only [Nat.testBit_or, Nat.testBit_two_pow, Bool.or_eq_true, decide_eq_true_eq] at h
    rcases h with h | h
    · exact h
    · exfalso
      apply hr
      rw [h, reg_div hi]
theorem least_step {R per z nodes a n : Nat} (hR : R ≤ 4) (hz : z ≤ R) (hn : nodes ≤ 4) (hp : 0 < per) : least R per z nodes a ≤ least R per z nodes (a ||| 2 ^ n) + 1 :=
  lst_step (want_le hn) (r := n / per) hR hz (by have := @regC_one per a n (n / per) hp; rw [if_pos rfl] at this; unfold want; omega)
    (fun i hi => by have := @regC_one per a n i hp; rw [if_neg hi] at this; unfold want; omega)
theorem regC_or {per a b r : Nat} : regC per (a ||| b) r ≤ regC per a r + regC per b r := by
  unfold regC
  have : ∀ n, cnt (fun i => (a ||| b).testBit (r * per + i)) n ≤ cnt (fun i => a.testBit (r * per + i)) n + cnt (fun i => b.testBit (r * per + i)) n := by
    intro n
    induction n with
    | zero => simp [cnt]
    | succ n ih =>
      unfold cnt
      simp only [Nat.testBit_or] at ih ⊢
      cases a.testBit (r * per + n) <;> cases b.testBit (r * per + n) <;> simp <;> omega
  exact this per
/-- A set's nodes are those of its regions. -/
theorem cnt_regs (per m : Nat) : ∀ R, cnt m.testBit (R * per) = sumS (fun _ => true) (regC per m) R
  | 0 => by rw [Nat.zero_mul]; rfl
  | R + 1 => by
    rw [Nat.add_mul, Nat.one_mul, cnt_add, cnt_regs per m R]
    rfl
theorem sumS_all {f : Nat → Bool} {g : Nat → Nat} : ∀ n, sumS f g n ≤ sumS (fun _ => true) g n
  | 0 => Nat.le_refl _
  | n + 1 => by have := @sumS_all f g n; unfold sumS; split <;> simp <;> omega
/-- No fewer nodes make a quorum. -/
theorem least_bound {R per z nodes set more : Nat} (h : isQ R per z nodes (set ||| more) = true) : least R per z nodes set ≤ cnt more.testBit (R * per) := by
  unfold isQ at h
  rw [decide_eq_true_eq] at h
  rw [cnt_regs]
  refine Nat.le_trans (lst_le R z h) (Nat.le_trans (sumS_le R fun i hi hf => ?_) (sumS_all R))
  rw [decide_eq_true_eq] at hf
  have := @regC_or per set more i
  unfold want; omega
theorem cnt_pick {h : Nat → Bool} : ∀ n k, k ≤ cnt h n → ∃ f : Nat → Bool, (∀ i, f i = true → h i = true) ∧ cnt f n = k
  | n, 0, _ => ⟨fun _ => false, fun _ e => (by cases e), cnt_none n⟩
  | 0, k + 1, hk => by simp [cnt] at hk
  | n + 1, k + 1, hk => by
    unfold cnt at hk
    cases hh : h n
    · rw [hh] at hk; simp at hk
      obtain ⟨f, h1, h2⟩ := cnt_pick n (k + 1) hk
      refine ⟨put f n false, fun i hi => ?_, by rw [cnt_put, h2]; rfl⟩
      unfold put at hi
      split at hi
      · cases hi
      · exact h1 i hi
    · rw [hh] at hk; simp at hk
      obtain ⟨f, h1, h2⟩ := cnt_pick n k hk
      refine ⟨put f n true, fun i hi => ?_, by rw [cnt_put, h2]; rfl⟩
      unfold put at hi
      split at hi
      · rename_i e; rw [e]; exact hh
      · exact h1 i hi
theorem cnt_not (f : Nat → Bool) : ∀ n, cnt f n + cnt (fun i => !f i) n = n
  | 0 => rfl
  | n + 1 => by have := cnt_not f n; unfold cnt; cases f n <;> simp <;> omega
theorem cnt_disj {f g h : Nat → Bool} (hd : ∀ i, g i = true → f i = false) (hh : ∀ i, h i = (f i || g i)) : ∀ n, cnt h n = cnt f n + cnt g n
  | 0 => rfl
  | n + 1 => by
    have ih := @cnt_disj f g h hd hh n
    have hn := hd n
    unfold cnt; rw [hh n, ih]
    cases hf : f n <;> cases hg : g n <;> simp_all <;> omega
/-- And so many make one. -/
theorem least_meets {R per z nodes set : Nat} (hR : R ≤ 4) (hz : z ≤ R) (hn : nodes ≤ 4) (hnp : nodes ≤ per) : ∃ more, more < 2 ^ (R * per) ∧ isQ R per z nodes (set ||| more) = true ∧ cnt more.testBit (R * per) = least R per z nodes set := by
  obtain ⟨f, hf1, hf2⟩ := lst_ex (want_le (per := per) (set := set) hn) R z hR hz
  have hp : ∀ r, ∃ p : Nat → Bool, (∀ i, p i = true → set.testBit (r * per + i) = false) ∧ cnt p per = if f r then want per nodes set r else 0 := by
    intro r
    have h1 := cnt_not (fun i => set.testBit (r * per + i)) per
    have h2 : want per nodes set r ≤ cnt (fun i => !set.testBit (r * per + i)) per := by unfold want regC; omega
    obtain ⟨p, h3, h4⟩ := cnt_pick (h := fun i => !set.testBit (r * per + i)) per (if f r then want per nodes set r else 0) (by split <;> omega)
    exact ⟨p, fun i hi => by have := h3 i hi; simpa using this, h4⟩
  obtain ⟨p, hp'⟩ := Classical.axiomOfChoice hp
  refine ⟨setOf R per p, ofB_lt _ _, ?_, ?_⟩
  · unfold isQ
    rw [decide_eq_true_eq, ← hf1]
    refine cnt_mono R fun r hr hf => ?_
    rw [decide_eq_true_eq]
    have h1 : regC per (set ||| setOf R per p) r = regC per set r + cnt (p r) per := by
      unfold regC
      have e : cnt (fun i => (set ||| setOf R per p).testBit (r * per + i)) per = cnt (fun i => set.testBit (r * per + i) || p r i) per :=
        cnt_congr per fun i hi => by rw [Nat.testBit_or, setOf_bit p hr hi]
      rw [e]
      exact cnt_disj (fun i hi => (hp' r).1 i hi) (fun _ => rfl) per
    rw [h1, (hp' r).2, hf]
    simp only [if_true]
    unfold want; omega
  · rw [cnt_regs]
    show _ = lst _ _ _
    rw [← hf2]
    have : ∀ m, m ≤ R → sumS (fun _ => true) (regC per (setOf R per p)) m = sumS f (want per nodes set) m := by
      intro m
      induction m with
      | zero => intro _; rfl
      | succ m ih =>
        intro hm
        unfold sumS
        rw [ih (by omega), setOf_regC p (by omega), (hp' m).2]; rfl
    exact this R (Nat.le_refl _)
end Go.Proofs.Ytnanclgnjchpeaa.Grids
