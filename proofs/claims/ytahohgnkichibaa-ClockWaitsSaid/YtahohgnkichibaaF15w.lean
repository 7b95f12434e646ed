import Derived.Test.YtahohgnkichibaaF15u
import Derived.Test.YtahohgnkichibaaM04b
import Derived.WalkKit
import Derived.ProofKit
import Derived.LoopTactic
import Derived.Outline
import Derived.WalkSpells
import Derived.WalkLawsBesides
import Derived.Lib.Hide
import Derived.Deep.LoopGhost
import Derived.Deep.QuietTactic
import Derived.BigQuiet
import Derived.ShutString
namespace Go.Proofs.Ytahohgnkichibaa
open Rates
set_option linter.unusedVariables false
set_option linter.unusedSimpArgs false
/-- Of each two clocks, what they had ahead of this step fits. -/
def SumF (p q : Int) (c : Clk) : Prop := ∀ i j, i < c.n → j < c.n → (c.now i - c.by' i) * q ≤ (c.now j - c.by' j) * p
theorem goC_diff (c : Clk) (k d : Int) (i : Nat) : (goC c k d).now i - (goC c k d).by' i = c.now i - c.by' i := by
  unfold goC
  split
  · show upd _ _ _ i - upd _ _ _ i = _
    by_cases e : i = k.toNat
    · subst e; rw [upd_same, upd_same]; omega
    · rw [upd_other _ _ e, upd_other _ _ e]
  · rfl
theorem stepC_by (c : Clk) (i : Nat) (h : i < c.n) : (stepC c).by' i = 0 := by
  have e : (if 1 < c.n then judgeC c (Lib.minOf (byL c)) (Lib.maxOf (byL c)) else c).n = c.n := by
    split
    · unfold judgeC; split <;> rfl
    · rfl
  unfold stepC clearC
  dsimp only
  rw [e, if_pos h]
theorem sum_run {p q : Int} (hg : good p q = true) {n : Nat} (hn : n ≤ 12) : ∀ (G : List Go15), G.length ≤ 100 → (∀ g ∈ G, g.B ≤ 1000) → allFit p q (fewS n G).2 = true → SumF p q (runC n G) := by
  intro G
  induction h : G.length generalizing G with
  | zero =>
    intro _ _ _
    obtain rfl := List.length_eq_zero_iff.1 h
    intro i j _ _
    simp [runC, newC]
  | succ k ih =>
    intro hl hb hf
    have hne : G ≠ [] := fun e => by rw [e] at h; simp at h
    obtain ⟨M, g, rfl⟩ : ∃ M g, G = M ++ [g] := ⟨G.dropLast, G.getLast hne, (List.dropLast_concat_getLast hne).symm⟩
    have hM : M.length = k := by simp at h; omega
    have hbM : ∀ x ∈ M, x.B ≤ 1000 := fun x hx => hb x (List.mem_append_left _ hx)
    have i1 := fit_run hg hn M (by omega) hbM
    have hgb := hb g (by simp)
    have i2 := fit_go i1 (by omega) g hgb
    rw [few_next] at hf
    rw [runC_next]
    unfold runStep
    unfold fewStep at hf
    cases hE : g.E
    · rw [hE, if_neg (by decide)] at hf
      have i3 := ih M hM (by omega) hbM hf
      rw [if_neg (by decide)]
      intro i j hi hj
      rw [goC_n] at hi hj
      rw [goC_diff, goC_diff]
      exact i3 i j hi hj
    · rw [hE, if_pos rfl] at hf
      have hall : allFit p q ((fewS n M).2 ++ [addB n (fewS n M).1 g]) = (allFit p q (fewS n M).2 && rowFit p q (addB n (fewS n M).1 g)) := by unfold allFit; simp
      rw [hall, Bool.and_eq_true] at hf
      have i3 := ih M hM (by omega) hbM hf.1
      rw [if_pos rfl]
      intro i j hi hj
      rw [(stepC_now _).2] at hi hj
      rw [stepC_by _ _ hi, stepC_by _ _ hj, (stepC_now _).1]
      have d1 := goC_diff (runC n M) g.N g.B i
      have d2 := goC_diff (runC n M) g.N g.B j
      have i4 := i3 i j (by rw [goC_n] at hi; exact hi) (by rw [goC_n] at hj; exact hj)
      rw [← d1, ← d2] at i4
      have hi2 : i < n := by rw [i2.cn] at hi; exact hi
      have hj2 : j < n := by rw [i2.cn] at hj; exact hj
      have b1 := i2.by' i hi2
      have b2 := i2.by' j hj2
      have hli : i < (addB n (fewS n M).1 g).length := by rw [i2.bl]; exact hi2
      have hlj : j < (addB n (fewS n M).1 g).length := by rw [i2.bl]; exact hj2
      rw [List.getD_eq_getElem?_getD, List.getElem?_eq_getElem hli] at b1
      rw [List.getD_eq_getElem?_getD, List.getElem?_eq_getElem hlj] at b2
      have hr := hf.2
      unfold rowFit at hr
      have h1 := List.all_eq_true.1 (List.all_eq_true.1 hr _ (List.getElem_mem hli)) _ (List.getElem_mem hlj)
      simp only [Option.getD_some] at b1 b2
      rw [← b1, ← b2] at h1
      have o1 := i2.ok.by' i
      have o2 := i2.ok.by' j
      have h2 := ((fits_iff hg o1.1 o1.2 o2.1 o2.2).1 h1).1
      generalize goC (runC n M) g.N g.B = c at *
      rw [Int.sub_mul, Int.sub_mul] at i4
      rw [Int.sub_zero, Int.sub_zero]
      omega
theorem nowC_in (c : Clk) (i : Nat) (h : i < c.n) : nowC c (i : Nat) = c.now i := by
  unfold nowC hasC
  rw [if_pos (by simp; omega)]
  rfl
/-- Behind a step's end each two clocks fit. -/
theorem waits_run {p q : Int} (hg : good p q = true) {n : Nat} (hn : n ≤ 12) {G : List Go15} (hl : G.length + 1 ≤ 100) (hb : ∀ g ∈ G, g.B ≤ 1000) (hf : fitsC (runC n (G ++ [⟨0, 0, true⟩])) p q = true) (hcn : (runC n (G ++ [⟨0, 0, true⟩])).n = n)
    {t : Int} (t0 : 0 ≤ t) (t1 : t ≤ 1099511627776) (i j : Nat) (hi : i < n) (hj : j < n) :
    (longer p q t ≤ nowC (runC n (G ++ [⟨0, 0, true⟩])) (i : Nat) → t ≤ nowC (runC n (G ++ [⟨0, 0, true⟩])) (j : Nat)) ∧ (t ≤ nowC (runC n (G ++ [⟨0, 0, true⟩])) (i : Nat) → shorter p q t ≤ nowC (runC n (G ++ [⟨0, 0, true⟩])) (j : Nat)) := by
  have hb2 : ∀ g ∈ G ++ [(⟨0, 0, true⟩ : Go15)], g.B ≤ 1000 := by
    intro g hm
    rcases List.mem_append.1 hm with h | h
    · exact hb g h
    · simp at h; subst h; simp
  have hl2 : (G ++ [(⟨0, 0, true⟩ : Go15)]).length ≤ 100 := by simp; omega
  rw [fits_run hg hn hl2 hb2] at hf
  have hs := sum_run hg hn _ hl2 hb2 hf
  have hok := (fit_run hg hn _ hl2 hb2).ok
  have hz : ∀ k, k < n → (runC n (G ++ [⟨0, 0, true⟩])).by' k = 0 := by
    intro k hk
    rw [runC_next] at hcn ⊢
    unfold runStep at hcn ⊢
    rw [if_pos rfl] at hcn ⊢
    exact stepC_by _ _ (by rw [(stepC_now _).2] at hcn; rw [hcn]; exact hk)
  generalize runC n (G ++ [⟨0, 0, true⟩]) = c at *
  rw [nowC_in c i (by omega), nowC_in c j (by omega)]
  have s1 := hs i j (by omega) (by omega)
  have s2 := hs j i (by omega) (by omega)
  rw [hz i hi, hz j hj, Int.sub_zero, Int.sub_zero] at s1 s2
  have a := hok.now i
  have b := hok.now j
  have hw := Rates.waits hg t0 t1 a.1 a.2 b.1 b.2 ((fits_iff hg a.1 a.2 b.1 b.2).2 ⟨s1, s2⟩)
  constructor
  · intro e
    cases hw <;> omega
  · intro e
    cases hw <;> omega
end Go.Proofs.Ytahohgnkichibaa
