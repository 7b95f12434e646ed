import Derived.Test.YtahohgnkichibaaF15t
import Derived.WalkKit
import Derived.ProofKit
import Derived.LoopTactic
import Derived.Outline
import Derived.WalkSpells
import Derived.WalkLawsBesides
import Derived.Lib.Hide
import Derived.Deep.LoopGhost
import Derived.Deep.QuietTactic
import Derived.BigQuiet
import Derived.ShutString
import Derived.Lib.Slices
namespace Go.Proofs.Ytahohgnkichibaa
open Go.ChangeShapes Go.WideShapes Go.ChangeAt Go.RowKit
open Rates
set_option linter.unusedVariables false
set_option linter.unusedSimpArgs false
def rowFit (p q : Int) (B : List Int) : Bool := B.all fun a => B.all fun b => fits p q a b
def allFit (p q : Int) (S : List (List Int)) : Bool := S.all (rowFit p q)
/-- Of two clocks one is not too fast. -/
def Fast (p q l m : Int) : Prop := m * q ≤ l * p
theorem fits_fast {p q l m : Int} (h : good p q = true) (l0 : 0 ≤ l) (l1 : l ≤ 1099511627776) (m0 : 0 ≤ m) (m1 : m ≤ 1099511627776) (hlm : l ≤ m) : fits p q l m = true ↔ Fast p q l m := by
  rw [fits_iff h l0 l1 m0 m1]
  obtain ⟨g1, g2, _⟩ := good_of h
  unfold Fast
  constructor
  · exact fun e => e.2
  · intro e
    refine ⟨?_, e⟩
    calc l * q ≤ m * q := Int.mul_le_mul_of_nonneg_right hlm (by omega)
      _ ≤ m * p := Int.mul_le_mul_of_nonneg_left g2 m0
theorem row_fast {p q : Int} (h : good p q = true) {B : List Int} (hB : ∀ x ∈ B, 0 ≤ x ∧ x ≤ 1099511627776) {l m : Int} (hl : l ∈ B) (hm : m ∈ B) (hmin : ∀ x ∈ B, l ≤ x) (hmax : ∀ x ∈ B, x ≤ m) : rowFit p q B = true ↔ Fast p q l m := by
  obtain ⟨g1, g2, _⟩ := good_of h
  have bl := hB l hl
  have bm := hB m hm
  unfold rowFit
  rw [List.all_eq_true]
  constructor
  · intro e
    have e1 := List.all_eq_true.1 (e l hl) m hm
    exact (fits_fast h bl.1 bl.2 bm.1 bm.2 (hmin m hm)).1 e1
  · intro e a ha
    rw [List.all_eq_true]
    intro b hb
    have ba := hB a ha
    have bb := hB b hb
    rw [fits_iff h ba.1 ba.2 bb.1 bb.2]
    unfold Fast at e
    have k : ∀ x y : Int, x ∈ B → y ∈ B → x * q ≤ y * p := fun x y hx hy => by
      calc x * q ≤ m * q := Int.mul_le_mul_of_nonneg_right (hmax x hx) (by omega)
        _ ≤ l * p := e
        _ ≤ y * p := Int.mul_le_mul_of_nonneg_right (hmin y hy) (by omega)
    exact ⟨k a b ha hb, k b a hb ha⟩
/-- The pair that is harder to fit speaks for both. -/
theorem fast_wide {p q l m l' m' : Int} (h : good p q = true) (l0 : 0 ≤ l) (m0 : 0 ≤ m) (l0' : 0 ≤ l') (m0' : 0 < m') (hw : m' * l < m * l') (hf : Fast p q l m) : Fast p q l' m' := by
  obtain ⟨g1, g2, _⟩ := good_of h
  unfold Fast at *
  have hl : 0 < l := by
    rcases Int.lt_or_eq_of_le l0 with h1 | h1
    · exact h1
    · exfalso
      subst h1
      have hm : m ≤ 0 := by
        by_cases e : m ≤ 0
        · exact e
        · have h2 : 1 * 1 ≤ m * q := Int.mul_le_mul (by omega) (by omega) (by omega) (by omega)
          omega
      have : m = 0 := by omega
      subst this
      omega
  have h1 : (m' * q) * l ≤ (l' * p) * l := by
    calc (m' * q) * l = (m' * l) * q := by rw [Int.mul_assoc, Int.mul_comm q l, ← Int.mul_assoc]
      _ ≤ (m * l') * q := Int.mul_le_mul_of_nonneg_right (by omega) (by omega)
      _ = (m * q) * l' := by rw [Int.mul_assoc, Int.mul_comm l' q, ← Int.mul_assoc]
      _ ≤ (l * p) * l' := Int.mul_le_mul_of_nonneg_right hf l0'
      _ = (l' * p) * l := by rw [Int.mul_comm (l * p) l', Int.mul_comm l p, ← Int.mul_assoc]
  exact Int.le_of_mul_le_mul_right h1 hl
theorem fast_thin {p q l m l' m' : Int} (h : good p q = true) (l0 : 0 ≤ l) (m0 : 0 ≤ m) (l0' : 0 ≤ l') (m0' : 0 < m') (hw : ¬ m' * l < m * l') (hf : Fast p q l' m') : Fast p q l m := by
  obtain ⟨g1, g2, _⟩ := good_of h
  unfold Fast at *
  have hl : 0 < l' := by
    rcases Int.lt_or_eq_of_le l0' with h1 | h1
    · exact h1
    · exfalso
      subst h1
      have h2 : 1 * 1 ≤ m' * q := Int.mul_le_mul (by omega) (by omega) (by omega) (by omega)
      omega
  have h1 : (m * q) * l' ≤ (l * p) * l' := by
    calc (m * q) * l' = (m * l') * q := by rw [Int.mul_assoc, Int.mul_comm q l', ← Int.mul_assoc]
      _ ≤ (m' * l) * q := Int.mul_le_mul_of_nonneg_right (by omega) (by omega)
      _ = (m' * q) * l := by rw [Int.mul_assoc, Int.mul_comm l q, ← Int.mul_assoc]
      _ ≤ (l' * p) * l := Int.mul_le_mul_of_nonneg_right hf l0
      _ = (l * p) * l' := by rw [Int.mul_comm (l' * p) l, Int.mul_comm l' p, ← Int.mul_assoc]
  exact Int.le_of_mul_le_mul_right h1 hl
theorem wider_iff {l m l' m' : Int} (l0 : 0 ≤ l) (m0 : 0 ≤ m) (l0' : 0 ≤ l') (m0' : 0 ≤ m') : widerB l.toNat m.toNat l'.toNat m'.toNat = true ↔ m' * l < m * l' := by
  unfold widerB
  rw [decide_eq_true_eq]
  have e1 : ((l.toNat : Nat) : Int) = l := by omega
  have e2 : ((m.toNat : Nat) : Int) = m := by omega
  have e3 : ((l'.toNat : Nat) : Int) = l' := by omega
  have e4 : ((m'.toNat : Nat) : Int) = m' := by omega
  rw [← Int.ofNat_lt, Int.natCast_mul, Int.natCast_mul, e1, e2, e3, e4]
/-- What clocks have, and what the law has counted. -/
structure FitIs (p q : Int) (n k : Nat) (c : Clk) (B : List Int) (S : List (List Int)) : Prop where
  cn : c.n = n
  bl : B.length = n
  by' : ∀ i, i < n → c.by' i = B.getD i 0
  now : ∀ i, i < n → c.now i ≤ 1000 * (k : Int)
  ok : c.Ok
  lohi : c.lo ≤ c.hi ∧ 0 < c.hi
  yes : c.jd = true → (fits p q c.lo c.hi = allFit p q S)
  no : c.jd = false → allFit p q S = true
  one : c.jd = false → c.lo = 1 ∧ c.hi = 1
theorem fit_new (p q : Int) (n : Nat) (hn : n ≤ 12) : FitIs p q n 0 (newC (n : Nat)) (List.replicate n 0) [] :=
  ⟨by show (min (max (n : Int) 0) 12).toNat = n; omega, by simp, fun i hi => by simp [newC, List.getD_eq_getElem?_getD, hi], fun i hi => by simp [newC], newC_ok _, by simp [newC], fun e => by simp [newC] at e, fun _ => rfl, fun _ => ⟨rfl, rfl⟩⟩
theorem fit_go {p q : Int} {n k : Nat} {c : Clk} {B : List Int} {S : List (List Int)} (h : FitIs p q n k c B S) (hk : k ≤ 100) (g : Go15) (hg : g.B ≤ 1000) : FitIs p q n (k + 1) (goC c g.N g.B) (addB n B g) S := by
  have hok := goC_ok h.ok g.N g.B
  by_cases hin : 0 ≤ g.N ∧ g.N < (n : Int)
  · have hh : hasC c g.N = true := decide_eq_true (by rw [h.cn]; exact hin)
    have hl : g.N.toNat < B.length := by rw [h.bl]; omega
    have hj : g.N.toNat < n := by omega
    have e : goC c g.N g.B = ⟨c.n, upd c.now g.N.toNat (nextC c g.N.toNat g.B), upd c.by' g.N.toNat (c.by' g.N.toNat + (nextC c g.N.toNat g.B - c.now g.N.toNat)), c.lo, c.hi, c.jd⟩ := by unfold goC; rw [if_pos hh]
    have e2 : addB n B g = B.set g.N.toNat (B.getD g.N.toNat 0 + max g.B 0) := by unfold addB; rw [if_pos hin]
    have hn1 := h.now g.N.toNat hj
    have hn0 := h.ok.now g.N.toNat
    have e3 : nextC c g.N.toNat g.B = c.now g.N.toNat + max g.B 0 := by unfold nextC lim; omega
    rw [e] at hok ⊢
    rw [e2]
    refine ⟨h.cn, by simp [h.bl], fun i hi => ?_, fun i hi => ?_, hok, h.lohi, h.yes, h.no, h.one⟩
    · show upd _ _ _ i = _
      by_cases ei : i = g.N.toNat
      · subst ei
        rw [upd_same, List.getD_eq_getElem?_getD, List.getElem?_set_self hl]
        show _ = B.getD g.N.toNat 0 + max g.B 0
        have := h.by' _ hj
        omega
      · rw [upd_other _ _ ei, List.getD_eq_getElem?_getD, List.getElem?_set_ne (fun h => ei h.symm), ← List.getD_eq_getElem?_getD]
        exact h.by' i hi
    · show upd _ _ _ i ≤ _
      by_cases ei : i = g.N.toNat
      · subst ei; rw [upd_same]; omega
      · rw [upd_other _ _ ei]; have := h.now i hi; omega
  · have hh : hasC c g.N = false := decide_eq_false (by rw [h.cn]; exact hin)
    have e : goC c g.N g.B = c := by unfold goC; rw [if_neg (by rw [hh]; decide)]
    have e2 : addB n B g = B := by unfold addB; rw [if_neg hin]
    rw [e, e2]
    exact ⟨h.cn, h.bl, h.by', fun i hi => by have := h.now i hi; omega, h.ok, h.lohi, h.yes, h.no, h.one⟩
theorem byL_eq {p q : Int} {n k : Nat} {c : Clk} {B : List Int} {S : List (List Int)} (h : FitIs p q n k c B S) : byL c = B := by
  apply List.ext_getElem
  · rw [byL_len, h.cn, h.bl]
  · intro i h1 h2
    have hi : i < n := by rw [← h.bl]; exact h2
    have e1 := byL_get c i (by rw [h.cn]; exact hi)
    have e2 := h.by' i hi
    rw [List.getD_eq_getElem?_getD, List.getElem?_eq_getElem h1] at e1
    rw [List.getD_eq_getElem?_getD, List.getElem?_eq_getElem h2] at e2
    exact e1.trans e2
theorem fit_clear {p q : Int} {n k : Nat} {c : Clk} {B : List Int} {S : List (List Int)} (h : FitIs p q n k c B S) : FitIs p q n k (clearC c) (List.replicate n 0) S :=
  ⟨h.cn, by simp, fun i hi => by simp [clearC, h.cn, hi, List.getD_eq_getElem?_getD], h.now, clearC_ok h.ok, h.lohi, h.yes, h.no, h.one⟩
theorem fit_step {p q : Int} (hg : good p q = true) {n k : Nat} {c : Clk} {B : List Int} {S : List (List Int)} (h : FitIs p q n k c B S) : FitIs p q n k (stepC c) (List.replicate n 0) (S ++ [B]) := by
  unfold stepC
  refine fit_clear (B := B) ?_
  have hall : allFit p q (S ++ [B]) = (allFit p q S && rowFit p q B) := by unfold allFit; simp
  have hmem : ∀ x ∈ B, 0 ≤ x ∧ x ≤ 1099511627776 := fun x hx => byL_mem h.ok (by rw [byL_eq h]; exact hx)
  by_cases hn : 1 < c.n
  · rw [if_pos hn, byL_eq h]
    have hp : 0 < B.length := by rw [h.bl, ← h.cn]; omega
    obtain ⟨m1, m2⟩ := min_facts hp
    obtain ⟨x1, x2⟩ := max_facts hp
    generalize Lib.minOf B = mn at *
    generalize Lib.maxOf B = mx at *
    have b1 := hmem mn m2
    have b2 := hmem mx x2
    have hlm : mn ≤ mx := m1 mx x2
    have hrow := row_fast hg hmem m2 x2 m1 x1
    have hw := wider_iff b1.1 b2.1 h.ok.lo.1 h.ok.hi.1
    have hold := fits_fast hg h.ok.lo.1 h.ok.lo.2 h.ok.hi.1 h.ok.hi.2 h.lohi.1
    have hnew := fits_fast hg b1.1 b1.2 b2.1 b2.2 hlm
    have hokj := judgeC_ok h.ok b1 b2
    have hprev : allFit p q S = true ↔ (c.jd = true → Fast p q c.lo c.hi) := by
      cases hj : c.jd
      · exact ⟨fun _ e => absurd e (by decide), fun _ => h.no hj⟩
      · rw [← h.yes hj, hold]
        exact ⟨fun e _ => e, fun e => e rfl⟩
    have hand : allFit p q (S ++ [B]) = true ↔ (allFit p q S = true ∧ rowFit p q B = true) := by rw [hall, Bool.and_eq_true]
    unfold judgeC at hokj ⊢
    by_cases hc : widerB mn.toNat mx.toNat c.lo.toNat c.hi.toNat = true
    · rw [if_pos hc] at hokj ⊢
      have hw2 := hw.1 hc
      have hmx : 0 < mx := by
        have h1 : 0 ≤ c.hi * mn := Int.mul_nonneg h.ok.hi.1 b1.1
        rcases Int.lt_or_eq_of_le b2.1 with h2 | h2
        · exact h2
        · exfalso; rw [← h2] at hw2; omega
      refine ⟨h.cn, h.bl, h.by', h.now, hokj, ⟨hlm, hmx⟩, fun _ => ?_, fun e => Bool.noConfusion e, fun e => Bool.noConfusion e⟩
      show fits p q mn mx = _
      rw [Bool.eq_iff_iff, hand, hprev, hrow, hnew]
      exact ⟨fun e => ⟨fun _ => fast_wide hg b1.1 b2.1 h.ok.lo.1 h.lohi.2 hw2 e, e⟩, fun e => e.2⟩
    · rw [if_neg hc] at hokj ⊢
      have hw2 : ¬ c.hi * mn < mx * c.lo := fun e => hc (hw.2 e)
      refine ⟨h.cn, h.bl, h.by', h.now, hokj, h.lohi, fun _ => ?_, fun e => Bool.noConfusion e, fun e => Bool.noConfusion e⟩
      show fits p q c.lo c.hi = _
      rw [Bool.eq_iff_iff, hand, hprev, hrow, hold]
      refine ⟨fun e => ⟨fun _ => e, fast_thin hg b1.1 b2.1 h.ok.lo.1 h.lohi.2 hw2 e⟩, fun e => ?_⟩
      cases hj : c.jd
      · obtain ⟨g1, g2, _⟩ := good_of hg
        rw [(h.one hj).1, (h.one hj).2]
        unfold Fast
        omega
      · exact e.1 hj
  · rw [if_neg hn]
    have hr : rowFit p q B = true := by
      unfold rowFit
      rw [List.all_eq_true]
      intro a ha
      rw [List.all_eq_true]
      intro b hb
      have hab : a = b := by
        have hl : B.length ≤ 1 := by rw [h.bl, ← h.cn]; omega
        match B, hl, ha, hb with
        | [x], _, ha, hb => simp at ha hb; rw [ha, hb]
      subst hab
      have := hmem a ha
      obtain ⟨g1, g2, _⟩ := good_of hg
      rw [fits_iff hg this.1 this.2 this.1 this.2]
      have := Int.mul_le_mul_of_nonneg_left g2 this.1
      exact ⟨this, this⟩
    have hq : allFit p q (S ++ [B]) = allFit p q S := by rw [hall, hr, Bool.and_true]
    exact ⟨h.cn, h.bl, h.by', h.now, h.ok, h.lohi, fun e => by rw [hq]; exact h.yes e, fun e => by rw [hq]; exact h.no e, h.one⟩
theorem fit_run {p q : Int} (hg : good p q = true) {n : Nat} (hn : n ≤ 12) : ∀ (G : List Go15), G.length ≤ 100 → (∀ g ∈ G, g.B ≤ 1000) → FitIs p q n G.length (runC n G) (fewS n G).1 (fewS n G).2 := by
  intro G
  induction h : G.length generalizing G with
  | zero =>
    intro _ _
    obtain rfl := List.length_eq_zero_iff.1 h
    exact fit_new p q n hn
  | succ k ih =>
    intro hl hb
    have hne : G ≠ [] := fun e => by rw [e] at h; simp at h
    obtain ⟨M, g, rfl⟩ : ∃ M g, G = M ++ [g] := ⟨G.dropLast, G.getLast hne, (List.dropLast_concat_getLast hne).symm⟩
    have hM : M.length = k := by simp at h; omega
    have i1 := ih M hM (by omega) (fun x hx => hb x (List.mem_append_left _ hx))
    have hgb := hb g (by simp)
    have i2 := fit_go i1 (by omega) g hgb
    rw [runC_next, few_next]
    unfold runStep fewStep
    cases g.E
    · exact i2
    · exact fit_step hg i2
theorem fits_run {p q : Int} (hg : good p q = true) {n : Nat} (hn : n ≤ 12) {G : List Go15} (hl : G.length ≤ 100) (hb : ∀ g ∈ G, g.B ≤ 1000) : fitsC (runC n G) p q = allFit p q (fewS n G).2 := by
  have h := fit_run hg hn G hl hb
  unfold fitsC
  cases hj : (runC n G).jd
  · rw [h.no hj]; rfl
  · rw [← h.yes hj]; rfl
end Go.Proofs.Ytahohgnkichibaa
