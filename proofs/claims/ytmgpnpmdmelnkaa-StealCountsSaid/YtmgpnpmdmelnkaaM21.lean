import Derived.Test.YtmgpnpmdmelnkaaL21c
import Derived.WalkKit
import Derived.ProofKit
import Derived.LoopTactic
import Derived.Outline
import Derived.WalkSpells
import Derived.WalkLawsBesides
import Derived.Lib.Hide
import Derived.Deep.LoopGhost
import Derived.Deep.QuietTactic
import Derived.BigQuiet
import Derived.ShutString
import Derived.IntWalk
namespace Go.Proofs.Ytmgpnpmdmelnkaa
open Go.ChangeShapes Go.WideShapes Go.ChangeAt Go.RowKit
set_option linter.unusedVariables false
set_option linter.unusedSimpArgs false
/-- The times of the uses from a region. -/
def flT (P : List Tch) (r : Int) : List Int := (P.filter (fun x => x.R == r)).map (·.T)
theorem flT_append (P Q : List Tch) (r : Int) : flT (P ++ Q) r = flT P r ++ flT Q r := by simp [flT]
theorem flT_cons_yes {x : Tch} {P : List Tch} {r : Int} (h : x.R = r) : flT (x :: P) r = x.T :: flT P r := by simp [flT, h]
theorem flT_cons_no {x : Tch} {P : List Tch} {r : Int} (h : x.R ≠ r) : flT (x :: P) r = flT P r := by simp [flT, h]
def lastC (l : List Int) (now s : Int) : Nat := (l.drop (l.length - 64)).countP (fun x => hitT x now s)
def lawC (P : List Tch) (r now s : Int) : Nat := lastC (flT P r) now s
theorem cntT_list {now s : Int} : ∀ (k : Nat) (t : Nat → Int) (l : List Int), k ≤ l.length → (∀ i (h : i < l.length), i < k → t i = l[i]) → cntT t now s k = (l.take k).countP (fun x => hitT x now s)
  | 0, _, _, _, _ => by simp [cntT]
  | k + 1, t, l, hk, h => by
    unfold cntT
    rw [cntT_list k t l (by omega) (fun i hi h2 => h i hi (by omega)), List.take_add_one, List.getElem?_eq_getElem (by omega), h k (by omega) (by omega), List.countP_append]
    congr 1
    simp [List.countP_cons]
theorem cntT_front {now s : Int} : ∀ (k : Nat) (t : Nat → Int), cntT t now s (k + 1) = (if hitT (t 0) now s then 1 else 0) + cntT (fun i => t (i + 1)) now s k
  | 0, t => by simp [cntT]
  | k + 1, t => by
    show cntT t now s (k + 1) + (if hitT (t (k + 1)) now s then 1 else 0) = _
    rw [cntT_front k t]
    show _ = _ + (cntT (fun i => t (i + 1)) now s k + (if hitT (t (k + 1)) now s then 1 else 0))
    omega
theorem cntT_turn {now s : Int} (t : Nat → Int) : ∀ a, cntT (fun j => t ((a + j) % 64)) now s 64 = cntT t now s 64
  | 0 => by
    have : ∀ k, k ≤ 64 → cntT (fun j => t ((0 + j) % 64)) now s k = cntT t now s k := by
      intro k
      induction k with
      | zero => intro _; rfl
      | succ k ih =>
        intro hk
        unfold cntT
        rw [ih (by omega)]
        rw [show (0 + k) % 64 = k by omega]
    exact this 64 (Nat.le_refl _)
  | a + 1 => by
    rw [← cntT_turn t a, cntT_front 63 (fun j => t ((a + j) % 64))]
    show cntT (fun j => t ((a + 1 + j) % 64)) now s 63 + (if hitT (t ((a + 1 + 63) % 64)) now s then 1 else 0) = _
    rw [show (a + 1 + 63) % 64 = (a + 0) % 64 by omega]
    have : (fun j => t ((a + 1 + j) % 64)) = (fun i => t ((a + (i + 1)) % 64)) := by funext i; rw [show a + 1 + i = a + (i + 1) by omega]
    rw [this]
    omega
/-- A meter holds the last uses. -/
structure MtHolds (t : Nat → Int) (u : Nat) (l : List Int) : Prop where
  u : u = l.length
  t : ∀ j (h : j < l.length), l.length ≤ j + 64 → t (j % 64) = l[j]
theorem MtHolds.count {t : Nat → Int} {u : Nat} {l : List Int} (h : MtHolds t u l) (now s : Int) : cntT t now s (min u 64) = lastC l now s := by
  have hu := h.u
  subst hu
  unfold lastC
  by_cases hl : l.length ≤ 64
  · rw [show min l.length 64 = l.length by omega, show l.length - 64 = 0 by omega, List.drop_zero, cntT_list l.length t l (Nat.le_refl _) (fun i hi h2 => by
      have := h.t i hi (by omega)
      rwa [Nat.mod_eq_of_lt (by omega)] at this), List.take_length]
  · rw [show min l.length 64 = 64 by omega, ← cntT_turn t (l.length - 64), cntT_list 64 _ (l.drop (l.length - 64)) (by rw [List.length_drop]; omega) (fun i hi h2 => by
      rw [List.length_drop] at hi
      rw [List.getElem_drop]
      exact h.t _ (by omega) (by omega))]
    congr 1
    rw [List.take_of_length_le (by rw [List.length_drop]; omega)]
theorem MtHolds.touch {t : Nat → Int} {u : Nat} {l : List Int} (h : MtHolds t u l) (x : Int) : MtHolds (fun i => if i = u % 64 then x else t i) (u + 1) (l ++ [x]) := by
  have hu := h.u
  subst hu
  refine ⟨by simp, fun j hj h2 => ?_⟩
  rw [List.length_append, List.length_singleton] at hj h2
  by_cases e : j = l.length
  · subst e
    simp only [if_true]
    rw [List.getElem_append_right (Nat.le_refl _)]
    simp
  · have hj2 : j < l.length := by omega
    rw [if_neg (by omega), List.getElem_append_left hj2]
    exact h.t j hj2 (by omega)
structure Holds21 (d : Brd) (P : List Tch) : Prop where
  mt : ∀ r, r < d.n → MtHolds (d.t r) (d.u r) (flT P r)
  out : ∀ x ∈ P, hasB d x.R = true
theorem flT_out {d : Brd} {P : List Tch} (h : ∀ x ∈ P, hasB d x.R = true) {r : Int} (hr : hasB d r = false) : flT P r = [] := by
  unfold flT
  rw [List.filter_eq_nil_iff.2 (fun x hx => by
    intro e
    have : x.R = r := by simpa using e
    have h1 := h x hx
    rw [this, hr] at h1
    exact absurd h1 (by decide))]
  rfl
theorem Holds21.count {d : Brd} {P : List Tch} (h : Holds21 d P) (r now : Int) : countB d r now = lawC P r now d.span := by
  unfold countB lawC
  by_cases hr : hasB d r = true
  · rw [if_pos hr]
    obtain ⟨k, rfl, hk⟩ := has_nat21 hr
    rw [show (k : Int).toNat = k by omega]
    exact (h.mt k hk).count now d.span
  · rw [if_neg hr, flT_out h.out (by simpa using hr)]
    rfl
theorem Holds21.touch {d : Brd} {P : List Tch} (h : Holds21 d P) (x : Tch) (hr : hasB d x.R = true) : Holds21 (touchI d x.R x.T) (P ++ [x]) := by
  obtain ⟨k, hk, hk2⟩ := has_nat21 hr
  unfold touchI
  rw [if_pos hr, hk, show (k : Int).toNat = k by omega]
  refine ⟨fun r h2 => ?_, fun y hy => ?_⟩
  · have hm := h.mt r h2
    simp only [touchB]
    rw [flT_append]
    by_cases e : r = k
    · subst e
      have e1 := flT_cons_yes (P := []) hk
      rw [e1]
      have := hm.touch x.T
      simp only [true_and, if_true]
      exact this
    · have e1 : flT [x] (r : Int) = [] := flT_cons_no (P := []) (fun h => e (by omega))
      rw [e1, List.append_nil]
      have ht : (fun i => if r = k ∧ i = d.u k % 64 then x.T else d.t r i) = d.t r := by funext i; rw [if_neg (fun h => e h.1)]
      rw [ht, if_neg e]
      exact hm
  · rcases List.mem_append.1 hy with h3 | h3
    · exact h.out y h3
    · simp at h3; subst h3; exact hr
theorem holds_zero (l s n : Int) : Holds21 (zeroB l s n) [] := ⟨fun r _ => ⟨rfl, fun j h => by simp [flT] at h⟩, fun x hx => by simp at hx⟩
theorem best_more (d : Brd) (now : Int) : ∀ k, bestB d now (d.n + k) = bestB d now d.n
  | 0 => rfl
  | k + 1 => by
    show (if (bestB d now (d.n + k)).2 < countB d ((d.n + k : Nat) : Int) now then _ else bestB d now (d.n + k)) = _
    rw [best_more d now k, show countB d ((d.n + k : Nat) : Int) now = 0 from if_neg (by rw [show hasB d ((d.n + k : Nat) : Int) = false from decide_eq_false (by omega)]; decide), if_neg (by omega)]
/-- What the law's loop has counted ahead of the m-th use. -/
theorem lawC_end {P : List Tch} {r now s : Int} {m : Nat} (h : m = 0 ∨ (flT (P.drop m) r).length = 64) (h64 : (flT (P.drop m) r).length ≤ 64) : (flT (P.drop m) r).countP (fun x => hitT x now s) = lawC P r now s := by
  unfold lawC lastC
  congr 1
  have e : flT P r = flT (P.take m) r ++ flT (P.drop m) r := by rw [← flT_append, List.take_append_drop]
  rcases h with rfl | h
  · rw [List.drop_zero] at h64 ⊢
    rw [show (flT P r).length - 64 = 0 by omega, List.drop_zero]
  · rw [e, List.length_append, h, show (flT (P.take m) r).length + 64 - 64 = (flT (P.take m) r).length by omega, List.drop_left]
end Go.Proofs.Ytmgpnpmdmelnkaa
