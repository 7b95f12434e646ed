import Derived.Test.YtnanclgnjchpeaaM19c
import Derived.Test.YtnanclgnjchpeaaF19w
import Derived.WalkKit
import Derived.ProofKit
import Derived.LoopTactic
import Derived.Outline
import Derived.WalkSpells
import Derived.WalkLawsBesides
import Derived.Lib.Hide
import Derived.Deep.LoopGhost
import Derived.Deep.QuietTactic
import Derived.BigQuiet
import Derived.ShutString
namespace Go.Proofs.Ytnanclgnjchpeaa
open Go.ChangeShapes Go.WideShapes Go.ChangeAt Go.RowKit
open Bal
set_option linter.unusedVariables false
set_option linter.unusedSimpArgs false
def toR (e : E) : RE := ⟨e.slot, e.text⟩
theorem rowsM_get (M : List RE) (b : Int) (k i : Nat) (h : i < (rowsM M b k).length) : (rowsM M b k)[i] = ⟨b + 1 + (i : Nat), txtM M (b + 1 + (i : Nat))⟩ := by simp [rowsM]
theorem Same19.rows {a : Ln} {s : Rs} {N : Nat} (h : Same19 a s) (hok : a.Ok N) (k : Nat) (hk : a.dn - a.ba = k) : k ≤ a.L.length ∧ (a.L.take k).map toR = rowsM s.M s.ba k := by
  have hrun := asc_run hok.asc hok.low hok.has
  have hkl : k ≤ a.L.length := by
    by_cases h0 : k = 0
    · omega
    · obtain ⟨h2, _⟩ := hrun (k - 1) (by omega)
      omega
  refine ⟨hkl, ?_⟩
  apply List.ext_getElem
  · rw [List.length_map, List.length_take]; unfold rowsM; rw [List.length_map, List.length_range]; omega
  · intro i h1 h2
    rw [List.length_map, List.length_take] at h1
    rw [List.getElem_map, List.getElem_take]
    obtain ⟨hi, hs⟩ := hrun i (by omega)
    rw [rowsM_get]
    have ho := old_in hok.asc hi (x := a.L[i].slot) rfl
    have hh : hasE a.L a.L[i].slot = true := has_mem.2 ⟨_, List.getElem_mem hi, rfl⟩
    have ht := h.txt _ hh
    rw [ho, hs] at ht
    unfold toR
    rw [h.ba, ht, hs]
theorem Same19.log {a : Ln} {s : Rs} {N : Nat} (h : Same19 a s) (hok : a.Ok N) (k : Nat) (hk : a.dn - a.ba = k) (frm most : Int) : (logE a k frm most).map toR = logM s.M s.ba k frm most := by
  obtain ⟨_, hr⟩ := h.rows hok k hk
  unfold logE logM fromE
  rw [← hr, List.map_take, List.filter_map]
  rfl
theorem Same19.miss {a : Ln} {s : Rs} {N : Nat} (h : Same19 a s) (hok : a.Ok N) (k : Nat) (hk : a.dn - a.ba = k) {mx r : Int} (hx : IsMx (hasM s.M) mx) (hm : IsMiss (hasM s.M) mx s.dn r) : r = missE (a.L.drop k) (a.dn + 1) ∧ 0 ≤ missE (a.L.drop k) (a.dn + 1) := by
  have hd0 : 0 ≤ a.dn := Int.le_trans hok.b0 hok.bd
  obtain ⟨hkl, _⟩ := h.rows hok k hk
  have he : hasM s.M = hasE a.L := funext h.has
  rw [he] at hx hm
  rw [h.dn] at hm
  have hrun := asc_run hok.asc hok.low hok.has
  -- what lies behind is above
  have hab : ∀ e ∈ a.L.drop k, a.dn + 1 ≤ e.slot := fun e he => by
    obtain ⟨j, hj, rfl⟩ := List.getElem_of_mem he
    rw [List.length_drop] at hj
    rw [List.getElem_drop]
    have := asc_ge hok.asc hok.low (k + j) (by omega)
    omega
  have hin : ∀ x, a.dn < x → hasE (a.L.drop k) x = hasE a.L x := fun x hx => by
    rw [Bool.eq_iff_iff, has_mem, has_mem]
    constructor
    · rintro ⟨e, h1, h2⟩; exact ⟨e, List.mem_of_mem_drop h1, h2⟩
    · rintro ⟨e, h1, h2⟩
      obtain ⟨j, hj, rfl⟩ := List.getElem_of_mem h1
      by_cases hjk : j < k
      · obtain ⟨_, hs⟩ := hrun j (by omega)
        omega
      · exact ⟨a.L[j], List.mem_iff_getElem.2 ⟨j - k, by rw [List.length_drop]; omega, by rw [List.getElem_drop]; congr 1; omega⟩, h2⟩
  have hp : (a.L.drop k).Pairwise fun x y => x.slot < y.slot :=
    List.Pairwise.sublist (List.drop_sublist _ _) (List.pairwise_iff_getElem.2 fun i j hi hj hij => hok.asc i j hi hj hij)
  have hsp := missE_spec (a.L.drop k) (a.dn + 1) (by omega) hp hab
  generalize hR : missE (a.L.drop k) (a.dn + 1) = R at *
  have hmR : IsMiss (hasE a.L) mx a.dn R := by
    rcases hsp with ⟨h1, h2⟩ | ⟨h1, h2, ⟨e, he2, hel⟩, h4⟩
    · refine .inl ⟨h1, fun n hn1 hn2 => ?_⟩
      rcases hx.at' with e0 | e0
      · omega
      · rw [← hin mx (by omega)] at e0
        obtain ⟨e, he2, hs⟩ := has_mem.1 e0
        rw [← hin n hn1]
        exact h2 e he2 n (by omega) (by omega)
    · refine .inr ⟨by omega, ?_, ?_, fun n hn1 hn2 => ?_⟩
      · have := hx.ub e.slot (has_mem.2 ⟨e, List.mem_of_mem_drop he2, rfl⟩)
        omega
      · rw [← hin R (by omega)]; exact h2
      · rw [← hin n hn1]; exact h4 n (by omega) hn2
  refine ⟨isMiss_unique hd0 hm hmR, ?_⟩
  rcases hsp with ⟨h1, _⟩ | ⟨h1, _⟩ <;> omega
end Go.Proofs.Ytnanclgnjchpeaa
