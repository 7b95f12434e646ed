import Derived.Test.YtmgpnpmdmelnkaaGreatDoorK3
import Derived.WalkKit
import Derived.ProofKit
import Derived.LoopTactic
import Derived.Outline
import Derived.WalkSpells
import Derived.WalkLawsBesides
import Derived.Lib.Hide
import Derived.Deep.LoopGhost
import Derived.Deep.QuietTactic
import Derived.BigQuiet
import Derived.ShutString
import Derived.LaidEql
import Derived.Laws.Pointers
namespace Go.Proofs.YtmgpnpmdmelnkaaGreatDoor
open Go.ChangeShapes Go.WideShapes Go.ChangeAt Go.RowKit Go.Extern.Stop Go.Stop Go.Extern
set_option linter.unusedVariables false
/-- The places of a chain. -/
def trailOf : List Lk → List ByteArray
  | [] => []
  | .fault _ s :: L => if s.size = 0 then trailOf L else s :: trailOf L
theorem trailOf_first {L L' : List Lk} {c : Int} {s : ByteArray} (h : firstF L = some (c, s, L')) : trailOf L = trailOf (.fault c s :: L') := by
  induction L with
  | nil => cases h
  | cons x t ih =>
    cases x with
    | fault c' s' =>
      simp only [firstF, Option.some.injEq, Prod.mk.injEq] at h
      obtain ⟨rfl, rfl, rfl⟩ := h
      rfl
theorem trailOf_none {L : List Lk} (h : firstF L = none) : trailOf L = [] := by
  induction L with
  | nil => rfl
  | cons x t ih =>
    cases x with
    | fault c' s' => cases h
theorem first_len {L L' : List Lk} {c : Int} {s : ByteArray} (h : firstF L = some (c, s, L')) : L'.length < L.length := by
  induction L with
  | nil => cases h
  | cons x t ih =>
    cases x with
    | fault c' s' =>
      simp only [firstF, Option.some.injEq, Prod.mk.injEq] at h
      obtain ⟨_, _, rfl⟩ := h
      simp
/-- Places are short. -/
def Short (n : Nat) (L : List Lk) : Prop := ∀ c s, Lk.fault c s ∈ L → s.size ≤ n
theorem first_short {n : Nat} {L L' : List Lk} {c : Int} {s : ByteArray} (h : firstF L = some (c, s, L')) (hs : Short n L) : s.size ≤ n ∧ Short n L' := by
  induction L with
  | nil => cases h
  | cons x t ih =>
    have ht : Short n t := fun c s hm => hs c s (List.mem_cons_of_mem _ hm)
    cases x with
    | fault c' s' =>
      simp only [firstF, Option.some.injEq, Prod.mk.injEq] at h
      obtain ⟨rfl, rfl, rfl⟩ := h
      exact ⟨hs _ _ (List.mem_cons_self ..), ht⟩
theorem trail_short {n : Nat} {L : List Lk} (hs : Short n L) : (∀ s ∈ trailOf L, s.size ≤ n) ∧ (trailOf L).length ≤ L.length := by
  induction L with
  | nil => exact ⟨by simp [trailOf], Nat.le_refl _⟩
  | cons x t ih =>
    have ht : Short n t := fun c s hm => hs c s (List.mem_cons_of_mem _ hm)
    obtain ⟨i1, i2⟩ := ih ht
    cases x with
    | fault c s =>
      unfold trailOf
      split
      · exact ⟨i1, by simp; omega⟩
      · refine ⟨fun u hu => ?_, by simp; omega⟩
        rcases List.mem_cons.1 hu with rfl | hu
        · exact hs _ _ (List.mem_cons_self ..)
        · exact i1 u hu
theorem toList_iff (R G : ByteArray) : R.toList = G.toList ↔ R = G := by
  constructor
  · intro h
    have h' : R.data.toList = G.data.toList := by simpa [ByteArray.toList_eq] using h
    exact ByteArray.ext (Array.toList_inj.1 h')
  · intro h; rw [h]
theorem info_str3 : (Tryz.prog.info? 9).map (fun i => (i.zero, i.size, i.bytes)) = some (some (.string ⟨#[]⟩), 1, 16) := by kernel_rfl
theorem cellsOne (w : World) (x : Value) (t : TypeId) : ∀ (j : Nat) (u : Value), [x][j]? = some u → (w.alloc (.cells #[x] t)).cell? ((⟨w.heap.size, 0, none⟩ : Addr).add j) = some u := by
  intro j u hj
  match j, hj with
  | 0, hj => simp at hj; subst hj; exact new_cell rfl rfl
/-- A slice that lies in a row of strings, or nowhere. -/
def Tagged (w : World) (a : Option Addr) : Prop := a = none ∨ ∃ g c fz, a = some ⟨g, 0, none⟩ ∧ w.heap[g]? = some (.cells c 9 fz)
theorem tagged_of_row {w : World} {base : Nat} {n cap : Nat} {a : Option Addr} {xs : List Value} (h : w.ownsRow base 9 1 (.slice a n cap) n xs) : Tagged w a := by
  rcases h.2 with ⟨hv, _⟩ | ⟨g, cap, cur, hv, _, hc, _⟩
  · injection hv with h1; exact .inl h1
  · injection hv with h1; exact .inr ⟨g, _, _, h1, hc⟩
/-- The places of an error, as Trail returns them. -/
def TrailIs (l : List ByteArray) (w : World) (e : Ending) (w' : World) : Prop := ∃ a cap, e = .returned (.slice a l.length cap) ∧ Strs w' a l ∧ Tagged w' a ∧ Gr w w'
/-- What Trail's loop still has to go through. -/
def RestIs (w : World) (p : Option Addr) (M : List Lk) : Prop := p = none ∧ trailOf M = [] ∨ ∃ b c s L, p = some ⟨b, 0, none⟩ ∧ FaultAt w b c s L ∧ M = .fault c s :: L
theorem rest_of_first {L : List Lk} {W w w' : World} {e : Ending} (h : FirstIs W L w e w') : ∃ p M, e = .returned (.pointer p) ∧ RestIs W p M ∧ trailOf M = trailOf L ∧ M.length ≤ L.length ∧ (∀ n, Short n L → Short n M) ∧ Gr w w' := by
  cases hF : firstF L with
  | none =>
    obtain ⟨h1, h2⟩ := first_none hF h
    exact ⟨none, [], h1, .inl ⟨rfl, rfl⟩, (trailOf_none hF).symm, by simp, fun n _ c s hm => by simp at hm, h2⟩
  | some x =>
    obtain ⟨c, s, L'⟩ := x
    obtain ⟨b, h1, h2, h3⟩ := first_some hF h
    refine ⟨_, _, h1, .inr ⟨b, c, s, L', rfl, h2, rfl⟩, (trailOf_first hF).symm, by have := first_len hF; simp; omega, fun n hs c2 s2 hm => ?_, h3⟩
    obtain ⟨k1, k2⟩ := first_short hF hs
    rcases List.mem_cons.1 hm with h | h
    · cases h; exact k1
    · exact k2 _ _ h
end Go.Proofs.YtmgpnpmdmelnkaaGreatDoor
