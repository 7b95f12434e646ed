import Derived.Test.YtnanclgnjchpeaaH19
import Derived.Test.YtnanclgnjchpeaaF19g
import Derived.WalkKit
import Derived.ProofKit
import Derived.LoopTactic
import Derived.Outline
import Derived.WalkSpells
import Derived.WalkLawsBesides
import Derived.Lib.Hide
import Derived.Deep.LoopGhost
import Derived.Deep.QuietTactic
import Derived.BigQuiet
import Derived.ShutString
namespace Go.Proofs.Ytnanclgnjchpeaa
open Go.ChangeShapes Go.WideShapes Go.ChangeAt Go.RowKit
open Bal
set_option linter.unusedVariables false
set_option linter.unusedSimpArgs false
/-- A learner that knows of a list of texts, from a slot on. -/
structure LInv (B : Int) (T : List ByteArray) (d : Nat) (a : Ln) : Prop where
  ba : a.ba = B
  dn : a.dn = B + d
  dT : d ≤ T.length
  fit : ∀ e ∈ a.L, ∃ n, ∃ h : n < T.length, e = ⟨B + 1 + (n : Nat), 0, 0, T[n]⟩
namespace LInv
variable {B : Int} {T : List ByteArray} {d : Nat} {a : Ln}
theorem old (h : LInv B T d a) {k : Nat} (hk : k < T.length) (hh : hasE a.L (B + 1 + (k : Nat)) = true) : oldE a.L (B + 1 + (k : Nat)) = ⟨B + 1 + (k : Nat), 0, 0, T[k]⟩ := by
  obtain ⟨h1, h2⟩ := old_mem hh
  obtain ⟨n, hn, e⟩ := h.fit _ h1
  rw [e] at h2
  have h2 : B + 1 + (n : Nat) = B + 1 + (k : Nat) := h2
  obtain rfl : n = k := by omega
  exact e
theorem learnR (h : LInv B T d a) (hT : T.length ≤ 40) {k : Nat} (hk : k < T.length) : a.learnR (B + 1 + (k : Nat)) T[k] = 0 := by
  have hb := h.ba
  have hd := h.dn
  unfold Ln.learnR
  rw [if_neg (by omega)]
  split
  · rename_i hh
    rw [h.old hk hh, if_pos rfl]
  · rw [if_neg (by omega)]
theorem learn (h : LInv B T d a) (hT : T.length ≤ 40) {k : Nat} (hk : k < T.length) : LInv B T d (a.learn (B + 1 + (k : Nat)) T[k]) ∧ (∀ x, hasE (a.learn (B + 1 + (k : Nat)) T[k]).L x = (decide (x = B + 1 + (k : Nat)) || hasE a.L x)) := by
  have hb := h.ba
  have hd := h.dn
  unfold Ln.learn
  rw [if_neg (by omega)]
  split
  · rename_i hh
    refine ⟨h, fun x => ?_⟩
    by_cases e : x = B + 1 + (k : Nat)
    · subst e; rw [hh]; simp
    · rw [decide_eq_false e, Bool.false_or]
  · rw [if_neg (by omega)]
    refine ⟨⟨hb, hd, h.dT, fun e he => ?_⟩, fun x => has_set _ _ _⟩
    rcases setE_mem he with rfl | he
    · exact ⟨k, hk, rfl⟩
    · exact h.fit e he
theorem next (h : LInv B T d a) (hn : a.nextB = true) : ∃ hd : d < T.length, a.nextE = ⟨B + 1 + (d : Nat), 0, 0, T[d]⟩ ∧ LInv B T (d + 1) a.next ∧ a.next.L = a.L := by
  have hb := h.ba
  have hd := h.dn
  unfold Ln.nextB at hn
  have e1 : a.dn + 1 = B + 1 + (d : Nat) := by omega
  rw [e1] at hn
  have hdT : d < T.length := by
    obtain ⟨h1, h2⟩ := old_mem hn
    obtain ⟨n, hn2, e⟩ := h.fit _ h1
    rw [e] at h2
    have h2 : B + 1 + (n : Nat) = B + 1 + (d : Nat) := h2
    omega
  refine ⟨hdT, ?_, ?_, ?_⟩
  · unfold Ln.nextE
    rw [e1]
    exact h.old hdT hn
  · unfold Ln.next Ln.nextB
    rw [e1, if_pos hn]
    exact ⟨hb, by show B + 1 + (d : Nat) = B + ((d + 1 : Nat) : Int); omega, by omega, h.fit⟩
  · unfold Ln.next Ln.nextB
    rw [e1, if_pos hn]
theorem stay (h : LInv B T d a) (hn : a.nextB = false) : a.next = a ∧ hasE a.L (B + 1 + (d : Nat)) = false := by
  have hd := h.dn
  unfold Ln.next
  rw [hn]
  refine ⟨rfl, ?_⟩
  unfold Ln.nextB at hn
  have e1 : a.dn + 1 = B + 1 + (d : Nat) := by omega
  rwa [e1] at hn
/-- All is known, and nothing is next: all is done. -/
theorem all {N : Nat} (h : LInv B T d a) (hok : a.Ok N) (hh : ∀ k : Nat, k < T.length → hasE a.L (B + 1 + (k : Nat)) = true) (hn : hasE a.L (B + 1 + (d : Nat)) = false) : d = T.length ∧ a.L.length = d := by
  have hd := h.dT
  have e : d = T.length := by
    by_cases hlt : d < T.length
    · have := hh d hlt; rw [hn] at this; simp at this
    · omega
  refine ⟨e, ?_⟩
  have hb := h.ba
  have h1 := asc_ge hok.asc hok.low
  have hle : a.L.length ≤ d := by
    by_cases hlt : d < a.L.length
    · obtain ⟨n, hnT, e2⟩ := h.fit _ (List.getElem_mem hlt)
      have := h1 d hlt
      rw [e2] at this
      have : a.ba + 1 + (d : Nat) ≤ B + 1 + (n : Nat) := this
      omega
    · omega
  have hge : d ≤ a.L.length := by
    by_cases h0 : d = 0
    · omega
    · obtain ⟨h2, _⟩ := asc_run hok.asc hok.low hok.has (d - 1) (by have := h.dn; omega)
      omega
  omega
end LInv
theorem linv0 {B : Int} (T : List ByteArray) : LInv B T 0 ⟨B, B, []⟩ := ⟨rfl, by show B = B + ((0 : Nat) : Int); omega, by omega, by simp⟩
theorem fromE_all {L : List E} {x : Int} (h : ∀ e ∈ L, x ≤ e.slot) : fromE L x = L := by
  unfold fromE
  rw [List.filter_eq_self]
  exact fun e he => decide_eq_true (h e he)
/-- The log of all. -/
theorem log_all {a : Ln} {N : Nat} (hok : a.Ok N) {d : Nat} (hl : a.L.length = d) (hd : d ≤ 40) : (logE a d 0 99).length = d := by
  unfold logE
  rw [List.take_of_length_le (show a.L.length ≤ d by omega), fromE_all (fun e he => by have := hok.low e he; have := hok.b0; omega), List.length_take, hl]
  omega
end Go.Proofs.Ytnanclgnjchpeaa
