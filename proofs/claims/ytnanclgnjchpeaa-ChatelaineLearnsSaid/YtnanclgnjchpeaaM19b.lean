import Derived.Test.YtnanclgnjchpeaaH19
import Derived.WalkKit
import Derived.ProofKit
import Derived.LoopTactic
import Derived.Outline
import Derived.WalkSpells
import Derived.WalkLawsBesides
import Derived.Lib.Hide
import Derived.Deep.LoopGhost
import Derived.Deep.QuietTactic
import Derived.BigQuiet
import Derived.ShutString
namespace Go.Proofs.Ytnanclgnjchpeaa
open Go.ChangeShapes Go.WideShapes Go.ChangeAt Go.RowKit
open Bal
set_option linter.unusedVariables false
set_option linter.unusedSimpArgs false
/-- A learner that knows of a list of texts, from slot 1 on, and has images now and then. -/
structure CInv (T : List ByteArray) (d : Nat) (a : Ln) : Prop where
  dn : a.dn = d
  dT : d ≤ T.length
  fit : ∀ e ∈ a.L, ∃ n, ∃ h : n < T.length, e = ⟨((n : Nat) : Int) + 1, 0, 0, T[n]⟩
namespace CInv
variable {T : List ByteArray} {d : Nat} {a : Ln}
theorem old (h : CInv T d a) {k : Nat} (hk : k < T.length) (hh : hasE a.L ((k : Nat) + 1) = true) : oldE a.L ((k : Nat) + 1) = ⟨((k : Nat) : Int) + 1, 0, 0, T[k]⟩ := by
  obtain ⟨h1, h2⟩ := old_mem hh
  obtain ⟨n, hn, e⟩ := h.fit _ h1
  rw [e] at h2
  have h2 : ((n : Nat) : Int) + 1 = (k : Nat) + 1 := h2
  obtain rfl : n = k := by omega
  exact e
theorem learnR (h : CInv T d a) (hT : T.length ≤ 40) {k : Nat} (hk : k < T.length) : a.learnR ((k : Nat) + 1) T[k] = 0 := by
  have hd := h.dn
  unfold Ln.learnR
  split
  · rfl
  · split
    · rename_i hh
      rw [h.old hk hh, if_pos rfl]
    · rw [if_neg (by omega)]
theorem learn (h : CInv T d a) {k : Nat} (hk : k < T.length) : CInv T d (a.learn ((k : Nat) + 1) T[k]) := by
  unfold Ln.learn
  split
  · exact h
  · split
    · exact h
    · split
      · exact h
      · refine ⟨h.dn, h.dT, fun e he => ?_⟩
        rcases setE_mem he with rfl | he
        · exact ⟨k, hk, rfl⟩
        · exact h.fit e he
theorem next (h : CInv T d a) (hn : a.nextB = true) : ∃ hd : d < T.length, a.nextE = ⟨((d : Nat) : Int) + 1, 0, 0, T[d]⟩ ∧ CInv T (d + 1) a.next := by
  have hd := h.dn
  unfold Ln.nextB at hn
  rw [hd] at hn
  have hdT : d < T.length := by
    obtain ⟨h1, h2⟩ := old_mem hn
    obtain ⟨n, hn2, e⟩ := h.fit _ h1
    rw [e] at h2
    have h2 : ((n : Nat) : Int) + 1 = (d : Nat) + 1 := h2
    omega
  refine ⟨hdT, ?_, ?_⟩
  · unfold Ln.nextE
    rw [hd]
    exact h.old hdT hn
  · unfold Ln.next Ln.nextB
    rw [hd, if_pos hn]
    exact ⟨by show ((d : Nat) : Int) + 1 = ((d + 1 : Nat) : Int); omega, by omega, h.fit⟩
theorem stay (h : CInv T d a) (hn : a.nextB = false) : a.next = a := by
  unfold Ln.next
  rw [hn]
  rfl
theorem fold (h : CInv T d a) (x : Int) : CInv T d (a.fold x) := by
  unfold Ln.fold
  split
  · exact ⟨h.dn, h.dT, fun e he => h.fit e (List.mem_filter.1 he).1⟩
  · exact h
theorem install (h : CInv T d a) (hd : d < T.length) : CInv T (d + 1) (a.install ((d : Nat) + 1)) := by
  have hb := h.dn
  unfold Ln.install Ln.takes
  rw [hb, decide_eq_true (by omega), if_pos rfl]
  exact ⟨by show ((d : Nat) : Int) + 1 = ((d + 1 : Nat) : Int); omega, by omega, fun e he => h.fit e (List.mem_filter.1 he).1⟩
end CInv
theorem cinv0 (T : List ByteArray) : CInv T 0 ⟨0, 0, []⟩ := ⟨rfl, by omega, by simp⟩
/-- Each is empty, or as learned. -/
def GoodG (T G : List ByteArray) : Prop := G.length = T.length ∧ ∀ i (h1 : i < G.length) (h2 : i < T.length), G[i] = ⟨#[]⟩ ∨ G[i] = T[i]
theorem goodG0 (T : List ByteArray) : GoodG T (List.replicate T.length ⟨#[]⟩) := ⟨by simp, fun i h1 h2 => .inl (by simp)⟩
theorem goodG_set {T G : List ByteArray} (h : GoodG T G) (d : Nat) (hd : d < T.length) : GoodG T (G.set d T[d]) := by
  refine ⟨by simp [h.1], fun i h1 h2 => ?_⟩
  rw [List.getElem_set]
  split
  · rename_i e; subst e; exact .inr rfl
  · exact h.2 i (by simpa using h1) h2
end Go.Proofs.Ytnanclgnjchpeaa
