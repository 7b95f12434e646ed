import Derived.Test.YtfcfbecfamemlaaJ12
import Derived.Test.YtfcfbecfamemlaaL01p
import Derived.WalkKit
import Derived.ProofKit
import Derived.LoopTactic
import Derived.Outline
import Derived.WalkSpells
import Derived.WalkLawsBesides
import Derived.Lib.Hide
import Derived.Deep.LoopGhost
import Derived.Deep.QuietTactic
import Derived.BigQuiet
import Derived.ShutString
import Derived.IntWalk
import Derived.Lib.MinMax
import Derived.Deep.RegionWith
import Derived.Deep.RegionHeld3
namespace Go.Proofs.Ytfcfbecfamemlaa
open Go.ChangeShapes Go.WideShapes Go.ChangeAt Go.RowKit
open Dk Enc
set_option linter.unusedVariables false
set_option linter.unusedSimpArgs false
theorem open_good {s p : ByteArray} {k : Nat} (h : openB s = (k, p, 0)) (hz : p.size + 8 = s.size) : s = rframe k p := by
  unfold openB at h
  split at h
  · simp at h
  · rename_i h1
    split at h
    · simp at h
    · split at h
      · simp at h
      · split at h
        · simp at h
        · rename_i h4
          split at h
          · simp at h
          · rename_i h5
            simp only [Prod.mk.injEq, and_true] at h
            obtain ⟨e1, e2⟩ := h
            have hp : p.size = Go.Proofs.Ytfcfbecfamemlaa.n3 s := by rw [← e2]; simp; omega
            have := (rframe_iff s (by omega) (by omega)).2 (Decidable.of_not_not h5)
            rw [e1, e2, show Go.Proofs.Ytfcfbecfamemlaa.n3 s + 8 = s.size by omega, hole_whole] at this
            exact this.symm
theorem parse_ref {s p r1 r2 t : ByteArray} {k n e1 v e2 : Nat} (hs : s.size ≤ 500000) (h0 : s ≠ ⟨#[]⟩) (hO : openB s = (k, p, n)) (hU : uS p 0 = (r1, e1, v)) (hS : sS r1 e1 524288 = (r2, e2, t)) :
    (n = 0 ∧ k = 1 ∧ p.size + 8 = s.size ∧ doneE r2 e2 = 0 ∧ v ≠ 0 ∧ parseB s = (v, t, false)) ∨ (¬ (n = 0 ∧ k = 1 ∧ p.size + 8 = s.size ∧ doneE r2 e2 = 0 ∧ v ≠ 0) ∧ parseB s = (0, ⟨#[]⟩, true)) := by
  have hvl : v < 18446744073709551616 := by have := uS_lt p 0; rwa [hU] at this
  by_cases hg : n = 0 ∧ k = 1 ∧ p.size + 8 = s.size ∧ doneE r2 e2 = 0 ∧ v ≠ 0
  · left
    obtain ⟨rfl, rfl, hz, hd, hv⟩ := hg
    refine ⟨rfl, rfl, hz, hd, hv, ?_⟩
    have e := open_good hO hz
    obtain ⟨hr2, rfl⟩ := done_zero hd
    obtain ⟨rfl, hp1⟩ := sS_form hS
    have hp := uS_form hU
    rw [empty_of hr2, append_empty] at hp1
    have hin : p = inner v t := by
      rw [hp, hp1]
      exact ofL_app _ _
    have hts : t.size ≤ p.size := by
      rw [hp, hp1, ByteArray.size_append, ofL_size, ofL_size, encS, List.length_append, bytesOf_length]; omega
    rw [e, hin]
    exact parse_spell v t (by omega) hvl (by omega)
  · right
    refine ⟨hg, ?_⟩
    rcases parse_ways s with ⟨h, _⟩ | ⟨h1, h2, _⟩ | ⟨_, h⟩
    · exact absurd h h0
    · exfalso
      apply hg
      have hv : inV s < 18446744073709551616 := uS_lt _ _
      have ht := inT_le s
      have hsz : s.size = (inner (inV s) (inT s)).size + 8 := by
        have := spell_size (inV s) (inT s)
        rw [← h2] at this
        exact this
      generalize inV s = V at *
      generalize inT s = T at *
      have o := openB_spell V T (by omega)
      rw [← h2, hO] at o
      simp only [Prod.mk.injEq] at o
      obtain ⟨rfl, rfl, rfl⟩ := o
      have u := uS_inner V T hv
      rw [hU] at u
      simp only [Prod.mk.injEq] at u
      obtain ⟨rfl, rfl, rfl⟩ := u
      have b := sS_back (ofL (encS (bytesOf T))) T [] 524288 (by omega) (by omega) (by rw [bytesOf_ofL, List.append_nil])
      rw [hS] at b
      simp only [Prod.mk.injEq] at b
      obtain ⟨rfl, rfl, rfl⟩ := b
      exact ⟨rfl, rfl, hsz.symm, rfl, by omega⟩
    · exact h
end Go.Proofs.Ytfcfbecfamemlaa
