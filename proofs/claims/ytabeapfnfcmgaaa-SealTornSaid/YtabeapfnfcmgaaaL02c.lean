import Derived.Test.YtabeapfnfcmgaaaF02h
import Derived.Test.YtabeapfnfcmgaaaC01
import Derived.Test.YtabeapfnfcmgaaaL02b
import Derived.WalkKit
import Derived.ProofKit
import Derived.LoopTactic
import Derived.Outline
import Derived.WalkSpells
import Derived.WalkLawsBesides
import Derived.Lib.Hide
import Derived.Deep.LoopGhost
import Derived.Deep.QuietTactic
import Derived.BigQuiet
import Derived.ShutString
namespace Go.Proofs.Ytabeapfnfcmgaaa
open Go.ChangeShapes Go.WideShapes Go.ChangeAt Go.RowKit
open Crc
set_option linter.unusedVariables false
theorem partCells_at (L : List (Nat × ByteArray)) (i : Nat) (h : i < L.length) : (partCells L)[i * 2]? = some (.int .u8 L[i].1) ∧ (partCells L)[i * 2 + 1]? = some (.string L[i].2) := by
  induction L generalizing i with
  | nil => simp at h
  | cons p t ih =>
    have e : partCells (p :: t) = .int .u8 p.1 :: .string p.2 :: partCells t := rfl
    rw [e]
    cases i with
    | zero => simp
    | succ i =>
      have := ih i (by simpa using h)
      have e2 : (i + 1) * 2 = i * 2 + 1 + 1 := by omega
      rw [e2]
      simpa using this
theorem scanB_len (s : ByteArray) : ∀ f n, (scanB s f n).1.length ≤ f
  | 0, n => by simp [scanB]
  | f + 1, n => by
    rw [scanB]
    split
    · have := scanB_len s f (n + (openB (s.extract n s.size)).2.1.size + 8)
      simp; omega
    · simp
set_option maxRecDepth 100000 in
set_option maxHeartbeats 1000000 in
theorem sealScans_walk (s : ByteArray) (w : World) (hs : s.size ≤ maxLen) :
    Calls Try.prog 11 #[.string s] w fun e w' => e = .returned (.bool true) ∧ Gr w w' := by
  have hs' : s.size ≤ 9223372036854775807 := hs
  clear hs
  have zs := cutB_le s 400
  go_enter Try.func11, Try.ntmps11
  go_wp2_with fail
  refine (awake2 w).mono ?_
  rintro e w1 ⟨rfl, hg⟩
  go_wp2_with fail
  refine (cut_any s 400 _ hs' (by decide)).mono ?_
  rintro e w2 ⟨rfl, rfl⟩
  clear hs'
  generalize cutB s 400 = s at *
  go_wp2_with fail
  refine (scan_any s _ (by omega)).mono ?_
  rintro e w2 ⟨v1, rfl, ho1, hg2⟩
  obtain ⟨L, M, hL⟩ : ∃ L M, scanB s (s.size + 1) 0 = (L, M) := ⟨_, _, rfl⟩
  have hLl : L.length ≤ 401 := by have := scanB_len s (s.size + 1) 0; rw [hL] at this; simp only at this; omega
  rw [hL] at ho1
  rw [hL]
  have HL := Lib.hid hL; clear hL
  obtain ⟨a1, c1, rfl, hc1⟩ := ownsRow_slice ho1
  clear ho1
  go_wp2_with fail
  refine (rscan_any s _ (by omega)).mono ?_
  rintro e w3 ⟨v2, rfl, ho2, hg3⟩
  rw [HL.out] at ho2
  rw [HL.out]
  obtain ⟨a2, c2, rfl, hc2⟩ := ownsRow_slice ho2
  clear ho2
  simp only
  go_wp2_with fail
  go_loopw [35] (fun i wr => ∃ k : Nat, k ≤ L.length ∧ i = .int .i64 (k : Nat) ∧ Gr w3 wr) (fun i _ => L.length - (intOf i).toNat)
  case atStart => exact ⟨0, by omega, rfl, Gr.refl _⟩
  case round =>
    obtain ⟨k, hk, rfl, hgr⟩ := hrel
    by_cases hlt : k < L.length
    · obtain ⟨p0, p1⟩ := partCells_at L k hlt
      rcases hc1 with ⟨_, h0⟩ | ⟨g1, rfl, hg1, hc1⟩
      · omega
      rcases hc2 with ⟨_, h0⟩ | ⟨g2, rfl, hg2', hc2⟩
      · omega
      have q0 := (hg3.trans hgr).cell (hc1 _ _ p0)
      have q1 := (hg3.trans hgr).cell (hc1 _ _ p1)
      have r0 := hgr.cell (hc2 _ _ p0)
      have r1 := hgr.cell (hc2 _ _ p1)
      have hgw2 := Nat.lt_of_lt_of_le hg2' hgr.size
      clear hc1 hc2 p0 p1
      generalize L[k].1 = K at *
      generalize L[k].2 = T at *
      go_wp2
      go_quiet (fail)
      go_wp2
      go_roundw
      case rel => exact ⟨k + 1, by omega, by go_num, (hgr.alloc _).drewN _⟩
      case measure => simp [intOf]; omega
    · obtain rfl : k = L.length := by omega
      clear hc1 hc2
      go_wp2
      go_ret
      exact ⟨rfl, ((hg.trans hg2).trans hg3).trans hgr⟩
end Go.Proofs.Ytabeapfnfcmgaaa
