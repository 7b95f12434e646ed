import Derived.Test.YtabeapfnfcmgaaaF02g
import Derived.WalkKit
import Derived.ProofKit
import Derived.LoopTactic
import Derived.Outline
import Derived.WalkSpells
import Derived.WalkLawsBesides
import Derived.Lib.Hide
import Derived.Deep.LoopGhost
import Derived.Deep.QuietTactic
import Derived.BigQuiet
import Derived.ShutString
namespace Go.Proofs.Ytabeapfnfcmgaaa
open Go.ChangeShapes Go.WideShapes Go.ChangeAt Go.RowKit
open Crc
set_option linter.unusedVariables false
theorem info_rpart : (Try.prog.info? 69).map (fun i => (i.zero, i.size, i.bytes)) = some (some (.agg #[.int .u8 0, .string ⟨#[]⟩]), 2, 24) := by kernel_rfl
theorem openB_ok8 (s : ByteArray) (n : Nat) (k : Nat) (t : ByteArray) (hn : n ≤ s.size) (h : openB (s.extract n s.size) = (k, t, 0)) : n + t.size + 8 ≤ s.size ∧ k < 256 ∧ 1 ≤ k := by
  have := openB_ok _ _ _ h
  simp at this
  omega
set_option maxRecDepth 100000 in
set_option maxHeartbeats 1000000 in
theorem rscan_any (s : ByteArray) (w : World) (hs : s.size ≤ 100000000) : Calls Try.prog 43 #[.string s] w (ScanIs 69 s w) := by
  obtain ⟨i0, hi, hz0, hz1, hz2⟩ := info_parts info_rpart
  go_enter Try.func43, Try.ntmps43
  go_wp2
  go_loopw [4, 5, 6] (fun v i t wr => ∃ n f L j, n ≤ s.size ∧ s.size < n + f ∧ L.length ≤ n ∧ j ≤ n ∧ i = .int .i64 (n : Nat) ∧ t = .int .i64 (j : Nat) ∧ wr.ownsRow w.heap.size 69 2 v L.length (partCells L) ∧ Gr w wr ∧ Hid (scanB s (s.size + 1) 0 = (L ++ (scanB s f n).1, (scanB s f n).2))) (fun _ i _ _ => s.size - (intOf i).toNat)
  case atStart => exact ⟨0, s.size + 1, [], 0, by omega, by omega, by simp, by omega, rfl, rfl, World.ownsRow_made w #[] 0 (by omega) (by decide) rfl, (Gr.refl _).alloc _, rfl⟩
  case round =>
    obtain ⟨n, f, L, j, hn, hf, hL, hj, rfl, rfl, hown, hg, hS⟩ := hrel
    obtain ⟨K, T, N, hO⟩ : ∃ K T N, openB (s.extract n s.size) = (K, T, N) := ⟨_, _, _, rfl⟩
    have HO := Lib.hid hO
    have z1 : (s.extract n s.size).size ≤ 1000000000 := by simp; omega
    have Z1 := Lib.hid z1; clear z1
    have b1 : 0 ≤ (n : Int) ∧ (n : Int) ≤ s.size := by omega
    by_cases hN : N = 0
    · subst hN
      obtain ⟨ht, hk, hk1⟩ := openB_ok8 _ _ _ _ hn hO
      have hstep : scanB s f n = ((K, T) :: (scanB s (f - 1) (n + T.size + 8)).1, (scanB s (f - 1) (n + T.size + 8)).2) := by
        obtain ⟨g, rfl⟩ : ∃ g, f = g + 1 := ⟨f - 1, by omega⟩
        rw [scanB, hO]; rfl
      have Hstep := Lib.hid hstep
      clear hO hstep
      go_wp2_with fail
      refine (ropen_any _ _ Z1.out).mono ?_
      intro e w2 ho
      obtain ⟨rfl, hg2⟩ := ropen_is HO.out ho
      clear ho
      have hown2 := ownsRow_gr hg2 hown
      go_wp2_with (at_builtin; refine wpList_append_own _ rfl (.tmp 27) (.tmp 29) 80 rfl w.heap.size 69 i0 (.agg #[.int .u8 0, .string ⟨#[]⟩]) 2 24 Try.underlying80 hi hz0 hz1 hz2 rfl (by decide) _ _ _ rfl ((hown2.alloc _).alloc _) ⟨w2.heap.size + 1, 0, none⟩ 1 1 [.int .u8 K, .string T] rfl rfl ?c1 ?c2 ?c3 ?c4 ?c5 ?_)
      case c1 => have h := cells_two (w2.alloc (.cells #[.int .u8 K, .string T] 69)) (.int .u8 K) (.string T) 69; rw [World.size_alloc] at h; exact h
      case c2 => intro u hu; simp at hu; rcases hu with rfl | rfl <;> rfl
      case c3 => unfold maxLen; omega
      case c4 => omega
      case c5 => have := (hg.trans hg2).size; simp; omega
      · intro v' w3 hown3 hgrow _
        have hg3 := (((hg.trans hg2).alloc (.cells #[.int .u8 K, .string T] 69)).alloc (.cells #[.int .u8 K, .string T] 69)).append ((hown2.alloc _).alloc _) hgrow
        have hp : w3.cell? ⟨w2.heap.size, 1, none⟩ = some (.string T) := by
          refine hgrow.cell (((Gr.refl _).alloc _).cell (new_cell rfl rfl)) ?_
          intro e
          have := hown2.lt w2.heap.size e.symm
          omega
        clear hgrow hown hown2
        go_wp2
        go_roundw
        case rel =>
          refine ⟨n + T.size + 8, f - 1, L ++ [(K, T)], j + 1, by omega, by omega, by simp; omega, by omega, by go_num, by go_num, ?_, hg3, ?_⟩
          · rw [partCells_snoc]; simpa using hown3
          · show _ = _
            rw [hS.out, Hstep.out]; simp
        case measure => simp [intOf]; omega
    · have t2 : ((N : Int) != 0) = true := by simp; omega
      have hstop : scanB s f n = ([], n) := scanB_stop s f n (by rw [hO]; exact hN)
      have Hstop := Lib.hid hstop
      clear hO hN hstop
      go_wp2_with fail
      refine (ropen_any _ _ Z1.out).mono ?_
      intro e w2 ho
      obtain ⟨rfl, hg2⟩ := ropen_is HO.out ho
      clear ho
      have hown2 := ownsRow_gr hg2 hown
      go_wp2_with fail
      go_ret2
      exact scanIs_mk (by show _ = _; rw [hS.out, Hstop.out]; simp) (hown2.alloc _) ((hg.trans hg2).alloc _)
end Go.Proofs.Ytabeapfnfcmgaaa
