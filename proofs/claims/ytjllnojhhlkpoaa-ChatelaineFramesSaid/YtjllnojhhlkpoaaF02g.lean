import Derived.Test.YtjllnojhhlkpoaaF02f
import Derived.WalkKit
import Derived.ProofKit
import Derived.LoopTactic
import Derived.Outline
import Derived.WalkSpells
import Derived.WalkLawsBesides
import Derived.Lib.Hide
import Derived.Deep.LoopGhost
import Derived.Deep.QuietTactic
import Derived.BigQuiet
import Derived.ShutString
namespace Go.Proofs.Ytjllnojhhlkpoaa
open Go.ChangeShapes Go.WideShapes Go.ChangeAt Go.RowKit
open Crc
set_option linter.unusedVariables false
/-- Frame by frame, from a place on: what stands in them, and the place behind them. -/
def scanB (s : ByteArray) : Nat → Nat → List (Nat × ByteArray) × Nat
  | 0, n => ([], n)
  | f + 1, n =>
    if (openB (s.extract n s.size)).2.2 = 0 then
      (((openB (s.extract n s.size)).1, (openB (s.extract n s.size)).2.1) :: (scanB s f (n + (openB (s.extract n s.size)).2.1.size + 8)).1, (scanB s f (n + (openB (s.extract n s.size)).2.1.size + 8)).2)
    else ([], n)
theorem scanB_stop (s : ByteArray) (f n : Nat) (h : (openB (s.extract n s.size)).2.2 ≠ 0) : scanB s f n = ([], n) := by
  cases f with
  | zero => rfl
  | succ f => rw [scanB, if_neg h]
theorem openB_ok (s : ByteArray) (k : Nat) (t : ByteArray) (h : openB s = (k, t, 0)) : t.size + 8 ≤ s.size ∧ k < 256 ∧ 1 ≤ k := by
  unfold openB at h
  split at h
  · simp at h
  · split at h
    · simp at h
    · split at h
      · simp at h
      · split at h
        · simp at h
        · split at h
          · simp at h
          · simp only [Prod.mk.injEq] at h
            obtain ⟨rfl, rfl, _⟩ := h
            have := bt_lt s 0
            simp
            omega
/-- The cells of the parts. -/
def partCells (l : List (Nat × ByteArray)) : List Value := l.flatMap fun p => [.int .u8 p.1, .string p.2]
theorem partCells_length (l : List (Nat × ByteArray)) : (partCells l).length = l.length * 2 := by
  induction l with
  | nil => rfl
  | cons p t ih => unfold partCells at *; simp [ih]; omega
theorem partCells_snoc (l : List (Nat × ByteArray)) (p : Nat × ByteArray) : partCells (l ++ [p]) = partCells l ++ [.int .u8 p.1, .string p.2] := by simp [partCells]
theorem open_is {s : ByteArray} {k : Nat} {t : ByteArray} {n : Nat} (h : openB s = (k, t, n)) {w w' : World} {e : Ending} (ho : OpenIs s w e w') :
    e = .returned (.tuple #[.int .u8 k, .string t, .int .i64 n]) ∧ Gr w w' := by
  unfold OpenIs at ho; rw [h] at ho; exact ho
theorem ropen_is {s : ByteArray} {k : Nat} {t : ByteArray} {n : Nat} (h : openB s = (k, t, n)) {w w' : World} {e : Ending} (ho : ROpenIs s w e w') :
    e = .returned (.tuple #[.agg #[.int .u8 k, .string t], .int .i64 n]) ∧ Gr w w' := by
  unfold ROpenIs at ho; rw [h] at ho; exact ho
theorem cells_two (w : World) (x y : Value) (t : TypeId) : ∀ (j : Nat) (u : Value), [x, y][j]? = some u → (w.alloc (.cells #[x, y] t)).cell? ((⟨w.heap.size, 0, none⟩ : Addr).add j) = some u := by
  intro j u hj
  match j, hj with
  | 0, hj => simp at hj; subst hj; exact new_cell rfl rfl
  | 1, hj => simp at hj; subst hj; exact new_cell rfl rfl
def ScanIs (E : TypeId) (s : ByteArray) (w : World) (e : Ending) (w' : World) : Prop :=
  ∃ v, e = .returned (.tuple #[v, .int .i64 (scanB s (s.size + 1) 0).2]) ∧ w'.ownsRow w.heap.size E 2 v (scanB s (s.size + 1) 0).1.length (partCells (scanB s (s.size + 1) 0).1) ∧ Gr w w'
theorem scanIs_mk {E : TypeId} {s : ByteArray} {w w' : World} {v : Value} {n : Nat} {L : List (Nat × ByteArray)} (h : Hid (scanB s (s.size + 1) 0 = (L, n))) (ho : w'.ownsRow w.heap.size E 2 v L.length (partCells L)) (hg : Gr w w') :
    ScanIs E s w (.returned (.tuple #[v, .int .i64 n])) w' := ⟨v, by rw [h.out], by rw [h.out]; exact ho, hg⟩
theorem info_part : (Try.prog.info? 62).map (fun i => (i.zero, i.size, i.bytes)) = some (some (.agg #[.int .u8 0, .string ⟨#[]⟩]), 2, 24) := by kernel_rfl
set_option maxRecDepth 100000 in
set_option maxHeartbeats 1000000 in
theorem scan_any (s : ByteArray) (w : World) (hs : s.size ≤ 100000000) : Calls Try.prog 28 #[.string s] w (ScanIs 62 s w) := by
  obtain ⟨i0, hi, hz0, hz1, hz2⟩ := info_parts info_part
  go_enter Try.func28, Try.ntmps28
  go_wp2
  go_loopw [4, 5] (fun v i wr => ∃ n f L, n ≤ s.size ∧ s.size < n + f ∧ L.length ≤ n ∧ i = .int .i64 (n : Nat) ∧ wr.ownsRow w.heap.size 62 2 v L.length (partCells L) ∧ Gr w wr ∧ Hid (scanB s (s.size + 1) 0 = (L ++ (scanB s f n).1, (scanB s f n).2))) (fun _ i _ => s.size - (intOf i).toNat)
  case atStart => exact ⟨0, s.size + 1, [], by omega, by omega, by simp, rfl, World.ownsRow_nil _ _ _ _, Gr.refl _, rfl⟩
  case round =>
    obtain ⟨n, f, L, hn, hf, hL, rfl, hown, hg, hS⟩ := hrel
    obtain ⟨K, T, N, hO⟩ : ∃ K T N, openB (s.extract n s.size) = (K, T, N) := ⟨_, _, _, rfl⟩
    have HO := Lib.hid hO
    have z1 : (s.extract n s.size).size ≤ 1000000000 := by simp; omega
    have hz : (s.extract n s.size).size = s.size - n := by simp
    have Z1 := Lib.hid z1; clear z1
    have b1 : 0 ≤ (n : Int) ∧ (n : Int) ≤ s.size := by omega
    by_cases hN : N = 0
    · subst hN
      obtain ⟨ht, hk, hk1⟩ := openB_ok _ _ _ hO
      rw [hz] at ht
      have hstep : scanB s f n = ((K, T) :: (scanB s (f - 1) (n + T.size + 8)).1, (scanB s (f - 1) (n + T.size + 8)).2) := by
        obtain ⟨g, rfl⟩ : ∃ g, f = g + 1 := ⟨f - 1, by omega⟩
        rw [scanB, hO]; rfl
      have Hstep := Lib.hid hstep
      clear hO hz hstep
      go_wp2_with fail
      refine (open_any _ _ Z1.out).mono ?_
      intro e w2 ho
      obtain ⟨rfl, hg2⟩ := open_is HO.out ho
      clear ho
      have hown2 := ownsRow_gr hg2 hown
      go_wp2_with (at_builtin; refine wpList_append_own _ rfl (.tmp 21) (.tmp 25) 58 rfl w.heap.size 62 i0 (.agg #[.int .u8 0, .string ⟨#[]⟩]) 2 24 Try.underlying58 hi hz0 hz1 hz2 rfl (by decide) _ _ _ rfl (hown2.alloc _) ⟨w2.heap.size, 0, none⟩ 1 1 [.int .u8 K, .string T] rfl rfl ?c1 ?c2 ?c3 ?c4 ?c5 ?_)
      case c1 => exact cells_two w2 _ _ _
      case c2 => intro u hu; simp at hu; rcases hu with rfl | rfl <;> rfl
      case c3 => unfold maxLen; omega
      case c4 => omega
      case c5 => have := (hg.trans hg2).size; simp; omega
      · intro v' w3 hown3 hgrow _
        have hg3 := ((hg.trans hg2).alloc (.cells #[.int .u8 K, .string T] 62)).append (hown2.alloc _) hgrow
        clear hgrow hown hown2
        go_wp2
        go_roundw
        case rel =>
          refine ⟨n + T.size + 8, f - 1, L ++ [(K, T)], by omega, by omega, by simp; omega, by go_num, ?_, hg3, ?_⟩
          · rw [partCells_snoc]; simpa using hown3
          · show _ = _
            rw [hS.out, Hstep.out]; simp
        case measure => simp [intOf]; omega
    · have t2 : ((N : Int) != 0) = true := by simp; omega
      have hstop : scanB s f n = ([], n) := scanB_stop s f n (by rw [hO]; exact hN)
      have Hstop := Lib.hid hstop
      clear hO hz hN hstop
      go_wp2_with fail
      refine (open_any _ _ Z1.out).mono ?_
      intro e w2 ho
      obtain ⟨rfl, hg2⟩ := open_is HO.out ho
      clear ho
      have hown2 := ownsRow_gr hg2 hown
      go_wp2_with fail
      go_ret2
      exact scanIs_mk (by show _ = _; rw [hS.out, Hstop.out]; simp) hown2 (hg.trans hg2)
end Go.Proofs.Ytjllnojhhlkpoaa
