import Derived.Test.YtihhfdkcggnjpaaK6
import Derived.WalkKit
import Derived.ProofKit
import Derived.LoopTactic
import Derived.Outline
import Derived.WalkSpells
import Derived.WalkLawsBesides
import Derived.Lib.Hide
import Derived.Deep.LoopGhost
import Derived.Deep.QuietTactic
import Derived.BigQuiet
import Derived.ShutString
namespace Go.Proofs.Ytihhfdkcggnjpaa
open Go.ChangeShapes Go.WideShapes Go.ChangeAt Go.RowKit
open Crc
set_option linter.unusedVariables false
/-- Frame by frame, from a place on: what stands in them, and the place behind them. -/
def scanB (s : ByteArray) : Nat → Nat → List (Nat × ByteArray) × Nat
  | 0, n => ([], n)
  | f + 1, n =>
    if (openB (s.extract n s.size)).2.2 = 0 then
      (((openB (s.extract n s.size)).1, (openB (s.extract n s.size)).2.1) :: (scanB s f (n + (openB (s.extract n s.size)).2.1.size + 8)).1, (scanB s f (n + (openB (s.extract n s.size)).2.1.size + 8)).2)
    else ([], n)
theorem scanB_stop (s : ByteArray) (f n : Nat) (h : (openB (s.extract n s.size)).2.2 ≠ 0) : scanB s f n = ([], n) := by
  cases f with
  | zero => rfl
  | succ f => rw [scanB, if_neg h]
theorem openB_ok (s : ByteArray) (k : Nat) (t : ByteArray) (h : openB s = (k, t, 0)) : t.size + 8 ≤ s.size ∧ k < 256 ∧ 1 ≤ k := by
  unfold openB at h
  split at h
  · simp at h
  · split at h
    · simp at h
    · split at h
      · simp at h
      · split at h
        · simp at h
        · split at h
          · simp at h
          · simp only [Prod.mk.injEq] at h
            obtain ⟨rfl, rfl, _⟩ := h
            have := bt_lt s 0
            simp
            omega
/-- The cells of the parts. -/
def partCells (l : List (Nat × ByteArray)) : List Value := l.flatMap fun p => [.int .u8 p.1, .string p.2]
theorem partCells_length (l : List (Nat × ByteArray)) : (partCells l).length = l.length * 2 := by
  induction l with
  | nil => rfl
  | cons p t ih => unfold partCells at *; simp [ih]; omega
theorem partCells_snoc (l : List (Nat × ByteArray)) (p : Nat × ByteArray) : partCells (l ++ [p]) = partCells l ++ [.int .u8 p.1, .string p.2] := by simp [partCells]
theorem open_is {s : ByteArray} {k : Nat} {t : ByteArray} {n : Nat} (h : openB s = (k, t, n)) {w w' : World} {e : Ending} (ho : OpenIs s w e w') :
    e = .returned (.tuple #[.int .u8 k, .string t, .int .i64 n]) ∧ Gr w w' := by
  unfold OpenIs at ho; rw [h] at ho; exact ho
theorem ropen_is {s : ByteArray} {k : Nat} {t : ByteArray} {n : Nat} (h : openB s = (k, t, n)) {w w' : World} {e : Ending} (ho : ROpenIs s w e w') :
    e = .returned (.tuple #[.agg #[.int .u8 k, .string t], .int .i64 n]) ∧ Gr w w' := by
  unfold ROpenIs at ho; rw [h] at ho; exact ho
theorem cells_two (w : World) (x y : Value) (t : TypeId) : ∀ (j : Nat) (u : Value), [x, y][j]? = some u → (w.alloc (.cells #[x, y] t)).cell? ((⟨w.heap.size, 0, none⟩ : Addr).add j) = some u := by
  intro j u hj
  match j, hj with
  | 0, hj => simp at hj; subst hj; exact new_cell rfl rfl
  | 1, hj => simp at hj; subst hj; exact new_cell rfl rfl
def ScanIs (E : TypeId) (s : ByteArray) (w : World) (e : Ending) (w' : World) : Prop :=
  ∃ v, e = .returned (.tuple #[v, .int .i64 (scanB s (s.size + 1) 0).2]) ∧ w'.ownsRow w.heap.size E 2 v (scanB s (s.size + 1) 0).1.length (partCells (scanB s (s.size + 1) 0).1) ∧ Gr w w'
theorem scanIs_mk {E : TypeId} {s : ByteArray} {w w' : World} {v : Value} {n : Nat} {L : List (Nat × ByteArray)} (h : Hid (scanB s (s.size + 1) 0 = (L, n))) (ho : w'.ownsRow w.heap.size E 2 v L.length (partCells L)) (hg : Gr w w') :
    ScanIs E s w (.returned (.tuple #[v, .int .i64 n])) w' := ⟨v, by rw [h.out], by rw [h.out]; exact ho, hg⟩
end Go.Proofs.Ytihhfdkcggnjpaa
