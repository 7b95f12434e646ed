import Derived.Test.YtfgkgpkaohkehaaGreatDoorK14
import Derived.Test.YtfgkgpkaohkehaaGreatDoorC12
import Derived.WalkKit
import Derived.ProofKit
import Derived.LoopTactic
import Derived.Outline
import Derived.WalkSpells
import Derived.WalkLawsBesides
import Derived.Lib.Hide
import Derived.Deep.LoopGhost
import Derived.Deep.QuietTactic
import Derived.BigQuiet
import Derived.ShutString
import Derived.IntWalk
import Derived.Deep.RegionWith
import Derived.Deep.RegionHeld3
import Derived.Test.YtfgkgpkaohkehaaGreatDoorSh0
import Derived.Laws.OwnMore
namespace Go.Proofs.YtfgkgpkaohkehaaGreatDoor
open Go.ChangeShapes Go.WideShapes Go.ChangeAt Go.RowKit
set_option linter.unusedVariables false
set_option linter.unusedSimpArgs false
def fnvS (h : Int) (b : UInt8) : Int := IntKind.u64.wrap (bits .xor .u64 h (b.toNat : Int) * 1099511628211)
def fnvL (l : List UInt8) : Int := l.foldl fnvS 14695981039346656037
theorem fnvS_bd (h : Int) (b : UInt8) : 0 ≤ fnvS h b ∧ fnvS h b < 18446744073709551616 := by
  unfold fnvS
  rw [IntKind.wrap_u64]
  omega
theorem fnvL_snoc (l : List UInt8) (b : UInt8) : fnvL (l ++ [b]) = fnvS (fnvL l) b := by unfold fnvL; rw [List.foldl_append]; rfl
theorem fnvL_bd (l : List UInt8) : 0 ≤ fnvL l ∧ fnvL l < 18446744073709551616 := by
  by_cases h : l = []
  · subst h; decide
  · rw [← List.dropLast_concat_getLast h, fnvL_snoc]; exact fnvS_bd _ _
/-- A byte of a number, counted from the least one. -/
def byt (H : Int) (i : Nat) : Int := H / 256 ^ i % 256
theorem byt_bd (H : Int) (i : Nat) : 0 ≤ byt H i ∧ byt H i < 256 := by unfold byt; omega
def b8d (n : Int) : UInt8 := UInt8.ofNat n.toNat
theorem b8d_toNat {n : Int} (h0 : 0 ≤ n) (h1 : n < 256) : ((b8d n).toNat : Int) = n := by
  unfold b8d; simp; omega
/-- The last k of n bytes of a number. -/
def digD (H : Int) : Nat → ByteArray
  | 0 => ⟨#[]⟩
  | k + 1 => ⟨#[b8d (byt H k)]⟩ ++ digD H k
theorem digD_size (H : Int) : ∀ k, (digD H k).size = k
  | 0 => rfl
  | k + 1 => by rw [digD, ByteArray.size_append, digD_size H k]; show 1 + k = k + 1; omega
/-- What lies in the block behind k rounds. -/
def dAt (H : Int) (k j : Nat) : Value := if 8 ≤ j + k then .int .u8 (byt H (7 - j)) else .int .u8 0
def dCells (H : Int) (k : Nat) : Array Value := #[dAt H k 0, dAt H k 1, dAt H k 2, dAt H k 3, dAt H k 4, dAt H k 5, dAt H k 6, dAt H k 7]
theorem conv1d (k : Int) (h0 : 0 ≤ k ∧ k < 256) (W : World) (b : Nat) (hc : W.cell? ⟨b, 0, none⟩ = some (.int .u8 k)) :
    (convert 78 9 (.slice (some ⟨b, 0, none⟩) 1 1)).run Tryz.prog W = .ok (.string ⟨#[b8d k]⟩) W :=
  run_convert_bytes_back (P := Tryz.prog) W 78 9 5 ⟨b, 0, none⟩ 1 [b8d k] Tryz.underlying78 Tryz.underlying5 Tryz.underlying9 (by
    intro j hj
    have hj' : j < 1 := hj
    match j, hj' with
    | 0, _ => simpa [Addr.add, b8d_toNat h0.1 h0.2] using hc)
end Go.Proofs.YtfgkgpkaohkehaaGreatDoor
namespace Go.Proofs.YtfgkgpkaohkehaaGreatDoor
open Go.ChangeShapes Go.WideShapes Go.ChangeAt Go.RowKit
open Bal
set_option linter.unusedVariables false
set_option linter.unusedSimpArgs false
end Go.Proofs.YtfgkgpkaohkehaaGreatDoor
namespace Go.Proofs.YtfgkgpkaohkehaaGreatDoor
open Go.ChangeShapes Go.WideShapes Go.ChangeAt Go.RowKit
open Bal
set_option linter.unusedVariables false
set_option linter.unusedSimpArgs false
/-- A grant keeps a node off. -/
def barsA (to til from' now : Int) : Bool := !(decide (to = 0 ∧ til = 0)) && (to != from' + 1 && decide (now < til))
end Go.Proofs.YtfgkgpkaohkehaaGreatDoor
namespace Go.Proofs.YtfgkgpkaohkehaaGreatDoor
open Go.ChangeShapes Go.WideShapes Go.ChangeAt Go.RowKit
open Bal
set_option linter.unusedVariables false
set_option linter.unusedSimpArgs false
theorem rows_store {w : World} {c : Nat} {cur : Array Value} {t : TypeId} (ms : List Value) (h : Blk w c cur t) (hl : ms.length = cur.size) (h1 : ∀ v ∈ ms, v.oneCell' = true) :
    ∃ W2, (storeCells ⟨c, 0, none⟩ ms).run Tryz.prog w = .ok () W2 ∧ (∀ j (hj : j < ms.length), W2.cell? ⟨c, j, none⟩ = some ms[j]) ∧ (∀ j, W2.frozen? ⟨c, j, none⟩ = false) ∧ w.grownBy W2 (some c) := by
  have hs : ∀ j, j < ms.length → (w.cell? ⟨c, j, none⟩).isSome = true := fun j hj => by
    rw [h.cell (i := j) (Array.getElem?_eq_getElem (by omega))]; rfl
  refine ⟨w.setCells c 0 ms, ?_, fun j hj => ?_, fun j => (World.frozen?_setCells c ms 0 w _).trans (h.free j), grown_cells c ms 0 w⟩
  · have := run_storeCells_cells (P := Tryz.prog) c 0 ms 0 w (fun j hj => by simpa using hs j hj) (fun j _ => h.free _) h1
    simpa using this
  · have := World.cell?_setCells_in c ms 0 w (fun j hj => by simpa using hs j hj) j hj
    simpa using this
theorem Blk.grown {w w' : World} {b c : Nat} {cs : Array Value} {t : TypeId} (h : Blk w b cs t) (hg : w.grownBy w' (some c)) (hne : b ≠ c) : Blk w' b cs t := (hg.block b h.lt (fun e => hne (Option.some.inj e))).trans h
theorem Far.grown {w0 w w' : World} {b c : Nat} (h : Far b (.slice none 0 0) w0 w) (hg : w.grownBy w' (some c)) (hc : w0.heap.size ≤ c) : Far b (.slice none 0 0) w0 w' :=
  ⟨hg.os.trans h.os, hg.tape.trans h.tape, hg.output.trans h.output, Nat.le_trans h.size hg.size, fun k hk h1 h2 => (hg.block k (Nat.lt_of_lt_of_le hk h.size) (fun e => by have := Option.some.inj e; omega)).trans (h.block k hk h1 h2)⟩
theorem asc_nil : Asc [] := fun p q hp => absurd hp (by simp)
end Go.Proofs.YtfgkgpkaohkehaaGreatDoor
namespace Go.Proofs.YtfgkgpkaohkehaaGreatDoor
open Go.ChangeShapes Go.WideShapes Go.ChangeAt Go.RowKit
open Bal
set_option linter.unusedVariables false
set_option linter.unusedSimpArgs false
theorem clone16 (s : ByteArray) (w : World) (hlim : s.size ≤ 281474976710656) :
    Calls Tryz.prog 54 #[.string s] w fun e w' => e = .returned (.string s) ∧ Gr w w' := by
  go_enter Tryz.func54, Tryz.ntmps54
  go_wp2_with fail
  refine (Tryz.stringslite_Clone s _ hlim).mono ?_
  rintro e w' ⟨rfl, hb⟩
  go_wp2
  go_ret
  exact ⟨rfl, hb⟩
theorem set_same {xs : List Value} {j : Nat} {u : Value} (h : xs[j]? = some u) : xs.set j u = xs := by
  apply List.ext_getElem?
  intro i
  rw [List.getElem?_set]
  split
  · rename_i e
    subst e
    obtain ⟨hl, _⟩ := List.getElem?_eq_some_iff.1 h
    rw [if_pos hl, h]
  · rfl
/-- What is stored of a text. -/
def kept16 (wit : Bool) (s : ByteArray) : ByteArray := if wit then digD (fnvL (bytesOf s)) 8 else s
theorem kept16_size (wit : Bool) (s : ByteArray) (h : s.size ≤ 1000000) : (kept16 wit s).size ≤ 1000000 := by
  unfold kept16
  split
  · rw [digD_size]; omega
  · exact h
end Go.Proofs.YtfgkgpkaohkehaaGreatDoor
