import Derived.Test.YtmgpnpmdmelnkaaGreatDoorK1
import Derived.WalkKit
import Derived.ProofKit
import Derived.LoopTactic
import Derived.Outline
import Derived.WalkSpells
import Derived.WalkLawsBesides
import Derived.Lib.Hide
import Derived.Deep.LoopGhost
import Derived.Deep.QuietTactic
import Derived.BigQuiet
import Derived.ShutString
namespace Go.Proofs.YtmgpnpmdmelnkaaGreatDoor
open Go.ChangeShapes Go.WideShapes Go.ChangeAt Go.RowKit
/-- Of what was there only block p may have turned; its first cell holds v now. -/
def Hits (p : Nat) (v : Value) (w w' : World) : Prop :=
  (w'.os = w.os ∧ w'.tape = w.tape ∧ w'.output = w.output ∧ w.heap.size ≤ w'.heap.size ∧ ∀ k, k < w.heap.size → k ≠ p → w'.heap[k]? = w.heap[k]?) ∧ w'.cell? ⟨p, 0, none⟩ = some v ∧ w'.frozen? ⟨p, 0, none⟩ = false
theorem Hits.size {p : Nat} {v : Value} {w w' : World} (h : Hits p v w w') : w.heap.size ≤ w'.heap.size := h.1.2.2.2.1
theorem Hits.cell {p : Nat} {v u : Value} {w w' : World} (h : Hits p v w w') {b o : Nat} (hb : b ≠ p) (hc : w.cell? ⟨b, o, none⟩ = some u) : w'.cell? ⟨b, o, none⟩ = some u :=
  (World.cell?_of_block (w := w) (a := ⟨b, o, none⟩) (h.1.2.2.2.2 b (cell_lt hc) hb)).trans hc
theorem Hits.of_set {p : Nat} {v old : Value} {w : World} (hc : w.cell? ⟨p, 0, none⟩ = some old) (hf : w.frozen? ⟨p, 0, none⟩ = false) : Hits p v w (w.setCell ⟨p, 0, none⟩ v) :=
  ⟨⟨rfl, rfl, rfl, by simp [World.setCell], fun k _ hk => Below.heap_setCell _ _ _ _ hk⟩, World.cell?_setCell_same' _ _ _ (by rw [hc]; rfl), by rw [World.frozen?_setCell]; exact hf⟩
theorem Hits.after {p : Nat} {v : Value} {w w1 w' : World} (h : Hits p v w w1) (hp : p < w.heap.size) (hg : Gr w1 w') : Hits p v w w' := by
  obtain ⟨⟨a, b, c, d, f⟩, hc, hz⟩ := h
  have hp1 : p < w1.heap.size := Nat.lt_of_lt_of_le hp d
  exact ⟨⟨(Below.os hg).trans a, (Below.tape hg).trans b, (Below.output hg).trans c, Nat.le_trans d hg.size, fun k hk hne => (Below.block hg k (Nat.lt_of_lt_of_le hk d)).trans (f k hk hne)⟩, hg.cell hc, (hg.frozen hp1).trans hz⟩
theorem Hits.before {p : Nat} {v : Value} {w w1 w' : World} (hg : Gr w w1) (h : Hits p v w1 w') : Hits p v w w' := by
  obtain ⟨⟨a, b, c, d, f⟩, hc, hz⟩ := h
  exact ⟨⟨a.trans (Below.os hg), b.trans (Below.tape hg), c.trans (Below.output hg), Nat.le_trans hg.size d, fun k hk hne => (f k (Nat.lt_of_lt_of_le hk hg.size) hne).trans (Below.block hg k hk)⟩, hc, hz⟩
/-- A block that was not there. -/
theorem Hits.gr {p : Nat} {v : Value} {w0 w w' : World} (h : Hits p v w w') (hg : Gr w0 w) (hp : w0.heap.size ≤ p) : Gr w0 w' := by
  obtain ⟨⟨a, b, c, d, f⟩, _, _⟩ := h
  exact ⟨a.trans (Below.os hg), b.trans (Below.tape hg), c.trans (Below.output hg), Nat.le_trans hg.size d, fun k hk => (f k (Nat.lt_of_lt_of_le hk hg.size) (by omega)).trans (Below.block hg k hk)⟩
end Go.Proofs.YtmgpnpmdmelnkaaGreatDoor
