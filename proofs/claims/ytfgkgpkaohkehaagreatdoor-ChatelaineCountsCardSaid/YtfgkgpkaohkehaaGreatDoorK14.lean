import Derived.Test.YtfgkgpkaohkehaaGreatDoorK1
import Derived.WalkKit
import Derived.ProofKit
import Derived.LoopTactic
import Derived.Outline
import Derived.WalkSpells
import Derived.WalkLawsBesides
import Derived.Lib.Hide
import Derived.Deep.LoopGhost
import Derived.Deep.QuietTactic
import Derived.BigQuiet
import Derived.ShutString
import Derived.Laws.Rows
import Derived.Laws.AppendOwn
import Derived.Laws.IdiomCopy
import Derived.Deep.AppendLies
import Derived.Shelf.Spec.SlicesInsertGrow
import Derived.Test.YtfgkgpkaohkehaaGreatDoorK12
import Derived.IntWalk
namespace Go.Proofs.YtfgkgpkaohkehaaGreatDoor
open Go.ChangeShapes Go.WideShapes Go.ChangeAt Go.RowKit
set_option linter.unusedVariables false
/-- A block that is known whole. -/
def Blk (w : World) (b : Nat) (cs : Array Value) (t : TypeId) : Prop := w.heap[b]? = some (.cells cs t (0, 0))
section
variable {w w' : World} {b : Nat} {cs : Array Value} {t : TypeId}
theorem Blk.cell (h : Blk w b cs t) {i : Nat} {v : Value} (hv : cs[i]? = some v) : w.cell? ⟨b, i, none⟩ = some v := (cell_of_row w b i cs t _ h).trans hv
theorem Blk.free (h : Blk w b cs t) (i : Nat) : w.frozen? ⟨b, i, none⟩ = false := frozen_of_row w b i cs t h
theorem Blk.lt (h : Blk w b cs t) : b < w.heap.size := (Array.getElem?_eq_some_iff.1 h).1
theorem Blk.gr (h : Blk w b cs t) (hg : Gr w w') : Blk w' b cs t := (Below.block hg b h.lt).trans h
theorem Blk.new (w : World) (cs : Array Value) (t : TypeId) : Blk (w.alloc (.cells cs t)) w.heap.size cs t := heap_alloc_new w _
theorem Blk.set (h : Blk w b cs t) (i : Nat) (v : Value) : Blk (w.setCell ⟨b, i, none⟩ v) b (cs.setIfInBounds i v) t := heap_setCell_same w b i cs t v h
theorem Blk.other (h : Blk w b cs t) {c : Nat} (hc : b ≠ c) (i : Nat) (v : Value) : Blk (w.setCell ⟨c, i, none⟩ v) b cs t := (heap_setCell_other w _ b v hc).trans h
theorem Blk.ne (h : Blk w b cs t) {g o : Nat} {v : Value} (hc : w.cell? ⟨g, o, none⟩ = some v) (hn : cs[o]? ≠ some v) : g ≠ b := by
  rintro rfl
  exact hn ((cell_of_row w g o cs t _ h).symm.trans hc)
theorem Blk.store3 {x0 y0 z0 : Value} (h : Blk w b #[x0, y0, z0] t) (x y z : Value) : Blk (((w.setCell ⟨b, 0, none⟩ x).setCell ⟨b, 1, none⟩ y).setCell ⟨b, 2, none⟩ z) b #[x, y, z] t := ((h.set 0 x).set 1 y).set 2 z
theorem Gr.store3 {a : World} (h : Gr a w) (hb : a.heap.size ≤ b) (x y z : Value) : Gr a (((w.setCell ⟨b, 0, none⟩ x).setCell ⟨b, 1, none⟩ y).setCell ⟨b, 2, none⟩ z) :=
  ((h.setCell (p := ⟨b, 0, none⟩) hb x).setCell (p := ⟨b, 1, none⟩) hb y).setCell (p := ⟨b, 2, none⟩) hb z
end
end Go.Proofs.YtfgkgpkaohkehaaGreatDoor
namespace Go.Proofs.YtfgkgpkaohkehaaGreatDoor
open Go.ChangeShapes Go.WideShapes Go.ChangeAt Go.RowKit
set_option linter.unusedVariables false
set_option linter.unusedSimpArgs false
/-- Of old blocks none but b and the row of v has turned. -/
structure Far (b : Nat) (v : Value) (w w' : World) : Prop where
  os : w'.os = w.os
  tape : w'.tape = w.tape
  output : w'.output = w.output
  size : w.heap.size ≤ w'.heap.size
  block : ∀ k, k < w.heap.size → k ≠ b → v.ownBlock ≠ some k → w'.heap[k]? = w.heap[k]?
theorem Far.refl (b : Nat) (v : Value) (w : World) : Far b v w w := ⟨rfl, rfl, rfl, Nat.le_refl _, fun _ _ _ _ => rfl⟩
theorem Far.of_gr {b : Nat} {v : Value} {w w' : World} (h : Gr w w') : Far b v w w' := ⟨Below.os h, Below.tape h, Below.output h, h.size, fun k hk _ _ => Below.block h k hk⟩
theorem Far.setCell (b o : Nat) (v : Value) (w : World) (x : Value) : Far b v w (w.setCell ⟨b, o, none⟩ x) := ⟨rfl, rfl, rfl, by simp [World.setCell], fun k _ hk _ => Below.heap_setCell _ _ _ _ hk⟩
theorem Far.of_grown {b : Nat} {v : Value} {w w' : World} (h : w.grownBy w' v.ownBlock) : Far b v w w' := ⟨h.os, h.tape, h.output, h.size, fun k hk _ hv => h.block k hk (fun e => hv e.symm)⟩
/-- A row lies where another lay, or is new. -/
def From (v : Value) (w : World) (v' : Value) : Prop := ∀ k, v'.ownBlock = some k → v.ownBlock = some k ∨ w.heap.size ≤ k
theorem From.refl (v : Value) (w : World) : From v w v := fun _ h => .inl h
theorem Far.trans {b : Nat} {v v1 : Value} {a c d : World} (h : Far b v a c) (hf : From v a v1) (k : Far b v1 c d) : Far b v a d :=
  ⟨k.os.trans h.os, k.tape.trans h.tape, k.output.trans h.output, Nat.le_trans h.size k.size, fun i hi hb hv =>
    (k.block i (Nat.lt_of_lt_of_le hi h.size) hb (fun e => by rcases hf i e with h1 | h1; exact hv h1; omega)).trans (h.block i hi hb hv)⟩
theorem From.trans {v v1 v2 : Value} {a c : World} (h : From v a v1) (hs : a.heap.size ≤ c.heap.size) (k : From v1 c v2) : From v a v2 := fun i e => by
  rcases k i e with h1 | h1
  · exact h i h1
  · exact .inr (by omega)
theorem Far.gr {b : Nat} {v : Value} {w0 w w' : World} (h : Far b v w w') (hg : Gr w0 w) (hb : w0.heap.size ≤ b) (hv : ∀ k, v.ownBlock = some k → w0.heap.size ≤ k) : Gr w0 w' :=
  Below.trans hg ⟨h.os, h.tape, h.output, h.size, fun k hk => h.block k (Nat.lt_of_lt_of_le hk hg.size) (by omega) (fun e => by have := hv k e; omega)⟩
theorem Far.cell {b : Nat} {v : Value} {w w' : World} (h : Far b v w w') {c o : Nat} {u : Value} (hb : c ≠ b) (hv : v.ownBlock ≠ some c) (hc : w.cell? ⟨c, o, none⟩ = some u) : w'.cell? ⟨c, o, none⟩ = some u :=
  (World.cell?_of_block (w := w) (a := ⟨c, o, none⟩) (h.block c (cell_lt hc) hb hv)).trans hc
theorem Far.frozen {b : Nat} {v : Value} {w w' : World} (h : Far b v w w') {c o : Nat} (hb : c ≠ b) (hv : v.ownBlock ≠ some c) (hlt : c < w.heap.size) : w'.frozen? ⟨c, o, none⟩ = w.frozen? ⟨c, o, none⟩ :=
  World.frozen?_of_block (w := w) (a := ⟨c, o, none⟩) (h.block c hlt hb hv)
theorem ownsRow_far {b : Nat} {v u : Value} {w w' : World} (h : Far b v w w') {base : Nat} {e : TypeId} {size n : Nat} {xs : List Value} (ho : w.ownsRow base e size u n xs) (hb : u.ownBlock ≠ some b) (hv : ∀ k, u.ownBlock = some k → v.ownBlock ≠ some k) : w'.ownsRow base e size u n xs := by
  obtain ⟨h1, h2⟩ := ho
  refine ⟨h1, h2.imp id ?_⟩
  rintro ⟨g, cap, cur, rfl, hg, hc, r⟩
  have hlt : g < w.heap.size := (Array.getElem?_eq_some_iff.1 hc).1
  exact ⟨g, cap, cur, rfl, hg, (h.block g hlt (fun e => hb (by rw [e]; rfl)) (hv g rfl)).trans hc, r⟩
theorem heap_setCells {g : Nat} {t : TypeId} : ∀ (vs : List Value) (o : Nat) (w : World) (cur : Array Value), w.heap[g]? = some (.cells cur t (0, 0)) → ∃ cur2, (w.setCells g o vs).heap[g]? = some (.cells cur2 t (0, 0)) ∧ cur2.size = cur.size
  | [], _, w, cur, h => ⟨cur, h, rfl⟩
  | v :: r, o, w, cur, h => by
    obtain ⟨c2, h2, hs⟩ := heap_setCells r (o + 1) (w.setCell ⟨g, o, none⟩ v) (cur.setIfInBounds o v) (heap_setCell_same w g o cur t v h)
    exact ⟨c2, h2, by rw [hs]; simp⟩
theorem grown_refl (w : World) (r : Option Nat) : w.grownBy w r := ⟨rfl, rfl, rfl, Nat.le_refl _, fun _ _ _ => rfl⟩
theorem grown_trans {a b c : World} {r : Option Nat} (h : a.grownBy b r) (k : b.grownBy c r) : a.grownBy c r :=
  ⟨k.os.trans h.os, k.tape.trans h.tape, k.output.trans h.output, Nat.le_trans h.size k.size, fun i hi hr => (k.block i (Nat.lt_of_lt_of_le hi h.size) hr).trans (h.block i hi hr)⟩
theorem grown_drew {a b : World} {r : Option Nat} (h : a.grownBy b r) : a.grownBy b.drew r := ⟨h.os, h.tape, h.output, h.size, h.block⟩
theorem grown_cells (g : Nat) : ∀ (vs : List Value) (o : Nat) (w : World), w.grownBy (w.setCells g o vs) (some g)
  | [], _, w => grown_refl _ _
  | v :: r, o, w => grown_trans (b := w.setCell ⟨g, o, none⟩ v) ⟨rfl, rfl, rfl, by simp [World.setCell], fun k _ hk => Below.heap_setCell _ _ _ _ (fun e => hk (by rw [e]))⟩ (grown_cells g r (o + 1) _)

section
variable {α : Type} {enc : α → List Value} {k : Nat}
/-- The cells of a row. -/
def rcells (enc : α → List Value) (L : List α) : List Value := L.flatMap enc
theorem rcells_nil : rcells enc [] = [] := rfl
theorem rcells_cons (x : α) (L : List α) : rcells enc (x :: L) = enc x ++ rcells enc L := by simp [rcells]
theorem rcells_append (L M : List α) : rcells enc (L ++ M) = rcells enc L ++ rcells enc M := by simp [rcells]
theorem rcells_snoc (L : List α) (x : α) : rcells enc (L ++ [x]) = rcells enc L ++ enc x := by simp [rcells]
theorem rcells_len (hk : ∀ x, (enc x).length = k) (L : List α) : (rcells enc L).length = L.length * k := by
  induction L with
  | nil => simp [rcells]
  | cons x t ih => rw [rcells_cons, List.length_append, ih, hk, List.length_cons, Nat.succ_mul, Nat.add_comm]
theorem rcells_take (hk : ∀ x, (enc x).length = k) (L : List α) (i : Nat) (h : i ≤ L.length) : (rcells enc L).take (i * k) = rcells enc (L.take i) := by
  have h1 : rcells enc L = rcells enc (L.take i) ++ rcells enc (L.drop i) := by rw [← rcells_append, List.take_append_drop]
  have h2 : (rcells enc (L.take i)).length = i * k := by rw [rcells_len hk, List.length_take, Nat.min_eq_left h]
  rw [h1, ← h2, List.take_left']
  rfl
theorem rcells_drop (hk : ∀ x, (enc x).length = k) (L : List α) (i : Nat) (h : i ≤ L.length) : (rcells enc L).drop (i * k) = rcells enc (L.drop i) := by
  have h1 : rcells enc L = rcells enc (L.take i) ++ rcells enc (L.drop i) := by rw [← rcells_append, List.take_append_drop]
  have h2 : (rcells enc (L.take i)).length = i * k := by rw [rcells_len hk, List.length_take, Nat.min_eq_left h]
  rw [h1, ← h2, List.drop_left']
  rfl
theorem rcells_at (hk : ∀ x, (enc x).length = k) (L : List α) (i : Nat) (h : i < L.length) (j : Nat) (hj : j < k) : (rcells enc L)[i * k + j]? = (enc L[i])[j]? := by
  rw [← List.getElem?_drop, rcells_drop hk L i (by omega), List.drop_eq_getElem_cons h, rcells_cons, List.getElem?_append_left (by rw [hk]; exact hj)]
theorem rcells_one (h1 : ∀ x, ∀ v ∈ enc x, v.oneCell' = true) (L : List α) : ∀ v ∈ rcells enc L, v.oneCell' = true := by
  intro v hv
  obtain ⟨x, _, hx⟩ := List.mem_flatMap.1 hv
  exact h1 x v hx
end
/-- copy at elements of k cells: all is read before anything is written. -/
theorem run_copy_k {P : Program} (w : World) (dT sT ty elem : TypeId) (k : Nat) (b o dLen dCap : Nat) (a : Addr) (sLen sCap : Nat) (cs : List Value)
    (hu : P.underlying dT = some (.slice elem)) (hs : (P.info? elem).map (·.size) = some k) (hn : cs.length = Nat.min sLen dLen * k)
    (hsrc : ∀ j v, cs[j]? = some v → w.cell? (a.add j) = some v) (hc : ∀ j, j < cs.length → (w.cell? ⟨b, o + j, none⟩).isSome = true) (hf : ∀ j, j < cs.length → w.frozen? ⟨b, o + j, none⟩ = false) (h1 : ∀ v ∈ cs, v.oneCell' = true) :
    (Builtin.copy_ #[dT, sT] ty #[.slice (some ⟨b, o, none⟩) dLen dCap, .slice (some a) sLen sCap]).run P w = .ok (goInt (Nat.min sLen dLen)) (w.setCells b o cs) := by
  have hl := run_loadCells_list (P := P) w a cs hsrc
  have hst := run_storeCells_cells (P := P) b o cs 0 w (by simpa using hc) (by simpa using hf) h1
  cases hq : P.info? elem with
  | none => simp [hq] at hs
  | some i =>
    have hi : i.size = k := by simpa [hq] using hs
    simp [Builtin.copy_, run_underlying hu, Builtin.lenOf, Builtin.firstCells, sizeOf, typeInfo, hq, hi, ← hn, hl, hst]
theorem run_clear_k {P : Program} (w : World) (t e ty : TypeId) (z : Value) (ht : P.underlying t = some (.slice e)) (hv : ∀ w, (zeroValue e).run P w = .ok z w) (m : Nat) (L : List Value) (hz : (Builtin.zeroCells z.cells (m + 1)).toList = L) (h1 : ∀ v ∈ L, v.oneCell' = true) (b o c : Nat)
    (hc : ∀ j, j < L.length → (w.cell? ⟨b, o + j, none⟩).isSome = true) (hf : ∀ j, j < L.length → w.frozen? ⟨b, o + j, none⟩ = false) :
    (Builtin.clear_ #[t] ty #[.slice (some ⟨b, o, none⟩) (m + 1) c]).run P w = .ok (.tuple #[]) (w.setCells b o L) := by
  have hst := run_storeCells_cells (P := P) b o L 0 w (by simpa using hc) (by simpa using hf) h1
  simp only [Nat.add_zero] at hst
  simp [Builtin.clear_, run_underlying ht, hv, hz, hst]
theorem zeroCells_one {z : Value} {n : Nat} (h1 : ∀ v ∈ z.cells.toList, v.oneCell' = true) (h0 : 0 < z.cells.size) : ∀ v ∈ (Builtin.zeroCells z.cells n).toList, v.oneCell' = true := by
  intro v hv
  unfold Builtin.zeroCells at hv
  simp only [Array.toList_map, List.mem_map] at hv
  obtain ⟨i, _, rfl⟩ := hv
  have hlt : i % z.cells.size < z.cells.size := Nat.mod_lt _ h0
  rw [getElem!_pos z.cells _ hlt]
  exact h1 _ (Array.getElem_mem_toList hlt)
theorem addr_add (g o j : Nat) : (⟨g, o, none⟩ : Addr).add j = ⟨g, o + j, none⟩ := by unfold Addr.add; split <;> simp_all
/-- A row that is owned, out of its cells. -/
theorem owns_of {w : World} {base g cap m k : Nat} {t : TypeId} {cur : Array Value} {ys : List Value} (hb : base ≤ g) (hc : w.heap[g]? = some (.cells cur t (0, 0))) (hs : cur.size = cap * k) (hm : m ≤ cap) (hcap : cap ≤ maxLen) (hl : ys.length = m * k)
    (hat : ∀ j u, ys[j]? = some u → w.cell? ⟨g, j, none⟩ = some u) : w.ownsRow base t k (.slice (some ⟨g, 0, none⟩) m cap) m ys := by
  refine ⟨hl, .inr ⟨g, cap, cur, rfl, hb, hc, hm, hcap, hs, ?_⟩⟩
  have hmk : m * k ≤ cap * k := Nat.mul_le_mul_right _ hm
  apply List.ext_getElem?
  intro j
  by_cases hj : j < m * k
  · rw [List.getElem?_take_of_lt hj, Array.getElem?_toList, List.getElem?_eq_getElem (by omega)]
    have := hat j _ (List.getElem?_eq_getElem (by omega))
    rwa [cell_of_row w g j cur _ _ hc] at this
  · rw [List.getElem?_take_eq_none (by omega), List.getElem?_eq_none (by omega)]
/-- What lies in a row that is not empty. -/
theorem owns_open {w : World} {base k n : Nat} {t : TypeId} {v : Value} {xs : List Value} (h : w.ownsRow base t k v n xs) (hn : 0 < n) :
    ∃ g cap cur, v = .slice (some ⟨g, 0, none⟩) n cap ∧ base ≤ g ∧ g < w.heap.size ∧ w.heap[g]? = some (.cells cur t (0, 0)) ∧ n ≤ cap ∧ cap ≤ maxLen ∧ cur.size = cap * k ∧ xs.length = n * k ∧ (∀ j u, xs[j]? = some u → w.cell? ⟨g, j, none⟩ = some u) ∧
      (∀ j, j < cap * k → (w.cell? ⟨g, j, none⟩).isSome = true) ∧ ∀ j, w.frozen? ⟨g, j, none⟩ = false := by
  obtain ⟨g, cap, hv, hb, hlt⟩ := h.form hn
  have hc := h.cells (g := g) (by rw [hv]; rfl)
  have hl := h.1
  rcases h.2 with ⟨_, h0⟩ | ⟨g', cap', cur, hv', _, hcur, h1, h2, h3, _⟩
  · omega
  · rw [hv] at hv'
    simp only [Value.slice.injEq, Option.some.injEq, Addr.mk.injEq, and_true, true_and] at hv'
    obtain ⟨rfl, rfl⟩ := hv'
    refine ⟨g, cap, cur, hv, hb, hlt, hcur, h1, h2, h3, hl, fun j u hj => ?_, fun j hj => ?_, fun j => frozen_of_row w g j cur _ hcur⟩
    · have := hc j u hj
      rwa [addr_add, Nat.zero_add] at this
    · rw [cell_of_row w g j cur _ _ hcur, Array.getElem?_eq_getElem (by omega)]; rfl
/-- A list with one more at a place. -/
def ins {α : Type} (L : List α) (i : Nat) (x : α) : List α := L.take i ++ x :: L.drop i
theorem ins_len {α : Type} (L : List α) (i : Nat) (x : α) (h : i ≤ L.length) : (ins L i x).length = L.length + 1 := by
  unfold ins; rw [List.length_append, List.length_cons, List.length_take, List.length_drop]; omega
theorem ins_end {α : Type} (L : List α) (x : α) : ins L L.length x = L ++ [x] := by simp [ins]
theorem rcells_ins {α : Type} {enc : α → List Value} (L : List α) (i : Nat) (x : α) : rcells enc (ins L i x) = rcells enc (L.take i) ++ (enc x ++ rcells enc (L.drop i)) := by
  unfold ins; rw [rcells_append, rcells_cons]
/-- Cells that were stored one range and then another. -/
theorem two_cells {w : World} {g o1 o2 : Nat} {us bs : List Value} (h1 : ∀ j, j < us.length → (w.cell? ⟨g, o1 + j, none⟩).isSome = true) (h2 : ∀ j, j < bs.length → (w.cell? ⟨g, o2 + j, none⟩).isSome = true)
    (hap : o1 + us.length ≤ o2 ∨ o2 + bs.length ≤ o1) :
    (∀ j, j < us.length → ((w.setCells g o1 us).setCells g o2 bs).cell? ⟨g, o1 + j, none⟩ = us[j]?) ∧ (∀ j, j < bs.length → ((w.setCells g o1 us).setCells g o2 bs).cell? ⟨g, o2 + j, none⟩ = bs[j]?) ∧
    (∀ j, (j < o1 ∨ o1 + us.length ≤ j) → (j < o2 ∨ o2 + bs.length ≤ j) → ((w.setCells g o1 us).setCells g o2 bs).cell? ⟨g, j, none⟩ = w.cell? ⟨g, j, none⟩) := by
  refine ⟨fun j hj => ?_, fun j hj => ?_, fun j hj hj2 => ?_⟩
  · rw [World.cell?_setCells_out _ _ _ _ _ (fun _ _ => by show o1 + j < o2 ∨ o2 + bs.length ≤ o1 + j; omega), World.cell?_setCells_in g us o1 w h1 j hj, List.getElem?_eq_getElem hj]
  · rw [World.cell?_setCells_in g bs o2 _ (fun i hi => ?_) j hj, List.getElem?_eq_getElem hj]
    rw [World.cell?_setCells_out _ _ _ _ _ (fun _ _ => by show o2 + i < o1 ∨ o1 + us.length ≤ o2 + i; omega)]
    exact h2 i hi
  · rw [World.cell?_setCells_out _ _ _ _ _ (fun _ _ => hj2), World.cell?_setCells_out _ _ _ _ _ (fun _ _ => hj)]
theorem grown_new {w W : World} {o : Obj} {r : Option Nat} (h : (w.alloc o).grownBy W (some w.heap.size)) : w.grownBy W r :=
  ⟨h.os, h.tape, h.output, Nat.le_trans (by simp) h.size, fun i hi _ => (h.block i (by simp; omega) (by simp; omega)).trans (Below.heap_alloc _ _ _ hi)⟩
/-- A row without some, out of a copy and a clear. -/
theorem deleted_k {α : Type} {enc : α → List Value} {k : Nat} (hk : ∀ x, (enc x).length = k) {W : World} {base g cap i d m : Nat} {t : TypeId} {cur : Array Value} (M : List α) (hM : M.length = i + d + 1 + m) (hb : base ≤ g)
    (hc : W.heap[g]? = some (.cells cur t (0, 0))) (hs : cur.size = cap * k) (hn : M.length ≤ cap) (hcap : cap ≤ maxLen) (hold : ∀ j u, (rcells enc M)[j]? = some u → W.cell? ⟨g, j, none⟩ = some u) (ZL : List Value) :
    ((W.setCells g (i * k) (rcells enc (M.drop (i + d + 1)))).setCells g ((i + m) * k) ZL).ownsRow base t k (.slice (some ⟨g, 0, none⟩) (i + m) cap) (i + m) (rcells enc (M.take i ++ M.drop (i + d + 1))) := by
  have l1 : (rcells enc (M.take i)).length = i * k := by rw [rcells_len hk, List.length_take, Nat.min_eq_left (by omega)]
  have l2 : (rcells enc (M.drop (i + d + 1))).length = m * k := by rw [rcells_len hk, List.length_drop]; congr 1; omega
  have e1 : (i + m) * k = i * k + m * k := Nat.add_mul _ _ _
  have e2 : (i + m) * k ≤ cap * k := Nat.mul_le_mul_right _ (by omega)
  have hsp : rcells enc M = rcells enc (M.take i) ++ rcells enc (M.drop i) := by rw [← rcells_append, List.take_append_drop]
  obtain ⟨c1, hc1, z1⟩ := heap_setCells (rcells enc (M.drop (i + d + 1))) (i * k) W cur hc
  obtain ⟨c2, hc2, z2⟩ := heap_setCells ZL ((i + m) * k) _ c1 hc1
  refine owns_of hb hc2 (by omega) (by omega) hcap (by rw [rcells_append, List.length_append, l1, l2]; omega) fun j u hj => ?_
  have hj2 := (List.getElem?_eq_some_iff.1 hj).1
  rw [rcells_append, List.length_append, l1, l2] at hj2
  rw [World.cell?_setCells_out _ _ _ _ _ (fun _ _ => Or.inl (by show j < _; omega))]
  rw [rcells_append] at hj
  by_cases h1 : j < i * k
  · rw [World.cell?_setCells_out _ _ _ _ _ (fun _ _ => Or.inl h1)]
    exact hold j u (by rw [hsp, List.getElem?_append_left (by omega)]; rwa [List.getElem?_append_left (by omega)] at hj)
  · have hin := World.cell?_setCells_in g (rcells enc (M.drop (i + d + 1))) (i * k) W (fun t ht => by
      rw [cell_of_row W g _ cur _ _ hc, Array.getElem?_eq_getElem (by omega)]; rfl) (j - i * k) (by omega)
    rw [show i * k + (j - i * k) = j by omega] at hin
    rw [hin, ← hj, List.getElem?_append_right (by omega), l1, List.getElem?_eq_getElem (by omega)]
/-- A row with one more element at a place, out of two copies. -/
theorem inserted {α : Type} {enc : α → List Value} {k : Nat} (hk : ∀ x, (enc x).length = k) {W W2 : World} {base g cap i : Nat} {t : TypeId} {cur : Array Value} (L : List α) (x : α) (hi : i ≤ L.length) (hb : base ≤ g)
    (hc : W.heap[g]? = some (.cells cur t (0, 0))) (hs : cur.size = cap * k) (hn : L.length + 1 ≤ cap) (hcap : cap ≤ maxLen) (hold : ∀ j u, (rcells enc (L.take i))[j]? = some u → W.cell? ⟨g, j, none⟩ = some u)
    (hw : W2 = (W.setCells g ((i + 1) * k) (rcells enc (L.drop i))).setCells g (i * k) (enc x) ∨ W2 = (W.setCells g (i * k) (enc x)).setCells g ((i + 1) * k) (rcells enc (L.drop i))) :
    W2.ownsRow base t k (.slice (some ⟨g, 0, none⟩) (L.length + 1) cap) (L.length + 1) (rcells enc (ins L i x)) := by
  have l1 : (rcells enc (L.take i)).length = i * k := by rw [rcells_len hk, List.length_take, Nat.min_eq_left hi]
  have l2 : (rcells enc (L.drop i)).length = (L.length - i) * k := by rw [rcells_len hk, List.length_drop]
  have l3 := hk x
  have e1 : (i + 1) * k = i * k + k := Nat.succ_mul i k
  have e2 : (L.length + 1) * k = i * k + k + (L.length - i) * k := by
    rw [← e1, ← Nat.add_mul]; congr 1; omega
  have e3 : (L.length + 1) * k ≤ cap * k := Nat.mul_le_mul_right _ hn
  have there : ∀ j, j < cap * k → (W.cell? ⟨g, j, none⟩).isSome = true := fun j hj => by
    rw [cell_of_row W g j cur _ _ hc, Array.getElem?_eq_getElem (by omega)]; rfl
  have hrow := rcells_ins (enc := enc) L i x
  have hlen : (rcells enc (ins L i x)).length = (L.length + 1) * k := by rw [rcells_len hk, ins_len L i x hi]
  generalize rcells enc (L.take i) = as1 at *
  generalize rcells enc (L.drop i) = ds at *
  generalize enc x = xs at *
  generalize (L.length - i) * k = m at *
  generalize hik : i * k = o at *
  generalize hik1 : (i + 1) * k = o1 at *
  generalize hq : (L.length + 1) * k = q at *
  generalize hz0 : cap * k = z at *
  have key : (∀ j, j < xs.length → W2.cell? ⟨g, o + j, none⟩ = xs[j]?) ∧ (∀ j, j < ds.length → W2.cell? ⟨g, o1 + j, none⟩ = ds[j]?) ∧ (∀ j, j < o → W2.cell? ⟨g, j, none⟩ = W.cell? ⟨g, j, none⟩) ∧ ∃ c2, W2.heap[g]? = some (.cells c2 t (0, 0)) ∧ c2.size = cur.size := by
    rcases hw with rfl | rfl
    · obtain ⟨c1, hc1, z1⟩ := heap_setCells ds o1 W cur hc
      obtain ⟨c2, hc2, z2⟩ := heap_setCells xs o _ c1 hc1
      have h := two_cells (w := W) (g := g) (o1 := o1) (o2 := o) (us := ds) (bs := xs) (fun j hj => there _ (by omega)) (fun j hj => there _ (by omega)) (by omega)
      exact ⟨h.2.1, h.1, fun j hj => h.2.2 j (by omega) (by omega), c2, hc2, by omega⟩
    · obtain ⟨c1, hc1, z1⟩ := heap_setCells xs o W cur hc
      obtain ⟨c2, hc2, z2⟩ := heap_setCells ds o1 _ c1 hc1
      have h := two_cells (w := W) (g := g) (o1 := o) (o2 := o1) (us := xs) (bs := ds) (fun j hj => there _ (by omega)) (fun j hj => there _ (by omega)) (by omega)
      exact ⟨h.1, h.2.1, fun j hj => h.2.2 j (by omega) (by omega), c2, hc2, by omega⟩
  obtain ⟨k1, k2, k3, c2, hc2, hz⟩ := key
  refine owns_of hb hc2 (by omega) hn hcap (by omega) fun j u hj => ?_
  rw [hrow] at hj
  by_cases h1 : j < o
  · rw [k3 j h1]
    exact hold j u (by rwa [List.getElem?_append_left (by omega)] at hj)
  · rw [List.getElem?_append_right (by omega), l1] at hj
    by_cases h2 : j - o < xs.length
    · rw [List.getElem?_append_left h2] at hj
      have := k1 (j - o) h2
      rw [show o + (j - o) = j by omega] at this
      rw [this, hj]
    · rw [List.getElem?_append_right (by omega)] at hj
      have h3 := (List.getElem?_eq_some_iff.1 hj).1
      have := k2 (j - o - xs.length) h3
      rw [show o1 + (j - o - xs.length) = j by omega] at this
      rw [this, hj]
end Go.Proofs.YtfgkgpkaohkehaaGreatDoor
namespace Go.Proofs.YtfgkgpkaohkehaaGreatDoor
open Go.ChangeShapes Go.WideShapes Go.ChangeAt Go.RowKit
set_option linter.unusedVariables false
set_option linter.unusedSimpArgs false
structure E where
  slot : Int
  c : Int
  n : Int
  text : ByteArray
def encE (x : E) : List Value := [.int .i64 x.slot, .int .u64 x.c, .int .i64 x.n, .string x.text]
theorem encE_len (x : E) : (encE x).length = 4 := rfl
theorem encE_one (x : E) : ∀ v ∈ encE x, v.oneCell' = true := by
  intro v hv
  simp only [encE, List.mem_cons, List.not_mem_nil, or_false] at hv
  rcases hv with rfl | rfl | rfl | rfl <;> rfl
theorem info_E : (Tryz.prog.info? 74).map (fun i => (i.zero, i.size)) = some (some (.agg #[.int .i64 0, .int .u64 0, .int .i64 0, .string ⟨#[]⟩]), 4) := by kernel_rfl

end Go.Proofs.YtfgkgpkaohkehaaGreatDoor
namespace Go.Proofs.YtfgkgpkaohkehaaGreatDoor
open Go.ChangeShapes Go.WideShapes Go.ChangeAt Go.RowKit
set_option linter.unusedVariables false
set_option linter.unusedSimpArgs false
theorem run_append_zero {P : Program} (w : World) (t ty e : TypeId) (i : TypeInfo) (ht : P.underlying t = some (.slice e)) (hi : P.info? e = some i) (b n cap : Nat) (la : Option Addr) (c : Nat) (hn : n ≤ cap) :
    (Builtin.append_ #[t, t] ty #[.slice (some ⟨b, 0, none⟩) n cap, .slice la 0 c]).run P w = .ok (.slice (some ⟨b, 0, none⟩) n cap) w := by
  cases la with
  | none => simp [Builtin.append_, run_underlying ht, sizeOf, typeInfo, hi, Builtin.lenOf, hn, Builtin.firstCells, storeCells]
  | some a => exact run_append_room_cells w t ty e i ht hi b 0 n cap a 0 c [] (by simp) (by intro j u h; simp at h) (by simp) (by omega) (by simp) (by simp)
theorem step_append_zero {P : Program} {ops : Array Oper} {o : Oper} {a : Act} {K : Act → World → Prop} {Q : Exit → Act → World → Prop} {E : Prop} (w : World) (hgd : o.guard = none) (s x : Operand) (t : TypeId)
    (ho : o.op = .call { callee := .builtin .append, args := #[s, x], argTypes := #[t, t] }) (e : TypeId) (i : TypeInfo) (ht : P.underlying t = some (.slice e)) (hi : P.info? e = some i)
    (b n cap : Nat) (la : Option Addr) (c : Nat) (hs : a.eval s = .slice (some ⟨b, 0, none⟩) n cap) (hx : a.eval x = .slice la 0 c) (hn : n ≤ cap) (hK : K (a.put o.dst (.slice (some ⟨b, 0, none⟩) n cap)) w) :
    if Region.wanted o (yielded ops a.tmps) = true then Oper.wp P o a w K Q else E := by
  have hw : Region.wanted o (yielded ops a.tmps) = true := by simp [Region.wanted, hgd]
  rw [if_pos hw]
  have hrun := run_append_zero (P := P) w t o.type e i ht hi b n cap la c hn
  unfold Oper.wp
  simp [execOp, ho, resolve, invoke, builtin, hs, hx, hrun, Result.andThen]
  exact hK
theorem wpList_append_zero {P : Program} {ops : Array Oper} {rest : List Oper} {o : Oper} {a : Act} {Q : Exit → Act → World → Prop} (w : World) (hgd : o.guard = none) (s x : Operand) (t : TypeId)
    (ho : o.op = .call { callee := .builtin .append, args := #[s, x], argTypes := #[t, t] }) (e : TypeId) (i : TypeInfo) (ht : P.underlying t = some (.slice e)) (hi : P.info? e = some i)
    (b n cap : Nat) (la : Option Addr) (c : Nat) (hs : a.eval s = .slice (some ⟨b, 0, none⟩) n cap) (hx : a.eval x = .slice la 0 c) (hn : n ≤ cap) (h : wpList P ops Q rest (a.put o.dst (.slice (some ⟨b, 0, none⟩) n cap)) w) : wpList P ops Q (o :: rest) a w :=
  wpList_plain hgd fun K hK => by
    have hrun := run_append_zero (P := P) w t o.type e i ht hi b n cap la c hn
    unfold Oper.wp
    simp [execOp, ho, resolve, invoke, builtin, hs, hx, hrun, Result.andThen]
    exact hK _ _ h
/-- The first of a row. -/
theorem owns_take {α : Type} {enc : α → List Value} {k : Nat} (hk : ∀ x, (enc x).length = k) {w : World} {base g cap i : Nat} {t : TypeId} (L : List α) (h : w.ownsRow base t k (.slice (some ⟨g, 0, none⟩) L.length cap) L.length (rcells enc L)) (hi : i ≤ L.length) :
    w.ownsRow base t k (.slice (some ⟨g, 0, none⟩) i cap) i (rcells enc (L.take i)) := by
  rcases h.2 with ⟨h1, _⟩ | ⟨g', cap', cur, h1, h2, h3, h4, h5, h6, h7⟩
  · simp at h1
  · simp only [Value.slice.injEq, Option.some.injEq, Addr.mk.injEq, and_true, true_and] at h1
    obtain ⟨rfl, rfl⟩ := h1
    have hc := h.cells (g := g) rfl
    have hsp : rcells enc L = rcells enc (L.take i) ++ rcells enc (L.drop i) := by rw [← rcells_append, List.take_append_drop]
    refine owns_of h2 h3 h6 (by omega) h5 (by rw [rcells_len hk, List.length_take, Nat.min_eq_left hi]) fun j u hj => ?_
    have := hc j u (by rw [hsp, List.getElem?_append_left (List.getElem?_eq_some_iff.1 hj).1]; exact hj)
    rwa [addr_add, Nat.zero_add] at this
end Go.Proofs.YtfgkgpkaohkehaaGreatDoor
namespace Go.Proofs.YtfgkgpkaohkehaaGreatDoor
open Go.ChangeShapes Go.WideShapes Go.ChangeAt Go.RowKit
set_option linter.unusedVariables false
set_option linter.unusedSimpArgs false
end Go.Proofs.YtfgkgpkaohkehaaGreatDoor
namespace Go.Proofs.YtfgkgpkaohkehaaGreatDoor
open Go.ChangeShapes Go.WideShapes Go.ChangeAt Go.RowKit
open Bal
set_option linter.unusedVariables false
set_option linter.unusedSimpArgs false
theorem erow_at {w : World} {base : Nat} {v : Value} {L : List E} (h : w.ownsRow base 74 4 v L.length (rcells encE L)) (i : Nat) (hi : i < L.length) :
    ∃ g cap, v = .slice (some ⟨g, 0, none⟩) L.length cap ∧ w.cell? ⟨g, i * 4, none⟩ = some (.int .i64 L[i].slot) ∧ w.cell? ⟨g, i * 4 + 1, none⟩ = some (.int .u64 L[i].c) ∧ w.cell? ⟨g, i * 4 + 2, none⟩ = some (.int .i64 L[i].n) ∧ w.cell? ⟨g, i * 4 + 3, none⟩ = some (.string L[i].text) := by
  obtain ⟨g, cap, cur, hv, _, _, _, _, _, _, _, hat, _⟩ := owns_open h (by omega)
  refine ⟨g, cap, hv, hat _ _ ?_, hat _ _ ?_, hat _ _ ?_, hat _ _ ?_⟩
  · have := rcells_at encE_len L i hi 0 (by omega); rw [Nat.add_zero] at this; rw [this]; rfl
  · rw [rcells_at encE_len L i hi 1 (by omega)]; rfl
  · rw [rcells_at encE_len L i hi 2 (by omega)]; rfl
  · rw [rcells_at encE_len L i hi 3 (by omega)]; rfl
/-- Below i the slots are less, from j on not. -/
structure Cut16 (L : List E) (x : Int) (i j : Nat) : Prop where
  lo : ∀ p (h : p < L.length), p < i → L[p].slot < x
  hi : ∀ p (h : p < L.length), j ≤ p → x ≤ L[p].slot
def Asc (L : List E) : Prop := ∀ p q (hp : p < L.length) (hq : q < L.length), p < q → L[p].slot < L[q].slot
theorem cut_up {L : List E} {x : Int} {i j m : Nat} (ha : Asc L) (h : Cut16 L x i j) (hm : m < L.length) (hx : L[m].slot < x) : Cut16 L x (m + 1) j :=
  ⟨fun p hp hpm => by
    by_cases e : p = m
    · subst e; exact hx
    · have := ha p m hp hm (by omega); omega, h.hi⟩
theorem cut_down {L : List E} {x : Int} {i j m : Nat} (ha : Asc L) (h : Cut16 L x i j) (hm : m < L.length) (hx : ¬ L[m].slot < x) : Cut16 L x i m :=
  ⟨h.lo, fun p hp hpm => by
    by_cases e : p = m
    · subst e; omega
    · have := ha m p hm hp (by omega); omega⟩
theorem cmpI_neg (a b : Int) : cmpI a b < 0 ↔ a < b := by
  rcases cmpI_ways a b with ⟨h, e⟩ | ⟨h, e⟩ | ⟨h, e⟩ <;> rw [e] <;> omega
theorem cmpI_zero (a b : Int) : cmpI a b = 0 ↔ a = b := by
  rcases cmpI_ways a b with ⟨h, e⟩ | ⟨h, e⟩ | ⟨h, e⟩ <;> rw [e] <;> omega
end Go.Proofs.YtfgkgpkaohkehaaGreatDoor
