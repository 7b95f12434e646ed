import Derived.Test.YtahohgnkichibabM14
import Derived.Test.YtahohgnkichibabC16
import Derived.Test.YtahohgnkichibabC25
import Derived.Test.YtahohgnkichibabSh0
import Derived.WalkKit
import Derived.ProofKit
import Derived.LoopTactic
import Derived.Outline
import Derived.WalkSpells
import Derived.WalkLawsBesides
import Derived.Lib.Hide
import Derived.Deep.LoopGhost
import Derived.Deep.QuietTactic
import Derived.BigQuiet
import Derived.ShutString
import Derived.IntWalk
import Derived.Lib.MinMax
import Derived.Deep.AppendLies
import Derived.Deep.RegionWith
import Derived.Deep.RegionHeld3
namespace Go.Proofs.Ytahohgnkichibab
open Go.ChangeShapes Go.WideShapes Go.ChangeAt Go.RowKit
set_option linter.unusedVariables false
set_option linter.unusedSimpArgs false
open Nt
/-- Of old blocks none but b and the row of v has turned. -/
structure Far (b : Nat) (v : Value) (w w' : World) : Prop where
  os : w'.os = w.os
  tape : w'.tape = w.tape
  output : w'.output = w.output
  size : w.heap.size ≤ w'.heap.size
  block : ∀ k, k < w.heap.size → k ≠ b → v.ownBlock ≠ some k → w'.heap[k]? = w.heap[k]?
theorem Far.refl (b : Nat) (v : Value) (w : World) : Far b v w w := ⟨rfl, rfl, rfl, Nat.le_refl _, fun _ _ _ _ => rfl⟩
theorem Far.of_gr {b : Nat} {v : Value} {w w' : World} (h : Gr w w') : Far b v w w' := ⟨Below.os h, Below.tape h, Below.output h, h.size, fun k hk _ _ => Below.block h k hk⟩
theorem Far.setCell (b o : Nat) (v : Value) (w : World) (x : Value) : Far b v w (w.setCell ⟨b, o, none⟩ x) := ⟨rfl, rfl, rfl, by simp [World.setCell], fun k _ hk _ => Below.heap_setCell _ _ _ _ hk⟩
theorem Far.of_grown {b : Nat} {v : Value} {w w' : World} (h : w.grownBy w' v.ownBlock) : Far b v w w' := ⟨h.os, h.tape, h.output, h.size, fun k hk _ hv => h.block k hk (fun e => hv e.symm)⟩
/-- A row lies where another lay, or is new. -/
def From (v : Value) (w : World) (v' : Value) : Prop := ∀ k, v'.ownBlock = some k → v.ownBlock = some k ∨ w.heap.size ≤ k
theorem From.refl (v : Value) (w : World) : From v w v := fun _ h => .inl h
theorem Far.trans {b : Nat} {v v1 : Value} {a c d : World} (h : Far b v a c) (hf : From v a v1) (k : Far b v1 c d) : Far b v a d :=
  ⟨k.os.trans h.os, k.tape.trans h.tape, k.output.trans h.output, Nat.le_trans h.size k.size, fun i hi hb hv =>
    (k.block i (Nat.lt_of_lt_of_le hi h.size) hb (fun e => by rcases hf i e with h1 | h1; exact hv h1; omega)).trans (h.block i hi hb hv)⟩
theorem From.trans {v v1 v2 : Value} {a c : World} (h : From v a v1) (hs : a.heap.size ≤ c.heap.size) (k : From v1 c v2) : From v a v2 := fun i e => by
  rcases k i e with h1 | h1
  · exact h i h1
  · exact .inr (by omega)
theorem Far.gr {b : Nat} {v : Value} {w0 w w' : World} (h : Far b v w w') (hg : Gr w0 w) (hb : w0.heap.size ≤ b) (hv : ∀ k, v.ownBlock = some k → w0.heap.size ≤ k) : Gr w0 w' :=
  Below.trans hg ⟨h.os, h.tape, h.output, h.size, fun k hk => h.block k (Nat.lt_of_lt_of_le hk hg.size) (by omega) (fun e => by have := hv k e; omega)⟩
/-- A net lies in block b, its packets in the row v. -/
structure NtIs (w : World) (b : Nat) (v : Value) (x : N) : Prop where
  nodes : w.cell? ⟨b, 0, none⟩ = some (.int .i64 x.n)
  rowv : w.cell? ⟨b, 1, none⟩ = some v
  cut : ∀ i j, i < 12 → j < 12 → w.cell? ⟨b, 2 + i * 12 + j, none⟩ = some (.bool (x.cut i j))
  free : ∀ i, i < 146 → w.frozen? ⟨b, i, none⟩ = false
  row : w.ownsRow (b + 1) 39 3 v x.L.length (pcells x.L)
  ok : x.Ok
theorem NtIs.gr {w w' : World} {b : Nat} {v : Value} {x : N} (h : NtIs w b v x) (hg : Gr w w') : NtIs w' b v x :=
  ⟨hg.cell h.nodes, hg.cell h.rowv, fun i j hi hj => hg.cell (h.cut i j hi hj), fun i hi => (hg.frozen (cell_lt h.nodes)).trans (h.free i hi), ownsRow_gr hg h.row, h.ok⟩
theorem Far.cell {b : Nat} {v : Value} {w w' : World} (h : Far b v w w') {c o : Nat} {u : Value} (hb : c ≠ b) (hv : v.ownBlock ≠ some c) (hc : w.cell? ⟨c, o, none⟩ = some u) : w'.cell? ⟨c, o, none⟩ = some u :=
  (World.cell?_of_block (w := w) (a := ⟨c, o, none⟩) (h.block c (cell_lt hc) hb hv)).trans hc
theorem Far.frozen {b : Nat} {v : Value} {w w' : World} (h : Far b v w w') {c o : Nat} (hb : c ≠ b) (hv : v.ownBlock ≠ some c) (hlt : c < w.heap.size) : w'.frozen? ⟨c, o, none⟩ = w.frozen? ⟨c, o, none⟩ :=
  World.frozen?_of_block (w := w) (a := ⟨c, o, none⟩) (h.block c hlt hb hv)
theorem ownsRow_far {b : Nat} {v u : Value} {w w' : World} (h : Far b v w w') {base : Nat} {e : TypeId} {size n : Nat} {xs : List Value} (ho : w.ownsRow base e size u n xs) (hb : u.ownBlock ≠ some b) (hv : ∀ k, u.ownBlock = some k → v.ownBlock ≠ some k) : w'.ownsRow base e size u n xs := by
  obtain ⟨h1, h2⟩ := ho
  refine ⟨h1, h2.imp id ?_⟩
  rintro ⟨g, cap, cur, rfl, hg, hc, r⟩
  have hlt : g < w.heap.size := (Array.getElem?_eq_some_iff.1 hc).1
  exact ⟨g, cap, cur, rfl, hg, (h.block g hlt (fun e => hb (by rw [e]; rfl)) (hv g rfl)).trans hc, r⟩
/-- Another net is as it was. -/
theorem NtIs.far {w w' : World} {b c : Nat} {v u : Value} {x : N} (h : NtIs w c u x) (hf : Far b v w w') (hb : c ≠ b) (hv : v.ownBlock ≠ some c) (hu : u.ownBlock ≠ some b) (huv : ∀ k, u.ownBlock = some k → v.ownBlock ≠ some k) : NtIs w' c u x :=
  ⟨hf.cell hb hv h.nodes, hf.cell hb hv h.rowv, fun i j hi hj => hf.cell hb hv (h.cut i j hi hj), fun i hi => (hf.frozen hb hv (cell_lt h.nodes)).trans (h.free i hi), ownsRow_far hf h.row hu huv, h.ok⟩
theorem NtIs.away {w : World} {b : Nat} {v : Value} {x : N} (h : NtIs w b v x) : ∀ k, v.ownBlock = some k → b < k ∧ k < w.heap.size := fun k e => by have := h.row.lt k e; omega
theorem pcells_get (L : List P) (k : Nat) (h : k < L.length) (w : World) (g : Nat) (hc : ∀ j u, (pcells L)[j]? = some u → w.cell? ⟨g, j, none⟩ = some u) :
    w.cell? ⟨g, k * 3, none⟩ = some (.int .i64 L[k].a) ∧ w.cell? ⟨g, k * 3 + 1, none⟩ = some (.int .i64 L[k].b) ∧ w.cell? ⟨g, k * 3 + 2, none⟩ = some (.string L[k].s) :=
  ⟨hc _ _ (pcells_at L k h).1, hc _ _ (pcells_at L k h).2.1, hc _ _ (pcells_at L k h).2.2⟩
/-- The row of a net that is not empty. -/
theorem NtIs.form {w : World} {b : Nat} {v : Value} {x : N} (h : NtIs w b v x) (hn : 0 < x.L.length) : ∃ g cap, v = .slice (some ⟨g, 0, none⟩) x.L.length cap ∧ b < g ∧ g < w.heap.size ∧ x.L.length ≤ cap ∧ cap ≤ 9223372036854775807 ∧ ∀ j u, (pcells x.L)[j]? = some u → w.cell? ⟨g, j, none⟩ = some u := by
  obtain ⟨g, cap, hv, hb, hlt⟩ := h.row.form hn
  have hc := h.row.cells (g := g) (by rw [hv]; rfl)
  rcases h.row.2 with ⟨_, h0⟩ | ⟨g', cap', cur, hv', _, _, h1, h2, _⟩
  · omega
  · rw [hv] at hv'
    simp only [Value.slice.injEq, Option.some.injEq, Addr.mk.injEq, and_true, true_and] at hv'
    obtain ⟨rfl, rfl⟩ := hv'
    refine ⟨g, cap, hv, by omega, hlt, h1, h2, fun j u hj => ?_⟩
    have := hc j u hj
    have hadd : (⟨g, 0, none⟩ : Addr).add j = ⟨g, j, none⟩ := by unfold Addr.add; split <;> simp_all
    rwa [hadd] at this
theorem NtIs.slice {w : World} {b : Nat} {v : Value} {x : N} (h : NtIs w b v x) : ∃ a cap, v = .slice a x.L.length cap := by
  obtain ⟨a, cap, hv, _⟩ := ownsRow_slice h.row
  exact ⟨a, cap, hv⟩
set_option maxRecDepth 100000 in
theorem connects_any {b : Nat} {v : Value} {x : N} (a c : Int) (w : World) (h : NtIs w b v x) :
    Calls Try.prog 25 #[.pointer (some ⟨b, 0, none⟩), .int .i64 a, .int .i64 c] w fun e w' => e = .returned (.bool (wayB x.n a c)) ∧ w = w' := by
  have c0 := h.nodes
  generalize hq : wayB x.n a c = q
  have HQ := Lib.hid hq
  clear hq h
  generalize x.n = n at *
  by_cases h0 : 0 ≤ a
  · by_cases h1 : a < (n : Int)
    · by_cases h2 : 0 ≤ c
      · by_cases h3 : c < (n : Int)
        · go_enter Try.func25, Try.ntmps25
          go_wp2
          go_ret
          exact ⟨by rw [← HQ.out]; by_cases hac : a = c <;> simp [wayB, h0, h1, h2, h3, bne, hac]; try rw [← hac]; simp [*], rfl⟩
        · go_enter Try.func25, Try.ntmps25
          go_wp2
          go_ret
          exact ⟨by rw [← HQ.out]; simp [wayB]; omega, rfl⟩
      · go_enter Try.func25, Try.ntmps25
        go_wp2
        go_ret
        exact ⟨by rw [← HQ.out]; simp [wayB]; omega, rfl⟩
    · go_enter Try.func25, Try.ntmps25
      go_wp2
      go_ret
      exact ⟨by rw [← HQ.out]; simp [wayB]; omega, rfl⟩
  · go_enter Try.func25, Try.ntmps25
    go_wp2
    go_ret
    exact ⟨by rw [← HQ.out]; simp [wayB]; omega, rfl⟩
set_option maxRecDepth 100000 in
theorem nhas_any {b : Nat} {v : Value} {x : N} (k : Int) (w : World) (h : NtIs w b v x) :
    Calls Try.prog 28 #[.pointer (some ⟨b, 0, none⟩), .int .i64 k] w fun e w' => e = .returned (.bool (Nt.hasB x k)) ∧ w = w' := by
  obtain ⟨a, cap, rfl⟩ := h.slice
  have c1 := h.rowv
  generalize hq : Nt.hasB x k = q
  have HQ := Lib.hid hq
  clear hq h
  have HE : Hid (∀ n : Nat, n = x.L.length → Nt.hasB x k = decide (0 ≤ k ∧ k < (n : Int))) := Lib.hid fun n hn => by rw [hn]; rfl
  rw [HE.out _ rfl] at HQ
  clear HE
  generalize x.L.length = n at *
  by_cases h0 : 0 ≤ k
  · by_cases h1 : k < (n : Int)
    · go_enter Try.func28, Try.ntmps28
      go_wp2
      go_ret
      exact ⟨by rw [← HQ.out]; simp [h0, h1], rfl⟩
    · go_enter Try.func28, Try.ntmps28
      go_wp2
      go_ret
      exact ⟨by rw [← HQ.out]; simp [h0, h1], rfl⟩
  · go_enter Try.func28, Try.ntmps28
    go_wp2
    go_ret
    exact ⟨by rw [← HQ.out]; simp; omega, rfl⟩
set_option maxRecDepth 100000 in
theorem nlen_any {b : Nat} {v : Value} {x : N} (w : World) (h : NtIs w b v x) :
    Calls Try.prog 12 #[.pointer (some ⟨b, 0, none⟩)] w fun e w' => e = .returned (.int .i64 (x.L.length : Nat)) ∧ w = w' := by
  obtain ⟨a, cap, rfl⟩ := h.slice
  have c1 := h.rowv
  clear h
  generalize x.L.length = n at *
  go_enter Try.func12, Try.ntmps12
  go_wp2
  go_ret
  exact ⟨rfl, rfl⟩
theorem clone_s (s : ByteArray) (w : World) (hlim : s.size ≤ 281474976710656) :
    Calls Try.prog 31 #[.string s] w fun e w' => e = .returned (.string s) ∧ Gr w w' := by
  go_enter Try.func31, Try.ntmps31
  go_wp2_with fail
  refine (Try.stringslite_Clone s _ hlim).mono ?_
  rintro e w' ⟨rfl, hb⟩
  go_wp2
  go_ret
  exact ⟨rfl, hb⟩
set_option maxRecDepth 100000 in
theorem pclone_any (p : P) (w : World) (hs : p.s.size ≤ 1000000) :
    Calls Try.prog 30 #[p.val] w fun e w' => e = .returned p.val ∧ Gr w w' := by
  obtain ⟨a, c, s⟩ := p
  have HC := Lib.hid (fun w => clone_s s w (by have : s.size ≤ 1000000 := hs; omega))
  clear hs
  show Calls Try.prog 30 #[.agg #[.int .i64 a, .int .i64 c, .string s]] w fun e w' => e = .returned (.agg #[.int .i64 a, .int .i64 c, .string s]) ∧ Gr w w'
  go_enter Try.func30, Try.ntmps30
  go_wp2_with fail
  refine (HC.out _).mono ?_
  rintro e w2 ⟨rfl, hg⟩
  have hsz : (w.alloc (.cells #[.int .i64 a, .int .i64 c, .string s] 39)).heap.size = w.heap.size + 1 := by simp
  have HB0 := Lib.hid (((Blk.new w #[.int .i64 a, .int .i64 c, .string s] 39).gr ((Gr.refl _).alloc (.cells #[.int .i64 0, .int .i64 0, .string ⟨#[]⟩] 39))).gr hg)
  have hb1 := (Blk.new (w.alloc (.cells #[.int .i64 a, .int .i64 c, .string s] 39)) #[.int .i64 0, .int .i64 0, .string ⟨#[]⟩] 39).gr hg
  rw [hsz] at hb1
  have HB1 := Lib.hid hb1
  have HG := Lib.hid ((((Gr.refl w).alloc (.cells #[.int .i64 a, .int .i64 c, .string s] 39)).alloc (.cells #[.int .i64 0, .int .i64 0, .string ⟨#[]⟩] 39)).trans hg)
  have p0 := HB0.out.cell (i := 0) rfl
  have p1 := HB0.out.cell (i := 1) rfl
  have p2 := HB0.out.cell (i := 2) rfl
  have f0 := HB0.out.free 2
  have q0 := HB1.out.cell (i := 0) rfl
  have q1 := HB1.out.cell (i := 1) rfl
  have q2 := HB1.out.cell (i := 2) rfl
  have g0 := HB1.out.free 0
  have g1 := HB1.out.free 1
  have g2 := HB1.out.free 2
  clear hg hb1 hsz HB0
  go_wp2
  have HZ := Lib.hid ((HB1.out.other (c := w.heap.size) (by omega) 2 (.string s)).store3 (.int .i64 a) (.int .i64 c) (.string s))
  have r0 := HZ.out.cell (i := 0) rfl
  have r1 := HZ.out.cell (i := 1) rfl
  have r2 := HZ.out.cell (i := 2) rfl
  refine bodyPost_ret (v := .agg #[.int .i64 a, .int .i64 c, .string s]) (by simp [results, Try.results30, go_sem, r0, r1, r2]; try rfl) rfl ?_
  exact ⟨rfl, (HG.out.setCell (by show w.heap.size ≤ w.heap.size; omega) _).store3 (by omega) _ _ _⟩
end Go.Proofs.Ytahohgnkichibab
