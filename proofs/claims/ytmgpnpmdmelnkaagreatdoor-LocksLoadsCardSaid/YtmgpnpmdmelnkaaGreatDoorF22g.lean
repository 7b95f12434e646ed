import Derived.Test.YtmgpnpmdmelnkaaGreatDoorF22f
import Derived.Test.YtmgpnpmdmelnkaaGreatDoorF22h
import Derived.WalkKit
import Derived.ProofKit
import Derived.LoopTactic
import Derived.Outline
import Derived.WalkSpells
import Derived.WalkLawsBesides
import Derived.Lib.Hide
import Derived.Deep.LoopGhost
import Derived.Deep.QuietTactic
import Derived.BigQuiet
import Derived.ShutString
import Derived.IntWalk
import Derived.Deep.RegionWith
import Derived.Deep.RegionHeld3
namespace Go.Proofs.YtmgpnpmdmelnkaaGreatDoor
open Go.ChangeShapes Go.WideShapes Go.ChangeAt Go.RowKit
set_option linter.unusedVariables false
set_option linter.unusedSimpArgs false
/-- A book: what is held, what waits, the last token. -/
structure Bk where
  H : List Lok
  W : List Lok
  last : Int
/-- Of old blocks none but b and the two rows has turned. -/
structure Far2 (b : Nat) (v1 v2 : Value) (w w' : World) : Prop where
  os : w'.os = w.os
  tape : w'.tape = w.tape
  output : w'.output = w.output
  size : w.heap.size ≤ w'.heap.size
  block : ∀ k, k < w.heap.size → k ≠ b → v1.ownBlock ≠ some k → v2.ownBlock ≠ some k → w'.heap[k]? = w.heap[k]?
theorem Far2.of_gr {b : Nat} {v1 v2 : Value} {w w' : World} (h : Gr w w') : Far2 b v1 v2 w w' := ⟨Below.os h, Below.tape h, Below.output h, h.size, fun k hk _ _ _ => Below.block h k hk⟩
theorem Far2.refl (b : Nat) (v1 v2 : Value) (w : World) : Far2 b v1 v2 w w := Far2.of_gr (Gr.refl w)
theorem Far2.setCell (b o : Nat) (v1 v2 : Value) (w : World) (x : Value) : Far2 b v1 v2 w (w.setCell ⟨b, o, none⟩ x) := ⟨rfl, rfl, rfl, by simp [World.setCell], fun k _ hk _ _ => Below.heap_setCell _ _ _ _ hk⟩
theorem Far2.of_grown1 {b : Nat} {v1 v2 : Value} {w w' : World} (h : w.grownBy w' v1.ownBlock) : Far2 b v1 v2 w w' := ⟨h.os, h.tape, h.output, h.size, fun k hk _ hv _ => h.block k hk (fun e => hv e.symm)⟩
theorem Far2.of_grown2 {b : Nat} {v1 v2 : Value} {w w' : World} (h : w.grownBy w' v2.ownBlock) : Far2 b v1 v2 w w' := ⟨h.os, h.tape, h.output, h.size, fun k hk _ _ hv => h.block k hk (fun e => hv e.symm)⟩
theorem Far2.trans {b : Nat} {v1 v2 u1 u2 : Value} {a c d : World} (h : Far2 b v1 v2 a c) (f1 : From v1 a u1) (f2 : From v2 a u2) (k : Far2 b u1 u2 c d) : Far2 b v1 v2 a d :=
  ⟨k.os.trans h.os, k.tape.trans h.tape, k.output.trans h.output, Nat.le_trans h.size k.size, fun i hi hb h1 h2 =>
    (k.block i (Nat.lt_of_lt_of_le hi h.size) hb (fun e => by rcases f1 i e with h3 | h3; exact h1 h3; omega) (fun e => by rcases f2 i e with h3 | h3; exact h2 h3; omega)).trans (h.block i hi hb h1 h2)⟩
structure BkIs (w0 w : World) (b : Nat) (v1 v2 : Value) (B : Bk) : Prop where
  base : w0.heap.size ≤ b
  grown : Gr w0 w
  blk : Blk w b #[v1, v2, .int .u64 B.last] 69
  r1 : w.ownsRow w0.heap.size 42 4 v1 B.H.length (rcells encLok B.H)
  r2 : w.ownsRow w0.heap.size 42 4 v2 B.W.length (rcells encLok B.W)
  ne : v1.ownBlock = none ∨ v1.ownBlock ≠ v2.ownBlock
structure Bk.Ok (B : Bk) : Prop where
  path : ∀ x, x ∈ B.H ∨ x ∈ B.W → IsPath x.txt
  last : 0 ≤ B.last ∧ B.last ≤ 18446744073709551615
  len : B.H.length + B.W.length ≤ 500
theorem BkIs.gr {w0 w w' : World} {b : Nat} {v1 v2 : Value} {B : Bk} (h : BkIs w0 w b v1 v2 B) (hg : Gr w w') : BkIs w0 w' b v1 v2 B :=
  ⟨h.base, h.grown.trans hg, h.blk.gr hg, ownsRow_gr hg h.r1, ownsRow_gr hg h.r2, h.ne⟩
theorem owns_base {w : World} {b1 b2 k n : Nat} {e : TypeId} {v : Value} {xs : List Value} (h : w.ownsRow b1 e k v n xs) (hb : b2 ≤ b1) : w.ownsRow b2 e k v n xs :=
  ⟨h.1, h.2.imp id fun ⟨g, cap, cur, h1, h2, r⟩ => ⟨g, cap, cur, h1, Nat.le_trans hb h2, r⟩⟩
/-- A step of a book. -/
def BkTo (w0 w w' : World) (b : Nat) (v1 v2 : Value) (B : Bk) : Prop := ∃ u1 u2, BkIs w0 w' b u1 u2 B ∧ Far2 b v1 v2 w w' ∧ From v1 w u1 ∧ From v2 w u2
theorem BkIs.to {w0 w w' : World} {b : Nat} {v1 v2 : Value} {B : Bk} (h : BkIs w0 w b v1 v2 B) (hg : Gr w w') : BkTo w0 w w' b v1 v2 B := ⟨v1, v2, h.gr hg, Far2.of_gr hg, From.refl _ _, From.refl _ _⟩
variable {w0 w : World} {b : Nat} {v1 v2 : Value} {B : Bk}
theorem bfield0 (a1 a2 : Option Addr) (n1 k1 n2 k2 : Nat) (t : Int) (w : World) : (Instr.field 69 (.agg #[.slice a1 n1 k1, .slice a2 n2 k2, .int .u64 t]) 0).run Tryz.prog w = .ok (.slice a1 n1 k1) w := by kernel_rfl
theorem bfield1 (a1 a2 : Option Addr) (n1 k1 n2 k2 : Nat) (t : Int) (w : World) : (Instr.field 69 (.agg #[.slice a1 n1 k1, .slice a2 n2 k2, .int .u64 t]) 1).run Tryz.prog w = .ok (.slice a2 n2 k2) w := by kernel_rfl
theorem bfield2 (a1 a2 : Option Addr) (n1 k1 n2 k2 : Nat) (t : Int) (w : World) : (Instr.field 69 (.agg #[.slice a1 n1 k1, .slice a2 n2 k2, .int .u64 t]) 2).run Tryz.prog w = .ok (.int .u64 t) w := by kernel_rfl
theorem bkNew_any (t : Int) (w0 w : World) (hg : Gr w0 w) : Calls Tryz.prog 8 #[.int .u64 t] w fun e w' => ∃ b, e = .returned (.pointer (some ⟨b, 0, none⟩)) ∧ w.heap.size ≤ b ∧ BkIs w0 w' b (.slice none 0 0) (.slice none 0 0) ⟨[], [], t⟩ ∧ Gr w w' := by
  have HB := Lib.hid (Blk.new w #[.slice none 0 0, .slice none 0 0, .int .u64 t] 69)
  have HG := Lib.hid ((Gr.refl w).alloc (.cells #[.slice none 0 0, .slice none 0 0, .int .u64 t] 69))
  go_enter Tryz.func8, Tryz.ntmps8
  go_wp2
  go_ret
  exact ⟨w.heap.size, rfl, Nat.le_refl _, ⟨hg.size, hg.trans HG.out, HB.out, World.ownsRow_nil _ _ _ _, World.ownsRow_nil _ _ _ _, .inl rfl⟩, HG.out⟩
set_option maxRecDepth 100000 in
theorem content_any (w : World) (h : BkIs w0 w b v1 v2 B) : Calls Tryz.prog 31 #[.pointer (some ⟨b, 0, none⟩)] w fun e w' => e = .returned (.agg #[v1, v2, .int .u64 B.last]) ∧ Gr w w' := by
  obtain ⟨a1, k1, rfl, _⟩ := ownsRow_slice h.r1
  obtain ⟨a2, k2, rfl, _⟩ := ownsRow_slice h.r2
  have c0 := h.blk.cell (i := 0) rfl
  have c1 := h.blk.cell (i := 1) rfl
  have c2 := h.blk.cell (i := 2) rfl
  generalize B.H.length = n1 at *
  generalize B.W.length = n2 at *
  generalize B.last = t at *
  have HG := Lib.hid ((Gr.refl w).alloc (.cells #[.slice a1 n1 k1, .slice a2 n2 k2, .int .u64 t] 69))
  have HB := Lib.hid (Blk.new w #[.slice a1 n1 k1, .slice a2 n2 k2, .int .u64 t] 69)
  have hz := (Gr.refl w).alloc (.cells #[.slice none 0 0, .slice none 0 0, .int .u64 0] 69)
  have e0 := hz.cell c0
  have e1 := hz.cell c1
  have e2 := hz.cell c2
  clear h hz
  go_enter Tryz.func31, Tryz.ntmps31
  go_wp2
  have d0 := HB.out.cell (i := 0) rfl
  have d1 := HB.out.cell (i := 1) rfl
  have d2 := HB.out.cell (i := 2) rfl
  have f0 := HB.out.free 0
  refine bodyPost_ret (by simp [results, Tryz.results31, go_sem, d0, d1, d2, f0]; try rfl) rfl ?_
  exact ⟨rfl, HG.out⟩
set_option maxRecDepth 100000 in
theorem held_any (w : World) (h : BkIs w0 w b v1 v2 B) (hl : B.H.length ≤ 1000) : Calls Tryz.prog 12 #[.pointer (some ⟨b, 0, none⟩)] w fun e w' => ∃ v', e = .returned v' ∧ w'.ownsRow w.heap.size 42 4 v' B.H.length (rcells encLok B.H) ∧ Gr w w' := by
  have HC := Lib.hid (content_any w h)
  have H := Lib.hid h
  obtain ⟨a1, k1, rfl, _⟩ := ownsRow_slice h.r1
  obtain ⟨a2, k2, rfl, _⟩ := ownsRow_slice h.r2
  have hf := bfield0 a1 a2 B.H.length k1 B.W.length k2 B.last
  clear h
  go_enter Tryz.func12, Tryz.ntmps12
  go_wp2_with fail
  refine HC.out.mono ?_
  rintro e w1 ⟨rfl, hg⟩
  have HK := Lib.hid (cloneLok_any B.H w1 (ownsRow_gr hg H.out.r1) hl)
  have HG := Lib.hid hg
  clear hg
  go_wp2_with fail
  refine HK.out.mono ?_
  rintro e w2 ⟨v', rfl, ho, hg2⟩
  obtain ⟨a', k', rfl, _⟩ := ownsRow_slice ho
  have HO := Lib.hid (owns_base ho HG.out.size)
  have HG2 := Lib.hid (HG.out.trans hg2)
  clear ho hg2
  go_wp2
  go_ret
  exact ⟨_, rfl, HO.out, HG2.out⟩
set_option maxRecDepth 100000 in
theorem waits_any (w : World) (h : BkIs w0 w b v1 v2 B) (hl : B.W.length ≤ 1000) : Calls Tryz.prog 14 #[.pointer (some ⟨b, 0, none⟩)] w fun e w' => ∃ v', e = .returned v' ∧ w'.ownsRow w.heap.size 42 4 v' B.W.length (rcells encLok B.W) ∧ Gr w w' := by
  have HC := Lib.hid (content_any w h)
  have H := Lib.hid h
  obtain ⟨a1, k1, rfl, _⟩ := ownsRow_slice h.r1
  obtain ⟨a2, k2, rfl, _⟩ := ownsRow_slice h.r2
  have hf := bfield1 a1 a2 B.H.length k1 B.W.length k2 B.last
  clear h
  go_enter Tryz.func14, Tryz.ntmps14
  go_wp2_with fail
  refine HC.out.mono ?_
  rintro e w1 ⟨rfl, hg⟩
  have HK := Lib.hid (cloneLok_any B.W w1 (ownsRow_gr hg H.out.r2) hl)
  have HG := Lib.hid hg
  clear hg
  go_wp2_with fail
  refine HK.out.mono ?_
  rintro e w2 ⟨v', rfl, ho, hg2⟩
  obtain ⟨a', k', rfl, _⟩ := ownsRow_slice ho
  have HO := Lib.hid (owns_base ho HG.out.size)
  have HG2 := Lib.hid (HG.out.trans hg2)
  clear ho hg2
  go_wp2
  go_ret
  exact ⟨_, rfl, HO.out, HG2.out⟩
set_option maxRecDepth 100000 in
theorem last_any (w : World) (h : BkIs w0 w b v1 v2 B) : Calls Tryz.prog 16 #[.pointer (some ⟨b, 0, none⟩)] w fun e w' => e = .returned (.int .u64 B.last) ∧ Gr w w' := by
  have HC := Lib.hid (content_any w h)
  obtain ⟨a1, k1, rfl, _⟩ := ownsRow_slice h.r1
  obtain ⟨a2, k2, rfl, _⟩ := ownsRow_slice h.r2
  have hf := bfield2 a1 a2 B.H.length k1 B.W.length k2 B.last
  clear h
  go_enter Tryz.func16, Tryz.ntmps16
  go_wp2_with fail
  refine HC.out.mono ?_
  rintro e w1 ⟨rfl, hg⟩
  have HG := Lib.hid hg
  clear hg
  go_wp2
  go_ret
  exact ⟨rfl, HG.out⟩
set_option maxRecDepth 100000 in
theorem exhausted_any (w : World) (h : BkIs w0 w b v1 v2 B) : Calls Tryz.prog 44 #[.pointer (some ⟨b, 0, none⟩)] w fun e w' => e = .returned (.bool (decide (B.last = 18446744073709551615))) ∧ w = w' := by
  have c2 := h.blk.cell (i := 2) rfl
  generalize B.last = t at *
  clear h
  go_enter Tryz.func44, Tryz.ntmps44
  go_wp2
  go_ret
  exact ⟨by congr 2, rfl⟩
end Go.Proofs.YtmgpnpmdmelnkaaGreatDoor
