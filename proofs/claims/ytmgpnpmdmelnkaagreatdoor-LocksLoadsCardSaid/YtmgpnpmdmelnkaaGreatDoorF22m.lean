import Derived.Test.YtmgpnpmdmelnkaaGreatDoorF22l
import Derived.WalkKit
import Derived.ProofKit
import Derived.LoopTactic
import Derived.Outline
import Derived.WalkSpells
import Derived.WalkLawsBesides
import Derived.Lib.Hide
import Derived.Deep.LoopGhost
import Derived.Deep.QuietTactic
import Derived.BigQuiet
import Derived.ShutString
import Derived.IntWalk
import Derived.Lib.MinMax
import Derived.Deep.AppendLies
import Derived.Deep.RegionWith
import Derived.Deep.RegionHeld3
import Derived.Laws.OwnMore
namespace Go.Proofs.YtmgpnpmdmelnkaaGreatDoor
open Go.ChangeShapes Go.WideShapes Go.ChangeAt Go.RowKit
set_option linter.unusedVariables false
set_option linter.unusedSimpArgs false
variable {w0 w : World} {b : Nat} {v1 v2 : Value} {B : Bk}
theorem Far2.blk {b c : Nat} {v1 v2 : Value} {w w' : World} {cs : Array Value} {t : TypeId} (h : Far2 b v1 v2 w w') (hc : Blk w c cs t) (hb : c ≠ b) (h1 : v1.ownBlock ≠ some c) (h2 : v2.ownBlock ≠ some c) : Blk w' c cs t := (h.block c hc.lt hb h1 h2).trans hc
/-- A result is stored into a block that is newer than the book. -/
theorem BkTo.ret4 {w0 w w5 c : World} {b z : Nat} {v1 v2 : Value} {B B' : Bk} (hB : BkIs w0 w b v1 v2 B) (hg : Gr w w5) (hz : w.heap.size ≤ z) (hz5 : z < w5.heap.size) (ht : BkTo w0 w5 c b v1 v2 B') (x0 x1 x2 x3 : Value) :
    BkTo w0 w ((((c.setCell ⟨z, 0, none⟩ x0).setCell ⟨z, 1, none⟩ x1).setCell ⟨z, 2, none⟩ x2).setCell ⟨z, 3, none⟩ x3) b v1 v2 B' := by
  obtain ⟨u1, u2, hk, hF, f1, f2⟩ := ht
  have hb : z ≠ b := by have := hB.blk.lt; omega
  have n1 : u1.ownBlock ≠ some z := fun e => by
    rcases f1 z e with h | h
    · have := (hB.r1.lt _ h).2; omega
    · omega
  have n2 : u2.ownBlock ≠ some z := fun e => by
    rcases f2 z e with h | h
    · have := (hB.r2.lt _ h).2; omega
    · omega
  have h0 : w0.heap.size ≤ z := Nat.le_trans hB.grown.size hz
  refine ⟨u1, u2, (((hk.setO hb n1 n2 h0 _).setO hb n1 n2 h0 _).setO hb n1 n2 h0 _).setO hb n1 n2 h0 _, ?_, fun k e => (f1 k e).imp id (fun h => Nat.le_trans hg.size h), fun k e => (f2 k e).imp id (fun h => Nat.le_trans hg.size h)⟩
  exact (((((Far2.of_gr hg).trans (From.refl _ _) (From.refl _ _) hF).fresh hz _).fresh hz _).fresh hz _).fresh hz _
theorem BkTo.blk {w0 w w5 c : World} {b z : Nat} {v1 v2 : Value} {B B' : Bk} {cs : Array Value} {t : TypeId} (hB : BkIs w0 w b v1 v2 B) (hz : w.heap.size ≤ z) (ht : BkTo w0 w5 c b v1 v2 B') (h : Blk w5 z cs t) : Blk c z cs t := by
  obtain ⟨u1, u2, hk, hF, f1, f2⟩ := ht
  exact hF.blk h (by have := hB.blk.lt; omega) (fun e => by have := (hB.r1.lt _ e).2; omega) (fun e => by have := (hB.r2.lt _ e).2; omega)
theorem BkTo.pre {w0 w w1 w2 : World} {b : Nat} {v1 v2 : Value} {B : Bk} (hg : Gr w w1) (h : BkTo w0 w1 w2 b v1 v2 B) : BkTo w0 w w2 b v1 v2 B := by
  obtain ⟨u1, u2, hk, hF, f1, f2⟩ := h
  exact ⟨u1, u2, hk, (Far2.of_gr hg).trans (From.refl _ _) (From.refl _ _) hF, fun k e => (f1 k e).imp id (fun h => Nat.le_trans hg.size h), fun k e => (f2 k e).imp id (fun h => Nat.le_trans hg.size h)⟩
theorem BkTo.post {w0 w w1 w2 : World} {b : Nat} {v1 v2 : Value} {B : Bk} (h : BkTo w0 w w1 b v1 v2 B) (hg : Gr w1 w2) : BkTo w0 w w2 b v1 v2 B := by
  obtain ⟨u1, u2, hk, hF, f1, f2⟩ := h
  exact ⟨u1, u2, hk.gr hg, hF.trans f1 f2 (Far2.of_gr hg), f1, f2⟩
/-- What Acquire does: the book, the lock, its place, the error's number. -/
noncomputable def acqB (B : Bk) (x : Lok) (wait : Bool) : Bk × Lok × Int × Int :=
  if 0 ≤ (findB B x.ses x.txt).2 then
    if (findB B x.ses x.txt).1.ex ≠ x.ex then (B, zLok, 0, 16) else (B, (findB B x.ses x.txt).1, (findB B x.ses x.txt).2, 0)
  else if 8 ≤ cntS x.ses B.H + cntS x.ses B.W then (B, zLok, 0, 17)
  else if freeB B.H B.W x = true then
    if B.last = 18446744073709551615 then (B, zLok, 0, 19) else (grantB B x, tokd B x, 0, 0)
  else if wait = false then (B, zLok, 0, 16)
  else if 8 ≤ B.W.length then (B, zLok, 0, 17)
  else (⟨B.H, B.W ++ [x], B.last⟩, x, (B.W.length : Int) + 1, 0)
def clr (x : Lok) : Lok := ⟨x.ses, x.txt, x.ex, 0⟩
def AcqIs (w0 w : World) (b : Nat) (v1 v2 : Value) (r : Bk × Lok × Int × Int) (e : Ending) (w' : World) : Prop :=
  e = .returned (.tuple #[.agg #[.int .i64 r.2.1.ses, .string r.2.1.txt, .bool r.2.1.ex, .int .u64 r.2.1.tok], .int .i64 r.2.2.1, .int .i64 r.2.2.2]) ∧ BkTo w0 w w' b v1 v2 r.1
set_option maxRecDepth 100000 in
set_option maxHeartbeats 4000000 in
theorem bacq_any (x : Lok) (wait : Bool) (w : World) (h : BkIs w0 w b v1 v2 B) (hl : B.H.length + B.W.length ≤ 400) (ht : 0 ≤ B.last ∧ B.last ≤ 18446744073709551615) (hM : ML w0) (hS : SrtK B.H)
    (hx : IsPath x.txt) (hH : ∀ y ∈ B.H, IsPath y.txt) (hW : ∀ y ∈ B.W, IsPath y.txt) :
    Calls Tryz.prog 22 #[.pointer (some ⟨b, 0, none⟩), .agg #[.int .i64 x.ses, .string x.txt, .bool x.ex, .int .u64 x.tok], .bool wait] w (AcqIs w0 w b v1 v2 (acqB B (clr x) wait)) := by
  have H := Lib.hid h
  have HS := Lib.hid hS
  have HP1 := Lib.hid hH
  have HP2 := Lib.hid hW
  have HX := Lib.hid hx
  have HM := Lib.hid hM
  have HT := Lib.hid ht
  have hlt := h.blk.lt
  obtain ⟨a1, k1, rfl, _⟩ := ownsRow_slice h.r1
  obtain ⟨a2, k2, rfl, _⟩ := ownsRow_slice h.r2
  have HG2 := Lib.hid (((Gr.refl w).alloc (.cells #[.int .i64 x.ses, .string x.txt, .bool x.ex, .int .u64 0] 42)).alloc (.cells #[.int .i64 0, .string ⟨#[]⟩, .bool false, .int .u64 0] 42))
  have HBx := Lib.hid ((Blk.new w #[.int .i64 x.ses, .string x.txt, .bool x.ex, .int .u64 0] 42).gr ((Gr.refl _).alloc (.cells #[.int .i64 0, .string ⟨#[]⟩, .bool false, .int .u64 0] 42)))
  have HBz := Lib.hid (Blk.new (w.alloc (.cells #[.int .i64 x.ses, .string x.txt, .bool x.ex, .int .u64 0] 42)) #[.int .i64 0, .string ⟨#[]⟩, .bool false, .int .u64 0] 42)
  have hs1 : (w.alloc (.cells #[.int .i64 x.ses, .string x.txt, .bool x.ex, .int .u64 0] 42)).heap.size = w.heap.size + 1 := by simp
  rw [hs1] at HBz
  have HA : Hid (acqB B (clr x) wait = acqB B ⟨x.ses, x.txt, x.ex, 0⟩ wait) := Lib.hid rfl
  clear h hS hx hH hW hM ht hs1
  go_enter Tryz.func22, Tryz.ntmps22
  go_upto_region 4 with fail
  generalize (w.alloc (.cells #[.int .i64 x.ses, .string x.txt, .bool x.ex, .int .u64 0] 42)).alloc (.cells #[.int .i64 0, .string ⟨#[]⟩, .bool false, .int .u64 0] 42) = w2 at *
  have x0 := HBx.out.cell (i := 0) rfl
  have x1 := HBx.out.cell (i := 1) rfl
  go_wp2_with fail
  refine (bfind_any x.ses x.txt w2 (H.out.gr HG2.out) (by omega)).mono ?_
  rintro e w3 ⟨rfl, hg3⟩
  have hg4 := hg3.alloc (.cells #[.int .i64 (findB B x.ses x.txt).1.ses, .string (findB B x.ses x.txt).1.txt, .bool (findB B x.ses x.txt).1.ex, .int .u64 (findB B x.ses x.txt).1.tok] 42)
  have HBh := Lib.hid (Blk.new w3 #[.int .i64 (findB B x.ses x.txt).1.ses, .string (findB B x.ses x.txt).1.txt, .bool (findB B x.ses x.txt).1.ex, .int .u64 (findB B x.ses x.txt).1.tok] 42)
  have HG4 := Lib.hid (HG2.out.trans hg4)
  have HBx := Lib.hid (HBx.out.gr hg4)
  have HBz3 := Lib.hid (HBz.out.gr hg3)
  have HBz := Lib.hid (HBz.out.gr hg4)
  clear x0 x1 hg3 hg4
  go_upto_region 5 with fail
  generalize hfd : findB B x.ses x.txt = fd at *
  have HFD := Lib.hid hfd
  clear hfd
  have hZlt : w.heap.size + 1 < w3.heap.size := by have := HBz3.out.lt; omega
  generalize hw4 : w3.alloc (.cells #[.int .i64 fd.1.ses, .string fd.1.txt, .bool fd.1.ex, .int .u64 fd.1.tok] 42) = w4 at *
  have HBh : Hid (Blk w4 w3.heap.size #[.int .i64 fd.1.ses, .string fd.1.txt, .bool fd.1.ex, .int .u64 fd.1.tok] 42) := HBh
  clear hw4
  generalize w3.heap.size = ph at *
  have HFR := Lib.hid (fun w' (hg : Gr w4 w') => bfree_any ⟨x.ses, x.txt, x.ex, 0⟩ B.W w' (H.out.gr (HG4.out.trans hg)) (by omega) (ownsRow_gr (HG4.out.trans hg) H.out.r2) (by omega) HX.out HP1.out HP2.out)
  generalize hfr : freeB B.H B.W ⟨x.ses, x.txt, x.ex, 0⟩ = fr at *
  have HFQ := Lib.hid hfr
  clear hfr
  have b1 := (H.out.gr HG4.out).blk.cell (i := 1) rfl
  have x0 := HBx.out.cell (i := 0) rfl
  have x1 := HBx.out.cell (i := 1) rfl
  have x2 := HBx.out.cell (i := 2) rfl
  have x3 := HBx.out.cell (i := 3) rfl
  have HX : Hid (∀ w0 w9 : World, Gr w0 w9 → (fun w9 => Gr w4 w9 ∧ w9.cell? ⟨b, 1, none⟩ = some (.slice a2 B.W.length k2) ∧ w9.cell? ⟨w.heap.size, 0, none⟩ = some (.int .i64 x.ses) ∧ w9.cell? ⟨w.heap.size, 1, none⟩ = some (.string x.txt) ∧ w9.cell? ⟨w.heap.size, 2, none⟩ = some (.bool x.ex) ∧ w9.cell? ⟨w.heap.size, 3, none⟩ = some (.int .u64 0)) w0 → (fun w9 => Gr w4 w9 ∧ w9.cell? ⟨b, 1, none⟩ = some (.slice a2 B.W.length k2) ∧ w9.cell? ⟨w.heap.size, 0, none⟩ = some (.int .i64 x.ses) ∧ w9.cell? ⟨w.heap.size, 1, none⟩ = some (.string x.txt) ∧ w9.cell? ⟨w.heap.size, 2, none⟩ = some (.bool x.ex) ∧ w9.cell? ⟨w.heap.size, 3, none⟩ = some (.int .u64 0)) w9) := Lib.hid fun w0 w9 hg ⟨h, q0, q1, q2, q3, q4⟩ => ⟨h.trans hg, hg.cell q0, hg.cell q1, hg.cell q2, hg.cell q3, hg.cell q4⟩
  refine wp_region_held_drew (S := (fun w9 => Gr w4 w9 ∧ w9.cell? ⟨b, 1, none⟩ = some (.slice a2 B.W.length k2) ∧ w9.cell? ⟨w.heap.size, 0, none⟩ = some (.int .i64 x.ses) ∧ w9.cell? ⟨w.heap.size, 1, none⟩ = some (.string x.txt) ∧ w9.cell? ⟨w.heap.size, 2, none⟩ = some (.bool x.ex) ∧ w9.cell? ⟨w.heap.size, 3, none⟩ = some (.int .u64 0))) (by kernel_rfl) ?inva (fun h0 => ?_)
  case inva => ((try dsimp only); (exact HX.out _ _ ((Gr.refl _).drew) ⟨Gr.refl _, b1, x0, x1, x2, x3⟩))
  refine wpAnyH_take (i := 0) (oi := { dst := some 25, op := Go.Op.move (Go.Operand.tmp 0), type := 25, pos := "locks.go:92", after := #[], guard := none }) (v := ?va1) rfl (by kernel_rfl) (by kernel_rfl) (by kernel_rfl) (fun _ _ _ h => h) (Or.inl ⟨by rfl, ?ra1⟩) (by assumption) ?_
  case ra1 => (intro w hSw; (try dsimp only at hSw); (go_simp <;> with_reducible rfl))
  try simp only [Act.put, List.setIfInBounds_toArray, List.set_cons_zero, List.set_cons_succ]
  refine wpAnyH_take (i := 1) (oi := { dst := some 26, op := Go.Op.load 42 (Go.Operand.tmp 4), type := 42, pos := "locks.go:92", after := #[], guard := none }) (v := ?va2) rfl (by kernel_rfl) (by kernel_rfl) (by kernel_rfl) (fun _ _ _ h => h) (Or.inl ⟨by rfl, ?ra2⟩) (by assumption) ?_
  case ra2 => (intro w hSw; (try dsimp only at hSw); (go_simp <;> with_reducible rfl))
  try simp only [Act.put, List.setIfInBounds_toArray, List.set_cons_zero, List.set_cons_succ]
  refine wpAnyH_take (i := 2) (oi := { dst := some 27, op := Go.Op.move (Go.Operand.tmp 0), type := 25, pos := "locks.go:92", after := #[], guard := none }) (v := ?va3) rfl (by kernel_rfl) (by kernel_rfl) (by kernel_rfl) (fun _ _ _ h => h) (Or.inl ⟨by rfl, ?ra3⟩) (by assumption) ?_
  case ra3 => (intro w hSw; (try dsimp only at hSw); (go_simp <;> with_reducible rfl))
  try simp only [Act.put, List.setIfInBounds_toArray, List.set_cons_zero, List.set_cons_succ]
  refine wpAnyH_take (i := 3) (oi := { dst := some 28, op := Go.Op.nilCheck (Go.Operand.tmp 27), type := 0, pos := "locks.go:92", after := #[⟨2, .data⟩], guard := none }) (v := ?va4) rfl (by kernel_rfl) (by kernel_rfl) (by kernel_rfl) (fun _ _ _ h => h) (Or.inl ⟨by rfl, ?ra4⟩) (by assumption) ?_
  case ra4 => (intro w hSw; (try dsimp only at hSw); (go_simp <;> with_reducible rfl))
  try simp only [Act.put, List.setIfInBounds_toArray, List.set_cons_zero, List.set_cons_succ]
  refine wpAnyH_take (i := 4) (oi := { dst := some 29, op := Go.Op.fieldAddr 69 (Go.Operand.tmp 28) 1, type := 0, pos := "locks.go:92", after := #[⟨3, .data⟩], guard := none }) (v := ?va5) rfl (by kernel_rfl) (by kernel_rfl) (by kernel_rfl) (fun _ _ _ h => h) (Or.inl ⟨by rfl, ?ra5⟩) (by assumption) ?_
  case ra5 => (intro w hSw; (try dsimp only at hSw); (go_simp <;> with_reducible rfl))
  try simp only [Act.put, List.setIfInBounds_toArray, List.set_cons_zero, List.set_cons_succ]
  refine wpAnyH_take (i := 5) (oi := { dst := some 30, op := Go.Op.load 37 (Go.Operand.tmp 29), type := 37, pos := "locks.go:92", after := #[⟨4, .data⟩], guard := none }) (v := ?va6) rfl (by kernel_rfl) (by kernel_rfl) (by kernel_rfl) (fun _ _ _ h => h) (Or.inl ⟨by rfl, ?ra6⟩) (by assumption) ?_
  case ra6 => (intro w hSw; (try dsimp only at hSw); (go_simp <;> with_reducible rfl))
  try simp only [Act.put, List.setIfInBounds_toArray, List.set_cons_zero, List.set_cons_succ]
  refine wpAnyH_ready (rs := [6]) (by kernel_rfl) (by simp) ?_
  refine AllReadyH.cons (o := { dst := some 31, op := Go.Op.call { callee := Go.Callee.value (Go.Operand.func 42), args := #[Go.Operand.tmp 25, Go.Operand.tmp 26, Go.Operand.tmp 30], argTypes := #[25, 42, 37] }, type := 4, pos := "locks.go:92", after := #[⟨0, .data⟩, ⟨1, .data⟩, ⟨5, .data⟩], guard := none }) rfl (fun K hK => ?_) AllReadyH.nil
  go_simp
  go_at_call 42
  refine (HFR.out _ h0.1).mono ?_
  rintro e w9 ⟨rfl, hgN⟩
  first | refine hK.out _ _ ?sa7 (fun h7 => ?_) | (go_wp2_with fail; refine hK.out _ _ ?sa7 (fun h7 => ?_))
  case sa7 => ((try dsimp only); (exact HX.out _ _ hgN h0))
  clear hK K h0
  try simp only [Act.put, List.setIfInBounds_toArray, List.set_cons_zero, List.set_cons_succ]
  refine wpAnyH_take (i := 7) (oi := { dst := some 11, op := Go.Op.assign (Go.Operand.tmp 31), type := 4, pos := "locks.go:92", after := #[⟨6, .data⟩, ⟨6, .chain⟩, ⟨0, .phase⟩, ⟨1, .phase⟩, ⟨2, .phase⟩, ⟨3, .phase⟩, ⟨4, .phase⟩, ⟨5, .phase⟩, ⟨6, .phase⟩], guard := none }) (v := ?va8) rfl (by kernel_rfl) (by kernel_rfl) (by kernel_rfl) (fun _ _ _ h => h) (Or.inl ⟨by rfl, ?ra8⟩) (by assumption) ?_
  case ra8 => (intro w hSw; (try dsimp only at hSw); (go_simp <;> with_reducible rfl))
  try simp only [Act.put, List.setIfInBounds_toArray, List.set_cons_zero, List.set_cons_succ]
  refine wpAnyH_done (by kernel_rfl) ?_ _
  have hg5 := h7.1
  clear b1 x0 x1 x2 x3 HX h7 hgN HFR
  have HG5 := Lib.hid (HG4.out.trans hg5)
  have HBx5 := Lib.hid (HBx.out.gr hg5)
  have HBz5 := Lib.hid (HBz.out.gr hg5)
  have HBh5 := Lib.hid (HBh.out.gr hg5)
  have HZL := Lib.hid HBz5.out.lt
  clear hg5 HBx HBz HBh HG4
  generalize w9 = w5 at *
  obtain ⟨fl, pl⟩ := fd
  simp only at HBh5
  have h2 := HBh5.out.cell (i := 2) rfl
  have e2 := HBx5.out.cell (i := 2) rfl
  by_cases hpl : 0 ≤ pl
  · by_cases hex : fl.ex ≠ x.ex
    · have hexb : (fl.ex == x.ex) = false := by simpa using hex
      have HACQ := Lib.hid (show acqB B (clr x) wait = (B, zLok, 0, 16) by unfold acqB; simp only [clr, HFD.out, HFQ.out]; rw [if_pos hpl, if_pos hex])
      have HTO := Lib.hid ((H.out.gr HG5.out).to (Gr.refl _))
      clear hex
      have HZ := Lib.hid (BkTo.blk (z := w.heap.size + 1) H.out (Nat.le_succ _) HTO.out HBz5.out)
      have r0 := HZ.out.cell (i := 0) rfl
      have r1 := HZ.out.cell (i := 1) rfl
      have r2 := HZ.out.cell (i := 2) rfl
      have r3 := HZ.out.cell (i := 3) rfl
      have f0 := HZ.out.free 0
      have f1 := HZ.out.free 1
      have f2 := HZ.out.free 2
      have f3 := HZ.out.free 3
      go_wp2
      refine bodyPost_ret (v := .tuple #[.agg #[.int .i64 0, .string ⟨#[]⟩, .bool false, .int .u64 0], .int .i64 0, .int .i64 16]) (by simp [results, Tryz.results22, go_sem, r0, r1, r2, r3, f0]; try rfl) rfl ?_
      rw [HACQ.out]
      exact ⟨rfl, BkTo.ret4 (z := w.heap.size + 1) H.out HG5.out (Nat.le_succ _) HZL.out HTO.out _ _ _ _⟩
    · have hexb : (fl.ex == x.ex) = true := by simpa using hex
      have HACQ := Lib.hid (show acqB B (clr x) wait = (B, fl, pl, 0) by unfold acqB; simp only [clr, HFD.out, HFQ.out]; rw [if_pos hpl, if_neg hex])
      have HTO := Lib.hid ((H.out.gr HG5.out).to (Gr.refl _))
      clear hex
      have h0 := HBh5.out.cell (i := 0) rfl
      have h1 := HBh5.out.cell (i := 1) rfl
      have h3 := HBh5.out.cell (i := 3) rfl
      have HZ := Lib.hid (BkTo.blk (z := w.heap.size + 1) H.out (Nat.le_succ _) HTO.out HBz5.out)
      have r0 := HZ.out.cell (i := 0) rfl
      have r1 := HZ.out.cell (i := 1) rfl
      have r2 := HZ.out.cell (i := 2) rfl
      have r3 := HZ.out.cell (i := 3) rfl
      have f0 := HZ.out.free 0
      have f1 := HZ.out.free 1
      have f2 := HZ.out.free 2
      have f3 := HZ.out.free 3
      go_wp2
      refine bodyPost_ret (v := .tuple #[.agg #[.int .i64 fl.ses, .string fl.txt, .bool fl.ex, .int .u64 fl.tok], .int .i64 pl, .int .i64 0]) (by simp [results, Tryz.results22, go_sem, r0, r1, r2, r3, f0]; try rfl) rfl ?_
      rw [HACQ.out]
      exact ⟨rfl, BkTo.ret4 (z := w.heap.size + 1) H.out HG5.out (Nat.le_succ _) HZL.out HTO.out _ _ _ _⟩
  · by_cases hcn : 8 ≤ cntS x.ses B.H + cntS x.ses B.W
    · have hcn' : (8 : Int) ≤ ((cntS x.ses B.H + cntS x.ses B.W : Nat) : Int) := by omega
      have HACQ := Lib.hid (show acqB B (clr x) wait = (B, zLok, 0, 17) by unfold acqB; simp only [clr, HFD.out, HFQ.out]; rw [if_neg hpl, if_pos hcn])
      have e0 := HBx5.out.cell (i := 0) rfl
      go_wp2_with fail
      refine (bcount_any x.ses w5 (H.out.gr HG5.out) (by omega)).mono ?_
      rintro e w6 ⟨rfl, hg6⟩
      have HG6 := Lib.hid (HG5.out.trans hg6)
      have HG56 := Lib.hid hg6
      have HBx6 := Lib.hid (HBx5.out.gr hg6)
      clear e0 e2 h2 hg6
      have HTO := Lib.hid ((H.out.gr HG5.out).to HG56.out)
      have HZ := Lib.hid (BkTo.blk (z := w.heap.size + 1) H.out (Nat.le_succ _) HTO.out HBz5.out)
      have r0 := HZ.out.cell (i := 0) rfl
      have r1 := HZ.out.cell (i := 1) rfl
      have r2 := HZ.out.cell (i := 2) rfl
      have r3 := HZ.out.cell (i := 3) rfl
      have f0 := HZ.out.free 0
      have f1 := HZ.out.free 1
      have f2 := HZ.out.free 2
      have f3 := HZ.out.free 3
      go_wp2
      refine bodyPost_ret (v := .tuple #[.agg #[.int .i64 0, .string ⟨#[]⟩, .bool false, .int .u64 0], .int .i64 0, .int .i64 17]) (by simp [results, Tryz.results22, go_sem, r0, r1, r2, r3, f0]; try rfl) rfl ?_
      rw [HACQ.out]
      exact ⟨rfl, BkTo.ret4 (z := w.heap.size + 1) H.out HG5.out (Nat.le_succ _) HZL.out HTO.out _ _ _ _⟩
    · have hcn' : ¬ (8 : Int) ≤ ((cntS x.ses B.H + cntS x.ses B.W : Nat) : Int) := by omega
      cases fr
      · cases wait
        · skip
          have HACQ := Lib.hid (show acqB B (clr x) false = (B, zLok, 0, 16) by unfold acqB; simp only [clr, HFD.out, HFQ.out]; rw [if_neg hpl, if_neg hcn, if_neg (by decide), if_pos trivial])
          have e0 := HBx5.out.cell (i := 0) rfl
          go_wp2_with fail
          refine (bcount_any x.ses w5 (H.out.gr HG5.out) (by omega)).mono ?_
          rintro e w6 ⟨rfl, hg6⟩
          have HG6 := Lib.hid (HG5.out.trans hg6)
          have HG56 := Lib.hid hg6
          have HBx6 := Lib.hid (HBx5.out.gr hg6)
          clear e0 e2 h2 hg6
          have HTO := Lib.hid ((H.out.gr HG5.out).to HG56.out)
          have HZ := Lib.hid (BkTo.blk (z := w.heap.size + 1) H.out (Nat.le_succ _) HTO.out HBz5.out)
          have r0 := HZ.out.cell (i := 0) rfl
          have r1 := HZ.out.cell (i := 1) rfl
          have r2 := HZ.out.cell (i := 2) rfl
          have r3 := HZ.out.cell (i := 3) rfl
          have f0 := HZ.out.free 0
          have f1 := HZ.out.free 1
          have f2 := HZ.out.free 2
          have f3 := HZ.out.free 3
          go_wp2
          refine bodyPost_ret (v := .tuple #[.agg #[.int .i64 0, .string ⟨#[]⟩, .bool false, .int .u64 0], .int .i64 0, .int .i64 16]) (by simp [results, Tryz.results22, go_sem, r0, r1, r2, r3, f0]; try rfl) rfl ?_
          rw [HACQ.out]
          exact ⟨rfl, BkTo.ret4 (z := w.heap.size + 1) H.out HG5.out (Nat.le_succ _) HZL.out HTO.out _ _ _ _⟩
        · by_cases hwl : 8 ≤ B.W.length
          · have hwl2 : (8 : Int) ≤ (B.W.length : Int) := by omega
            have HACQ := Lib.hid (show acqB B (clr x) true = (B, zLok, 0, 17) by unfold acqB; simp only [clr, HFD.out, HFQ.out]; rw [if_neg hpl, if_neg hcn, if_neg (by decide), if_neg (by decide), if_pos hwl])
            have e0 := HBx5.out.cell (i := 0) rfl
            go_wp2_with fail
            refine (bcount_any x.ses w5 (H.out.gr HG5.out) (by omega)).mono ?_
            rintro e w6 ⟨rfl, hg6⟩
            have HG6 := Lib.hid (HG5.out.trans hg6)
            have HG56 := Lib.hid hg6
            have HBx6 := Lib.hid (HBx5.out.gr hg6)
            clear e0 e2 h2 hg6
            have HTO := Lib.hid ((H.out.gr HG5.out).to HG56.out)
            have b1 := (H.out.gr HG6.out).blk.cell (i := 1) rfl
            have HZ := Lib.hid (BkTo.blk (z := w.heap.size + 1) H.out (Nat.le_succ _) HTO.out HBz5.out)
            have r0 := HZ.out.cell (i := 0) rfl
            have r1 := HZ.out.cell (i := 1) rfl
            have r2 := HZ.out.cell (i := 2) rfl
            have r3 := HZ.out.cell (i := 3) rfl
            have f0 := HZ.out.free 0
            have f1 := HZ.out.free 1
            have f2 := HZ.out.free 2
            have f3 := HZ.out.free 3
            go_wp2
            refine bodyPost_ret (v := .tuple #[.agg #[.int .i64 0, .string ⟨#[]⟩, .bool false, .int .u64 0], .int .i64 0, .int .i64 17]) (by simp [results, Tryz.results22, go_sem, r0, r1, r2, r3, f0]; try rfl) rfl ?_
            rw [HACQ.out]
            exact ⟨rfl, BkTo.ret4 (z := w.heap.size + 1) H.out HG5.out (Nat.le_succ _) HZL.out HTO.out _ _ _ _⟩
          · have hwl2 : ¬ (8 : Int) ≤ (B.W.length : Int) := by omega
            have HACQ := Lib.hid (show acqB B (clr x) true = (⟨B.H, B.W ++ [⟨x.ses, x.txt, x.ex, 0⟩], B.last⟩, ⟨x.ses, x.txt, x.ex, 0⟩, (B.W.length : Int) + 1, 0) by unfold acqB; simp only [clr, HFD.out, HFQ.out]; rw [if_neg hpl, if_neg hcn, if_neg (by decide), if_neg (by decide), if_neg hwl])
            have e0 := HBx5.out.cell (i := 0) rfl
            go_wp2_with fail
            refine (bcount_any x.ses w5 (H.out.gr HG5.out) (by omega)).mono ?_
            rintro e w6 ⟨rfl, hg6⟩
            have HG6 := Lib.hid (HG5.out.trans hg6)
            have HG56 := Lib.hid hg6
            have HBx6 := Lib.hid (HBx5.out.gr hg6)
            clear e0 e2 h2 hg6
            have b1 := (H.out.gr HG6.out).blk.cell (i := 1) rfl
            go_upto_region 20 with fail
            have HB6 := Lib.hid (H.out.gr HG6.out).blk
            have HV2 := Lib.hid (row_offL HB6.out (ownsRow_gr HG6.out H.out.r2) (by decide))
            have HV1 := Lib.hid (row_offL HB6.out (ownsRow_gr HG6.out H.out.r1) (by decide))
            have HV2p := Lib.hid (fun e => by have := (H.out.r2.lt _ e).2; omega : Value.ownBlock (.slice a2 B.W.length k2) ≠ some w.heap.size)
            have HV2z := Lib.hid (fun e => by have := (H.out.r2.lt _ e).2; omega : Value.ownBlock (.slice a2 B.W.length k2) ≠ some (w.heap.size + 1))
            have HBz6 := Lib.hid (HBz5.out.gr HG56.out)
            obtain ⟨i0, hi, hz0, hz1, hz2⟩ : ∃ i0 : TypeInfo, Tryz.prog.info? 42 = some i0 ∧ i0.zero = some (.agg #[.int .i64 0, .string ⟨#[]⟩, .bool false, .int .u64 0]) ∧ i0.size = 4 ∧ i0.bytes = 40 := ⟨_, rfl, rfl, rfl, rfl⟩
            have HWL := Lib.hid hwl
            have HG60 := Lib.hid (H.out.grown.trans HG6.out)
            clear b1 hwl hwl2 hcn hcn' hpl
            have b1 := HB6.out.cell (i := 1) rfl
            have x0 := HBx6.out.cell (i := 0) rfl
            have x1 := HBx6.out.cell (i := 1) rfl
            have x2 := HBx6.out.cell (i := 2) rfl
            have x3 := HBx6.out.cell (i := 3) rfl
            have hga : Gr w6 (w6.alloc (.cells #[.int .i64 x.ses, .string x.txt, .bool x.ex, .int .u64 0] 42)).drew := ((Gr.refl _).alloc _).drew
            have hrow : (w6.alloc (.cells #[.int .i64 x.ses, .string x.txt, .bool x.ex, .int .u64 0] 42)).drew.ownsRow w0.heap.size 42 4 (.slice a2 B.W.length k2) B.W.length (rcells encLok B.W) := ownsRow_gr (HG6.out.trans hga) H.out.r2
            have hbase : w0.heap.size ≤ (w6.alloc (.cells #[.int .i64 x.ses, .string x.txt, .bool x.ex, .int .u64 0] 42)).drew.heap.size := Nat.le_trans (Nat.le_trans H.out.grown.size HG6.out.size) hga.size
            refine late_start (fun i => decide (10 ≤ i)) (fun w9 => w9.cell? ⟨b, 1, none⟩ = some (.slice a2 B.W.length k2) ∧ w9.cell? ⟨w.heap.size, 0, none⟩ = some (.int .i64 x.ses) ∧ w9.cell? ⟨w.heap.size, 1, none⟩ = some (.string x.txt) ∧ w9.cell? ⟨w.heap.size, 2, none⟩ = some (.bool x.ex) ∧ w9.cell? ⟨w.heap.size, 3, none⟩ = some (.int .u64 0)) (by kernel_rfl) ?invd (fun h0 => ?_)
            case invd => ((try dsimp only); (exact ⟨b1, x0, x1, x2, x3⟩))
            refine late_take (i := 0) (oi := { dst := some 79, op := Go.Op.move (Go.Operand.tmp 0), type := 25, pos := "locks.go:109", after := #[], guard := none }) (v := ?vd1) rfl (by kernel_rfl) (by kernel_rfl) (by kernel_rfl) (by kernel_rfl) (by kernel_rfl) (fun _ _ _ h => h) (Or.inl ⟨by rfl, ?rd1⟩) (by assumption) ?_
            case rd1 => (intro w hSw; (try dsimp only at hSw); (go_simp <;> with_reducible rfl))
            try simp only [Act.put, List.setIfInBounds_toArray, List.set_cons_zero, List.set_cons_succ]
            refine late_take (i := 1) (oi := { dst := some 80, op := Go.Op.move (Go.Operand.tmp 0), type := 25, pos := "locks.go:109", after := #[], guard := none }) (v := ?vd2) rfl (by kernel_rfl) (by kernel_rfl) (by kernel_rfl) (by kernel_rfl) (by kernel_rfl) (fun _ _ _ h => h) (Or.inl ⟨by rfl, ?rd2⟩) (by assumption) ?_
            case rd2 => (intro w hSw; (try dsimp only at hSw); (go_simp <;> with_reducible rfl))
            try simp only [Act.put, List.setIfInBounds_toArray, List.set_cons_zero, List.set_cons_succ]
            refine late_take (i := 2) (oi := { dst := some 81, op := Go.Op.nilCheck (Go.Operand.tmp 80), type := 0, pos := "locks.go:109", after := #[⟨1, .data⟩], guard := none }) (v := ?vd3) rfl (by kernel_rfl) (by kernel_rfl) (by kernel_rfl) (by kernel_rfl) (by kernel_rfl) (fun _ _ _ h => h) (Or.inl ⟨by rfl, ?rd3⟩) (by assumption) ?_
            case rd3 => (intro w hSw; (try dsimp only at hSw); (go_simp <;> with_reducible rfl))
            try simp only [Act.put, List.setIfInBounds_toArray, List.set_cons_zero, List.set_cons_succ]
            refine late_take (i := 3) (oi := { dst := some 82, op := Go.Op.fieldAddr 69 (Go.Operand.tmp 81) 1, type := 0, pos := "locks.go:109", after := #[⟨2, .data⟩], guard := none }) (v := ?vd4) rfl (by kernel_rfl) (by kernel_rfl) (by kernel_rfl) (by kernel_rfl) (by kernel_rfl) (fun _ _ _ h => h) (Or.inl ⟨by rfl, ?rd4⟩) (by assumption) ?_
            case rd4 => (intro w hSw; (try dsimp only at hSw); (go_simp <;> with_reducible rfl))
            try simp only [Act.put, List.setIfInBounds_toArray, List.set_cons_zero, List.set_cons_succ]
            refine late_take (i := 4) (oi := { dst := some 83, op := Go.Op.load 37 (Go.Operand.tmp 82), type := 37, pos := "locks.go:109", after := #[⟨3, .data⟩], guard := none }) (v := ?vd5) rfl (by kernel_rfl) (by kernel_rfl) (by kernel_rfl) (by kernel_rfl) (by kernel_rfl) (fun _ _ _ h => h) (Or.inl ⟨by rfl, ?rd5⟩) (by assumption) ?_
            case rd5 => (intro w hSw; (try dsimp only at hSw); (go_simp <;> with_reducible rfl))
            try simp only [Act.put, List.setIfInBounds_toArray, List.set_cons_zero, List.set_cons_succ]
            refine late_take (i := 5) (oi := { dst := some 84, op := Go.Op.load 42 (Go.Operand.tmp 4), type := 42, pos := "locks.go:109", after := #[], guard := none }) (v := ?vd6) rfl (by kernel_rfl) (by kernel_rfl) (by kernel_rfl) (by kernel_rfl) (by kernel_rfl) (fun _ _ _ h => h) (Or.inl ⟨by rfl, ?rd6⟩) (by assumption) ?_
            case rd6 => (intro w hSw; (try dsimp only at hSw); (go_simp <;> with_reducible rfl))
            try simp only [Act.put, List.setIfInBounds_toArray, List.set_cons_zero, List.set_cons_succ]
            refine late_ready (rs := [6]) (by kernel_rfl) (by simp) ?_
            refine LateAll.cons (o := { dst := some 85, op := Go.Op.buildSlice 37 1 #[(0, Go.Operand.tmp 84)], type := 37, pos := "locks.go:109", after := #[⟨5, .data⟩], guard := none }) rfl (fun K hK => ?_) LateAll.nil
            go_simp
            skip
            first | refine hK.out _ _ ?sd7 (fun h7 => ?_) | (go_wp2_with fail; refine hK.out _ _ ?sd7 (fun h7 => ?_))
            case sd7 => ((try dsimp only); (first | exact ⟨QB.out.cell (i := 1) rfl, QX.out.cell (i := 0) rfl, QX.out.cell (i := 1) rfl, QX.out.cell (i := 2) rfl, QX.out.cell (i := 3) rfl⟩ | exact ⟨((Gr.refl _).alloc _).cell h0.1, ((Gr.refl _).alloc _).cell h0.2.1, ((Gr.refl _).alloc _).cell h0.2.2.1, ((Gr.refl _).alloc _).cell h0.2.2.2.1, ((Gr.refl _).alloc _).cell h0.2.2.2.2⟩))
            clear hK K h0
            try simp only [Act.put, List.setIfInBounds_toArray, List.set_cons_zero, List.set_cons_succ]
            refine late_ready (rs := [7]) (by kernel_rfl) (by simp) ?_
            refine LateAll.cons (o := { dst := some 86, op := Go.Op.call { callee := Go.Callee.builtin Go.Builtin.append, args := #[Go.Operand.tmp 83, Go.Operand.tmp 85], argTypes := #[37, 37] }, type := 37, pos := "locks.go:109", after := #[⟨4, .data⟩, ⟨6, .data⟩], guard := none }) rfl (fun K hK => ?_) LateAll.nil
            refine step_append_lies _ (by rfl) (.tmp 83) (.tmp 85) 37 (by rfl) w0.heap.size 42 i0 (.agg #[.int .i64 0, .string ⟨#[]⟩, .bool false, .int .u64 0]) 4 40 Tryz.underlying37 hi hz0 hz1 hz2 rfl (by decide) (.slice a2 B.W.length k2) B.W.length (rcells encLok B.W) (by rfl) (by exact hrow) ⟨w6.heap.size, 0, none⟩ 1 1 [.int .i64 x.ses, .string x.txt, .bool x.ex, .int .u64 0] (by rfl) (by rfl) (World.news_of_block (cs := #[.int .i64 x.ses, .string x.txt, .bool x.ex, .int .u64 0]) (t := 42) (fr := (0, 0)) (heap_alloc_new w6 _)) (by intro u hu; simp at hu; rcases hu with rfl | rfl | rfl | rfl <;> rfl) (by omega) (by unfold maxLen; omega) (by omega) (by exact hbase) _ rfl ?_
            intro g cap w7 hown7 hgrow7 hat7 hlt7
            have QB := Lib.hid ((HB6.out.gr hga).keptB hgrow7 HV2.out)
            have QX := Lib.hid ((HBx6.out.gr hga).keptB hgrow7 HV2p.out)
            have QZ := Lib.hid ((HBz6.out.gr hga).keptB hgrow7 HV2z.out)
            have QR1 := Lib.hid ((ownsRow_gr (HG6.out.trans hga) H.out.r1).kept hgrow7 H.out.ne)
            have QR2 := Lib.hid hown7
            have QG := Lib.hid hgrow7
            have QA := Lib.hid hat7
            clear hown7 hgrow7 hat7 hlt7
            first | refine hK.out _ _ ?sd8 (fun h8 => ?_) | (go_wp2_with fail; refine hK.out _ _ ?sd8 (fun h8 => ?_))
            case sd8 => ((try dsimp only); (first | exact ⟨QB.out.cell (i := 1) rfl, QX.out.cell (i := 0) rfl, QX.out.cell (i := 1) rfl, QX.out.cell (i := 2) rfl, QX.out.cell (i := 3) rfl⟩ | exact ⟨((Gr.refl _).alloc _).cell h7.1, ((Gr.refl _).alloc _).cell h7.2.1, ((Gr.refl _).alloc _).cell h7.2.2.1, ((Gr.refl _).alloc _).cell h7.2.2.2.1, ((Gr.refl _).alloc _).cell h7.2.2.2.2⟩))
            clear hK K h7
            try simp only [Act.put, List.setIfInBounds_toArray, List.set_cons_zero, List.set_cons_succ]
            refine late_take (i := 8) (oi := { dst := some 87, op := Go.Op.nilCheck (Go.Operand.tmp 79), type := 0, pos := "locks.go:109", after := #[⟨0, .data⟩, ⟨0, .phase⟩, ⟨1, .phase⟩, ⟨2, .phase⟩, ⟨3, .phase⟩, ⟨4, .phase⟩, ⟨5, .phase⟩, ⟨6, .phase⟩, ⟨7, .phase⟩], guard := none }) (v := ?vd9) rfl (by kernel_rfl) (by kernel_rfl) (by kernel_rfl) (by kernel_rfl) (by kernel_rfl) (fun _ _ _ h => h) (Or.inl ⟨by rfl, ?rd9⟩) (by assumption) ?_
            case rd9 => (intro w hSw; (try dsimp only at hSw); (go_simp <;> with_reducible rfl))
            try simp only [Act.put, List.setIfInBounds_toArray, List.set_cons_zero, List.set_cons_succ]
            refine late_take (i := 9) (oi := { dst := some 88, op := Go.Op.fieldAddr 69 (Go.Operand.tmp 87) 1, type := 0, pos := "locks.go:109", after := #[⟨8, .data⟩, ⟨0, .phase⟩, ⟨1, .phase⟩, ⟨2, .phase⟩, ⟨3, .phase⟩, ⟨4, .phase⟩, ⟨5, .phase⟩, ⟨6, .phase⟩, ⟨7, .phase⟩], guard := none }) (v := ?vd10) rfl (by kernel_rfl) (by kernel_rfl) (by kernel_rfl) (by kernel_rfl) (by kernel_rfl) (fun _ _ _ h => h) (Or.inl ⟨by rfl, ?rd10⟩) (by assumption) ?_
            case rd10 => (intro w hSw; (try dsimp only at hSw); (go_simp <;> with_reducible rfl))
            try simp only [Act.put, List.setIfInBounds_toArray, List.set_cons_zero, List.set_cons_succ]
            have z0 := QB.out.cell (i := 1) rfl
            have z1 := QB.out.free 1
            refine late_go (by kernel_rfl) ?_
            refine any_one (i := 10) (o := { dst := none, op := Go.Op.store 37 (Go.Operand.tmp 88) (Go.Operand.tmp 86), type := 0, pos := "locks.go:109", after := #[⟨9, .data⟩, ⟨7, .data⟩, ⟨7, .chain⟩, ⟨0, .phase⟩, ⟨1, .phase⟩, ⟨2, .phase⟩, ⟨3, .phase⟩, ⟨4, .phase⟩, ⟨5, .phase⟩, ⟨6, .phase⟩, ⟨7, .phase⟩], guard := none }) (by kernel_rfl) rfl (fun K hK => ?_)
            go_simp
            refine hK.out _ _ ?_
            clear hK K
            try simp only [Act.put, List.setIfInBounds_toArray, List.set_cons_zero, List.set_cons_succ]
            refine any_done (by kernel_rfl) ?_
            clear z0 z1 b1 x0 x1 x2 x3 h8
            have V' : Value := .slice (some ⟨g, 0, none⟩) (B.W.length + 1) cap
            have TB := Lib.hid (show Blk (w7.setCell ⟨b, 1, none⟩ (.slice (some ⟨g, 0, none⟩) (B.W.length + 1) cap)) b #[.slice a1 B.H.length k1, .slice (some ⟨g, 0, none⟩) (B.W.length + 1) cap, .int .u64 B.last] 69 from QB.out.set 1 _)
            have hnp : w.heap.size ≠ b := by omega
            have hnz : w.heap.size + 1 ≠ b := by omega
            have TX := Lib.hid (QX.out.other (c := b) hnp 1 (.slice (some ⟨g, 0, none⟩) (B.W.length + 1) cap))
            have TZ := Lib.hid (QZ.out.other (c := b) hnz 1 (.slice (some ⟨g, 0, none⟩) (B.W.length + 1) cap))
            have TR1 := Lib.hid (ownsRow_setCell_other (a := ⟨b, 1, none⟩) QR1.out HV1.out (.slice (some ⟨g, 0, none⟩) (B.W.length + 1) cap))
            have TR2 := Lib.hid (ownsRow_setCell_other (a := ⟨b, 1, none⟩) QR2.out (row_offL QB.out QR2.out (by decide)) (.slice (some ⟨g, 0, none⟩) (B.W.length + 1) cap))
            have GG8 := Lib.hid (((HG60.out.trans hga).append hrow QG.out).setCell (p := ⟨b, 1, none⟩) H.out.base (.slice (some ⟨g, 0, none⟩) (B.W.length + 1) cap))
            have FF8 := Lib.hid ((((Far2.of_gr (b := b) (v1 := .slice a1 B.H.length k1) (v2 := .slice a2 B.W.length k2) (HG56.out.trans hga)).trans (From.refl _ _) (From.refl _ _) (Far2.of_grown2 QG.out))).trans (From.refl _ _) (From.refl _ _) (Far2.setCell b 1 _ _ w7 (.slice (some ⟨g, 0, none⟩) (B.W.length + 1) cap)))
            have hs8 : w5.heap.size ≤ (w6.alloc (.cells #[.int .i64 x.ses, .string x.txt, .bool x.ex, .int .u64 0] 42)).drew.heap.size := Nat.le_trans HG56.out.size hga.size
            have hs5 := HG5.out.size
            have VV := Lib.hid (show From (.slice a2 B.W.length k2) w5 (.slice (some ⟨g, 0, none⟩) (B.W.length + 1) cap) from fun k e => by
              obtain rfl : g = k := Option.some.inj e
              exact QA.out.imp id (fun h => by omega))
            have VN := Lib.hid (show Value.ownBlock (.slice a1 B.H.length k1) = none ∨ Value.ownBlock (.slice a1 B.H.length k1) ≠ Value.ownBlock (.slice (some ⟨g, 0, none⟩) (B.W.length + 1) cap) from by
              rcases hq : Value.ownBlock (.slice a1 B.H.length k1) with _ | k
              · exact .inl rfl
              · refine .inr (fun e => ?_)
                have h1 := (H.out.r1.lt _ hq).2
                rcases QA.out with h3 | h3
                · rcases H.out.ne with h4 | h4
                  · rw [hq] at h4; simp at h4
                  · exact h4 (hq.trans (e.trans h3.symm))
                · have e2 : k = g := Option.some.inj e
                  omega)
            clear V' hnp hnz hga hrow hbase hs8 hs5 QB QX QZ QR1 QR2 QG QA HBz6 HBx6 HB6
            generalize w7.setCell ⟨b, 1, none⟩ (.slice (some ⟨g, 0, none⟩) (B.W.length + 1) cap) = w8 at *
            have hTO : BkTo w0 w5 w8 b (.slice a1 B.H.length k1) (.slice a2 B.W.length k2) ⟨B.H, B.W ++ [⟨x.ses, x.txt, x.ex, 0⟩], B.last⟩ := by
              refine ⟨_, _, ⟨H.out.base, GG8.out, TB.out, TR1.out, ?_, VN.out⟩, FF8.out, From.refl _ _, VV.out⟩
              show w8.ownsRow _ _ _ _ (B.W ++ [_]).length (rcells encLok (B.W ++ [_]))
              rw [List.length_append, rcells_snoc]
              exact TR2.out
            have HTO := Lib.hid hTO
            clear hTO VN VV FF8 GG8 TR1 TR2
            have b1 := TB.out.cell (i := 1) rfl
            have x0 := TX.out.cell (i := 0) rfl
            have x1 := TX.out.cell (i := 1) rfl
            have x2 := TX.out.cell (i := 2) rfl
            have x3 := TX.out.cell (i := 3) rfl
            have r0 := TZ.out.cell (i := 0) rfl
            have r1 := TZ.out.cell (i := 1) rfl
            have r2 := TZ.out.cell (i := 2) rfl
            have r3 := TZ.out.cell (i := 3) rfl
            have f0 := TZ.out.free 0
            have f1 := TZ.out.free 1
            have f2 := TZ.out.free 2
            have f3 := TZ.out.free 3
            go_wp2
            go_region
            go_wp2
            refine bodyPost_ret (v := .tuple #[.agg #[.int .i64 x.ses, .string x.txt, .bool x.ex, .int .u64 0], .int .i64 ((B.W.length : Int) + 1), .int .i64 0]) (by simp [results, Tryz.results22, go_sem, r0, r1, r2, r3, f0]; try rfl) rfl ?_
            rw [HACQ.out]
            exact ⟨rfl, BkTo.post (BkTo.ret4 (z := w.heap.size + 1) H.out HG5.out (Nat.le_succ _) HZL.out HTO.out _ _ _ _) ((Gr.refl _).drew)⟩
      · by_cases hla : B.last = 18446744073709551615
        · have hld : decide (B.last = 18446744073709551615) = true := decide_eq_true hla
          have HACQ := Lib.hid (show acqB B (clr x) wait = (B, zLok, 0, 19) by unfold acqB; simp only [clr, HFD.out, HFQ.out]; rw [if_neg hpl, if_neg hcn, if_pos trivial, if_pos hla])
          have e0 := HBx5.out.cell (i := 0) rfl
          go_wp2_with fail
          refine (bcount_any x.ses w5 (H.out.gr HG5.out) (by omega)).mono ?_
          rintro e w6 ⟨rfl, hg6⟩
          have HG6 := Lib.hid (HG5.out.trans hg6)
          have HG56 := Lib.hid hg6
          have HBx6 := Lib.hid (HBx5.out.gr hg6)
          clear e0 e2 h2 hg6
          go_wp2_with fail
          refine (exhausted_any w6 (H.out.gr HG6.out)).mono ?_
          rintro e w7 ⟨rfl, rfl⟩
          have HTO := Lib.hid ((H.out.gr HG5.out).to HG56.out)
          have HZ := Lib.hid (BkTo.blk (z := w.heap.size + 1) H.out (Nat.le_succ _) HTO.out HBz5.out)
          have r0 := HZ.out.cell (i := 0) rfl
          have r1 := HZ.out.cell (i := 1) rfl
          have r2 := HZ.out.cell (i := 2) rfl
          have r3 := HZ.out.cell (i := 3) rfl
          have f0 := HZ.out.free 0
          have f1 := HZ.out.free 1
          have f2 := HZ.out.free 2
          have f3 := HZ.out.free 3
          go_wp2
          refine bodyPost_ret (v := .tuple #[.agg #[.int .i64 0, .string ⟨#[]⟩, .bool false, .int .u64 0], .int .i64 0, .int .i64 19]) (by simp [results, Tryz.results22, go_sem, r0, r1, r2, r3, f0]; try rfl) rfl ?_
          rw [HACQ.out]
          exact ⟨rfl, BkTo.ret4 (z := w.heap.size + 1) H.out HG5.out (Nat.le_succ _) HZL.out HTO.out _ _ _ _⟩
        · have hld : decide (B.last = 18446744073709551615) = false := decide_eq_false hla
          have HACQ := Lib.hid (show acqB B (clr x) wait = (grantB B ⟨x.ses, x.txt, x.ex, 0⟩, tokd B ⟨x.ses, x.txt, x.ex, 0⟩, 0, 0) by unfold acqB; simp only [clr, HFD.out, HFQ.out]; rw [if_neg hpl, if_neg hcn, if_pos trivial, if_neg hla])
          have e0 := HBx5.out.cell (i := 0) rfl
          go_wp2_with fail
          refine (bcount_any x.ses w5 (H.out.gr HG5.out) (by omega)).mono ?_
          rintro e w6 ⟨rfl, hg6⟩
          have HG6 := Lib.hid (HG5.out.trans hg6)
          have HG56 := Lib.hid hg6
          have HBx6 := Lib.hid (HBx5.out.gr hg6)
          clear e0 e2 h2 hg6
          go_wp2_with fail
          refine (exhausted_any w6 (H.out.gr HG6.out)).mono ?_
          rintro e w7 ⟨rfl, rfl⟩
          have e0 := HBx6.out.cell (i := 0) rfl
          have e1 := HBx6.out.cell (i := 1) rfl
          have e2 := HBx6.out.cell (i := 2) rfl
          have e3 := HBx6.out.cell (i := 3) rfl
          go_wp2_with fail
          refine (bgrant_any ⟨x.ses, x.txt, x.ex, 0⟩ w6 (H.out.gr HG6.out) (by omega) (by have := HT.out; omega) HM.out HS.out HX.out HP1.out).mono ?_
          rintro e w7 ⟨rfl, hto⟩
          have HTO := Lib.hid (BkTo.pre HG56.out hto)
          clear hto e0 e1 e2 e3
          have HZ := Lib.hid (BkTo.blk (z := w.heap.size + 1) H.out (Nat.le_succ _) HTO.out HBz5.out)
          have r0 := HZ.out.cell (i := 0) rfl
          have r1 := HZ.out.cell (i := 1) rfl
          have r2 := HZ.out.cell (i := 2) rfl
          have r3 := HZ.out.cell (i := 3) rfl
          have f0 := HZ.out.free 0
          have f1 := HZ.out.free 1
          have f2 := HZ.out.free 2
          have f3 := HZ.out.free 3
          go_wp2
          refine bodyPost_ret (v := .tuple #[.agg #[.int .i64 x.ses, .string x.txt, .bool x.ex, .int .u64 (B.last + 1)], .int .i64 0, .int .i64 0]) (by simp [results, Tryz.results22, go_sem, r0, r1, r2, r3, f0]; try rfl) rfl ?_
          rw [HACQ.out]
          exact ⟨rfl, BkTo.ret4 (z := w.heap.size + 1) H.out HG5.out (Nat.le_succ _) HZL.out HTO.out _ _ _ _⟩
end Go.Proofs.YtmgpnpmdmelnkaaGreatDoor
