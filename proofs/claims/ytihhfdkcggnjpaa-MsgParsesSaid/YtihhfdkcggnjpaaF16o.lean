import Derived.Test.YtihhfdkcggnjpaaF16n
import Derived.WalkKit
import Derived.ProofKit
import Derived.LoopTactic
import Derived.Outline
import Derived.WalkSpells
import Derived.WalkLawsBesides
import Derived.Lib.Hide
import Derived.Deep.LoopGhost
import Derived.Deep.QuietTactic
import Derived.BigQuiet
import Derived.ShutString
import Derived.IntWalk
import Derived.Deep.RegionWith
import Derived.Deep.RegionHeld3
namespace Go.Proofs.Ytihhfdkcggnjpaa
open Go.ChangeShapes Go.WideShapes Go.ChangeAt Go.RowKit
open Bal
set_option linter.unusedVariables false
set_option linter.unusedSimpArgs false
theorem rows_store {w : World} {c : Nat} {cur : Array Value} {t : TypeId} (ms : List Value) (h : Blk w c cur t) (hl : ms.length = cur.size) (h1 : ∀ v ∈ ms, v.oneCell' = true) :
    ∃ W2, (storeCells ⟨c, 0, none⟩ ms).run Try.prog w = .ok () W2 ∧ (∀ j (hj : j < ms.length), W2.cell? ⟨c, j, none⟩ = some ms[j]) ∧ (∀ j, W2.frozen? ⟨c, j, none⟩ = false) ∧ w.grownBy W2 (some c) := by
  have hs : ∀ j, j < ms.length → (w.cell? ⟨c, j, none⟩).isSome = true := fun j hj => by
    rw [h.cell (i := j) (Array.getElem?_eq_getElem (by omega))]; rfl
  refine ⟨w.setCells c 0 ms, ?_, fun j hj => ?_, fun j => (World.frozen?_setCells c ms 0 w _).trans (h.free j), grown_cells c ms 0 w⟩
  · have := run_storeCells_cells (P := Try.prog) c 0 ms 0 w (fun j hj => by simpa using hs j hj) (fun j _ => h.free _) h1
    simpa using this
  · have := World.cell?_setCells_in c ms 0 w (fun j hj => by simpa using hs j hj) j hj
    simpa using this
theorem Blk.grown {w w' : World} {b c : Nat} {cs : Array Value} {t : TypeId} (h : Blk w b cs t) (hg : w.grownBy w' (some c)) (hne : b ≠ c) : Blk w' b cs t := (hg.block b h.lt (fun e => hne (Option.some.inj e))).trans h
theorem Far.grown {w0 w w' : World} {b c : Nat} (h : Far b (.slice none 0 0) w0 w) (hg : w.grownBy w' (some c)) (hc : w0.heap.size ≤ c) : Far b (.slice none 0 0) w0 w' :=
  ⟨hg.os.trans h.os, hg.tape.trans h.tape, hg.output.trans h.output, Nat.le_trans h.size hg.size, fun k hk h1 h2 => (hg.block k (Nat.lt_of_lt_of_le hk h.size) (fun e => by have := Option.some.inj e; omega)).trans (h.block k hk h1 h2)⟩
theorem asc_nil : Asc [] := fun p q hp => absurd hp (by simp)
set_option maxRecDepth 100000 in
theorem copied0 (w : World) : Calls Try.prog 92 #[.slice none 0 0] w fun e w' => ∃ a c, e = .returned (.slice a 0 c) ∧ Gr w w' := by
  go_enter Try.func92, Try.ntmps92
  go_wp2_with fail
  refine (cloneE_any (base := 0) [] _ (World.ownsRow_nil _ _ _ _) (by simp)).mono ?_
  rintro e w1 ⟨v, rfl, hv, hg⟩
  obtain ⟨a, c, rfl, _⟩ := ownsRow_slice hv
  clear hv
  go_wp2
  go_loopw [9] (fun i wr => i = .int .i64 0 ∧ wr = w1) (fun _ _ => 0)
  case atStart => exact ⟨rfl, rfl⟩
  case round =>
    obtain ⟨rfl, rfl⟩ := hrel
    go_wp2
    go_ret
    exact ⟨a, c, rfl, hg⟩
theorem bars0 (w : World) : Calls Try.prog 86 #[.agg #[.int .i64 0, .int .i64 0], .int .i64 1, .int .i64 0] w fun e w' => e = .returned (.bool false) ∧ Gr w w' := by
  have := bars_any 0 0 1 0 w (by omega)
  rwa [show barsA 0 0 1 0 = false by decide] at this
theorem late0 {b : Nat} (w : World) (h : Blk w b #[.bool false, .int .u64 0, .int .i64 0, .int .i64 0, .slice none 0 0, .int .i64 0, .int .i64 0] 150) : Calls Try.prog 88 #[.pointer (some ⟨b, 0, none⟩), .agg #[.int .u64 2, .int .i64 1]] w fun e w' => e = .returned (.bool false) ∧ Gr w w' := by
  have := isLate_any 2 1 w h
  rwa [show decide (cmpB 2 1 0 0 < 0) = false by decide] at this
theorem late1 {b : Nat} (w : World) (h : Blk w b #[.bool false, .int .u64 2, .int .i64 1, .int .i64 0, .slice none 0 0, .int .i64 0, .int .i64 0] 150) : Calls Try.prog 88 #[.pointer (some ⟨b, 0, none⟩), .agg #[.int .u64 1, .int .i64 0]] w fun e w' => e = .returned (.bool true) ∧ Gr w w' := by
  have := isLate_any 1 0 w h
  rwa [show decide (cmpB 1 0 2 1 < 0) = true by decide] at this
theorem promise0 {b : Nat} (w : World) (h : Blk w b #[.bool false, .int .u64 0, .int .i64 0, .int .i64 0, .slice none 0 0, .int .i64 0, .int .i64 0] 150) : Calls Try.prog 90 #[.pointer (some ⟨b, 0, none⟩), .agg #[.int .u64 2, .int .i64 1]] w fun e w' => e = .returned (.bool true) ∧ Blk w' b #[.bool false, .int .u64 2, .int .i64 1, .int .i64 0, .slice none 0 0, .int .i64 0, .int .i64 0] 150 ∧ Far b (.slice none 0 0) w w' := promise_any 2 1 w h
theorem find0 {b : Nat} (w : World) (h : Blk w b #[.bool false, .int .u64 2, .int .i64 1, .int .i64 0, .slice none 0 0, .int .i64 0, .int .i64 0] 150) : Calls Try.prog 91 #[.pointer (some ⟨b, 0, none⟩), .int .i64 0] w fun e w' => ∃ fd, e = .returned (.tuple #[.int .i64 0, .bool fd]) ∧ Gr w w' := by
  refine (find_any (base := 0) 0 [] w h (World.ownsRow_nil _ _ _ _) (by simp) asc_nil).mono ?_
  rintro e w1 ⟨i, fd, rfl, hi, _, _, hg⟩
  obtain rfl : i = 0 := by simpa using hi
  exact ⟨fd, rfl, hg⟩
set_option maxRecDepth 100000 in
set_option maxHeartbeats 4000000 in
theorem prepare0 {b : Nat} (w : World) (h : Blk w b #[.bool false, .int .u64 0, .int .i64 0, .int .i64 0, .slice none 0 0, .int .i64 0, .int .i64 0] 150) :
    Calls Try.prog 27 #[.pointer (some ⟨b, 0, none⟩), .agg #[.int .i64 0, .int .i64 1, .int .i64 0, .int .i64 0, .int .u64 2, .int .i64 1, .int .i64 0, .int .i64 0, .bool false, .string ⟨#[]⟩, .slice none 0 0], .int .i64 0] w fun e w' => ∃ ra rc, e = .returned (.tuple #[.agg #[.int .i64 2, .int .i64 0, .int .i64 0, .int .i64 0, .int .u64 2, .int .i64 1, .int .i64 0, .int .i64 0, .bool false, .string ⟨#[]⟩, .slice ra 0 rc], .bool true]) ∧ Blk w' b #[.bool false, .int .u64 2, .int .i64 1, .int .i64 0, .slice none 0 0, .int .i64 0, .int .i64 0] 150 ∧ Far b (.slice none 0 0) w w' := by
  have HM := Lib.hid ((Blk.new w #[.int .i64 0, .int .i64 1, .int .i64 0, .int .i64 0, .int .u64 2, .int .i64 1, .int .i64 0, .int .i64 0, .bool false, .string ⟨#[]⟩, .slice none 0 0] 69).gr ((Gr.refl _).alloc (.cells #[.int .i64 0, .int .i64 0, .int .i64 0, .int .i64 0, .int .u64 0, .int .i64 0, .int .i64 0, .int .i64 0, .bool false, .string ⟨#[]⟩, .slice none 0 0] 69)))
  have HR := Lib.hid (Blk.new (w.alloc (.cells #[.int .i64 0, .int .i64 1, .int .i64 0, .int .i64 0, .int .u64 2, .int .i64 1, .int .i64 0, .int .i64 0, .bool false, .string ⟨#[]⟩, .slice none 0 0] 69)) #[.int .i64 0, .int .i64 0, .int .i64 0, .int .i64 0, .int .u64 0, .int .i64 0, .int .i64 0, .int .i64 0, .bool false, .string ⟨#[]⟩, .slice none 0 0] 69)
  rw [show (w.alloc (.cells #[.int .i64 0, .int .i64 1, .int .i64 0, .int .i64 0, .int .u64 2, .int .i64 1, .int .i64 0, .int .i64 0, .bool false, .string ⟨#[]⟩, .slice none 0 0] 69)).heap.size = w.heap.size + 1 by simp] at HR
  have HG := Lib.hid (((Gr.refl w).alloc (.cells #[.int .i64 0, .int .i64 1, .int .i64 0, .int .i64 0, .int .u64 2, .int .i64 1, .int .i64 0, .int .i64 0, .bool false, .string ⟨#[]⟩, .slice none 0 0] 69)).alloc (.cells #[.int .i64 0, .int .i64 0, .int .i64 0, .int .i64 0, .int .u64 0, .int .i64 0, .int .i64 0, .int .i64 0, .bool false, .string ⟨#[]⟩, .slice none 0 0] 69))
  have HA := Lib.hid (h.gr HG.out)
  have hlt := h.lt
  clear h
  go_enter Try.func27, Try.ntmps27
  go_wp2_with fail
  generalize (w.alloc (.cells #[.int .i64 0, .int .i64 1, .int .i64 0, .int .i64 0, .int .u64 2, .int .i64 1, .int .i64 0, .int .i64 0, .bool false, .string ⟨#[]⟩, .slice none 0 0] 69)).alloc (.cells #[.int .i64 0, .int .i64 0, .int .i64 0, .int .i64 0, .int .u64 0, .int .i64 0, .int .i64 0, .int .i64 0, .bool false, .string ⟨#[]⟩, .slice none 0 0] 69) = wa at *
  have n1 : w.heap.size ≠ b := by omega
  have n2 : w.heap.size + 1 ≠ b := by omega
  have b5 := HA.out.cell (i := 5) rfl
  have b6 := HA.out.cell (i := 6) rfl
  have m1 := HM.out.cell (i := 1) rfl
  refine wp_region_held_drew (S := (fun w9 => Gr wa w9 ∧ w9.cell? ⟨b, 5, none⟩ = some (.int .i64 0) ∧ w9.cell? ⟨b, 6, none⟩ = some (.int .i64 0) ∧ w9.cell? ⟨w.heap.size, 1, none⟩ = some (.int .i64 1))) (by kernel_rfl) ?inva (fun h0 => ?_)
  case inva => ((try dsimp only); (exact ⟨(by first | exact Gr.refl _ | exact (Gr.refl _).drew), b5, b6, m1⟩))
  refine wpAnyH_take (i := 0) (oi := { dst := some 12, op := Go.Op.move (Go.Operand.tmp 0), type := 66, pos := "accept.go:92", after := #[], guard := none }) (v := ?va1) rfl (by kernel_rfl) (by kernel_rfl) (by kernel_rfl) (fun _ _ _ h => h) (Or.inl ⟨by rfl, ?ra1⟩) (by assumption) ?_
  case ra1 => (intro w hSw; (try dsimp only at hSw); (go_simp <;> with_reducible rfl))
  try simp only [Act.put, List.setIfInBounds_toArray, List.set_cons_zero, List.set_cons_succ]
  refine wpAnyH_take (i := 1) (oi := { dst := some 13, op := Go.Op.nilCheck (Go.Operand.tmp 12), type := 0, pos := "accept.go:92", after := #[{ on := 0, ground := Go.Ground.data }], guard := none }) (v := ?va2) rfl (by kernel_rfl) (by kernel_rfl) (by kernel_rfl) (fun _ _ _ h => h) (Or.inl ⟨by rfl, ?ra2⟩) (by assumption) ?_
  case ra2 => (intro w hSw; (try dsimp only at hSw); (go_simp <;> with_reducible rfl))
  try simp only [Act.put, List.setIfInBounds_toArray, List.set_cons_zero, List.set_cons_succ]
  refine wpAnyH_take (i := 2) (oi := { dst := some 14, op := Go.Op.fieldAddr 150 (Go.Operand.tmp 13) 4, type := 0, pos := "accept.go:92", after := #[{ on := 1, ground := Go.Ground.data }], guard := none }) (v := ?va3) rfl (by kernel_rfl) (by kernel_rfl) (by kernel_rfl) (fun _ _ _ h => h) (Or.inl ⟨by rfl, ?ra3⟩) (by assumption) ?_
  case ra3 => (intro w hSw; (try dsimp only at hSw); (go_simp <;> with_reducible rfl))
  try simp only [Act.put, List.setIfInBounds_toArray, List.set_cons_zero, List.set_cons_succ]
  refine wpAnyH_take (i := 3) (oi := { dst := some 15, op := Go.Op.load 148 (Go.Operand.tmp 14), type := 148, pos := "accept.go:92", after := #[{ on := 2, ground := Go.Ground.data }], guard := none }) (v := ?va4) rfl (by kernel_rfl) (by kernel_rfl) (by kernel_rfl) (fun _ _ _ h => h) (Or.inl ⟨by rfl, ?ra4⟩) (by assumption) ?_
  case ra4 => (intro w hSw; (try dsimp only at hSw); (go_simp <;> with_reducible rfl))
  try simp only [Act.put, List.setIfInBounds_toArray, List.set_cons_zero, List.set_cons_succ]
  refine wpAnyH_take (i := 4) (oi := { dst := some 16, op := Go.Op.fieldAddr 69 (Go.Operand.tmp 4) 1, type := 0, pos := "accept.go:92", after := #[], guard := none }) (v := ?va5) rfl (by kernel_rfl) (by kernel_rfl) (by kernel_rfl) (fun _ _ _ h => h) (Or.inl ⟨by rfl, ?ra5⟩) (by assumption) ?_
  case ra5 => (intro w hSw; (try dsimp only at hSw); (go_simp <;> with_reducible rfl))
  try simp only [Act.put, List.setIfInBounds_toArray, List.set_cons_zero, List.set_cons_succ]
  refine wpAnyH_take (i := 5) (oi := { dst := some 17, op := Go.Op.load 3 (Go.Operand.tmp 16), type := 3, pos := "accept.go:92", after := #[{ on := 4, ground := Go.Ground.data }], guard := none }) (v := ?va6) rfl (by kernel_rfl) (by kernel_rfl) (by kernel_rfl) (fun _ _ _ h => h) (Or.inl ⟨by rfl, ?ra6⟩) (by assumption) ?_
  case ra6 => (intro w hSw; (try dsimp only at hSw); (go_simp <;> with_reducible rfl))
  try simp only [Act.put, List.setIfInBounds_toArray, List.set_cons_zero, List.set_cons_succ]
  refine wpAnyH_take (i := 6) (oi := { dst := some 18, op := Go.Op.move (Go.Operand.tmp 2), type := 3, pos := "accept.go:92", after := #[], guard := none }) (v := ?va7) rfl (by kernel_rfl) (by kernel_rfl) (by kernel_rfl) (fun _ _ _ h => h) (Or.inl ⟨by rfl, ?ra7⟩) (by assumption) ?_
  case ra7 => (intro w hSw; (try dsimp only at hSw); (go_simp <;> with_reducible rfl))
  try simp only [Act.put, List.setIfInBounds_toArray, List.set_cons_zero, List.set_cons_succ]
  refine wpAnyH_ready (rs := [7]) (by kernel_rfl) (by simp) ?_
  refine AllReadyH.cons (o := { dst := some 19, op := Go.Op.call { callee := Go.Callee.value (Go.Operand.func 86), args := #[Go.Operand.tmp 15, Go.Operand.tmp 17, Go.Operand.tmp 18], argTypes := #[148, 3, 3] }, type := 4, pos := "accept.go:92", after := #[{ on := 3, ground := Go.Ground.data }, { on := 5, ground := Go.Ground.data }, { on := 6, ground := Go.Ground.data }], guard := none }) rfl (fun K hK => ?_) AllReadyH.nil
  go_simp
  go_at_call 86
  refine (bars0 _).mono ?_
  rintro e w9 ⟨rfl, hg9⟩
  first | refine hK.out _ _ ?sa8 (fun h8 => ?_) | (go_wp2_with fail; refine hK.out _ _ ?sa8 (fun h8 => ?_))
  case sa8 => ((try dsimp only); (exact ⟨h0.1.trans hg9, hg9.cell h0.2.1, hg9.cell h0.2.2.1, hg9.cell h0.2.2.2⟩))
  clear hK K h0
  try simp only [Act.put, List.setIfInBounds_toArray, List.set_cons_zero, List.set_cons_succ]
  refine wpAnyH_take (i := 8) (oi := { dst := some 11, op := Go.Op.assign (Go.Operand.tmp 19), type := 4, pos := "accept.go:92", after := #[{ on := 7, ground := Go.Ground.data }, { on := 7, ground := Go.Ground.chain }], guard := none }) (v := ?va9) rfl (by kernel_rfl) (by kernel_rfl) (by kernel_rfl) (fun _ _ _ h => h) (Or.inl ⟨by rfl, ?ra9⟩) (by assumption) ?_
  case ra9 => (intro w hSw; (try dsimp only at hSw); (go_simp <;> with_reducible rfl))
  try simp only [Act.put, List.setIfInBounds_toArray, List.set_cons_zero, List.set_cons_succ]
  refine wpAnyH_done (by kernel_rfl) ?_ _
  have QG := Lib.hid h8.1
  clear h8 b5 b6 m1 hg9
  have HA1 := Lib.hid (HA.out.gr QG.out)
  have HM1 := Lib.hid (HM.out.gr QG.out)
  have HR1 := Lib.hid (HR.out.gr QG.out)
  have HF1 := Lib.hid (Far.of_gr (b := b) (v := .slice none 0 0) (HG.out.trans QG.out))
  clear HA HM HR HG QG
  have m4 := HM1.out.cell (i := 4) rfl
  have m5 := HM1.out.cell (i := 5) rfl
  go_wp2_with fail
  refine (late0 _ HA1.out).mono ?_
  rintro e w10 ⟨rfl, hg10⟩
  have HA2 := Lib.hid (HA1.out.gr hg10)
  have HM2 := Lib.hid (HM1.out.gr hg10)
  have HR2 := Lib.hid (HR1.out.gr hg10)
  have HF2 := Lib.hid (HF1.out.trans (From.refl _ _) (Far.of_gr hg10))
  clear HA1 HM1 HR1 HF1 hg10 m4 m5
  have m4 := HM2.out.cell (i := 4) rfl
  have m5 := HM2.out.cell (i := 5) rfl
  go_wp2_with fail
  refine (promise0 _ HA2.out).mono ?_
  rintro e w11 ⟨rfl, hA3, hf3⟩
  have HA3 := Lib.hid hA3
  have HM3 := Lib.hid (show Blk w11 w.heap.size #[.int .i64 0, .int .i64 1, .int .i64 0, .int .i64 0, .int .u64 2, .int .i64 1, .int .i64 0, .int .i64 0, .bool false, .string ⟨#[]⟩, .slice none 0 0] 69 from (hf3.block _ HM2.out.lt n1 (by simp [Value.ownBlock])).trans HM2.out)
  have HR3 := Lib.hid (show Blk w11 (w.heap.size + 1) #[.int .i64 0, .int .i64 0, .int .i64 0, .int .i64 0, .int .u64 0, .int .i64 0, .int .i64 0, .int .i64 0, .bool false, .string ⟨#[]⟩, .slice none 0 0] 69 from (hf3.block _ HR2.out.lt n2 (by simp [Value.ownBlock])).trans HR2.out)
  have HF3 := Lib.hid (HF2.out.trans (From.refl _ _) hf3)
  clear HA2 HM2 HR2 HF2 hA3 hf3 m4 m5
  have m6 := HM3.out.cell (i := 6) rfl
  go_wp2_with fail
  refine (find0 _ HA3.out).mono ?_
  rintro e w12 ⟨fd, rfl, hg12⟩
  have HA4 := Lib.hid (HA3.out.gr hg12)
  have HM4 := Lib.hid (HM3.out.gr hg12)
  have HR4 := Lib.hid (HR3.out.gr hg12)
  have HF4 := Lib.hid (HF3.out.trans (From.refl _ _) (Far.of_gr hg12))
  clear HA3 HM3 HR3 HF3 hg12 m6
  have m4 := HM4.out.cell (i := 4) rfl
  have m5 := HM4.out.cell (i := 5) rfl
  have b3 := HA4.out.cell (i := 3) rfl
  have b4 := HA4.out.cell (i := 4) rfl
  go_wp2_with fail
  refine wp_region_held_drew (S := (fun w9 => w9.cell? ⟨w.heap.size, 4, none⟩ = some (.int .u64 2) ∧ w9.cell? ⟨w.heap.size, 5, none⟩ = some (.int .i64 1) ∧ w9.cell? ⟨b, 3, none⟩ = some (.int .i64 0) ∧ w9.cell? ⟨b, 4, none⟩ = some (.slice none 0 0))) (by kernel_rfl) ?invg (fun h0 => ?_)
  case invg => ((try dsimp only); (exact ⟨m4, m5, b3, b4⟩))
  refine wpAnyH_take (i := 0) (oi := { dst := some 41, op := Go.Op.fieldAddr 69 (Go.Operand.tmp 4) 4, type := 0, pos := "accept.go:99", after := #[], guard := none }) (v := ?vg1) rfl (by kernel_rfl) (by kernel_rfl) (by kernel_rfl) (fun _ _ _ h => h) (Or.inl ⟨by rfl, ?rg1⟩) (by assumption) ?_
  case rg1 => (intro w hSw; (try dsimp only at hSw); (go_simp <;> with_reducible rfl))
  try simp only [Act.put, List.setIfInBounds_toArray, List.set_cons_zero, List.set_cons_succ]
  refine wpAnyH_take (i := 1) (oi := { dst := some 42, op := Go.Op.load 50 (Go.Operand.tmp 41), type := 50, pos := "accept.go:99", after := #[{ on := 0, ground := Go.Ground.data }], guard := none }) (v := ?vg2) rfl (by kernel_rfl) (by kernel_rfl) (by kernel_rfl) (fun _ _ _ h => h) (Or.inl ⟨by rfl, ?rg2⟩) (by assumption) ?_
  case rg2 => (intro w hSw; (try dsimp only at hSw); (go_simp <;> with_reducible rfl))
  try simp only [Act.put, List.setIfInBounds_toArray, List.set_cons_zero, List.set_cons_succ]
  refine wpAnyH_take (i := 2) (oi := { dst := some 43, op := Go.Op.move (Go.Operand.tmp 0), type := 66, pos := "accept.go:99", after := #[], guard := none }) (v := ?vg3) rfl (by kernel_rfl) (by kernel_rfl) (by kernel_rfl) (fun _ _ _ h => h) (Or.inl ⟨by rfl, ?rg3⟩) (by assumption) ?_
  case rg3 => (intro w hSw; (try dsimp only at hSw); (go_simp <;> with_reducible rfl))
  try simp only [Act.put, List.setIfInBounds_toArray, List.set_cons_zero, List.set_cons_succ]
  refine wpAnyH_take (i := 3) (oi := { dst := some 44, op := Go.Op.nilCheck (Go.Operand.tmp 43), type := 0, pos := "accept.go:99", after := #[{ on := 2, ground := Go.Ground.data }], guard := none }) (v := ?vg4) rfl (by kernel_rfl) (by kernel_rfl) (by kernel_rfl) (fun _ _ _ h => h) (Or.inl ⟨by rfl, ?rg4⟩) (by assumption) ?_
  case rg4 => (intro w hSw; (try dsimp only at hSw); (go_simp <;> with_reducible rfl))
  try simp only [Act.put, List.setIfInBounds_toArray, List.set_cons_zero, List.set_cons_succ]
  refine wpAnyH_take (i := 4) (oi := { dst := some 45, op := Go.Op.fieldAddr 150 (Go.Operand.tmp 44) 2, type := 0, pos := "accept.go:99", after := #[{ on := 3, ground := Go.Ground.data }], guard := none }) (v := ?vg5) rfl (by kernel_rfl) (by kernel_rfl) (by kernel_rfl) (fun _ _ _ h => h) (Or.inl ⟨by rfl, ?rg5⟩) (by assumption) ?_
  case rg5 => (intro w hSw; (try dsimp only at hSw); (go_simp <;> with_reducible rfl))
  try simp only [Act.put, List.setIfInBounds_toArray, List.set_cons_zero, List.set_cons_succ]
  refine wpAnyH_take (i := 5) (oi := { dst := some 46, op := Go.Op.load 3 (Go.Operand.tmp 45), type := 3, pos := "accept.go:99", after := #[{ on := 4, ground := Go.Ground.data }], guard := none }) (v := ?vg6) rfl (by kernel_rfl) (by kernel_rfl) (by kernel_rfl) (fun _ _ _ h => h) (Or.inl ⟨by rfl, ?rg6⟩) (by assumption) ?_
  case rg6 => (intro w hSw; (try dsimp only at hSw); (go_simp <;> with_reducible rfl))
  try simp only [Act.put, List.setIfInBounds_toArray, List.set_cons_zero, List.set_cons_succ]
  refine wpAnyH_take (i := 6) (oi := { dst := some 47, op := Go.Op.move (Go.Operand.tmp 0), type := 66, pos := "accept.go:99", after := #[], guard := none }) (v := ?vg7) rfl (by kernel_rfl) (by kernel_rfl) (by kernel_rfl) (fun _ _ _ h => h) (Or.inl ⟨by rfl, ?rg7⟩) (by assumption) ?_
  case rg7 => (intro w hSw; (try dsimp only at hSw); (go_simp <;> with_reducible rfl))
  try simp only [Act.put, List.setIfInBounds_toArray, List.set_cons_zero, List.set_cons_succ]
  refine wpAnyH_take (i := 7) (oi := { dst := some 48, op := Go.Op.nilCheck (Go.Operand.tmp 47), type := 0, pos := "accept.go:99", after := #[{ on := 6, ground := Go.Ground.data }], guard := none }) (v := ?vg8) rfl (by kernel_rfl) (by kernel_rfl) (by kernel_rfl) (fun _ _ _ h => h) (Or.inl ⟨by rfl, ?rg8⟩) (by assumption) ?_
  case rg8 => (intro w hSw; (try dsimp only at hSw); (go_simp <;> with_reducible rfl))
  try simp only [Act.put, List.setIfInBounds_toArray, List.set_cons_zero, List.set_cons_succ]
  refine wpAnyH_take (i := 8) (oi := { dst := some 49, op := Go.Op.fieldAddr 150 (Go.Operand.tmp 48) 3, type := 0, pos := "accept.go:99", after := #[{ on := 7, ground := Go.Ground.data }], guard := none }) (v := ?vg9) rfl (by kernel_rfl) (by kernel_rfl) (by kernel_rfl) (fun _ _ _ h => h) (Or.inl ⟨by rfl, ?rg9⟩) (by assumption) ?_
  case rg9 => (intro w hSw; (try dsimp only at hSw); (go_simp <;> with_reducible rfl))
  try simp only [Act.put, List.setIfInBounds_toArray, List.set_cons_zero, List.set_cons_succ]
  refine wpAnyH_take (i := 9) (oi := { dst := some 50, op := Go.Op.load 67 (Go.Operand.tmp 49), type := 67, pos := "accept.go:99", after := #[{ on := 8, ground := Go.Ground.data }], guard := none }) (v := ?vg10) rfl (by kernel_rfl) (by kernel_rfl) (by kernel_rfl) (fun _ _ _ h => h) (Or.inl ⟨by rfl, ?rg10⟩) (by assumption) ?_
  case rg10 => (intro w hSw; (try dsimp only at hSw); (go_simp <;> with_reducible rfl))
  try simp only [Act.put, List.setIfInBounds_toArray, List.set_cons_zero, List.set_cons_succ]
  refine wpAnyH_take (i := 10) (oi := { dst := some 51, op := Go.Op.move (Go.Operand.tmp 9), type := 3, pos := "accept.go:99", after := #[], guard := none }) (v := ?vg11) rfl (by kernel_rfl) (by kernel_rfl) (by kernel_rfl) (fun _ _ _ h => h) (Or.inl ⟨by rfl, ?rg11⟩) (by assumption) ?_
  case rg11 => (intro w hSw; (try dsimp only at hSw); (go_simp <;> with_reducible rfl))
  try simp only [Act.put, List.setIfInBounds_toArray, List.set_cons_zero, List.set_cons_succ]
  refine wpAnyH_take (i := 11) (oi := { dst := some 52, op := Go.Op.slice 67 (Go.Operand.tmp 50) (some (Go.Operand.tmp 51)) none none, type := 67, pos := "accept.go:99", after := #[{ on := 9, ground := Go.Ground.data }, { on := 10, ground := Go.Ground.data }], guard := none }) (v := ?vg12) rfl (by kernel_rfl) (by kernel_rfl) (by kernel_rfl) (fun _ _ _ h => h) (Or.inl ⟨by rfl, ?rg12⟩) (by assumption) ?_
  case rg12 => (intro w hSw; (try dsimp only at hSw); (go_simp <;> with_reducible rfl))
  try simp only [Act.put, List.setIfInBounds_toArray, List.set_cons_zero, List.set_cons_succ]
  refine wpAnyH_take (i := 14) (oi := { dst := some 55, op := Go.Op.move (Go.Operand.tmp 8), type := 4, pos := "accept.go:99", after := #[{ on := 15, ground := Go.Ground.gcOnly Go.Departure.lateStores }], guard := none }) (v := ?vg13) rfl (by kernel_rfl) (by kernel_rfl) (by kernel_rfl) (fun _ _ _ h => h) (Or.inl ⟨by rfl, ?rg13⟩) (by assumption) ?_
  case rg13 => (intro w hSw; (try dsimp only at hSw); (go_simp <;> with_reducible rfl))
  try simp only [Act.put, List.setIfInBounds_toArray, List.set_cons_zero, List.set_cons_succ]
  refine wpAnyH_ready (rs := [12]) (by kernel_rfl) (by simp) ?_
  refine AllReadyH.cons (o := { dst := some 53, op := Go.Op.call { callee := Go.Callee.value (Go.Operand.func 92), args := #[Go.Operand.tmp 52], argTypes := #[67] }, type := 67, pos := "accept.go:99", after := #[{ on := 11, ground := Go.Ground.data }], guard := none }) rfl (fun K hK => ?_) AllReadyH.nil
  go_simp
  go_at_call 92
  refine (copied0 _).mono ?_
  rintro e w9 ⟨ra, rc, rfl, hg9⟩
  have hz9 : Gr w12 w9 := (by first | exact hg9 | exact (Gr.refl _).drew.trans hg9)
  have HA9 := Lib.hid (HA4.out.gr hz9)
  have HM9 := Lib.hid (HM4.out.gr hz9)
  have HR9 := Lib.hid (HR4.out.gr hz9)
  have HF9 := Lib.hid (HF4.out.trans (From.refl _ _) (Far.of_gr hz9))
  obtain ⟨W2, hst, hat2, hfz2, hgr2⟩ := rows_store [.int .i64 2, .int .i64 0, .int .i64 0, .int .i64 0, .int .u64 2, .int .i64 1, .int .i64 0, .int .i64 0, .bool false, .string ⟨#[]⟩, .slice ra 0 rc] HR9.out rfl (by intro u hu; simp only [List.mem_cons, List.not_mem_nil, or_false] at hu; rcases hu with rfl | rfl | rfl | rfl | rfl | rfl | rfl | rfl | rfl | rfl | rfl <;> rfl)
  have HAF := Lib.hid (HA9.out.grown hgr2 n2.symm)
  have HMF := Lib.hid (HM9.out.grown hgr2 (by omega))
  have HFF := Lib.hid (HF9.out.grown hgr2 (Nat.le_succ _))
  have z0 : W2.cell? ⟨w.heap.size + 1, 0, none⟩ = some (.int .i64 2) := hat2 0 (by simp)
  have z1 : W2.cell? ⟨w.heap.size + 1, 1, none⟩ = some (.int .i64 0) := hat2 1 (by simp)
  have z2 : W2.cell? ⟨w.heap.size + 1, 2, none⟩ = some (.int .i64 0) := hat2 2 (by simp)
  have z3 : W2.cell? ⟨w.heap.size + 1, 3, none⟩ = some (.int .i64 0) := hat2 3 (by simp)
  have z4 : W2.cell? ⟨w.heap.size + 1, 4, none⟩ = some (.int .u64 2) := hat2 4 (by simp)
  have z5 : W2.cell? ⟨w.heap.size + 1, 5, none⟩ = some (.int .i64 1) := hat2 5 (by simp)
  have z6 : W2.cell? ⟨w.heap.size + 1, 6, none⟩ = some (.int .i64 0) := hat2 6 (by simp)
  have z7 : W2.cell? ⟨w.heap.size + 1, 7, none⟩ = some (.int .i64 0) := hat2 7 (by simp)
  have z8 : W2.cell? ⟨w.heap.size + 1, 8, none⟩ = some (.bool false) := hat2 8 (by simp)
  have z9 : W2.cell? ⟨w.heap.size + 1, 9, none⟩ = some (.string ⟨#[]⟩) := hat2 9 (by simp)
  have z10 : W2.cell? ⟨w.heap.size + 1, 10, none⟩ = some (.slice ra 0 rc) := hat2 10 (by simp)
  have HZZ := Lib.hid (And.intro z0 (And.intro z1 (And.intro z2 (And.intro z3 (And.intro z4 (And.intro z5 (And.intro z6 (And.intro z7 (And.intro z8 (And.intro z9 z10))))))))))
  clear z0 z1 z2 z3 z4 z5 z6 z7 z8 z9 z10 hat2 hfz2 hgr2
  generalize hMS : ([.int .i64 2, .int .i64 0, .int .i64 0, .int .i64 0, .int .u64 2, .int .i64 1, .int .i64 0, .int .i64 0, .bool false, .string ⟨#[]⟩, .slice ra 0 rc] : List Value) = ms at *
  have HMS := Lib.hid hMS
  have hml : ms.length = 11 := by rw [← HMS.out]; rfl
  clear hMS hz9
  first | refine hK.out _ _ ?sg14 (fun h14 => ?_) | (go_wp2_with fail; refine hK.out _ _ ?sg14 (fun h14 => ?_))
  case sg14 => ((try dsimp only); (first | exact ⟨hg9.cell h0.1, hg9.cell h0.2.1, hg9.cell h0.2.2.1, hg9.cell h0.2.2.2⟩ | exact ⟨HMF.out.cell rfl, HMF.out.cell rfl, HAF.out.cell rfl, HAF.out.cell rfl⟩))
  clear hK K h0
  try simp only [Act.put, List.setIfInBounds_toArray, List.set_cons_zero, List.set_cons_succ]
  refine wpAnyH_take (i := 13) (oi := { dst := some 54, op := Go.Op.build 69 #[(0, Go.Operand.const (Go.Value.int Go.IntKind.i64 2)), (4, Go.Operand.tmp 42), (5, Go.Operand.tmp 46), (9, Go.Operand.tmp 53)], type := 69, pos := "accept.go:99", after := #[{ on := 1, ground := Go.Ground.data }, { on := 5, ground := Go.Ground.data }, { on := 12, ground := Go.Ground.data }], guard := none }) (v := (.agg ms.toArray)) rfl (by kernel_rfl) (by kernel_rfl) (by kernel_rfl) (fun _ _ _ h => h) (Or.inl ⟨by rfl, ?rg15⟩) (by assumption) ?_
  case rg15 => (intro w hSw; (try dsimp only at hSw); go_simp; all_goals (rw [← HMS.out]))
  try simp only [Act.put, List.setIfInBounds_toArray, List.set_cons_zero, List.set_cons_succ]
  refine wpAnyH_ready (rs := [15]) (by kernel_rfl) (by simp) ?_
  refine AllReadyH.cons (o := { dst := none, op := Go.Op.store 69 (Go.Operand.tmp 6) (Go.Operand.tmp 54), type := 0, pos := "accept.go:99", after := #[{ on := 13, ground := Go.Ground.data }, { on := 12, ground := Go.Ground.chain }, { on := 0, ground := Go.Ground.phase }, { on := 1, ground := Go.Ground.phase }, { on := 2, ground := Go.Ground.phase }, { on := 3, ground := Go.Ground.phase }, { on := 4, ground := Go.Ground.phase }, { on := 5, ground := Go.Ground.phase }, { on := 6, ground := Go.Ground.phase }, { on := 7, ground := Go.Ground.phase }, { on := 8, ground := Go.Ground.phase }, { on := 9, ground := Go.Ground.phase }, { on := 10, ground := Go.Ground.phase }, { on := 11, ground := Go.Ground.phase }, { on := 12, ground := Go.Ground.phase }, { on := 13, ground := Go.Ground.phase }, { on := 14, ground := Go.Ground.textOnly Go.Departure.lateStores }], guard := none }) rfl (fun K hK => ?_) AllReadyH.nil
  go_simp
  skip
  first | refine hK.out _ _ ?sg16 (fun h16 => ?_) | (go_wp2_with fail; refine hK.out _ _ ?sg16 (fun h16 => ?_))
  case sg16 => ((try dsimp only); (first | exact ⟨hg9.cell h14.1, hg9.cell h14.2.1, hg9.cell h14.2.2.1, hg9.cell h14.2.2.2⟩ | exact ⟨HMF.out.cell rfl, HMF.out.cell rfl, HAF.out.cell rfl, HAF.out.cell rfl⟩))
  clear hK K h14
  try simp only [Act.put, List.setIfInBounds_toArray, List.set_cons_zero, List.set_cons_succ]
  refine wpAnyH_take (i := 16) (oi := { dst := some 7, op := Go.Op.assign (Go.Operand.tmp 55), type := 4, pos := "accept.go:99", after := #[{ on := 14, ground := Go.Ground.data }, { on := 15, ground := Go.Ground.chain }, { on := 0, ground := Go.Ground.phase }, { on := 1, ground := Go.Ground.phase }, { on := 2, ground := Go.Ground.phase }, { on := 3, ground := Go.Ground.phase }, { on := 4, ground := Go.Ground.phase }, { on := 5, ground := Go.Ground.phase }, { on := 6, ground := Go.Ground.phase }, { on := 7, ground := Go.Ground.phase }, { on := 8, ground := Go.Ground.phase }, { on := 9, ground := Go.Ground.phase }, { on := 10, ground := Go.Ground.phase }, { on := 11, ground := Go.Ground.phase }, { on := 12, ground := Go.Ground.phase }, { on := 13, ground := Go.Ground.phase }, { on := 14, ground := Go.Ground.phase }, { on := 15, ground := Go.Ground.phase }], guard := none }) (v := ?vg17) rfl (by kernel_rfl) (by kernel_rfl) (by kernel_rfl) (fun _ _ _ h => h) (Or.inl ⟨by rfl, ?rg17⟩) (by assumption) ?_
  case rg17 => (intro w hSw; (try dsimp only at hSw); (go_simp <;> with_reducible rfl))
  try simp only [Act.put, List.setIfInBounds_toArray, List.set_cons_zero, List.set_cons_succ]
  refine wpAnyH_done (by kernel_rfl) ?_ _
  clear h16
  obtain ⟨z0, z1, z2, z3, z4, z5, z6, z7, z8, z9, z10⟩ := HZZ.out
  go_wp2
  refine bodyPost_ret (v := .tuple #[.agg #[.int .i64 2, .int .i64 0, .int .i64 0, .int .i64 0, .int .u64 2, .int .i64 1, .int .i64 0, .int .i64 0, .bool false, .string ⟨#[]⟩, .slice ra 0 rc], .bool true]) (by simp [results, Try.results27, go_sem, z0, z1, z2, z3, z4, z5, z6, z7, z8, z9, z10]; try rfl) rfl ?_
  exact ⟨ra, rc, rfl, HAF.out, HFF.out⟩
end Go.Proofs.Ytihhfdkcggnjpaa
