import Derived.Test.YtihhfdkcggnjpaaF16l
import Derived.Test.YtihhfdkcggnjpaaF16k
import Derived.WalkKit
import Derived.ProofKit
import Derived.LoopTactic
import Derived.Outline
import Derived.WalkSpells
import Derived.WalkLawsBesides
import Derived.Lib.Hide
import Derived.Deep.LoopGhost
import Derived.Deep.QuietTactic
import Derived.BigQuiet
import Derived.ShutString
import Derived.IntWalk
import Derived.Deep.RegionWith
import Derived.Deep.RegionHeld3
namespace Go.Proofs.Ytihhfdkcggnjpaa
open Go.ChangeShapes Go.WideShapes Go.ChangeAt Go.RowKit
open Bal
set_option linter.unusedVariables false
set_option linter.unusedSimpArgs false
theorem accNew_any (x : Bool) (w : World) : Calls Try.prog 50 #[.bool x] w fun e w' => e = .returned (.pointer (some ⟨w.heap.size, 0, none⟩)) ∧ w' = w.alloc (.cells #[.bool x, .int .u64 0, .int .i64 0, .int .i64 0, .slice none 0 0, .int .i64 0, .int .i64 0] 150) := by
  go_enter Try.func50, Try.ntmps50
  go_wp2
  go_ret
  exact ⟨rfl, rfl⟩
set_option maxRecDepth 100000 in
set_option maxHeartbeats 1000000 in
theorem isLate_any {b : Nat} {x0 x3 v x5 x6 : Value} {pc pn : Int} (c n : Int) (w : World) (h : Blk w b #[x0, .int .u64 pc, .int .i64 pn, x3, v, x5, x6] 150) :
    Calls Try.prog 88 #[.pointer (some ⟨b, 0, none⟩), .agg #[.int .u64 c, .int .i64 n]] w fun e w' => e = .returned (.bool (decide (cmpB c n pc pn < 0))) ∧ Gr w w' := by
  have HC := Lib.hid (fun w => compareB_any c n pc pn w)
  have HB := Lib.hid (Blk.new w #[.int .u64 c, .int .i64 n] 50)
  have HG := Lib.hid ((Gr.refl w).alloc (.cells #[.int .u64 c, .int .i64 n] 50))
  have HA := Lib.hid (h.gr HG.out)
  clear h
  generalize cmpB c n pc pn = z at *
  go_enter Try.func88, Try.ntmps88
  go_wp2_with fail
  generalize w.alloc (.cells #[.int .u64 c, .int .i64 n] 50) = wa at *
  generalize w.heap.size = p3 at *
  have c0 := HB.out.cell (i := 0) rfl
  have c1 := HB.out.cell (i := 1) rfl
  have a1 := HA.out.cell (i := 1) rfl
  have a2 := HA.out.cell (i := 2) rfl
  refine wp_region_held_drew (S := (fun w9 => Gr wa w9 ∧ w9.cell? ⟨p3, 0, none⟩ = some (.int .u64 c) ∧ w9.cell? ⟨p3, 1, none⟩ = some (.int .i64 n) ∧ w9.cell? ⟨b, 1, none⟩ = some (.int .u64 pc) ∧ w9.cell? ⟨b, 2, none⟩ = some (.int .i64 pn))) (by kernel_rfl) ?inva (fun h0 => ?_)
  case inva => ((try dsimp only); (exact ⟨(by first | exact Gr.refl _ | exact (Gr.refl _).drew), c0, c1, a1, a2⟩))
  refine wpAnyH_take (i := 0) (oi := { dst := some 5, op := Go.Op.load 50 (Go.Operand.tmp 3), type := 50, pos := "accept.go:70", after := #[], guard := none }) (v := ?va1) rfl (by kernel_rfl) (by kernel_rfl) (by kernel_rfl) (fun _ _ _ h => h) (Or.inl ⟨by rfl, ?ra1⟩) (by assumption) ?_
  case ra1 => (intro w hSw; (try dsimp only at hSw); (go_simp <;> with_reducible rfl))
  try simp only [Act.put, List.setIfInBounds_toArray, List.set_cons_zero, List.set_cons_succ]
  refine wpAnyH_take (i := 1) (oi := { dst := some 6, op := Go.Op.move (Go.Operand.tmp 0), type := 66, pos := "accept.go:70", after := #[], guard := none }) (v := ?va2) rfl (by kernel_rfl) (by kernel_rfl) (by kernel_rfl) (fun _ _ _ h => h) (Or.inl ⟨by rfl, ?ra2⟩) (by assumption) ?_
  case ra2 => (intro w hSw; (try dsimp only at hSw); (go_simp <;> with_reducible rfl))
  try simp only [Act.put, List.setIfInBounds_toArray, List.set_cons_zero, List.set_cons_succ]
  refine wpAnyH_take (i := 2) (oi := { dst := some 7, op := Go.Op.nilCheck (Go.Operand.tmp 6), type := 0, pos := "accept.go:70", after := #[{ on := 1, ground := Go.Ground.data }], guard := none }) (v := ?va3) rfl (by kernel_rfl) (by kernel_rfl) (by kernel_rfl) (fun _ _ _ h => h) (Or.inl ⟨by rfl, ?ra3⟩) (by assumption) ?_
  case ra3 => (intro w hSw; (try dsimp only at hSw); (go_simp <;> with_reducible rfl))
  try simp only [Act.put, List.setIfInBounds_toArray, List.set_cons_zero, List.set_cons_succ]
  refine wpAnyH_take (i := 3) (oi := { dst := some 8, op := Go.Op.fieldAddr 150 (Go.Operand.tmp 7) 1, type := 0, pos := "accept.go:70", after := #[{ on := 2, ground := Go.Ground.data }], guard := none }) (v := ?va4) rfl (by kernel_rfl) (by kernel_rfl) (by kernel_rfl) (fun _ _ _ h => h) (Or.inl ⟨by rfl, ?ra4⟩) (by assumption) ?_
  case ra4 => (intro w hSw; (try dsimp only at hSw); (go_simp <;> with_reducible rfl))
  try simp only [Act.put, List.setIfInBounds_toArray, List.set_cons_zero, List.set_cons_succ]
  refine wpAnyH_take (i := 4) (oi := { dst := some 9, op := Go.Op.load 50 (Go.Operand.tmp 8), type := 50, pos := "accept.go:70", after := #[{ on := 3, ground := Go.Ground.data }], guard := none }) (v := ?va5) rfl (by kernel_rfl) (by kernel_rfl) (by kernel_rfl) (fun _ _ _ h => h) (Or.inl ⟨by rfl, ?ra5⟩) (by assumption) ?_
  case ra5 => (intro w hSw; (try dsimp only at hSw); (go_simp <;> with_reducible rfl))
  try simp only [Act.put, List.setIfInBounds_toArray, List.set_cons_zero, List.set_cons_succ]
  refine wpAnyH_ready (rs := [5]) (by kernel_rfl) (by simp) ?_
  refine AllReadyH.cons (o := { dst := some 10, op := Go.Op.call { callee := Go.Callee.value (Go.Operand.func 84), args := #[Go.Operand.tmp 5, Go.Operand.tmp 9], argTypes := #[50, 50] }, type := 3, pos := "accept.go:70", after := #[{ on := 0, ground := Go.Ground.data }, { on := 4, ground := Go.Ground.data }], guard := none }) rfl (fun K hK => ?_) AllReadyH.nil
  go_simp
  go_at_call 84
  refine (HC.out _).mono ?_
  rintro e w9 ⟨rfl, hg9⟩
  first | refine hK.out _ _ ?sa6 (fun h6 => ?_) | (go_wp2_with fail; refine hK.out _ _ ?sa6 (fun h6 => ?_))
  case sa6 => ((try dsimp only); (exact ⟨h0.1.trans hg9, hg9.cell h0.2.1, hg9.cell h0.2.2.1, hg9.cell h0.2.2.2.1, hg9.cell h0.2.2.2.2⟩))
  clear hK K h0
  try simp only [Act.put, List.setIfInBounds_toArray, List.set_cons_zero, List.set_cons_succ]
  refine wpAnyH_take (i := 6) (oi := { dst := some 11, op := Go.Op.binOp Go.BinOp.lss 3 (Go.Operand.tmp 10) (Go.Operand.const (Go.Value.int Go.IntKind.i64 0)) 3, type := 4, pos := "accept.go:70", after := #[{ on := 5, ground := Go.Ground.data }], guard := none }) (v := ?va7) rfl (by kernel_rfl) (by kernel_rfl) (by kernel_rfl) (fun _ _ _ h => h) (Or.inl ⟨by rfl, ?ra7⟩) (by assumption) ?_
  case ra7 => (intro w hSw; (try dsimp only at hSw); (go_simp <;> with_reducible rfl))
  try simp only [Act.put, List.setIfInBounds_toArray, List.set_cons_zero, List.set_cons_succ]
  refine wpAnyH_take (i := 7) (oi := { dst := some 4, op := Go.Op.assign (Go.Operand.tmp 11), type := 4, pos := "accept.go:70", after := #[{ on := 6, ground := Go.Ground.data }, { on := 5, ground := Go.Ground.chain }, { on := 0, ground := Go.Ground.phase }, { on := 1, ground := Go.Ground.phase }, { on := 2, ground := Go.Ground.phase }, { on := 3, ground := Go.Ground.phase }, { on := 4, ground := Go.Ground.phase }, { on := 5, ground := Go.Ground.phase }, { on := 6, ground := Go.Ground.phase }], guard := none }) (v := ?va8) rfl (by kernel_rfl) (by kernel_rfl) (by kernel_rfl) (fun _ _ _ h => h) (Or.inl ⟨by rfl, ?ra8⟩) (by assumption) ?_
  case ra8 => (intro w hSw; (try dsimp only at hSw); (go_simp <;> with_reducible rfl))
  try simp only [Act.put, List.setIfInBounds_toArray, List.set_cons_zero, List.set_cons_succ]
  refine wpAnyH_done (by kernel_rfl) ?_ _
  have QG := Lib.hid h6.1
  clear h6
  go_wp2
  go_ret
  exact ⟨rfl, HG.out.trans QG.out⟩
set_option maxRecDepth 100000 in
set_option maxHeartbeats 1000000 in
theorem refuse_any {b : Nat} {x0 x3 v x5 x6 : Value} {pc pn : Int} (w : World) (h : Blk w b #[x0, .int .u64 pc, .int .i64 pn, x3, v, x5, x6] 150) :
    Calls Try.prog 89 #[.pointer (some ⟨b, 0, none⟩)] w fun e w' => e = .returned (.agg #[.int .i64 5, .int .i64 0, .int .i64 0, .int .i64 0, .int .u64 pc, .int .i64 pn, .int .i64 0, .int .i64 0, .bool false, .string ⟨#[]⟩, .slice none 0 0]) ∧ Gr w w' := by
  have HA := Lib.hid (h.gr ((Gr.refl w).alloc (.cells #[.int .i64 0, .int .i64 0, .int .i64 0, .int .i64 0, .int .u64 0, .int .i64 0, .int .i64 0, .int .i64 0, .bool false, .string ⟨#[]⟩, .slice none 0 0] 69)))
  have a1 : (w.alloc (.cells #[.int .i64 0, .int .i64 0, .int .i64 0, .int .i64 0, .int .u64 0, .int .i64 0, .int .i64 0, .int .i64 0, .bool false, .string ⟨#[]⟩, .slice none 0 0] 69)).cell? ⟨b, 1, none⟩ = some (.int .u64 pc) := HA.out.cell (i := 1) rfl
  have a2 : (w.alloc (.cells #[.int .i64 0, .int .i64 0, .int .i64 0, .int .i64 0, .int .u64 0, .int .i64 0, .int .i64 0, .int .i64 0, .bool false, .string ⟨#[]⟩, .slice none 0 0] 69)).cell? ⟨b, 2, none⟩ = some (.int .i64 pn) := HA.out.cell (i := 2) rfl
  go_enter Try.func89, Try.ntmps89
  go_wp2
  exact bodyPost_ret (v := .agg #[.int .i64 5, .int .i64 0, .int .i64 0, .int .i64 0, .int .u64 pc, .int .i64 pn, .int .i64 0, .int .i64 0, .bool false, .string ⟨#[]⟩, .slice none 0 0]) (by simp [results, Try.results89, go_sem]) rfl ⟨rfl, (Gr.refl _).alloc _⟩
set_option maxRecDepth 100000 in
set_option maxHeartbeats 1000000 in
theorem find_any {base b : Nat} {x0 x3 v x5 x6 : Value} {pc pn : Int} (x : Int) (L : List E) (w : World) (h : Blk w b #[x0, .int .u64 pc, .int .i64 pn, x3, v, x5, x6] 150) (hr : w.ownsRow base 159 4 v L.length (rcells encE L)) (hl : L.length ≤ 1000) (ha : Asc L) :
    Calls Try.prog 91 #[.pointer (some ⟨b, 0, none⟩), .int .i64 x] w fun e w' => ∃ (i : Nat) (fd : Bool), e = .returned (.tuple #[.int .i64 i, .bool fd]) ∧ i ≤ L.length ∧ Cut16 L x i i ∧ (fd = true ↔ ∃ h : i < L.length, L[i].slot = x) ∧ Gr w w' := by
  have a4 := h.cell (i := 4) rfl
  have HS := Lib.hid (bsE_any x L w hr hl ha)
  obtain ⟨a, c, rfl, _⟩ := ownsRow_slice hr
  clear hr
  go_enter Try.func91, Try.ntmps91
  go_wp2_with fail
  refine HS.out.mono ?_
  rintro e w1 ⟨i, fd, rfl, hi, hc, hf, hg⟩
  have HI := Lib.hid (And.intro hi (And.intro hc (And.intro hf hg)))
  clear hi hc hf hg
  go_wp2
  refine bodyPost_ret (v := .tuple #[.int .i64 (i : Nat), .bool fd]) (by simp [results, Try.results91, go_sem]; try rfl) rfl ?_
  exact ⟨i, fd, rfl, HI.out.1, HI.out.2.1, HI.out.2.2.1, HI.out.2.2.2⟩
end Go.Proofs.Ytihhfdkcggnjpaa
