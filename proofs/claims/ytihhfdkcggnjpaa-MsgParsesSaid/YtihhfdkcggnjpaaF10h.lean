import Derived.Test.YtihhfdkcggnjpaaF10g
import Derived.Test.YtihhfdkcggnjpaaK6
import Derived.WalkKit
import Derived.ProofKit
import Derived.LoopTactic
import Derived.Outline
import Derived.WalkSpells
import Derived.WalkLawsBesides
import Derived.Lib.Hide
import Derived.Deep.LoopGhost
import Derived.Deep.QuietTactic
import Derived.BigQuiet
import Derived.ShutString
import Derived.IntWalk
import Derived.Deep.RegionHeld3
namespace Go.Proofs.Ytihhfdkcggnjpaa
open Go.ChangeShapes Go.WideShapes Go.ChangeAt Go.RowKit
set_option linter.unusedVariables false
set_option linter.unusedSimpArgs false
def inL (frm tt sub : Int) (c n : Nat) (slot time : Int) (ok : Bool) (text : ByteArray) (L : List E) : ByteArray := ofL (inHead frm tt sub c n slot time ok text L.length ++ L.flatMap insE)
theorem inL_size (frm tt sub : Int) (c n : Nat) (slot time : Int) (ok : Bool) (text : ByteArray) (L : List E) (hl : L.length ≤ 100) (ht : text.size ≤ 1000) (hE : ∀ y ∈ L, EOk y) : (inL frm tt sub c n slot time ok text L).size ≤ 200000 := by
  unfold inL
  rw [ofL_size, List.length_append]
  have h1 := inHead_le frm tt sub c n slot time ok text L.length ht
  have h2 := insL_le L (fun y hy => (hE y hy).2.2.2.2.2)
  omega
set_option maxRecDepth 100000 in
set_option maxHeartbeats 4000000 in
theorem refBytes_any {base : Nat} {a : Option Addr} {q : Nat} (kd : Nat) (frm tt sub : Int) (c n : Nat) (slot time : Int) (ok : Bool) (text : ByteArray) (L : List E) (w : World) (h : w.ownsRow base 164 4 (.slice a L.length q) L.length (rcells encE L)) (hl : L.length ≤ 100) (hk : kd < 256)
    (w0 : (Lit.int .i64 frm).wf = true) (w1 : (Lit.int .i64 tt).wf = true) (w2 : (Lit.int .i64 sub).wf = true) (w3 : (Lit.int .i64 slot).wf = true) (w4 : (Lit.int .i64 time).wf = true) (hc : c < 18446744073709551616) (hn : n ≤ 11) (ht : text.size ≤ 1000) (hE : ∀ y ∈ L, EOk y) :
    Calls Try.prog 44 #[.agg #[.int .i64 (kd : Nat), .int .i64 frm, .int .i64 tt, .int .i64 sub, .int .u64 (c : Nat), .int .i64 (n : Nat), .int .i64 slot, .int .i64 time, .bool ok, .string text, .slice a L.length q]] w fun e w' => e = .returned (.string (rframe kd (inL frm tt sub c n slot time ok text L))) ∧ Gr w w' := by
  have HA := Lib.hid ((Gr.refl w).alloc (.cells #[.int .i64 (kd : Nat), .int .i64 frm, .int .i64 tt, .int .i64 sub, .int .u64 (c : Nat), .int .i64 (n : Nat), .int .i64 slot, .int .i64 time, .bool ok, .string text, .slice a L.length q] 81))
  have CI := Lib.hid fun w9 (hg : Gr w w9) => inside_any (kd : Int) frm tt sub c n slot time ok text L w9 (ownsRow_gr hg h) hl w0 w1 w2 w3 w4 hc hn ht hE
  have hz := inL_size frm tt sub c n slot time ok text L hl ht hE
  change Hid (∀ w9, Gr w w9 → Calls Try.prog 103 #[.agg #[.int .i64 (kd : Nat), .int .i64 frm, .int .i64 tt, .int .i64 sub, .int .u64 (c : Nat), .int .i64 (n : Nat), .int .i64 slot, .int .i64 time, .bool ok, .string text, .slice a L.length q]] w9 fun e w' => e = .returned (.string (inL frm tt sub c n slot time ok text L)) ∧ Gr w9 w') at CI
  generalize inL frm tt sub c n slot time ok text L = X at *
  have CF := Lib.hid fun w => rframe_any kd X w hk (by omega)
  have HWR := Lib.hid (show IntKind.u8.wrap (kd : Int) = kd by simp [IntKind.wrap, IntKind.bits, IntKind.signed]; omega)
  generalize rframe kd X = Y at *
  clear h hl w0 w1 w2 w3 w4 hc hn ht hE
  go_enter Try.func44, Try.ntmps44
  go_wp2
  have hzz := Gr.refl (w.alloc (.cells #[.int .i64 (kd : Nat), .int .i64 frm, .int .i64 tt, .int .i64 sub, .int .u64 (c : Nat), .int .i64 (n : Nat), .int .i64 slot, .int .i64 time, .bool ok, .string text, .slice a L.length q] 81))
  have k0 := hzz.own.1 0 _ rfl
  have k1 := hzz.own.1 1 _ rfl
  have k2 := hzz.own.1 2 _ rfl
  have k3 := hzz.own.1 3 _ rfl
  have k4 := hzz.own.1 4 _ rfl
  have k5 := hzz.own.1 5 _ rfl
  have k6 := hzz.own.1 6 _ rfl
  have k7 := hzz.own.1 7 _ rfl
  have k8 := hzz.own.1 8 _ rfl
  have k9 := hzz.own.1 9 _ rfl
  have k10 := hzz.own.1 10 _ rfl
  clear hzz
  generalize w.heap.size = b at *
  generalize w.alloc (.cells #[.int .i64 (kd : Nat), .int .i64 frm, .int .i64 tt, .int .i64 sub, .int .u64 (c : Nat), .int .i64 (n : Nat), .int .i64 slot, .int .i64 time, .bool ok, .string text, .slice a L.length q] 81) = wz at *
  have HX1 : Hid (∀ w0 w9 : World, Gr w0 w9 → (fun w9 => Gr wz w9 ∧ w9.cell? ⟨b, 0, none⟩ = some (.int .i64 (kd : Nat)) ∧ w9.cell? ⟨b, 1, none⟩ = some (.int .i64 frm) ∧ w9.cell? ⟨b, 2, none⟩ = some (.int .i64 tt) ∧ w9.cell? ⟨b, 3, none⟩ = some (.int .i64 sub) ∧ w9.cell? ⟨b, 4, none⟩ = some (.int .u64 (c : Nat)) ∧ w9.cell? ⟨b, 5, none⟩ = some (.int .i64 (n : Nat)) ∧ w9.cell? ⟨b, 6, none⟩ = some (.int .i64 slot) ∧ w9.cell? ⟨b, 7, none⟩ = some (.int .i64 time) ∧ w9.cell? ⟨b, 8, none⟩ = some (.bool ok) ∧ w9.cell? ⟨b, 9, none⟩ = some (.string text) ∧ w9.cell? ⟨b, 10, none⟩ = some (.slice a L.length q)) w0 → (fun w9 => Gr wz w9 ∧ w9.cell? ⟨b, 0, none⟩ = some (.int .i64 (kd : Nat)) ∧ w9.cell? ⟨b, 1, none⟩ = some (.int .i64 frm) ∧ w9.cell? ⟨b, 2, none⟩ = some (.int .i64 tt) ∧ w9.cell? ⟨b, 3, none⟩ = some (.int .i64 sub) ∧ w9.cell? ⟨b, 4, none⟩ = some (.int .u64 (c : Nat)) ∧ w9.cell? ⟨b, 5, none⟩ = some (.int .i64 (n : Nat)) ∧ w9.cell? ⟨b, 6, none⟩ = some (.int .i64 slot) ∧ w9.cell? ⟨b, 7, none⟩ = some (.int .i64 time) ∧ w9.cell? ⟨b, 8, none⟩ = some (.bool ok) ∧ w9.cell? ⟨b, 9, none⟩ = some (.string text) ∧ w9.cell? ⟨b, 10, none⟩ = some (.slice a L.length q)) w9) := Lib.hid fun w0 w9 hg ⟨h, q0, q1, q2, q3, q4, q5, q6, q7, q8, q9, q10⟩ => ⟨h.trans hg, hg.cell q0, hg.cell q1, hg.cell q2, hg.cell q3, hg.cell q4, hg.cell q5, hg.cell q6, hg.cell q7, hg.cell q8, hg.cell q9, hg.cell q10⟩
  have HS1 := And.intro (Gr.refl wz) (And.intro (k0) (And.intro (k1) (And.intro (k2) (And.intro (k3) (And.intro (k4) (And.intro (k5) (And.intro (k6) (And.intro (k7) (And.intro (k8) (And.intro (k9) (k10)))))))))))
  clear k0 k1 k2 k3 k4 k5 k6 k7 k8 k9 k10
  refine wp_region_held_drew (S := (fun w9 => Gr wz w9 ∧ w9.cell? ⟨b, 0, none⟩ = some (.int .i64 (kd : Nat)) ∧ w9.cell? ⟨b, 1, none⟩ = some (.int .i64 frm) ∧ w9.cell? ⟨b, 2, none⟩ = some (.int .i64 tt) ∧ w9.cell? ⟨b, 3, none⟩ = some (.int .i64 sub) ∧ w9.cell? ⟨b, 4, none⟩ = some (.int .u64 (c : Nat)) ∧ w9.cell? ⟨b, 5, none⟩ = some (.int .i64 (n : Nat)) ∧ w9.cell? ⟨b, 6, none⟩ = some (.int .i64 slot) ∧ w9.cell? ⟨b, 7, none⟩ = some (.int .i64 time) ∧ w9.cell? ⟨b, 8, none⟩ = some (.bool ok) ∧ w9.cell? ⟨b, 9, none⟩ = some (.string text) ∧ w9.cell? ⟨b, 10, none⟩ = some (.slice a L.length q))) (by kernel_rfl) ?inva (fun h0 => ?_)
  case inva => ((try dsimp only); (first | exact HS1 | exact HX1.out _ _ ((Gr.refl _).drew) HS1))
  refine wpAnyH_take (i := 0) (oi := { dst := some 3, op := Go.Op.fieldAddr 81 (Go.Operand.tmp 1) 0, type := 0, pos := "ref.go:74", after := #[], guard := none }) (v := ?va1) rfl (by kernel_rfl) (by kernel_rfl) (by kernel_rfl) (fun _ _ _ h => h) (Or.inl ⟨by rfl, ?ra1⟩) (by assumption) ?_
  case ra1 => (intro w hSw; (try dsimp only at hSw); (go_simp <;> with_reducible rfl))
  try simp only [Act.put, List.setIfInBounds_toArray, List.set_cons_zero, List.set_cons_succ]
  refine wpAnyH_take (i := 1) (oi := { dst := some 4, op := Go.Op.load 3 (Go.Operand.tmp 3), type := 3, pos := "ref.go:74", after := #[{ on := 0, ground := Go.Ground.data }], guard := none }) (v := ?va2) rfl (by kernel_rfl) (by kernel_rfl) (by kernel_rfl) (fun _ _ _ h => h) (Or.inl ⟨by rfl, ?ra2⟩) (by assumption) ?_
  case ra2 => (intro w hSw; (try dsimp only at hSw); (go_simp <;> with_reducible rfl))
  try simp only [Act.put, List.setIfInBounds_toArray, List.set_cons_zero, List.set_cons_succ]
  refine wpAnyH_take (i := 2) (oi := { dst := some 5, op := Go.Op.convert 3 5 (Go.Operand.tmp 4), type := 5, pos := "ref.go:74", after := #[{ on := 1, ground := Go.Ground.data }], guard := none }) (v := (.int .u8 (kd : Nat))) rfl (by kernel_rfl) (by kernel_rfl) (by kernel_rfl) (fun _ _ _ h => h) (Or.inl ⟨by rfl, ?ra3⟩) (by assumption) ?_
  case ra3 => (intro w hSw; (try dsimp only at hSw); go_simp; first | (rw [HWR.out]; done) | (simp only [HWR.out]; done) | (rw [HWR.out]; rfl) | (trace_state; fail))
  try simp only [Act.put, List.setIfInBounds_toArray, List.set_cons_zero, List.set_cons_succ]
  refine wpAnyH_take (i := 3) (oi := { dst := some 6, op := Go.Op.load 81 (Go.Operand.tmp 1), type := 81, pos := "ref.go:74", after := #[], guard := none }) (v := ?va4) rfl (by kernel_rfl) (by kernel_rfl) (by kernel_rfl) (fun _ _ _ h => h) (Or.inl ⟨by rfl, ?ra4⟩) (by assumption) ?_
  case ra4 => (intro w hSw; (try dsimp only at hSw); (go_simp <;> with_reducible rfl))
  try simp only [Act.put, List.setIfInBounds_toArray, List.set_cons_zero, List.set_cons_succ]
  refine wpAnyH_ready (rs := [4]) (by kernel_rfl) (by simp) ?_
  refine AllReadyH.cons (o := { dst := some 7, op := Go.Op.call { callee := Go.Callee.value (Go.Operand.func 103), args := #[Go.Operand.tmp 6], argTypes := #[81] }, type := 9, pos := "ref.go:74", after := #[{ on := 3, ground := Go.Ground.data }], guard := none }) rfl (fun K hK => ?_) AllReadyH.nil
  go_simp
  (go_at_call 103; refine (CI.out _ (HA.out.trans (h0).1)).mono ?_; rintro e w9 ⟨rfl, hgN⟩)
  first | refine hK.out _ _ ?sa5 (fun h5 => ?_) | (go_wp2_with fail; refine hK.out _ _ ?sa5 (fun h5 => ?_))
  case sa5 => ((try dsimp only); exact HX1.out _ _ hgN h0)
  clear hK K h0
  try simp only [Act.put, List.setIfInBounds_toArray, List.set_cons_zero, List.set_cons_succ]
  refine wpAnyH_ready (rs := [5]) (by kernel_rfl) (by simp) ?_
  refine AllReadyH.cons (o := { dst := some 8, op := Go.Op.call { callee := Go.Callee.value (Go.Operand.func 113), args := #[Go.Operand.tmp 5, Go.Operand.tmp 7], argTypes := #[5, 9] }, type := 9, pos := "ref.go:74", after := #[{ on := 2, ground := Go.Ground.data }, { on := 4, ground := Go.Ground.data }, { on := 4, ground := Go.Ground.chain }], guard := none }) rfl (fun K hK => ?_) AllReadyH.nil
  go_simp
  (go_at_call 113; refine (CF.out _).mono ?_; rintro e w9 ⟨rfl, hgN⟩)
  first | refine hK.out _ _ ?sa6 (fun h6 => ?_) | (go_wp2_with fail; refine hK.out _ _ ?sa6 (fun h6 => ?_))
  case sa6 => ((try dsimp only); exact HX1.out _ _ hgN h5)
  clear hK K h5
  try simp only [Act.put, List.setIfInBounds_toArray, List.set_cons_zero, List.set_cons_succ]
  refine wpAnyH_take (i := 6) (oi := { dst := some 2, op := Go.Op.assign (Go.Operand.tmp 8), type := 9, pos := "ref.go:74", after := #[{ on := 5, ground := Go.Ground.data }, { on := 5, ground := Go.Ground.chain }, { on := 0, ground := Go.Ground.phase }, { on := 1, ground := Go.Ground.phase }, { on := 2, ground := Go.Ground.phase }, { on := 3, ground := Go.Ground.phase }, { on := 4, ground := Go.Ground.phase }, { on := 5, ground := Go.Ground.phase }], guard := none }) (v := ?va7) rfl (by kernel_rfl) (by kernel_rfl) (by kernel_rfl) (fun _ _ _ h => h) (Or.inl ⟨by rfl, ?ra7⟩) (by assumption) ?_
  case ra7 => (intro w hSw; (try dsimp only at hSw); (go_simp <;> with_reducible rfl))
  try simp only [Act.put, List.setIfInBounds_toArray, List.set_cons_zero, List.set_cons_succ]
  refine wpAnyH_done (by kernel_rfl) ?_ _
  have G9 := Lib.hid (h6).1
  clear h6
  go_wp2
  go_ret
  exact ⟨rfl, HA.out.trans G9.out⟩
end Go.Proofs.Ytihhfdkcggnjpaa
