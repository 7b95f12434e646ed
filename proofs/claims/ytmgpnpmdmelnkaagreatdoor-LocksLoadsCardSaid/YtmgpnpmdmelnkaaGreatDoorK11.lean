import Derived.Test.YtmgpnpmdmelnkaaGreatDoorF22E
import Derived.Test.YtmgpnpmdmelnkaaGreatDoorF22k
import Derived.Test.YtmgpnpmdmelnkaaGreatDoorF22i
import Derived.WalkKit
import Derived.ProofKit
import Derived.LoopTactic
import Derived.Outline
import Derived.WalkSpells
import Derived.WalkLawsBesides
import Derived.Lib.Hide
import Derived.Deep.LoopGhost
import Derived.Deep.QuietTactic
import Derived.BigQuiet
import Derived.ShutString
import Derived.IntWalk
import Derived.Lib.MinMax
import Derived.Deep.RegionWith
import Derived.Deep.RegionHeld3
import Derived.Test.YtmgpnpmdmelnkaaGreatDoorK9
namespace Go.Proofs.YtmgpnpmdmelnkaaGreatDoor
open Go.ChangeShapes Go.WideShapes Go.ChangeAt Go.RowKit
set_option linter.unusedVariables false
set_option linter.unusedSimpArgs false
variable {w0 w : World} {b : Nat} {v1 v2 : Value} {B : Bk}
noncomputable def waitB (B : Bk) (x : Lok) : Bool := decide (B.W.length < 8) && (roomB B x.ses && (decide (x.tok = 0) && (decide ((findB B x.ses x.txt).2 < 0) && (decide (B.last = 18446744073709551615) || !(freeB B.H B.W x)))))
set_option maxRecDepth 100000 in
set_option maxHeartbeats 8000000 in
theorem wait_any (x : Lok) (w : World) (h : BkIs w0 w b v1 v2 B) (hl : B.H.length + B.W.length ≤ 500) (hx : IsPath x.txt) (hH : ∀ y ∈ B.H, IsPath y.txt) (hW : ∀ y ∈ B.W, IsPath y.txt) :
    Calls Tryz.prog 36 #[.pointer (some ⟨b, 0, none⟩), .agg #[.int .i64 x.ses, .string x.txt, .bool x.ex, .int .u64 x.tok]] w fun e w' => e = .returned (.bool (waitB B x)) ∧ Gr w w' := by
  have HGW := Lib.hid ((Gr.refl w).alloc (.cells #[.int .i64 x.ses, .string x.txt, .bool x.ex, .int .u64 x.tok] 42))
  have HBX := Lib.hid (Blk.new w #[.int .i64 x.ses, .string x.txt, .bool x.ex, .int .u64 x.tok] 42)
  have c1 := HGW.out.cell (h.blk.cell (i := 1) rfl)
  have HRM := Lib.hid (fun w' (hg : Gr w w') => room_any x.ses w' (h.gr hg) hl)
  have HFD := Lib.hid (fun w' (hg : Gr w w') => bfind_any x.ses x.txt w' (h.gr hg) hl)
  have HEX := Lib.hid (fun w' (hg : Gr w w') => exhausted_any w' (h.gr hg))
  have HFR := Lib.hid (fun w' (hg : Gr w w') => bfree_any x B.W w' (h.gr hg) (by omega) (ownsRow_gr hg h.r2) (by omega) hx hH hW)
  obtain ⟨a2, k2, rfl, _⟩ := ownsRow_slice h.r2
  have HEQ : Hid (waitB B x = (decide (B.W.length < 8) && (roomB B x.ses && (decide (x.tok = 0) && (decide ((findB B x.ses x.txt).2 < 0) && (decide (B.last = 18446744073709551615) || !(freeB B.H B.W x))))))) := Lib.hid rfl
  have hn2 : B.W.length ≤ 500 := by omega
  generalize waitB B x = r at *
  generalize roomB B x.ses = rm at *
  generalize freeB B.H B.W x = fr at *
  generalize B.last = la at *
  obtain ⟨⟨fl, fi⟩, hfq⟩ : ∃ q, findB B x.ses x.txt = q := ⟨_, rfl⟩
  simp only [hfq] at HFD HEQ
  clear hfq
  generalize B.W.length = n2 at *
  obtain ⟨xs, xt, xe, xk⟩ := x
  simp only at HGW HBX c1 HRM HFD HEX HFR HEQ ⊢
  clear h hx hH hW hl
  have x0 := HBX.out.cell (i := 0) rfl
  have x1 := HBX.out.cell (i := 1) rfl
  have x2 := HBX.out.cell (i := 2) rfl
  have x3 := HBX.out.cell (i := 3) rfl
  go_enter Tryz.func36, Tryz.ntmps36
  go_upto_region 1 with fail
  generalize (w.alloc (.cells #[.int .i64 xs, .string xt, .bool xe, .int .u64 xk] 42)) = w2 at *
  by_cases h8 : n2 < 8
  · have d8 : decide (8 ≤ (n2 : Int)) = false := decide_eq_false (by omega)
    rw [decide_eq_true h8, Bool.true_and] at HEQ
    clear h8
    go_wp2_with fail
    refine (HRM.out _ HGW.out).mono ?_
    rintro e w3 ⟨rfl, hg3⟩
    have HG3 := Lib.hid hg3
    replace c1 := hg3.cell c1
    replace x0 := hg3.cell x0
    replace x1 := hg3.cell x1
    replace x2 := hg3.cell x2
    replace x3 := hg3.cell x3
    clear hg3 HRM
    cases rm
    · rw [Bool.false_and] at HEQ
      have HGE := Lib.hid (HGW.out.trans HG3.out)
      clear c1
      go_wp2
      go_ret
      exact ⟨(by rw [HEQ.out]; try rfl), HGE.out⟩
    · rw [Bool.true_and] at HEQ
      by_cases t0 : xk = 0
      · have e0 : (xk == 0) = true := by simpa using t0
        have e0' : (xk != 0) = false := by simpa using t0
        rw [decide_eq_true t0, Bool.true_and] at HEQ
        clear t0
        go_upto_region 3 with fail
        go_wp2_with fail
        refine (HFD.out _ (HGW.out.trans HG3.out)).mono ?_
        rintro e w5 ⟨rfl, hg5⟩
        have hga := hg5.trans ((Gr.refl w5).alloc (.cells #[.int .i64 fl.ses, .string fl.txt, .bool fl.ex, .int .u64 fl.tok] 42))
        have HG6 := Lib.hid (HG3.out.trans hga)
        replace c1 := hga.cell c1
        replace x0 := hga.cell x0
        replace x1 := hga.cell x1
        replace x2 := hga.cell x2
        replace x3 := hga.cell x3
        clear hg5 hga HFD
        go_upto_region 4 with fail
        generalize (w5.alloc (.cells #[.int .i64 fl.ses, .string fl.txt, .bool fl.ex, .int .u64 fl.tok] 42)) = w6 at *
        by_cases hf : fi < 0
        · have df : decide (0 ≤ fi) = false := decide_eq_false (by omega)
          rw [decide_eq_true hf, Bool.true_and] at HEQ
          clear hf
          go_upto_region 6 with fail
          have HX : Hid (∀ w0 w9 : World, Gr w0 w9 → (fun w9 => Gr w2 w9 ∧ w9.cell? ⟨b, 1, none⟩ = some (.slice a2 n2 k2) ∧ w9.cell? ⟨w.heap.size, 0, none⟩ = some (.int .i64 xs) ∧ w9.cell? ⟨w.heap.size, 1, none⟩ = some (.string xt) ∧ w9.cell? ⟨w.heap.size, 2, none⟩ = some (.bool xe) ∧ w9.cell? ⟨w.heap.size, 3, none⟩ = some (.int .u64 xk)) w0 → (fun w9 => Gr w2 w9 ∧ w9.cell? ⟨b, 1, none⟩ = some (.slice a2 n2 k2) ∧ w9.cell? ⟨w.heap.size, 0, none⟩ = some (.int .i64 xs) ∧ w9.cell? ⟨w.heap.size, 1, none⟩ = some (.string xt) ∧ w9.cell? ⟨w.heap.size, 2, none⟩ = some (.bool xe) ∧ w9.cell? ⟨w.heap.size, 3, none⟩ = some (.int .u64 xk)) w9) := Lib.hid fun w0 w9 hg ⟨h, q0, q1, q2, q3, q4⟩ => ⟨h.trans hg, hg.cell q0, hg.cell q1, hg.cell q2, hg.cell q3, hg.cell q4⟩
          by_cases hla : la = 18446744073709551615
          · have dl := decide_eq_true hla
            rw [dl] at HEX HEQ
            rw [Bool.true_or] at HEQ
            clear hla dl
            go_wp2_with fail
            refine wp_region_held_drew (S := (fun w9 => Gr w2 w9 ∧ w9.cell? ⟨b, 1, none⟩ = some (.slice a2 n2 k2) ∧ w9.cell? ⟨w.heap.size, 0, none⟩ = some (.int .i64 xs) ∧ w9.cell? ⟨w.heap.size, 1, none⟩ = some (.string xt) ∧ w9.cell? ⟨w.heap.size, 2, none⟩ = some (.bool xe) ∧ w9.cell? ⟨w.heap.size, 3, none⟩ = some (.int .u64 xk))) (by kernel_rfl) ?inva (fun h0 => ?_)
            case inva => ((try dsimp only); (exact HX.out _ _ ((Gr.refl _).drew) ⟨HG6.out, c1, x0, x1, x2, x3⟩))
            refine wpAnyH_take (i := 0) (oi := { dst := some 36, op := Go.Op.move (Go.Operand.tmp 0), type := 25, pos := "load.go:51", after := #[], guard := none }) (v := ?va1) rfl (by kernel_rfl) (by kernel_rfl) (by kernel_rfl) (fun _ _ _ h => h) (Or.inl ⟨by rfl, ?ra1⟩) (by assumption) ?_
            case ra1 => (intro w hSw; (try dsimp only at hSw); (go_simp <;> with_reducible rfl))
            try simp only [Act.put, List.setIfInBounds_toArray, List.set_cons_zero, List.set_cons_succ]
            refine wpAnyH_ready (rs := [1]) (by kernel_rfl) (by simp) ?_
            refine AllReadyH.cons (o := { dst := some 37, op := Go.Op.call { callee := Go.Callee.value (Go.Operand.func 44), args := #[Go.Operand.tmp 36], argTypes := #[25] }, type := 4, pos := "load.go:51", after := #[⟨0, .data⟩], guard := none }) rfl (fun K hK => ?_) AllReadyH.nil
            go_simp
            go_at_call 44
            refine (HEX.out _ (HGW.out.trans h0.1)).mono ?_
            rintro e w9 ⟨rfl, rfl⟩
            first | refine hK.out _ _ ?sa2 (fun h2 => ?_) | (go_wp2_with fail; refine hK.out _ _ ?sa2 (fun h2 => ?_))
            case sa2 => ((try dsimp only); (first | exact HX.out _ _ hgN h0 | exact h0))
            clear hK K h0
            try simp only [Act.put, List.setIfInBounds_toArray, List.set_cons_zero, List.set_cons_succ]
            refine wpAnyH_take (i := 2) (oi := { dst := some 38, op := Go.Op.move (Go.Operand.tmp 37), type := 4, pos := "load.go:51", after := #[⟨1, .data⟩, ⟨1, .chain⟩], guard := none }) (v := ?va3) rfl (by kernel_rfl) (by kernel_rfl) (by kernel_rfl) (fun _ _ _ h => h) (Or.inl ⟨by rfl, ?ra3⟩) (by assumption) ?_
            case ra3 => (intro w hSw; (try dsimp only at hSw); (go_simp <;> with_reducible rfl))
            try simp only [Act.put, List.setIfInBounds_toArray, List.set_cons_zero, List.set_cons_succ]
            refine wpAnyH_take (i := 3) (oi := { dst := some 39, op := Go.Op.move (Go.Operand.tmp 0), type := 25, pos := "load.go:51", after := #[⟨2, .guard⟩], guard := some (2, false) }) (v := undef) rfl (by kernel_rfl) (by kernel_rfl) (by kernel_rfl) (fun _ _ _ h => h) (Or.inr ⟨by rfl, rfl⟩) (by assumption) ?_
            try simp only [Act.put, List.setIfInBounds_toArray, List.set_cons_zero, List.set_cons_succ]
            refine wpAnyH_take (i := 4) (oi := { dst := some 40, op := Go.Op.load 42 (Go.Operand.tmp 3), type := 42, pos := "load.go:51", after := #[⟨2, .guard⟩], guard := some (2, false) }) (v := undef) rfl (by kernel_rfl) (by kernel_rfl) (by kernel_rfl) (fun _ _ _ h => h) (Or.inr ⟨by rfl, rfl⟩) (by assumption) ?_
            try simp only [Act.put, List.setIfInBounds_toArray, List.set_cons_zero, List.set_cons_succ]
            refine wpAnyH_take (i := 5) (oi := { dst := some 41, op := Go.Op.move (Go.Operand.tmp 0), type := 25, pos := "load.go:51", after := #[⟨2, .guard⟩], guard := some (2, false) }) (v := undef) rfl (by kernel_rfl) (by kernel_rfl) (by kernel_rfl) (fun _ _ _ h => h) (Or.inr ⟨by rfl, rfl⟩) (by assumption) ?_
            try simp only [Act.put, List.setIfInBounds_toArray, List.set_cons_zero, List.set_cons_succ]
            refine wpAnyH_take (i := 6) (oi := { dst := some 42, op := Go.Op.nilCheck (Go.Operand.tmp 41), type := 0, pos := "load.go:51", after := #[⟨5, .data⟩, ⟨2, .guard⟩], guard := some (2, false) }) (v := undef) rfl (by kernel_rfl) (by kernel_rfl) (by kernel_rfl) (fun _ _ _ h => h) (Or.inr ⟨by rfl, rfl⟩) (by assumption) ?_
            try simp only [Act.put, List.setIfInBounds_toArray, List.set_cons_zero, List.set_cons_succ]
            refine wpAnyH_take (i := 7) (oi := { dst := some 43, op := Go.Op.fieldAddr 69 (Go.Operand.tmp 42) 1, type := 0, pos := "load.go:51", after := #[⟨6, .data⟩, ⟨2, .guard⟩], guard := some (2, false) }) (v := undef) rfl (by kernel_rfl) (by kernel_rfl) (by kernel_rfl) (fun _ _ _ h => h) (Or.inr ⟨by rfl, rfl⟩) (by assumption) ?_
            try simp only [Act.put, List.setIfInBounds_toArray, List.set_cons_zero, List.set_cons_succ]
            refine wpAnyH_take (i := 8) (oi := { dst := some 44, op := Go.Op.load 37 (Go.Operand.tmp 43), type := 37, pos := "load.go:51", after := #[⟨7, .data⟩, ⟨2, .guard⟩], guard := some (2, false) }) (v := undef) rfl (by kernel_rfl) (by kernel_rfl) (by kernel_rfl) (fun _ _ _ h => h) (Or.inr ⟨by rfl, rfl⟩) (by assumption) ?_
            try simp only [Act.put, List.setIfInBounds_toArray, List.set_cons_zero, List.set_cons_succ]
            refine wpAnyH_take (i := 9) (oi := { dst := some 45, op := Go.Op.call { callee := Go.Callee.value (Go.Operand.func 42), args := #[Go.Operand.tmp 39, Go.Operand.tmp 40, Go.Operand.tmp 44], argTypes := #[25, 42, 37] }, type := 4, pos := "load.go:51", after := #[⟨3, .data⟩, ⟨4, .data⟩, ⟨8, .data⟩, ⟨2, .chain⟩, ⟨2, .guard⟩], guard := some (2, false) }) (v := undef) rfl (by kernel_rfl) (by kernel_rfl) (by kernel_rfl) (fun _ _ _ h => h) (Or.inr ⟨by rfl, rfl⟩) (by assumption) ?_
            try simp only [Act.put, List.setIfInBounds_toArray, List.set_cons_zero, List.set_cons_succ]
            refine wpAnyH_take (i := 10) (oi := { dst := some 46, op := Go.Op.unOp Go.UnOp.not 4 (Go.Operand.tmp 45), type := 4, pos := "load.go:51", after := #[⟨9, .data⟩, ⟨2, .guard⟩], guard := some (2, false) }) (v := undef) rfl (by kernel_rfl) (by kernel_rfl) (by kernel_rfl) (fun _ _ _ h => h) (Or.inr ⟨by rfl, rfl⟩) (by assumption) ?_
            try simp only [Act.put, List.setIfInBounds_toArray, List.set_cons_zero, List.set_cons_succ]
            refine wpAnyH_take (i := 11) (oi := { dst := some 47, op := Go.Op.pick (Go.Operand.tmp 38) (Go.Operand.const (Go.Value.bool true)) (Go.Operand.tmp 46), type := 4, pos := "load.go:51", after := #[⟨2, .data⟩, ⟨10, .data⟩], guard := none }) (v := ?va4) rfl (by kernel_rfl) (by kernel_rfl) (by kernel_rfl) (fun _ _ _ h => h) (Or.inl ⟨by rfl, ?ra4⟩) (by assumption) ?_
            case ra4 => (intro w hSw; (try dsimp only at hSw); (go_simp <;> with_reducible rfl))
            try simp only [Act.put, List.setIfInBounds_toArray, List.set_cons_zero, List.set_cons_succ]
            refine wpAnyH_take (i := 12) (oi := { dst := some 4, op := Go.Op.assign (Go.Operand.tmp 47), type := 4, pos := "load.go:51", after := #[⟨11, .data⟩, ⟨9, .chain⟩, ⟨0, .phase⟩, ⟨1, .phase⟩, ⟨2, .phase⟩, ⟨3, .phase⟩, ⟨4, .phase⟩, ⟨5, .phase⟩, ⟨6, .phase⟩, ⟨7, .phase⟩, ⟨8, .phase⟩, ⟨9, .phase⟩, ⟨10, .phase⟩, ⟨11, .phase⟩], guard := none }) (v := ?va5) rfl (by kernel_rfl) (by kernel_rfl) (by kernel_rfl) (fun _ _ _ h => h) (Or.inl ⟨by rfl, ?ra5⟩) (by assumption) ?_
            case ra5 => (intro w hSw; (try dsimp only at hSw); (go_simp <;> with_reducible rfl))
            try simp only [Act.put, List.setIfInBounds_toArray, List.set_cons_zero, List.set_cons_succ]
            refine wpAnyH_done (by kernel_rfl) ?_ _
            have HG4 := Lib.hid (HGW.out.trans h2.1)
            clear h2 c1 x0 x1 x2 x3
            go_wp2
            go_ret
            exact ⟨(by rw [HEQ.out]; try simp), HG4.out⟩
          · have dl := decide_eq_false hla
            rw [dl] at HEX HEQ
            rw [Bool.false_or] at HEQ
            clear hla dl
            go_wp2_with fail
            refine wp_region_held_drew (S := (fun w9 => Gr w2 w9 ∧ w9.cell? ⟨b, 1, none⟩ = some (.slice a2 n2 k2) ∧ w9.cell? ⟨w.heap.size, 0, none⟩ = some (.int .i64 xs) ∧ w9.cell? ⟨w.heap.size, 1, none⟩ = some (.string xt) ∧ w9.cell? ⟨w.heap.size, 2, none⟩ = some (.bool xe) ∧ w9.cell? ⟨w.heap.size, 3, none⟩ = some (.int .u64 xk))) (by kernel_rfl) ?invb (fun h0 => ?_)
            case invb => ((try dsimp only); (exact HX.out _ _ ((Gr.refl _).drew) ⟨HG6.out, c1, x0, x1, x2, x3⟩))
            refine wpAnyH_take (i := 0) (oi := { dst := some 36, op := Go.Op.move (Go.Operand.tmp 0), type := 25, pos := "load.go:51", after := #[], guard := none }) (v := ?vb1) rfl (by kernel_rfl) (by kernel_rfl) (by kernel_rfl) (fun _ _ _ h => h) (Or.inl ⟨by rfl, ?rb1⟩) (by assumption) ?_
            case rb1 => (intro w hSw; (try dsimp only at hSw); (go_simp <;> with_reducible rfl))
            try simp only [Act.put, List.setIfInBounds_toArray, List.set_cons_zero, List.set_cons_succ]
            refine wpAnyH_ready (rs := [1]) (by kernel_rfl) (by simp) ?_
            refine AllReadyH.cons (o := { dst := some 37, op := Go.Op.call { callee := Go.Callee.value (Go.Operand.func 44), args := #[Go.Operand.tmp 36], argTypes := #[25] }, type := 4, pos := "load.go:51", after := #[⟨0, .data⟩], guard := none }) rfl (fun K hK => ?_) AllReadyH.nil
            go_simp
            go_at_call 44
            refine (HEX.out _ (HGW.out.trans h0.1)).mono ?_
            rintro e w9 ⟨rfl, rfl⟩
            first | refine hK.out _ _ ?sb2 (fun h2 => ?_) | (go_wp2_with fail; refine hK.out _ _ ?sb2 (fun h2 => ?_))
            case sb2 => ((try dsimp only); (first | exact HX.out _ _ hgN h0 | exact h0))
            clear hK K h0
            try simp only [Act.put, List.setIfInBounds_toArray, List.set_cons_zero, List.set_cons_succ]
            refine wpAnyH_take (i := 2) (oi := { dst := some 38, op := Go.Op.move (Go.Operand.tmp 37), type := 4, pos := "load.go:51", after := #[⟨1, .data⟩, ⟨1, .chain⟩], guard := none }) (v := ?vb3) rfl (by kernel_rfl) (by kernel_rfl) (by kernel_rfl) (fun _ _ _ h => h) (Or.inl ⟨by rfl, ?rb3⟩) (by assumption) ?_
            case rb3 => (intro w hSw; (try dsimp only at hSw); (go_simp <;> with_reducible rfl))
            try simp only [Act.put, List.setIfInBounds_toArray, List.set_cons_zero, List.set_cons_succ]
            refine wpAnyH_take (i := 3) (oi := { dst := some 39, op := Go.Op.move (Go.Operand.tmp 0), type := 25, pos := "load.go:51", after := #[⟨2, .guard⟩], guard := some (2, false) }) (v := ?vb4) rfl (by kernel_rfl) (by kernel_rfl) (by kernel_rfl) (fun _ _ _ h => h) (Or.inl ⟨by rfl, ?rb4⟩) (by assumption) ?_
            case rb4 => (intro w hSw; (try dsimp only at hSw); (go_simp <;> with_reducible rfl))
            try simp only [Act.put, List.setIfInBounds_toArray, List.set_cons_zero, List.set_cons_succ]
            refine wpAnyH_take (i := 4) (oi := { dst := some 40, op := Go.Op.load 42 (Go.Operand.tmp 3), type := 42, pos := "load.go:51", after := #[⟨2, .guard⟩], guard := some (2, false) }) (v := ?vb5) rfl (by kernel_rfl) (by kernel_rfl) (by kernel_rfl) (fun _ _ _ h => h) (Or.inl ⟨by rfl, ?rb5⟩) (by assumption) ?_
            case rb5 => (intro w hSw; (try dsimp only at hSw); (go_simp <;> with_reducible rfl))
            try simp only [Act.put, List.setIfInBounds_toArray, List.set_cons_zero, List.set_cons_succ]
            refine wpAnyH_take (i := 5) (oi := { dst := some 41, op := Go.Op.move (Go.Operand.tmp 0), type := 25, pos := "load.go:51", after := #[⟨2, .guard⟩], guard := some (2, false) }) (v := ?vb6) rfl (by kernel_rfl) (by kernel_rfl) (by kernel_rfl) (fun _ _ _ h => h) (Or.inl ⟨by rfl, ?rb6⟩) (by assumption) ?_
            case rb6 => (intro w hSw; (try dsimp only at hSw); (go_simp <;> with_reducible rfl))
            try simp only [Act.put, List.setIfInBounds_toArray, List.set_cons_zero, List.set_cons_succ]
            refine wpAnyH_take (i := 6) (oi := { dst := some 42, op := Go.Op.nilCheck (Go.Operand.tmp 41), type := 0, pos := "load.go:51", after := #[⟨5, .data⟩, ⟨2, .guard⟩], guard := some (2, false) }) (v := ?vb7) rfl (by kernel_rfl) (by kernel_rfl) (by kernel_rfl) (fun _ _ _ h => h) (Or.inl ⟨by rfl, ?rb7⟩) (by assumption) ?_
            case rb7 => (intro w hSw; (try dsimp only at hSw); (go_simp <;> with_reducible rfl))
            try simp only [Act.put, List.setIfInBounds_toArray, List.set_cons_zero, List.set_cons_succ]
            refine wpAnyH_take (i := 7) (oi := { dst := some 43, op := Go.Op.fieldAddr 69 (Go.Operand.tmp 42) 1, type := 0, pos := "load.go:51", after := #[⟨6, .data⟩, ⟨2, .guard⟩], guard := some (2, false) }) (v := ?vb8) rfl (by kernel_rfl) (by kernel_rfl) (by kernel_rfl) (fun _ _ _ h => h) (Or.inl ⟨by rfl, ?rb8⟩) (by assumption) ?_
            case rb8 => (intro w hSw; (try dsimp only at hSw); (go_simp <;> with_reducible rfl))
            try simp only [Act.put, List.setIfInBounds_toArray, List.set_cons_zero, List.set_cons_succ]
            refine wpAnyH_take (i := 8) (oi := { dst := some 44, op := Go.Op.load 37 (Go.Operand.tmp 43), type := 37, pos := "load.go:51", after := #[⟨7, .data⟩, ⟨2, .guard⟩], guard := some (2, false) }) (v := ?vb9) rfl (by kernel_rfl) (by kernel_rfl) (by kernel_rfl) (fun _ _ _ h => h) (Or.inl ⟨by rfl, ?rb9⟩) (by assumption) ?_
            case rb9 => (intro w hSw; (try dsimp only at hSw); (go_simp <;> with_reducible rfl))
            try simp only [Act.put, List.setIfInBounds_toArray, List.set_cons_zero, List.set_cons_succ]
            refine wpAnyH_ready (rs := [9]) (by kernel_rfl) (by simp) ?_
            refine AllReadyH.cons (o := { dst := some 45, op := Go.Op.call { callee := Go.Callee.value (Go.Operand.func 42), args := #[Go.Operand.tmp 39, Go.Operand.tmp 40, Go.Operand.tmp 44], argTypes := #[25, 42, 37] }, type := 4, pos := "load.go:51", after := #[⟨3, .data⟩, ⟨4, .data⟩, ⟨8, .data⟩, ⟨2, .chain⟩, ⟨2, .guard⟩], guard := some (2, false) }) rfl (fun K hK => ?_) AllReadyH.nil
            go_simp
            go_at_call 42
            refine (HFR.out _ (HGW.out.trans h2.1)).mono ?_
            rintro e w9 ⟨rfl, hgN⟩
            first | refine hK.out _ _ ?sb10 (fun h10 => ?_) | (go_wp2_with fail; refine hK.out _ _ ?sb10 (fun h10 => ?_))
            case sb10 => ((try dsimp only); (first | exact HX.out _ _ hgN h2 | exact h2))
            clear hK K h2
            try simp only [Act.put, List.setIfInBounds_toArray, List.set_cons_zero, List.set_cons_succ]
            refine wpAnyH_take (i := 10) (oi := { dst := some 46, op := Go.Op.unOp Go.UnOp.not 4 (Go.Operand.tmp 45), type := 4, pos := "load.go:51", after := #[⟨9, .data⟩, ⟨2, .guard⟩], guard := some (2, false) }) (v := ?vb11) rfl (by kernel_rfl) (by kernel_rfl) (by kernel_rfl) (fun _ _ _ h => h) (Or.inl ⟨by rfl, ?rb11⟩) (by assumption) ?_
            case rb11 => (intro w hSw; (try dsimp only at hSw); (go_simp <;> with_reducible rfl))
            try simp only [Act.put, List.setIfInBounds_toArray, List.set_cons_zero, List.set_cons_succ]
            refine wpAnyH_take (i := 11) (oi := { dst := some 47, op := Go.Op.pick (Go.Operand.tmp 38) (Go.Operand.const (Go.Value.bool true)) (Go.Operand.tmp 46), type := 4, pos := "load.go:51", after := #[⟨2, .data⟩, ⟨10, .data⟩], guard := none }) (v := ?vb12) rfl (by kernel_rfl) (by kernel_rfl) (by kernel_rfl) (fun _ _ _ h => h) (Or.inl ⟨by rfl, ?rb12⟩) (by assumption) ?_
            case rb12 => (intro w hSw; (try dsimp only at hSw); (go_simp <;> with_reducible rfl))
            try simp only [Act.put, List.setIfInBounds_toArray, List.set_cons_zero, List.set_cons_succ]
            refine wpAnyH_take (i := 12) (oi := { dst := some 4, op := Go.Op.assign (Go.Operand.tmp 47), type := 4, pos := "load.go:51", after := #[⟨11, .data⟩, ⟨9, .chain⟩, ⟨0, .phase⟩, ⟨1, .phase⟩, ⟨2, .phase⟩, ⟨3, .phase⟩, ⟨4, .phase⟩, ⟨5, .phase⟩, ⟨6, .phase⟩, ⟨7, .phase⟩, ⟨8, .phase⟩, ⟨9, .phase⟩, ⟨10, .phase⟩, ⟨11, .phase⟩], guard := none }) (v := ?vb13) rfl (by kernel_rfl) (by kernel_rfl) (by kernel_rfl) (fun _ _ _ h => h) (Or.inl ⟨by rfl, ?rb13⟩) (by assumption) ?_
            case rb13 => (intro w hSw; (try dsimp only at hSw); (go_simp <;> with_reducible rfl))
            try simp only [Act.put, List.setIfInBounds_toArray, List.set_cons_zero, List.set_cons_succ]
            refine wpAnyH_done (by kernel_rfl) ?_ _
            have HG4 := Lib.hid (HGW.out.trans h10.1)
            clear h10 c1 x0 x1 x2 x3
            go_wp2
            go_ret
            exact ⟨(by rw [HEQ.out]; try simp), HG4.out⟩
        · have df : decide (0 ≤ fi) = true := decide_eq_true (by omega)
          rw [decide_eq_false hf, Bool.false_and] at HEQ
          have HGE := Lib.hid (HGW.out.trans HG6.out)
          clear hf c1 x0 x1 x2 x3
          go_wp2
          go_ret
          exact ⟨(by rw [HEQ.out]; try rfl), HGE.out⟩
      · have e0 : (xk == 0) = false := by simpa using t0
        have e0' : (xk != 0) = true := by simpa using t0
        rw [decide_eq_false t0, Bool.false_and] at HEQ
        have HGE := Lib.hid (HGW.out.trans HG3.out)
        clear t0 c1
        go_wp2
        go_ret
        exact ⟨(by rw [HEQ.out]; try rfl), HGE.out⟩
  · have d8 : decide (8 ≤ (n2 : Int)) = true := decide_eq_true (by omega)
    rw [decide_eq_false h8, Bool.false_and] at HEQ
    clear h8 HRM
    go_wp2
    go_ret
    exact ⟨(by rw [HEQ.out]; try rfl), HGW.out⟩
end Go.Proofs.YtmgpnpmdmelnkaaGreatDoor
namespace Go.Proofs.YtmgpnpmdmelnkaaGreatDoor
open Go.ChangeShapes Go.WideShapes Go.ChangeAt Go.RowKit
set_option linter.unusedVariables false
set_option linter.unusedSimpArgs false
/-- No session has too much; no token is given twice. -/
structure Full22 (B : Bk) : Prop where
  cnt : ∀ s, cntS s B.H + cntS s B.W ≤ 8
  tok : B.H.Pairwise fun x y => x.tok ≠ y.tok
theorem full_new (t : Int) : Full22 ⟨[], [], t⟩ := ⟨fun s => by simp [cntS], List.Pairwise.nil⟩
theorem cntS_app (s : Int) (L M : List Lok) : cntS s (L ++ M) = cntS s L + cntS s M := by unfold cntS; exact List.countP_append
theorem cntS_perm (s : Int) {L M : List Lok} (h : L.Perm M) : cntS s L = cntS s M := by unfold cntS; exact h.countP_eq _
theorem cntS_cons (s : Int) (x : Lok) (L : List Lok) : cntS s (x :: L) = cntS s L + (if x.ses = s then 1 else 0) := by
  unfold cntS
  rw [List.countP_cons]
  congr 1
  by_cases h : x.ses = s <;> simp [h]
theorem cntS_one (s : Int) (x : Lok) : cntS s [x] = if x.ses = s then 1 else 0 := by
  rw [cntS_cons]
  show 0 + _ = _
  omega
theorem cntS_sub (s : Int) {L M : List Lok} (h : L.Sublist M) : cntS s L ≤ cntS s M := by unfold cntS; exact h.countP_le
/-- serve, one after the other. -/
structure SvF (s : Bk × List Lok × List Lok) (R : List Lok) : Prop where
  cnt : ∀ m, cntS m s.1.H + cntS m s.2.2 + cntS m R ≤ 8
  tok : s.1.H.Pairwise fun x y => x.tok ≠ y.tok
  top : ∀ x ∈ s.1.H, x.tok ≤ s.1.last
theorem svF_step {s : Bk × List Lok × List Lok} {x : Lok} {R : List Lok} (h : SvF s (x :: R)) : SvF (serveStep s x) R := by
  unfold serveStep
  by_cases hc : freeB s.1.H s.2.2 x = true ∧ s.1.last ≠ 18446744073709551615
  · rw [if_pos hc]
    have hi := ins_perm s.1.H (posK s.1.H (tokd s.1 x)) (tokd s.1 x)
    refine ⟨fun m => ?_, ?_, fun y hy => ?_⟩
    · show cntS m (ins s.1.H _ _) + cntS m s.2.2 + cntS m R ≤ 8
      have h1 := h.cnt m
      rw [cntS_cons] at h1
      rw [cntS_perm m hi, cntS_cons]
      have e : (tokd s.1 x).ses = x.ses := rfl
      rw [e]; omega
    · show (ins s.1.H _ _).Pairwise _
      rw [hi.pairwise_iff (fun {a b} hab => fun e => hab e.symm), List.pairwise_cons]
      refine ⟨fun y hy e => ?_, h.tok⟩
      have h1 := h.top y hy
      have e2 : s.1.last + 1 = y.tok := e
      omega
    · show y.tok ≤ s.1.last + 1
      rcases mem_ins.1 hy with e | hy
      · rw [e]; show s.1.last + 1 ≤ _; omega
      · have := h.top y hy; omega
  · rw [if_neg hc]
    refine ⟨fun m => ?_, h.tok, h.top⟩
    show cntS m s.1.H + cntS m (s.2.2 ++ [x]) + cntS m R ≤ 8
    have h1 := h.cnt m
    rw [cntS_cons] at h1
    rw [cntS_app, cntS_one]; omega
theorem svF_all : ∀ (R : List Lok) (s : Bk × List Lok × List Lok), SvF s R → SvF (R.foldl serveStep s) []
  | [], s, h => h
  | x :: R, s, h => svF_all R _ (svF_step h)
theorem full_rem {t0 : Int} {B : Bk} (hp : Pre t0 B) (h : Full22 B) (q : Lok → Bool) : Full22 (remB q B).1 := by
  have h0 : SvF (⟨restL q B.H, restL q B.W, B.last⟩, [], []) (restL q B.W) := by
    refine ⟨fun m => ?_, h.tok.sublist List.filter_sublist, fun x hx => (hp.tokH x (List.mem_filter.1 hx).1).2⟩
    have h1 := h.cnt m
    have h2 : cntS m (restL q B.H) ≤ cntS m B.H := cntS_sub m List.filter_sublist
    have h3 : cntS m (restL q B.W) ≤ cntS m B.W := cntS_sub m List.filter_sublist
    show cntS m (restL q B.H) + cntS m [] + cntS m (restL q B.W) ≤ 8
    have h4 : cntS m [] = 0 := rfl
    omega
  have h1 := svF_all _ _ h0
  refine ⟨fun m => ?_, h1.tok⟩
  have h2 := h1.cnt m
  have h4 : cntS m [] = 0 := rfl
  show cntS m ((restL q B.W).foldl serveStep (⟨restL q B.H, restL q B.W, B.last⟩, [], [])).1.H + cntS m ((restL q B.W).foldl serveStep (⟨restL q B.H, restL q B.W, B.last⟩, [], [])).2.2 ≤ 8
  omega
theorem full_acq {t0 : Int} {B : Bk} (hp : Pre t0 B) (h : Full22 B) (x : Lok) (wait : Bool) : Full22 (acqB B (clr x) wait).1 := by
  unfold acqB
  split
  · split <;> exact h
  · split
    · exact h
    · rename_i hc
      have hc : ¬ 8 ≤ cntS x.ses B.H + cntS x.ses B.W := hc
      have key : ∀ m, cntS m B.H + cntS m B.W + (if x.ses = m then 1 else 0) ≤ 8 := fun m => by
        by_cases e : x.ses = m
        · rw [if_pos e, ← e]; omega
        · rw [if_neg e]; exact h.cnt m
      split
      · split
        · exact h
        · have hi := ins_perm B.H (posK B.H (tokd B (clr x))) (tokd B (clr x))
          refine ⟨fun m => ?_, ?_⟩
          · show cntS m (ins B.H _ _) + cntS m B.W ≤ 8
            rw [cntS_perm m hi, cntS_cons]
            have := key m
            have e : (tokd B (clr x)).ses = x.ses := rfl
            rw [e]; omega
          · show (ins B.H _ _).Pairwise _
            rw [hi.pairwise_iff (fun {a b} hab => fun e => hab e.symm), List.pairwise_cons]
            refine ⟨fun y hy e => ?_, h.tok⟩
            have h1 := (hp.tokH y hy).2
            have e2 : B.last + 1 = y.tok := e
            omega
      · split
        · exact h
        · split
          · exact h
          · refine ⟨fun m => ?_, h.tok⟩
            show cntS m B.H + cntS m (B.W ++ [clr x]) ≤ 8
            rw [cntS_app, cntS_one]
            have := key m
            have e : (clr x).ses = x.ses := rfl
            rw [e]; omega
theorem full_do {t0 : Int} {B : Bk} (hp : Pre t0 B) (h : Full22 B) (K S : Int) (Q : List ByteArray) (X Wt : Bool) : Full22 (doB B K S Q X Wt) := by
  unfold doB
  split
  · exact full_acq hp h _ _
  · split
    · unfold relB
      split
      · exact h
      · exact full_rem hp h _
    · split
      · exact full_rem hp h _
      · exact h
theorem cnt_take (s : Int) (L : List Lok) (j : Nat) (hj : j < L.length) (hs : L[j].ses = s) : cntS s (L.take j) + 1 ≤ cntS s L := by
  have h1 := cntS_snoc s L j hj
  rw [if_pos hs] at h1
  have h2 : cntS s (L.take (j + 1)) ≤ cntS s L := cntS_sub s (List.take_sublist _ _)
  omega
/-- What a book has is loaded again, lock by lock. -/
theorem hold_back {t0 : Int} {n : Nat} {B : Bk} {H W : List RL} (h : Rel22 t0 n B H W) (h0 : 0 ≤ t0) (hs : Safe22 B) (hf : Full22 B) (j : Nat) (hj : j < B.H.length) : holdB ⟨B.H.take j, [], B.last⟩ B.H[j] = true := by
  have hx := h.ses B.H[j] (List.mem_append.2 (.inl (List.getElem_mem hj)))
  have ht := h.pre.tokH _ (List.getElem_mem hj)
  have hA : B.H.Pairwise Apart := List.Pairwise.sublist (List.sublist_append_left B.H B.W) h.pre.keys
  have a1 : afterB (B.H.take j) B.H[j] = true := by
    unfold afterB
    rw [List.length_take, Nat.min_eq_left (Nat.le_of_lt hj)]
    rcases Nat.eq_zero_or_pos j with e | e
    · rw [decide_eq_true e]; rfl
    · have hlt : j - 1 < (B.H.take j).length := by rw [List.length_take]; omega
      rw [List.getD_eq_getElem?_getD, List.getElem?_eq_getElem hlt]
      have e1 : (B.H.take j)[j - 1] = B.H[j - 1] := List.getElem_take
      have h1 : cmpK B.H[j - 1] B.H[j] ≤ 0 := (List.pairwise_iff_getElem.1 h.pre.srt) (j - 1) j (by omega) hj (by omega)
      have h2 : Apart B.H[j - 1] B.H[j] := (List.pairwise_iff_getElem.1 hA) (j - 1) j (by omega) hj (by omega)
      have h3 : cmpK B.H[j - 1] B.H[j] ≠ 0 := fun e => by
        unfold cmpK at e
        split at e
        · rename_i hne; exact hne e
        · rename_i hne
          rcases cmpI_range B.H[j - 1].ses B.H[j].ses with ⟨c, _⟩ | ⟨c, _⟩ | ⟨_, c⟩
          · omega
          · omega
          · exact h2 ⟨c, pof_inj (h.pathH _ (List.getElem_mem _)) (h.pathH _ (List.getElem_mem _)) (cmpP_zero.1 (by simpa using hne))⟩
      have h4 : cmpK ((some (B.H.take j)[j - 1]).getD zLok) B.H[j] < 0 := by rw [Option.getD_some, e1]; omega
      rw [decide_eq_true h4, Bool.or_true]
  have a2 : roomB ⟨B.H.take j, [], B.last⟩ B.H[j].ses = true := by
    unfold roomB
    have h1 := cnt_take B.H[j].ses B.H j hj rfl
    have h2 := hf.cnt B.H[j].ses
    have h3 : cntS B.H[j].ses ([] : List Lok) = 0 := rfl
    rw [decide_eq_true (show 0 < B.H[j].ses by omega), decide_eq_true (show ((cntS B.H[j].ses (B.H.take j) + cntS B.H[j].ses [] : Nat) : Int) < 8 by omega)]
    rfl
  have a3 : ((B.H.take j).any fun y => B.H[j].tok == y.tok) = false := by
    rw [List.any_eq_false]
    intro y hy
    obtain ⟨i, hi, rfl⟩ := List.getElem_of_mem hy
    rw [List.length_take] at hi
    have := (List.pairwise_iff_getElem.1 hf.tok) i j (by omega) hj (by omega)
    rw [List.getElem_take]
    simpa using fun e => this e.symm
  have a4 : (B.H.take j).any (cflB B.H[j]) = false := by
    rw [List.any_eq_false]
    intro y hy
    obtain ⟨i, hi, rfl⟩ := List.getElem_of_mem hy
    rw [List.length_take] at hi
    rw [List.getElem_take, safe_pair hs i j (by omega) hj]
    simp
  unfold holdB
  show (afterB (B.H.take j) B.H[j] && roomB ⟨B.H.take j, [], B.last⟩ B.H[j].ses && (decide (B.H[j].tok ≠ 0) && decide (B.H[j].tok ≤ B.last)) && !((B.H.take j).any fun y => B.H[j].tok == y.tok) && !((B.H.take j).any (cflB B.H[j]))) = true
  rw [a1, a2, a3, a4, decide_eq_true (show B.H[j].tok ≠ 0 by omega), decide_eq_true ht.2]
  rfl
theorem wait_back {t0 : Int} {n : Nat} {B : Bk} {H W : List RL} (h : Rel22 t0 n B H W) (hs : Safe22 B) (hf : Full22 B) (j : Nat) (hj : j < B.W.length) : waitB ⟨B.H, B.W.take j, B.last⟩ B.W[j] = true := by
  have hx := h.ses B.W[j] (List.mem_append.2 (.inr (List.getElem_mem hj)))
  have ht := h.pre.tokW _ (List.getElem_mem hj)
  have hp := h.pre.keys
  rw [List.pairwise_append] at hp
  have hw := h.wl
  have a1 : roomB ⟨B.H, B.W.take j, B.last⟩ B.W[j].ses = true := by
    unfold roomB
    have h1 := cnt_take B.W[j].ses B.W j hj rfl
    have h2 := hf.cnt B.W[j].ses
    rw [decide_eq_true (show 0 < B.W[j].ses by omega), decide_eq_true (show ((cntS B.W[j].ses B.H + cntS B.W[j].ses (B.W.take j) : Nat) : Int) < 8 by omega)]
    rfl
  have a2 : (findB ⟨B.H, B.W.take j, B.last⟩ B.W[j].ses B.W[j].txt).2 < 0 := by
    unfold findB
    show (if 0 ≤ fstF (sameB (askL B.W[j].ses B.W[j].txt)) B.H 0 then _ else if 0 ≤ fstF (sameB (askL B.W[j].ses B.W[j].txt)) (B.W.take j) 0 then _ else (zLok, -1) : Lok × Int).2 < 0
    rcases fstF_spec (sameB (askL B.W[j].ses B.W[j].txt)) B.H 0 with ⟨e1, _⟩ | ⟨i, hi, _, _, hsi, _⟩
    · rw [e1, if_neg (show ¬ (0 : Int) ≤ -1 by omega)]
      rcases fstF_spec (sameB (askL B.W[j].ses B.W[j].txt)) (B.W.take j) 0 with ⟨e2, _⟩ | ⟨i, hi, _, _, hsi, _⟩
      · rw [e2, if_neg (show ¬ (0 : Int) ≤ -1 by omega)]
        show (-1 : Int) < 0; omega
      · have hsi := sameB_iff.1 hsi
        rw [List.getElem_take] at hsi
        rw [List.length_take] at hi
        exact absurd ⟨hsi.1.symm, hsi.2.symm⟩ ((List.pairwise_iff_getElem.1 hp.2.1) i j (by omega) hj (by omega))
    · have hsi := sameB_iff.1 hsi
      exact absurd ⟨hsi.1.symm, hsi.2.symm⟩ (hp.2.2 _ (List.getElem_mem hi) _ (List.getElem_mem hj))
  have a3 : (decide (B.last = 18446744073709551615) || !(freeB B.H (B.W.take j) B.W[j])) = true := by
    rcases hs.stuck j hj with q | q
    · rw [q]; simp
    · rw [decide_eq_true q]; rfl
  unfold waitB
  show (decide ((B.W.take j).length < 8) && (roomB ⟨B.H, B.W.take j, B.last⟩ B.W[j].ses && (decide (B.W[j].tok = 0) && (decide ((findB ⟨B.H, B.W.take j, B.last⟩ B.W[j].ses B.W[j].txt).2 < 0) && (decide (B.last = 18446744073709551615) || !(freeB B.H (B.W.take j) B.W[j])))))) = true
  rw [a1, a3, decide_eq_true a2, decide_eq_true ht, decide_eq_true (show (B.W.take j).length < 8 by rw [List.length_take]; omega)]
  rfl
end Go.Proofs.YtmgpnpmdmelnkaaGreatDoor
