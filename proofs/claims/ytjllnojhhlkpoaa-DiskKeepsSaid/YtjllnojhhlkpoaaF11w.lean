import Derived.Test.YtjllnojhhlkpoaaF11v
import Derived.Test.YtjllnojhhlkpoaaC16
import Derived.WalkKit
import Derived.ProofKit
import Derived.LoopTactic
import Derived.Outline
import Derived.WalkSpells
import Derived.WalkLawsBesides
import Derived.Lib.Hide
import Derived.Deep.LoopGhost
import Derived.Deep.QuietTactic
import Derived.BigQuiet
import Derived.ShutString
import Derived.IntWalk
import Derived.Lib.MinMax
import Derived.Deep.RegionWith
import Derived.Deep.RegionHeld3
namespace Go.Proofs.Ytjllnojhhlkpoaa
open Go.ChangeShapes Go.WideShapes Go.ChangeAt Go.RowKit
open Dk
set_option linter.unusedVariables false
set_option linter.unusedSimpArgs false
set_option maxRecDepth 100000 in
set_option maxHeartbeats 4000000 in
theorem refDo_app_yes {d : D} (k : Nat) (hk : k < 4) (s : ByteArray) (hss : s.size ≤ 1099511627776) (v : Value) (w : World) (h : RkIs w v d) (ho : d.Ok) (h1 : d.fail ≠ 1) (hfull : full (tick d) k ((gApp s) (d.fs k)) = false) :
    Calls Try.prog 19 #[v, .int .i64 0, .int .i64 (k : Nat), .string s] w (RDo d (k : Nat) (gApp s) v w) := by
  obtain ⟨gb, off, cap, rfl, ha⟩ := h
  have HE := Lib.hid (act_yes (d := d) (gApp s) hk h1 hfull)
  obtain ⟨c0, c1, c2⟩ := rk_cells ha hk
  have HW0 := fun (v : Value) (w : World) (h : RkIs w v (tick d)) => refWith_any k hk ((gApp s) (d.fs k)) (tick d) v w h
  have hfb := ho.fail
  have HA := Lib.hid ha
  have hbd := fun j hj => ok_now ho j hj
  have hfull2 := full_iff (tick_ok ho) k hk ((gApp s) (d.fs k))
  rw [hfull] at hfull2
  have hus : used d.fs ≤ d.room := ho.used
  have HUX0 := Lib.hid (fun g5 off5 cap5 R5 F5 (w9 : World) (h : RkAt w9 g5 off5 (putF (tick d) k ((gApp s) (d.fs k))).fs) => refUsed_any g5 off5 cap5 (putF (tick d) k ((gApp s) (d.fs k))).fs R5 F5 w9 h (fun j hj => by
    have h9 := hbd j hj
    show (upd d.fs k ((gApp s) (d.fs k)) j).now.size ≤ _ ∧ (upd d.fs k ((gApp s) (d.fs k)) j).sure.size ≤ _
    by_cases e : j = k
    · subst e; rw [upd_same]; show ((d.fs j).now ++ s).size ≤ _ ∧ (d.fs j).sure.size ≤ _; rw [ByteArray.size_append]; omega
    · rw [upd_other _ _ _ _ e]; omega))
  have HUD0 := Lib.hid (fun g5 off5 cap5 R5 F5 (w9 : World) (h : RkAt w9 g5 off5 d.fs) => refUsed_any g5 off5 cap5 d.fs R5 F5 w9 h (fun j hj => by have h9 := hbd j hj; omega))
  clear ha hbd
  have hk4 : (k : Int) < 4 := by omega
  obtain ⟨fv, hf⟩ : ∃ fv : Int, (d.fail : Int) - 1 = fv := ⟨_, rfl⟩
  rw [hf]
  have HT := Lib.hid (show (((tick d).fail : Nat) : Int) - 1 = if 0 < fv then fv - 1 else fv by show ((d.fail - 1 : Nat) : Int) - 1 = _; split <;> omega)
  have hf0 : fv ≠ 0 := by omega
  have hfu : fv ≤ 1073741824 := by omega
  have hfl : -1 ≤ fv := by omega
  generalize hU : used (putF (tick d) k ((gApp s) (d.fs k))).fs = U at *
  generalize hV : used d.fs = V at *
  have hq : (decide ((U : Int) > (d.room : Int))) = false := by rw [hfull2]; exact decide_eq_decide.2 (by show (d.room : Int) < U ↔ (tick d).room < U; show (d.room : Int) < U ↔ d.room < U; omega)
  have hq2 : false = true → decide ((U : Int) > (V : Int)) = true := fun e => by rw [e] at hq; have := of_decide_eq_true hq; exact decide_eq_true (by omega)
  have hnb : (d.fs k).now.size ≤ 1099511627776 := (ok_now ho k hk).1
  generalize hr : (d.room : Int) = R at *
  generalize hn : (d.fs k).now = n at *
  generalize hs : (d.fs k).sure = u at *
  generalize hp : (d.fs k).put = p at *
  rw [show ((gApp s) (d.fs k)).now = (n ++ s) from by show (d.fs k).now ++ s = _; rw [hn], show ((gApp s) (d.fs k)).sure = u from hs, show ((gApp s) (d.fs k)).put = p from hp] at HW0
  have HW := Lib.hid HW0
  have HTR := Lib.hid (show ((tick d).room : Int) = R from hr)
  have HQ := Lib.hid hq
  skip
  clear HW0 hr hf hn hs hp h1 ho hfb hU hV hq hq2 hfull hfull2 hus
  by_cases hpos : 0 < fv
  · have hw1 : IntKind.i64.wrap (fv - 1) = fv - 1 := IntWalk.i64_in _ (by omega)
    rw [if_pos hpos] at HT
    have G0 := (Gr.refl w).alloc (.cells #[.slice (some ⟨gb, off, none⟩) 4 cap, .int .i64 R, .int .i64 (fv - 1)] 28)
    have G := G0.alloc (.cells #[.slice none 0 0, .int .i64 0, .int .i64 0] 28)
    have p0 := G.cell c0
    have p1 := G.cell c1
    have p2 := G.cell c2
    have B8 := Blk.new (w.alloc (.cells #[.slice (some ⟨gb, off, none⟩) 4 cap, .int .i64 R, .int .i64 (fv - 1)] 28)) #[.slice none 0 0, .int .i64 0, .int .i64 0] 28
    have B4 := (Blk.new w #[.slice (some ⟨gb, off, none⟩) 4 cap, .int .i64 R, .int .i64 (fv - 1)] 28).gr ((Gr.refl _).alloc (.cells #[.slice none 0 0, .int .i64 0, .int .i64 0] 28))
    have hsz : (w.alloc (.cells #[.slice (some ⟨gb, off, none⟩) 4 cap, .int .i64 R, .int .i64 (fv - 1)] 28)).heap.size = w.heap.size + 1 := by simp
    rw [hsz] at B8
    have HB8 := Lib.hid (B8.gr ((Gr.refl _).alloc (.cells #[.string (n ++ s), .string u, .bool p] 106)))
    have HB4 := Lib.hid (B4.gr ((Gr.refl _).alloc (.cells #[.string (n ++ s), .string u, .bool p] 106)))
    have HG := Lib.hid (G.alloc (.cells #[.string (n ++ s), .string u, .bool p] 106))
    have HRK : Hid (∀ W, Gr w W → RkIs W (.agg #[.slice (some ⟨gb, off, none⟩) 4 cap, .int .i64 R, .int .i64 (fv - 1)]) (tick d)) := Lib.hid fun W hW => ⟨gb, off, cap, by rw [HT.out, HTR.out]; try rfl, HA.out.gr hW⟩
    clear G G0 c0 c1 c2 B8 B4 hsz
    go_enter Try.func19, Try.ntmps19
    go_wp2_with fail
    refine (HW.out _ _ (HRK.out _ HG.out)).mono ?_
    rintro e w5 ⟨v5, rfl, hr5, hg5, hn5⟩
    obtain ⟨g5, off5, cap5, rfl, ha5⟩ := hr5
    have HG5 := Lib.hid (HG.out.trans hg5)
    have HN5 : Hid (w.heap.size ≤ g5) := Lib.hid (Nat.le_trans HG.out.size hn5)
    clear hn5
    have HA5 := Lib.hid ha5
    generalize hR5 : ((putF (tick d) k ((gApp s) (d.fs k))).room : Int) = R5 at *
    generalize hF5 : ((putF (tick d) k ((gApp s) (d.fs k))).fail : Int) - 1 = F5 at *
    have HR5 := Lib.hid hR5
    have HF5 := Lib.hid hF5
    have hg6 := (Gr.refl w5).alloc (.cells #[.slice (some ⟨g5, off5, none⟩) 4 cap5, .int .i64 R5, .int .i64 F5] 28)
    have HX6 := Lib.hid (Blk.new w5 #[.slice (some ⟨g5, off5, none⟩) 4 cap5, .int .i64 R5, .int .i64 F5] 28)
    have HB86 := Lib.hid ((HB8.out.gr hg5).gr hg6)
    have HB46 := Lib.hid ((HB4.out.gr hg5).gr hg6)
    have HG6 := Lib.hid (HG5.out.trans hg6)
    have HA6 := Lib.hid (HA5.out.gr hg6)
    clear hR5 hF5 ha5 hg5 p0 p1 p2 hg6
    go_wp2_with fail
    generalize w5.alloc (.cells #[.slice (some ⟨g5, off5, none⟩) 4 cap5, .int .i64 R5, .int .i64 F5] 28) = w6 at *
    generalize w5.heap.size = nb at *
    have HUX := Lib.hid (fun w9 (hg : Gr w6 w9) => HUX0.out g5 off5 cap5 R5 F5 w9 (HA6.out.gr hg))
    have HUD := Lib.hid (fun w9 (hg : Gr w6 w9) => HUD0.out gb off cap R (fv - 1) w9 (HA.out.gr (HG6.out.trans hg)))
    have HS0 : (fun w9 => Gr w6 w9 ∧ w9.cell? ⟨nb, 0, none⟩ = some (.slice (some ⟨g5, off5, none⟩) 4 cap5) ∧ w9.cell? ⟨nb, 1, none⟩ = some (.int .i64 R5) ∧ w9.cell? ⟨nb, 2, none⟩ = some (.int .i64 F5) ∧ w9.cell? ⟨w.heap.size, 0, none⟩ = some (.slice (some ⟨gb, off, none⟩) 4 cap) ∧ w9.cell? ⟨w.heap.size, 1, none⟩ = some (.int .i64 R) ∧ w9.cell? ⟨w.heap.size, 2, none⟩ = some (.int .i64 (fv - 1))) w6 := ⟨Gr.refl _, HX6.out.cell rfl, HX6.out.cell rfl, HX6.out.cell rfl, HB46.out.cell rfl, HB46.out.cell rfl, HB46.out.cell rfl⟩
    have HX : Hid (∀ w0 w9 : World, Gr w0 w9 → (fun w9 => Gr w6 w9 ∧ w9.cell? ⟨nb, 0, none⟩ = some (.slice (some ⟨g5, off5, none⟩) 4 cap5) ∧ w9.cell? ⟨nb, 1, none⟩ = some (.int .i64 R5) ∧ w9.cell? ⟨nb, 2, none⟩ = some (.int .i64 F5) ∧ w9.cell? ⟨w.heap.size, 0, none⟩ = some (.slice (some ⟨gb, off, none⟩) 4 cap) ∧ w9.cell? ⟨w.heap.size, 1, none⟩ = some (.int .i64 R) ∧ w9.cell? ⟨w.heap.size, 2, none⟩ = some (.int .i64 (fv - 1))) w0 → (fun w9 => Gr w6 w9 ∧ w9.cell? ⟨nb, 0, none⟩ = some (.slice (some ⟨g5, off5, none⟩) 4 cap5) ∧ w9.cell? ⟨nb, 1, none⟩ = some (.int .i64 R5) ∧ w9.cell? ⟨nb, 2, none⟩ = some (.int .i64 F5) ∧ w9.cell? ⟨w.heap.size, 0, none⟩ = some (.slice (some ⟨gb, off, none⟩) 4 cap) ∧ w9.cell? ⟨w.heap.size, 1, none⟩ = some (.int .i64 R) ∧ w9.cell? ⟨w.heap.size, 2, none⟩ = some (.int .i64 (fv - 1))) w9) := Lib.hid fun w0 w9 hg ⟨h, q0, q1, q2, q3, q4, q5⟩ => ⟨h.trans hg, hg.cell q0, hg.cell q1, hg.cell q2, hg.cell q3, hg.cell q4, hg.cell q5⟩
    apply cutS (fun w9 => Gr w6 w9 ∧ w9.cell? ⟨nb, 0, none⟩ = some (.slice (some ⟨g5, off5, none⟩) 4 cap5) ∧ w9.cell? ⟨nb, 1, none⟩ = some (.int .i64 R5) ∧ w9.cell? ⟨nb, 2, none⟩ = some (.int .i64 F5) ∧ w9.cell? ⟨w.heap.size, 0, none⟩ = some (.slice (some ⟨gb, off, none⟩) 4 cap) ∧ w9.cell? ⟨w.heap.size, 1, none⟩ = some (.int .i64 R) ∧ w9.cell? ⟨w.heap.size, 2, none⟩ = some (.int .i64 (fv - 1)))
    case main =>
      intro HL
      refine wp_region_held_drew (S := (fun w9 => Gr w6 w9 ∧ w9.cell? ⟨nb, 0, none⟩ = some (.slice (some ⟨g5, off5, none⟩) 4 cap5) ∧ w9.cell? ⟨nb, 1, none⟩ = some (.int .i64 R5) ∧ w9.cell? ⟨nb, 2, none⟩ = some (.int .i64 F5) ∧ w9.cell? ⟨w.heap.size, 0, none⟩ = some (.slice (some ⟨gb, off, none⟩) 4 cap) ∧ w9.cell? ⟨w.heap.size, 1, none⟩ = some (.int .i64 R) ∧ w9.cell? ⟨w.heap.size, 2, none⟩ = some (.int .i64 (fv - 1)))) (by kernel_rfl) ?inva0p (fun h0 => ?_)
      case inva0p => ((try dsimp only); (first | exact HS0 | exact HX.out _ _ ((Gr.refl _).drew) HS0))
      refine wpAnyH_take (i := 0) (oi := { dst := some 61, op := Go.Op.load 28 (Go.Operand.tmp 11), type := 28, pos := "ref.go:68", after := #[], guard := none }) (v := ?va0p1) rfl (by kernel_rfl) (by kernel_rfl) (by kernel_rfl) (fun _ _ _ h => h) (Or.inl ⟨by rfl, ?ra0p1⟩) (by assumption) ?_
      case ra0p1 => (intro w hSw; (try dsimp only at hSw); (go_simp <;> with_reducible rfl))
      try simp only [Act.put, List.setIfInBounds_toArray, List.set_cons_zero, List.set_cons_succ]
      refine wpAnyH_take (i := 2) (oi := { dst := some 63, op := Go.Op.fieldAddr 28 (Go.Operand.tmp 4) 1, type := 0, pos := "ref.go:68", after := #[], guard := none }) (v := ?va0p2) rfl (by kernel_rfl) (by kernel_rfl) (by kernel_rfl) (fun _ _ _ h => h) (Or.inl ⟨by rfl, ?ra0p2⟩) (by assumption) ?_
      case ra0p2 => (intro w hSw; (try dsimp only at hSw); (go_simp <;> with_reducible rfl))
      try simp only [Act.put, List.setIfInBounds_toArray, List.set_cons_zero, List.set_cons_succ]
      refine wpAnyH_take (i := 3) (oi := { dst := some 64, op := Go.Op.load 3 (Go.Operand.tmp 63), type := 3, pos := "ref.go:68", after := #[{ on := 2, ground := Go.Ground.data }], guard := none }) (v := ?va0p3) rfl (by kernel_rfl) (by kernel_rfl) (by kernel_rfl) (fun _ _ _ h => h) (Or.inl ⟨by rfl, ?ra0p3⟩) (by assumption) ?_
      case ra0p3 => (intro w hSw; (try dsimp only at hSw); (go_simp <;> with_reducible rfl))
      try simp only [Act.put, List.setIfInBounds_toArray, List.set_cons_zero, List.set_cons_succ]
      refine wpAnyH_ready (rs := [1]) (by kernel_rfl) (by simp) ?_
      refine AllReadyH.cons (o := { dst := some 62, op := Go.Op.call { callee := Go.Callee.value (Go.Operand.func 62), args := #[Go.Operand.tmp 61], argTypes := #[28] }, type := 3, pos := "ref.go:68", after := #[{ on := 0, ground := Go.Ground.data }], guard := none }) rfl (fun K hK => ?_) AllReadyH.nil
      go_simp
      (go_at_call 62; refine (HUX.out _ (by first | exact (h0).1 | exact h0.1)).mono ?_; rintro e w9 ⟨rfl, hgN⟩)
      first | refine hK.out _ _ ?sa0p4 (fun h4 => ?_) | (go_wp2_with fail; refine hK.out _ _ ?sa0p4 (fun h4 => ?_))
      case sa0p4 => ((try dsimp only); exact HX.out _ _ hgN h0)
      clear hK K h0
      try simp only [Act.put, List.setIfInBounds_toArray, List.set_cons_zero, List.set_cons_succ]
      refine wpAnyH_take (i := 4) (oi := { dst := some 65, op := Go.Op.binOp Go.BinOp.gtr 3 (Go.Operand.tmp 62) (Go.Operand.tmp 64) 3, type := 4, pos := "ref.go:68", after := #[{ on := 1, ground := Go.Ground.data }, { on := 3, ground := Go.Ground.data }], guard := none }) (v := (.bool false)) rfl (by kernel_rfl) (by kernel_rfl) (by kernel_rfl) (fun _ _ _ h => h) (Or.inl ⟨by rfl, ?ra0p5⟩) (by assumption) ?_
      case ra0p5 => (intro w hSw; (try dsimp only at hSw); go_simp; have h9 := of_decide_eq_false HQ.out; omega)
      try simp only [Act.put, List.setIfInBounds_toArray, List.set_cons_zero, List.set_cons_succ]
      refine wpAnyH_take (i := 5) (oi := { dst := some 66, op := Go.Op.move (Go.Operand.tmp 65), type := 4, pos := "ref.go:68", after := #[{ on := 4, ground := Go.Ground.data }, { on := 1, ground := Go.Ground.chain }], guard := none }) (v := ?va0p6) rfl (by kernel_rfl) (by kernel_rfl) (by kernel_rfl) (fun _ _ _ h => h) (Or.inl ⟨by rfl, ?ra0p6⟩) (by assumption) ?_
      case ra0p6 => (intro w hSw; (try dsimp only at hSw); (go_simp <;> with_reducible rfl))
      try simp only [Act.put, List.setIfInBounds_toArray, List.set_cons_zero, List.set_cons_succ]
      refine wpAnyH_take (i := 6) (oi := { dst := some 67, op := Go.Op.load 28 (Go.Operand.tmp 11), type := 28, pos := "ref.go:68", after := #[{ on := 5, ground := Go.Ground.guard }], guard := some (5, true) }) (v := undef) rfl (by kernel_rfl) (by kernel_rfl) (by kernel_rfl) (fun _ _ _ h => h) (Or.inr ⟨by rfl, rfl⟩) (by assumption) ?_
      try simp only [Act.put, List.setIfInBounds_toArray, List.set_cons_zero, List.set_cons_succ]
      refine wpAnyH_take (i := 7) (oi := { dst := some 68, op := Go.Op.call { callee := Go.Callee.value (Go.Operand.func 62), args := #[Go.Operand.tmp 67], argTypes := #[28] }, type := 3, pos := "ref.go:68", after := #[{ on := 6, ground := Go.Ground.data }, { on := 5, ground := Go.Ground.chain }, { on := 5, ground := Go.Ground.guard }], guard := some (5, true) }) (v := undef) rfl (by kernel_rfl) (by kernel_rfl) (by kernel_rfl) (fun _ _ _ h => h) (Or.inr ⟨by rfl, rfl⟩) (by assumption) ?_
      try simp only [Act.put, List.setIfInBounds_toArray, List.set_cons_zero, List.set_cons_succ]
      refine wpAnyH_take (i := 8) (oi := { dst := some 69, op := Go.Op.load 28 (Go.Operand.tmp 4), type := 28, pos := "ref.go:68", after := #[{ on := 5, ground := Go.Ground.guard }], guard := some (5, true) }) (v := undef) rfl (by kernel_rfl) (by kernel_rfl) (by kernel_rfl) (fun _ _ _ h => h) (Or.inr ⟨by rfl, rfl⟩) (by assumption) ?_
      try simp only [Act.put, List.setIfInBounds_toArray, List.set_cons_zero, List.set_cons_succ]
      refine wpAnyH_take (i := 9) (oi := { dst := some 70, op := Go.Op.call { callee := Go.Callee.value (Go.Operand.func 62), args := #[Go.Operand.tmp 69], argTypes := #[28] }, type := 3, pos := "ref.go:68", after := #[{ on := 8, ground := Go.Ground.data }, { on := 7, ground := Go.Ground.chain }, { on := 5, ground := Go.Ground.guard }], guard := some (5, true) }) (v := undef) rfl (by kernel_rfl) (by kernel_rfl) (by kernel_rfl) (fun _ _ _ h => h) (Or.inr ⟨by rfl, rfl⟩) (by assumption) ?_
      try simp only [Act.put, List.setIfInBounds_toArray, List.set_cons_zero, List.set_cons_succ]
      refine wpAnyH_take (i := 10) (oi := { dst := some 71, op := Go.Op.binOp Go.BinOp.gtr 3 (Go.Operand.tmp 68) (Go.Operand.tmp 70) 3, type := 4, pos := "ref.go:68", after := #[{ on := 7, ground := Go.Ground.data }, { on := 9, ground := Go.Ground.data }, { on := 5, ground := Go.Ground.guard }], guard := some (5, true) }) (v := undef) rfl (by kernel_rfl) (by kernel_rfl) (by kernel_rfl) (fun _ _ _ h => h) (Or.inr ⟨by rfl, rfl⟩) (by assumption) ?_
      try simp only [Act.put, List.setIfInBounds_toArray, List.set_cons_zero, List.set_cons_succ]
      refine wpAnyH_take (i := 11) (oi := { dst := some 72, op := Go.Op.pick (Go.Operand.tmp 66) (Go.Operand.tmp 71) (Go.Operand.const (Go.Value.bool false)), type := 4, pos := "ref.go:68", after := #[{ on := 5, ground := Go.Ground.data }, { on := 10, ground := Go.Ground.data }], guard := none }) (v := ?va0p7) rfl (by kernel_rfl) (by kernel_rfl) (by kernel_rfl) (fun _ _ _ h => h) (Or.inl ⟨by rfl, ?ra0p7⟩) (by assumption) ?_
      case ra0p7 => (intro w hSw; (try dsimp only at hSw); (go_simp <;> with_reducible rfl))
      try simp only [Act.put, List.setIfInBounds_toArray, List.set_cons_zero, List.set_cons_succ]
      refine wpAnyH_done (by kernel_rfl) ?_ _
      exact HL _ h4
    case rest =>
      rintro wy ⟨hgy, x0, x1, x2, d0, d1, d2⟩
      have HB5 := Lib.hid (HB86.out.gr hgy)
      have HA7 := Lib.hid (HA6.out.gr hgy)
      have HAD := Lib.hid (HA.out.gr (HG6.out.trans hgy))
      have HG7 := Lib.hid (HG6.out.trans hgy)
      have b0 := HB5.out.cell (i := 0) rfl
      have b1 := HB5.out.cell (i := 1) rfl
      have b2 := HB5.out.cell (i := 2) rfl
      have f0 := HB5.out.free 0
      have f1 := HB5.out.free 1
      have f2 := HB5.out.free 2
      clear hgy HX HS0 HUX HUD HQ
      go_wp2
      have HST := Lib.hid (stored (R := R5) (fv := F5) (cap := cap5) HB5.out HA7.out)
      have HG8 := Lib.hid (HG7.out.store3 (b := w.heap.size + 1) (by omega) (.slice (some ⟨g5, off5, none⟩) 4 cap5) (.int .i64 R5) (.int .i64 F5))
      have r0 := HST.out.1.cell (i := 0) rfl
      have r1 := HST.out.1.cell (i := 1) rfl
      have r2 := HST.out.1.cell (i := 2) rfl
      refine bodyPost_ret (v := .tuple #[.agg #[.slice (some ⟨g5, off5, none⟩) 4 cap5, .int .i64 R5, .int .i64 F5], .int .i64 0]) (by simp [results, Try.results19, go_sem, r0, r1, r2]; try rfl) rfl ?_
      exact ⟨_, by rw [HE.out]; rfl, by rw [HE.out]; exact ⟨g5, off5, cap5, by rw [HR5.out, HF5.out], HST.out.2⟩, HG8.out, .inr (by exact HN5.out)⟩
  · obtain rfl : fv = -1 := by omega
    rw [if_neg (by decide)] at HT
    have G0 := (Gr.refl w).alloc (.cells #[.slice (some ⟨gb, off, none⟩) 4 cap, .int .i64 R, .int .i64 (-1)] 28)
    have G := G0.alloc (.cells #[.slice none 0 0, .int .i64 0, .int .i64 0] 28)
    have p0 := G.cell c0
    have p1 := G.cell c1
    have p2 := G.cell c2
    have B8 := Blk.new (w.alloc (.cells #[.slice (some ⟨gb, off, none⟩) 4 cap, .int .i64 R, .int .i64 (-1)] 28)) #[.slice none 0 0, .int .i64 0, .int .i64 0] 28
    have B4 := (Blk.new w #[.slice (some ⟨gb, off, none⟩) 4 cap, .int .i64 R, .int .i64 (-1)] 28).gr ((Gr.refl _).alloc (.cells #[.slice none 0 0, .int .i64 0, .int .i64 0] 28))
    have hsz : (w.alloc (.cells #[.slice (some ⟨gb, off, none⟩) 4 cap, .int .i64 R, .int .i64 (-1)] 28)).heap.size = w.heap.size + 1 := by simp
    rw [hsz] at B8
    have HB8 := Lib.hid (B8.gr ((Gr.refl _).alloc (.cells #[.string (n ++ s), .string u, .bool p] 106)))
    have HB4 := Lib.hid (B4.gr ((Gr.refl _).alloc (.cells #[.string (n ++ s), .string u, .bool p] 106)))
    have HG := Lib.hid (G.alloc (.cells #[.string (n ++ s), .string u, .bool p] 106))
    have HRK : Hid (∀ W, Gr w W → RkIs W (.agg #[.slice (some ⟨gb, off, none⟩) 4 cap, .int .i64 R, .int .i64 (-1)]) (tick d)) := Lib.hid fun W hW => ⟨gb, off, cap, by rw [HT.out, HTR.out]; try rfl, HA.out.gr hW⟩
    clear G G0 c0 c1 c2 B8 B4 hsz
    go_enter Try.func19, Try.ntmps19
    go_wp2_with fail
    refine (HW.out _ _ (HRK.out _ HG.out)).mono ?_
    rintro e w5 ⟨v5, rfl, hr5, hg5, hn5⟩
    obtain ⟨g5, off5, cap5, rfl, ha5⟩ := hr5
    have HG5 := Lib.hid (HG.out.trans hg5)
    have HN5 : Hid (w.heap.size ≤ g5) := Lib.hid (Nat.le_trans HG.out.size hn5)
    clear hn5
    have HA5 := Lib.hid ha5
    generalize hR5 : ((putF (tick d) k ((gApp s) (d.fs k))).room : Int) = R5 at *
    generalize hF5 : ((putF (tick d) k ((gApp s) (d.fs k))).fail : Int) - 1 = F5 at *
    have HR5 := Lib.hid hR5
    have HF5 := Lib.hid hF5
    have hg6 := (Gr.refl w5).alloc (.cells #[.slice (some ⟨g5, off5, none⟩) 4 cap5, .int .i64 R5, .int .i64 F5] 28)
    have HX6 := Lib.hid (Blk.new w5 #[.slice (some ⟨g5, off5, none⟩) 4 cap5, .int .i64 R5, .int .i64 F5] 28)
    have HB86 := Lib.hid ((HB8.out.gr hg5).gr hg6)
    have HB46 := Lib.hid ((HB4.out.gr hg5).gr hg6)
    have HG6 := Lib.hid (HG5.out.trans hg6)
    have HA6 := Lib.hid (HA5.out.gr hg6)
    clear hR5 hF5 ha5 hg5 p0 p1 p2 hg6
    go_wp2_with fail
    generalize w5.alloc (.cells #[.slice (some ⟨g5, off5, none⟩) 4 cap5, .int .i64 R5, .int .i64 F5] 28) = w6 at *
    generalize w5.heap.size = nb at *
    have HUX := Lib.hid (fun w9 (hg : Gr w6 w9) => HUX0.out g5 off5 cap5 R5 F5 w9 (HA6.out.gr hg))
    have HUD := Lib.hid (fun w9 (hg : Gr w6 w9) => HUD0.out gb off cap R (-1) w9 (HA.out.gr (HG6.out.trans hg)))
    have HS0 : (fun w9 => Gr w6 w9 ∧ w9.cell? ⟨nb, 0, none⟩ = some (.slice (some ⟨g5, off5, none⟩) 4 cap5) ∧ w9.cell? ⟨nb, 1, none⟩ = some (.int .i64 R5) ∧ w9.cell? ⟨nb, 2, none⟩ = some (.int .i64 F5) ∧ w9.cell? ⟨w.heap.size, 0, none⟩ = some (.slice (some ⟨gb, off, none⟩) 4 cap) ∧ w9.cell? ⟨w.heap.size, 1, none⟩ = some (.int .i64 R) ∧ w9.cell? ⟨w.heap.size, 2, none⟩ = some (.int .i64 (-1))) w6 := ⟨Gr.refl _, HX6.out.cell rfl, HX6.out.cell rfl, HX6.out.cell rfl, HB46.out.cell rfl, HB46.out.cell rfl, HB46.out.cell rfl⟩
    have HX : Hid (∀ w0 w9 : World, Gr w0 w9 → (fun w9 => Gr w6 w9 ∧ w9.cell? ⟨nb, 0, none⟩ = some (.slice (some ⟨g5, off5, none⟩) 4 cap5) ∧ w9.cell? ⟨nb, 1, none⟩ = some (.int .i64 R5) ∧ w9.cell? ⟨nb, 2, none⟩ = some (.int .i64 F5) ∧ w9.cell? ⟨w.heap.size, 0, none⟩ = some (.slice (some ⟨gb, off, none⟩) 4 cap) ∧ w9.cell? ⟨w.heap.size, 1, none⟩ = some (.int .i64 R) ∧ w9.cell? ⟨w.heap.size, 2, none⟩ = some (.int .i64 (-1))) w0 → (fun w9 => Gr w6 w9 ∧ w9.cell? ⟨nb, 0, none⟩ = some (.slice (some ⟨g5, off5, none⟩) 4 cap5) ∧ w9.cell? ⟨nb, 1, none⟩ = some (.int .i64 R5) ∧ w9.cell? ⟨nb, 2, none⟩ = some (.int .i64 F5) ∧ w9.cell? ⟨w.heap.size, 0, none⟩ = some (.slice (some ⟨gb, off, none⟩) 4 cap) ∧ w9.cell? ⟨w.heap.size, 1, none⟩ = some (.int .i64 R) ∧ w9.cell? ⟨w.heap.size, 2, none⟩ = some (.int .i64 (-1))) w9) := Lib.hid fun w0 w9 hg ⟨h, q0, q1, q2, q3, q4, q5⟩ => ⟨h.trans hg, hg.cell q0, hg.cell q1, hg.cell q2, hg.cell q3, hg.cell q4, hg.cell q5⟩
    apply cutS (fun w9 => Gr w6 w9 ∧ w9.cell? ⟨nb, 0, none⟩ = some (.slice (some ⟨g5, off5, none⟩) 4 cap5) ∧ w9.cell? ⟨nb, 1, none⟩ = some (.int .i64 R5) ∧ w9.cell? ⟨nb, 2, none⟩ = some (.int .i64 F5) ∧ w9.cell? ⟨w.heap.size, 0, none⟩ = some (.slice (some ⟨gb, off, none⟩) 4 cap) ∧ w9.cell? ⟨w.heap.size, 1, none⟩ = some (.int .i64 R) ∧ w9.cell? ⟨w.heap.size, 2, none⟩ = some (.int .i64 (-1)))
    case main =>
      intro HL
      refine wp_region_held_drew (S := (fun w9 => Gr w6 w9 ∧ w9.cell? ⟨nb, 0, none⟩ = some (.slice (some ⟨g5, off5, none⟩) 4 cap5) ∧ w9.cell? ⟨nb, 1, none⟩ = some (.int .i64 R5) ∧ w9.cell? ⟨nb, 2, none⟩ = some (.int .i64 F5) ∧ w9.cell? ⟨w.heap.size, 0, none⟩ = some (.slice (some ⟨gb, off, none⟩) 4 cap) ∧ w9.cell? ⟨w.heap.size, 1, none⟩ = some (.int .i64 R) ∧ w9.cell? ⟨w.heap.size, 2, none⟩ = some (.int .i64 (-1)))) (by kernel_rfl) ?inva0n (fun h0 => ?_)
      case inva0n => ((try dsimp only); (first | exact HS0 | exact HX.out _ _ ((Gr.refl _).drew) HS0))
      refine wpAnyH_take (i := 0) (oi := { dst := some 61, op := Go.Op.load 28 (Go.Operand.tmp 11), type := 28, pos := "ref.go:68", after := #[], guard := none }) (v := ?va0n1) rfl (by kernel_rfl) (by kernel_rfl) (by kernel_rfl) (fun _ _ _ h => h) (Or.inl ⟨by rfl, ?ra0n1⟩) (by assumption) ?_
      case ra0n1 => (intro w hSw; (try dsimp only at hSw); (go_simp <;> with_reducible rfl))
      try simp only [Act.put, List.setIfInBounds_toArray, List.set_cons_zero, List.set_cons_succ]
      refine wpAnyH_take (i := 2) (oi := { dst := some 63, op := Go.Op.fieldAddr 28 (Go.Operand.tmp 4) 1, type := 0, pos := "ref.go:68", after := #[], guard := none }) (v := ?va0n2) rfl (by kernel_rfl) (by kernel_rfl) (by kernel_rfl) (fun _ _ _ h => h) (Or.inl ⟨by rfl, ?ra0n2⟩) (by assumption) ?_
      case ra0n2 => (intro w hSw; (try dsimp only at hSw); (go_simp <;> with_reducible rfl))
      try simp only [Act.put, List.setIfInBounds_toArray, List.set_cons_zero, List.set_cons_succ]
      refine wpAnyH_take (i := 3) (oi := { dst := some 64, op := Go.Op.load 3 (Go.Operand.tmp 63), type := 3, pos := "ref.go:68", after := #[{ on := 2, ground := Go.Ground.data }], guard := none }) (v := ?va0n3) rfl (by kernel_rfl) (by kernel_rfl) (by kernel_rfl) (fun _ _ _ h => h) (Or.inl ⟨by rfl, ?ra0n3⟩) (by assumption) ?_
      case ra0n3 => (intro w hSw; (try dsimp only at hSw); (go_simp <;> with_reducible rfl))
      try simp only [Act.put, List.setIfInBounds_toArray, List.set_cons_zero, List.set_cons_succ]
      refine wpAnyH_ready (rs := [1]) (by kernel_rfl) (by simp) ?_
      refine AllReadyH.cons (o := { dst := some 62, op := Go.Op.call { callee := Go.Callee.value (Go.Operand.func 62), args := #[Go.Operand.tmp 61], argTypes := #[28] }, type := 3, pos := "ref.go:68", after := #[{ on := 0, ground := Go.Ground.data }], guard := none }) rfl (fun K hK => ?_) AllReadyH.nil
      go_simp
      (go_at_call 62; refine (HUX.out _ (by first | exact (h0).1 | exact h0.1)).mono ?_; rintro e w9 ⟨rfl, hgN⟩)
      first | refine hK.out _ _ ?sa0n4 (fun h4 => ?_) | (go_wp2_with fail; refine hK.out _ _ ?sa0n4 (fun h4 => ?_))
      case sa0n4 => ((try dsimp only); exact HX.out _ _ hgN h0)
      clear hK K h0
      try simp only [Act.put, List.setIfInBounds_toArray, List.set_cons_zero, List.set_cons_succ]
      refine wpAnyH_take (i := 4) (oi := { dst := some 65, op := Go.Op.binOp Go.BinOp.gtr 3 (Go.Operand.tmp 62) (Go.Operand.tmp 64) 3, type := 4, pos := "ref.go:68", after := #[{ on := 1, ground := Go.Ground.data }, { on := 3, ground := Go.Ground.data }], guard := none }) (v := (.bool false)) rfl (by kernel_rfl) (by kernel_rfl) (by kernel_rfl) (fun _ _ _ h => h) (Or.inl ⟨by rfl, ?ra0n5⟩) (by assumption) ?_
      case ra0n5 => (intro w hSw; (try dsimp only at hSw); go_simp; have h9 := of_decide_eq_false HQ.out; omega)
      try simp only [Act.put, List.setIfInBounds_toArray, List.set_cons_zero, List.set_cons_succ]
      refine wpAnyH_take (i := 5) (oi := { dst := some 66, op := Go.Op.move (Go.Operand.tmp 65), type := 4, pos := "ref.go:68", after := #[{ on := 4, ground := Go.Ground.data }, { on := 1, ground := Go.Ground.chain }], guard := none }) (v := ?va0n6) rfl (by kernel_rfl) (by kernel_rfl) (by kernel_rfl) (fun _ _ _ h => h) (Or.inl ⟨by rfl, ?ra0n6⟩) (by assumption) ?_
      case ra0n6 => (intro w hSw; (try dsimp only at hSw); (go_simp <;> with_reducible rfl))
      try simp only [Act.put, List.setIfInBounds_toArray, List.set_cons_zero, List.set_cons_succ]
      refine wpAnyH_take (i := 6) (oi := { dst := some 67, op := Go.Op.load 28 (Go.Operand.tmp 11), type := 28, pos := "ref.go:68", after := #[{ on := 5, ground := Go.Ground.guard }], guard := some (5, true) }) (v := undef) rfl (by kernel_rfl) (by kernel_rfl) (by kernel_rfl) (fun _ _ _ h => h) (Or.inr ⟨by rfl, rfl⟩) (by assumption) ?_
      try simp only [Act.put, List.setIfInBounds_toArray, List.set_cons_zero, List.set_cons_succ]
      refine wpAnyH_take (i := 7) (oi := { dst := some 68, op := Go.Op.call { callee := Go.Callee.value (Go.Operand.func 62), args := #[Go.Operand.tmp 67], argTypes := #[28] }, type := 3, pos := "ref.go:68", after := #[{ on := 6, ground := Go.Ground.data }, { on := 5, ground := Go.Ground.chain }, { on := 5, ground := Go.Ground.guard }], guard := some (5, true) }) (v := undef) rfl (by kernel_rfl) (by kernel_rfl) (by kernel_rfl) (fun _ _ _ h => h) (Or.inr ⟨by rfl, rfl⟩) (by assumption) ?_
      try simp only [Act.put, List.setIfInBounds_toArray, List.set_cons_zero, List.set_cons_succ]
      refine wpAnyH_take (i := 8) (oi := { dst := some 69, op := Go.Op.load 28 (Go.Operand.tmp 4), type := 28, pos := "ref.go:68", after := #[{ on := 5, ground := Go.Ground.guard }], guard := some (5, true) }) (v := undef) rfl (by kernel_rfl) (by kernel_rfl) (by kernel_rfl) (fun _ _ _ h => h) (Or.inr ⟨by rfl, rfl⟩) (by assumption) ?_
      try simp only [Act.put, List.setIfInBounds_toArray, List.set_cons_zero, List.set_cons_succ]
      refine wpAnyH_take (i := 9) (oi := { dst := some 70, op := Go.Op.call { callee := Go.Callee.value (Go.Operand.func 62), args := #[Go.Operand.tmp 69], argTypes := #[28] }, type := 3, pos := "ref.go:68", after := #[{ on := 8, ground := Go.Ground.data }, { on := 7, ground := Go.Ground.chain }, { on := 5, ground := Go.Ground.guard }], guard := some (5, true) }) (v := undef) rfl (by kernel_rfl) (by kernel_rfl) (by kernel_rfl) (fun _ _ _ h => h) (Or.inr ⟨by rfl, rfl⟩) (by assumption) ?_
      try simp only [Act.put, List.setIfInBounds_toArray, List.set_cons_zero, List.set_cons_succ]
      refine wpAnyH_take (i := 10) (oi := { dst := some 71, op := Go.Op.binOp Go.BinOp.gtr 3 (Go.Operand.tmp 68) (Go.Operand.tmp 70) 3, type := 4, pos := "ref.go:68", after := #[{ on := 7, ground := Go.Ground.data }, { on := 9, ground := Go.Ground.data }, { on := 5, ground := Go.Ground.guard }], guard := some (5, true) }) (v := undef) rfl (by kernel_rfl) (by kernel_rfl) (by kernel_rfl) (fun _ _ _ h => h) (Or.inr ⟨by rfl, rfl⟩) (by assumption) ?_
      try simp only [Act.put, List.setIfInBounds_toArray, List.set_cons_zero, List.set_cons_succ]
      refine wpAnyH_take (i := 11) (oi := { dst := some 72, op := Go.Op.pick (Go.Operand.tmp 66) (Go.Operand.tmp 71) (Go.Operand.const (Go.Value.bool false)), type := 4, pos := "ref.go:68", after := #[{ on := 5, ground := Go.Ground.data }, { on := 10, ground := Go.Ground.data }], guard := none }) (v := ?va0n7) rfl (by kernel_rfl) (by kernel_rfl) (by kernel_rfl) (fun _ _ _ h => h) (Or.inl ⟨by rfl, ?ra0n7⟩) (by assumption) ?_
      case ra0n7 => (intro w hSw; (try dsimp only at hSw); (go_simp <;> with_reducible rfl))
      try simp only [Act.put, List.setIfInBounds_toArray, List.set_cons_zero, List.set_cons_succ]
      refine wpAnyH_done (by kernel_rfl) ?_ _
      exact HL _ h4
    case rest =>
      rintro wy ⟨hgy, x0, x1, x2, d0, d1, d2⟩
      have HB5 := Lib.hid (HB86.out.gr hgy)
      have HA7 := Lib.hid (HA6.out.gr hgy)
      have HAD := Lib.hid (HA.out.gr (HG6.out.trans hgy))
      have HG7 := Lib.hid (HG6.out.trans hgy)
      have b0 := HB5.out.cell (i := 0) rfl
      have b1 := HB5.out.cell (i := 1) rfl
      have b2 := HB5.out.cell (i := 2) rfl
      have f0 := HB5.out.free 0
      have f1 := HB5.out.free 1
      have f2 := HB5.out.free 2
      clear hgy HX HS0 HUX HUD HQ
      go_wp2
      have HST := Lib.hid (stored (R := R5) (fv := F5) (cap := cap5) HB5.out HA7.out)
      have HG8 := Lib.hid (HG7.out.store3 (b := w.heap.size + 1) (by omega) (.slice (some ⟨g5, off5, none⟩) 4 cap5) (.int .i64 R5) (.int .i64 F5))
      have r0 := HST.out.1.cell (i := 0) rfl
      have r1 := HST.out.1.cell (i := 1) rfl
      have r2 := HST.out.1.cell (i := 2) rfl
      refine bodyPost_ret (v := .tuple #[.agg #[.slice (some ⟨g5, off5, none⟩) 4 cap5, .int .i64 R5, .int .i64 F5], .int .i64 0]) (by simp [results, Try.results19, go_sem, r0, r1, r2]; try rfl) rfl ?_
      exact ⟨_, by rw [HE.out]; rfl, by rw [HE.out]; exact ⟨g5, off5, cap5, by rw [HR5.out, HF5.out], HST.out.2⟩, HG8.out, .inr (by exact HN5.out)⟩
set_option maxRecDepth 100000 in
set_option maxHeartbeats 4000000 in
theorem refDo_app_no {d : D} (k : Nat) (hk : k < 4) (s : ByteArray) (hss : s.size ≤ 1099511627776) (v : Value) (w : World) (h : RkIs w v d) (ho : d.Ok) (h1 : d.fail ≠ 1) (hfull : full (tick d) k ((gApp s) (d.fs k)) = true) :
    Calls Try.prog 19 #[v, .int .i64 0, .int .i64 (k : Nat), .string s] w (RDo d (k : Nat) (gApp s) v w) := by
  obtain ⟨gb, off, cap, rfl, ha⟩ := h
  have HE := Lib.hid (act_no (d := d) (gApp s) hk h1 hfull)
  obtain ⟨c0, c1, c2⟩ := rk_cells ha hk
  have HW0 := fun (v : Value) (w : World) (h : RkIs w v (tick d)) => refWith_any k hk ((gApp s) (d.fs k)) (tick d) v w h
  have hfb := ho.fail
  have HA := Lib.hid ha
  have hbd := fun j hj => ok_now ho j hj
  have hfull2 := full_iff (tick_ok ho) k hk ((gApp s) (d.fs k))
  rw [hfull] at hfull2
  have hus : used d.fs ≤ d.room := ho.used
  have HUX0 := Lib.hid (fun g5 off5 cap5 R5 F5 (w9 : World) (h : RkAt w9 g5 off5 (putF (tick d) k ((gApp s) (d.fs k))).fs) => refUsed_any g5 off5 cap5 (putF (tick d) k ((gApp s) (d.fs k))).fs R5 F5 w9 h (fun j hj => by
    have h9 := hbd j hj
    show (upd d.fs k ((gApp s) (d.fs k)) j).now.size ≤ _ ∧ (upd d.fs k ((gApp s) (d.fs k)) j).sure.size ≤ _
    by_cases e : j = k
    · subst e; rw [upd_same]; show ((d.fs j).now ++ s).size ≤ _ ∧ (d.fs j).sure.size ≤ _; rw [ByteArray.size_append]; omega
    · rw [upd_other _ _ _ _ e]; omega))
  have HUD0 := Lib.hid (fun g5 off5 cap5 R5 F5 (w9 : World) (h : RkAt w9 g5 off5 d.fs) => refUsed_any g5 off5 cap5 d.fs R5 F5 w9 h (fun j hj => by have h9 := hbd j hj; omega))
  clear ha hbd
  have hk4 : (k : Int) < 4 := by omega
  obtain ⟨fv, hf⟩ : ∃ fv : Int, (d.fail : Int) - 1 = fv := ⟨_, rfl⟩
  rw [hf]
  have HT := Lib.hid (show (((tick d).fail : Nat) : Int) - 1 = if 0 < fv then fv - 1 else fv by show ((d.fail - 1 : Nat) : Int) - 1 = _; split <;> omega)
  have hf0 : fv ≠ 0 := by omega
  have hfu : fv ≤ 1073741824 := by omega
  have hfl : -1 ≤ fv := by omega
  generalize hU : used (putF (tick d) k ((gApp s) (d.fs k))).fs = U at *
  generalize hV : used d.fs = V at *
  have hq : (decide ((U : Int) > (d.room : Int))) = true := by rw [hfull2]; exact decide_eq_decide.2 (by show (d.room : Int) < U ↔ (tick d).room < U; show (d.room : Int) < U ↔ d.room < U; omega)
  have hq2 : true = true → decide ((U : Int) > (V : Int)) = true := fun e => by rw [e] at hq; have := of_decide_eq_true hq; exact decide_eq_true (by omega)
  have hnb : (d.fs k).now.size ≤ 1099511627776 := (ok_now ho k hk).1
  generalize hr : (d.room : Int) = R at *
  generalize hn : (d.fs k).now = n at *
  generalize hs : (d.fs k).sure = u at *
  generalize hp : (d.fs k).put = p at *
  rw [show ((gApp s) (d.fs k)).now = (n ++ s) from by show (d.fs k).now ++ s = _; rw [hn], show ((gApp s) (d.fs k)).sure = u from hs, show ((gApp s) (d.fs k)).put = p from hp] at HW0
  have HW := Lib.hid HW0
  have HTR := Lib.hid (show ((tick d).room : Int) = R from hr)
  have HQ := Lib.hid hq
  have HQ2 := Lib.hid (hq2 rfl)
  clear HW0 hr hf hn hs hp h1 ho hfb hU hV hq hq2 hfull hfull2 hus
  by_cases hpos : 0 < fv
  · have hw1 : IntKind.i64.wrap (fv - 1) = fv - 1 := IntWalk.i64_in _ (by omega)
    rw [if_pos hpos] at HT
    have G0 := (Gr.refl w).alloc (.cells #[.slice (some ⟨gb, off, none⟩) 4 cap, .int .i64 R, .int .i64 (fv - 1)] 28)
    have G := G0.alloc (.cells #[.slice none 0 0, .int .i64 0, .int .i64 0] 28)
    have p0 := G.cell c0
    have p1 := G.cell c1
    have p2 := G.cell c2
    have B8 := Blk.new (w.alloc (.cells #[.slice (some ⟨gb, off, none⟩) 4 cap, .int .i64 R, .int .i64 (fv - 1)] 28)) #[.slice none 0 0, .int .i64 0, .int .i64 0] 28
    have B4 := (Blk.new w #[.slice (some ⟨gb, off, none⟩) 4 cap, .int .i64 R, .int .i64 (fv - 1)] 28).gr ((Gr.refl _).alloc (.cells #[.slice none 0 0, .int .i64 0, .int .i64 0] 28))
    have hsz : (w.alloc (.cells #[.slice (some ⟨gb, off, none⟩) 4 cap, .int .i64 R, .int .i64 (fv - 1)] 28)).heap.size = w.heap.size + 1 := by simp
    rw [hsz] at B8
    have HB8 := Lib.hid (B8.gr ((Gr.refl _).alloc (.cells #[.string (n ++ s), .string u, .bool p] 106)))
    have HB4 := Lib.hid (B4.gr ((Gr.refl _).alloc (.cells #[.string (n ++ s), .string u, .bool p] 106)))
    have HG := Lib.hid (G.alloc (.cells #[.string (n ++ s), .string u, .bool p] 106))
    have HRK : Hid (∀ W, Gr w W → RkIs W (.agg #[.slice (some ⟨gb, off, none⟩) 4 cap, .int .i64 R, .int .i64 (fv - 1)]) (tick d)) := Lib.hid fun W hW => ⟨gb, off, cap, by rw [HT.out, HTR.out]; try rfl, HA.out.gr hW⟩
    clear G G0 c0 c1 c2 B8 B4 hsz
    go_enter Try.func19, Try.ntmps19
    go_wp2_with fail
    refine (HW.out _ _ (HRK.out _ HG.out)).mono ?_
    rintro e w5 ⟨v5, rfl, hr5, hg5, hn5⟩
    obtain ⟨g5, off5, cap5, rfl, ha5⟩ := hr5
    have HG5 := Lib.hid (HG.out.trans hg5)
    have HN5 : Hid (w.heap.size ≤ g5) := Lib.hid (Nat.le_trans HG.out.size hn5)
    clear hn5
    have HA5 := Lib.hid ha5
    generalize hR5 : ((putF (tick d) k ((gApp s) (d.fs k))).room : Int) = R5 at *
    generalize hF5 : ((putF (tick d) k ((gApp s) (d.fs k))).fail : Int) - 1 = F5 at *
    have HR5 := Lib.hid hR5
    have HF5 := Lib.hid hF5
    have hg6 := (Gr.refl w5).alloc (.cells #[.slice (some ⟨g5, off5, none⟩) 4 cap5, .int .i64 R5, .int .i64 F5] 28)
    have HX6 := Lib.hid (Blk.new w5 #[.slice (some ⟨g5, off5, none⟩) 4 cap5, .int .i64 R5, .int .i64 F5] 28)
    have HB86 := Lib.hid ((HB8.out.gr hg5).gr hg6)
    have HB46 := Lib.hid ((HB4.out.gr hg5).gr hg6)
    have HG6 := Lib.hid (HG5.out.trans hg6)
    have HA6 := Lib.hid (HA5.out.gr hg6)
    clear hR5 hF5 ha5 hg5 p0 p1 p2 hg6
    go_wp2_with fail
    generalize w5.alloc (.cells #[.slice (some ⟨g5, off5, none⟩) 4 cap5, .int .i64 R5, .int .i64 F5] 28) = w6 at *
    generalize w5.heap.size = nb at *
    have HUX := Lib.hid (fun w9 (hg : Gr w6 w9) => HUX0.out g5 off5 cap5 R5 F5 w9 (HA6.out.gr hg))
    have HUD := Lib.hid (fun w9 (hg : Gr w6 w9) => HUD0.out gb off cap R (fv - 1) w9 (HA.out.gr (HG6.out.trans hg)))
    have HS0 : (fun w9 => Gr w6 w9 ∧ w9.cell? ⟨nb, 0, none⟩ = some (.slice (some ⟨g5, off5, none⟩) 4 cap5) ∧ w9.cell? ⟨nb, 1, none⟩ = some (.int .i64 R5) ∧ w9.cell? ⟨nb, 2, none⟩ = some (.int .i64 F5) ∧ w9.cell? ⟨w.heap.size, 0, none⟩ = some (.slice (some ⟨gb, off, none⟩) 4 cap) ∧ w9.cell? ⟨w.heap.size, 1, none⟩ = some (.int .i64 R) ∧ w9.cell? ⟨w.heap.size, 2, none⟩ = some (.int .i64 (fv - 1))) w6 := ⟨Gr.refl _, HX6.out.cell rfl, HX6.out.cell rfl, HX6.out.cell rfl, HB46.out.cell rfl, HB46.out.cell rfl, HB46.out.cell rfl⟩
    have HX : Hid (∀ w0 w9 : World, Gr w0 w9 → (fun w9 => Gr w6 w9 ∧ w9.cell? ⟨nb, 0, none⟩ = some (.slice (some ⟨g5, off5, none⟩) 4 cap5) ∧ w9.cell? ⟨nb, 1, none⟩ = some (.int .i64 R5) ∧ w9.cell? ⟨nb, 2, none⟩ = some (.int .i64 F5) ∧ w9.cell? ⟨w.heap.size, 0, none⟩ = some (.slice (some ⟨gb, off, none⟩) 4 cap) ∧ w9.cell? ⟨w.heap.size, 1, none⟩ = some (.int .i64 R) ∧ w9.cell? ⟨w.heap.size, 2, none⟩ = some (.int .i64 (fv - 1))) w0 → (fun w9 => Gr w6 w9 ∧ w9.cell? ⟨nb, 0, none⟩ = some (.slice (some ⟨g5, off5, none⟩) 4 cap5) ∧ w9.cell? ⟨nb, 1, none⟩ = some (.int .i64 R5) ∧ w9.cell? ⟨nb, 2, none⟩ = some (.int .i64 F5) ∧ w9.cell? ⟨w.heap.size, 0, none⟩ = some (.slice (some ⟨gb, off, none⟩) 4 cap) ∧ w9.cell? ⟨w.heap.size, 1, none⟩ = some (.int .i64 R) ∧ w9.cell? ⟨w.heap.size, 2, none⟩ = some (.int .i64 (fv - 1))) w9) := Lib.hid fun w0 w9 hg ⟨h, q0, q1, q2, q3, q4, q5⟩ => ⟨h.trans hg, hg.cell q0, hg.cell q1, hg.cell q2, hg.cell q3, hg.cell q4, hg.cell q5⟩
    apply cutS (fun w9 => Gr w6 w9 ∧ w9.cell? ⟨nb, 0, none⟩ = some (.slice (some ⟨g5, off5, none⟩) 4 cap5) ∧ w9.cell? ⟨nb, 1, none⟩ = some (.int .i64 R5) ∧ w9.cell? ⟨nb, 2, none⟩ = some (.int .i64 F5) ∧ w9.cell? ⟨w.heap.size, 0, none⟩ = some (.slice (some ⟨gb, off, none⟩) 4 cap) ∧ w9.cell? ⟨w.heap.size, 1, none⟩ = some (.int .i64 R) ∧ w9.cell? ⟨w.heap.size, 2, none⟩ = some (.int .i64 (fv - 1)))
    case main =>
      intro HL
      refine wp_region_held_drew (S := (fun w9 => Gr w6 w9 ∧ w9.cell? ⟨nb, 0, none⟩ = some (.slice (some ⟨g5, off5, none⟩) 4 cap5) ∧ w9.cell? ⟨nb, 1, none⟩ = some (.int .i64 R5) ∧ w9.cell? ⟨nb, 2, none⟩ = some (.int .i64 F5) ∧ w9.cell? ⟨w.heap.size, 0, none⟩ = some (.slice (some ⟨gb, off, none⟩) 4 cap) ∧ w9.cell? ⟨w.heap.size, 1, none⟩ = some (.int .i64 R) ∧ w9.cell? ⟨w.heap.size, 2, none⟩ = some (.int .i64 (fv - 1)))) (by kernel_rfl) ?inva0p (fun h0 => ?_)
      case inva0p => ((try dsimp only); (first | exact HS0 | exact HX.out _ _ ((Gr.refl _).drew) HS0))
      refine wpAnyH_take (i := 0) (oi := { dst := some 61, op := Go.Op.load 28 (Go.Operand.tmp 11), type := 28, pos := "ref.go:68", after := #[], guard := none }) (v := ?va0p1) rfl (by kernel_rfl) (by kernel_rfl) (by kernel_rfl) (fun _ _ _ h => h) (Or.inl ⟨by rfl, ?ra0p1⟩) (by assumption) ?_
      case ra0p1 => (intro w hSw; (try dsimp only at hSw); (go_simp <;> with_reducible rfl))
      try simp only [Act.put, List.setIfInBounds_toArray, List.set_cons_zero, List.set_cons_succ]
      refine wpAnyH_take (i := 2) (oi := { dst := some 63, op := Go.Op.fieldAddr 28 (Go.Operand.tmp 4) 1, type := 0, pos := "ref.go:68", after := #[], guard := none }) (v := ?va0p2) rfl (by kernel_rfl) (by kernel_rfl) (by kernel_rfl) (fun _ _ _ h => h) (Or.inl ⟨by rfl, ?ra0p2⟩) (by assumption) ?_
      case ra0p2 => (intro w hSw; (try dsimp only at hSw); (go_simp <;> with_reducible rfl))
      try simp only [Act.put, List.setIfInBounds_toArray, List.set_cons_zero, List.set_cons_succ]
      refine wpAnyH_take (i := 3) (oi := { dst := some 64, op := Go.Op.load 3 (Go.Operand.tmp 63), type := 3, pos := "ref.go:68", after := #[{ on := 2, ground := Go.Ground.data }], guard := none }) (v := ?va0p3) rfl (by kernel_rfl) (by kernel_rfl) (by kernel_rfl) (fun _ _ _ h => h) (Or.inl ⟨by rfl, ?ra0p3⟩) (by assumption) ?_
      case ra0p3 => (intro w hSw; (try dsimp only at hSw); (go_simp <;> with_reducible rfl))
      try simp only [Act.put, List.setIfInBounds_toArray, List.set_cons_zero, List.set_cons_succ]
      refine wpAnyH_ready (rs := [1]) (by kernel_rfl) (by simp) ?_
      refine AllReadyH.cons (o := { dst := some 62, op := Go.Op.call { callee := Go.Callee.value (Go.Operand.func 62), args := #[Go.Operand.tmp 61], argTypes := #[28] }, type := 3, pos := "ref.go:68", after := #[{ on := 0, ground := Go.Ground.data }], guard := none }) rfl (fun K hK => ?_) AllReadyH.nil
      go_simp
      (go_at_call 62; refine (HUX.out _ (by first | exact (h0).1 | exact h0.1)).mono ?_; rintro e w9 ⟨rfl, hgN⟩)
      first | refine hK.out _ _ ?sa0p4 (fun h4 => ?_) | (go_wp2_with fail; refine hK.out _ _ ?sa0p4 (fun h4 => ?_))
      case sa0p4 => ((try dsimp only); exact HX.out _ _ hgN h0)
      clear hK K h0
      try simp only [Act.put, List.setIfInBounds_toArray, List.set_cons_zero, List.set_cons_succ]
      refine wpAnyH_take (i := 4) (oi := { dst := some 65, op := Go.Op.binOp Go.BinOp.gtr 3 (Go.Operand.tmp 62) (Go.Operand.tmp 64) 3, type := 4, pos := "ref.go:68", after := #[{ on := 1, ground := Go.Ground.data }, { on := 3, ground := Go.Ground.data }], guard := none }) (v := (.bool true)) rfl (by kernel_rfl) (by kernel_rfl) (by kernel_rfl) (fun _ _ _ h => h) (Or.inl ⟨by rfl, ?ra0p5⟩) (by assumption) ?_
      case ra0p5 => (intro w hSw; (try dsimp only at hSw); go_simp; have h9 := of_decide_eq_true HQ.out; omega)
      try simp only [Act.put, List.setIfInBounds_toArray, List.set_cons_zero, List.set_cons_succ]
      refine wpAnyH_take (i := 5) (oi := { dst := some 66, op := Go.Op.move (Go.Operand.tmp 65), type := 4, pos := "ref.go:68", after := #[{ on := 4, ground := Go.Ground.data }, { on := 1, ground := Go.Ground.chain }], guard := none }) (v := ?va0p6) rfl (by kernel_rfl) (by kernel_rfl) (by kernel_rfl) (fun _ _ _ h => h) (Or.inl ⟨by rfl, ?ra0p6⟩) (by assumption) ?_
      case ra0p6 => (intro w hSw; (try dsimp only at hSw); (go_simp <;> with_reducible rfl))
      try simp only [Act.put, List.setIfInBounds_toArray, List.set_cons_zero, List.set_cons_succ]
      refine wpAnyH_take (i := 6) (oi := { dst := some 67, op := Go.Op.load 28 (Go.Operand.tmp 11), type := 28, pos := "ref.go:68", after := #[{ on := 5, ground := Go.Ground.guard }], guard := some (5, true) }) (v := ?va0p7) rfl (by kernel_rfl) (by kernel_rfl) (by kernel_rfl) (fun _ _ _ h => h) (Or.inl ⟨by rfl, ?ra0p7⟩) (by assumption) ?_
      case ra0p7 => (intro w hSw; (try dsimp only at hSw); (go_simp <;> with_reducible rfl))
      try simp only [Act.put, List.setIfInBounds_toArray, List.set_cons_zero, List.set_cons_succ]
      refine wpAnyH_take (i := 8) (oi := { dst := some 69, op := Go.Op.load 28 (Go.Operand.tmp 4), type := 28, pos := "ref.go:68", after := #[{ on := 5, ground := Go.Ground.guard }], guard := some (5, true) }) (v := ?va0p8) rfl (by kernel_rfl) (by kernel_rfl) (by kernel_rfl) (fun _ _ _ h => h) (Or.inl ⟨by rfl, ?ra0p8⟩) (by assumption) ?_
      case ra0p8 => (intro w hSw; (try dsimp only at hSw); (go_simp <;> with_reducible rfl))
      try simp only [Act.put, List.setIfInBounds_toArray, List.set_cons_zero, List.set_cons_succ]
      refine wpAnyH_ready (rs := [7]) (by kernel_rfl) (by simp) ?_
      refine AllReadyH.cons (o := { dst := some 68, op := Go.Op.call { callee := Go.Callee.value (Go.Operand.func 62), args := #[Go.Operand.tmp 67], argTypes := #[28] }, type := 3, pos := "ref.go:68", after := #[{ on := 6, ground := Go.Ground.data }, { on := 5, ground := Go.Ground.chain }, { on := 5, ground := Go.Ground.guard }], guard := some (5, true) }) rfl (fun K hK => ?_) AllReadyH.nil
      go_simp
      (go_at_call 62; refine (HUX.out _ (by first | exact (h4).1 | exact h0.1)).mono ?_; rintro e w9 ⟨rfl, hgN⟩)
      first | refine hK.out _ _ ?sa0p9 (fun h9 => ?_) | (go_wp2_with fail; refine hK.out _ _ ?sa0p9 (fun h9 => ?_))
      case sa0p9 => ((try dsimp only); exact HX.out _ _ hgN h4)
      clear hK K h4
      try simp only [Act.put, List.setIfInBounds_toArray, List.set_cons_zero, List.set_cons_succ]
      refine wpAnyH_ready (rs := [9]) (by kernel_rfl) (by simp) ?_
      refine AllReadyH.cons (o := { dst := some 70, op := Go.Op.call { callee := Go.Callee.value (Go.Operand.func 62), args := #[Go.Operand.tmp 69], argTypes := #[28] }, type := 3, pos := "ref.go:68", after := #[{ on := 8, ground := Go.Ground.data }, { on := 7, ground := Go.Ground.chain }, { on := 5, ground := Go.Ground.guard }], guard := some (5, true) }) rfl (fun K hK => ?_) AllReadyH.nil
      go_simp
      (go_at_call 62; refine (HUD.out _ (by first | exact (h9).1 | exact h0.1)).mono ?_; rintro e w9 ⟨rfl, hgN⟩)
      first | refine hK.out _ _ ?sa0p10 (fun h10 => ?_) | (go_wp2_with fail; refine hK.out _ _ ?sa0p10 (fun h10 => ?_))
      case sa0p10 => ((try dsimp only); exact HX.out _ _ hgN h9)
      clear hK K h9
      try simp only [Act.put, List.setIfInBounds_toArray, List.set_cons_zero, List.set_cons_succ]
      refine wpAnyH_take (i := 10) (oi := { dst := some 71, op := Go.Op.binOp Go.BinOp.gtr 3 (Go.Operand.tmp 68) (Go.Operand.tmp 70) 3, type := 4, pos := "ref.go:68", after := #[{ on := 7, ground := Go.Ground.data }, { on := 9, ground := Go.Ground.data }, { on := 5, ground := Go.Ground.guard }], guard := some (5, true) }) (v := (.bool true)) rfl (by kernel_rfl) (by kernel_rfl) (by kernel_rfl) (fun _ _ _ h => h) (Or.inl ⟨by rfl, ?ra0p11⟩) (by assumption) ?_
      case ra0p11 => (intro w hSw; (try dsimp only at hSw); go_simp; have h9 := of_decide_eq_true HQ2.out; omega)
      try simp only [Act.put, List.setIfInBounds_toArray, List.set_cons_zero, List.set_cons_succ]
      refine wpAnyH_take (i := 11) (oi := { dst := some 72, op := Go.Op.pick (Go.Operand.tmp 66) (Go.Operand.tmp 71) (Go.Operand.const (Go.Value.bool false)), type := 4, pos := "ref.go:68", after := #[{ on := 5, ground := Go.Ground.data }, { on := 10, ground := Go.Ground.data }], guard := none }) (v := ?va0p12) rfl (by kernel_rfl) (by kernel_rfl) (by kernel_rfl) (fun _ _ _ h => h) (Or.inl ⟨by rfl, ?ra0p12⟩) (by assumption) ?_
      case ra0p12 => (intro w hSw; (try dsimp only at hSw); (go_simp <;> with_reducible rfl))
      try simp only [Act.put, List.setIfInBounds_toArray, List.set_cons_zero, List.set_cons_succ]
      refine wpAnyH_done (by kernel_rfl) ?_ _
      exact HL _ h10
    case rest =>
      rintro wy ⟨hgy, x0, x1, x2, d0, d1, d2⟩
      have HB5 := Lib.hid (HB86.out.gr hgy)
      have HA7 := Lib.hid (HA6.out.gr hgy)
      have HAD := Lib.hid (HA.out.gr (HG6.out.trans hgy))
      have HG7 := Lib.hid (HG6.out.trans hgy)
      have b0 := HB5.out.cell (i := 0) rfl
      have b1 := HB5.out.cell (i := 1) rfl
      have b2 := HB5.out.cell (i := 2) rfl
      have f0 := HB5.out.free 0
      have f1 := HB5.out.free 1
      have f2 := HB5.out.free 2
      clear hgy HX HS0 HUX HUD HQ
      go_wp2
      have HST := Lib.hid (stored (d := tick d) (R := R) (fv := (fv - 1)) (cap := cap) HB5.out HAD.out)
      have HG8 := Lib.hid (HG7.out.store3 (b := w.heap.size + 1) (by omega) (.slice (some ⟨gb, off, none⟩) 4 cap) (.int .i64 R) (.int .i64 (fv - 1)))
      have r0 := HST.out.1.cell (i := 0) rfl
      have r1 := HST.out.1.cell (i := 1) rfl
      have r2 := HST.out.1.cell (i := 2) rfl
      refine bodyPost_ret (v := .tuple #[.agg #[.slice (some ⟨gb, off, none⟩) 4 cap, .int .i64 R, .int .i64 (fv - 1)], .int .i64 17]) (by simp [results, Try.results19, go_sem, r0, r1, r2]; try rfl) rfl ?_
      exact ⟨_, by rw [HE.out]; rfl, by rw [HE.out]; exact ⟨gb, off, cap, by rw [HT.out, HTR.out]; try rfl, HST.out.2⟩, HG8.out, .inl (by rfl)⟩
  · obtain rfl : fv = -1 := by omega
    rw [if_neg (by decide)] at HT
    have G0 := (Gr.refl w).alloc (.cells #[.slice (some ⟨gb, off, none⟩) 4 cap, .int .i64 R, .int .i64 (-1)] 28)
    have G := G0.alloc (.cells #[.slice none 0 0, .int .i64 0, .int .i64 0] 28)
    have p0 := G.cell c0
    have p1 := G.cell c1
    have p2 := G.cell c2
    have B8 := Blk.new (w.alloc (.cells #[.slice (some ⟨gb, off, none⟩) 4 cap, .int .i64 R, .int .i64 (-1)] 28)) #[.slice none 0 0, .int .i64 0, .int .i64 0] 28
    have B4 := (Blk.new w #[.slice (some ⟨gb, off, none⟩) 4 cap, .int .i64 R, .int .i64 (-1)] 28).gr ((Gr.refl _).alloc (.cells #[.slice none 0 0, .int .i64 0, .int .i64 0] 28))
    have hsz : (w.alloc (.cells #[.slice (some ⟨gb, off, none⟩) 4 cap, .int .i64 R, .int .i64 (-1)] 28)).heap.size = w.heap.size + 1 := by simp
    rw [hsz] at B8
    have HB8 := Lib.hid (B8.gr ((Gr.refl _).alloc (.cells #[.string (n ++ s), .string u, .bool p] 106)))
    have HB4 := Lib.hid (B4.gr ((Gr.refl _).alloc (.cells #[.string (n ++ s), .string u, .bool p] 106)))
    have HG := Lib.hid (G.alloc (.cells #[.string (n ++ s), .string u, .bool p] 106))
    have HRK : Hid (∀ W, Gr w W → RkIs W (.agg #[.slice (some ⟨gb, off, none⟩) 4 cap, .int .i64 R, .int .i64 (-1)]) (tick d)) := Lib.hid fun W hW => ⟨gb, off, cap, by rw [HT.out, HTR.out]; try rfl, HA.out.gr hW⟩
    clear G G0 c0 c1 c2 B8 B4 hsz
    go_enter Try.func19, Try.ntmps19
    go_wp2_with fail
    refine (HW.out _ _ (HRK.out _ HG.out)).mono ?_
    rintro e w5 ⟨v5, rfl, hr5, hg5, hn5⟩
    obtain ⟨g5, off5, cap5, rfl, ha5⟩ := hr5
    have HG5 := Lib.hid (HG.out.trans hg5)
    have HN5 : Hid (w.heap.size ≤ g5) := Lib.hid (Nat.le_trans HG.out.size hn5)
    clear hn5
    have HA5 := Lib.hid ha5
    generalize hR5 : ((putF (tick d) k ((gApp s) (d.fs k))).room : Int) = R5 at *
    generalize hF5 : ((putF (tick d) k ((gApp s) (d.fs k))).fail : Int) - 1 = F5 at *
    have HR5 := Lib.hid hR5
    have HF5 := Lib.hid hF5
    have hg6 := (Gr.refl w5).alloc (.cells #[.slice (some ⟨g5, off5, none⟩) 4 cap5, .int .i64 R5, .int .i64 F5] 28)
    have HX6 := Lib.hid (Blk.new w5 #[.slice (some ⟨g5, off5, none⟩) 4 cap5, .int .i64 R5, .int .i64 F5] 28)
    have HB86 := Lib.hid ((HB8.out.gr hg5).gr hg6)
    have HB46 := Lib.hid ((HB4.out.gr hg5).gr hg6)
    have HG6 := Lib.hid (HG5.out.trans hg6)
    have HA6 := Lib.hid (HA5.out.gr hg6)
    clear hR5 hF5 ha5 hg5 p0 p1 p2 hg6
    go_wp2_with fail
    generalize w5.alloc (.cells #[.slice (some ⟨g5, off5, none⟩) 4 cap5, .int .i64 R5, .int .i64 F5] 28) = w6 at *
    generalize w5.heap.size = nb at *
    have HUX := Lib.hid (fun w9 (hg : Gr w6 w9) => HUX0.out g5 off5 cap5 R5 F5 w9 (HA6.out.gr hg))
    have HUD := Lib.hid (fun w9 (hg : Gr w6 w9) => HUD0.out gb off cap R (-1) w9 (HA.out.gr (HG6.out.trans hg)))
    have HS0 : (fun w9 => Gr w6 w9 ∧ w9.cell? ⟨nb, 0, none⟩ = some (.slice (some ⟨g5, off5, none⟩) 4 cap5) ∧ w9.cell? ⟨nb, 1, none⟩ = some (.int .i64 R5) ∧ w9.cell? ⟨nb, 2, none⟩ = some (.int .i64 F5) ∧ w9.cell? ⟨w.heap.size, 0, none⟩ = some (.slice (some ⟨gb, off, none⟩) 4 cap) ∧ w9.cell? ⟨w.heap.size, 1, none⟩ = some (.int .i64 R) ∧ w9.cell? ⟨w.heap.size, 2, none⟩ = some (.int .i64 (-1))) w6 := ⟨Gr.refl _, HX6.out.cell rfl, HX6.out.cell rfl, HX6.out.cell rfl, HB46.out.cell rfl, HB46.out.cell rfl, HB46.out.cell rfl⟩
    have HX : Hid (∀ w0 w9 : World, Gr w0 w9 → (fun w9 => Gr w6 w9 ∧ w9.cell? ⟨nb, 0, none⟩ = some (.slice (some ⟨g5, off5, none⟩) 4 cap5) ∧ w9.cell? ⟨nb, 1, none⟩ = some (.int .i64 R5) ∧ w9.cell? ⟨nb, 2, none⟩ = some (.int .i64 F5) ∧ w9.cell? ⟨w.heap.size, 0, none⟩ = some (.slice (some ⟨gb, off, none⟩) 4 cap) ∧ w9.cell? ⟨w.heap.size, 1, none⟩ = some (.int .i64 R) ∧ w9.cell? ⟨w.heap.size, 2, none⟩ = some (.int .i64 (-1))) w0 → (fun w9 => Gr w6 w9 ∧ w9.cell? ⟨nb, 0, none⟩ = some (.slice (some ⟨g5, off5, none⟩) 4 cap5) ∧ w9.cell? ⟨nb, 1, none⟩ = some (.int .i64 R5) ∧ w9.cell? ⟨nb, 2, none⟩ = some (.int .i64 F5) ∧ w9.cell? ⟨w.heap.size, 0, none⟩ = some (.slice (some ⟨gb, off, none⟩) 4 cap) ∧ w9.cell? ⟨w.heap.size, 1, none⟩ = some (.int .i64 R) ∧ w9.cell? ⟨w.heap.size, 2, none⟩ = some (.int .i64 (-1))) w9) := Lib.hid fun w0 w9 hg ⟨h, q0, q1, q2, q3, q4, q5⟩ => ⟨h.trans hg, hg.cell q0, hg.cell q1, hg.cell q2, hg.cell q3, hg.cell q4, hg.cell q5⟩
    apply cutS (fun w9 => Gr w6 w9 ∧ w9.cell? ⟨nb, 0, none⟩ = some (.slice (some ⟨g5, off5, none⟩) 4 cap5) ∧ w9.cell? ⟨nb, 1, none⟩ = some (.int .i64 R5) ∧ w9.cell? ⟨nb, 2, none⟩ = some (.int .i64 F5) ∧ w9.cell? ⟨w.heap.size, 0, none⟩ = some (.slice (some ⟨gb, off, none⟩) 4 cap) ∧ w9.cell? ⟨w.heap.size, 1, none⟩ = some (.int .i64 R) ∧ w9.cell? ⟨w.heap.size, 2, none⟩ = some (.int .i64 (-1)))
    case main =>
      intro HL
      refine wp_region_held_drew (S := (fun w9 => Gr w6 w9 ∧ w9.cell? ⟨nb, 0, none⟩ = some (.slice (some ⟨g5, off5, none⟩) 4 cap5) ∧ w9.cell? ⟨nb, 1, none⟩ = some (.int .i64 R5) ∧ w9.cell? ⟨nb, 2, none⟩ = some (.int .i64 F5) ∧ w9.cell? ⟨w.heap.size, 0, none⟩ = some (.slice (some ⟨gb, off, none⟩) 4 cap) ∧ w9.cell? ⟨w.heap.size, 1, none⟩ = some (.int .i64 R) ∧ w9.cell? ⟨w.heap.size, 2, none⟩ = some (.int .i64 (-1)))) (by kernel_rfl) ?inva0n (fun h0 => ?_)
      case inva0n => ((try dsimp only); (first | exact HS0 | exact HX.out _ _ ((Gr.refl _).drew) HS0))
      refine wpAnyH_take (i := 0) (oi := { dst := some 61, op := Go.Op.load 28 (Go.Operand.tmp 11), type := 28, pos := "ref.go:68", after := #[], guard := none }) (v := ?va0n1) rfl (by kernel_rfl) (by kernel_rfl) (by kernel_rfl) (fun _ _ _ h => h) (Or.inl ⟨by rfl, ?ra0n1⟩) (by assumption) ?_
      case ra0n1 => (intro w hSw; (try dsimp only at hSw); (go_simp <;> with_reducible rfl))
      try simp only [Act.put, List.setIfInBounds_toArray, List.set_cons_zero, List.set_cons_succ]
      refine wpAnyH_take (i := 2) (oi := { dst := some 63, op := Go.Op.fieldAddr 28 (Go.Operand.tmp 4) 1, type := 0, pos := "ref.go:68", after := #[], guard := none }) (v := ?va0n2) rfl (by kernel_rfl) (by kernel_rfl) (by kernel_rfl) (fun _ _ _ h => h) (Or.inl ⟨by rfl, ?ra0n2⟩) (by assumption) ?_
      case ra0n2 => (intro w hSw; (try dsimp only at hSw); (go_simp <;> with_reducible rfl))
      try simp only [Act.put, List.setIfInBounds_toArray, List.set_cons_zero, List.set_cons_succ]
      refine wpAnyH_take (i := 3) (oi := { dst := some 64, op := Go.Op.load 3 (Go.Operand.tmp 63), type := 3, pos := "ref.go:68", after := #[{ on := 2, ground := Go.Ground.data }], guard := none }) (v := ?va0n3) rfl (by kernel_rfl) (by kernel_rfl) (by kernel_rfl) (fun _ _ _ h => h) (Or.inl ⟨by rfl, ?ra0n3⟩) (by assumption) ?_
      case ra0n3 => (intro w hSw; (try dsimp only at hSw); (go_simp <;> with_reducible rfl))
      try simp only [Act.put, List.setIfInBounds_toArray, List.set_cons_zero, List.set_cons_succ]
      refine wpAnyH_ready (rs := [1]) (by kernel_rfl) (by simp) ?_
      refine AllReadyH.cons (o := { dst := some 62, op := Go.Op.call { callee := Go.Callee.value (Go.Operand.func 62), args := #[Go.Operand.tmp 61], argTypes := #[28] }, type := 3, pos := "ref.go:68", after := #[{ on := 0, ground := Go.Ground.data }], guard := none }) rfl (fun K hK => ?_) AllReadyH.nil
      go_simp
      (go_at_call 62; refine (HUX.out _ (by first | exact (h0).1 | exact h0.1)).mono ?_; rintro e w9 ⟨rfl, hgN⟩)
      first | refine hK.out _ _ ?sa0n4 (fun h4 => ?_) | (go_wp2_with fail; refine hK.out _ _ ?sa0n4 (fun h4 => ?_))
      case sa0n4 => ((try dsimp only); exact HX.out _ _ hgN h0)
      clear hK K h0
      try simp only [Act.put, List.setIfInBounds_toArray, List.set_cons_zero, List.set_cons_succ]
      refine wpAnyH_take (i := 4) (oi := { dst := some 65, op := Go.Op.binOp Go.BinOp.gtr 3 (Go.Operand.tmp 62) (Go.Operand.tmp 64) 3, type := 4, pos := "ref.go:68", after := #[{ on := 1, ground := Go.Ground.data }, { on := 3, ground := Go.Ground.data }], guard := none }) (v := (.bool true)) rfl (by kernel_rfl) (by kernel_rfl) (by kernel_rfl) (fun _ _ _ h => h) (Or.inl ⟨by rfl, ?ra0n5⟩) (by assumption) ?_
      case ra0n5 => (intro w hSw; (try dsimp only at hSw); go_simp; have h9 := of_decide_eq_true HQ.out; omega)
      try simp only [Act.put, List.setIfInBounds_toArray, List.set_cons_zero, List.set_cons_succ]
      refine wpAnyH_take (i := 5) (oi := { dst := some 66, op := Go.Op.move (Go.Operand.tmp 65), type := 4, pos := "ref.go:68", after := #[{ on := 4, ground := Go.Ground.data }, { on := 1, ground := Go.Ground.chain }], guard := none }) (v := ?va0n6) rfl (by kernel_rfl) (by kernel_rfl) (by kernel_rfl) (fun _ _ _ h => h) (Or.inl ⟨by rfl, ?ra0n6⟩) (by assumption) ?_
      case ra0n6 => (intro w hSw; (try dsimp only at hSw); (go_simp <;> with_reducible rfl))
      try simp only [Act.put, List.setIfInBounds_toArray, List.set_cons_zero, List.set_cons_succ]
      refine wpAnyH_take (i := 6) (oi := { dst := some 67, op := Go.Op.load 28 (Go.Operand.tmp 11), type := 28, pos := "ref.go:68", after := #[{ on := 5, ground := Go.Ground.guard }], guard := some (5, true) }) (v := ?va0n7) rfl (by kernel_rfl) (by kernel_rfl) (by kernel_rfl) (fun _ _ _ h => h) (Or.inl ⟨by rfl, ?ra0n7⟩) (by assumption) ?_
      case ra0n7 => (intro w hSw; (try dsimp only at hSw); (go_simp <;> with_reducible rfl))
      try simp only [Act.put, List.setIfInBounds_toArray, List.set_cons_zero, List.set_cons_succ]
      refine wpAnyH_take (i := 8) (oi := { dst := some 69, op := Go.Op.load 28 (Go.Operand.tmp 4), type := 28, pos := "ref.go:68", after := #[{ on := 5, ground := Go.Ground.guard }], guard := some (5, true) }) (v := ?va0n8) rfl (by kernel_rfl) (by kernel_rfl) (by kernel_rfl) (fun _ _ _ h => h) (Or.inl ⟨by rfl, ?ra0n8⟩) (by assumption) ?_
      case ra0n8 => (intro w hSw; (try dsimp only at hSw); (go_simp <;> with_reducible rfl))
      try simp only [Act.put, List.setIfInBounds_toArray, List.set_cons_zero, List.set_cons_succ]
      refine wpAnyH_ready (rs := [7]) (by kernel_rfl) (by simp) ?_
      refine AllReadyH.cons (o := { dst := some 68, op := Go.Op.call { callee := Go.Callee.value (Go.Operand.func 62), args := #[Go.Operand.tmp 67], argTypes := #[28] }, type := 3, pos := "ref.go:68", after := #[{ on := 6, ground := Go.Ground.data }, { on := 5, ground := Go.Ground.chain }, { on := 5, ground := Go.Ground.guard }], guard := some (5, true) }) rfl (fun K hK => ?_) AllReadyH.nil
      go_simp
      (go_at_call 62; refine (HUX.out _ (by first | exact (h4).1 | exact h0.1)).mono ?_; rintro e w9 ⟨rfl, hgN⟩)
      first | refine hK.out _ _ ?sa0n9 (fun h9 => ?_) | (go_wp2_with fail; refine hK.out _ _ ?sa0n9 (fun h9 => ?_))
      case sa0n9 => ((try dsimp only); exact HX.out _ _ hgN h4)
      clear hK K h4
      try simp only [Act.put, List.setIfInBounds_toArray, List.set_cons_zero, List.set_cons_succ]
      refine wpAnyH_ready (rs := [9]) (by kernel_rfl) (by simp) ?_
      refine AllReadyH.cons (o := { dst := some 70, op := Go.Op.call { callee := Go.Callee.value (Go.Operand.func 62), args := #[Go.Operand.tmp 69], argTypes := #[28] }, type := 3, pos := "ref.go:68", after := #[{ on := 8, ground := Go.Ground.data }, { on := 7, ground := Go.Ground.chain }, { on := 5, ground := Go.Ground.guard }], guard := some (5, true) }) rfl (fun K hK => ?_) AllReadyH.nil
      go_simp
      (go_at_call 62; refine (HUD.out _ (by first | exact (h9).1 | exact h0.1)).mono ?_; rintro e w9 ⟨rfl, hgN⟩)
      first | refine hK.out _ _ ?sa0n10 (fun h10 => ?_) | (go_wp2_with fail; refine hK.out _ _ ?sa0n10 (fun h10 => ?_))
      case sa0n10 => ((try dsimp only); exact HX.out _ _ hgN h9)
      clear hK K h9
      try simp only [Act.put, List.setIfInBounds_toArray, List.set_cons_zero, List.set_cons_succ]
      refine wpAnyH_take (i := 10) (oi := { dst := some 71, op := Go.Op.binOp Go.BinOp.gtr 3 (Go.Operand.tmp 68) (Go.Operand.tmp 70) 3, type := 4, pos := "ref.go:68", after := #[{ on := 7, ground := Go.Ground.data }, { on := 9, ground := Go.Ground.data }, { on := 5, ground := Go.Ground.guard }], guard := some (5, true) }) (v := (.bool true)) rfl (by kernel_rfl) (by kernel_rfl) (by kernel_rfl) (fun _ _ _ h => h) (Or.inl ⟨by rfl, ?ra0n11⟩) (by assumption) ?_
      case ra0n11 => (intro w hSw; (try dsimp only at hSw); go_simp; have h9 := of_decide_eq_true HQ2.out; omega)
      try simp only [Act.put, List.setIfInBounds_toArray, List.set_cons_zero, List.set_cons_succ]
      refine wpAnyH_take (i := 11) (oi := { dst := some 72, op := Go.Op.pick (Go.Operand.tmp 66) (Go.Operand.tmp 71) (Go.Operand.const (Go.Value.bool false)), type := 4, pos := "ref.go:68", after := #[{ on := 5, ground := Go.Ground.data }, { on := 10, ground := Go.Ground.data }], guard := none }) (v := ?va0n12) rfl (by kernel_rfl) (by kernel_rfl) (by kernel_rfl) (fun _ _ _ h => h) (Or.inl ⟨by rfl, ?ra0n12⟩) (by assumption) ?_
      case ra0n12 => (intro w hSw; (try dsimp only at hSw); (go_simp <;> with_reducible rfl))
      try simp only [Act.put, List.setIfInBounds_toArray, List.set_cons_zero, List.set_cons_succ]
      refine wpAnyH_done (by kernel_rfl) ?_ _
      exact HL _ h10
    case rest =>
      rintro wy ⟨hgy, x0, x1, x2, d0, d1, d2⟩
      have HB5 := Lib.hid (HB86.out.gr hgy)
      have HA7 := Lib.hid (HA6.out.gr hgy)
      have HAD := Lib.hid (HA.out.gr (HG6.out.trans hgy))
      have HG7 := Lib.hid (HG6.out.trans hgy)
      have b0 := HB5.out.cell (i := 0) rfl
      have b1 := HB5.out.cell (i := 1) rfl
      have b2 := HB5.out.cell (i := 2) rfl
      have f0 := HB5.out.free 0
      have f1 := HB5.out.free 1
      have f2 := HB5.out.free 2
      clear hgy HX HS0 HUX HUD HQ
      go_wp2
      have HST := Lib.hid (stored (d := tick d) (R := R) (fv := (-1)) (cap := cap) HB5.out HAD.out)
      have HG8 := Lib.hid (HG7.out.store3 (b := w.heap.size + 1) (by omega) (.slice (some ⟨gb, off, none⟩) 4 cap) (.int .i64 R) (.int .i64 (-1)))
      have r0 := HST.out.1.cell (i := 0) rfl
      have r1 := HST.out.1.cell (i := 1) rfl
      have r2 := HST.out.1.cell (i := 2) rfl
      refine bodyPost_ret (v := .tuple #[.agg #[.slice (some ⟨gb, off, none⟩) 4 cap, .int .i64 R, .int .i64 (-1)], .int .i64 17]) (by simp [results, Try.results19, go_sem, r0, r1, r2]; try rfl) rfl ?_
      exact ⟨_, by rw [HE.out]; rfl, by rw [HE.out]; exact ⟨gb, off, cap, by rw [HT.out, HTR.out]; try rfl, HST.out.2⟩, HG8.out, .inl (by rfl)⟩
set_option maxRecDepth 100000 in
set_option maxHeartbeats 4000000 in
theorem refDo_put_yes {d : D} (k : Nat) (hk : k < 4) (s : ByteArray) (hss : s.size ≤ 1099511627776) (v : Value) (w : World) (h : RkIs w v d) (ho : d.Ok) (h1 : d.fail ≠ 1) (hfull : full (tick d) k ((gPut s) (d.fs k)) = false) :
    Calls Try.prog 19 #[v, .int .i64 1, .int .i64 (k : Nat), .string s] w (RDo d (k : Nat) (gPut s) v w) := by
  obtain ⟨gb, off, cap, rfl, ha⟩ := h
  have HE := Lib.hid (act_yes (d := d) (gPut s) hk h1 hfull)
  obtain ⟨c0, c1, c2⟩ := rk_cells ha hk
  have HW0 := fun (v : Value) (w : World) (h : RkIs w v (tick d)) => refWith_any k hk ((gPut s) (d.fs k)) (tick d) v w h
  have hfb := ho.fail
  have HA := Lib.hid ha
  have hbd := fun j hj => ok_now ho j hj
  have hfull2 := full_iff (tick_ok ho) k hk ((gPut s) (d.fs k))
  rw [hfull] at hfull2
  have hus : used d.fs ≤ d.room := ho.used
  have HUX0 := Lib.hid (fun g5 off5 cap5 R5 F5 (w9 : World) (h : RkAt w9 g5 off5 (putF (tick d) k ((gPut s) (d.fs k))).fs) => refUsed_any g5 off5 cap5 (putF (tick d) k ((gPut s) (d.fs k))).fs R5 F5 w9 h (fun j hj => by
    have h9 := hbd j hj
    show (upd d.fs k ((gPut s) (d.fs k)) j).now.size ≤ _ ∧ (upd d.fs k ((gPut s) (d.fs k)) j).sure.size ≤ _
    by_cases e : j = k
    · subst e; rw [upd_same]; show s.size ≤ _ ∧ (d.fs j).sure.size ≤ _; omega
    · rw [upd_other _ _ _ _ e]; omega))
  have HUD0 := Lib.hid (fun g5 off5 cap5 R5 F5 (w9 : World) (h : RkAt w9 g5 off5 d.fs) => refUsed_any g5 off5 cap5 d.fs R5 F5 w9 h (fun j hj => by have h9 := hbd j hj; omega))
  clear ha hbd
  have hk4 : (k : Int) < 4 := by omega
  obtain ⟨fv, hf⟩ : ∃ fv : Int, (d.fail : Int) - 1 = fv := ⟨_, rfl⟩
  rw [hf]
  have HT := Lib.hid (show (((tick d).fail : Nat) : Int) - 1 = if 0 < fv then fv - 1 else fv by show ((d.fail - 1 : Nat) : Int) - 1 = _; split <;> omega)
  have hf0 : fv ≠ 0 := by omega
  have hfu : fv ≤ 1073741824 := by omega
  have hfl : -1 ≤ fv := by omega
  generalize hU : used (putF (tick d) k ((gPut s) (d.fs k))).fs = U at *
  generalize hV : used d.fs = V at *
  have hq : (decide ((U : Int) > (d.room : Int))) = false := by rw [hfull2]; exact decide_eq_decide.2 (by show (d.room : Int) < U ↔ (tick d).room < U; show (d.room : Int) < U ↔ d.room < U; omega)
  have hq2 : false = true → decide ((U : Int) > (V : Int)) = true := fun e => by rw [e] at hq; have := of_decide_eq_true hq; exact decide_eq_true (by omega)
  have hnb : (d.fs k).now.size ≤ 1099511627776 := (ok_now ho k hk).1
  generalize hr : (d.room : Int) = R at *
  generalize hn : (d.fs k).now = n at *
  generalize hs : (d.fs k).sure = u at *
  generalize hp : (d.fs k).put = p at *
  rw [show ((gPut s) (d.fs k)).now = s from rfl, show ((gPut s) (d.fs k)).sure = u from hs, show ((gPut s) (d.fs k)).put = true from rfl] at HW0
  have HW := Lib.hid HW0
  have HTR := Lib.hid (show ((tick d).room : Int) = R from hr)
  have HQ := Lib.hid hq
  skip
  clear HW0 hr hf hn hs hp h1 ho hfb hU hV hq hq2 hfull hfull2 hus
  by_cases hpos : 0 < fv
  · have hw1 : IntKind.i64.wrap (fv - 1) = fv - 1 := IntWalk.i64_in _ (by omega)
    rw [if_pos hpos] at HT
    have G0 := (Gr.refl w).alloc (.cells #[.slice (some ⟨gb, off, none⟩) 4 cap, .int .i64 R, .int .i64 (fv - 1)] 28)
    have G := G0.alloc (.cells #[.slice none 0 0, .int .i64 0, .int .i64 0] 28)
    have p0 := G.cell c0
    have p1 := G.cell c1
    have p2 := G.cell c2
    have B8 := Blk.new (w.alloc (.cells #[.slice (some ⟨gb, off, none⟩) 4 cap, .int .i64 R, .int .i64 (fv - 1)] 28)) #[.slice none 0 0, .int .i64 0, .int .i64 0] 28
    have B4 := (Blk.new w #[.slice (some ⟨gb, off, none⟩) 4 cap, .int .i64 R, .int .i64 (fv - 1)] 28).gr ((Gr.refl _).alloc (.cells #[.slice none 0 0, .int .i64 0, .int .i64 0] 28))
    have hsz : (w.alloc (.cells #[.slice (some ⟨gb, off, none⟩) 4 cap, .int .i64 R, .int .i64 (fv - 1)] 28)).heap.size = w.heap.size + 1 := by simp
    rw [hsz] at B8
    have HB8 := Lib.hid (B8.gr ((Gr.refl _).alloc (.cells #[.string s, .string u, .bool true] 106)))
    have HB4 := Lib.hid (B4.gr ((Gr.refl _).alloc (.cells #[.string s, .string u, .bool true] 106)))
    have HG := Lib.hid (G.alloc (.cells #[.string s, .string u, .bool true] 106))
    have HRK : Hid (∀ W, Gr w W → RkIs W (.agg #[.slice (some ⟨gb, off, none⟩) 4 cap, .int .i64 R, .int .i64 (fv - 1)]) (tick d)) := Lib.hid fun W hW => ⟨gb, off, cap, by rw [HT.out, HTR.out]; try rfl, HA.out.gr hW⟩
    clear G G0 c0 c1 c2 B8 B4 hsz
    go_enter Try.func19, Try.ntmps19
    go_wp2_with fail
    refine (HW.out _ _ (HRK.out _ HG.out)).mono ?_
    rintro e w5 ⟨v5, rfl, hr5, hg5, hn5⟩
    obtain ⟨g5, off5, cap5, rfl, ha5⟩ := hr5
    have HG5 := Lib.hid (HG.out.trans hg5)
    have HN5 : Hid (w.heap.size ≤ g5) := Lib.hid (Nat.le_trans HG.out.size hn5)
    clear hn5
    have HA5 := Lib.hid ha5
    generalize hR5 : ((putF (tick d) k ((gPut s) (d.fs k))).room : Int) = R5 at *
    generalize hF5 : ((putF (tick d) k ((gPut s) (d.fs k))).fail : Int) - 1 = F5 at *
    have HR5 := Lib.hid hR5
    have HF5 := Lib.hid hF5
    have hg6 := (Gr.refl w5).alloc (.cells #[.slice (some ⟨g5, off5, none⟩) 4 cap5, .int .i64 R5, .int .i64 F5] 28)
    have HX6 := Lib.hid (Blk.new w5 #[.slice (some ⟨g5, off5, none⟩) 4 cap5, .int .i64 R5, .int .i64 F5] 28)
    have HB86 := Lib.hid ((HB8.out.gr hg5).gr hg6)
    have HB46 := Lib.hid ((HB4.out.gr hg5).gr hg6)
    have HG6 := Lib.hid (HG5.out.trans hg6)
    have HA6 := Lib.hid (HA5.out.gr hg6)
    clear hR5 hF5 ha5 hg5 p0 p1 p2 hg6
    go_wp2_with fail
    generalize w5.alloc (.cells #[.slice (some ⟨g5, off5, none⟩) 4 cap5, .int .i64 R5, .int .i64 F5] 28) = w6 at *
    generalize w5.heap.size = nb at *
    have HUX := Lib.hid (fun w9 (hg : Gr w6 w9) => HUX0.out g5 off5 cap5 R5 F5 w9 (HA6.out.gr hg))
    have HUD := Lib.hid (fun w9 (hg : Gr w6 w9) => HUD0.out gb off cap R (fv - 1) w9 (HA.out.gr (HG6.out.trans hg)))
    have HS0 : (fun w9 => Gr w6 w9 ∧ w9.cell? ⟨nb, 0, none⟩ = some (.slice (some ⟨g5, off5, none⟩) 4 cap5) ∧ w9.cell? ⟨nb, 1, none⟩ = some (.int .i64 R5) ∧ w9.cell? ⟨nb, 2, none⟩ = some (.int .i64 F5) ∧ w9.cell? ⟨w.heap.size, 0, none⟩ = some (.slice (some ⟨gb, off, none⟩) 4 cap) ∧ w9.cell? ⟨w.heap.size, 1, none⟩ = some (.int .i64 R) ∧ w9.cell? ⟨w.heap.size, 2, none⟩ = some (.int .i64 (fv - 1))) w6 := ⟨Gr.refl _, HX6.out.cell rfl, HX6.out.cell rfl, HX6.out.cell rfl, HB46.out.cell rfl, HB46.out.cell rfl, HB46.out.cell rfl⟩
    have HX : Hid (∀ w0 w9 : World, Gr w0 w9 → (fun w9 => Gr w6 w9 ∧ w9.cell? ⟨nb, 0, none⟩ = some (.slice (some ⟨g5, off5, none⟩) 4 cap5) ∧ w9.cell? ⟨nb, 1, none⟩ = some (.int .i64 R5) ∧ w9.cell? ⟨nb, 2, none⟩ = some (.int .i64 F5) ∧ w9.cell? ⟨w.heap.size, 0, none⟩ = some (.slice (some ⟨gb, off, none⟩) 4 cap) ∧ w9.cell? ⟨w.heap.size, 1, none⟩ = some (.int .i64 R) ∧ w9.cell? ⟨w.heap.size, 2, none⟩ = some (.int .i64 (fv - 1))) w0 → (fun w9 => Gr w6 w9 ∧ w9.cell? ⟨nb, 0, none⟩ = some (.slice (some ⟨g5, off5, none⟩) 4 cap5) ∧ w9.cell? ⟨nb, 1, none⟩ = some (.int .i64 R5) ∧ w9.cell? ⟨nb, 2, none⟩ = some (.int .i64 F5) ∧ w9.cell? ⟨w.heap.size, 0, none⟩ = some (.slice (some ⟨gb, off, none⟩) 4 cap) ∧ w9.cell? ⟨w.heap.size, 1, none⟩ = some (.int .i64 R) ∧ w9.cell? ⟨w.heap.size, 2, none⟩ = some (.int .i64 (fv - 1))) w9) := Lib.hid fun w0 w9 hg ⟨h, q0, q1, q2, q3, q4, q5⟩ => ⟨h.trans hg, hg.cell q0, hg.cell q1, hg.cell q2, hg.cell q3, hg.cell q4, hg.cell q5⟩
    apply cutS (fun w9 => Gr w6 w9 ∧ w9.cell? ⟨nb, 0, none⟩ = some (.slice (some ⟨g5, off5, none⟩) 4 cap5) ∧ w9.cell? ⟨nb, 1, none⟩ = some (.int .i64 R5) ∧ w9.cell? ⟨nb, 2, none⟩ = some (.int .i64 F5) ∧ w9.cell? ⟨w.heap.size, 0, none⟩ = some (.slice (some ⟨gb, off, none⟩) 4 cap) ∧ w9.cell? ⟨w.heap.size, 1, none⟩ = some (.int .i64 R) ∧ w9.cell? ⟨w.heap.size, 2, none⟩ = some (.int .i64 (fv - 1)))
    case main =>
      intro HL
      refine wp_region_held_drew (S := (fun w9 => Gr w6 w9 ∧ w9.cell? ⟨nb, 0, none⟩ = some (.slice (some ⟨g5, off5, none⟩) 4 cap5) ∧ w9.cell? ⟨nb, 1, none⟩ = some (.int .i64 R5) ∧ w9.cell? ⟨nb, 2, none⟩ = some (.int .i64 F5) ∧ w9.cell? ⟨w.heap.size, 0, none⟩ = some (.slice (some ⟨gb, off, none⟩) 4 cap) ∧ w9.cell? ⟨w.heap.size, 1, none⟩ = some (.int .i64 R) ∧ w9.cell? ⟨w.heap.size, 2, none⟩ = some (.int .i64 (fv - 1)))) (by kernel_rfl) ?inva1p (fun h0 => ?_)
      case inva1p => ((try dsimp only); (first | exact HS0 | exact HX.out _ _ ((Gr.refl _).drew) HS0))
      refine wpAnyH_take (i := 0) (oi := { dst := some 61, op := Go.Op.load 28 (Go.Operand.tmp 11), type := 28, pos := "ref.go:68", after := #[], guard := none }) (v := ?va1p1) rfl (by kernel_rfl) (by kernel_rfl) (by kernel_rfl) (fun _ _ _ h => h) (Or.inl ⟨by rfl, ?ra1p1⟩) (by assumption) ?_
      case ra1p1 => (intro w hSw; (try dsimp only at hSw); (go_simp <;> with_reducible rfl))
      try simp only [Act.put, List.setIfInBounds_toArray, List.set_cons_zero, List.set_cons_succ]
      refine wpAnyH_take (i := 2) (oi := { dst := some 63, op := Go.Op.fieldAddr 28 (Go.Operand.tmp 4) 1, type := 0, pos := "ref.go:68", after := #[], guard := none }) (v := ?va1p2) rfl (by kernel_rfl) (by kernel_rfl) (by kernel_rfl) (fun _ _ _ h => h) (Or.inl ⟨by rfl, ?ra1p2⟩) (by assumption) ?_
      case ra1p2 => (intro w hSw; (try dsimp only at hSw); (go_simp <;> with_reducible rfl))
      try simp only [Act.put, List.setIfInBounds_toArray, List.set_cons_zero, List.set_cons_succ]
      refine wpAnyH_take (i := 3) (oi := { dst := some 64, op := Go.Op.load 3 (Go.Operand.tmp 63), type := 3, pos := "ref.go:68", after := #[{ on := 2, ground := Go.Ground.data }], guard := none }) (v := ?va1p3) rfl (by kernel_rfl) (by kernel_rfl) (by kernel_rfl) (fun _ _ _ h => h) (Or.inl ⟨by rfl, ?ra1p3⟩) (by assumption) ?_
      case ra1p3 => (intro w hSw; (try dsimp only at hSw); (go_simp <;> with_reducible rfl))
      try simp only [Act.put, List.setIfInBounds_toArray, List.set_cons_zero, List.set_cons_succ]
      refine wpAnyH_ready (rs := [1]) (by kernel_rfl) (by simp) ?_
      refine AllReadyH.cons (o := { dst := some 62, op := Go.Op.call { callee := Go.Callee.value (Go.Operand.func 62), args := #[Go.Operand.tmp 61], argTypes := #[28] }, type := 3, pos := "ref.go:68", after := #[{ on := 0, ground := Go.Ground.data }], guard := none }) rfl (fun K hK => ?_) AllReadyH.nil
      go_simp
      (go_at_call 62; refine (HUX.out _ (by first | exact (h0).1 | exact h0.1)).mono ?_; rintro e w9 ⟨rfl, hgN⟩)
      first | refine hK.out _ _ ?sa1p4 (fun h4 => ?_) | (go_wp2_with fail; refine hK.out _ _ ?sa1p4 (fun h4 => ?_))
      case sa1p4 => ((try dsimp only); exact HX.out _ _ hgN h0)
      clear hK K h0
      try simp only [Act.put, List.setIfInBounds_toArray, List.set_cons_zero, List.set_cons_succ]
      refine wpAnyH_take (i := 4) (oi := { dst := some 65, op := Go.Op.binOp Go.BinOp.gtr 3 (Go.Operand.tmp 62) (Go.Operand.tmp 64) 3, type := 4, pos := "ref.go:68", after := #[{ on := 1, ground := Go.Ground.data }, { on := 3, ground := Go.Ground.data }], guard := none }) (v := (.bool false)) rfl (by kernel_rfl) (by kernel_rfl) (by kernel_rfl) (fun _ _ _ h => h) (Or.inl ⟨by rfl, ?ra1p5⟩) (by assumption) ?_
      case ra1p5 => (intro w hSw; (try dsimp only at hSw); go_simp; have h9 := of_decide_eq_false HQ.out; omega)
      try simp only [Act.put, List.setIfInBounds_toArray, List.set_cons_zero, List.set_cons_succ]
      refine wpAnyH_take (i := 5) (oi := { dst := some 66, op := Go.Op.move (Go.Operand.tmp 65), type := 4, pos := "ref.go:68", after := #[{ on := 4, ground := Go.Ground.data }, { on := 1, ground := Go.Ground.chain }], guard := none }) (v := ?va1p6) rfl (by kernel_rfl) (by kernel_rfl) (by kernel_rfl) (fun _ _ _ h => h) (Or.inl ⟨by rfl, ?ra1p6⟩) (by assumption) ?_
      case ra1p6 => (intro w hSw; (try dsimp only at hSw); (go_simp <;> with_reducible rfl))
      try simp only [Act.put, List.setIfInBounds_toArray, List.set_cons_zero, List.set_cons_succ]
      refine wpAnyH_take (i := 6) (oi := { dst := some 67, op := Go.Op.load 28 (Go.Operand.tmp 11), type := 28, pos := "ref.go:68", after := #[{ on := 5, ground := Go.Ground.guard }], guard := some (5, true) }) (v := undef) rfl (by kernel_rfl) (by kernel_rfl) (by kernel_rfl) (fun _ _ _ h => h) (Or.inr ⟨by rfl, rfl⟩) (by assumption) ?_
      try simp only [Act.put, List.setIfInBounds_toArray, List.set_cons_zero, List.set_cons_succ]
      refine wpAnyH_take (i := 7) (oi := { dst := some 68, op := Go.Op.call { callee := Go.Callee.value (Go.Operand.func 62), args := #[Go.Operand.tmp 67], argTypes := #[28] }, type := 3, pos := "ref.go:68", after := #[{ on := 6, ground := Go.Ground.data }, { on := 5, ground := Go.Ground.chain }, { on := 5, ground := Go.Ground.guard }], guard := some (5, true) }) (v := undef) rfl (by kernel_rfl) (by kernel_rfl) (by kernel_rfl) (fun _ _ _ h => h) (Or.inr ⟨by rfl, rfl⟩) (by assumption) ?_
      try simp only [Act.put, List.setIfInBounds_toArray, List.set_cons_zero, List.set_cons_succ]
      refine wpAnyH_take (i := 8) (oi := { dst := some 69, op := Go.Op.load 28 (Go.Operand.tmp 4), type := 28, pos := "ref.go:68", after := #[{ on := 5, ground := Go.Ground.guard }], guard := some (5, true) }) (v := undef) rfl (by kernel_rfl) (by kernel_rfl) (by kernel_rfl) (fun _ _ _ h => h) (Or.inr ⟨by rfl, rfl⟩) (by assumption) ?_
      try simp only [Act.put, List.setIfInBounds_toArray, List.set_cons_zero, List.set_cons_succ]
      refine wpAnyH_take (i := 9) (oi := { dst := some 70, op := Go.Op.call { callee := Go.Callee.value (Go.Operand.func 62), args := #[Go.Operand.tmp 69], argTypes := #[28] }, type := 3, pos := "ref.go:68", after := #[{ on := 8, ground := Go.Ground.data }, { on := 7, ground := Go.Ground.chain }, { on := 5, ground := Go.Ground.guard }], guard := some (5, true) }) (v := undef) rfl (by kernel_rfl) (by kernel_rfl) (by kernel_rfl) (fun _ _ _ h => h) (Or.inr ⟨by rfl, rfl⟩) (by assumption) ?_
      try simp only [Act.put, List.setIfInBounds_toArray, List.set_cons_zero, List.set_cons_succ]
      refine wpAnyH_take (i := 10) (oi := { dst := some 71, op := Go.Op.binOp Go.BinOp.gtr 3 (Go.Operand.tmp 68) (Go.Operand.tmp 70) 3, type := 4, pos := "ref.go:68", after := #[{ on := 7, ground := Go.Ground.data }, { on := 9, ground := Go.Ground.data }, { on := 5, ground := Go.Ground.guard }], guard := some (5, true) }) (v := undef) rfl (by kernel_rfl) (by kernel_rfl) (by kernel_rfl) (fun _ _ _ h => h) (Or.inr ⟨by rfl, rfl⟩) (by assumption) ?_
      try simp only [Act.put, List.setIfInBounds_toArray, List.set_cons_zero, List.set_cons_succ]
      refine wpAnyH_take (i := 11) (oi := { dst := some 72, op := Go.Op.pick (Go.Operand.tmp 66) (Go.Operand.tmp 71) (Go.Operand.const (Go.Value.bool false)), type := 4, pos := "ref.go:68", after := #[{ on := 5, ground := Go.Ground.data }, { on := 10, ground := Go.Ground.data }], guard := none }) (v := ?va1p7) rfl (by kernel_rfl) (by kernel_rfl) (by kernel_rfl) (fun _ _ _ h => h) (Or.inl ⟨by rfl, ?ra1p7⟩) (by assumption) ?_
      case ra1p7 => (intro w hSw; (try dsimp only at hSw); (go_simp <;> with_reducible rfl))
      try simp only [Act.put, List.setIfInBounds_toArray, List.set_cons_zero, List.set_cons_succ]
      refine wpAnyH_done (by kernel_rfl) ?_ _
      exact HL _ h4
    case rest =>
      rintro wy ⟨hgy, x0, x1, x2, d0, d1, d2⟩
      have HB5 := Lib.hid (HB86.out.gr hgy)
      have HA7 := Lib.hid (HA6.out.gr hgy)
      have HAD := Lib.hid (HA.out.gr (HG6.out.trans hgy))
      have HG7 := Lib.hid (HG6.out.trans hgy)
      have b0 := HB5.out.cell (i := 0) rfl
      have b1 := HB5.out.cell (i := 1) rfl
      have b2 := HB5.out.cell (i := 2) rfl
      have f0 := HB5.out.free 0
      have f1 := HB5.out.free 1
      have f2 := HB5.out.free 2
      clear hgy HX HS0 HUX HUD HQ
      go_wp2
      have HST := Lib.hid (stored (R := R5) (fv := F5) (cap := cap5) HB5.out HA7.out)
      have HG8 := Lib.hid (HG7.out.store3 (b := w.heap.size + 1) (by omega) (.slice (some ⟨g5, off5, none⟩) 4 cap5) (.int .i64 R5) (.int .i64 F5))
      have r0 := HST.out.1.cell (i := 0) rfl
      have r1 := HST.out.1.cell (i := 1) rfl
      have r2 := HST.out.1.cell (i := 2) rfl
      refine bodyPost_ret (v := .tuple #[.agg #[.slice (some ⟨g5, off5, none⟩) 4 cap5, .int .i64 R5, .int .i64 F5], .int .i64 0]) (by simp [results, Try.results19, go_sem, r0, r1, r2]; try rfl) rfl ?_
      exact ⟨_, by rw [HE.out]; rfl, by rw [HE.out]; exact ⟨g5, off5, cap5, by rw [HR5.out, HF5.out], HST.out.2⟩, HG8.out, .inr (by exact HN5.out)⟩
  · obtain rfl : fv = -1 := by omega
    rw [if_neg (by decide)] at HT
    have G0 := (Gr.refl w).alloc (.cells #[.slice (some ⟨gb, off, none⟩) 4 cap, .int .i64 R, .int .i64 (-1)] 28)
    have G := G0.alloc (.cells #[.slice none 0 0, .int .i64 0, .int .i64 0] 28)
    have p0 := G.cell c0
    have p1 := G.cell c1
    have p2 := G.cell c2
    have B8 := Blk.new (w.alloc (.cells #[.slice (some ⟨gb, off, none⟩) 4 cap, .int .i64 R, .int .i64 (-1)] 28)) #[.slice none 0 0, .int .i64 0, .int .i64 0] 28
    have B4 := (Blk.new w #[.slice (some ⟨gb, off, none⟩) 4 cap, .int .i64 R, .int .i64 (-1)] 28).gr ((Gr.refl _).alloc (.cells #[.slice none 0 0, .int .i64 0, .int .i64 0] 28))
    have hsz : (w.alloc (.cells #[.slice (some ⟨gb, off, none⟩) 4 cap, .int .i64 R, .int .i64 (-1)] 28)).heap.size = w.heap.size + 1 := by simp
    rw [hsz] at B8
    have HB8 := Lib.hid (B8.gr ((Gr.refl _).alloc (.cells #[.string s, .string u, .bool true] 106)))
    have HB4 := Lib.hid (B4.gr ((Gr.refl _).alloc (.cells #[.string s, .string u, .bool true] 106)))
    have HG := Lib.hid (G.alloc (.cells #[.string s, .string u, .bool true] 106))
    have HRK : Hid (∀ W, Gr w W → RkIs W (.agg #[.slice (some ⟨gb, off, none⟩) 4 cap, .int .i64 R, .int .i64 (-1)]) (tick d)) := Lib.hid fun W hW => ⟨gb, off, cap, by rw [HT.out, HTR.out]; try rfl, HA.out.gr hW⟩
    clear G G0 c0 c1 c2 B8 B4 hsz
    go_enter Try.func19, Try.ntmps19
    go_wp2_with fail
    refine (HW.out _ _ (HRK.out _ HG.out)).mono ?_
    rintro e w5 ⟨v5, rfl, hr5, hg5, hn5⟩
    obtain ⟨g5, off5, cap5, rfl, ha5⟩ := hr5
    have HG5 := Lib.hid (HG.out.trans hg5)
    have HN5 : Hid (w.heap.size ≤ g5) := Lib.hid (Nat.le_trans HG.out.size hn5)
    clear hn5
    have HA5 := Lib.hid ha5
    generalize hR5 : ((putF (tick d) k ((gPut s) (d.fs k))).room : Int) = R5 at *
    generalize hF5 : ((putF (tick d) k ((gPut s) (d.fs k))).fail : Int) - 1 = F5 at *
    have HR5 := Lib.hid hR5
    have HF5 := Lib.hid hF5
    have hg6 := (Gr.refl w5).alloc (.cells #[.slice (some ⟨g5, off5, none⟩) 4 cap5, .int .i64 R5, .int .i64 F5] 28)
    have HX6 := Lib.hid (Blk.new w5 #[.slice (some ⟨g5, off5, none⟩) 4 cap5, .int .i64 R5, .int .i64 F5] 28)
    have HB86 := Lib.hid ((HB8.out.gr hg5).gr hg6)
    have HB46 := Lib.hid ((HB4.out.gr hg5).gr hg6)
    have HG6 := Lib.hid (HG5.out.trans hg6)
    have HA6 := Lib.hid (HA5.out.gr hg6)
    clear hR5 hF5 ha5 hg5 p0 p1 p2 hg6
    go_wp2_with fail
    generalize w5.alloc (.cells #[.slice (some ⟨g5, off5, none⟩) 4 cap5, .int .i64 R5, .int .i64 F5] 28) = w6 at *
    generalize w5.heap.size = nb at *
    have HUX := Lib.hid (fun w9 (hg : Gr w6 w9) => HUX0.out g5 off5 cap5 R5 F5 w9 (HA6.out.gr hg))
    have HUD := Lib.hid (fun w9 (hg : Gr w6 w9) => HUD0.out gb off cap R (-1) w9 (HA.out.gr (HG6.out.trans hg)))
    have HS0 : (fun w9 => Gr w6 w9 ∧ w9.cell? ⟨nb, 0, none⟩ = some (.slice (some ⟨g5, off5, none⟩) 4 cap5) ∧ w9.cell? ⟨nb, 1, none⟩ = some (.int .i64 R5) ∧ w9.cell? ⟨nb, 2, none⟩ = some (.int .i64 F5) ∧ w9.cell? ⟨w.heap.size, 0, none⟩ = some (.slice (some ⟨gb, off, none⟩) 4 cap) ∧ w9.cell? ⟨w.heap.size, 1, none⟩ = some (.int .i64 R) ∧ w9.cell? ⟨w.heap.size, 2, none⟩ = some (.int .i64 (-1))) w6 := ⟨Gr.refl _, HX6.out.cell rfl, HX6.out.cell rfl, HX6.out.cell rfl, HB46.out.cell rfl, HB46.out.cell rfl, HB46.out.cell rfl⟩
    have HX : Hid (∀ w0 w9 : World, Gr w0 w9 → (fun w9 => Gr w6 w9 ∧ w9.cell? ⟨nb, 0, none⟩ = some (.slice (some ⟨g5, off5, none⟩) 4 cap5) ∧ w9.cell? ⟨nb, 1, none⟩ = some (.int .i64 R5) ∧ w9.cell? ⟨nb, 2, none⟩ = some (.int .i64 F5) ∧ w9.cell? ⟨w.heap.size, 0, none⟩ = some (.slice (some ⟨gb, off, none⟩) 4 cap) ∧ w9.cell? ⟨w.heap.size, 1, none⟩ = some (.int .i64 R) ∧ w9.cell? ⟨w.heap.size, 2, none⟩ = some (.int .i64 (-1))) w0 → (fun w9 => Gr w6 w9 ∧ w9.cell? ⟨nb, 0, none⟩ = some (.slice (some ⟨g5, off5, none⟩) 4 cap5) ∧ w9.cell? ⟨nb, 1, none⟩ = some (.int .i64 R5) ∧ w9.cell? ⟨nb, 2, none⟩ = some (.int .i64 F5) ∧ w9.cell? ⟨w.heap.size, 0, none⟩ = some (.slice (some ⟨gb, off, none⟩) 4 cap) ∧ w9.cell? ⟨w.heap.size, 1, none⟩ = some (.int .i64 R) ∧ w9.cell? ⟨w.heap.size, 2, none⟩ = some (.int .i64 (-1))) w9) := Lib.hid fun w0 w9 hg ⟨h, q0, q1, q2, q3, q4, q5⟩ => ⟨h.trans hg, hg.cell q0, hg.cell q1, hg.cell q2, hg.cell q3, hg.cell q4, hg.cell q5⟩
    apply cutS (fun w9 => Gr w6 w9 ∧ w9.cell? ⟨nb, 0, none⟩ = some (.slice (some ⟨g5, off5, none⟩) 4 cap5) ∧ w9.cell? ⟨nb, 1, none⟩ = some (.int .i64 R5) ∧ w9.cell? ⟨nb, 2, none⟩ = some (.int .i64 F5) ∧ w9.cell? ⟨w.heap.size, 0, none⟩ = some (.slice (some ⟨gb, off, none⟩) 4 cap) ∧ w9.cell? ⟨w.heap.size, 1, none⟩ = some (.int .i64 R) ∧ w9.cell? ⟨w.heap.size, 2, none⟩ = some (.int .i64 (-1)))
    case main =>
      intro HL
      refine wp_region_held_drew (S := (fun w9 => Gr w6 w9 ∧ w9.cell? ⟨nb, 0, none⟩ = some (.slice (some ⟨g5, off5, none⟩) 4 cap5) ∧ w9.cell? ⟨nb, 1, none⟩ = some (.int .i64 R5) ∧ w9.cell? ⟨nb, 2, none⟩ = some (.int .i64 F5) ∧ w9.cell? ⟨w.heap.size, 0, none⟩ = some (.slice (some ⟨gb, off, none⟩) 4 cap) ∧ w9.cell? ⟨w.heap.size, 1, none⟩ = some (.int .i64 R) ∧ w9.cell? ⟨w.heap.size, 2, none⟩ = some (.int .i64 (-1)))) (by kernel_rfl) ?inva1n (fun h0 => ?_)
      case inva1n => ((try dsimp only); (first | exact HS0 | exact HX.out _ _ ((Gr.refl _).drew) HS0))
      refine wpAnyH_take (i := 0) (oi := { dst := some 61, op := Go.Op.load 28 (Go.Operand.tmp 11), type := 28, pos := "ref.go:68", after := #[], guard := none }) (v := ?va1n1) rfl (by kernel_rfl) (by kernel_rfl) (by kernel_rfl) (fun _ _ _ h => h) (Or.inl ⟨by rfl, ?ra1n1⟩) (by assumption) ?_
      case ra1n1 => (intro w hSw; (try dsimp only at hSw); (go_simp <;> with_reducible rfl))
      try simp only [Act.put, List.setIfInBounds_toArray, List.set_cons_zero, List.set_cons_succ]
      refine wpAnyH_take (i := 2) (oi := { dst := some 63, op := Go.Op.fieldAddr 28 (Go.Operand.tmp 4) 1, type := 0, pos := "ref.go:68", after := #[], guard := none }) (v := ?va1n2) rfl (by kernel_rfl) (by kernel_rfl) (by kernel_rfl) (fun _ _ _ h => h) (Or.inl ⟨by rfl, ?ra1n2⟩) (by assumption) ?_
      case ra1n2 => (intro w hSw; (try dsimp only at hSw); (go_simp <;> with_reducible rfl))
      try simp only [Act.put, List.setIfInBounds_toArray, List.set_cons_zero, List.set_cons_succ]
      refine wpAnyH_take (i := 3) (oi := { dst := some 64, op := Go.Op.load 3 (Go.Operand.tmp 63), type := 3, pos := "ref.go:68", after := #[{ on := 2, ground := Go.Ground.data }], guard := none }) (v := ?va1n3) rfl (by kernel_rfl) (by kernel_rfl) (by kernel_rfl) (fun _ _ _ h => h) (Or.inl ⟨by rfl, ?ra1n3⟩) (by assumption) ?_
      case ra1n3 => (intro w hSw; (try dsimp only at hSw); (go_simp <;> with_reducible rfl))
      try simp only [Act.put, List.setIfInBounds_toArray, List.set_cons_zero, List.set_cons_succ]
      refine wpAnyH_ready (rs := [1]) (by kernel_rfl) (by simp) ?_
      refine AllReadyH.cons (o := { dst := some 62, op := Go.Op.call { callee := Go.Callee.value (Go.Operand.func 62), args := #[Go.Operand.tmp 61], argTypes := #[28] }, type := 3, pos := "ref.go:68", after := #[{ on := 0, ground := Go.Ground.data }], guard := none }) rfl (fun K hK => ?_) AllReadyH.nil
      go_simp
      (go_at_call 62; refine (HUX.out _ (by first | exact (h0).1 | exact h0.1)).mono ?_; rintro e w9 ⟨rfl, hgN⟩)
      first | refine hK.out _ _ ?sa1n4 (fun h4 => ?_) | (go_wp2_with fail; refine hK.out _ _ ?sa1n4 (fun h4 => ?_))
      case sa1n4 => ((try dsimp only); exact HX.out _ _ hgN h0)
      clear hK K h0
      try simp only [Act.put, List.setIfInBounds_toArray, List.set_cons_zero, List.set_cons_succ]
      refine wpAnyH_take (i := 4) (oi := { dst := some 65, op := Go.Op.binOp Go.BinOp.gtr 3 (Go.Operand.tmp 62) (Go.Operand.tmp 64) 3, type := 4, pos := "ref.go:68", after := #[{ on := 1, ground := Go.Ground.data }, { on := 3, ground := Go.Ground.data }], guard := none }) (v := (.bool false)) rfl (by kernel_rfl) (by kernel_rfl) (by kernel_rfl) (fun _ _ _ h => h) (Or.inl ⟨by rfl, ?ra1n5⟩) (by assumption) ?_
      case ra1n5 => (intro w hSw; (try dsimp only at hSw); go_simp; have h9 := of_decide_eq_false HQ.out; omega)
      try simp only [Act.put, List.setIfInBounds_toArray, List.set_cons_zero, List.set_cons_succ]
      refine wpAnyH_take (i := 5) (oi := { dst := some 66, op := Go.Op.move (Go.Operand.tmp 65), type := 4, pos := "ref.go:68", after := #[{ on := 4, ground := Go.Ground.data }, { on := 1, ground := Go.Ground.chain }], guard := none }) (v := ?va1n6) rfl (by kernel_rfl) (by kernel_rfl) (by kernel_rfl) (fun _ _ _ h => h) (Or.inl ⟨by rfl, ?ra1n6⟩) (by assumption) ?_
      case ra1n6 => (intro w hSw; (try dsimp only at hSw); (go_simp <;> with_reducible rfl))
      try simp only [Act.put, List.setIfInBounds_toArray, List.set_cons_zero, List.set_cons_succ]
      refine wpAnyH_take (i := 6) (oi := { dst := some 67, op := Go.Op.load 28 (Go.Operand.tmp 11), type := 28, pos := "ref.go:68", after := #[{ on := 5, ground := Go.Ground.guard }], guard := some (5, true) }) (v := undef) rfl (by kernel_rfl) (by kernel_rfl) (by kernel_rfl) (fun _ _ _ h => h) (Or.inr ⟨by rfl, rfl⟩) (by assumption) ?_
      try simp only [Act.put, List.setIfInBounds_toArray, List.set_cons_zero, List.set_cons_succ]
      refine wpAnyH_take (i := 7) (oi := { dst := some 68, op := Go.Op.call { callee := Go.Callee.value (Go.Operand.func 62), args := #[Go.Operand.tmp 67], argTypes := #[28] }, type := 3, pos := "ref.go:68", after := #[{ on := 6, ground := Go.Ground.data }, { on := 5, ground := Go.Ground.chain }, { on := 5, ground := Go.Ground.guard }], guard := some (5, true) }) (v := undef) rfl (by kernel_rfl) (by kernel_rfl) (by kernel_rfl) (fun _ _ _ h => h) (Or.inr ⟨by rfl, rfl⟩) (by assumption) ?_
      try simp only [Act.put, List.setIfInBounds_toArray, List.set_cons_zero, List.set_cons_succ]
      refine wpAnyH_take (i := 8) (oi := { dst := some 69, op := Go.Op.load 28 (Go.Operand.tmp 4), type := 28, pos := "ref.go:68", after := #[{ on := 5, ground := Go.Ground.guard }], guard := some (5, true) }) (v := undef) rfl (by kernel_rfl) (by kernel_rfl) (by kernel_rfl) (fun _ _ _ h => h) (Or.inr ⟨by rfl, rfl⟩) (by assumption) ?_
      try simp only [Act.put, List.setIfInBounds_toArray, List.set_cons_zero, List.set_cons_succ]
      refine wpAnyH_take (i := 9) (oi := { dst := some 70, op := Go.Op.call { callee := Go.Callee.value (Go.Operand.func 62), args := #[Go.Operand.tmp 69], argTypes := #[28] }, type := 3, pos := "ref.go:68", after := #[{ on := 8, ground := Go.Ground.data }, { on := 7, ground := Go.Ground.chain }, { on := 5, ground := Go.Ground.guard }], guard := some (5, true) }) (v := undef) rfl (by kernel_rfl) (by kernel_rfl) (by kernel_rfl) (fun _ _ _ h => h) (Or.inr ⟨by rfl, rfl⟩) (by assumption) ?_
      try simp only [Act.put, List.setIfInBounds_toArray, List.set_cons_zero, List.set_cons_succ]
      refine wpAnyH_take (i := 10) (oi := { dst := some 71, op := Go.Op.binOp Go.BinOp.gtr 3 (Go.Operand.tmp 68) (Go.Operand.tmp 70) 3, type := 4, pos := "ref.go:68", after := #[{ on := 7, ground := Go.Ground.data }, { on := 9, ground := Go.Ground.data }, { on := 5, ground := Go.Ground.guard }], guard := some (5, true) }) (v := undef) rfl (by kernel_rfl) (by kernel_rfl) (by kernel_rfl) (fun _ _ _ h => h) (Or.inr ⟨by rfl, rfl⟩) (by assumption) ?_
      try simp only [Act.put, List.setIfInBounds_toArray, List.set_cons_zero, List.set_cons_succ]
      refine wpAnyH_take (i := 11) (oi := { dst := some 72, op := Go.Op.pick (Go.Operand.tmp 66) (Go.Operand.tmp 71) (Go.Operand.const (Go.Value.bool false)), type := 4, pos := "ref.go:68", after := #[{ on := 5, ground := Go.Ground.data }, { on := 10, ground := Go.Ground.data }], guard := none }) (v := ?va1n7) rfl (by kernel_rfl) (by kernel_rfl) (by kernel_rfl) (fun _ _ _ h => h) (Or.inl ⟨by rfl, ?ra1n7⟩) (by assumption) ?_
      case ra1n7 => (intro w hSw; (try dsimp only at hSw); (go_simp <;> with_reducible rfl))
      try simp only [Act.put, List.setIfInBounds_toArray, List.set_cons_zero, List.set_cons_succ]
      refine wpAnyH_done (by kernel_rfl) ?_ _
      exact HL _ h4
    case rest =>
      rintro wy ⟨hgy, x0, x1, x2, d0, d1, d2⟩
      have HB5 := Lib.hid (HB86.out.gr hgy)
      have HA7 := Lib.hid (HA6.out.gr hgy)
      have HAD := Lib.hid (HA.out.gr (HG6.out.trans hgy))
      have HG7 := Lib.hid (HG6.out.trans hgy)
      have b0 := HB5.out.cell (i := 0) rfl
      have b1 := HB5.out.cell (i := 1) rfl
      have b2 := HB5.out.cell (i := 2) rfl
      have f0 := HB5.out.free 0
      have f1 := HB5.out.free 1
      have f2 := HB5.out.free 2
      clear hgy HX HS0 HUX HUD HQ
      go_wp2
      have HST := Lib.hid (stored (R := R5) (fv := F5) (cap := cap5) HB5.out HA7.out)
      have HG8 := Lib.hid (HG7.out.store3 (b := w.heap.size + 1) (by omega) (.slice (some ⟨g5, off5, none⟩) 4 cap5) (.int .i64 R5) (.int .i64 F5))
      have r0 := HST.out.1.cell (i := 0) rfl
      have r1 := HST.out.1.cell (i := 1) rfl
      have r2 := HST.out.1.cell (i := 2) rfl
      refine bodyPost_ret (v := .tuple #[.agg #[.slice (some ⟨g5, off5, none⟩) 4 cap5, .int .i64 R5, .int .i64 F5], .int .i64 0]) (by simp [results, Try.results19, go_sem, r0, r1, r2]; try rfl) rfl ?_
      exact ⟨_, by rw [HE.out]; rfl, by rw [HE.out]; exact ⟨g5, off5, cap5, by rw [HR5.out, HF5.out], HST.out.2⟩, HG8.out, .inr (by exact HN5.out)⟩
set_option maxRecDepth 100000 in
set_option maxHeartbeats 4000000 in
theorem refDo_put_no {d : D} (k : Nat) (hk : k < 4) (s : ByteArray) (hss : s.size ≤ 1099511627776) (v : Value) (w : World) (h : RkIs w v d) (ho : d.Ok) (h1 : d.fail ≠ 1) (hfull : full (tick d) k ((gPut s) (d.fs k)) = true) :
    Calls Try.prog 19 #[v, .int .i64 1, .int .i64 (k : Nat), .string s] w (RDo d (k : Nat) (gPut s) v w) := by
  obtain ⟨gb, off, cap, rfl, ha⟩ := h
  have HE := Lib.hid (act_no (d := d) (gPut s) hk h1 hfull)
  obtain ⟨c0, c1, c2⟩ := rk_cells ha hk
  have HW0 := fun (v : Value) (w : World) (h : RkIs w v (tick d)) => refWith_any k hk ((gPut s) (d.fs k)) (tick d) v w h
  have hfb := ho.fail
  have HA := Lib.hid ha
  have hbd := fun j hj => ok_now ho j hj
  have hfull2 := full_iff (tick_ok ho) k hk ((gPut s) (d.fs k))
  rw [hfull] at hfull2
  have hus : used d.fs ≤ d.room := ho.used
  have HUX0 := Lib.hid (fun g5 off5 cap5 R5 F5 (w9 : World) (h : RkAt w9 g5 off5 (putF (tick d) k ((gPut s) (d.fs k))).fs) => refUsed_any g5 off5 cap5 (putF (tick d) k ((gPut s) (d.fs k))).fs R5 F5 w9 h (fun j hj => by
    have h9 := hbd j hj
    show (upd d.fs k ((gPut s) (d.fs k)) j).now.size ≤ _ ∧ (upd d.fs k ((gPut s) (d.fs k)) j).sure.size ≤ _
    by_cases e : j = k
    · subst e; rw [upd_same]; show s.size ≤ _ ∧ (d.fs j).sure.size ≤ _; omega
    · rw [upd_other _ _ _ _ e]; omega))
  have HUD0 := Lib.hid (fun g5 off5 cap5 R5 F5 (w9 : World) (h : RkAt w9 g5 off5 d.fs) => refUsed_any g5 off5 cap5 d.fs R5 F5 w9 h (fun j hj => by have h9 := hbd j hj; omega))
  clear ha hbd
  have hk4 : (k : Int) < 4 := by omega
  obtain ⟨fv, hf⟩ : ∃ fv : Int, (d.fail : Int) - 1 = fv := ⟨_, rfl⟩
  rw [hf]
  have HT := Lib.hid (show (((tick d).fail : Nat) : Int) - 1 = if 0 < fv then fv - 1 else fv by show ((d.fail - 1 : Nat) : Int) - 1 = _; split <;> omega)
  have hf0 : fv ≠ 0 := by omega
  have hfu : fv ≤ 1073741824 := by omega
  have hfl : -1 ≤ fv := by omega
  generalize hU : used (putF (tick d) k ((gPut s) (d.fs k))).fs = U at *
  generalize hV : used d.fs = V at *
  have hq : (decide ((U : Int) > (d.room : Int))) = true := by rw [hfull2]; exact decide_eq_decide.2 (by show (d.room : Int) < U ↔ (tick d).room < U; show (d.room : Int) < U ↔ d.room < U; omega)
  have hq2 : true = true → decide ((U : Int) > (V : Int)) = true := fun e => by rw [e] at hq; have := of_decide_eq_true hq; exact decide_eq_true (by omega)
  have hnb : (d.fs k).now.size ≤ 1099511627776 := (ok_now ho k hk).1
  generalize hr : (d.room : Int) = R at *
  generalize hn : (d.fs k).now = n at *
  generalize hs : (d.fs k).sure = u at *
  generalize hp : (d.fs k).put = p at *
  rw [show ((gPut s) (d.fs k)).now = s from rfl, show ((gPut s) (d.fs k)).sure = u from hs, show ((gPut s) (d.fs k)).put = true from rfl] at HW0
  have HW := Lib.hid HW0
  have HTR := Lib.hid (show ((tick d).room : Int) = R from hr)
  have HQ := Lib.hid hq
  have HQ2 := Lib.hid (hq2 rfl)
  clear HW0 hr hf hn hs hp h1 ho hfb hU hV hq hq2 hfull hfull2 hus
  by_cases hpos : 0 < fv
  · have hw1 : IntKind.i64.wrap (fv - 1) = fv - 1 := IntWalk.i64_in _ (by omega)
    rw [if_pos hpos] at HT
    have G0 := (Gr.refl w).alloc (.cells #[.slice (some ⟨gb, off, none⟩) 4 cap, .int .i64 R, .int .i64 (fv - 1)] 28)
    have G := G0.alloc (.cells #[.slice none 0 0, .int .i64 0, .int .i64 0] 28)
    have p0 := G.cell c0
    have p1 := G.cell c1
    have p2 := G.cell c2
    have B8 := Blk.new (w.alloc (.cells #[.slice (some ⟨gb, off, none⟩) 4 cap, .int .i64 R, .int .i64 (fv - 1)] 28)) #[.slice none 0 0, .int .i64 0, .int .i64 0] 28
    have B4 := (Blk.new w #[.slice (some ⟨gb, off, none⟩) 4 cap, .int .i64 R, .int .i64 (fv - 1)] 28).gr ((Gr.refl _).alloc (.cells #[.slice none 0 0, .int .i64 0, .int .i64 0] 28))
    have hsz : (w.alloc (.cells #[.slice (some ⟨gb, off, none⟩) 4 cap, .int .i64 R, .int .i64 (fv - 1)] 28)).heap.size = w.heap.size + 1 := by simp
    rw [hsz] at B8
    have HB8 := Lib.hid (B8.gr ((Gr.refl _).alloc (.cells #[.string s, .string u, .bool true] 106)))
    have HB4 := Lib.hid (B4.gr ((Gr.refl _).alloc (.cells #[.string s, .string u, .bool true] 106)))
    have HG := Lib.hid (G.alloc (.cells #[.string s, .string u, .bool true] 106))
    have HRK : Hid (∀ W, Gr w W → RkIs W (.agg #[.slice (some ⟨gb, off, none⟩) 4 cap, .int .i64 R, .int .i64 (fv - 1)]) (tick d)) := Lib.hid fun W hW => ⟨gb, off, cap, by rw [HT.out, HTR.out]; try rfl, HA.out.gr hW⟩
    clear G G0 c0 c1 c2 B8 B4 hsz
    go_enter Try.func19, Try.ntmps19
    go_wp2_with fail
    refine (HW.out _ _ (HRK.out _ HG.out)).mono ?_
    rintro e w5 ⟨v5, rfl, hr5, hg5, hn5⟩
    obtain ⟨g5, off5, cap5, rfl, ha5⟩ := hr5
    have HG5 := Lib.hid (HG.out.trans hg5)
    have HN5 : Hid (w.heap.size ≤ g5) := Lib.hid (Nat.le_trans HG.out.size hn5)
    clear hn5
    have HA5 := Lib.hid ha5
    generalize hR5 : ((putF (tick d) k ((gPut s) (d.fs k))).room : Int) = R5 at *
    generalize hF5 : ((putF (tick d) k ((gPut s) (d.fs k))).fail : Int) - 1 = F5 at *
    have HR5 := Lib.hid hR5
    have HF5 := Lib.hid hF5
    have hg6 := (Gr.refl w5).alloc (.cells #[.slice (some ⟨g5, off5, none⟩) 4 cap5, .int .i64 R5, .int .i64 F5] 28)
    have HX6 := Lib.hid (Blk.new w5 #[.slice (some ⟨g5, off5, none⟩) 4 cap5, .int .i64 R5, .int .i64 F5] 28)
    have HB86 := Lib.hid ((HB8.out.gr hg5).gr hg6)
    have HB46 := Lib.hid ((HB4.out.gr hg5).gr hg6)
    have HG6 := Lib.hid (HG5.out.trans hg6)
    have HA6 := Lib.hid (HA5.out.gr hg6)
    clear hR5 hF5 ha5 hg5 p0 p1 p2 hg6
    go_wp2_with fail
    generalize w5.alloc (.cells #[.slice (some ⟨g5, off5, none⟩) 4 cap5, .int .i64 R5, .int .i64 F5] 28) = w6 at *
    generalize w5.heap.size = nb at *
    have HUX := Lib.hid (fun w9 (hg : Gr w6 w9) => HUX0.out g5 off5 cap5 R5 F5 w9 (HA6.out.gr hg))
    have HUD := Lib.hid (fun w9 (hg : Gr w6 w9) => HUD0.out gb off cap R (fv - 1) w9 (HA.out.gr (HG6.out.trans hg)))
    have HS0 : (fun w9 => Gr w6 w9 ∧ w9.cell? ⟨nb, 0, none⟩ = some (.slice (some ⟨g5, off5, none⟩) 4 cap5) ∧ w9.cell? ⟨nb, 1, none⟩ = some (.int .i64 R5) ∧ w9.cell? ⟨nb, 2, none⟩ = some (.int .i64 F5) ∧ w9.cell? ⟨w.heap.size, 0, none⟩ = some (.slice (some ⟨gb, off, none⟩) 4 cap) ∧ w9.cell? ⟨w.heap.size, 1, none⟩ = some (.int .i64 R) ∧ w9.cell? ⟨w.heap.size, 2, none⟩ = some (.int .i64 (fv - 1))) w6 := ⟨Gr.refl _, HX6.out.cell rfl, HX6.out.cell rfl, HX6.out.cell rfl, HB46.out.cell rfl, HB46.out.cell rfl, HB46.out.cell rfl⟩
    have HX : Hid (∀ w0 w9 : World, Gr w0 w9 → (fun w9 => Gr w6 w9 ∧ w9.cell? ⟨nb, 0, none⟩ = some (.slice (some ⟨g5, off5, none⟩) 4 cap5) ∧ w9.cell? ⟨nb, 1, none⟩ = some (.int .i64 R5) ∧ w9.cell? ⟨nb, 2, none⟩ = some (.int .i64 F5) ∧ w9.cell? ⟨w.heap.size, 0, none⟩ = some (.slice (some ⟨gb, off, none⟩) 4 cap) ∧ w9.cell? ⟨w.heap.size, 1, none⟩ = some (.int .i64 R) ∧ w9.cell? ⟨w.heap.size, 2, none⟩ = some (.int .i64 (fv - 1))) w0 → (fun w9 => Gr w6 w9 ∧ w9.cell? ⟨nb, 0, none⟩ = some (.slice (some ⟨g5, off5, none⟩) 4 cap5) ∧ w9.cell? ⟨nb, 1, none⟩ = some (.int .i64 R5) ∧ w9.cell? ⟨nb, 2, none⟩ = some (.int .i64 F5) ∧ w9.cell? ⟨w.heap.size, 0, none⟩ = some (.slice (some ⟨gb, off, none⟩) 4 cap) ∧ w9.cell? ⟨w.heap.size, 1, none⟩ = some (.int .i64 R) ∧ w9.cell? ⟨w.heap.size, 2, none⟩ = some (.int .i64 (fv - 1))) w9) := Lib.hid fun w0 w9 hg ⟨h, q0, q1, q2, q3, q4, q5⟩ => ⟨h.trans hg, hg.cell q0, hg.cell q1, hg.cell q2, hg.cell q3, hg.cell q4, hg.cell q5⟩
    apply cutS (fun w9 => Gr w6 w9 ∧ w9.cell? ⟨nb, 0, none⟩ = some (.slice (some ⟨g5, off5, none⟩) 4 cap5) ∧ w9.cell? ⟨nb, 1, none⟩ = some (.int .i64 R5) ∧ w9.cell? ⟨nb, 2, none⟩ = some (.int .i64 F5) ∧ w9.cell? ⟨w.heap.size, 0, none⟩ = some (.slice (some ⟨gb, off, none⟩) 4 cap) ∧ w9.cell? ⟨w.heap.size, 1, none⟩ = some (.int .i64 R) ∧ w9.cell? ⟨w.heap.size, 2, none⟩ = some (.int .i64 (fv - 1)))
    case main =>
      intro HL
      refine wp_region_held_drew (S := (fun w9 => Gr w6 w9 ∧ w9.cell? ⟨nb, 0, none⟩ = some (.slice (some ⟨g5, off5, none⟩) 4 cap5) ∧ w9.cell? ⟨nb, 1, none⟩ = some (.int .i64 R5) ∧ w9.cell? ⟨nb, 2, none⟩ = some (.int .i64 F5) ∧ w9.cell? ⟨w.heap.size, 0, none⟩ = some (.slice (some ⟨gb, off, none⟩) 4 cap) ∧ w9.cell? ⟨w.heap.size, 1, none⟩ = some (.int .i64 R) ∧ w9.cell? ⟨w.heap.size, 2, none⟩ = some (.int .i64 (fv - 1)))) (by kernel_rfl) ?inva1p (fun h0 => ?_)
      case inva1p => ((try dsimp only); (first | exact HS0 | exact HX.out _ _ ((Gr.refl _).drew) HS0))
      refine wpAnyH_take (i := 0) (oi := { dst := some 61, op := Go.Op.load 28 (Go.Operand.tmp 11), type := 28, pos := "ref.go:68", after := #[], guard := none }) (v := ?va1p1) rfl (by kernel_rfl) (by kernel_rfl) (by kernel_rfl) (fun _ _ _ h => h) (Or.inl ⟨by rfl, ?ra1p1⟩) (by assumption) ?_
      case ra1p1 => (intro w hSw; (try dsimp only at hSw); (go_simp <;> with_reducible rfl))
      try simp only [Act.put, List.setIfInBounds_toArray, List.set_cons_zero, List.set_cons_succ]
      refine wpAnyH_take (i := 2) (oi := { dst := some 63, op := Go.Op.fieldAddr 28 (Go.Operand.tmp 4) 1, type := 0, pos := "ref.go:68", after := #[], guard := none }) (v := ?va1p2) rfl (by kernel_rfl) (by kernel_rfl) (by kernel_rfl) (fun _ _ _ h => h) (Or.inl ⟨by rfl, ?ra1p2⟩) (by assumption) ?_
      case ra1p2 => (intro w hSw; (try dsimp only at hSw); (go_simp <;> with_reducible rfl))
      try simp only [Act.put, List.setIfInBounds_toArray, List.set_cons_zero, List.set_cons_succ]
      refine wpAnyH_take (i := 3) (oi := { dst := some 64, op := Go.Op.load 3 (Go.Operand.tmp 63), type := 3, pos := "ref.go:68", after := #[{ on := 2, ground := Go.Ground.data }], guard := none }) (v := ?va1p3) rfl (by kernel_rfl) (by kernel_rfl) (by kernel_rfl) (fun _ _ _ h => h) (Or.inl ⟨by rfl, ?ra1p3⟩) (by assumption) ?_
      case ra1p3 => (intro w hSw; (try dsimp only at hSw); (go_simp <;> with_reducible rfl))
      try simp only [Act.put, List.setIfInBounds_toArray, List.set_cons_zero, List.set_cons_succ]
      refine wpAnyH_ready (rs := [1]) (by kernel_rfl) (by simp) ?_
      refine AllReadyH.cons (o := { dst := some 62, op := Go.Op.call { callee := Go.Callee.value (Go.Operand.func 62), args := #[Go.Operand.tmp 61], argTypes := #[28] }, type := 3, pos := "ref.go:68", after := #[{ on := 0, ground := Go.Ground.data }], guard := none }) rfl (fun K hK => ?_) AllReadyH.nil
      go_simp
      (go_at_call 62; refine (HUX.out _ (by first | exact (h0).1 | exact h0.1)).mono ?_; rintro e w9 ⟨rfl, hgN⟩)
      first | refine hK.out _ _ ?sa1p4 (fun h4 => ?_) | (go_wp2_with fail; refine hK.out _ _ ?sa1p4 (fun h4 => ?_))
      case sa1p4 => ((try dsimp only); exact HX.out _ _ hgN h0)
      clear hK K h0
      try simp only [Act.put, List.setIfInBounds_toArray, List.set_cons_zero, List.set_cons_succ]
      refine wpAnyH_take (i := 4) (oi := { dst := some 65, op := Go.Op.binOp Go.BinOp.gtr 3 (Go.Operand.tmp 62) (Go.Operand.tmp 64) 3, type := 4, pos := "ref.go:68", after := #[{ on := 1, ground := Go.Ground.data }, { on := 3, ground := Go.Ground.data }], guard := none }) (v := (.bool true)) rfl (by kernel_rfl) (by kernel_rfl) (by kernel_rfl) (fun _ _ _ h => h) (Or.inl ⟨by rfl, ?ra1p5⟩) (by assumption) ?_
      case ra1p5 => (intro w hSw; (try dsimp only at hSw); go_simp; have h9 := of_decide_eq_true HQ.out; omega)
      try simp only [Act.put, List.setIfInBounds_toArray, List.set_cons_zero, List.set_cons_succ]
      refine wpAnyH_take (i := 5) (oi := { dst := some 66, op := Go.Op.move (Go.Operand.tmp 65), type := 4, pos := "ref.go:68", after := #[{ on := 4, ground := Go.Ground.data }, { on := 1, ground := Go.Ground.chain }], guard := none }) (v := ?va1p6) rfl (by kernel_rfl) (by kernel_rfl) (by kernel_rfl) (fun _ _ _ h => h) (Or.inl ⟨by rfl, ?ra1p6⟩) (by assumption) ?_
      case ra1p6 => (intro w hSw; (try dsimp only at hSw); (go_simp <;> with_reducible rfl))
      try simp only [Act.put, List.setIfInBounds_toArray, List.set_cons_zero, List.set_cons_succ]
      refine wpAnyH_take (i := 6) (oi := { dst := some 67, op := Go.Op.load 28 (Go.Operand.tmp 11), type := 28, pos := "ref.go:68", after := #[{ on := 5, ground := Go.Ground.guard }], guard := some (5, true) }) (v := ?va1p7) rfl (by kernel_rfl) (by kernel_rfl) (by kernel_rfl) (fun _ _ _ h => h) (Or.inl ⟨by rfl, ?ra1p7⟩) (by assumption) ?_
      case ra1p7 => (intro w hSw; (try dsimp only at hSw); (go_simp <;> with_reducible rfl))
      try simp only [Act.put, List.setIfInBounds_toArray, List.set_cons_zero, List.set_cons_succ]
      refine wpAnyH_take (i := 8) (oi := { dst := some 69, op := Go.Op.load 28 (Go.Operand.tmp 4), type := 28, pos := "ref.go:68", after := #[{ on := 5, ground := Go.Ground.guard }], guard := some (5, true) }) (v := ?va1p8) rfl (by kernel_rfl) (by kernel_rfl) (by kernel_rfl) (fun _ _ _ h => h) (Or.inl ⟨by rfl, ?ra1p8⟩) (by assumption) ?_
      case ra1p8 => (intro w hSw; (try dsimp only at hSw); (go_simp <;> with_reducible rfl))
      try simp only [Act.put, List.setIfInBounds_toArray, List.set_cons_zero, List.set_cons_succ]
      refine wpAnyH_ready (rs := [7]) (by kernel_rfl) (by simp) ?_
      refine AllReadyH.cons (o := { dst := some 68, op := Go.Op.call { callee := Go.Callee.value (Go.Operand.func 62), args := #[Go.Operand.tmp 67], argTypes := #[28] }, type := 3, pos := "ref.go:68", after := #[{ on := 6, ground := Go.Ground.data }, { on := 5, ground := Go.Ground.chain }, { on := 5, ground := Go.Ground.guard }], guard := some (5, true) }) rfl (fun K hK => ?_) AllReadyH.nil
      go_simp
      (go_at_call 62; refine (HUX.out _ (by first | exact (h4).1 | exact h0.1)).mono ?_; rintro e w9 ⟨rfl, hgN⟩)
      first | refine hK.out _ _ ?sa1p9 (fun h9 => ?_) | (go_wp2_with fail; refine hK.out _ _ ?sa1p9 (fun h9 => ?_))
      case sa1p9 => ((try dsimp only); exact HX.out _ _ hgN h4)
      clear hK K h4
      try simp only [Act.put, List.setIfInBounds_toArray, List.set_cons_zero, List.set_cons_succ]
      refine wpAnyH_ready (rs := [9]) (by kernel_rfl) (by simp) ?_
      refine AllReadyH.cons (o := { dst := some 70, op := Go.Op.call { callee := Go.Callee.value (Go.Operand.func 62), args := #[Go.Operand.tmp 69], argTypes := #[28] }, type := 3, pos := "ref.go:68", after := #[{ on := 8, ground := Go.Ground.data }, { on := 7, ground := Go.Ground.chain }, { on := 5, ground := Go.Ground.guard }], guard := some (5, true) }) rfl (fun K hK => ?_) AllReadyH.nil
      go_simp
      (go_at_call 62; refine (HUD.out _ (by first | exact (h9).1 | exact h0.1)).mono ?_; rintro e w9 ⟨rfl, hgN⟩)
      first | refine hK.out _ _ ?sa1p10 (fun h10 => ?_) | (go_wp2_with fail; refine hK.out _ _ ?sa1p10 (fun h10 => ?_))
      case sa1p10 => ((try dsimp only); exact HX.out _ _ hgN h9)
      clear hK K h9
      try simp only [Act.put, List.setIfInBounds_toArray, List.set_cons_zero, List.set_cons_succ]
      refine wpAnyH_take (i := 10) (oi := { dst := some 71, op := Go.Op.binOp Go.BinOp.gtr 3 (Go.Operand.tmp 68) (Go.Operand.tmp 70) 3, type := 4, pos := "ref.go:68", after := #[{ on := 7, ground := Go.Ground.data }, { on := 9, ground := Go.Ground.data }, { on := 5, ground := Go.Ground.guard }], guard := some (5, true) }) (v := (.bool true)) rfl (by kernel_rfl) (by kernel_rfl) (by kernel_rfl) (fun _ _ _ h => h) (Or.inl ⟨by rfl, ?ra1p11⟩) (by assumption) ?_
      case ra1p11 => (intro w hSw; (try dsimp only at hSw); go_simp; have h9 := of_decide_eq_true HQ2.out; omega)
      try simp only [Act.put, List.setIfInBounds_toArray, List.set_cons_zero, List.set_cons_succ]
      refine wpAnyH_take (i := 11) (oi := { dst := some 72, op := Go.Op.pick (Go.Operand.tmp 66) (Go.Operand.tmp 71) (Go.Operand.const (Go.Value.bool false)), type := 4, pos := "ref.go:68", after := #[{ on := 5, ground := Go.Ground.data }, { on := 10, ground := Go.Ground.data }], guard := none }) (v := ?va1p12) rfl (by kernel_rfl) (by kernel_rfl) (by kernel_rfl) (fun _ _ _ h => h) (Or.inl ⟨by rfl, ?ra1p12⟩) (by assumption) ?_
      case ra1p12 => (intro w hSw; (try dsimp only at hSw); (go_simp <;> with_reducible rfl))
      try simp only [Act.put, List.setIfInBounds_toArray, List.set_cons_zero, List.set_cons_succ]
      refine wpAnyH_done (by kernel_rfl) ?_ _
      exact HL _ h10
    case rest =>
      rintro wy ⟨hgy, x0, x1, x2, d0, d1, d2⟩
      have HB5 := Lib.hid (HB86.out.gr hgy)
      have HA7 := Lib.hid (HA6.out.gr hgy)
      have HAD := Lib.hid (HA.out.gr (HG6.out.trans hgy))
      have HG7 := Lib.hid (HG6.out.trans hgy)
      have b0 := HB5.out.cell (i := 0) rfl
      have b1 := HB5.out.cell (i := 1) rfl
      have b2 := HB5.out.cell (i := 2) rfl
      have f0 := HB5.out.free 0
      have f1 := HB5.out.free 1
      have f2 := HB5.out.free 2
      clear hgy HX HS0 HUX HUD HQ
      go_wp2
      have HST := Lib.hid (stored (d := tick d) (R := R) (fv := (fv - 1)) (cap := cap) HB5.out HAD.out)
      have HG8 := Lib.hid (HG7.out.store3 (b := w.heap.size + 1) (by omega) (.slice (some ⟨gb, off, none⟩) 4 cap) (.int .i64 R) (.int .i64 (fv - 1)))
      have r0 := HST.out.1.cell (i := 0) rfl
      have r1 := HST.out.1.cell (i := 1) rfl
      have r2 := HST.out.1.cell (i := 2) rfl
      refine bodyPost_ret (v := .tuple #[.agg #[.slice (some ⟨gb, off, none⟩) 4 cap, .int .i64 R, .int .i64 (fv - 1)], .int .i64 17]) (by simp [results, Try.results19, go_sem, r0, r1, r2]; try rfl) rfl ?_
      exact ⟨_, by rw [HE.out]; rfl, by rw [HE.out]; exact ⟨gb, off, cap, by rw [HT.out, HTR.out]; try rfl, HST.out.2⟩, HG8.out, .inl (by rfl)⟩
  · obtain rfl : fv = -1 := by omega
    rw [if_neg (by decide)] at HT
    have G0 := (Gr.refl w).alloc (.cells #[.slice (some ⟨gb, off, none⟩) 4 cap, .int .i64 R, .int .i64 (-1)] 28)
    have G := G0.alloc (.cells #[.slice none 0 0, .int .i64 0, .int .i64 0] 28)
    have p0 := G.cell c0
    have p1 := G.cell c1
    have p2 := G.cell c2
    have B8 := Blk.new (w.alloc (.cells #[.slice (some ⟨gb, off, none⟩) 4 cap, .int .i64 R, .int .i64 (-1)] 28)) #[.slice none 0 0, .int .i64 0, .int .i64 0] 28
    have B4 := (Blk.new w #[.slice (some ⟨gb, off, none⟩) 4 cap, .int .i64 R, .int .i64 (-1)] 28).gr ((Gr.refl _).alloc (.cells #[.slice none 0 0, .int .i64 0, .int .i64 0] 28))
    have hsz : (w.alloc (.cells #[.slice (some ⟨gb, off, none⟩) 4 cap, .int .i64 R, .int .i64 (-1)] 28)).heap.size = w.heap.size + 1 := by simp
    rw [hsz] at B8
    have HB8 := Lib.hid (B8.gr ((Gr.refl _).alloc (.cells #[.string s, .string u, .bool true] 106)))
    have HB4 := Lib.hid (B4.gr ((Gr.refl _).alloc (.cells #[.string s, .string u, .bool true] 106)))
    have HG := Lib.hid (G.alloc (.cells #[.string s, .string u, .bool true] 106))
    have HRK : Hid (∀ W, Gr w W → RkIs W (.agg #[.slice (some ⟨gb, off, none⟩) 4 cap, .int .i64 R, .int .i64 (-1)]) (tick d)) := Lib.hid fun W hW => ⟨gb, off, cap, by rw [HT.out, HTR.out]; try rfl, HA.out.gr hW⟩
    clear G G0 c0 c1 c2 B8 B4 hsz
    go_enter Try.func19, Try.ntmps19
    go_wp2_with fail
    refine (HW.out _ _ (HRK.out _ HG.out)).mono ?_
    rintro e w5 ⟨v5, rfl, hr5, hg5, hn5⟩
    obtain ⟨g5, off5, cap5, rfl, ha5⟩ := hr5
    have HG5 := Lib.hid (HG.out.trans hg5)
    have HN5 : Hid (w.heap.size ≤ g5) := Lib.hid (Nat.le_trans HG.out.size hn5)
    clear hn5
    have HA5 := Lib.hid ha5
    generalize hR5 : ((putF (tick d) k ((gPut s) (d.fs k))).room : Int) = R5 at *
    generalize hF5 : ((putF (tick d) k ((gPut s) (d.fs k))).fail : Int) - 1 = F5 at *
    have HR5 := Lib.hid hR5
    have HF5 := Lib.hid hF5
    have hg6 := (Gr.refl w5).alloc (.cells #[.slice (some ⟨g5, off5, none⟩) 4 cap5, .int .i64 R5, .int .i64 F5] 28)
    have HX6 := Lib.hid (Blk.new w5 #[.slice (some ⟨g5, off5, none⟩) 4 cap5, .int .i64 R5, .int .i64 F5] 28)
    have HB86 := Lib.hid ((HB8.out.gr hg5).gr hg6)
    have HB46 := Lib.hid ((HB4.out.gr hg5).gr hg6)
    have HG6 := Lib.hid (HG5.out.trans hg6)
    have HA6 := Lib.hid (HA5.out.gr hg6)
    clear hR5 hF5 ha5 hg5 p0 p1 p2 hg6
    go_wp2_with fail
    generalize w5.alloc (.cells #[.slice (some ⟨g5, off5, none⟩) 4 cap5, .int .i64 R5, .int .i64 F5] 28) = w6 at *
    generalize w5.heap.size = nb at *
    have HUX := Lib.hid (fun w9 (hg : Gr w6 w9) => HUX0.out g5 off5 cap5 R5 F5 w9 (HA6.out.gr hg))
    have HUD := Lib.hid (fun w9 (hg : Gr w6 w9) => HUD0.out gb off cap R (-1) w9 (HA.out.gr (HG6.out.trans hg)))
    have HS0 : (fun w9 => Gr w6 w9 ∧ w9.cell? ⟨nb, 0, none⟩ = some (.slice (some ⟨g5, off5, none⟩) 4 cap5) ∧ w9.cell? ⟨nb, 1, none⟩ = some (.int .i64 R5) ∧ w9.cell? ⟨nb, 2, none⟩ = some (.int .i64 F5) ∧ w9.cell? ⟨w.heap.size, 0, none⟩ = some (.slice (some ⟨gb, off, none⟩) 4 cap) ∧ w9.cell? ⟨w.heap.size, 1, none⟩ = some (.int .i64 R) ∧ w9.cell? ⟨w.heap.size, 2, none⟩ = some (.int .i64 (-1))) w6 := ⟨Gr.refl _, HX6.out.cell rfl, HX6.out.cell rfl, HX6.out.cell rfl, HB46.out.cell rfl, HB46.out.cell rfl, HB46.out.cell rfl⟩
    have HX : Hid (∀ w0 w9 : World, Gr w0 w9 → (fun w9 => Gr w6 w9 ∧ w9.cell? ⟨nb, 0, none⟩ = some (.slice (some ⟨g5, off5, none⟩) 4 cap5) ∧ w9.cell? ⟨nb, 1, none⟩ = some (.int .i64 R5) ∧ w9.cell? ⟨nb, 2, none⟩ = some (.int .i64 F5) ∧ w9.cell? ⟨w.heap.size, 0, none⟩ = some (.slice (some ⟨gb, off, none⟩) 4 cap) ∧ w9.cell? ⟨w.heap.size, 1, none⟩ = some (.int .i64 R) ∧ w9.cell? ⟨w.heap.size, 2, none⟩ = some (.int .i64 (-1))) w0 → (fun w9 => Gr w6 w9 ∧ w9.cell? ⟨nb, 0, none⟩ = some (.slice (some ⟨g5, off5, none⟩) 4 cap5) ∧ w9.cell? ⟨nb, 1, none⟩ = some (.int .i64 R5) ∧ w9.cell? ⟨nb, 2, none⟩ = some (.int .i64 F5) ∧ w9.cell? ⟨w.heap.size, 0, none⟩ = some (.slice (some ⟨gb, off, none⟩) 4 cap) ∧ w9.cell? ⟨w.heap.size, 1, none⟩ = some (.int .i64 R) ∧ w9.cell? ⟨w.heap.size, 2, none⟩ = some (.int .i64 (-1))) w9) := Lib.hid fun w0 w9 hg ⟨h, q0, q1, q2, q3, q4, q5⟩ => ⟨h.trans hg, hg.cell q0, hg.cell q1, hg.cell q2, hg.cell q3, hg.cell q4, hg.cell q5⟩
    apply cutS (fun w9 => Gr w6 w9 ∧ w9.cell? ⟨nb, 0, none⟩ = some (.slice (some ⟨g5, off5, none⟩) 4 cap5) ∧ w9.cell? ⟨nb, 1, none⟩ = some (.int .i64 R5) ∧ w9.cell? ⟨nb, 2, none⟩ = some (.int .i64 F5) ∧ w9.cell? ⟨w.heap.size, 0, none⟩ = some (.slice (some ⟨gb, off, none⟩) 4 cap) ∧ w9.cell? ⟨w.heap.size, 1, none⟩ = some (.int .i64 R) ∧ w9.cell? ⟨w.heap.size, 2, none⟩ = some (.int .i64 (-1)))
    case main =>
      intro HL
      refine wp_region_held_drew (S := (fun w9 => Gr w6 w9 ∧ w9.cell? ⟨nb, 0, none⟩ = some (.slice (some ⟨g5, off5, none⟩) 4 cap5) ∧ w9.cell? ⟨nb, 1, none⟩ = some (.int .i64 R5) ∧ w9.cell? ⟨nb, 2, none⟩ = some (.int .i64 F5) ∧ w9.cell? ⟨w.heap.size, 0, none⟩ = some (.slice (some ⟨gb, off, none⟩) 4 cap) ∧ w9.cell? ⟨w.heap.size, 1, none⟩ = some (.int .i64 R) ∧ w9.cell? ⟨w.heap.size, 2, none⟩ = some (.int .i64 (-1)))) (by kernel_rfl) ?inva1n (fun h0 => ?_)
      case inva1n => ((try dsimp only); (first | exact HS0 | exact HX.out _ _ ((Gr.refl _).drew) HS0))
      refine wpAnyH_take (i := 0) (oi := { dst := some 61, op := Go.Op.load 28 (Go.Operand.tmp 11), type := 28, pos := "ref.go:68", after := #[], guard := none }) (v := ?va1n1) rfl (by kernel_rfl) (by kernel_rfl) (by kernel_rfl) (fun _ _ _ h => h) (Or.inl ⟨by rfl, ?ra1n1⟩) (by assumption) ?_
      case ra1n1 => (intro w hSw; (try dsimp only at hSw); (go_simp <;> with_reducible rfl))
      try simp only [Act.put, List.setIfInBounds_toArray, List.set_cons_zero, List.set_cons_succ]
      refine wpAnyH_take (i := 2) (oi := { dst := some 63, op := Go.Op.fieldAddr 28 (Go.Operand.tmp 4) 1, type := 0, pos := "ref.go:68", after := #[], guard := none }) (v := ?va1n2) rfl (by kernel_rfl) (by kernel_rfl) (by kernel_rfl) (fun _ _ _ h => h) (Or.inl ⟨by rfl, ?ra1n2⟩) (by assumption) ?_
      case ra1n2 => (intro w hSw; (try dsimp only at hSw); (go_simp <;> with_reducible rfl))
      try simp only [Act.put, List.setIfInBounds_toArray, List.set_cons_zero, List.set_cons_succ]
      refine wpAnyH_take (i := 3) (oi := { dst := some 64, op := Go.Op.load 3 (Go.Operand.tmp 63), type := 3, pos := "ref.go:68", after := #[{ on := 2, ground := Go.Ground.data }], guard := none }) (v := ?va1n3) rfl (by kernel_rfl) (by kernel_rfl) (by kernel_rfl) (fun _ _ _ h => h) (Or.inl ⟨by rfl, ?ra1n3⟩) (by assumption) ?_
      case ra1n3 => (intro w hSw; (try dsimp only at hSw); (go_simp <;> with_reducible rfl))
      try simp only [Act.put, List.setIfInBounds_toArray, List.set_cons_zero, List.set_cons_succ]
      refine wpAnyH_ready (rs := [1]) (by kernel_rfl) (by simp) ?_
      refine AllReadyH.cons (o := { dst := some 62, op := Go.Op.call { callee := Go.Callee.value (Go.Operand.func 62), args := #[Go.Operand.tmp 61], argTypes := #[28] }, type := 3, pos := "ref.go:68", after := #[{ on := 0, ground := Go.Ground.data }], guard := none }) rfl (fun K hK => ?_) AllReadyH.nil
      go_simp
      (go_at_call 62; refine (HUX.out _ (by first | exact (h0).1 | exact h0.1)).mono ?_; rintro e w9 ⟨rfl, hgN⟩)
      first | refine hK.out _ _ ?sa1n4 (fun h4 => ?_) | (go_wp2_with fail; refine hK.out _ _ ?sa1n4 (fun h4 => ?_))
      case sa1n4 => ((try dsimp only); exact HX.out _ _ hgN h0)
      clear hK K h0
      try simp only [Act.put, List.setIfInBounds_toArray, List.set_cons_zero, List.set_cons_succ]
      refine wpAnyH_take (i := 4) (oi := { dst := some 65, op := Go.Op.binOp Go.BinOp.gtr 3 (Go.Operand.tmp 62) (Go.Operand.tmp 64) 3, type := 4, pos := "ref.go:68", after := #[{ on := 1, ground := Go.Ground.data }, { on := 3, ground := Go.Ground.data }], guard := none }) (v := (.bool true)) rfl (by kernel_rfl) (by kernel_rfl) (by kernel_rfl) (fun _ _ _ h => h) (Or.inl ⟨by rfl, ?ra1n5⟩) (by assumption) ?_
      case ra1n5 => (intro w hSw; (try dsimp only at hSw); go_simp; have h9 := of_decide_eq_true HQ.out; omega)
      try simp only [Act.put, List.setIfInBounds_toArray, List.set_cons_zero, List.set_cons_succ]
      refine wpAnyH_take (i := 5) (oi := { dst := some 66, op := Go.Op.move (Go.Operand.tmp 65), type := 4, pos := "ref.go:68", after := #[{ on := 4, ground := Go.Ground.data }, { on := 1, ground := Go.Ground.chain }], guard := none }) (v := ?va1n6) rfl (by kernel_rfl) (by kernel_rfl) (by kernel_rfl) (fun _ _ _ h => h) (Or.inl ⟨by rfl, ?ra1n6⟩) (by assumption) ?_
      case ra1n6 => (intro w hSw; (try dsimp only at hSw); (go_simp <;> with_reducible rfl))
      try simp only [Act.put, List.setIfInBounds_toArray, List.set_cons_zero, List.set_cons_succ]
      refine wpAnyH_take (i := 6) (oi := { dst := some 67, op := Go.Op.load 28 (Go.Operand.tmp 11), type := 28, pos := "ref.go:68", after := #[{ on := 5, ground := Go.Ground.guard }], guard := some (5, true) }) (v := ?va1n7) rfl (by kernel_rfl) (by kernel_rfl) (by kernel_rfl) (fun _ _ _ h => h) (Or.inl ⟨by rfl, ?ra1n7⟩) (by assumption) ?_
      case ra1n7 => (intro w hSw; (try dsimp only at hSw); (go_simp <;> with_reducible rfl))
      try simp only [Act.put, List.setIfInBounds_toArray, List.set_cons_zero, List.set_cons_succ]
      refine wpAnyH_take (i := 8) (oi := { dst := some 69, op := Go.Op.load 28 (Go.Operand.tmp 4), type := 28, pos := "ref.go:68", after := #[{ on := 5, ground := Go.Ground.guard }], guard := some (5, true) }) (v := ?va1n8) rfl (by kernel_rfl) (by kernel_rfl) (by kernel_rfl) (fun _ _ _ h => h) (Or.inl ⟨by rfl, ?ra1n8⟩) (by assumption) ?_
      case ra1n8 => (intro w hSw; (try dsimp only at hSw); (go_simp <;> with_reducible rfl))
      try simp only [Act.put, List.setIfInBounds_toArray, List.set_cons_zero, List.set_cons_succ]
      refine wpAnyH_ready (rs := [7]) (by kernel_rfl) (by simp) ?_
      refine AllReadyH.cons (o := { dst := some 68, op := Go.Op.call { callee := Go.Callee.value (Go.Operand.func 62), args := #[Go.Operand.tmp 67], argTypes := #[28] }, type := 3, pos := "ref.go:68", after := #[{ on := 6, ground := Go.Ground.data }, { on := 5, ground := Go.Ground.chain }, { on := 5, ground := Go.Ground.guard }], guard := some (5, true) }) rfl (fun K hK => ?_) AllReadyH.nil
      go_simp
      (go_at_call 62; refine (HUX.out _ (by first | exact (h4).1 | exact h0.1)).mono ?_; rintro e w9 ⟨rfl, hgN⟩)
      first | refine hK.out _ _ ?sa1n9 (fun h9 => ?_) | (go_wp2_with fail; refine hK.out _ _ ?sa1n9 (fun h9 => ?_))
      case sa1n9 => ((try dsimp only); exact HX.out _ _ hgN h4)
      clear hK K h4
      try simp only [Act.put, List.setIfInBounds_toArray, List.set_cons_zero, List.set_cons_succ]
      refine wpAnyH_ready (rs := [9]) (by kernel_rfl) (by simp) ?_
      refine AllReadyH.cons (o := { dst := some 70, op := Go.Op.call { callee := Go.Callee.value (Go.Operand.func 62), args := #[Go.Operand.tmp 69], argTypes := #[28] }, type := 3, pos := "ref.go:68", after := #[{ on := 8, ground := Go.Ground.data }, { on := 7, ground := Go.Ground.chain }, { on := 5, ground := Go.Ground.guard }], guard := some (5, true) }) rfl (fun K hK => ?_) AllReadyH.nil
      go_simp
      (go_at_call 62; refine (HUD.out _ (by first | exact (h9).1 | exact h0.1)).mono ?_; rintro e w9 ⟨rfl, hgN⟩)
      first | refine hK.out _ _ ?sa1n10 (fun h10 => ?_) | (go_wp2_with fail; refine hK.out _ _ ?sa1n10 (fun h10 => ?_))
      case sa1n10 => ((try dsimp only); exact HX.out _ _ hgN h9)
      clear hK K h9
      try simp only [Act.put, List.setIfInBounds_toArray, List.set_cons_zero, List.set_cons_succ]
      refine wpAnyH_take (i := 10) (oi := { dst := some 71, op := Go.Op.binOp Go.BinOp.gtr 3 (Go.Operand.tmp 68) (Go.Operand.tmp 70) 3, type := 4, pos := "ref.go:68", after := #[{ on := 7, ground := Go.Ground.data }, { on := 9, ground := Go.Ground.data }, { on := 5, ground := Go.Ground.guard }], guard := some (5, true) }) (v := (.bool true)) rfl (by kernel_rfl) (by kernel_rfl) (by kernel_rfl) (fun _ _ _ h => h) (Or.inl ⟨by rfl, ?ra1n11⟩) (by assumption) ?_
      case ra1n11 => (intro w hSw; (try dsimp only at hSw); go_simp; have h9 := of_decide_eq_true HQ2.out; omega)
      try simp only [Act.put, List.setIfInBounds_toArray, List.set_cons_zero, List.set_cons_succ]
      refine wpAnyH_take (i := 11) (oi := { dst := some 72, op := Go.Op.pick (Go.Operand.tmp 66) (Go.Operand.tmp 71) (Go.Operand.const (Go.Value.bool false)), type := 4, pos := "ref.go:68", after := #[{ on := 5, ground := Go.Ground.data }, { on := 10, ground := Go.Ground.data }], guard := none }) (v := ?va1n12) rfl (by kernel_rfl) (by kernel_rfl) (by kernel_rfl) (fun _ _ _ h => h) (Or.inl ⟨by rfl, ?ra1n12⟩) (by assumption) ?_
      case ra1n12 => (intro w hSw; (try dsimp only at hSw); (go_simp <;> with_reducible rfl))
      try simp only [Act.put, List.setIfInBounds_toArray, List.set_cons_zero, List.set_cons_succ]
      refine wpAnyH_done (by kernel_rfl) ?_ _
      exact HL _ h10
    case rest =>
      rintro wy ⟨hgy, x0, x1, x2, d0, d1, d2⟩
      have HB5 := Lib.hid (HB86.out.gr hgy)
      have HA7 := Lib.hid (HA6.out.gr hgy)
      have HAD := Lib.hid (HA.out.gr (HG6.out.trans hgy))
      have HG7 := Lib.hid (HG6.out.trans hgy)
      have b0 := HB5.out.cell (i := 0) rfl
      have b1 := HB5.out.cell (i := 1) rfl
      have b2 := HB5.out.cell (i := 2) rfl
      have f0 := HB5.out.free 0
      have f1 := HB5.out.free 1
      have f2 := HB5.out.free 2
      clear hgy HX HS0 HUX HUD HQ
      go_wp2
      have HST := Lib.hid (stored (d := tick d) (R := R) (fv := (-1)) (cap := cap) HB5.out HAD.out)
      have HG8 := Lib.hid (HG7.out.store3 (b := w.heap.size + 1) (by omega) (.slice (some ⟨gb, off, none⟩) 4 cap) (.int .i64 R) (.int .i64 (-1)))
      have r0 := HST.out.1.cell (i := 0) rfl
      have r1 := HST.out.1.cell (i := 1) rfl
      have r2 := HST.out.1.cell (i := 2) rfl
      refine bodyPost_ret (v := .tuple #[.agg #[.slice (some ⟨gb, off, none⟩) 4 cap, .int .i64 R, .int .i64 (-1)], .int .i64 17]) (by simp [results, Try.results19, go_sem, r0, r1, r2]; try rfl) rfl ?_
      exact ⟨_, by rw [HE.out]; rfl, by rw [HE.out]; exact ⟨gb, off, cap, by rw [HT.out, HTR.out]; try rfl, HST.out.2⟩, HG8.out, .inl (by rfl)⟩
end Go.Proofs.Ytjllnojhhlkpoaa
