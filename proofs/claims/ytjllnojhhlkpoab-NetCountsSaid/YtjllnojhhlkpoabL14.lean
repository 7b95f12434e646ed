import Derived.Test.YtjllnojhhlkpoabF14e
import Derived.Test.YtjllnojhhlkpoabC12
import Derived.Test.YtjllnojhhlkpoabC26
import Derived.WalkKit
import Derived.ProofKit
import Derived.LoopTactic
import Derived.Outline
import Derived.WalkSpells
import Derived.WalkLawsBesides
import Derived.Lib.Hide
import Derived.Deep.LoopGhost
import Derived.Deep.QuietTactic
import Derived.BigQuiet
import Derived.ShutString
import Derived.IntWalk
import Derived.Lib.MinMax
import Derived.Deep.AppendLies
import Derived.Deep.RegionWith
import Derived.Deep.RegionHeld3
namespace Go.Proofs.Ytjllnojhhlkpoab
open Go.ChangeShapes Go.WideShapes Go.ChangeAt Go.RowKit
set_option linter.unusedVariables false
set_option linter.unusedSimpArgs false
open Nt
/-- A row of packets of the call's own, apart from a net. -/
structure SentIs (w0 w : World) (sv : Value) (b : Nat) (v : Value) (L : List P) : Prop where
  row : w.ownsRow w0.heap.size 42 3 sv L.length (pcells L)
  off : ∀ k, sv.ownBlock = some k → k ≠ b ∧ v.ownBlock ≠ some k
theorem SentIs.gr {w0 w w' : World} {sv v : Value} {b : Nat} {L : List P} (h : SentIs w0 w sv b v L) (hg : Gr w w') : SentIs w0 w' sv b v L := ⟨ownsRow_gr hg h.row, h.off⟩
theorem SentIs.far {w0 w w' : World} {sv v v' : Value} {b : Nat} {L : List P} (h : SentIs w0 w sv b v L) (hf : Far b v w w') (hv : From v w v') : SentIs w0 w' sv b v' L :=
  ⟨ownsRow_far hf h.row (fun e => (h.off b e).1 rfl) (fun k e => (h.off k e).2), fun k e => ⟨(h.off k e).1, fun e2 => by
    rcases hv k e2 with h1 | h1
    · exact (h.off k e).2 h1
    · have := (h.row.lt k e).2; omega⟩⟩
theorem NtOwn.grown {w0 w w' : World} {b : Nat} {v sv : Value} {x : N} (h : NtOwn w0 w b v x) {e : TypeId} {size n : Nat} {xs : List Value} (hr : w.ownsRow w0.heap.size e size sv n xs) (hg : w.grownBy w' sv.ownBlock) (hoff : ∀ k, sv.ownBlock = some k → k ≠ b ∧ v.ownBlock ≠ some k) : NtOwn w0 w' b v x :=
  ⟨h.is.far (b := w.heap.size) (v := sv) (Far.of_grown hg) (by have := cell_lt h.is.nodes; omega) (fun e => (hoff b e).1 rfl) (fun e => by have := h.is.away _ e; omega) (fun k e e2 => (hoff k e2).2 e), h.gr.append hr hg, h.lo⟩
theorem send_new {x y : N} {p : P} {q : Bool} (h : Nt.send x p = (y, q)) (hc : x.cut = fun _ _ => false) : y.cut = (fun _ _ => false) ∧ y.L = (if q then x.L ++ [p] else x.L) := by
  unfold Nt.send Nt.add at h
  split at h
  · split at h
    · simp only [Prod.mk.injEq] at h; obtain ⟨rfl, rfl⟩ := h; exact ⟨hc, rfl⟩
    · simp only [Prod.mk.injEq] at h; obtain ⟨rfl, rfl⟩ := h; exact ⟨hc, rfl⟩
  · simp only [Prod.mk.injEq] at h; obtain ⟨rfl, rfl⟩ := h; exact ⟨hc, rfl⟩
theorem take_head {x : N} {p : P} {t : List P} (h : x.L = p :: t) (hc : x.cut = fun _ _ => false) : Nt.take x 0 = (p, true) ∧ (Nt.drop x 0).L = t ∧ (Nt.drop x 0).cut = fun _ _ => false := by
  have hb : Nt.hasB x 0 = true := decide_eq_true ⟨by omega, by rw [h]; simp⟩
  have hl : (Nt.look x 0).1 = p := by unfold Nt.look; rw [if_pos hb]; show x.L.getD _ _ = p; rw [h]; rfl
  have hd : Nt.drop x 0 = put x (x.L.eraseIdx 0) := by unfold Nt.drop; rw [if_pos hb]; rfl
  refine ⟨?_, by rw [hd]; show x.L.eraseIdx 0 = t; rw [h]; rfl, by rw [hd]; exact hc⟩
  unfold Nt.take
  rw [hb, hl]
  have : Nt.isCut x p.a p.b = false := by unfold Nt.isCut; rw [hc]; simp
  rw [this]; rfl
theorem empty_all {x : N} (h : x.L = []) : Nt.take x 0 = (pzero, false) ∧ Nt.drop x 0 = x ∧ Nt.hasB x 0 = false ∧ Nt.last x 0 = (x, false) ∧ Nt.again x 0 = (x, false) := by
  have hb : Nt.hasB x 0 = false := decide_eq_false (by rw [h]; simp)
  refine ⟨?_, ?_, hb, ?_, ?_⟩
  · unfold Nt.take; rw [hb]; rfl
  · unfold Nt.drop; rw [hb]; rfl
  · unfold Nt.last; rw [hb]; rfl
  · unfold Nt.again; rw [hb]; rfl
set_option maxRecDepth 100000 in
set_option maxHeartbeats 2000000 in
theorem fifo_walk (n : Int) (L : List ActN) (a : Option Addr) (cap : Nat) (w : World) (hL : ActNRow w a L) :
    Calls Try.prog 6 #[.int .i64 n, .slice a L.length cap] w fun e w' => e = .returned (.bool true) ∧ Gr w w' := by
  obtain ⟨i0, hi, hz0, hz1, hz2⟩ := info_parts info_packet
  have HL := Lib.hid hL
  have hll := hL.1
  clear hL
  go_enter Try.func6, Try.ntmps6
  go_wp2_with fail
  refine (awake14 _).mono ?_
  rintro e w1 ⟨rfl, hg1⟩
  have HG1 := Lib.hid hg1
  clear hg1
  go_wp2_with fail
  refine (nnew_any n _).mono ?_
  rintro e w2 ⟨b, rfl, hb, h2, hg2⟩
  have H2 := Lib.hid (NtOwn.mk h2 (HG1.out.trans hg2) (by have := HG1.out.size; omega))
  clear hb h2 hg2
  go_wp2
  go_loopw [6, 7] (fun sv i wr => ∃ (k : Nat) (v : Value) (x : N), k ≤ L.length ∧ k ≤ 100 ∧ i = .int .i64 (k : Nat) ∧ x.L.length ≤ k ∧ Hid (NtOwn w wr b v x) ∧ Hid (SentIs w wr sv b v x.L) ∧ Hid (x.cut = fun _ _ => false)) (fun _ i _ => L.length - (intOf i).toNat)
  case atStart => exact ⟨0, _, Nt.new n, by omega, by omega, rfl, by simp [Nt.new], H2, Lib.hid ⟨World.ownsRow_nil _ _ _ _, fun k e => by simp [Value.ownBlock] at e⟩, Lib.hid rfl⟩
  case round =>
    clear H2 HG1
    obtain ⟨k, v, x, hk, hk100, rfl, hxl, H, HS, HC⟩ := hrel
    by_cases hlt : k < L.length
    · by_cases h100 : k < 100
      · obtain ⟨bb, oo, rfl, hbb, hat, hok⟩ := HL.out.at k hlt
        obtain ⟨c0, c1, c2, c3⟩ := hat.gr H.out.gr
        generalize L[k] = p at *
        have hS := hok.2.2.2
        have CU := Lib.hid (fun w => cut_any p.S 30 w hS (by decide))
        have hcs := cutB_le p.S 30
        generalize hct : cutB p.S 30 = s at *
        clear hct hok hat hS
        obtain ⟨pK, pA, pB, pS⟩ := p
        simp only at c0 c1 c2 c3 CU
        have hk4 : (k : Int) < (L.length : Int) := by omega
        have HX : Hid (∀ w0 w9 : World, Gr w0 w9 → (fun w9 => Gr wr w9 ∧ w9.cell? ⟨bb, oo + k * 4 + 1, none⟩ = some (.int .i64 pA) ∧ w9.cell? ⟨bb, oo + k * 4 + 2, none⟩ = some (.int .i64 pB) ∧ w9.cell? ⟨bb, oo + k * 4 + 3, none⟩ = some (.string pS)) w0 → (fun w9 => Gr wr w9 ∧ w9.cell? ⟨bb, oo + k * 4 + 1, none⟩ = some (.int .i64 pA) ∧ w9.cell? ⟨bb, oo + k * 4 + 2, none⟩ = some (.int .i64 pB) ∧ w9.cell? ⟨bb, oo + k * 4 + 3, none⟩ = some (.string pS)) w9) := Lib.hid fun w0 w9 hg ⟨h, q1, q2, q3⟩ => ⟨h.trans hg, hg.cell q1, hg.cell q2, hg.cell q3⟩
        have HS0 : (fun w9 => Gr wr w9 ∧ w9.cell? ⟨bb, oo + k * 4 + 1, none⟩ = some (.int .i64 pA) ∧ w9.cell? ⟨bb, oo + k * 4 + 2, none⟩ = some (.int .i64 pB) ∧ w9.cell? ⟨bb, oo + k * 4 + 3, none⟩ = some (.string pS)) wr := ⟨Gr.refl _, c1, c2, c3⟩
        clear c0 c1 c2 c3
        go_wp2_with fail
        apply cutS (fun w9 => w9 = (wr.alloc (.cells #[.int .i64 pA, .int .i64 pB, .string s] 42)).drew)
        case main =>
          intro HL2
          refine wp_region_held_drew (S := (fun w9 => Gr wr w9 ∧ w9.cell? ⟨bb, oo + k * 4 + 1, none⟩ = some (.int .i64 pA) ∧ w9.cell? ⟨bb, oo + k * 4 + 2, none⟩ = some (.int .i64 pB) ∧ w9.cell? ⟨bb, oo + k * 4 + 3, none⟩ = some (.string pS))) (by kernel_rfl) ?inva (fun h0 => ?_)
          case inva => ((try dsimp only); (exact HX.out _ _ ((Gr.refl _).drew) HS0))
          refine wpAnyH_take (i := 0) (oi := { dst := some 31, op := Go.Op.move (Go.Operand.tmp 1), type := 22, pos := "law.go:193", after := #[], guard := none }) (v := ?va1) rfl (by kernel_rfl) (by kernel_rfl) (by kernel_rfl) (fun _ _ _ h => h) (Or.inl ⟨by rfl, ?ra1⟩) (by assumption) ?_
          case ra1 => (intro w hSw; (try dsimp only at hSw); (go_simp <;> with_reducible rfl))
          try simp only [Act.put, List.setIfInBounds_toArray, List.set_cons_zero, List.set_cons_succ]
          refine wpAnyH_take (i := 1) (oi := { dst := some 32, op := Go.Op.move (Go.Operand.tmp 7), type := 3, pos := "law.go:193", after := #[], guard := none }) (v := ?va2) rfl (by kernel_rfl) (by kernel_rfl) (by kernel_rfl) (fun _ _ _ h => h) (Or.inl ⟨by rfl, ?ra2⟩) (by assumption) ?_
          case ra2 => (intro w hSw; (try dsimp only at hSw); (go_simp <;> with_reducible rfl))
          try simp only [Act.put, List.setIfInBounds_toArray, List.set_cons_zero, List.set_cons_succ]
          refine wpAnyH_take (i := 2) (oi := { dst := some 33, op := Go.Op.indexAddr 22 (Go.Operand.tmp 31) (Go.Operand.tmp 32), type := 0, pos := "law.go:193", after := #[{ on := 0, ground := Go.Ground.data }, { on := 1, ground := Go.Ground.data }], guard := none }) (v := ?va3) rfl (by kernel_rfl) (by kernel_rfl) (by kernel_rfl) (fun _ _ _ h => h) (Or.inl ⟨by rfl, ?ra3⟩) (by assumption) ?_
          case ra3 => (intro w hSw; (try dsimp only at hSw); (go_simp <;> with_reducible rfl))
          try simp only [Act.put, List.setIfInBounds_toArray, List.set_cons_zero, List.set_cons_succ]
          refine wpAnyH_take (i := 3) (oi := { dst := some 34, op := Go.Op.fieldAddr 34 (Go.Operand.tmp 33) 1, type := 0, pos := "law.go:193", after := #[{ on := 2, ground := Go.Ground.data }], guard := none }) (v := ?va4) rfl (by kernel_rfl) (by kernel_rfl) (by kernel_rfl) (fun _ _ _ h => h) (Or.inl ⟨by rfl, ?ra4⟩) (by assumption) ?_
          case ra4 => (intro w hSw; (try dsimp only at hSw); (go_simp <;> with_reducible rfl))
          try simp only [Act.put, List.setIfInBounds_toArray, List.set_cons_zero, List.set_cons_succ]
          refine wpAnyH_take (i := 4) (oi := { dst := some 35, op := Go.Op.load 3 (Go.Operand.tmp 34), type := 3, pos := "law.go:193", after := #[{ on := 3, ground := Go.Ground.data }], guard := none }) (v := ?va5) rfl (by kernel_rfl) (by kernel_rfl) (by kernel_rfl) (fun _ _ _ h => h) (Or.inl ⟨by rfl, ?ra5⟩) (by assumption) ?_
          case ra5 => (intro w hSw; (try dsimp only at hSw); (go_simp <;> with_reducible rfl))
          try simp only [Act.put, List.setIfInBounds_toArray, List.set_cons_zero, List.set_cons_succ]
          refine wpAnyH_take (i := 5) (oi := { dst := some 36, op := Go.Op.move (Go.Operand.tmp 1), type := 22, pos := "law.go:193", after := #[], guard := none }) (v := ?va6) rfl (by kernel_rfl) (by kernel_rfl) (by kernel_rfl) (fun _ _ _ h => h) (Or.inl ⟨by rfl, ?ra6⟩) (by assumption) ?_
          case ra6 => (intro w hSw; (try dsimp only at hSw); (go_simp <;> with_reducible rfl))
          try simp only [Act.put, List.setIfInBounds_toArray, List.set_cons_zero, List.set_cons_succ]
          refine wpAnyH_take (i := 6) (oi := { dst := some 37, op := Go.Op.move (Go.Operand.tmp 7), type := 3, pos := "law.go:193", after := #[], guard := none }) (v := ?va7) rfl (by kernel_rfl) (by kernel_rfl) (by kernel_rfl) (fun _ _ _ h => h) (Or.inl ⟨by rfl, ?ra7⟩) (by assumption) ?_
          case ra7 => (intro w hSw; (try dsimp only at hSw); (go_simp <;> with_reducible rfl))
          try simp only [Act.put, List.setIfInBounds_toArray, List.set_cons_zero, List.set_cons_succ]
          refine wpAnyH_take (i := 7) (oi := { dst := some 38, op := Go.Op.indexAddr 22 (Go.Operand.tmp 36) (Go.Operand.tmp 37), type := 0, pos := "law.go:193", after := #[{ on := 5, ground := Go.Ground.data }, { on := 6, ground := Go.Ground.data }], guard := none }) (v := ?va8) rfl (by kernel_rfl) (by kernel_rfl) (by kernel_rfl) (fun _ _ _ h => h) (Or.inl ⟨by rfl, ?ra8⟩) (by assumption) ?_
          case ra8 => (intro w hSw; (try dsimp only at hSw); (go_simp <;> with_reducible rfl))
          try simp only [Act.put, List.setIfInBounds_toArray, List.set_cons_zero, List.set_cons_succ]
          refine wpAnyH_take (i := 8) (oi := { dst := some 39, op := Go.Op.fieldAddr 34 (Go.Operand.tmp 38) 2, type := 0, pos := "law.go:193", after := #[{ on := 7, ground := Go.Ground.data }], guard := none }) (v := ?va9) rfl (by kernel_rfl) (by kernel_rfl) (by kernel_rfl) (fun _ _ _ h => h) (Or.inl ⟨by rfl, ?ra9⟩) (by assumption) ?_
          case ra9 => (intro w hSw; (try dsimp only at hSw); (go_simp <;> with_reducible rfl))
          try simp only [Act.put, List.setIfInBounds_toArray, List.set_cons_zero, List.set_cons_succ]
          refine wpAnyH_take (i := 9) (oi := { dst := some 40, op := Go.Op.load 3 (Go.Operand.tmp 39), type := 3, pos := "law.go:193", after := #[{ on := 8, ground := Go.Ground.data }], guard := none }) (v := ?va10) rfl (by kernel_rfl) (by kernel_rfl) (by kernel_rfl) (fun _ _ _ h => h) (Or.inl ⟨by rfl, ?ra10⟩) (by assumption) ?_
          case ra10 => (intro w hSw; (try dsimp only at hSw); (go_simp <;> with_reducible rfl))
          try simp only [Act.put, List.setIfInBounds_toArray, List.set_cons_zero, List.set_cons_succ]
          refine wpAnyH_take (i := 10) (oi := { dst := some 41, op := Go.Op.move (Go.Operand.tmp 1), type := 22, pos := "law.go:193", after := #[], guard := none }) (v := ?va11) rfl (by kernel_rfl) (by kernel_rfl) (by kernel_rfl) (fun _ _ _ h => h) (Or.inl ⟨by rfl, ?ra11⟩) (by assumption) ?_
          case ra11 => (intro w hSw; (try dsimp only at hSw); (go_simp <;> with_reducible rfl))
          try simp only [Act.put, List.setIfInBounds_toArray, List.set_cons_zero, List.set_cons_succ]
          refine wpAnyH_take (i := 11) (oi := { dst := some 42, op := Go.Op.move (Go.Operand.tmp 7), type := 3, pos := "law.go:193", after := #[], guard := none }) (v := ?va12) rfl (by kernel_rfl) (by kernel_rfl) (by kernel_rfl) (fun _ _ _ h => h) (Or.inl ⟨by rfl, ?ra12⟩) (by assumption) ?_
          case ra12 => (intro w hSw; (try dsimp only at hSw); (go_simp <;> with_reducible rfl))
          try simp only [Act.put, List.setIfInBounds_toArray, List.set_cons_zero, List.set_cons_succ]
          refine wpAnyH_take (i := 12) (oi := { dst := some 43, op := Go.Op.indexAddr 22 (Go.Operand.tmp 41) (Go.Operand.tmp 42), type := 0, pos := "law.go:193", after := #[{ on := 10, ground := Go.Ground.data }, { on := 11, ground := Go.Ground.data }], guard := none }) (v := ?va13) rfl (by kernel_rfl) (by kernel_rfl) (by kernel_rfl) (fun _ _ _ h => h) (Or.inl ⟨by rfl, ?ra13⟩) (by assumption) ?_
          case ra13 => (intro w hSw; (try dsimp only at hSw); (go_simp <;> with_reducible rfl))
          try simp only [Act.put, List.setIfInBounds_toArray, List.set_cons_zero, List.set_cons_succ]
          refine wpAnyH_take (i := 13) (oi := { dst := some 44, op := Go.Op.fieldAddr 34 (Go.Operand.tmp 43) 3, type := 0, pos := "law.go:193", after := #[{ on := 12, ground := Go.Ground.data }], guard := none }) (v := ?va14) rfl (by kernel_rfl) (by kernel_rfl) (by kernel_rfl) (fun _ _ _ h => h) (Or.inl ⟨by rfl, ?ra14⟩) (by assumption) ?_
          case ra14 => (intro w hSw; (try dsimp only at hSw); (go_simp <;> with_reducible rfl))
          try simp only [Act.put, List.setIfInBounds_toArray, List.set_cons_zero, List.set_cons_succ]
          refine wpAnyH_take (i := 14) (oi := { dst := some 45, op := Go.Op.load 9 (Go.Operand.tmp 44), type := 9, pos := "law.go:193", after := #[{ on := 13, ground := Go.Ground.data }], guard := none }) (v := ?va15) rfl (by kernel_rfl) (by kernel_rfl) (by kernel_rfl) (fun _ _ _ h => h) (Or.inl ⟨by rfl, ?ra15⟩) (by assumption) ?_
          case ra15 => (intro w hSw; (try dsimp only at hSw); (go_simp <;> with_reducible rfl))
          try simp only [Act.put, List.setIfInBounds_toArray, List.set_cons_zero, List.set_cons_succ]
          refine wpAnyH_ready (rs := [15, 17]) (by kernel_rfl) (by simp) ?_
          refine AllReadyH.cons (o := { dst := some 46, op := Go.Op.call { callee := Go.Callee.value (Go.Operand.func 18), args := #[Go.Operand.tmp 45, Go.Operand.const (Go.Value.int Go.IntKind.i64 30)], argTypes := #[9, 3] }, type := 9, pos := "law.go:193", after := #[{ on := 14, ground := Go.Ground.data }], guard := none }) rfl (fun K hK => ?_) (AllReadyH.cons (o := { dst := some 8, op := Go.Op.alloc 42, type := 0, pos := "law.go:193", after := #[], guard := none }) rfl (fun K hK => ?_) AllReadyH.nil)
          · skip
            go_simp
            (go_at_call 18; refine (CU.out _).mono ?_; rintro e w9 ⟨rfl, rfl⟩)
            first | refine hK.out _ _ ?sa16 (fun h16 => ?_) | (go_wp2_with fail; refine hK.out _ _ ?sa16 (fun h16 => ?_))
            case sa16 => ((try dsimp only); (first | exact h0 | exact HX.out _ _ (((Gr.refl _).drew).alloc _) HS0 | exact HX.out _ _ (((Gr.refl _).alloc _).drew) HS0))
            clear hK K h0
            try simp only [Act.put, List.setIfInBounds_toArray, List.set_cons_zero, List.set_cons_succ]
            refine wpAnyH_take (i := 16) (oi := { dst := some 47, op := Go.Op.build 42 #[(0, Go.Operand.tmp 35), (1, Go.Operand.tmp 40), (2, Go.Operand.tmp 46)], type := 42, pos := "law.go:193", after := #[{ on := 4, ground := Go.Ground.data }, { on := 9, ground := Go.Ground.data }, { on := 15, ground := Go.Ground.data }], guard := none }) (v := ?va17) rfl (by kernel_rfl) (by kernel_rfl) (by kernel_rfl) (fun _ _ _ h => h) (Or.inl ⟨by rfl, ?ra17⟩) (by assumption) ?_
            case ra17 => (intro w hSw; (try dsimp only at hSw); (go_simp <;> with_reducible rfl))
            try simp only [Act.put, List.setIfInBounds_toArray, List.set_cons_zero, List.set_cons_succ]
            refine wpAnyH_ready (rs := [17]) (by kernel_rfl) (by simp) ?_
            refine AllReadyH.cons (o := { dst := some 8, op := Go.Op.alloc 42, type := 0, pos := "law.go:193", after := #[], guard := none }) rfl (fun K hK => ?_) AllReadyH.nil
            go_simp
            skip
            first | refine hK.out _ _ ?sa18 (fun h18 => ?_) | (go_wp2_with fail; refine hK.out _ _ ?sa18 (fun h18 => ?_))
            case sa18 => ((try dsimp only); (first | exact h16 | exact HX.out _ _ (((Gr.refl _).drew).alloc _) HS0 | exact HX.out _ _ (((Gr.refl _).alloc _).drew) HS0))
            clear hK K h16
            try simp only [Act.put, List.setIfInBounds_toArray, List.set_cons_zero, List.set_cons_succ]
            refine wpAnyH_ready (rs := [18]) (by kernel_rfl) (by simp) ?_
            refine AllReadyH.cons (o := { dst := none, op := Go.Op.store 42 (Go.Operand.tmp 8) (Go.Operand.tmp 47), type := 0, pos := "law.go:193", after := #[{ on := 17, ground := Go.Ground.data }, { on := 16, ground := Go.Ground.data }, { on := 15, ground := Go.Ground.chain }, { on := 0, ground := Go.Ground.phase }, { on := 1, ground := Go.Ground.phase }, { on := 2, ground := Go.Ground.phase }, { on := 3, ground := Go.Ground.phase }, { on := 4, ground := Go.Ground.phase }, { on := 5, ground := Go.Ground.phase }, { on := 6, ground := Go.Ground.phase }, { on := 7, ground := Go.Ground.phase }, { on := 8, ground := Go.Ground.phase }, { on := 9, ground := Go.Ground.phase }, { on := 10, ground := Go.Ground.phase }, { on := 11, ground := Go.Ground.phase }, { on := 12, ground := Go.Ground.phase }, { on := 13, ground := Go.Ground.phase }, { on := 14, ground := Go.Ground.phase }, { on := 15, ground := Go.Ground.phase }, { on := 16, ground := Go.Ground.phase }, { on := 17, ground := Go.Ground.phase }], guard := none }) rfl (fun K hK => ?_) AllReadyH.nil
            go_simp
            skip
            first | refine hK.out _ _ ?sa19 (fun h19 => ?_) | (go_wp2_with fail; refine hK.out _ _ ?sa19 (fun h19 => ?_))
            case sa19 => ((try dsimp only); (first | exact h18 | exact HX.out _ _ (((Gr.refl _).drew).alloc _) HS0 | exact HX.out _ _ (((Gr.refl _).alloc _).drew) HS0))
            clear hK K h18
            try simp only [Act.put, List.setIfInBounds_toArray, List.set_cons_zero, List.set_cons_succ]
            refine wpAnyH_done (by kernel_rfl) ?_ _
            exact HL2 _ rfl
          · skip
            go_simp
            skip
            first | refine hK.out _ _ ?sa20 (fun h20 => ?_) | (go_wp2_with fail; refine hK.out _ _ ?sa20 (fun h20 => ?_))
            case sa20 => ((try dsimp only); (first | exact h0 | exact HX.out _ _ (((Gr.refl _).drew).alloc _) HS0 | exact HX.out _ _ (((Gr.refl _).alloc _).drew) HS0))
            clear hK K h0
            try simp only [Act.put, List.setIfInBounds_toArray, List.set_cons_zero, List.set_cons_succ]
            refine wpAnyH_ready (rs := [15]) (by kernel_rfl) (by simp) ?_
            refine AllReadyH.cons (o := { dst := some 46, op := Go.Op.call { callee := Go.Callee.value (Go.Operand.func 18), args := #[Go.Operand.tmp 45, Go.Operand.const (Go.Value.int Go.IntKind.i64 30)], argTypes := #[9, 3] }, type := 9, pos := "law.go:193", after := #[{ on := 14, ground := Go.Ground.data }], guard := none }) rfl (fun K hK => ?_) AllReadyH.nil
            go_simp
            (go_at_call 18; refine (CU.out _).mono ?_; rintro e w9 ⟨rfl, rfl⟩)
            first | refine hK.out _ _ ?sa21 (fun h21 => ?_) | (go_wp2_with fail; refine hK.out _ _ ?sa21 (fun h21 => ?_))
            case sa21 => ((try dsimp only); (first | exact h20 | exact HX.out _ _ (((Gr.refl _).drew).alloc _) HS0 | exact HX.out _ _ (((Gr.refl _).alloc _).drew) HS0))
            clear hK K h20
            try simp only [Act.put, List.setIfInBounds_toArray, List.set_cons_zero, List.set_cons_succ]
            refine wpAnyH_take (i := 16) (oi := { dst := some 47, op := Go.Op.build 42 #[(0, Go.Operand.tmp 35), (1, Go.Operand.tmp 40), (2, Go.Operand.tmp 46)], type := 42, pos := "law.go:193", after := #[{ on := 4, ground := Go.Ground.data }, { on := 9, ground := Go.Ground.data }, { on := 15, ground := Go.Ground.data }], guard := none }) (v := ?va22) rfl (by kernel_rfl) (by kernel_rfl) (by kernel_rfl) (fun _ _ _ h => h) (Or.inl ⟨by rfl, ?ra22⟩) (by assumption) ?_
            case ra22 => (intro w hSw; (try dsimp only at hSw); (go_simp <;> with_reducible rfl))
            try simp only [Act.put, List.setIfInBounds_toArray, List.set_cons_zero, List.set_cons_succ]
            refine wpAnyH_ready (rs := [18]) (by kernel_rfl) (by simp) ?_
            refine AllReadyH.cons (o := { dst := none, op := Go.Op.store 42 (Go.Operand.tmp 8) (Go.Operand.tmp 47), type := 0, pos := "law.go:193", after := #[{ on := 17, ground := Go.Ground.data }, { on := 16, ground := Go.Ground.data }, { on := 15, ground := Go.Ground.chain }, { on := 0, ground := Go.Ground.phase }, { on := 1, ground := Go.Ground.phase }, { on := 2, ground := Go.Ground.phase }, { on := 3, ground := Go.Ground.phase }, { on := 4, ground := Go.Ground.phase }, { on := 5, ground := Go.Ground.phase }, { on := 6, ground := Go.Ground.phase }, { on := 7, ground := Go.Ground.phase }, { on := 8, ground := Go.Ground.phase }, { on := 9, ground := Go.Ground.phase }, { on := 10, ground := Go.Ground.phase }, { on := 11, ground := Go.Ground.phase }, { on := 12, ground := Go.Ground.phase }, { on := 13, ground := Go.Ground.phase }, { on := 14, ground := Go.Ground.phase }, { on := 15, ground := Go.Ground.phase }, { on := 16, ground := Go.Ground.phase }, { on := 17, ground := Go.Ground.phase }], guard := none }) rfl (fun K hK => ?_) AllReadyH.nil
            go_simp
            skip
            first | refine hK.out _ _ ?sa23 (fun h23 => ?_) | (go_wp2_with fail; refine hK.out _ _ ?sa23 (fun h23 => ?_))
            case sa23 => ((try dsimp only); (first | exact h21 | exact HX.out _ _ (((Gr.refl _).drew).alloc _) HS0 | exact HX.out _ _ (((Gr.refl _).alloc _).drew) HS0))
            clear hK K h21
            try simp only [Act.put, List.setIfInBounds_toArray, List.set_cons_zero, List.set_cons_succ]
            refine wpAnyH_done (by kernel_rfl) ?_ _
            exact HL2 _ rfl
        case rest =>
          intro wy hwy
          subst hwy
          have HB5 := Lib.hid ((Blk.new wr #[.int .i64 pA, .int .i64 pB, .string s] 42).gr (Gr.refl _).drew)
          have HG5 := Lib.hid (((Gr.refl wr).alloc (.cells #[.int .i64 pA, .int .i64 pB, .string s] 42)).drew)
          have H5 := Lib.hid (H.out.more HG5.out)
          have HS5 := Lib.hid (HS.out.gr HG5.out)
          have HA5 := Lib.hid (H.out.is.aside (Nat.le_refl _))
          clear HS0 HX H HS
          generalize (wr.alloc (.cells #[.int .i64 pA, .int .i64 pB, .string s] 42)).drew = w5 at *
          generalize wr.heap.size = nb at *
          have p0 := HB5.out.cell (i := 0) rfl
          have p1 := HB5.out.cell (i := 1) rfl
          have p2 := HB5.out.cell (i := 2) rfl
          obtain ⟨y, q, hsend⟩ : ∃ y q, Nt.send x ⟨pA, pB, s⟩ = (y, q) := ⟨_, _, rfl⟩
          obtain ⟨hyc, hyl⟩ := send_new hsend HC.out
          have HYC := Lib.hid hyc
          have HYL := Lib.hid hyl
          have HSE := Lib.hid hsend
          clear hsend hyc hyl
          go_wp2_with fail
          refine (nsend_any ⟨pA, pB, s⟩ _ H5.out.is (by show s.size ≤ 1000000; omega)).mono ?_
          rintro e w6 ⟨rfl, v6, h6, hf6, hv6⟩
          rw [HSE.out] at h6 ⊢
          have H6 := Lib.hid (H5.out.far h6 hf6)
          have HS6 := Lib.hid (HS5.out.far hf6 hv6)
          have HB6 := Lib.hid (HB5.out.far hf6 HA5.out.1 HA5.out.2)
          clear h6 hf6 hv6 p0 p1 p2
          have p0 := HB6.out.cell (i := 0) rfl
          have p1 := HB6.out.cell (i := 1) rfl
          have p2 := HB6.out.cell (i := 2) rfl
          cases q
          · have hyl2 : y.L = x.L := HYL.out
            have HS7 := Lib.hid (show SentIs w w6 u6 b v6 y.L by rw [hyl2]; exact HS6.out)
            have hyk : y.L.length ≤ k + 1 := by rw [hyl2]; omega
            clear hyl2 p0 p1 p2
            go_wp2
            go_roundw
            case rel => exact ⟨k + 1, v6, y, by omega, by omega, by go_num, hyk, H6, HS7, HYC⟩
            case measure => simp [intOf]; omega
          · have hyl2 : y.L = x.L ++ [⟨pA, pB, s⟩] := HYL.out
            have hyk : y.L.length ≤ k + 1 := by rw [hyl2, List.length_append]; simp; omega
            have HPS := Lib.hid (show pcells y.L = pcells x.L ++ [.int .i64 pA, .int .i64 pB, .string s] by rw [hyl2, pcells_snoc])
            have HPL := Lib.hid (show y.L.length = x.L.length + 1 by rw [hyl2]; simp)
            have hrow := HS6.out.row
            have hxl2 : x.L.length ≤ 100 := by omega
            clear hyl2 hxl
            go_wp2_with (at_builtin; go_loud (refine wpList_append_lies _ rfl (.tmp 51) (.tmp 53) 47 rfl w.heap.size 42 i0 (.agg #[.int .i64 0, .int .i64 0, .string ⟨#[]⟩]) 3 32 Try.underlying47 hi hz0 hz1 hz2 rfl (by decide) _ _ _ rfl (hrow.alloc _) ⟨w6.heap.size, 0, none⟩ 1 1 [.int .i64 pA, .int .i64 pB, .string s] rfl rfl ?c1 ?c2 Nat.one_pos ?c3 ?c4 ?c5 _ rfl ?_))
            case c1 => exact World.news_of_block (cs := #[.int .i64 pA, .int .i64 pB, .string s]) (t := 42) (fr := (0, 0)) (heap_alloc_new w6 _)
            case c2 => intro u hu; simp at hu; rcases hu with rfl | rfl | rfl <;> rfl
            case c3 => unfold maxLen; omega
            case c4 => omega
            case c5 => have := H6.out.gr.size; simp; omega
            intro g7 cap7 w7 hown7 hgrow7 hat7 hlt7
            have H7 := Lib.hid ((H6.out.more ((Gr.refl w6).alloc _)).grown (HS6.out.row.alloc _) hgrow7 HS6.out.off)
            have HS7 := Lib.hid (SentIs.mk (b := b) (v := v6) (show w7.ownsRow w.heap.size 42 3 (.slice (some ⟨g7, 0, none⟩) (x.L.length + 1) cap7) y.L.length (pcells y.L) by rw [HPL.out, HPS.out]; exact hown7) (fun j e => by
              simp only [Value.ownBlock, Option.some.injEq] at e
              subst e
              rcases hat7 with h1 | h1
              · exact HS6.out.off _ h1
              · have hsz : (w6.alloc (.cells #[.int .i64 pA, .int .i64 pB, .string s] 42)).heap.size = w6.heap.size + 1 := by simp
                exact ⟨by have := cell_lt H6.out.is.nodes; omega, fun e2 => by have := H6.out.is.away _ e2; omega⟩))
            clear hown7 hgrow7 hat7 hlt7 hrow p0 p1 p2
            go_wp2
            go_roundw
            case rel => exact ⟨k + 1, v6, y, by omega, by omega, by go_num, hyk, H7, HS7, HYC⟩
            case measure => simp [intOf]; omega
      · obtain rfl : k = 100 := by omega
        obtain ⟨sa, sc, rfl, hsc⟩ := ownsRow_slice HS.out.row
        clear hsc
        generalize hX : x.L = X at *
        have HDX : Hid (x.L = X.drop 0) := Lib.hid hX
        have hxl2 : X.length ≤ 100 := by omega
        clear hX hxl
        generalize hln : X.length = ln at *
        have HLN := Lib.hid hln
        clear hln
        go_wp2
        go_loopw [57] (fun i wr => ∃ (j : Nat) (v : Value) (x : N), j ≤ ln ∧ i = .int .i64 (j : Nat) ∧ Hid (NtOwn w wr b v x) ∧ Hid (SentIs w wr (.slice sa ln sc) b v X) ∧ Hid (x.cut = fun _ _ => false) ∧ Hid (x.L = X.drop j)) (fun i _ => ln - (intOf i).toNat)
        case atStart => exact ⟨0, v, x, by omega, rfl, H, HS, HC, HDX⟩
        case round =>
          clear H HS HC HDX
          obtain ⟨j, v, x, hj, rfl, H, HS, HC, HDX⟩ := hrel
          by_cases hlt2 : j < ln
          · have hjX : j < X.length := by rw [HLN.out]; exact hlt2
            obtain ⟨sa2, sc2, hsv, hsc⟩ := ownsRow_slice HS.out.row
            simp only [Value.slice.injEq] at hsv
            obtain ⟨rfl, -, rfl⟩ := hsv
            rcases hsc with ⟨-, h0⟩ | ⟨g, rfl, hgl, hsc⟩
            · omega
            obtain ⟨k0, k1, k2⟩ := pcells_get X j hjX wr g hsc
            obtain ⟨t1, t2, t3⟩ := take_head (x := x) (p := X[j]) (t := X.drop (j + 1)) (by rw [HDX.out, List.drop_eq_getElem_cons hjX]) HC.out
            have T1 := Lib.hid t1
            have T2 := Lib.hid t2
            have T3 := Lib.hid t3
            clear hsc t1 t2 t3
            generalize X[j] = pp at *
            obtain ⟨pa, pb, ps⟩ := pp
            simp only at k0 k1 k2
            have hj4 : (j : Int) < (ln : Int) := by omega
            have HB5 := Lib.hid (Blk.new wr #[.int .i64 pa, .int .i64 pb, .string ps] 42)
            have HG5 := Lib.hid ((Gr.refl wr).alloc (.cells #[.int .i64 pa, .int .i64 pb, .string ps] 42))
            have H5 := Lib.hid (H.out.more HG5.out)
            have HS5 := Lib.hid (HS.out.gr HG5.out)
            have HA5 := Lib.hid (H.out.is.aside (Nat.le_refl _))
            go_wp2_with fail
            refine (take_any14 0 _ H5.out.is).mono ?_
            rintro e w6 ⟨rfl, v6, h6, hf6, hv6⟩
            rw [T1.out]
            simp only [P.val]
            have H6 := Lib.hid (H5.out.far h6 hf6)
            have HS6 := Lib.hid (HS5.out.far hf6 hv6)
            have HB6 := Lib.hid (HB5.out.far hf6 HA5.out.1 HA5.out.2)
            clear h6 hf6 hv6 k0 k1 k2
            have HG7 := Lib.hid ((Gr.refl w6).alloc (.cells #[.int .i64 pa, .int .i64 pb, .string ps] 42))
            have HB7 := Lib.hid (HB6.out.gr HG7.out)
            have p0 := HB7.out.cell (i := 0) rfl
            have p1 := HB7.out.cell (i := 1) rfl
            have p2 := HB7.out.cell (i := 2) rfl
            have H7 := Lib.hid (H6.out.more HG7.out)
            have HS7 := Lib.hid (HS6.out.gr HG7.out)
            go_wp2
            go_roundw
            case rel => exact ⟨j + 1, v6, Nt.drop x 0, by omega, by go_num, H7, HS7, T3, T2⟩
            case measure => simp [intOf]; omega
          · obtain rfl : j = ln := by omega
            obtain ⟨e1, e2, e3, e4, e5⟩ := empty_all (x := x) (by rw [HDX.out, ← HLN.out]; exact List.drop_length)
            have hxe : x.L.length = 0 := by rw [HDX.out, ← HLN.out, List.drop_length]; rfl
            have E1 := Lib.hid e1
            have E2 := Lib.hid e2
            have E3 := Lib.hid e3
            have E4 := Lib.hid e4
            have E5 := Lib.hid e5
            have E6 := Lib.hid hxe
            clear e1 e2 e3 e4 e5 hxe
            go_wp2_with fail
            refine (take_any14 0 _ H.out.is).mono ?_
            rintro e w6 ⟨rfl, v6, h6, hf6, hv6⟩
            rw [E2.out] at h6
            rw [E1.out]
            simp only [P.val, pzero]
            have H6 := Lib.hid ((H.out.far h6 hf6).more ((Gr.refl w6).alloc (.cells #[.int .i64 0, .int .i64 0, .string ⟨#[]⟩] 42)))
            clear h6 hf6 hv6
            go_wp2_with fail
            refine (nlen_any _ H6.out.is).mono ?_
            rintro e w7 ⟨rfl, rfl⟩
            rw [E6.out]
            go_wp2_with fail
            refine (last_any 0 _ H6.out.is).mono ?_
            rintro e w8 ⟨rfl, v8, h8, hf8, hv8⟩
            rw [E4.out] at h8 ⊢
            have H8 := Lib.hid (H6.out.far h8 hf8)
            clear h8 hf8 hv8
            go_wp2_with fail
            refine (ndrop_any 0 _ H8.out.is).mono ?_
            rintro e w9 ⟨rfl, v9, h9, hf9, hv9⟩
            rw [E2.out] at h9
            rw [E3.out]
            have H9 := Lib.hid (H8.out.far h9 hf9)
            clear h9 hf9 hv9
            go_wp2_with fail
            refine (again_any 0 _ H9.out.is).mono ?_
            rintro e w10 ⟨rfl, v10, h10, hf10, hv10⟩
            rw [E5.out] at h10 ⊢
            have H10 := Lib.hid (H9.out.far h10 hf10)
            clear h10 hf10 hv10
            go_wp2
            go_ret
            exact ⟨rfl, H10.out.gr⟩
    · obtain rfl : k = L.length := by omega
      obtain ⟨sa, sc, rfl, hsc⟩ := ownsRow_slice HS.out.row
      clear hsc
      generalize hX : x.L = X at *
      have HDX : Hid (x.L = X.drop 0) := Lib.hid hX
      have hxl2 : X.length ≤ 100 := by omega
      clear hX hxl
      generalize hln : X.length = ln at *
      have HLN := Lib.hid hln
      clear hln
      go_wp2
      go_loopw [57] (fun i wr => ∃ (j : Nat) (v : Value) (x : N), j ≤ ln ∧ i = .int .i64 (j : Nat) ∧ Hid (NtOwn w wr b v x) ∧ Hid (SentIs w wr (.slice sa ln sc) b v X) ∧ Hid (x.cut = fun _ _ => false) ∧ Hid (x.L = X.drop j)) (fun i _ => ln - (intOf i).toNat)
      case atStart => exact ⟨0, v, x, by omega, rfl, H, HS, HC, HDX⟩
      case round =>
        clear H HS HC HDX
        obtain ⟨j, v, x, hj, rfl, H, HS, HC, HDX⟩ := hrel
        by_cases hlt2 : j < ln
        · have hjX : j < X.length := by rw [HLN.out]; exact hlt2
          obtain ⟨sa2, sc2, hsv, hsc⟩ := ownsRow_slice HS.out.row
          simp only [Value.slice.injEq] at hsv
          obtain ⟨rfl, -, rfl⟩ := hsv
          rcases hsc with ⟨-, h0⟩ | ⟨g, rfl, hgl, hsc⟩
          · omega
          obtain ⟨k0, k1, k2⟩ := pcells_get X j hjX wr g hsc
          obtain ⟨t1, t2, t3⟩ := take_head (x := x) (p := X[j]) (t := X.drop (j + 1)) (by rw [HDX.out, List.drop_eq_getElem_cons hjX]) HC.out
          have T1 := Lib.hid t1
          have T2 := Lib.hid t2
          have T3 := Lib.hid t3
          clear hsc t1 t2 t3
          generalize X[j] = pp at *
          obtain ⟨pa, pb, ps⟩ := pp
          simp only at k0 k1 k2
          have hj4 : (j : Int) < (ln : Int) := by omega
          have HB5 := Lib.hid (Blk.new wr #[.int .i64 pa, .int .i64 pb, .string ps] 42)
          have HG5 := Lib.hid ((Gr.refl wr).alloc (.cells #[.int .i64 pa, .int .i64 pb, .string ps] 42))
          have H5 := Lib.hid (H.out.more HG5.out)
          have HS5 := Lib.hid (HS.out.gr HG5.out)
          have HA5 := Lib.hid (H.out.is.aside (Nat.le_refl _))
          go_wp2_with fail
          refine (take_any14 0 _ H5.out.is).mono ?_
          rintro e w6 ⟨rfl, v6, h6, hf6, hv6⟩
          rw [T1.out]
          simp only [P.val]
          have H6 := Lib.hid (H5.out.far h6 hf6)
          have HS6 := Lib.hid (HS5.out.far hf6 hv6)
          have HB6 := Lib.hid (HB5.out.far hf6 HA5.out.1 HA5.out.2)
          clear h6 hf6 hv6 k0 k1 k2
          have HG7 := Lib.hid ((Gr.refl w6).alloc (.cells #[.int .i64 pa, .int .i64 pb, .string ps] 42))
          have HB7 := Lib.hid (HB6.out.gr HG7.out)
          have p0 := HB7.out.cell (i := 0) rfl
          have p1 := HB7.out.cell (i := 1) rfl
          have p2 := HB7.out.cell (i := 2) rfl
          have H7 := Lib.hid (H6.out.more HG7.out)
          have HS7 := Lib.hid (HS6.out.gr HG7.out)
          go_wp2
          go_roundw
          case rel => exact ⟨j + 1, v6, Nt.drop x 0, by omega, by go_num, H7, HS7, T3, T2⟩
          case measure => simp [intOf]; omega
        · obtain rfl : j = ln := by omega
          obtain ⟨e1, e2, e3, e4, e5⟩ := empty_all (x := x) (by rw [HDX.out, ← HLN.out]; exact List.drop_length)
          have hxe : x.L.length = 0 := by rw [HDX.out, ← HLN.out, List.drop_length]; rfl
          have E1 := Lib.hid e1
          have E2 := Lib.hid e2
          have E3 := Lib.hid e3
          have E4 := Lib.hid e4
          have E5 := Lib.hid e5
          have E6 := Lib.hid hxe
          clear e1 e2 e3 e4 e5 hxe
          go_wp2_with fail
          refine (take_any14 0 _ H.out.is).mono ?_
          rintro e w6 ⟨rfl, v6, h6, hf6, hv6⟩
          rw [E2.out] at h6
          rw [E1.out]
          simp only [P.val, pzero]
          have H6 := Lib.hid ((H.out.far h6 hf6).more ((Gr.refl w6).alloc (.cells #[.int .i64 0, .int .i64 0, .string ⟨#[]⟩] 42)))
          clear h6 hf6 hv6
          go_wp2_with fail
          refine (nlen_any _ H6.out.is).mono ?_
          rintro e w7 ⟨rfl, rfl⟩
          rw [E6.out]
          go_wp2_with fail
          refine (last_any 0 _ H6.out.is).mono ?_
          rintro e w8 ⟨rfl, v8, h8, hf8, hv8⟩
          rw [E4.out] at h8 ⊢
          have H8 := Lib.hid (H6.out.far h8 hf8)
          clear h8 hf8 hv8
          go_wp2_with fail
          refine (ndrop_any 0 _ H8.out.is).mono ?_
          rintro e w9 ⟨rfl, v9, h9, hf9, hv9⟩
          rw [E2.out] at h9
          rw [E3.out]
          have H9 := Lib.hid (H8.out.far h9 hf9)
          clear h9 hf9 hv9
          go_wp2_with fail
          refine (again_any 0 _ H9.out.is).mono ?_
          rintro e w10 ⟨rfl, v10, h10, hf10, hv10⟩
          rw [E5.out] at h10 ⊢
          have H10 := Lib.hid (H9.out.far h10 hf10)
          clear h10 hf10 hv10
          go_wp2
          go_ret
          exact ⟨rfl, H10.out.gr⟩
end Go.Proofs.Ytjllnojhhlkpoab
