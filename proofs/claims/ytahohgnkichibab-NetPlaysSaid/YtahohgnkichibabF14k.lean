import Derived.Test.YtahohgnkichibabF14j
import Derived.Test.YtahohgnkichibabC17
import Derived.WalkKit
import Derived.ProofKit
import Derived.LoopTactic
import Derived.Outline
import Derived.WalkSpells
import Derived.WalkLawsBesides
import Derived.Lib.Hide
import Derived.Deep.LoopGhost
import Derived.Deep.QuietTactic
import Derived.BigQuiet
import Derived.ShutString
import Derived.IntWalk
import Derived.Lib.MinMax
import Derived.BigQuiet
import Derived.Deep.AppendLies
import Derived.Deep.RegionWith
import Derived.Deep.RegionHeld3
namespace Go.Proofs.Ytahohgnkichibab
open Go.ChangeShapes Go.WideShapes Go.ChangeAt Go.RowKit
set_option linter.unusedVariables false
set_option linter.unusedSimpArgs false
open Nt
theorem look_at {x : N} {k : Nat} (h : k < x.L.length) : Nt.look x (k : Int) = (x.L[k], true) := by
  unfold Nt.look Nt.hasB
  rw [if_pos (by simp; omega)]
  show (x.L.getD (k : Int).toNat pzero, true) = _
  rw [show (k : Int).toNat = k by omega, List.getD_eq_getElem?_getD, List.getElem?_eq_getElem h]
  rfl
theorem look_out {x : N} {k : Int} (h : k < 0 ∨ (x.L.length : Int) ≤ k) : Nt.look x k = (pzero, false) := by
  unfold Nt.look Nt.hasB
  rw [if_neg (by simp; omega)]
set_option maxRecDepth 100000 in
set_option maxHeartbeats 2000000 in
theorem lawIs_any {b c : Nat} {v rv : Value} {x : N} (w : World) (h : NtIs w b v x) (hr : RfIs w c rv x) (hc : c ≤ 1000000) :
    Calls Try.prog 8 #[.pointer (some ⟨b, 0, none⟩), rv] w fun e w' => e = .returned (.bool true) ∧ Gr w w' := by
  have HHAS := Lib.hid fun a b w (h : RfIs w c rv x) => refHas_any a b w h hc
  have HR := Lib.hid hr
  obtain ⟨⟨lv, cv, M, rfl, h2, h3, h4, h5⟩, ok⟩ := hr
  obtain ⟨la, lc, rfl, h2⟩ := h2
  obtain ⟨ca, cc, rfl, h3⟩ := h3
  have HLV := Lib.hid h2
  clear h2 h3 h4 h5
  have HLK := Lib.hid fun k w (h : NtIs w b v x) => look_any k w h
  have HLN := Lib.hid fun w (h : NtIs w b v x) => nlen_any w h
  have HIC := Lib.hid fun a c w (h : NtIs w b v x) => isCut_any a c w h
  have HN1 := Lib.hid (look_out (x := x) (k := (x.L.length : Int)) (.inr (by omega)))
  have HN2 := Lib.hid (look_out (x := x) (k := -1) (.inl (by omega)))
  have hll := ok.l
  clear ok
  generalize hn : x.n = n at *
  generalize hcm : M.length = cm at *
  generalize hln : x.L.length = ln at *
  have HLX := Lib.hid hln
  clear hn hcm hln
  obtain ⟨W1, hW1⟩ : ∃ W1, w.alloc (.cells #[.int .i64 (n : Nat), .slice la ln lc, .slice ca cm cc] 29) = W1 := ⟨_, rfl⟩
  have HB := Lib.hid (show Blk W1 w.heap.size #[.int .i64 (n : Nat), .slice la ln lc, .slice ca cm cc] 29 by rw [← hW1]; exact Blk.new w _ _)
  have HG1 := Lib.hid (show Gr w W1 by rw [← hW1]; exact (Gr.refl w).alloc _)
  have HW1 := Lib.hid hW1
  clear hW1
  have HI := Lib.hid (h.gr HG1.out)
  have HR1 := Lib.hid (HR.out.gr HG1.out)
  clear h HR
  have HX : Hid (∀ w9 : World, Gr W1 w9 → (fun w9 => Gr W1 w9 ∧ w9.cell? ⟨w.heap.size, 0, none⟩ = some (.int .i64 (n : Nat)) ∧ w9.cell? ⟨w.heap.size, 1, none⟩ = some (.slice la ln lc) ∧ w9.cell? ⟨w.heap.size, 2, none⟩ = some (.slice ca cm cc)) w9) := Lib.hid fun w9 hg => ⟨hg, hg.cell (HB.out.cell (i := 0) rfl), hg.cell (HB.out.cell (i := 1) rfl), hg.cell (HB.out.cell (i := 2) rfl)⟩
  go_enter Try.func8, Try.ntmps8
  go_wp2
  go_loopw [18] (fun i wr => ∃ k : Nat, k ≤ ln ∧ i = .int .i64 (k : Nat) ∧ Hid (Gr W1 wr)) (fun i _ => ln - (intOf i).toNat)
  case atStart => exact ⟨0, by omega, rfl, Lib.hid (by rw [HW1.out]; exact Gr.refl _)⟩
  case round =>
    obtain ⟨k, hk, rfl, HG⟩ := hrel
    by_cases hlt : k < ln
    · have hkx : k < x.L.length := by rw [HLX.out]; exact hlt
      have hk2 : (k : Int) < (ln : Int) := by omega
      rcases HLV.out with h1 | ⟨g, rfl, hcl⟩
      · omega
      have e0 := (HG1.out.trans HG.out).cell (hcl _ _ (pcells_at x.L k hkx).1)
      have e1 := (HG1.out.trans HG.out).cell (hcl _ _ (pcells_at x.L k hkx).2.1)
      have e2 := (HG1.out.trans HG.out).cell (hcl _ _ (pcells_at x.L k hkx).2.2)
      have HA := Lib.hid (look_at hkx)
      clear hcl
      generalize x.L[k] = pp at *
      obtain ⟨pA, pB, s⟩ := pp
      simp only at e0 e1 e2
      have HB5 := Lib.hid (Blk.new wr #[.int .i64 pA, .int .i64 pB, .string s] 50)
      have HG5 := Lib.hid (HG.out.alloc (.cells #[.int .i64 pA, .int .i64 pB, .string s] 50))
      go_wp2_with fail
      refine (HLK.out (k : Int) _ (HI.out.gr HG5.out)).mono ?_
      rintro e w6 ⟨rfl, hg6⟩
      rw [HA.out]
      simp only [P.val]
      have HG7 := Lib.hid ((HG5.out.trans hg6).alloc (.cells #[.int .i64 pA, .int .i64 pB, .string s] 39))
      have b6 := (HB5.out.gr hg6).gr ((Gr.refl w6).alloc (.cells #[.int .i64 pA, .int .i64 pB, .string s] 39))
      have p0 := b6.cell (i := 0) rfl
      have p1 := b6.cell (i := 1) rfl
      have p2 := b6.cell (i := 2) rfl
      clear b6 hg6
      go_wp2
      go_roundw
      case rel => exact ⟨k + 1, by omega, by go_num, HG7⟩
      case measure => simp [intOf]; omega
    · have hkl : ln = k := by omega
      subst hkl
      go_wp2
      go_loopw [9] (fun i wr => ∃ a : Int, -1 ≤ a ∧ a ≤ 13 ∧ i = .int .i64 a ∧ Hid (Gr W1 wr)) (fun i _ => (13 - intOf i).toNat)
      case atStart => exact ⟨-1, by omega, by omega, rfl, HG⟩
      case round =>
        clear HG
        obtain ⟨a, ha1, ha2, rfl, HG⟩ := hrel
        by_cases hlt : a ≤ 12
        · go_wp2
          go_loopw [10] (fun i wr => ∃ d : Int, -1 ≤ d ∧ d ≤ 13 ∧ i = .int .i64 d ∧ Hid (Gr W1 wr)) (fun i _ => (13 - intOf i).toNat)
          case atStart => exact ⟨-1, by omega, by omega, rfl, HG⟩
          case round =>
            clear HG
            obtain ⟨d, hd1, hd2, rfl, HG⟩ := hrel
            by_cases hlt2 : d ≤ 12
            · generalize hqq : Nt.isCut x a d = qq
              have HQ := Lib.hid hqq
              clear hqq
              go_wp2_with fail
              refine wp_region_held_drew (S := (fun w9 => Gr W1 w9 ∧ w9.cell? ⟨w.heap.size, 0, none⟩ = some (.int .i64 (n : Nat)) ∧ w9.cell? ⟨w.heap.size, 1, none⟩ = some (.slice la ln lc) ∧ w9.cell? ⟨w.heap.size, 2, none⟩ = some (.slice ca cm cc))) (by kernel_rfl) ?inva (fun h0 => ?_)
              case inva => ((try dsimp only); (exact HX.out _ HG.out.drew))
              refine wpAnyH_take (i := 0) (oi := { dst := some 45, op := Go.Op.move (Go.Operand.tmp 0), type := 24, pos := "law.go:83", after := #[], guard := none }) (v := ?va1) rfl (by kernel_rfl) (by kernel_rfl) (by kernel_rfl) (fun _ _ _ h => h) (Or.inl ⟨by rfl, ?ra1⟩) (by assumption) ?_
              case ra1 => (intro w hSw; (try dsimp only at hSw); (go_simp <;> with_reducible rfl))
              try simp only [Act.put, List.setIfInBounds_toArray, List.set_cons_zero, List.set_cons_succ]
              refine wpAnyH_take (i := 1) (oi := { dst := some 46, op := Go.Op.move (Go.Operand.tmp 9), type := 3, pos := "law.go:83", after := #[], guard := none }) (v := ?va2) rfl (by kernel_rfl) (by kernel_rfl) (by kernel_rfl) (fun _ _ _ h => h) (Or.inl ⟨by rfl, ?ra2⟩) (by assumption) ?_
              case ra2 => (intro w hSw; (try dsimp only at hSw); (go_simp <;> with_reducible rfl))
              try simp only [Act.put, List.setIfInBounds_toArray, List.set_cons_zero, List.set_cons_succ]
              refine wpAnyH_take (i := 2) (oi := { dst := some 47, op := Go.Op.move (Go.Operand.tmp 10), type := 3, pos := "law.go:83", after := #[], guard := none }) (v := ?va3) rfl (by kernel_rfl) (by kernel_rfl) (by kernel_rfl) (fun _ _ _ h => h) (Or.inl ⟨by rfl, ?ra3⟩) (by assumption) ?_
              case ra3 => (intro w hSw; (try dsimp only at hSw); (go_simp <;> with_reducible rfl))
              try simp only [Act.put, List.setIfInBounds_toArray, List.set_cons_zero, List.set_cons_succ]
              refine wpAnyH_take (i := 4) (oi := { dst := some 49, op := Go.Op.load 29 (Go.Operand.tmp 3), type := 29, pos := "law.go:83", after := #[], guard := none }) (v := ?va4) rfl (by kernel_rfl) (by kernel_rfl) (by kernel_rfl) (fun _ _ _ h => h) (Or.inl ⟨by rfl, ?ra4⟩) (by assumption) ?_
              case ra4 => (intro w hSw; (try dsimp only at hSw); (go_simp <;> with_reducible rfl))
              try simp only [Act.put, List.setIfInBounds_toArray, List.set_cons_zero, List.set_cons_succ]
              refine wpAnyH_take (i := 5) (oi := { dst := some 50, op := Go.Op.move (Go.Operand.tmp 9), type := 3, pos := "law.go:83", after := #[], guard := none }) (v := ?va5) rfl (by kernel_rfl) (by kernel_rfl) (by kernel_rfl) (fun _ _ _ h => h) (Or.inl ⟨by rfl, ?ra5⟩) (by assumption) ?_
              case ra5 => (intro w hSw; (try dsimp only at hSw); (go_simp <;> with_reducible rfl))
              try simp only [Act.put, List.setIfInBounds_toArray, List.set_cons_zero, List.set_cons_succ]
              refine wpAnyH_take (i := 6) (oi := { dst := some 51, op := Go.Op.move (Go.Operand.tmp 10), type := 3, pos := "law.go:83", after := #[], guard := none }) (v := ?va6) rfl (by kernel_rfl) (by kernel_rfl) (by kernel_rfl) (fun _ _ _ h => h) (Or.inl ⟨by rfl, ?ra6⟩) (by assumption) ?_
              case ra6 => (intro w hSw; (try dsimp only at hSw); (go_simp <;> with_reducible rfl))
              try simp only [Act.put, List.setIfInBounds_toArray, List.set_cons_zero, List.set_cons_succ]
              refine wpAnyH_ready (rs := [3]) (by kernel_rfl) (by simp) ?_
              refine AllReadyH.cons (o := { dst := some 48, op := Go.Op.call { callee := Go.Callee.value (Go.Operand.func 24), args := #[Go.Operand.tmp 45, Go.Operand.tmp 46, Go.Operand.tmp 47], argTypes := #[24, 3, 3] }, type := 4, pos := "law.go:83", after := #[{ on := 0, ground := Go.Ground.data }, { on := 1, ground := Go.Ground.data }, { on := 2, ground := Go.Ground.data }], guard := none }) rfl (fun K hK => ?_) AllReadyH.nil
              go_simp
              (go_at_call 24; refine (HIC.out a d _ (HI.out.gr h0.1)).mono ?_; rintro e w9 ⟨rfl, rfl⟩; rw [HQ.out])
              first | refine hK.out _ _ ?sa7 (fun h7 => ?_) | (go_wp2_with fail; refine hK.out _ _ ?sa7 (fun h7 => ?_))
              case sa7 => ((try dsimp only); (first | exact HX.out _ (h0.1.trans hgN) | exact h0))
              clear hK K h0
              try simp only [Act.put, List.setIfInBounds_toArray, List.set_cons_zero, List.set_cons_succ]
              refine wpAnyH_ready (rs := [7]) (by kernel_rfl) (by simp) ?_
              refine AllReadyH.cons (o := { dst := some 52, op := Go.Op.call { callee := Go.Callee.value (Go.Operand.func 16), args := #[Go.Operand.tmp 49, Go.Operand.tmp 50, Go.Operand.tmp 51], argTypes := #[29, 3, 3] }, type := 4, pos := "law.go:83", after := #[{ on := 4, ground := Go.Ground.data }, { on := 5, ground := Go.Ground.data }, { on := 6, ground := Go.Ground.data }, { on := 3, ground := Go.Ground.chain }], guard := none }) rfl (fun K hK => ?_) AllReadyH.nil
              go_simp
              (go_at_call 16; refine (HHAS.out a d _ (HR1.out.gr h7.1)).mono ?_; rintro e w9 ⟨rfl, hgN⟩; rw [HQ.out])
              first | refine hK.out _ _ ?sa8 (fun h8 => ?_) | (go_wp2_with fail; refine hK.out _ _ ?sa8 (fun h8 => ?_))
              case sa8 => ((try dsimp only); (first | exact HX.out _ (h7.1.trans hgN) | exact h7))
              clear hK K h7
              try simp only [Act.put, List.setIfInBounds_toArray, List.set_cons_zero, List.set_cons_succ]
              refine wpAnyH_take (i := 8) (oi := { dst := some 53, op := Go.Op.binOp Go.BinOp.neq 4 (Go.Operand.tmp 48) (Go.Operand.tmp 52) 4, type := 4, pos := "law.go:83", after := #[{ on := 3, ground := Go.Ground.data }, { on := 7, ground := Go.Ground.data }], guard := none }) (v := ?va9) rfl (by kernel_rfl) (by kernel_rfl) (by kernel_rfl) (fun _ _ _ h => h) (Or.inl ⟨by rfl, ?ra9⟩) (by assumption) ?_
              case ra9 => (intro w hSw; (try dsimp only at hSw); (go_simp <;> with_reducible rfl))
              try simp only [Act.put, List.setIfInBounds_toArray, List.set_cons_zero, List.set_cons_succ]
              refine wpAnyH_done (by kernel_rfl) ?_ _
              have HGE := Lib.hid h8.1
              clear h8
              cases qq <;>
              (go_wp2
               go_roundw
               case rel => exact ⟨d + 1, by omega, by omega, by go_num, HGE⟩
               case measure => simp [intOf]; omega)
            · obtain rfl : d = 13 := by omega
              go_wp2
              go_roundw
              case rel => exact ⟨a + 1, by omega, by omega, by go_num, HG⟩
              case measure => simp [intOf]; omega
        · obtain rfl : a = 13 := by omega
          have d1 := (HB.out.gr HG.out).cell (i := 1) rfl
          go_wp2_with fail
          refine (HLK.out (ln : Int) _ (HI.out.gr HG.out)).mono ?_
          rintro e w6 ⟨rfl, hg6⟩
          rw [HN1.out]
          simp only [P.val, pzero]
          have HG6 := Lib.hid ((HG.out.trans hg6).alloc (.cells #[.int .i64 0, .int .i64 0, .string ⟨#[]⟩] 39))
          clear hg6 d1
          go_wp2_with fail
          refine (HLK.out (-1) _ (HI.out.gr HG6.out)).mono ?_
          rintro e w7 ⟨rfl, hg7⟩
          rw [HN2.out]
          simp only [P.val, pzero]
          have HG7 := Lib.hid ((HG6.out.trans hg7).alloc (.cells #[.int .i64 0, .int .i64 0, .string ⟨#[]⟩] 39))
          clear hg7
          go_wp2_with fail
          refine wp_region_held_drew (S := (fun w9 => Gr W1 w9 ∧ w9.cell? ⟨w.heap.size, 0, none⟩ = some (.int .i64 (n : Nat)) ∧ w9.cell? ⟨w.heap.size, 1, none⟩ = some (.slice la ln lc) ∧ w9.cell? ⟨w.heap.size, 2, none⟩ = some (.slice ca cm cc))) (by kernel_rfl) ?invb (fun h0 => ?_)
          case invb => ((try dsimp only); (exact HX.out _ HG7.out.drew))
          refine wpAnyH_take (i := 0) (oi := { dst := some 67, op := Go.Op.move (Go.Operand.tmp 0), type := 24, pos := "law.go:90", after := #[], guard := none }) (v := ?vb1) rfl (by kernel_rfl) (by kernel_rfl) (by kernel_rfl) (fun _ _ _ h => h) (Or.inl ⟨by rfl, ?rb1⟩) (by assumption) ?_
          case rb1 => (intro w hSw; (try dsimp only at hSw); (go_simp <;> with_reducible rfl))
          try simp only [Act.put, List.setIfInBounds_toArray, List.set_cons_zero, List.set_cons_succ]
          refine wpAnyH_take (i := 2) (oi := { dst := some 69, op := Go.Op.fieldAddr 29 (Go.Operand.tmp 3) 1, type := 0, pos := "law.go:90", after := #[], guard := none }) (v := ?vb2) rfl (by kernel_rfl) (by kernel_rfl) (by kernel_rfl) (fun _ _ _ h => h) (Or.inl ⟨by rfl, ?rb2⟩) (by assumption) ?_
          case rb2 => (intro w hSw; (try dsimp only at hSw); (go_simp <;> with_reducible rfl))
          try simp only [Act.put, List.setIfInBounds_toArray, List.set_cons_zero, List.set_cons_succ]
          refine wpAnyH_take (i := 3) (oi := { dst := some 70, op := Go.Op.load 26 (Go.Operand.tmp 69), type := 26, pos := "law.go:90", after := #[{ on := 2, ground := Go.Ground.data }], guard := none }) (v := ?vb3) rfl (by kernel_rfl) (by kernel_rfl) (by kernel_rfl) (fun _ _ _ h => h) (Or.inl ⟨by rfl, ?rb3⟩) (by assumption) ?_
          case rb3 => (intro w hSw; (try dsimp only at hSw); (go_simp <;> with_reducible rfl))
          try simp only [Act.put, List.setIfInBounds_toArray, List.set_cons_zero, List.set_cons_succ]
          refine wpAnyH_take (i := 4) (oi := { dst := some 71, op := Go.Op.call { callee := Go.Callee.builtin Go.Builtin.len, args := #[Go.Operand.tmp 70], argTypes := #[26] }, type := 3, pos := "law.go:90", after := #[{ on := 3, ground := Go.Ground.data }], guard := none }) (v := ?vb4) rfl (by kernel_rfl) (by kernel_rfl) (by kernel_rfl) (fun _ _ _ h => h) (Or.inl ⟨by rfl, ?rb4⟩) (by assumption) ?_
          case rb4 => (intro w hSw; (try dsimp only at hSw); (go_simp <;> with_reducible rfl))
          try simp only [Act.put, List.setIfInBounds_toArray, List.set_cons_zero, List.set_cons_succ]
          refine wpAnyH_ready (rs := [1]) (by kernel_rfl) (by simp) ?_
          refine AllReadyH.cons (o := { dst := some 68, op := Go.Op.call { callee := Go.Callee.value (Go.Operand.func 12), args := #[Go.Operand.tmp 67], argTypes := #[24] }, type := 3, pos := "law.go:90", after := #[{ on := 0, ground := Go.Ground.data }], guard := none }) rfl (fun K hK => ?_) AllReadyH.nil
          go_simp
          (go_at_call 12; refine (HLN.out _ (HI.out.gr h0.1)).mono ?_; rintro e w9 ⟨rfl, rfl⟩)
          first | refine hK.out _ _ ?sb5 (fun h5 => ?_) | (go_wp2_with fail; refine hK.out _ _ ?sb5 (fun h5 => ?_))
          case sb5 => ((try dsimp only); (first | exact HX.out _ (h0.1.trans hgN) | exact h0))
          clear hK K h0
          try simp only [Act.put, List.setIfInBounds_toArray, List.set_cons_zero, List.set_cons_succ]
          refine wpAnyH_take (i := 5) (oi := { dst := some 72, op := Go.Op.binOp Go.BinOp.eql 3 (Go.Operand.tmp 68) (Go.Operand.tmp 71) 3, type := 4, pos := "law.go:90", after := #[{ on := 1, ground := Go.Ground.data }, { on := 4, ground := Go.Ground.data }], guard := none }) (v := (.bool true)) rfl (by kernel_rfl) (by kernel_rfl) (by kernel_rfl) (fun _ _ _ h => h) (Or.inl ⟨by rfl, ?rb6⟩) (by assumption) ?_
          case rb6 => (intro w hSw; (try dsimp only at hSw); go_simp; skip)
          try simp only [Act.put, List.setIfInBounds_toArray, List.set_cons_zero, List.set_cons_succ]
          refine wpAnyH_take (i := 6) (oi := { dst := some 73, op := Go.Op.move (Go.Operand.tmp 72), type := 4, pos := "law.go:90", after := #[{ on := 5, ground := Go.Ground.data }, { on := 1, ground := Go.Ground.chain }], guard := none }) (v := ?vb7) rfl (by kernel_rfl) (by kernel_rfl) (by kernel_rfl) (fun _ _ _ h => h) (Or.inl ⟨by rfl, ?rb7⟩) (by assumption) ?_
          case rb7 => (intro w hSw; (try dsimp only at hSw); (go_simp <;> with_reducible rfl))
          try simp only [Act.put, List.setIfInBounds_toArray, List.set_cons_zero, List.set_cons_succ]
          refine wpAnyH_take (i := 7) (oi := { dst := some 74, op := Go.Op.move (Go.Operand.tmp 12), type := 4, pos := "law.go:90", after := #[{ on := 6, ground := Go.Ground.guard }], guard := some (6, true) }) (v := ?vb8) rfl (by kernel_rfl) (by kernel_rfl) (by kernel_rfl) (fun _ _ _ h => h) (Or.inl ⟨by rfl, ?rb8⟩) (by assumption) ?_
          case rb8 => (intro w hSw; (try dsimp only at hSw); (go_simp <;> with_reducible rfl))
          try simp only [Act.put, List.setIfInBounds_toArray, List.set_cons_zero, List.set_cons_succ]
          refine wpAnyH_take (i := 8) (oi := { dst := some 75, op := Go.Op.unOp Go.UnOp.not 4 (Go.Operand.tmp 74), type := 4, pos := "law.go:90", after := #[{ on := 7, ground := Go.Ground.data }, { on := 6, ground := Go.Ground.guard }], guard := some (6, true) }) (v := ?vb9) rfl (by kernel_rfl) (by kernel_rfl) (by kernel_rfl) (fun _ _ _ h => h) (Or.inl ⟨by rfl, ?rb9⟩) (by assumption) ?_
          case rb9 => (intro w hSw; (try dsimp only at hSw); (go_simp <;> with_reducible rfl))
          try simp only [Act.put, List.setIfInBounds_toArray, List.set_cons_zero, List.set_cons_succ]
          refine wpAnyH_take (i := 9) (oi := { dst := some 76, op := Go.Op.pick (Go.Operand.tmp 73) (Go.Operand.tmp 75) (Go.Operand.const (Go.Value.bool false)), type := 4, pos := "law.go:90", after := #[{ on := 6, ground := Go.Ground.data }, { on := 8, ground := Go.Ground.data }], guard := none }) (v := ?vb10) rfl (by kernel_rfl) (by kernel_rfl) (by kernel_rfl) (fun _ _ _ h => h) (Or.inl ⟨by rfl, ?rb10⟩) (by assumption) ?_
          case rb10 => (intro w hSw; (try dsimp only at hSw); (go_simp <;> with_reducible rfl))
          try simp only [Act.put, List.setIfInBounds_toArray, List.set_cons_zero, List.set_cons_succ]
          refine wpAnyH_take (i := 10) (oi := { dst := some 77, op := Go.Op.move (Go.Operand.tmp 76), type := 4, pos := "law.go:90", after := #[{ on := 9, ground := Go.Ground.data }, { on := 6, ground := Go.Ground.chain }], guard := none }) (v := ?vb11) rfl (by kernel_rfl) (by kernel_rfl) (by kernel_rfl) (fun _ _ _ h => h) (Or.inl ⟨by rfl, ?rb11⟩) (by assumption) ?_
          case rb11 => (intro w hSw; (try dsimp only at hSw); (go_simp <;> with_reducible rfl))
          try simp only [Act.put, List.setIfInBounds_toArray, List.set_cons_zero, List.set_cons_succ]
          refine wpAnyH_take (i := 11) (oi := { dst := some 78, op := Go.Op.move (Go.Operand.tmp 14), type := 4, pos := "law.go:90", after := #[{ on := 10, ground := Go.Ground.guard }], guard := some (10, true) }) (v := ?vb12) rfl (by kernel_rfl) (by kernel_rfl) (by kernel_rfl) (fun _ _ _ h => h) (Or.inl ⟨by rfl, ?rb12⟩) (by assumption) ?_
          case rb12 => (intro w hSw; (try dsimp only at hSw); (go_simp <;> with_reducible rfl))
          try simp only [Act.put, List.setIfInBounds_toArray, List.set_cons_zero, List.set_cons_succ]
          refine wpAnyH_take (i := 12) (oi := { dst := some 79, op := Go.Op.unOp Go.UnOp.not 4 (Go.Operand.tmp 78), type := 4, pos := "law.go:90", after := #[{ on := 11, ground := Go.Ground.data }, { on := 10, ground := Go.Ground.guard }], guard := some (10, true) }) (v := ?vb13) rfl (by kernel_rfl) (by kernel_rfl) (by kernel_rfl) (fun _ _ _ h => h) (Or.inl ⟨by rfl, ?rb13⟩) (by assumption) ?_
          case rb13 => (intro w hSw; (try dsimp only at hSw); (go_simp <;> with_reducible rfl))
          try simp only [Act.put, List.setIfInBounds_toArray, List.set_cons_zero, List.set_cons_succ]
          refine wpAnyH_take (i := 13) (oi := { dst := some 80, op := Go.Op.pick (Go.Operand.tmp 77) (Go.Operand.tmp 79) (Go.Operand.const (Go.Value.bool false)), type := 4, pos := "law.go:90", after := #[{ on := 10, ground := Go.Ground.data }, { on := 12, ground := Go.Ground.data }], guard := none }) (v := ?vb14) rfl (by kernel_rfl) (by kernel_rfl) (by kernel_rfl) (fun _ _ _ h => h) (Or.inl ⟨by rfl, ?rb14⟩) (by assumption) ?_
          case rb14 => (intro w hSw; (try dsimp only at hSw); (go_simp <;> with_reducible rfl))
          try simp only [Act.put, List.setIfInBounds_toArray, List.set_cons_zero, List.set_cons_succ]
          refine wpAnyH_take (i := 14) (oi := { dst := some 4, op := Go.Op.assign (Go.Operand.tmp 80), type := 4, pos := "law.go:90", after := #[{ on := 13, ground := Go.Ground.data }, { on := 10, ground := Go.Ground.chain }, { on := 0, ground := Go.Ground.phase }, { on := 1, ground := Go.Ground.phase }, { on := 2, ground := Go.Ground.phase }, { on := 3, ground := Go.Ground.phase }, { on := 4, ground := Go.Ground.phase }, { on := 5, ground := Go.Ground.phase }, { on := 6, ground := Go.Ground.phase }, { on := 7, ground := Go.Ground.phase }, { on := 8, ground := Go.Ground.phase }, { on := 9, ground := Go.Ground.phase }, { on := 10, ground := Go.Ground.phase }, { on := 11, ground := Go.Ground.phase }, { on := 12, ground := Go.Ground.phase }, { on := 13, ground := Go.Ground.phase }], guard := none }) (v := ?vb15) rfl (by kernel_rfl) (by kernel_rfl) (by kernel_rfl) (fun _ _ _ h => h) (Or.inl ⟨by rfl, ?rb15⟩) (by assumption) ?_
          case rb15 => (intro w hSw; (try dsimp only at hSw); (go_simp <;> with_reducible rfl))
          try simp only [Act.put, List.setIfInBounds_toArray, List.set_cons_zero, List.set_cons_succ]
          refine wpAnyH_done (by kernel_rfl) ?_ _
          have HGE := Lib.hid h5.1
          clear h5
          go_wp2
          go_ret
          exact ⟨by simp, HG1.out.trans HGE.out⟩
end Go.Proofs.Ytahohgnkichibab
