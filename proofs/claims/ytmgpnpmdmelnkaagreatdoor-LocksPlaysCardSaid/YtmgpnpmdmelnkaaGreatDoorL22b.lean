import Derived.Test.YtmgpnpmdmelnkaaGreatDoorK10
import Derived.WalkKit
import Derived.ProofKit
import Derived.LoopTactic
import Derived.Outline
import Derived.WalkSpells
import Derived.WalkLawsBesides
import Derived.Lib.Hide
import Derived.Deep.LoopGhost
import Derived.Deep.QuietTactic
import Derived.BigQuiet
import Derived.ShutString
import Derived.IntWalk
import Derived.Lib.MinMax
import Derived.Deep.RegionWith
import Derived.Deep.RegionHeld3
import Derived.Deep.Cut
import Derived.Deep.CutRange
import Derived.Deep.CutBlock
namespace Go.Proofs.YtmgpnpmdmelnkaaGreatDoor
open Go.ChangeShapes Go.WideShapes Go.ChangeAt Go.RowKit
set_option linter.unusedVariables false
set_option linter.unusedSimpArgs false
set_option maxRecDepth 100000 in
set_option maxHeartbeats 8000000 in
theorem plays_walk22 (T : Int) (L : List Act22) (ra : Option Addr) (rc : Nat) (W0 : World) (hT : (Lit.int .u64 T).wf = true) (hL : Act22Row W0 ra L) (hE : ET W0) (hM : ML W0) :
    Calls Tryz.prog 3 #[.int .u64 T, .slice ra L.length rc] W0 fun e w' => e = .returned (.bool true) ∧ Gr W0 w' := by
  have HL := Lib.hid hL
  have HE := Lib.hid hE
  have HM := Lib.hid hM
  have HAW := Lib.hid (awake22_any W0 hE hM)
  have hl := hL.1
  obtain ⟨ht0, ht1⟩ : 0 ≤ T ∧ T ≤ 18446744073709551615 := by
    simp [Lit.wf] at hT
    have e1 : IntKind.u64.min = 0 := rfl
    have e2 : IntKind.u64.max = 18446744073709551615 := rfl
    omega
  have HT := Lib.hid (rel_new T ht0 ht1)
  clear hL hE hM hT ht0 ht1
  go_enter Tryz.func3, Tryz.ntmps3
  go_wp2_with fail
  refine HAW.out.mono ?_
  rintro e w1 ⟨rfl, hg1⟩
  clear HAW
  go_upto_region 3 with fail
  go_wp2_with fail
  refine (bkNew_any T W0 w1 hg1).mono ?_
  rintro e w2 ⟨b, rfl, hb, hB, hg2⟩
  have hga := (Gr.refl w2).alloc (.cells #[.slice none 0 0, .slice none 0 0, .int .u64 T] 29)
  have HD0 : Hid (Doc22 W0 (w2.alloc (.cells #[.slice none 0 0, .slice none 0 0, .int .u64 T] 29)) b (.slice none 0 0) (.slice none 0 0) T 0 ⟨[], [], T⟩ (.slice none 0 0) (.slice none 0 0) [] []) := Lib.hid ⟨hB.gr hga, HT.out, ⟨World.ownsRow_nil _ _ _ _, fun x hx => by simp at hx⟩, ⟨World.ownsRow_nil _ _ _ _, fun x hx => by simp at hx⟩, fun x hx => by simp at hx⟩
  have HC0 := Lib.hid (Blk.new w2 #[.slice none 0 0, .slice none 0 0, .int .u64 T] 29)
  have hcw : W0.heap.size ≤ w2.heap.size := Nat.le_trans hg1.size hg2.size
  have hbc : b < w2.heap.size := hB.blk.lt
  clear hb hB hg1 hg2 hga HT
  go_upto_region 6 with fail
  generalize w2.alloc (.cells #[.slice none 0 0, .slice none 0 0, .int .u64 T] 29) = w3 at *
  generalize w2.heap.size = cb at *
  go_wp2_with fail
  go_loopw [7] (fun i wr => ∃ (k : Nat) (v1 v2 vH vW : Value) (B : Bk) (H W : List RL), k ≤ L.length ∧ k ≤ 40 ∧ i = .int .i64 k ∧ Hid (Doc22 W0 wr b v1 v2 T k B vH vW H W) ∧ Hid (Blk wr cb #[vH, vW, .int .u64 B.last] 29)) (fun i _ => L.length - (intOf i).toNat)
  case atStart => exact ⟨0, _, _, _, _, _, _, _, by omega, by omega, rfl, HD0, HC0⟩
  case round =>
    clear HD0 HC0
    obtain ⟨k, v1, v2, vH, vW, B, H, W, hk, hk2, rfl, hD, hC⟩ := hrel
    by_cases hlt : k < L.length
    · by_cases hlt2 : k < 40
      · skip
        obtain ⟨ab, ao, rfl, _, hat, hok⟩ := HL.out.at k hlt
        obtain ⟨d0, d1, d2, d3, d4, hq⟩ := hat.gr hD.out.bk.grown
        have HQ := Lib.hid hq
        have HAT := Lib.hid (And.intro hat.1 (And.intro hat.2.1 (And.intro hat.2.2.1 (And.intro hat.2.2.2.1 hat.2.2.2.2.1))))
        clear hat hok hq d0 d1 d2 d3 d4
        generalize L[k] = x at *
        obtain ⟨K, S, pa, pc, Q, X, Wt⟩ := x
        simp only at HAT HQ
        obtain ⟨aH, cH, rfl, _⟩ := ownsRow_slice hD.out.rH.1
        obtain ⟨aW, cW, rfl, _⟩ := ownsRow_slice hD.out.rW.1
        have HLN := Lib.hid hD.out.rel.len
        have hbr : b < wr.heap.size := hD.out.bk.blk.lt
        have hcr : cb < wr.heap.size := hC.out.lt
        have hWr : W0.heap.size ≤ wr.heap.size := hD.out.bk.grown.size
        have HV := Lib.hid (And.intro (fun k e => (hD.out.bk.r1.lt k e).2) (fun k e => (hD.out.bk.r2.lt k e).2) : (∀ k, v1.ownBlock = some k → k < wr.heap.size) ∧ ∀ k, v2.ownBlock = some k → k < wr.heap.size)
        go_upto_region 9 with fail
        go_wp2_with fail
        refine (bclone_any wr hD.out.bk (by have := HLN.out; omega)).mono ?_
        rintro e w4 ⟨c, y1, y2, rfl, hc, hck, hg4⟩
        have HD4 := Lib.hid (hD.out.gr hg4)
        have HC4 := Lib.hid (hC.out.gr hg4)
        have HY := Lib.hid (And.intro (fun k e => (hck.r1.lt k e).1) (fun k e => (hck.r2.lt k e).1) : (∀ k, y1.ownBlock = some k → wr.heap.size ≤ k) ∧ ∀ k, y2.ownBlock = some k → wr.heap.size ≤ k)
        have HK4 := Lib.hid (bk_rebase hck hWr HD4.out.bk.grown : BkIs W0 w4 c y1 y2 B)
        have h4 : wr.heap.size ≤ w4.heap.size := hg4.size
        have HDO : Hid (∀ w', Gr w4 w' → Calls Tryz.prog 10 #[.pointer (some ⟨b, 0, none⟩), .agg #[.slice aH H.length cH, .slice aW W.length cW, .int .u64 B.last], .agg #[.int .i64 K, .int .i64 S, .slice pa Q.length pc, .bool X, .bool Wt]] w' (DoIs W0 w' b v1 v2 T (k + 1) (doB B K S Q X Wt))) := Lib.hid fun w' hg => do_any H W K S Q pa pc X Wt w' (HD4.out.gr hg) (HQ.out.gr (hg4.trans hg)) (by omega) HM.out HE.out
        obtain ⟨B2, hB2⟩ : ∃ B2, doB B K S Q X Wt = B2 := ⟨_, rfl⟩
        rw [hB2] at HDO
        have hcbb : cb ≠ b := tag_ne hD.out.bk.blk hC.out (by decide)
        clear hck hB2 hg4 HQ
        go_upto_region 10 with fail
        go_cut [9, 10] from 29 to 116 (fun x9 x10 wx => ∃ c9 : Nat, x9 = .pointer (some ⟨c9, 0, none⟩) ∧ x10 = .bool true ∧ Hid (Did22 W0 wx b cb c c9 T k B B2 y1 y2 (.slice aH H.length cH) (.slice aW W.length cW) H W))
        case first =>
          go_wp2_with fail
          refine wp_region_held_drew (S := (fun w0 => w0.cell? ⟨cb, 0, none⟩ = some (.slice aH H.length cH) ∧ w0.cell? ⟨cb, 1, none⟩ = some (.slice aW W.length cW) ∧ w0.cell? ⟨cb, 2, none⟩ = some (.int .u64 B.last) ∧ w0.cell? ⟨ab, ao + k * 5, none⟩ = some (.int .i64 K) ∧ w0.cell? ⟨ab, ao + k * 5 + 1, none⟩ = some (.int .i64 S) ∧ w0.cell? ⟨ab, ao + k * 5 + 2, none⟩ = some (.slice pa Q.length pc) ∧ w0.cell? ⟨ab, ao + k * 5 + 3, none⟩ = some (.bool X) ∧ w0.cell? ⟨ab, ao + k * 5 + 4, none⟩ = some (.bool Wt))) (by kernel_rfl) ?inva (fun h0 => ?_)
          case inva => ((try dsimp only); (exact ⟨(HC4.out.gr (Gr.refl w4).drew).cell (i := 0) rfl, (HC4.out.gr (Gr.refl w4).drew).cell (i := 1) rfl, (HC4.out.gr (Gr.refl w4).drew).cell (i := 2) rfl, (HD4.out.bk.grown.trans (Gr.refl w4).drew).cell HAT.out.1, (HD4.out.bk.grown.trans (Gr.refl w4).drew).cell HAT.out.2.1, (HD4.out.bk.grown.trans (Gr.refl w4).drew).cell HAT.out.2.2.1, (HD4.out.bk.grown.trans (Gr.refl w4).drew).cell HAT.out.2.2.2.1, (HD4.out.bk.grown.trans (Gr.refl w4).drew).cell HAT.out.2.2.2.2⟩))
          refine wpAnyH_take (i := 0) (oi := { dst := some 42, op := Go.Op.move (Go.Operand.tmp 5), type := 25, pos := "law.go:122", after := #[], guard := none }) (v := ?va1) rfl (by kernel_rfl) (by kernel_rfl) (by kernel_rfl) (fun _ _ _ h => h) (Or.inl ⟨by rfl, ?ra1⟩) (by assumption) ?_
          case ra1 => (intro w hSw; (try dsimp only at hSw); (go_simp <;> with_reducible rfl))
          try simp only [Act.put, List.setIfInBounds_toArray, List.set_cons_zero, List.set_cons_succ]
          refine wpAnyH_take (i := 1) (oi := { dst := some 43, op := Go.Op.load 29 (Go.Operand.tmp 6), type := 29, pos := "law.go:122", after := #[], guard := none }) (v := ?va2) rfl (by kernel_rfl) (by kernel_rfl) (by kernel_rfl) (fun _ _ _ h => h) (Or.inl ⟨by rfl, ?ra2⟩) (by assumption) ?_
          case ra2 => (intro w hSw; (try dsimp only at hSw); (go_simp <;> with_reducible rfl))
          try simp only [Act.put, List.setIfInBounds_toArray, List.set_cons_zero, List.set_cons_succ]
          refine wpAnyH_take (i := 2) (oi := { dst := some 44, op := Go.Op.move (Go.Operand.tmp 1), type := 23, pos := "law.go:122", after := #[], guard := none }) (v := ?va3) rfl (by kernel_rfl) (by kernel_rfl) (by kernel_rfl) (fun _ _ _ h => h) (Or.inl ⟨by rfl, ?ra3⟩) (by assumption) ?_
          case ra3 => (intro w hSw; (try dsimp only at hSw); (go_simp <;> with_reducible rfl))
          try simp only [Act.put, List.setIfInBounds_toArray, List.set_cons_zero, List.set_cons_succ]
          refine wpAnyH_take (i := 3) (oi := { dst := some 45, op := Go.Op.move (Go.Operand.tmp 7), type := 3, pos := "law.go:122", after := #[], guard := none }) (v := ?va4) rfl (by kernel_rfl) (by kernel_rfl) (by kernel_rfl) (fun _ _ _ h => h) (Or.inl ⟨by rfl, ?ra4⟩) (by assumption) ?_
          case ra4 => (intro w hSw; (try dsimp only at hSw); (go_simp <;> with_reducible rfl))
          try simp only [Act.put, List.setIfInBounds_toArray, List.set_cons_zero, List.set_cons_succ]
          refine wpAnyH_take (i := 4) (oi := { dst := some 46, op := Go.Op.indexAddr 23 (Go.Operand.tmp 44) (Go.Operand.tmp 45), type := 0, pos := "law.go:122", after := #[{ on := 2, ground := Go.Ground.data }, { on := 3, ground := Go.Ground.data }], guard := none }) (v := ?va5) rfl (by kernel_rfl) (by kernel_rfl) (by kernel_rfl) (fun _ _ _ h => h) (Or.inl ⟨by rfl, ?ra5⟩) (by assumption) ?_
          case ra5 => (intro w hSw; (try dsimp only at hSw); (go_simp <;> with_reducible rfl))
          try simp only [Act.put, List.setIfInBounds_toArray, List.set_cons_zero, List.set_cons_succ]
          refine wpAnyH_take (i := 5) (oi := { dst := some 47, op := Go.Op.load 35 (Go.Operand.tmp 46), type := 35, pos := "law.go:122", after := #[{ on := 4, ground := Go.Ground.data }], guard := none }) (v := ?va6) rfl (by kernel_rfl) (by kernel_rfl) (by kernel_rfl) (fun _ _ _ h => h) (Or.inl ⟨by rfl, ?ra6⟩) (by assumption) ?_
          case ra6 => (intro w hSw; (try dsimp only at hSw); (go_simp <;> with_reducible rfl))
          try simp only [Act.put, List.setIfInBounds_toArray, List.set_cons_zero, List.set_cons_succ]
          refine wpAnyH_ready (rs := [6, 10]) (by kernel_rfl) (by simp) ?_
          refine AllReadyH.cons (o := { dst := some 48, op := Go.Op.call { callee := Go.Callee.value (Go.Operand.func 10), args := #[Go.Operand.tmp 42, Go.Operand.tmp 43, Go.Operand.tmp 47], argTypes := #[25, 29, 35] }, type := 31, pos := "law.go:122", after := #[{ on := 0, ground := Go.Ground.data }, { on := 1, ground := Go.Ground.data }, { on := 5, ground := Go.Ground.data }], guard := none }) rfl (fun K hK => ?_) (AllReadyH.cons (o := { dst := some 9, op := Go.Op.alloc 29, type := 0, pos := "law.go:122", after := #[], guard := none }) rfl (fun K hK => ?_) AllReadyH.nil)
          · skip
            go_simp
            go_at_call 10
            refine (HDO.out w4.drew (Gr.refl w4).drew).mono ?_
            rintro e w5 ⟨u1, u2, vH2, vW2, H2, W2, rfl, hd2, hF, f1, f2⟩
            have HD2 := Lib.hid hd2
            have HF := Lib.hid (And.intro hF (And.intro f1 f2))
            obtain ⟨a1, e1, rfl, _⟩ := ownsRow_slice hd2.rH.1
            obtain ⟨a2, e2, rfl, _⟩ := ownsRow_slice hd2.rW.1
            have C5 := Lib.hid ((HC4.out.gr (Gr.refl w4).drew).far22 hF hcbb (row_offL HC4.out HD4.out.bk.r1 (by decide)) (row_offL HC4.out HD4.out.bk.r2 (by decide)))
            have G5 := Lib.hid hd2.bk.grown
            have hs5 : w4.heap.size ≤ w5.heap.size := Nat.le_trans (show w4.heap.size ≤ (w4.drew).heap.size from (show Gr w4 (w4.drew) from (Gr.refl w4).drew).size) hF.size
            clear hd2 hF f1 f2
            first | refine hK.out _ _ ?sa7 (fun h7 => ?_) | (go_wp2_with fail; refine hK.out _ _ ?sa7 (fun h7 => ?_))
            case sa7 => ((try dsimp only); (exact ⟨C5.out.cell (i := 0) rfl, C5.out.cell (i := 1) rfl, C5.out.cell (i := 2) rfl, G5.out.cell HAT.out.1, G5.out.cell HAT.out.2.1, G5.out.cell HAT.out.2.2.1, G5.out.cell HAT.out.2.2.2.1, G5.out.cell HAT.out.2.2.2.2⟩))
            clear hK K h0
            try simp only [Act.put, List.setIfInBounds_toArray, List.set_cons_zero, List.set_cons_succ]
            refine wpAnyH_take (i := 7) (oi := { dst := some 41, op := Go.Op.move (Go.Operand.tmp 48), type := 31, pos := "law.go:122", after := #[{ on := 6, ground := Go.Ground.data }], guard := none }) (v := ?va8) rfl (by kernel_rfl) (by kernel_rfl) (by kernel_rfl) (fun _ _ _ h => h) (Or.inl ⟨by rfl, ?ra8⟩) (by assumption) ?_
            case ra8 => (intro w hSw; (try dsimp only at hSw); (go_simp <;> with_reducible rfl))
            try simp only [Act.put, List.setIfInBounds_toArray, List.set_cons_zero, List.set_cons_succ]
            refine wpAnyH_take (i := 8) (oi := { dst := some 49, op := Go.Op.extract (Go.Operand.tmp 41) 0, type := 29, pos := "law.go:122", after := #[{ on := 7, ground := Go.Ground.data }], guard := none }) (v := ?va9) rfl (by kernel_rfl) (by kernel_rfl) (by kernel_rfl) (fun _ _ _ h => h) (Or.inl ⟨by rfl, ?ra9⟩) (by assumption) ?_
            case ra9 => (intro w hSw; (try dsimp only at hSw); (go_simp <;> with_reducible rfl))
            try simp only [Act.put, List.setIfInBounds_toArray, List.set_cons_zero, List.set_cons_succ]
            refine wpAnyH_take (i := 9) (oi := { dst := some 50, op := Go.Op.extract (Go.Operand.tmp 41) 1, type := 4, pos := "law.go:122", after := #[{ on := 7, ground := Go.Ground.data }, { on := 11, ground := Go.Ground.gcOnly Go.Departure.lateStores }], guard := none }) (v := ?va10) rfl (by kernel_rfl) (by kernel_rfl) (by kernel_rfl) (fun _ _ _ h => h) (Or.inl ⟨by rfl, ?ra10⟩) (by assumption) ?_
            case ra10 => (intro w hSw; (try dsimp only at hSw); (go_simp <;> with_reducible rfl))
            try simp only [Act.put, List.setIfInBounds_toArray, List.set_cons_zero, List.set_cons_succ]
            refine wpAnyH_ready (rs := [10]) (by kernel_rfl) (by simp) ?_
            refine AllReadyH.cons (o := { dst := some 9, op := Go.Op.alloc 29, type := 0, pos := "law.go:122", after := #[], guard := none }) rfl (fun K hK => ?_) AllReadyH.nil
            go_simp
            have NB := Lib.hid (Blk.new w5 #[.slice none 0 0, .slice none 0 0, .int .u64 0] 29)
            have GB5 := Lib.hid ((Gr.refl w5).alloc (.cells #[.slice none 0 0, .slice none 0 0, .int .u64 0] 29))
            generalize w5.alloc (.cells #[.slice none 0 0, .slice none 0 0, .int .u64 0] 29) = w6 at *
            have C6 := Lib.hid (C5.out.gr GB5.out)
            have G6 := Lib.hid (G5.out.trans GB5.out)
            have h90 : wr.heap.size ≤ w5.heap.size := Nat.le_trans h4 hs5
            have q0 := NB.out.cell (i := 0) rfl
            have q1 := NB.out.cell (i := 1) rfl
            have q2 := NB.out.cell (i := 2) rfl
            have k0 := NB.out.free 0
            have k1 := NB.out.free 1
            have k2 := NB.out.free 2
            first | refine hK.out _ _ ?sa11 (fun h11 => ?_) | (go_wp2_with fail; refine hK.out _ _ ?sa11 (fun h11 => ?_))
            case sa11 => ((try dsimp only); (exact ⟨C6.out.cell (i := 0) rfl, C6.out.cell (i := 1) rfl, C6.out.cell (i := 2) rfl, G6.out.cell HAT.out.1, G6.out.cell HAT.out.2.1, G6.out.cell HAT.out.2.2.1, G6.out.cell HAT.out.2.2.2.1, G6.out.cell HAT.out.2.2.2.2⟩))
            clear hK K h7
            try simp only [Act.put, List.setIfInBounds_toArray, List.set_cons_zero, List.set_cons_succ]
            refine wpAnyH_ready (rs := [11]) (by kernel_rfl) (by simp) ?_
            refine AllReadyH.cons (o := { dst := none, op := Go.Op.store 29 (Go.Operand.tmp 9) (Go.Operand.tmp 49), type := 0, pos := "law.go:122", after := #[{ on := 10, ground := Go.Ground.data }, { on := 8, ground := Go.Ground.data }, { on := 6, ground := Go.Ground.chain }, { on := 0, ground := Go.Ground.phase }, { on := 1, ground := Go.Ground.phase }, { on := 2, ground := Go.Ground.phase }, { on := 3, ground := Go.Ground.phase }, { on := 4, ground := Go.Ground.phase }, { on := 5, ground := Go.Ground.phase }, { on := 6, ground := Go.Ground.phase }, { on := 7, ground := Go.Ground.phase }, { on := 8, ground := Go.Ground.phase }, { on := 9, ground := Go.Ground.textOnly Go.Departure.lateStores }, { on := 10, ground := Go.Ground.phase }], guard := none }) rfl (fun K hK => ?_) AllReadyH.nil
            go_simp
            skip
            first | refine hK.out _ _ ?sa12 (fun h12 => ?_) | (go_wp2_with fail; refine hK.out _ _ ?sa12 (fun h12 => ?_))
            case sa12 => ((try dsimp only); (exact ⟨(blk_set3o C6.out (by omega)).cell (i := 0) rfl, (blk_set3o C6.out (by omega)).cell (i := 1) rfl, (blk_set3o C6.out (by omega)).cell (i := 2) rfl, (((G6.out.setCell (p := ⟨w5.heap.size, 0, none⟩) (Nat.le_trans hWr h90) _).setCell (p := ⟨w5.heap.size, 1, none⟩) (Nat.le_trans hWr h90) _).setCell (p := ⟨w5.heap.size, 2, none⟩) (Nat.le_trans hWr h90) _).cell HAT.out.1, (((G6.out.setCell (p := ⟨w5.heap.size, 0, none⟩) (Nat.le_trans hWr h90) _).setCell (p := ⟨w5.heap.size, 1, none⟩) (Nat.le_trans hWr h90) _).setCell (p := ⟨w5.heap.size, 2, none⟩) (Nat.le_trans hWr h90) _).cell HAT.out.2.1, (((G6.out.setCell (p := ⟨w5.heap.size, 0, none⟩) (Nat.le_trans hWr h90) _).setCell (p := ⟨w5.heap.size, 1, none⟩) (Nat.le_trans hWr h90) _).setCell (p := ⟨w5.heap.size, 2, none⟩) (Nat.le_trans hWr h90) _).cell HAT.out.2.2.1, (((G6.out.setCell (p := ⟨w5.heap.size, 0, none⟩) (Nat.le_trans hWr h90) _).setCell (p := ⟨w5.heap.size, 1, none⟩) (Nat.le_trans hWr h90) _).setCell (p := ⟨w5.heap.size, 2, none⟩) (Nat.le_trans hWr h90) _).cell HAT.out.2.2.2.1, (((G6.out.setCell (p := ⟨w5.heap.size, 0, none⟩) (Nat.le_trans hWr h90) _).setCell (p := ⟨w5.heap.size, 1, none⟩) (Nat.le_trans hWr h90) _).setCell (p := ⟨w5.heap.size, 2, none⟩) (Nat.le_trans hWr h90) _).cell HAT.out.2.2.2.2⟩))
            clear hK K h11
            try simp only [Act.put, List.setIfInBounds_toArray, List.set_cons_zero, List.set_cons_succ]
            refine wpAnyH_take (i := 12) (oi := { dst := some 10, op := Go.Op.assign (Go.Operand.tmp 50), type := 4, pos := "law.go:122", after := #[{ on := 9, ground := Go.Ground.data }, { on := 11, ground := Go.Ground.chain }, { on := 0, ground := Go.Ground.phase }, { on := 1, ground := Go.Ground.phase }, { on := 2, ground := Go.Ground.phase }, { on := 3, ground := Go.Ground.phase }, { on := 4, ground := Go.Ground.phase }, { on := 5, ground := Go.Ground.phase }, { on := 6, ground := Go.Ground.phase }, { on := 7, ground := Go.Ground.phase }, { on := 8, ground := Go.Ground.phase }, { on := 9, ground := Go.Ground.phase }, { on := 10, ground := Go.Ground.phase }, { on := 11, ground := Go.Ground.phase }], guard := none }) (v := ?va13) rfl (by kernel_rfl) (by kernel_rfl) (by kernel_rfl) (fun _ _ _ h => h) (Or.inl ⟨by rfl, ?ra13⟩) (by assumption) ?_
            case ra13 => (intro w hSw; (try dsimp only at hSw); (go_simp <;> with_reducible rfl))
            try simp only [Act.put, List.setIfInBounds_toArray, List.set_cons_zero, List.set_cons_succ]
            refine wpAnyH_done (by kernel_rfl) ?_ _
            have HDID := did_end (wr := wr) (HD4.out.gr (Gr.refl w4).drew) (HC4.out.gr (Gr.refl w4).drew) (Nat.le_trans h4 (show Gr w4 _ from (Gr.refl w4).drew).size) hWr HV.out.1 HV.out.2 hbr hcr hcbb (HK4.out.gr (Gr.refl w4).drew) hc HY.out.1 HY.out.2 HF.out.1 HF.out.2.1 HF.out.2.2 HD2.out (GB5.out) NB.out h90
            go_wp2_with fail
            go_meet
            exact ⟨_, rfl, rfl, Lib.hid HDID⟩
          · skip
            go_simp
            have NB4 : Hid (Blk (w4.alloc (.cells #[.slice none 0 0, .slice none 0 0, .int .u64 0] 29)).drew w4.heap.size #[.slice none 0 0, .slice none 0 0, .int .u64 0] 29) := Lib.hid ((Blk.new w4 #[.slice none 0 0, .slice none 0 0, .int .u64 0] 29).gr (Gr.refl _).drew)
            have GB := Lib.hid (((Gr.refl w4).alloc (.cells #[.slice none 0 0, .slice none 0 0, .int .u64 0] 29)).drew)
            generalize (w4.alloc (.cells #[.slice none 0 0, .slice none 0 0, .int .u64 0] 29)).drew = w4b at *
            first | refine hK.out _ _ ?sa14 (fun h14 => ?_) | (go_wp2_with fail; refine hK.out _ _ ?sa14 (fun h14 => ?_))
            case sa14 => ((try dsimp only); (exact ⟨(HC4.out.gr GB.out).cell (i := 0) rfl, (HC4.out.gr GB.out).cell (i := 1) rfl, (HC4.out.gr GB.out).cell (i := 2) rfl, (HD4.out.bk.grown.trans GB.out).cell HAT.out.1, (HD4.out.bk.grown.trans GB.out).cell HAT.out.2.1, (HD4.out.bk.grown.trans GB.out).cell HAT.out.2.2.1, (HD4.out.bk.grown.trans GB.out).cell HAT.out.2.2.2.1, (HD4.out.bk.grown.trans GB.out).cell HAT.out.2.2.2.2⟩))
            clear hK K h0
            try simp only [Act.put, List.setIfInBounds_toArray, List.set_cons_zero, List.set_cons_succ]
            refine wpAnyH_ready (rs := [6]) (by kernel_rfl) (by simp) ?_
            refine AllReadyH.cons (o := { dst := some 48, op := Go.Op.call { callee := Go.Callee.value (Go.Operand.func 10), args := #[Go.Operand.tmp 42, Go.Operand.tmp 43, Go.Operand.tmp 47], argTypes := #[25, 29, 35] }, type := 31, pos := "law.go:122", after := #[{ on := 0, ground := Go.Ground.data }, { on := 1, ground := Go.Ground.data }, { on := 5, ground := Go.Ground.data }], guard := none }) rfl (fun K hK => ?_) AllReadyH.nil
            go_simp
            go_at_call 10
            refine (HDO.out w4b GB.out).mono ?_
            rintro e w5 ⟨u1, u2, vH2, vW2, H2, W2, rfl, hd2, hF, f1, f2⟩
            have HD2 := Lib.hid hd2
            have HF := Lib.hid (And.intro hF (And.intro f1 f2))
            obtain ⟨a1, e1, rfl, _⟩ := ownsRow_slice hd2.rH.1
            obtain ⟨a2, e2, rfl, _⟩ := ownsRow_slice hd2.rW.1
            have C5 := Lib.hid ((HC4.out.gr GB.out).far22 hF hcbb (row_offL HC4.out HD4.out.bk.r1 (by decide)) (row_offL HC4.out HD4.out.bk.r2 (by decide)))
            have G5 := Lib.hid hd2.bk.grown
            have hs5 : w4.heap.size ≤ w5.heap.size := Nat.le_trans (show w4.heap.size ≤ (w4b).heap.size from (show Gr w4 (w4b) from GB.out).size) hF.size
            have h90 : wr.heap.size ≤ w4.heap.size := h4
            have NB := Lib.hid (NB4.out.far22 hF (by omega) (fun e => by have := HV.out.1 _ e; omega) (fun e => by have := HV.out.2 _ e; omega))
            have q0 := NB.out.cell (i := 0) rfl
            have q1 := NB.out.cell (i := 1) rfl
            have q2 := NB.out.cell (i := 2) rfl
            have k0 := NB.out.free 0
            have k1 := NB.out.free 1
            have k2 := NB.out.free 2
            clear hd2 hF f1 f2
            first | refine hK.out _ _ ?sa15 (fun h15 => ?_) | (go_wp2_with fail; refine hK.out _ _ ?sa15 (fun h15 => ?_))
            case sa15 => ((try dsimp only); (exact ⟨C5.out.cell (i := 0) rfl, C5.out.cell (i := 1) rfl, C5.out.cell (i := 2) rfl, G5.out.cell HAT.out.1, G5.out.cell HAT.out.2.1, G5.out.cell HAT.out.2.2.1, G5.out.cell HAT.out.2.2.2.1, G5.out.cell HAT.out.2.2.2.2⟩))
            clear hK K h14
            try simp only [Act.put, List.setIfInBounds_toArray, List.set_cons_zero, List.set_cons_succ]
            refine wpAnyH_take (i := 7) (oi := { dst := some 41, op := Go.Op.move (Go.Operand.tmp 48), type := 31, pos := "law.go:122", after := #[{ on := 6, ground := Go.Ground.data }], guard := none }) (v := ?va16) rfl (by kernel_rfl) (by kernel_rfl) (by kernel_rfl) (fun _ _ _ h => h) (Or.inl ⟨by rfl, ?ra16⟩) (by assumption) ?_
            case ra16 => (intro w hSw; (try dsimp only at hSw); (go_simp <;> with_reducible rfl))
            try simp only [Act.put, List.setIfInBounds_toArray, List.set_cons_zero, List.set_cons_succ]
            refine wpAnyH_take (i := 8) (oi := { dst := some 49, op := Go.Op.extract (Go.Operand.tmp 41) 0, type := 29, pos := "law.go:122", after := #[{ on := 7, ground := Go.Ground.data }], guard := none }) (v := ?va17) rfl (by kernel_rfl) (by kernel_rfl) (by kernel_rfl) (fun _ _ _ h => h) (Or.inl ⟨by rfl, ?ra17⟩) (by assumption) ?_
            case ra17 => (intro w hSw; (try dsimp only at hSw); (go_simp <;> with_reducible rfl))
            try simp only [Act.put, List.setIfInBounds_toArray, List.set_cons_zero, List.set_cons_succ]
            refine wpAnyH_take (i := 9) (oi := { dst := some 50, op := Go.Op.extract (Go.Operand.tmp 41) 1, type := 4, pos := "law.go:122", after := #[{ on := 7, ground := Go.Ground.data }, { on := 11, ground := Go.Ground.gcOnly Go.Departure.lateStores }], guard := none }) (v := ?va18) rfl (by kernel_rfl) (by kernel_rfl) (by kernel_rfl) (fun _ _ _ h => h) (Or.inl ⟨by rfl, ?ra18⟩) (by assumption) ?_
            case ra18 => (intro w hSw; (try dsimp only at hSw); (go_simp <;> with_reducible rfl))
            try simp only [Act.put, List.setIfInBounds_toArray, List.set_cons_zero, List.set_cons_succ]
            refine wpAnyH_ready (rs := [11]) (by kernel_rfl) (by simp) ?_
            refine AllReadyH.cons (o := { dst := none, op := Go.Op.store 29 (Go.Operand.tmp 9) (Go.Operand.tmp 49), type := 0, pos := "law.go:122", after := #[{ on := 10, ground := Go.Ground.data }, { on := 8, ground := Go.Ground.data }, { on := 6, ground := Go.Ground.chain }, { on := 0, ground := Go.Ground.phase }, { on := 1, ground := Go.Ground.phase }, { on := 2, ground := Go.Ground.phase }, { on := 3, ground := Go.Ground.phase }, { on := 4, ground := Go.Ground.phase }, { on := 5, ground := Go.Ground.phase }, { on := 6, ground := Go.Ground.phase }, { on := 7, ground := Go.Ground.phase }, { on := 8, ground := Go.Ground.phase }, { on := 9, ground := Go.Ground.textOnly Go.Departure.lateStores }, { on := 10, ground := Go.Ground.phase }], guard := none }) rfl (fun K hK => ?_) AllReadyH.nil
            go_simp
            skip
            first | refine hK.out _ _ ?sa19 (fun h19 => ?_) | (go_wp2_with fail; refine hK.out _ _ ?sa19 (fun h19 => ?_))
            case sa19 => ((try dsimp only); (exact ⟨(blk_set3o C5.out (by omega)).cell (i := 0) rfl, (blk_set3o C5.out (by omega)).cell (i := 1) rfl, (blk_set3o C5.out (by omega)).cell (i := 2) rfl, (((G5.out.setCell (p := ⟨w4.heap.size, 0, none⟩) (Nat.le_trans hWr h90) _).setCell (p := ⟨w4.heap.size, 1, none⟩) (Nat.le_trans hWr h90) _).setCell (p := ⟨w4.heap.size, 2, none⟩) (Nat.le_trans hWr h90) _).cell HAT.out.1, (((G5.out.setCell (p := ⟨w4.heap.size, 0, none⟩) (Nat.le_trans hWr h90) _).setCell (p := ⟨w4.heap.size, 1, none⟩) (Nat.le_trans hWr h90) _).setCell (p := ⟨w4.heap.size, 2, none⟩) (Nat.le_trans hWr h90) _).cell HAT.out.2.1, (((G5.out.setCell (p := ⟨w4.heap.size, 0, none⟩) (Nat.le_trans hWr h90) _).setCell (p := ⟨w4.heap.size, 1, none⟩) (Nat.le_trans hWr h90) _).setCell (p := ⟨w4.heap.size, 2, none⟩) (Nat.le_trans hWr h90) _).cell HAT.out.2.2.1, (((G5.out.setCell (p := ⟨w4.heap.size, 0, none⟩) (Nat.le_trans hWr h90) _).setCell (p := ⟨w4.heap.size, 1, none⟩) (Nat.le_trans hWr h90) _).setCell (p := ⟨w4.heap.size, 2, none⟩) (Nat.le_trans hWr h90) _).cell HAT.out.2.2.2.1, (((G5.out.setCell (p := ⟨w4.heap.size, 0, none⟩) (Nat.le_trans hWr h90) _).setCell (p := ⟨w4.heap.size, 1, none⟩) (Nat.le_trans hWr h90) _).setCell (p := ⟨w4.heap.size, 2, none⟩) (Nat.le_trans hWr h90) _).cell HAT.out.2.2.2.2⟩))
            clear hK K h15
            try simp only [Act.put, List.setIfInBounds_toArray, List.set_cons_zero, List.set_cons_succ]
            refine wpAnyH_take (i := 12) (oi := { dst := some 10, op := Go.Op.assign (Go.Operand.tmp 50), type := 4, pos := "law.go:122", after := #[{ on := 9, ground := Go.Ground.data }, { on := 11, ground := Go.Ground.chain }, { on := 0, ground := Go.Ground.phase }, { on := 1, ground := Go.Ground.phase }, { on := 2, ground := Go.Ground.phase }, { on := 3, ground := Go.Ground.phase }, { on := 4, ground := Go.Ground.phase }, { on := 5, ground := Go.Ground.phase }, { on := 6, ground := Go.Ground.phase }, { on := 7, ground := Go.Ground.phase }, { on := 8, ground := Go.Ground.phase }, { on := 9, ground := Go.Ground.phase }, { on := 10, ground := Go.Ground.phase }, { on := 11, ground := Go.Ground.phase }], guard := none }) (v := ?va20) rfl (by kernel_rfl) (by kernel_rfl) (by kernel_rfl) (fun _ _ _ h => h) (Or.inl ⟨by rfl, ?ra20⟩) (by assumption) ?_
            case ra20 => (intro w hSw; (try dsimp only at hSw); (go_simp <;> with_reducible rfl))
            try simp only [Act.put, List.setIfInBounds_toArray, List.set_cons_zero, List.set_cons_succ]
            refine wpAnyH_done (by kernel_rfl) ?_ _
            have HDID := did_end (wr := wr) (HD4.out.gr GB.out) (HC4.out.gr GB.out) (Nat.le_trans h4 (show Gr w4 _ from GB.out).size) hWr HV.out.1 HV.out.2 hbr hcr hcbb (HK4.out.gr GB.out) hc HY.out.1 HY.out.2 HF.out.1 HF.out.2.1 HF.out.2.2 HD2.out (Gr.refl _) NB.out h90
            go_wp2_with fail
            go_meet
            exact ⟨_, rfl, rfl, Lib.hid HDID⟩
        case rest =>
          clear HDO
          obtain ⟨c9, rfl, rfl, hdid⟩ := hcut
          have hREL := Lib.hid hD.out.rel
          clear hD hC HD4 HC4 HK4 HAT HV HY
          obtain ⟨u1, u2, a1, a2, n1, n2, e1, e2, H2, W2, hd2, hc9, hcb, rH, rW, hk, hne, h9w⟩ := hdid.out
          have HD2 := Lib.hid hd2
          have HC9 := Lib.hid hc9
          have HCB := Lib.hid hcb
          have HRH := Lib.hid rH
          have HRW := Lib.hid rW
          have HKC := Lib.hid hk
          have hl2 : B2.H.length + B2.W.length ≤ 41 := by have := hd2.rel.len; omega
          clear hdid hd2 hc9 hcb rH rW hk
          have b0 := HC9.out.cell (i := 0) rfl
          have b1 := HC9.out.cell (i := 1) rfl
          have b2 := HC9.out.cell (i := 2) rfl
          go_upto_region 11 with fail
          go_wp2_with fail
          refine (isX_any H2 W2 wc HD2.out.bk HD2.out.rel HD2.out.rH HD2.out.rW (by omega) HM.out).mono ?_
          rintro e w7 ⟨rfl, hg7⟩
          have q0 := (HCB.out.gr hg7).cell (i := 0) rfl
          have q1 := (HCB.out.gr hg7).cell (i := 1) rfl
          have q2 := (HCB.out.gr hg7).cell (i := 2) rfl
          go_wp2_with fail
          refine (isX_any H W w7 (HKC.out.gr hg7) hREL.out (HRH.out.gr hg7) (HRW.out.gr hg7) (by omega) HM.out).mono ?_
          rintro e w8 ⟨rfl, hg8⟩
          have hg78 := hg7.trans hg8
          have HCB8 := Lib.hid (HCB.out.gr hg78)
          have HC98 := Lib.hid (HC9.out.gr hg78)
          have HD9 := Lib.hid (doc_set3 (b1 := a1) (m1 := n1) (d1 := e1) (b2 := a2) (m2 := n2) (d2 := e2) (t := B2.last) (HD2.out.gr hg78) HCB8.out hcw)
          have HC3 := Lib.hid (blk_set3 (x1 := .slice a1 n1 e1) (x2 := .slice a2 n2 e2) (x3 := .int .u64 B2.last) HCB8.out)
          clear hg7 hg8 hg78 b0 b1 b2 q0 q1 q2 HKC HRH HRW HC9 HCB HD2 hREL
          have b0 := HC98.out.cell (i := 0) rfl
          have b1 := HC98.out.cell (i := 1) rfl
          have b2 := HC98.out.cell (i := 2) rfl
          have q0 := HCB8.out.cell (i := 0) rfl
          have q1 := HCB8.out.cell (i := 1) rfl
          have q2 := HCB8.out.cell (i := 2) rfl
          have k0 := HCB8.out.free 0
          have k1 := HCB8.out.free 1
          have k2 := HCB8.out.free 2
          go_upto_region 14 with fail
          generalize ((w8.setCell ⟨cb, 0, none⟩ (.slice a1 n1 e1)).setCell ⟨cb, 1, none⟩ (.slice a2 n2 e2)).setCell ⟨cb, 2, none⟩ (.int .u64 B2.last) = w9 at *
          clear b0 b1 b2 q0 q1 q2 k0 k1 k2 HC98 HCB8
          go_wp2_with fail
          refine (held_any w9 HD9.out.bk (by omega)).mono ?_
          rintro e wa ⟨vh, rfl, hrh, hga⟩
          obtain ⟨ah, ch, rfl, _⟩ := ownsRow_slice hrh
          have HVH := Lib.hid hrh
          have HDA := Lib.hid (HD9.out.gr hga)
          have HCA := Lib.hid (HC3.out.gr hga)
          clear hrh hga HD9 HC3
          go_wp2_with fail
          go_loopw [69] (fun i wr => ∃ m : Nat, m ≤ B2.H.length ∧ i = .int .i64 m ∧ Hid (Gr wa wr)) (fun i _ => B2.H.length - (intOf i).toNat)
          case atStart => exact ⟨0, by omega, rfl, Lib.hid (Gr.refl _)⟩
          case round =>
            obtain ⟨m, hm, rfl, hV⟩ := hrel
            by_cases hml : m < B2.H.length
            · obtain ⟨g, cap, hv, d0, d1, d2, d3⟩ := lokrow_at (ownsRow_gr hV.out HVH.out) m hml
              simp only [Value.slice.injEq] at hv
              obtain ⟨rfl, hnn, rfl⟩ := hv
              clear hnn
              have hfi := find_held22 HDA.out.rel.pre (List.getElem_mem hml)
              have hwm : IntKind.i64.wrap ((m : Int) + 1) = (m : Int) + 1 := IntWalk.i64_in _ (by omega)
              have HXB := Lib.hid (Blk.new wr #[.int .i64 B2.H[m].ses, .string B2.H[m].txt, .bool B2.H[m].ex, .int .u64 B2.H[m].tok] 42)
              have HGX := Lib.hid (hV.out.alloc (.cells #[.int .i64 B2.H[m].ses, .string B2.H[m].txt, .bool B2.H[m].ex, .int .u64 B2.H[m].tok] 42))
              generalize B2.H[m] = y at *
              have HFI := Lib.hid hfi
              clear hfi
              go_upto_region 17 with fail
              generalize wr.alloc (.cells #[.int .i64 y.ses, .string y.txt, .bool y.ex, .int .u64 y.tok] 42) = wx at *
              generalize wr.heap.size = cx at *
              clear d0 d1 d2 d3
              have x0 := HXB.out.cell (i := 0) rfl
              have x1 := HXB.out.cell (i := 1) rfl
              go_wp2_with fail
              refine (bfind_any y.ses y.txt wx (HDA.out.bk.gr HGX.out) (by omega)).mono ?_
              rw [HFI.out]
              rintro e wz ⟨rfl, hgz⟩
              have hga := hgz.trans ((Gr.refl wz).alloc (.cells #[.int .i64 y.ses, .string y.txt, .bool y.ex, .int .u64 y.tok] 42))
              have HXZ := Lib.hid (HXB.out.gr hga)
              have HNZ := Lib.hid (Blk.new wz #[.int .i64 y.ses, .string y.txt, .bool y.ex, .int .u64 y.tok] 42)
              have HGZ := Lib.hid (HGX.out.trans hga)
              clear hgz hga x0 x1 HXB HGX
              go_upto_region 18 with fail
              generalize wz.alloc (.cells #[.int .i64 y.ses, .string y.txt, .bool y.ex, .int .u64 y.tok] 42) = wq at *
              generalize wz.heap.size = cz at *
              have x0 := HXZ.out.cell (i := 0) rfl
              have x1 := HXZ.out.cell (i := 1) rfl
              have x2 := HXZ.out.cell (i := 2) rfl
              have x3 := HXZ.out.cell (i := 3) rfl
              have z0 := HNZ.out.cell (i := 0) rfl
              have z1 := HNZ.out.cell (i := 1) rfl
              have z2 := HNZ.out.cell (i := 2) rfl
              have z3 := HNZ.out.cell (i := 3) rfl
              go_wp2
              exact ⟨⟨m + 1, hml, by simp, HGZ⟩, by simp [intOf]; omega⟩
            · obtain rfl : m = B2.H.length := by omega
              have HDB := Lib.hid (HDA.out.gr hV.out)
              have HCB := Lib.hid (HCA.out.gr hV.out)
              clear hV HDA HCA
              generalize wr = wb at *
              go_wp2_with fail
              refine (waits_any wb HDB.out.bk (by omega)).mono ?_
              rintro e wd ⟨vw, rfl, hrw, hgd⟩
              obtain ⟨aw, cw, rfl, _⟩ := ownsRow_slice hrw
              have HVW := Lib.hid hrw
              have HDD := Lib.hid (HDB.out.gr hgd)
              have HCD := Lib.hid (HCB.out.gr hgd)
              clear hrw hgd HDB HCB
              go_wp2_with fail
              go_loopw [93] (fun i wr => ∃ m : Nat, m ≤ B2.W.length ∧ i = .int .i64 m ∧ Hid (Gr wd wr)) (fun i _ => B2.W.length - (intOf i).toNat)
              case atStart => exact ⟨0, by omega, rfl, Lib.hid (Gr.refl _)⟩
              case round =>
                obtain ⟨m, hm, rfl, hV⟩ := hrel
                by_cases hml : m < B2.W.length
                · obtain ⟨g, cap, hv, d0, d1, d2, d3⟩ := lokrow_at (ownsRow_gr hV.out HVW.out) m hml
                  simp only [Value.slice.injEq] at hv
                  obtain ⟨rfl, hnn, rfl⟩ := hv
                  clear hnn
                  have hfi := find_waits22 HDD.out.rel.pre m hml
                  have hwm : IntKind.i64.wrap ((m : Int) + 1) = (m : Int) + 1 := IntWalk.i64_in _ (by omega)
                  have HXB := Lib.hid (Blk.new wr #[.int .i64 B2.W[m].ses, .string B2.W[m].txt, .bool B2.W[m].ex, .int .u64 B2.W[m].tok] 42)
                  have HGX := Lib.hid (hV.out.alloc (.cells #[.int .i64 B2.W[m].ses, .string B2.W[m].txt, .bool B2.W[m].ex, .int .u64 B2.W[m].tok] 42))
                  generalize B2.W[m] = y at *
                  have HFI := Lib.hid hfi
                  clear hfi
                  go_upto_region 24 with fail
                  generalize wr.alloc (.cells #[.int .i64 y.ses, .string y.txt, .bool y.ex, .int .u64 y.tok] 42) = wx at *
                  generalize wr.heap.size = cx at *
                  clear d0 d1 d2 d3
                  have x0 := HXB.out.cell (i := 0) rfl
                  have x1 := HXB.out.cell (i := 1) rfl
                  go_wp2_with fail
                  refine (bfind_any y.ses y.txt wx (HDD.out.bk.gr HGX.out) (by omega)).mono ?_
                  rw [HFI.out]
                  rintro e wz ⟨rfl, hgz⟩
                  have hga := hgz.trans ((Gr.refl wz).alloc (.cells #[.int .i64 y.ses, .string y.txt, .bool y.ex, .int .u64 y.tok] 42))
                  have HXZ := Lib.hid (HXB.out.gr hga)
                  have HNZ := Lib.hid (Blk.new wz #[.int .i64 y.ses, .string y.txt, .bool y.ex, .int .u64 y.tok] 42)
                  have HGZ := Lib.hid (HGX.out.trans hga)
                  clear hgz hga x0 x1 HXB HGX
                  go_upto_region 25 with fail
                  generalize wz.alloc (.cells #[.int .i64 y.ses, .string y.txt, .bool y.ex, .int .u64 y.tok] 42) = wq at *
                  generalize wz.heap.size = cz at *
                  have x0 := HXZ.out.cell (i := 0) rfl
                  have x1 := HXZ.out.cell (i := 1) rfl
                  have x2 := HXZ.out.cell (i := 2) rfl
                  have x3 := HXZ.out.cell (i := 3) rfl
                  have z0 := HNZ.out.cell (i := 0) rfl
                  have z1 := HNZ.out.cell (i := 1) rfl
                  have z2 := HNZ.out.cell (i := 2) rfl
                  have z3 := HNZ.out.cell (i := 3) rfl
                  go_wp2
                  exact ⟨⟨m + 1, hml, by simp, HGZ⟩, by simp [intOf]; omega⟩
                · obtain rfl : m = B2.W.length := by omega
                  have HDE := Lib.hid (HDD.out.gr hV.out)
                  have HCE := Lib.hid (HCD.out.gr hV.out)
                  clear hV
                  go_wp2
                  exact ⟨⟨k + 1, _, _, _, _, _, _, _, hlt, by omega, by simp, HDE, HCE⟩, by simp [intOf]; omega⟩
      · have hk40 : k = 40 := by omega
        subst hk40
        go_wp2_with fail
        refine (bfind_any 99 ⟨#[]⟩ wr hD.out.bk (by have := hD.out.rel.len; omega)).mono ?_
        rw [find_no22 hD.out.rel]
        rintro e w4 ⟨rfl, hg4⟩
        have HGE := Lib.hid (hD.out.bk.grown.trans hg4)
        clear hg4
        go_wp2
        go_ret
        exact ⟨rfl, HGE.out.alloc _⟩
    · obtain rfl : k = L.length := by omega
      go_wp2_with fail
      refine (bfind_any 99 ⟨#[]⟩ wr hD.out.bk (by have := hD.out.rel.len; omega)).mono ?_
      rw [find_no22 hD.out.rel]
      rintro e w4 ⟨rfl, hg4⟩
      have HGE := Lib.hid (hD.out.bk.grown.trans hg4)
      clear hg4
      go_wp2
      go_ret
      exact ⟨rfl, HGE.out.alloc _⟩
end Go.Proofs.YtmgpnpmdmelnkaaGreatDoor
