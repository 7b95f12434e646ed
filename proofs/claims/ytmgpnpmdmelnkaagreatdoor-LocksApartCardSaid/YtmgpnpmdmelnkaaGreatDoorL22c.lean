import Derived.Test.YtmgpnpmdmelnkaaGreatDoorK10
import Derived.Test.YtmgpnpmdmelnkaaGreatDoorK9
import Derived.WalkKit
import Derived.ProofKit
import Derived.LoopTactic
import Derived.Outline
import Derived.WalkSpells
import Derived.WalkLawsBesides
import Derived.Lib.Hide
import Derived.Deep.LoopGhost
import Derived.Deep.QuietTactic
import Derived.BigQuiet
import Derived.ShutString
import Derived.IntWalk
import Derived.Lib.MinMax
import Derived.Deep.RegionWith
import Derived.Deep.RegionHeld3
import Derived.Deep.Cut
import Derived.Deep.CutRange
import Derived.Deep.CutBlock
namespace Go.Proofs.YtmgpnpmdmelnkaaGreatDoor
open Go.ChangeShapes Go.WideShapes Go.ChangeAt Go.RowKit
set_option linter.unusedVariables false
set_option linter.unusedSimpArgs false
set_option maxRecDepth 100000 in
set_option maxHeartbeats 8000000 in
theorem apart_walk22 (T : Int) (L : List Act22) (ra : Option Addr) (rc : Nat) (W0 : World) (hT : (Lit.int .u64 T).wf = true) (hL : Act22Row W0 ra L) (hE : ET W0) (hM : ML W0) :
    Calls Tryz.prog 4 #[.int .u64 T, .slice ra L.length rc] W0 fun e w' => e = .returned (.bool true) ∧ Gr W0 w' := by
  have HL := Lib.hid hL
  have HE := Lib.hid hE
  have HM := Lib.hid hM
  have HAW := Lib.hid (awake22_any W0 hE hM)
  have hl := hL.1
  obtain ⟨ht0, ht1⟩ : 0 ≤ T ∧ T ≤ 18446744073709551615 := by
    simp [Lit.wf] at hT
    have e1 : IntKind.u64.min = 0 := rfl
    have e2 : IntKind.u64.max = 18446744073709551615 := rfl
    omega
  have HT := Lib.hid (rel_new T ht0 ht1)
  clear hL hE hM hT ht0 ht1
  go_enter Tryz.func4, Tryz.ntmps4
  go_wp2_with fail
  refine HAW.out.mono ?_
  rintro e w1 ⟨rfl, hg1⟩
  clear HAW
  go_upto_region 3 with fail
  go_wp2_with fail
  refine (bkNew_any T W0 w1 hg1).mono ?_
  rintro e w2 ⟨b, rfl, hb, hB, hg2⟩
  have hga := (Gr.refl w2).alloc (.cells #[.slice none 0 0, .slice none 0 0, .int .u64 T] 29)
  have HD0 : Hid (Doc22 W0 (w2.alloc (.cells #[.slice none 0 0, .slice none 0 0, .int .u64 T] 29)) b (.slice none 0 0) (.slice none 0 0) T 0 ⟨[], [], T⟩ (.slice none 0 0) (.slice none 0 0) [] []) := Lib.hid ⟨hB.gr hga, HT.out, ⟨World.ownsRow_nil _ _ _ _, fun x hx => by simp at hx⟩, ⟨World.ownsRow_nil _ _ _ _, fun x hx => by simp at hx⟩, fun x hx => by simp at hx⟩
  have HC0 := Lib.hid (Blk.new w2 #[.slice none 0 0, .slice none 0 0, .int .u64 T] 29)
  have hcw : W0.heap.size ≤ w2.heap.size := Nat.le_trans hg1.size hg2.size
  have hbc : b < w2.heap.size := hB.blk.lt
  clear hb hB hg1 hg2 hga HT
  go_upto_region 7 with fail
  generalize w2.alloc (.cells #[.slice none 0 0, .slice none 0 0, .int .u64 T] 29) = w3 at *
  generalize w2.heap.size = cb at *
  go_wp2_with fail
  go_loopw [7, 8] (fun t i wr => ∃ (k : Nat) (v1 v2 vH vW : Value) (B : Bk) (H W : List RL), k ≤ L.length ∧ k ≤ 60 ∧ t = .int .u64 B.last ∧ i = .int .i64 k ∧ Hid (Doc22 W0 wr b v1 v2 T k B vH vW H W) ∧ Hid (Blk wr cb #[vH, vW, .int .u64 B.last] 29) ∧ Hid (Safe22 B)) (fun _ i _ => L.length - (intOf i).toNat)
  case atStart => exact ⟨0, _, _, _, _, _, _, _, by omega, by omega, rfl, rfl, HD0, HC0, Lib.hid (safe_new T)⟩
  case round =>
    clear HD0 HC0
    obtain ⟨k, v1, v2, vH, vW, B, H, W, hk, hk2, rfl, rfl, hD, hC, hS⟩ := hrel
    by_cases hlt : k < L.length
    · by_cases hlt2 : k < 60
      · skip
        obtain ⟨ab, ao, rfl, _, hat, hok⟩ := HL.out.at k hlt
        obtain ⟨d0, d1, d2, d3, d4, hq⟩ := hat.gr hD.out.bk.grown
        have HQ := Lib.hid hq
        have HAT := Lib.hid (And.intro hat.1 (And.intro hat.2.1 (And.intro hat.2.2.1 (And.intro hat.2.2.2.1 hat.2.2.2.2.1))))
        clear hat hok hq d0 d1 d2 d3 d4
        generalize L[k] = x at *
        obtain ⟨K, S, pa, pc, Q, X, Wt⟩ := x
        simp only at HAT HQ
        obtain ⟨aH, cH, rfl, _⟩ := ownsRow_slice hD.out.rH.1
        obtain ⟨aW, cW, rfl, _⟩ := ownsRow_slice hD.out.rW.1
        have HLN := Lib.hid hD.out.rel.len
        have hbr : b < wr.heap.size := hD.out.bk.blk.lt
        have hcr : cb < wr.heap.size := hC.out.lt
        have hWr : W0.heap.size ≤ wr.heap.size := hD.out.bk.grown.size
        have HV := Lib.hid (And.intro (fun k e => (hD.out.bk.r1.lt k e).2) (fun k e => (hD.out.bk.r2.lt k e).2) : (∀ k, v1.ownBlock = some k → k < wr.heap.size) ∧ ∀ k, v2.ownBlock = some k → k < wr.heap.size)
        go_upto_region 11 with fail
        go_wp2_with fail
        refine (bclone_any wr hD.out.bk (by have := HLN.out; omega)).mono ?_
        rintro e w4 ⟨c, y1, y2, rfl, hc, hck, hg4⟩
        have HD4 := Lib.hid (hD.out.gr hg4)
        have HC4 := Lib.hid (hC.out.gr hg4)
        have HY := Lib.hid (And.intro (fun k e => (hck.r1.lt k e).1) (fun k e => (hck.r2.lt k e).1) : (∀ k, y1.ownBlock = some k → wr.heap.size ≤ k) ∧ ∀ k, y2.ownBlock = some k → wr.heap.size ≤ k)
        have HK4 := Lib.hid (bk_rebase hck hWr HD4.out.bk.grown : BkIs W0 w4 c y1 y2 B)
        have h4 : wr.heap.size ≤ w4.heap.size := hg4.size
        have HDO : Hid (∀ w', Gr w4 w' → Calls Tryz.prog 10 #[.pointer (some ⟨b, 0, none⟩), .agg #[.slice aH H.length cH, .slice aW W.length cW, .int .u64 B.last], .agg #[.int .i64 K, .int .i64 S, .slice pa Q.length pc, .bool X, .bool Wt]] w' (DoIs W0 w' b v1 v2 T (k + 1) (doB B K S Q X Wt))) := Lib.hid fun w' hg => do_any H W K S Q pa pc X Wt w' (HD4.out.gr hg) (HQ.out.gr (hg4.trans hg)) (by omega) HM.out HE.out
        obtain ⟨B2, hB2⟩ : ∃ B2, doB B K S Q X Wt = B2 := ⟨_, rfl⟩
        rw [hB2] at HDO
        have hfr := fair_do hD.out.rel.pre hS.out K S Q X Wt
        rw [hB2] at hfr
        have HFR := Lib.hid hfr
        have hcbb : cb ≠ b := tag_ne hD.out.bk.blk hC.out (by decide)
        have hPB := Lib.hid hD.out.rel.pre
        have HBL := Lib.hid hD.out.rel.len
        clear hck hB2 hg4 HQ hfr hS
        go_upto_region 12 with fail
        go_wp2_with fail
        refine late_start (fun i => decide (8 ≤ i)) (fun w0 => w0.cell? ⟨cb, 0, none⟩ = some (.slice aH H.length cH) ∧ w0.cell? ⟨cb, 1, none⟩ = some (.slice aW W.length cW) ∧ w0.cell? ⟨cb, 2, none⟩ = some (.int .u64 B.last) ∧ w0.cell? ⟨ab, ao + k * 5, none⟩ = some (.int .i64 K) ∧ w0.cell? ⟨ab, ao + k * 5 + 1, none⟩ = some (.int .i64 S) ∧ w0.cell? ⟨ab, ao + k * 5 + 2, none⟩ = some (.slice pa Q.length pc) ∧ w0.cell? ⟨ab, ao + k * 5 + 3, none⟩ = some (.bool X) ∧ w0.cell? ⟨ab, ao + k * 5 + 4, none⟩ = some (.bool Wt)) (by kernel_rfl) ?inva (fun h0 => ?_)
        case inva => ((try dsimp only); (exact ⟨(HC4.out.gr (Gr.refl w4).drew).cell (i := 0) rfl, (HC4.out.gr (Gr.refl w4).drew).cell (i := 1) rfl, (HC4.out.gr (Gr.refl w4).drew).cell (i := 2) rfl, (HD4.out.bk.grown.trans (Gr.refl w4).drew).cell HAT.out.1, (HD4.out.bk.grown.trans (Gr.refl w4).drew).cell HAT.out.2.1, (HD4.out.bk.grown.trans (Gr.refl w4).drew).cell HAT.out.2.2.1, (HD4.out.bk.grown.trans (Gr.refl w4).drew).cell HAT.out.2.2.2.1, (HD4.out.bk.grown.trans (Gr.refl w4).drew).cell HAT.out.2.2.2.2⟩))
        refine late_take (i := 0) (oi := { dst := some 55, op := Go.Op.move (Go.Operand.tmp 5), type := 25, pos := "law.go:161", after := #[], guard := none }) (v := ?va1) rfl (by kernel_rfl) (by kernel_rfl) (by kernel_rfl) (by kernel_rfl) (by kernel_rfl) (fun _ _ _ h => h) (Or.inl ⟨by rfl, ?ra1⟩) (by assumption) ?_
        case ra1 => (intro w hSw; (try dsimp only at hSw); (go_simp <;> with_reducible rfl))
        try simp only [Act.put, List.setIfInBounds_toArray, List.set_cons_zero, List.set_cons_succ]
        refine late_take (i := 1) (oi := { dst := some 56, op := Go.Op.load 29 (Go.Operand.tmp 6), type := 29, pos := "law.go:161", after := #[], guard := none }) (v := ?va2) rfl (by kernel_rfl) (by kernel_rfl) (by kernel_rfl) (by kernel_rfl) (by kernel_rfl) (fun _ _ _ h => h) (Or.inl ⟨by rfl, ?ra2⟩) (by assumption) ?_
        case ra2 => (intro w hSw; (try dsimp only at hSw); (go_simp <;> with_reducible rfl))
        try simp only [Act.put, List.setIfInBounds_toArray, List.set_cons_zero, List.set_cons_succ]
        refine late_take (i := 2) (oi := { dst := some 57, op := Go.Op.move (Go.Operand.tmp 1), type := 23, pos := "law.go:161", after := #[], guard := none }) (v := ?va3) rfl (by kernel_rfl) (by kernel_rfl) (by kernel_rfl) (by kernel_rfl) (by kernel_rfl) (fun _ _ _ h => h) (Or.inl ⟨by rfl, ?ra3⟩) (by assumption) ?_
        case ra3 => (intro w hSw; (try dsimp only at hSw); (go_simp <;> with_reducible rfl))
        try simp only [Act.put, List.setIfInBounds_toArray, List.set_cons_zero, List.set_cons_succ]
        refine late_take (i := 3) (oi := { dst := some 58, op := Go.Op.move (Go.Operand.tmp 8), type := 3, pos := "law.go:161", after := #[], guard := none }) (v := ?va4) rfl (by kernel_rfl) (by kernel_rfl) (by kernel_rfl) (by kernel_rfl) (by kernel_rfl) (fun _ _ _ h => h) (Or.inl ⟨by rfl, ?ra4⟩) (by assumption) ?_
        case ra4 => (intro w hSw; (try dsimp only at hSw); (go_simp <;> with_reducible rfl))
        try simp only [Act.put, List.setIfInBounds_toArray, List.set_cons_zero, List.set_cons_succ]
        refine late_take (i := 4) (oi := { dst := some 59, op := Go.Op.indexAddr 23 (Go.Operand.tmp 57) (Go.Operand.tmp 58), type := 0, pos := "law.go:161", after := #[{ on := 2, ground := Go.Ground.data }, { on := 3, ground := Go.Ground.data }], guard := none }) (v := ?va5) rfl (by kernel_rfl) (by kernel_rfl) (by kernel_rfl) (by kernel_rfl) (by kernel_rfl) (fun _ _ _ h => h) (Or.inl ⟨by rfl, ?ra5⟩) (by assumption) ?_
        case ra5 => (intro w hSw; (try dsimp only at hSw); (go_simp <;> with_reducible rfl))
        try simp only [Act.put, List.setIfInBounds_toArray, List.set_cons_zero, List.set_cons_succ]
        refine late_take (i := 5) (oi := { dst := some 60, op := Go.Op.load 35 (Go.Operand.tmp 59), type := 35, pos := "law.go:161", after := #[{ on := 4, ground := Go.Ground.data }], guard := none }) (v := ?va6) rfl (by kernel_rfl) (by kernel_rfl) (by kernel_rfl) (by kernel_rfl) (by kernel_rfl) (fun _ _ _ h => h) (Or.inl ⟨by rfl, ?ra6⟩) (by assumption) ?_
        case ra6 => (intro w hSw; (try dsimp only at hSw); (go_simp <;> with_reducible rfl))
        try simp only [Act.put, List.setIfInBounds_toArray, List.set_cons_zero, List.set_cons_succ]
        refine late_ready (rs := [6]) (by kernel_rfl) (by simp) ?_
        refine LateAll.cons (o := { dst := some 61, op := Go.Op.call { callee := Go.Callee.value (Go.Operand.func 10), args := #[Go.Operand.tmp 55, Go.Operand.tmp 56, Go.Operand.tmp 60], argTypes := #[25, 29, 35] }, type := 31, pos := "law.go:161", after := #[{ on := 0, ground := Go.Ground.data }, { on := 1, ground := Go.Ground.data }, { on := 5, ground := Go.Ground.data }], guard := none }) rfl (fun K hK => ?_) LateAll.nil
        go_simp
        go_at_call 10
        refine (HDO.out w4.drew (Gr.refl w4).drew).mono ?_
        rintro e w5 ⟨u1, u2, vH2, vW2, H2, W2, rfl, hd2, hF, f1, f2⟩
        have HD2 := Lib.hid hd2
        obtain ⟨a1, e1, rfl, _⟩ := ownsRow_slice hd2.rH.1
        obtain ⟨a2, e2, rfl, _⟩ := ownsRow_slice hd2.rW.1
        have C5 := Lib.hid ((HC4.out.gr (Gr.refl w4).drew).far22 hF hcbb (row_offL HC4.out HD4.out.bk.r1 (by decide)) (row_offL HC4.out HD4.out.bk.r2 (by decide)))
        have G5 := Lib.hid hd2.bk.grown
        have K5 := Lib.hid (bk_far22 (n := 0) (lo := wr.heap.size) (HK4.out.gr (Gr.refl w4).drew) hF hd2.bk.grown (fun k hk => ⟨by omega, fun e => by have := HV.out.1 k e; omega, fun e => by have := HV.out.2 k e; omega⟩) hc HY.out.1 HY.out.2)
        clear hd2 hF f1 f2
        first | refine hK.out _ _ ?sa7 (fun h7 => ?_) | (go_wp2_with fail; refine hK.out _ _ ?sa7 (fun h7 => ?_))
        case sa7 => ((try dsimp only); (exact ⟨C5.out.cell (i := 0) rfl, C5.out.cell (i := 1) rfl, C5.out.cell (i := 2) rfl, G5.out.cell HAT.out.1, G5.out.cell HAT.out.2.1, G5.out.cell HAT.out.2.2.1, G5.out.cell HAT.out.2.2.2.1, G5.out.cell HAT.out.2.2.2.2⟩))
        clear hK K h0
        try simp only [Act.put, List.setIfInBounds_toArray, List.set_cons_zero, List.set_cons_succ]
        refine late_take (i := 7) (oi := { dst := some 54, op := Go.Op.move (Go.Operand.tmp 61), type := 31, pos := "law.go:161", after := #[{ on := 6, ground := Go.Ground.data }], guard := none }) (v := ?va8) rfl (by kernel_rfl) (by kernel_rfl) (by kernel_rfl) (by kernel_rfl) (by kernel_rfl) (fun _ _ _ h => h) (Or.inl ⟨by rfl, ?ra8⟩) (by assumption) ?_
        case ra8 => (intro w hSw; (try dsimp only at hSw); (go_simp <;> with_reducible rfl))
        try simp only [Act.put, List.setIfInBounds_toArray, List.set_cons_zero, List.set_cons_succ]
        have q0 := C5.out.cell (i := 0) rfl
        have q1 := C5.out.cell (i := 1) rfl
        have q2 := C5.out.cell (i := 2) rfl
        have k0 := C5.out.free 0
        have k1 := C5.out.free 1
        have k2 := C5.out.free 2
        refine late_go (by kernel_rfl) ?_
        refine wpAny_take (i := 8) (oi := { dst := some 62, op := Go.Op.extract (Go.Operand.tmp 54) 0, type := 29, pos := "law.go:161", after := #[{ on := 7, ground := Go.Ground.data }], guard := none }) (v := ?vla9) rfl (by kernel_rfl) (by kernel_rfl) (by kernel_rfl) (fun _ _ _ h => h) (Or.inl ⟨by rfl, ?rla9⟩) ?_
        case rla9 => (intro w; (go_simp <;> with_reducible rfl))
        try simp only [Act.put, List.setIfInBounds_toArray, List.set_cons_zero, List.set_cons_succ]
        refine wpAny_take (i := 9) (oi := { dst := some 63, op := Go.Op.extract (Go.Operand.tmp 54) 1, type := 4, pos := "law.go:161", after := #[{ on := 7, ground := Go.Ground.data }, { on := 10, ground := Go.Ground.gcOnly Go.Departure.lateStores }], guard := none }) (v := ?vla10) rfl (by kernel_rfl) (by kernel_rfl) (by kernel_rfl) (fun _ _ _ h => h) (Or.inl ⟨by rfl, ?rla10⟩) ?_
        case rla10 => (intro w; (go_simp <;> with_reducible rfl))
        try simp only [Act.put, List.setIfInBounds_toArray, List.set_cons_zero, List.set_cons_succ]
        refine any_one (i := 10) (o := { dst := none, op := Go.Op.store 29 (Go.Operand.tmp 6) (Go.Operand.tmp 62), type := 0, pos := "law.go:161", after := #[{ on := 8, ground := Go.Ground.data }, { on := 6, ground := Go.Ground.chain }, { on := 0, ground := Go.Ground.phase }, { on := 1, ground := Go.Ground.phase }, { on := 2, ground := Go.Ground.phase }, { on := 3, ground := Go.Ground.phase }, { on := 4, ground := Go.Ground.phase }, { on := 5, ground := Go.Ground.phase }, { on := 6, ground := Go.Ground.phase }, { on := 7, ground := Go.Ground.phase }, { on := 8, ground := Go.Ground.phase }, { on := 9, ground := Go.Ground.textOnly Go.Departure.lateStores }], guard := none }) (by kernel_rfl) rfl (fun K hK => ?_)
        go_simp
        refine hK.out _ _ ?_
        clear hK K
        try simp only [Act.put, List.setIfInBounds_toArray, List.set_cons_zero, List.set_cons_succ]
        refine any_done (by kernel_rfl) ?_
        have hl2 : B2.H.length + B2.W.length ≤ 61 := by have := HD2.out.rel.len; omega
        have HD6 := Lib.hid (doc_set3 (b1 := a1) (m1 := H2.length) (d1 := e1) (b2 := a2) (m2 := W2.length) (d2 := e2) (t := B2.last) HD2.out C5.out hcw)
        have HC6 := Lib.hid (blk_set3 (x1 := .slice a1 H2.length e1) (x2 := .slice a2 W2.length e2) (x3 := .int .u64 B2.last) C5.out)
        have HK6 := Lib.hid (bk_set3 (x1 := .slice a1 H2.length e1) (x2 := .slice a2 W2.length e2) (x3 := .int .u64 B2.last) K5.out C5.out hcw)
        go_upto_region 13 with fail
        generalize ((w5.setCell ⟨cb, 0, none⟩ (.slice a1 H2.length e1)).setCell ⟨cb, 1, none⟩ (.slice a2 W2.length e2)).setCell ⟨cb, 2, none⟩ (.int .u64 B2.last) = w6 at *
        clear q0 q1 q2 k0 k1 k2 HD2 C5 K5 G5 hD hC HD4 HC4 HK4 HAT HV HY HDO
        go_wp2_with fail
        refine (held_any w6 HD6.out.bk (by omega)).mono ?_
        rintro e w7 ⟨vh, rfl, hrh, hg7⟩
        obtain ⟨ah, ch, rfl, _⟩ := ownsRow_slice hrh
        have HD7 := Lib.hid (HD6.out.gr hg7)
        go_wp2_with fail
        refine (waits_any w7 HD7.out.bk (by omega)).mono ?_
        rintro e w8 ⟨vw, rfl, hrw, hg8⟩
        obtain ⟨aw, cw, rfl, _⟩ := ownsRow_slice hrw
        have HVH := Lib.hid (ownsRow_gr hg8 hrh)
        have HVW := Lib.hid hrw
        have HD8 := Lib.hid (HD7.out.gr hg8)
        have HC8 := Lib.hid (HC6.out.gr (hg7.trans hg8))
        have HK8 := Lib.hid (HK6.out.gr (hg7.trans hg8))
        have HFN := Lib.hid (fun (s : Int) (t : ByteArray) => find_range B s t)
        have HPH := Lib.hid (fun m (h : m < B2.H.length) => HD8.out.rel.pathH _ (List.getElem_mem h))
        have HPW := Lib.hid (fun m (h : m < B2.W.length) => HD8.out.rel.pathW _ (List.getElem_mem h))
        clear hrh hrw hg7 hg8 HD6 HC6 HK6 HD7
        go_wp2_with fail
        go_loopw [70] (fun i wr => ∃ m : Nat, m ≤ B2.H.length ∧ i = .int .i64 m ∧ Hid (Gr w8 wr)) (fun i _ => B2.H.length - (intOf i).toNat)
        case atStart => exact ⟨0, by omega, rfl, Lib.hid (Gr.refl _)⟩
        case round =>
          obtain ⟨m, hm, rfl, hV⟩ := hrel
          by_cases hml : m < B2.H.length
          · have hwm : IntKind.i64.wrap ((m : Int) + 1) = (m : Int) + 1 := IntWalk.i64_in _ (by omega)
            have HCAP := Lib.hid (fun g c (e : Value.slice ah B2.H.length ch = .slice (some ⟨g, 0, none⟩) B2.H.length c) => show B2.H.length ≤ ch from by have h9 := HVH.out; simp only [Value.slice.injEq] at e; obtain ⟨rfl, _, _⟩ := e; exact row_cap h9)
            obtain ⟨g, capy, hvy, d0, d1, d2, d3⟩ := lokrow_at (ownsRow_gr (hV.out) HVH.out) m hml
            simp only [Value.slice.injEq] at hvy
            obtain ⟨rfl, hnn, rfl⟩ := hvy
            clear hnn
            have HPR := Lib.hid (fun j (hj : j < m) => safe_pair HFR.out.safe j m hj hml)
            have HPY := Lib.hid (HPH.out m hml)
            have HNY := Lib.hid (fun h => HFR.out.new _ (List.getElem_mem hml) h)
            have hcp := HCAP.out _ _ rfl
            clear HCAP
            have HXB := Lib.hid (Blk.new wr #[.int .i64 B2.H[m].ses, .string B2.H[m].txt, .bool B2.H[m].ex, .int .u64 B2.H[m].tok] 42)
            have HGX := Lib.hid (hV.out.alloc (.cells #[.int .i64 B2.H[m].ses, .string B2.H[m].txt, .bool B2.H[m].ex, .int .u64 B2.H[m].tok] 42))
            generalize B2.H[m] = y at *
            go_upto_region 17 with fail
            generalize wr.alloc (.cells #[.int .i64 y.ses, .string y.txt, .bool y.ex, .int .u64 y.tok] 42) = wx at *
            generalize wr.heap.size = cx at *
            clear d0 d1 d2 d3
            have hmc : m ≤ ch := by omega
            go_wp2_with fail
            go_loopw [79] (fun i wr => ∃ j : Nat, j ≤ m ∧ i = .int .i64 j ∧ Hid (Gr wx wr)) (fun i _ => m - (intOf i).toNat)
            case atStart => exact ⟨0, by omega, rfl, Lib.hid (Gr.refl _)⟩
            case round =>
              obtain ⟨j, hj, rfl, hU⟩ := hrel
              by_cases hjm : j < m
              · have hjl : j < B2.H.length := by omega
                obtain ⟨g3, capz, hvz, d0, d1, d2, d3⟩ := lokrow_at (ownsRow_gr (HGX.out.trans hU.out) HVH.out) j hjl
                simp only [Value.slice.injEq] at hvz
                obtain ⟨hgg, hnn, hcc⟩ := hvz
                obtain rfl : g = g3 := by simpa using hgg
                clear hgg hcc
                clear hnn
                have hcf := HPR.out j hjm
                have hpz := HPH.out j hjl
                have HYB := Lib.hid (Blk.new wr #[.int .i64 B2.H[j].ses, .string B2.H[j].txt, .bool B2.H[j].ex, .int .u64 B2.H[j].tok] 42)
                have HGY := Lib.hid (hU.out.alloc (.cells #[.int .i64 B2.H[j].ses, .string B2.H[j].txt, .bool B2.H[j].ex, .int .u64 B2.H[j].tok] 42))
                generalize B2.H[j] = z at *
                go_upto_region 20 with fail
                generalize wr.alloc (.cells #[.int .i64 z.ses, .string z.txt, .bool z.ex, .int .u64 z.tok] 42) = wy at *
                generalize wr.heap.size = cy at *
                clear d0 d1 d2 d3
                have x0 := (HXB.out.gr HGY.out).cell (i := 0) rfl
                have x1 := (HXB.out.gr HGY.out).cell (i := 1) rfl
                have x2 := (HXB.out.gr HGY.out).cell (i := 2) rfl
                have x3 := (HXB.out.gr HGY.out).cell (i := 3) rfl
                have y0 := HYB.out.cell (i := 0) rfl
                have y1 := HYB.out.cell (i := 1) rfl
                have y2 := HYB.out.cell (i := 2) rfl
                have y3 := HYB.out.cell (i := 3) rfl
                have HCL := Lib.hid (clash_any y z wy HPY.out hpz)
                rw [hcf] at HCL
                clear hcf hpz
                go_wp2_with fail
                refine HCL.out.mono ?_
                rintro e wz ⟨rfl, hgz⟩
                have HGZ := Lib.hid (HGY.out.trans hgz)
                clear hgz HCL x0 x1 x2 x3 y0 y1 y2 y3
                go_wp2
                exact ⟨⟨j + 1, hjm, by simp, HGZ⟩, by simp [intOf]; omega⟩
              · obtain rfl : j = m := by omega
                have HGU := Lib.hid (HGX.out.trans hU.out)
                have HXU := Lib.hid (HXB.out.gr hU.out)
                clear hU
                go_upto_region 23 with fail
                have x0 := HXU.out.cell (i := 0) rfl
                have x1 := HXU.out.cell (i := 1) rfl
                go_wp2_with fail
                refine (bfind_any y.ses y.txt wr (HK8.out.gr (HGU.out)) (by have := HBL.out; omega)).mono ?_
                obtain ⟨fq, hfq⟩ : ∃ q, findB B y.ses y.txt = q := ⟨_, rfl⟩
                rw [hfq]
                have HNW := Lib.hid (show fq.2 ≠ 0 → B.last < y.tok by rw [← hfq]; exact HNY.out)
                clear hfq
                obtain ⟨fl, fi⟩ := fq
                rintro e wz ⟨rfl, hgz⟩
                have hga := hgz.trans ((Gr.refl wz).alloc (.cells #[.int .i64 fl.ses, .string fl.txt, .bool fl.ex, .int .u64 fl.tok] 42))
                have HGA := Lib.hid (HGU.out.trans hga)
                have HXA := Lib.hid (HXU.out.gr hga)
                clear hgz hga x0 x1
                go_upto_region 24 with fail
                generalize wz.alloc (.cells #[.int .i64 fl.ses, .string fl.txt, .bool fl.ex, .int .u64 fl.tok] 42) = wq at *
                have x3 := HXA.out.cell (i := 3) rfl
                by_cases h0 : fi = 0
                · subst h0
                  clear HNW
                  go_wp2
                  exact ⟨⟨j + 1, hml, by simp, HGA⟩, by simp [intOf]; omega⟩
                · have e0 : (fi == 0) = false := by simpa using h0
                  have e0' : (fi != 0) = true := by simpa using h0
                  have hlq : decide (y.tok ≤ B.last) = false := decide_eq_false (by have := HNW.out h0; omega)
                  clear h0 HNW
                  go_wp2
                  exact ⟨⟨j + 1, hml, by simp, HGA⟩, by simp [intOf]; omega⟩
          · obtain rfl : m = B2.H.length := by omega
            have GA0 := hV
            clear hV
            go_wp2_with fail
            refine (last_any wr (HD8.out.bk.gr GA0.out)).mono ?_
            rintro e wa ⟨rfl, hga⟩
            have GA := Lib.hid (GA0.out.trans hga)
            clear hga GA0
            go_wp2_with fail
            go_loopw [109] (fun i wr => ∃ m : Nat, m ≤ B2.W.length ∧ i = .int .i64 m ∧ Hid (Gr w8 wr)) (fun i _ => B2.W.length - (intOf i).toNat)
            case atStart => exact ⟨0, by omega, rfl, GA⟩
            case round =>
              clear GA
              obtain ⟨m, hm, rfl, hV⟩ := hrel
              by_cases hml : m < B2.W.length
              · have hwm : IntKind.i64.wrap ((m : Int) + 1) = (m : Int) + 1 := IntWalk.i64_in _ (by omega)
                have HCAP := Lib.hid (fun g c (e : Value.slice aw B2.W.length cw = .slice (some ⟨g, 0, none⟩) B2.W.length c) => show B2.W.length ≤ cw from by have h9 := HVW.out; simp only [Value.slice.injEq] at e; obtain ⟨rfl, _, _⟩ := e; exact row_cap h9)
                obtain ⟨g, capy, hvy, d0, d1, d2, d3⟩ := lokrow_at (ownsRow_gr (hV.out) HVW.out) m hml
                simp only [Value.slice.injEq] at hvy
                obtain ⟨rfl, hnn, rfl⟩ := hvy
                clear hnn
                have HST := Lib.hid (HFR.out.safe.stuck m hml)
                have HPY := Lib.hid (HPW.out m hml)
                have hcp := HCAP.out _ _ rfl
                clear HCAP
                have HXB := Lib.hid (Blk.new wr #[.int .i64 B2.W[m].ses, .string B2.W[m].txt, .bool B2.W[m].ex, .int .u64 B2.W[m].tok] 42)
                have HGX := Lib.hid (hV.out.alloc (.cells #[.int .i64 B2.W[m].ses, .string B2.W[m].txt, .bool B2.W[m].ex, .int .u64 B2.W[m].tok] 42))
                generalize B2.W[m] = y at *
                go_upto_region 31 with fail
                generalize wr.alloc (.cells #[.int .i64 y.ses, .string y.txt, .bool y.ex, .int .u64 y.tok] 42) = wx at *
                generalize wr.heap.size = cx at *
                clear d0 d1 d2 d3
                have hmc : m ≤ cw := by omega
                go_upto_region 32 with fail
                go_wp2_with fail
                go_loopw [20, 116] (fun fr i wr => ∃ j : Nat, j ≤ B2.H.length ∧ i = .int .i64 j ∧ fr = .bool (!(B2.H.take j).any (cflB y)) ∧ Hid (Gr wx wr)) (fun _ i _ => B2.H.length - (intOf i).toNat)
                case atStart => exact ⟨0, by omega, rfl, rfl, Lib.hid (Gr.refl _)⟩
                case round =>
                  obtain ⟨j, hj, rfl, rfl, hU⟩ := hrel
                  by_cases hjl : j < B2.H.length
                  · skip
                    obtain ⟨g3, capz, hvz, d0, d1, d2, d3⟩ := lokrow_at (ownsRow_gr (HGX.out.trans hU.out) HVH.out) j hjl
                    simp only [Value.slice.injEq] at hvz
                    obtain ⟨rfl, hnn, rfl⟩ := hvz
                    clear hnn
                    have HSN := Lib.hid (any_snoc (cflB y) B2.H j hjl)
                    have hpz := HPH.out j hjl
                    have HYB := Lib.hid (Blk.new wr #[.int .i64 B2.H[j].ses, .string B2.H[j].txt, .bool B2.H[j].ex, .int .u64 B2.H[j].tok] 42)
                    have HGY := Lib.hid (hU.out.alloc (.cells #[.int .i64 B2.H[j].ses, .string B2.H[j].txt, .bool B2.H[j].ex, .int .u64 B2.H[j].tok] 42))
                    generalize B2.H[j] = z at *
                    go_upto_region 35 with fail
                    generalize wr.alloc (.cells #[.int .i64 z.ses, .string z.txt, .bool z.ex, .int .u64 z.tok] 42) = wy at *
                    generalize wr.heap.size = cy at *
                    clear d0 d1 d2 d3
                    have x0 := (HXB.out.gr HGY.out).cell (i := 0) rfl
                    have x1 := (HXB.out.gr HGY.out).cell (i := 1) rfl
                    have x2 := (HXB.out.gr HGY.out).cell (i := 2) rfl
                    have x3 := (HXB.out.gr HGY.out).cell (i := 3) rfl
                    have y0 := HYB.out.cell (i := 0) rfl
                    have y1 := HYB.out.cell (i := 1) rfl
                    have y2 := HYB.out.cell (i := 2) rfl
                    have y3 := HYB.out.cell (i := 3) rfl
                    cases hq : (B2.H.take j).any (cflB y)
                    · rw [hq, Bool.false_or] at HSN
                      clear hq
                      have HCL := Lib.hid (clash_any y z wy HPY.out hpz)
                      go_wp2_with fail
                      refine HCL.out.mono ?_
                      rintro e wz ⟨rfl, hgz⟩
                      have HGZ := Lib.hid (HGY.out.trans hgz)
                      clear hgz HCL hpz x0 x1 x2 x3 y0 y1 y2 y3
                      go_wp2
                      exact ⟨⟨j + 1, hjl, by simp, (by rw [HSN.out]; try rfl), HGZ⟩, by simp [intOf]; omega⟩
                    · rw [hq, Bool.true_or] at HSN
                      clear hq hpz x0 x1 x2 x3 y0 y1 y2 y3
                      go_wp2
                      exact ⟨⟨j + 1, hjl, by simp, (by rw [HSN.out]; try rfl), HGY⟩, by simp [intOf]; omega⟩
                  · obtain rfl : j = B2.H.length := by omega
                    rw [List.take_length]
                    have HGU := Lib.hid (HGX.out.trans hU.out)
                    have HGW := hU
                    clear hU
                    go_wp2_with fail
                    go_loopw [20, 132] (fun fr i wv => ∃ j : Nat, j ≤ m ∧ i = .int .i64 j ∧ fr = .bool (!B2.H.any (cflB y) && !(B2.W.take j).any (cflB y)) ∧ Hid (Gr wx wv)) (fun _ i _ => m - (intOf i).toNat)
                    case atStart => exact ⟨0, by omega, rfl, by simp, HGW⟩
                    case round =>
                      clear HGW HGU
                      obtain ⟨j, hj, rfl, rfl, hU⟩ := hrel
                      by_cases hjm : j < m
                      · have hjl : j < B2.W.length := by omega
                        obtain ⟨g3, capz, hvz, d0, d1, d2, d3⟩ := lokrow_at (ownsRow_gr (HGX.out.trans hU.out) HVW.out) j hjl
                        simp only [Value.slice.injEq] at hvz
                        obtain ⟨hgg, hnn, hcc⟩ := hvz
                        obtain rfl : g = g3 := by simpa using hgg
                        clear hgg hcc
                        clear hnn
                        have HSN := Lib.hid (any_snoc (cflB y) B2.W j hjl)
                        have hpz := HPW.out j hjl
                        have HYB := Lib.hid (Blk.new wr #[.int .i64 B2.W[j].ses, .string B2.W[j].txt, .bool B2.W[j].ex, .int .u64 B2.W[j].tok] 42)
                        have HGY := Lib.hid (hU.out.alloc (.cells #[.int .i64 B2.W[j].ses, .string B2.W[j].txt, .bool B2.W[j].ex, .int .u64 B2.W[j].tok] 42))
                        generalize B2.W[j] = z at *
                        go_upto_region 40 with fail
                        generalize wr.alloc (.cells #[.int .i64 z.ses, .string z.txt, .bool z.ex, .int .u64 z.tok] 42) = wy at *
                        generalize wr.heap.size = cy at *
                        clear d0 d1 d2 d3
                        have x0 := (HXB.out.gr HGY.out).cell (i := 0) rfl
                        have x1 := (HXB.out.gr HGY.out).cell (i := 1) rfl
                        have x2 := (HXB.out.gr HGY.out).cell (i := 2) rfl
                        have x3 := (HXB.out.gr HGY.out).cell (i := 3) rfl
                        have y0 := HYB.out.cell (i := 0) rfl
                        have y1 := HYB.out.cell (i := 1) rfl
                        have y2 := HYB.out.cell (i := 2) rfl
                        have y3 := HYB.out.cell (i := 3) rfl
                        have HNX : Hid ((!B2.H.any (cflB y) && !(B2.W.take (j + 1)).any (cflB y)) = ((!B2.H.any (cflB y) && !(B2.W.take j).any (cflB y)) && !(cflB y z))) := Lib.hid (by rw [HSN.out]; cases B2.H.any (cflB y) <;> cases (B2.W.take j).any (cflB y) <;> simp)
                        clear HSN
                        cases hq : (!B2.H.any (cflB y) && !(B2.W.take j).any (cflB y))
                        · rw [hq, Bool.false_and] at HNX
                          clear hq hpz x0 x1 x2 x3 y0 y1 y2 y3
                          go_wp2
                          exact ⟨⟨j + 1, hjm, by simp, (by rw [HNX.out]; try rfl), HGY⟩, by simp [intOf]; omega⟩
                        · rw [hq, Bool.true_and] at HNX
                          clear hq
                          have HCL := Lib.hid (clash_any y z wy HPY.out hpz)
                          go_wp2_with fail
                          refine HCL.out.mono ?_
                          rintro e wz ⟨rfl, hgz⟩
                          have HGZ := Lib.hid (HGY.out.trans hgz)
                          clear hgz HCL hpz x0 x1 x2 x3 y0 y1 y2 y3
                          go_wp2
                          exact ⟨⟨j + 1, hjm, by simp, (by rw [HNX.out]; try rfl), HGZ⟩, by simp [intOf]; omega⟩
                      · obtain rfl : j = m := by omega
                        have HGU := Lib.hid (HGX.out.trans hU.out)
                        clear hU
                        have hfb : (!B2.H.any (cflB y) && !(B2.W.take j).any (cflB y)) = freeB B2.H (B2.W.take j) y := rfl
                        rw [hfb]
                        clear hfb
                        rcases HST.out with h9 | h9
                        · rw [h9]
                          clear h9
                          go_wp2
                          exact ⟨⟨j + 1, hml, by simp, HGU⟩, by simp [intOf]; omega⟩
                        · have hlq : decide (B2.last < 18446744073709551615) = false := decide_eq_false (by omega)
                          clear h9
                          cases freeB B2.H (B2.W.take j) y
                          · go_wp2
                            exact ⟨⟨j + 1, hml, by simp, HGU⟩, by simp [intOf]; omega⟩
                          · go_wp2
                            exact ⟨⟨j + 1, hml, by simp, HGU⟩, by simp [intOf]; omega⟩
              · obtain rfl : m = B2.W.length := by omega
                have GA1 := hV
                clear hV
                go_wp2_with fail
                go_loopw [152] (fun i wr => ∃ m : Nat, m ≤ B2.H.length ∧ i = .int .i64 m ∧ Hid (Gr w8 wr)) (fun i _ => B2.H.length - (intOf i).toNat)
                case atStart => exact ⟨0, by omega, rfl, GA1⟩
                case round =>
                  clear GA1
                  obtain ⟨m, hm, rfl, hV⟩ := hrel
                  by_cases hml : m < B2.H.length
                  · have hwm : IntKind.i64.wrap ((m : Int) + 1) = (m : Int) + 1 := IntWalk.i64_in _ (by omega)
                    obtain ⟨g, capy, hvy, d0, d1, d2, d3⟩ := lokrow_at (ownsRow_gr (hV.out) HVH.out) m hml
                    simp only [Value.slice.injEq] at hvy
                    obtain ⟨rfl, hnn, rfl⟩ := hvy
                    clear hnn
                    have HPY := Lib.hid (HPH.out m hml)
                    have HOY := Lib.hid (fun h => HFR.out.over _ (List.getElem_mem hml) h)
                    have HXB := Lib.hid (Blk.new wr #[.int .i64 B2.H[m].ses, .string B2.H[m].txt, .bool B2.H[m].ex, .int .u64 B2.H[m].tok] 42)
                    have HGX := Lib.hid (hV.out.alloc (.cells #[.int .i64 B2.H[m].ses, .string B2.H[m].txt, .bool B2.H[m].ex, .int .u64 B2.H[m].tok] 42))
                    generalize B2.H[m] = y at *
                    go_upto_region 48 with fail
                    generalize wr.alloc (.cells #[.int .i64 y.ses, .string y.txt, .bool y.ex, .int .u64 y.tok] 42) = wx at *
                    generalize wr.heap.size = cx at *
                    clear d0 d1 d2 d3
                    have x0 := HXB.out.cell (i := 0) rfl
                    have x1 := HXB.out.cell (i := 1) rfl
                    go_wp2_with fail
                    refine (bfind_any y.ses y.txt wx (HK8.out.gr (HGX.out)) (by have := HBL.out; omega)).mono ?_
                    obtain ⟨fq, hfq⟩ : ∃ q, findB B y.ses y.txt = q := ⟨_, rfl⟩
                    rw [hfq]
                    have HOY := Lib.hid (show fq.2 ≠ 0 → ∀ k (hk : k < B.W.length), (fq.2 < 0 ∨ (k : Int) < fq.2 - 1) → 0 < (findB B2 B.W[k].ses B.W[k].txt).2 → cflB y B.W[k] = false by rw [← hfq]; exact HOY.out)
                    have hrg : -1 ≤ fq.2 ∧ fq.2 ≤ B.W.length := by rw [← hfq]; exact HFN.out _ _
                    clear hfq
                    obtain ⟨fl, fi⟩ := fq
                    simp only at hrg
                    rintro e wz ⟨rfl, hgz⟩
                    have hga := hgz.trans ((Gr.refl wz).alloc (.cells #[.int .i64 fl.ses, .string fl.txt, .bool fl.ex, .int .u64 fl.tok] 42))
                    have HGA := Lib.hid (HGX.out.trans hga)
                    have HXA := Lib.hid (HXB.out.gr hga)
                    clear hgz hga x0 x1
                    go_upto_region 49 with fail
                    generalize wz.alloc (.cells #[.int .i64 fl.ses, .string fl.txt, .bool fl.ex, .int .u64 fl.tok] 42) = wq at *
                    by_cases h0 : fi = 0
                    · subst h0
                      clear HOY
                      go_wp2
                      exact ⟨⟨m + 1, hml, by simp, HGA⟩, by simp [intOf]; omega⟩
                    · have e0 : (fi == 0) = false := by simpa using h0
                      have HOV := Lib.hid (HOY.out h0)
                      have hwf : IntKind.i64.wrap (fi - 1) = fi - 1 := IntWalk.i64_in _ (by have := HBL.out; omega)
                      have hbw : B.W.length ≤ 60 := by have := HBL.out; omega
                      clear HOY h0
                      go_upto_region 50 with fail
                      go_wp2_with fail
                      refine (waits_any wq (HK8.out.gr HGA.out) (by omega)).mono ?_
                      rintro e wp ⟨vq, rfl, hrq, hgp⟩
                      obtain ⟨aq, cq, rfl, _⟩ := ownsRow_slice hrq
                      have HVQ := Lib.hid hrq
                      have HGP := Lib.hid (HGA.out.trans hgp)
                      have HXP := Lib.hid (HXA.out.gr hgp)
                      clear hrq hgp HGA HXA
                      go_wp2_with fail
                      go_loopw [170] (fun i wr => ∃ q : Nat, q ≤ B.W.length ∧ i = .int .i64 q ∧ Hid (Gr wp wr)) (fun i _ => B.W.length - (intOf i).toNat)
                      case atStart => exact ⟨0, by omega, rfl, Lib.hid (Gr.refl _)⟩
                      case round =>
                        obtain ⟨q, hq, rfl, hU⟩ := hrel
                        by_cases hql : q < B.W.length
                        · have hwq : IntKind.i64.wrap ((q : Int) + 1) = (q : Int) + 1 := IntWalk.i64_in _ (by omega)
                          obtain ⟨g3, capz, hvz, d0, d1, d2, d3⟩ := lokrow_at (ownsRow_gr (hU.out) HVQ.out) q hql
                          simp only [Value.slice.injEq] at hvz
                          obtain ⟨rfl, hnn, rfl⟩ := hvz
                          clear hnn
                          have HPZ := Lib.hid (hPB.out.path _ (List.mem_append.2 (.inr (List.getElem_mem hql))))
                          have HOZ := Lib.hid (HOV.out q hql)
                          have HYB := Lib.hid (Blk.new wr #[.int .i64 B.W[q].ses, .string B.W[q].txt, .bool B.W[q].ex, .int .u64 B.W[q].tok] 42)
                          have HGY := Lib.hid (hU.out.alloc (.cells #[.int .i64 B.W[q].ses, .string B.W[q].txt, .bool B.W[q].ex, .int .u64 B.W[q].tok] 42))
                          generalize B.W[q] = z at *
                          go_upto_region 53 with fail
                          generalize wr.alloc (.cells #[.int .i64 z.ses, .string z.txt, .bool z.ex, .int .u64 z.tok] 42) = wy at *
                          generalize wr.heap.size = cy at *
                          clear d0 d1 d2 d3
                          have x0 := HYB.out.cell (i := 0) rfl
                          have x1 := HYB.out.cell (i := 1) rfl
                          go_wp2_with fail
                          refine (bfind_any z.ses z.txt wy (HD8.out.bk.gr (HGP.out.trans HGY.out)) (by omega)).mono ?_
                          obtain ⟨sq, hsq⟩ : ∃ q, findB B2 z.ses z.txt = q := ⟨_, rfl⟩
                          rw [hsq]
                          have HOZ := Lib.hid (show (fi < 0 ∨ (q : Int) < fi - 1) → 0 < sq.2 → cflB y z = false from by rw [← hsq]; exact HOZ.out)
                          clear hsq
                          obtain ⟨sl, si⟩ := sq
                          rintro e wz ⟨rfl, hgz⟩
                          have hga := hgz.trans ((Gr.refl wz).alloc (.cells #[.int .i64 sl.ses, .string sl.txt, .bool sl.ex, .int .u64 sl.tok] 42))
                          have HGA := Lib.hid (HGY.out.trans hga)
                          have HYA := Lib.hid (HYB.out.gr hga)
                          clear hgz hga x0 x1
                          go_upto_region 54 with fail
                          generalize wz.alloc (.cells #[.int .i64 sl.ses, .string sl.txt, .bool sl.ex, .int .u64 sl.tok] 42) = wq at *
                          have x0 := (HXP.out.gr HGA.out).cell (i := 0) rfl
                          have x1 := (HXP.out.gr HGA.out).cell (i := 1) rfl
                          have x2 := (HXP.out.gr HGA.out).cell (i := 2) rfl
                          have x3 := (HXP.out.gr HGA.out).cell (i := 3) rfl
                          have z0 := HYA.out.cell (i := 0) rfl
                          have z1 := HYA.out.cell (i := 1) rfl
                          have z2 := HYA.out.cell (i := 2) rfl
                          have z3 := HYA.out.cell (i := 3) rfl
                          have HCL := Lib.hid (clash_any y z wq HPY.out HPZ.out)
                          by_cases c3 : 0 < si
                          · have d3 : decide (0 < si) = true := decide_eq_true c3
                            by_cases c1 : fi < 0
                            · have d1 : decide (fi < 0) = true := decide_eq_true c1
                              rw [HOZ.out (.inl c1) c3] at HCL
                              clear c1 c3 HOZ
                              go_wp2_with fail
                              refine HCL.out.mono ?_
                              rintro e wk ⟨rfl, hgk⟩
                              have HGK := Lib.hid (HGA.out.trans hgk)
                              clear hgk HCL x0 x1 x2 x3 z0 z1 z2 z3
                              go_wp2
                              exact ⟨⟨q + 1, hql, by simp, HGK⟩, by simp [intOf]; omega⟩
                            · have d1 : decide (fi < 0) = false := decide_eq_false c1
                              by_cases c2 : (q : Int) < fi - 1
                              · have d2 : decide ((q : Int) < fi - 1) = true := decide_eq_true c2
                                rw [HOZ.out (.inr c2) c3] at HCL
                                clear c1 c2 c3 HOZ
                                go_wp2_with fail
                                refine HCL.out.mono ?_
                                rintro e wk ⟨rfl, hgk⟩
                                have HGK := Lib.hid (HGA.out.trans hgk)
                                clear hgk HCL x0 x1 x2 x3 z0 z1 z2 z3
                                go_wp2
                                exact ⟨⟨q + 1, hql, by simp, HGK⟩, by simp [intOf]; omega⟩
                              · have d2 : decide ((q : Int) < fi - 1) = false := decide_eq_false c2
                                clear c1 c2 c3 HOZ HCL
                                go_wp2
                                exact ⟨⟨q + 1, hql, by simp, HGA⟩, by simp [intOf]; omega⟩
                          · have d3 : decide (0 < si) = false := decide_eq_false c3
                            clear c3 HOZ HCL
                            by_cases c1 : fi < 0
                            · have d1 : decide (fi < 0) = true := decide_eq_true c1
                              clear c1
                              go_wp2
                              exact ⟨⟨q + 1, hql, by simp, HGA⟩, by simp [intOf]; omega⟩
                            · have d1 : decide (fi < 0) = false := decide_eq_false c1
                              clear c1
                              by_cases c2 : (q : Int) < fi - 1
                              · have d2 : decide ((q : Int) < fi - 1) = true := decide_eq_true c2
                                clear c2
                                go_wp2
                                exact ⟨⟨q + 1, hql, by simp, HGA⟩, by simp [intOf]; omega⟩
                              · have d2 : decide ((q : Int) < fi - 1) = false := decide_eq_false c2
                                clear c2
                                go_wp2
                                exact ⟨⟨q + 1, hql, by simp, HGA⟩, by simp [intOf]; omega⟩
                        · obtain rfl : q = B.W.length := by omega
                          have HGE := Lib.hid (HGP.out.trans hU.out)
                          clear hU
                          go_wp2
                          exact ⟨⟨m + 1, hml, by simp, HGE⟩, by simp [intOf]; omega⟩
                  · obtain rfl : m = B2.H.length := by omega
                    have HDE := Lib.hid (HD8.out.gr hV.out)
                    have HCE := Lib.hid (HC8.out.gr hV.out)
                    have HSE := Lib.hid HFR.out.safe
                    clear hV
                    go_wp2
                    exact ⟨⟨k + 1, _, _, _, _, _, _, _, hlt, by omega, rfl, by simp, HDE, HCE, HSE⟩, by simp [intOf]; omega⟩
      · have hk60 : k = 60 := by omega
        subst hk60
        go_wp2
        go_ret
        exact ⟨rfl, hD.out.bk.grown⟩
    · obtain rfl : k = L.length := by omega
      go_wp2
      go_ret
      exact ⟨rfl, hD.out.bk.grown⟩
end Go.Proofs.YtmgpnpmdmelnkaaGreatDoor
