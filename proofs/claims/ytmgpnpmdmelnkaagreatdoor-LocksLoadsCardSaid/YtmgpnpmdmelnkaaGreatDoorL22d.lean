import Derived.Test.YtmgpnpmdmelnkaaGreatDoorK10
import Derived.Test.YtmgpnpmdmelnkaaGreatDoorK12
import Derived.Test.YtmgpnpmdmelnkaaGreatDoorF05g
import Derived.WalkKit
import Derived.ProofKit
import Derived.LoopTactic
import Derived.Outline
import Derived.WalkSpells
import Derived.WalkLawsBesides
import Derived.Lib.Hide
import Derived.Deep.LoopGhost
import Derived.Deep.QuietTactic
import Derived.BigQuiet
import Derived.ShutString
import Derived.IntWalk
import Derived.Lib.MinMax
import Derived.Deep.RegionWith
import Derived.Deep.RegionHeld3
import Derived.Deep.Cut
import Derived.Deep.CutRange
import Derived.Deep.CutBlock
import Derived.Deep.RegionLaw
import Derived.Deep.AppendLies
namespace Go.Proofs.YtmgpnpmdmelnkaaGreatDoor
open Go.ChangeShapes Go.WideShapes Go.ChangeAt Go.RowKit
set_option linter.unusedVariables false
set_option linter.unusedSimpArgs false
theorem mod_any (N : Int) (n : Nat) (h0 : 0 < n) (hn : n ≤ 1000) : ∃ k : Nat, k < n ∧ (wrap64 (N.tmod n + n)).tmod n = (k : Int) := by
  have h1 := Int.tmod_lt_of_pos N (show (0 : Int) < n by omega)
  have h2 := Int.lt_tmod_of_pos N (show (0 : Int) < n by omega)
  generalize N.tmod n = t at *
  have hw : wrap64 (t + n) = t + n := by unfold wrap64; omega
  rw [hw, Int.tmod_eq_emod_of_nonneg (by omega)]
  have h3 := Int.emod_nonneg (t + n) (show (n : Int) ≠ 0 by omega)
  have h4 := Int.emod_lt_of_pos (t + n) (show (0 : Int) < n by omega)
  exact ⟨((t + n) % n).toNat, by omega, by omega⟩
theorem Bent.side {W0 w : World} {yb ob bh bw : Nat} (h : Bent W0 w yb ob) (hs : yb = bh ∧ ob = bw ∨ yb = bw ∧ ob = bh) : Bent W0 w bh bw := by
  rcases hs with ⟨rfl, rfl⟩ | ⟨rfl, rfl⟩
  · exact h
  · exact h.swap
theorem cells_take {w : World} {base g c : Nat} {L : List Lok} (h : w.ownsRow base 42 4 (.slice (some ⟨g, 0, none⟩) L.length c) L.length (rcells encLok L)) (m : Nat) (hm : m ≤ L.length) : ∀ j u, (rcells encLok (L.take m))[j]? = some u → w.cell? ⟨g, j, none⟩ = some u := by
  intro j u hj
  have hlt := (List.getElem?_eq_some_iff.1 hj).1
  rw [← rcells_take encLok_len L m hm] at hj hlt
  rw [List.length_take] at hlt
  rw [List.getElem?_take_of_lt (by omega)] at hj
  have h0 : 0 < L.length := by
    rcases Nat.eq_zero_or_pos L.length with q | q
    · rw [List.eq_nil_of_length_eq_zero q] at hj; simp [rcells] at hj
    · exact q
  obtain ⟨g', c', cur, hv, _, _, _, _, _, _, _, hat, _⟩ := owns_open h h0
  simp only [Value.slice.injEq, Option.some.injEq, Addr.mk.injEq, and_true, true_and] at hv
  obtain ⟨rfl, rfl⟩ := hv
  exact hat j u hj
theorem Blk.grownN {w w' : World} {b : Nat} {cs : Array Value} {t : TypeId} (h : Blk w b cs t) (hg : w.grownBy w' none) : Blk w' b cs t := (hg.block b h.lt (by simp)).trans h
theorem up_ok {l : List ByteArray} (h : okParts l = true) : okParts l.dropLast = true := by
  unfold okParts at h ⊢
  simp only [Bool.and_eq_true, decide_eq_true_eq, List.all_eq_true] at h ⊢
  exact ⟨by rw [List.length_dropLast]; omega, fun x hx => h.2 x ((List.dropLast_sublist l).subset hx)⟩
set_option maxRecDepth 100000 in
set_option maxHeartbeats 8000000 in
theorem loads_walk22 (T : Int) (L : List Act22) (ra : Option Addr) (rc : Nat) (B0 B1 : Int) (W0 : World) (hT : (Lit.int .u64 T).wf = true) (hL : Act22Row W0 ra L) (hE : ET W0) (hM : ML W0) :
    Calls Tryz.prog 5 #[.int .u64 T, .slice ra L.length rc, .agg #[.int .i64 B0, .int .i64 B1]] W0 fun e w' => e = .returned (.bool true) ∧ Gr W0 w' := by
  have HL := Lib.hid hL
  have HE := Lib.hid hE
  have HM := Lib.hid hM
  have hl := hL.1
  obtain ⟨ht0, ht1⟩ : 0 ≤ T ∧ T ≤ 18446744073709551615 := by
    simp [Lit.wf] at hT
    have e1 : IntKind.u64.min = 0 := rfl
    have e2 : IntKind.u64.max = 18446744073709551615 := rfl
    omega
  have HT := Lib.hid (rel_new T ht0 ht1)
  have ht0n := ht0
  clear hL hE hM hT ht0 ht1
  have HTN := Lib.hid ht0n
  clear ht0n
  go_enter Tryz.func5, Tryz.ntmps5
  go_upto_region 1 with fail
  have HZ0 := Lib.hid (Blk.new W0 #[.int .i64 B0, .int .i64 B1] 48)
  have hg0 : Gr W0 (W0.alloc (.cells #[.int .i64 B0, .int .i64 B1] 48)) := (Gr.refl W0).alloc _
  have HAW := Lib.hid (awake22_any (W0.alloc (.cells #[.int .i64 B0, .int .i64 B1] 48)) (HE.out.gr hg0) (HM.out.gr hg0))
  generalize W0.alloc (.cells #[.int .i64 B0, .int .i64 B1] 48) = wz at *
  have hzb0 : W0.heap.size ≤ W0.heap.size := Nat.le_refl _
  obtain ⟨zb, hzb⟩ : ∃ z, W0.heap.size = z := ⟨_, rfl⟩
  have HZW := Lib.hid (show W0.heap.size ≤ zb from Nat.le_of_eq hzb)
  rw [hzb] at HZ0
  rw [hzb]
  clear hzb hzb0
  go_wp2_with fail
  refine HAW.out.mono ?_
  rintro e w1 ⟨rfl, hg1⟩
  clear HAW
  go_upto_region 3 with fail
  go_wp2_with fail
  refine (bkNew_any T W0 w1 (hg0.trans hg1)).mono ?_
  rintro e w2 ⟨b, rfl, hb, hB, hg2⟩
  have hga := (Gr.refl w2).alloc (.cells #[.slice none 0 0, .slice none 0 0, .int .u64 T] 29)
  have HD0 : Hid (Doc22 W0 (w2.alloc (.cells #[.slice none 0 0, .slice none 0 0, .int .u64 T] 29)) b (.slice none 0 0) (.slice none 0 0) T 0 ⟨[], [], T⟩ (.slice none 0 0) (.slice none 0 0) [] []) := Lib.hid ⟨hB.gr hga, HT.out, ⟨World.ownsRow_nil _ _ _ _, fun x hx => by simp at hx⟩, ⟨World.ownsRow_nil _ _ _ _, fun x hx => by simp at hx⟩, fun x hx => by simp at hx⟩
  have HC0 := Lib.hid (Blk.new w2 #[.slice none 0 0, .slice none 0 0, .int .u64 T] 29)
  have HZ2 := Lib.hid (HZ0.out.gr (hg1.trans (hg2.trans hga)))
  have hcw : W0.heap.size ≤ w2.heap.size := Nat.le_trans (hg0.trans hg1).size hg2.size
  have hbc : b < w2.heap.size := hB.blk.lt
  clear hb hB hg0 hg1 hg2 hga HT HZ0
  go_upto_region 7 with fail
  generalize w2.alloc (.cells #[.slice none 0 0, .slice none 0 0, .int .u64 T] 29) = w3 at *
  generalize w2.heap.size = cb at *
  go_upto_block 0 with fail
  go_cut [9] from 39 (fun i wx => ∃ (k : Nat) (v1 v2 vH vW : Value) (B : Bk) (H W : List RL), k ≤ 30 ∧ Hid (Doc22 W0 wx b v1 v2 T k B vH vW H W) ∧ Hid (Blk wx cb #[vH, vW, .int .u64 B.last] 29) ∧ Hid (Blk wx zb #[.int .i64 B0, .int .i64 B1] 48) ∧ Hid (Safe22 B) ∧ Hid (Full22 B))
  case first =>
    as_aux_lemma =>
      go_wp2_with fail
      go_loopw [9] (fun i wr => ∃ (k : Nat) (v1 v2 vH vW : Value) (B : Bk) (H W : List RL), k ≤ L.length ∧ k ≤ 30 ∧ i = .int .i64 k ∧ Hid (Doc22 W0 wr b v1 v2 T k B vH vW H W) ∧ Hid (Blk wr cb #[vH, vW, .int .u64 B.last] 29) ∧ Hid (Blk wr zb #[.int .i64 B0, .int .i64 B1] 48) ∧ Hid (Safe22 B) ∧ Hid (Full22 B)) (fun i _ => L.length - (intOf i).toNat)
      case atStart => exact ⟨0, _, _, _, _, _, _, _, by omega, by omega, rfl, HD0, HC0, HZ2, Lib.hid (safe_new T), Lib.hid (full_new T)⟩
      case round =>
        clear HD0 HC0 HZ2
        obtain ⟨k, v1, v2, vH, vW, B, H, W, hk, hk2, rfl, hD, hC, hZ, hS, hF⟩ := hrel
        by_cases hlt : k < L.length
        · by_cases hlt2 : k < 30
          · skip
            obtain ⟨ab, ao, rfl, _, hat, hok⟩ := HL.out.at k hlt
            obtain ⟨d0, d1, d2, d3, d4, hq⟩ := hat.gr hD.out.bk.grown
            have HQ := Lib.hid hq
            have HAT := Lib.hid (And.intro hat.1 (And.intro hat.2.1 (And.intro hat.2.2.1 (And.intro hat.2.2.2.1 hat.2.2.2.2.1))))
            clear hat hok hq d0 d1 d2 d3 d4
            generalize L[k] = x at *
            obtain ⟨K, S, pa, pc, Q, X, Wt⟩ := x
            simp only at HAT HQ
            obtain ⟨aH, cH, rfl, _⟩ := ownsRow_slice hD.out.rH.1
            obtain ⟨aW, cW, rfl, _⟩ := ownsRow_slice hD.out.rW.1
            have HDO : Hid (∀ w', Gr wr w' → Calls Tryz.prog 10 #[.pointer (some ⟨b, 0, none⟩), .agg #[.slice aH H.length cH, .slice aW W.length cW, .int .u64 B.last], .agg #[.int .i64 K, .int .i64 S, .slice pa Q.length pc, .bool X, .bool Wt]] w' (DoIs W0 w' b v1 v2 T (k + 1) (doB B K S Q X Wt))) := Lib.hid fun w' hg => do_any H W K S Q pa pc X Wt w' (hD.out.gr hg) (HQ.out.gr hg) (by omega) HM.out HE.out
            obtain ⟨B2, hB2⟩ : ∃ B2, doB B K S Q X Wt = B2 := ⟨_, rfl⟩
            rw [hB2] at HDO
            have hfr := fair_do hD.out.rel.pre hS.out K S Q X Wt
            have hfu := full_do hD.out.rel.pre hF.out K S Q X Wt
            rw [hB2] at hfr hfu
            have HS2 := Lib.hid hfr.safe
            have HF2 := Lib.hid hfu
            have hcbb : cb ≠ b := tag_ne hD.out.bk.blk hC.out (by decide)
            have hzbb : zb ≠ b := tag_ne hD.out.bk.blk hZ.out (by decide)
            have hzcb : zb ≠ cb := tag_ne hC.out hZ.out (by decide)
            clear hB2 HQ hfr hfu hS hF
            go_upto_region 10 with fail
            go_wp2_with fail
            refine late_start (fun i => decide (8 ≤ i)) (fun w0 => w0.cell? ⟨cb, 0, none⟩ = some (.slice aH H.length cH) ∧ w0.cell? ⟨cb, 1, none⟩ = some (.slice aW W.length cW) ∧ w0.cell? ⟨cb, 2, none⟩ = some (.int .u64 B.last) ∧ w0.cell? ⟨ab, ao + k * 5, none⟩ = some (.int .i64 K) ∧ w0.cell? ⟨ab, ao + k * 5 + 1, none⟩ = some (.int .i64 S) ∧ w0.cell? ⟨ab, ao + k * 5 + 2, none⟩ = some (.slice pa Q.length pc) ∧ w0.cell? ⟨ab, ao + k * 5 + 3, none⟩ = some (.bool X) ∧ w0.cell? ⟨ab, ao + k * 5 + 4, none⟩ = some (.bool Wt)) (by kernel_rfl) ?inva (fun h0 => ?_)
            case inva => ((try dsimp only); (exact ⟨(hC.out.gr (Gr.refl wr).drew).cell (i := 0) rfl, (hC.out.gr (Gr.refl wr).drew).cell (i := 1) rfl, (hC.out.gr (Gr.refl wr).drew).cell (i := 2) rfl, (hD.out.bk.grown.trans (Gr.refl wr).drew).cell HAT.out.1, (hD.out.bk.grown.trans (Gr.refl wr).drew).cell HAT.out.2.1, (hD.out.bk.grown.trans (Gr.refl wr).drew).cell HAT.out.2.2.1, (hD.out.bk.grown.trans (Gr.refl wr).drew).cell HAT.out.2.2.2.1, (hD.out.bk.grown.trans (Gr.refl wr).drew).cell HAT.out.2.2.2.2⟩))
            refine late_take (i := 0) (oi := { dst := some 50, op := Go.Op.move (Go.Operand.tmp 7), type := 25, pos := "law.go:217", after := #[], guard := none }) (v := ?va1) rfl (by kernel_rfl) (by kernel_rfl) (by kernel_rfl) (by kernel_rfl) (by kernel_rfl) (fun _ _ _ h => h) (Or.inl ⟨by rfl, ?ra1⟩) (by assumption) ?_
            case ra1 => (intro w hSw; (try dsimp only at hSw); (go_simp <;> with_reducible rfl))
            try simp only [Act.put, List.setIfInBounds_toArray, List.set_cons_zero, List.set_cons_succ]
            refine late_take (i := 1) (oi := { dst := some 51, op := Go.Op.load 29 (Go.Operand.tmp 8), type := 29, pos := "law.go:217", after := #[], guard := none }) (v := ?va2) rfl (by kernel_rfl) (by kernel_rfl) (by kernel_rfl) (by kernel_rfl) (by kernel_rfl) (fun _ _ _ h => h) (Or.inl ⟨by rfl, ?ra2⟩) (by assumption) ?_
            case ra2 => (intro w hSw; (try dsimp only at hSw); (go_simp <;> with_reducible rfl))
            try simp only [Act.put, List.setIfInBounds_toArray, List.set_cons_zero, List.set_cons_succ]
            refine late_take (i := 2) (oi := { dst := some 52, op := Go.Op.move (Go.Operand.tmp 1), type := 23, pos := "law.go:217", after := #[], guard := none }) (v := ?va3) rfl (by kernel_rfl) (by kernel_rfl) (by kernel_rfl) (by kernel_rfl) (by kernel_rfl) (fun _ _ _ h => h) (Or.inl ⟨by rfl, ?ra3⟩) (by assumption) ?_
            case ra3 => (intro w hSw; (try dsimp only at hSw); (go_simp <;> with_reducible rfl))
            try simp only [Act.put, List.setIfInBounds_toArray, List.set_cons_zero, List.set_cons_succ]
            refine late_take (i := 3) (oi := { dst := some 53, op := Go.Op.move (Go.Operand.tmp 9), type := 3, pos := "law.go:217", after := #[], guard := none }) (v := ?va4) rfl (by kernel_rfl) (by kernel_rfl) (by kernel_rfl) (by kernel_rfl) (by kernel_rfl) (fun _ _ _ h => h) (Or.inl ⟨by rfl, ?ra4⟩) (by assumption) ?_
            case ra4 => (intro w hSw; (try dsimp only at hSw); (go_simp <;> with_reducible rfl))
            try simp only [Act.put, List.setIfInBounds_toArray, List.set_cons_zero, List.set_cons_succ]
            refine late_take (i := 4) (oi := { dst := some 54, op := Go.Op.indexAddr 23 (Go.Operand.tmp 52) (Go.Operand.tmp 53), type := 0, pos := "law.go:217", after := #[⟨2, .data⟩, ⟨3, .data⟩], guard := none }) (v := ?va5) rfl (by kernel_rfl) (by kernel_rfl) (by kernel_rfl) (by kernel_rfl) (by kernel_rfl) (fun _ _ _ h => h) (Or.inl ⟨by rfl, ?ra5⟩) (by assumption) ?_
            case ra5 => (intro w hSw; (try dsimp only at hSw); (go_simp <;> with_reducible rfl))
            try simp only [Act.put, List.setIfInBounds_toArray, List.set_cons_zero, List.set_cons_succ]
            refine late_take (i := 5) (oi := { dst := some 55, op := Go.Op.load 35 (Go.Operand.tmp 54), type := 35, pos := "law.go:217", after := #[⟨4, .data⟩], guard := none }) (v := ?va6) rfl (by kernel_rfl) (by kernel_rfl) (by kernel_rfl) (by kernel_rfl) (by kernel_rfl) (fun _ _ _ h => h) (Or.inl ⟨by rfl, ?ra6⟩) (by assumption) ?_
            case ra6 => (intro w hSw; (try dsimp only at hSw); (go_simp <;> with_reducible rfl))
            try simp only [Act.put, List.setIfInBounds_toArray, List.set_cons_zero, List.set_cons_succ]
            refine late_ready (rs := [6]) (by kernel_rfl) (by simp) ?_
            refine LateAll.cons (o := { dst := some 56, op := Go.Op.call { callee := Go.Callee.value (Go.Operand.func 10), args := #[Go.Operand.tmp 50, Go.Operand.tmp 51, Go.Operand.tmp 55], argTypes := #[25, 29, 35] }, type := 31, pos := "law.go:217", after := #[⟨0, .data⟩, ⟨1, .data⟩, ⟨5, .data⟩], guard := none }) rfl (fun K hK => ?_) LateAll.nil
            go_simp
            go_at_call 10
            refine (HDO.out wr.drew (Gr.refl wr).drew).mono ?_
            rintro e w5 ⟨u1, u2, vH2, vW2, H2, W2, rfl, hd2, hF, f1, f2⟩
            have HD2 := Lib.hid hd2
            obtain ⟨a1, e1, rfl, _⟩ := ownsRow_slice hd2.rH.1
            obtain ⟨a2, e2, rfl, _⟩ := ownsRow_slice hd2.rW.1
            have C5 := Lib.hid ((hC.out.gr (Gr.refl wr).drew).far22 hF hcbb (row_offL hC.out hD.out.bk.r1 (by decide)) (row_offL hC.out hD.out.bk.r2 (by decide)))
            have Z5 := Lib.hid ((hZ.out.gr (Gr.refl wr).drew).far22 hF hzbb (row_offL hZ.out hD.out.bk.r1 (by decide)) (row_offL hZ.out hD.out.bk.r2 (by decide)))
            have G5 := Lib.hid hd2.bk.grown
            clear hd2 hF f1 f2
            first | refine hK.out _ _ ?sa7 (fun h7 => ?_) | (go_wp2_with fail; refine hK.out _ _ ?sa7 (fun h7 => ?_))
            case sa7 => ((try dsimp only); (exact ⟨C5.out.cell (i := 0) rfl, C5.out.cell (i := 1) rfl, C5.out.cell (i := 2) rfl, G5.out.cell HAT.out.1, G5.out.cell HAT.out.2.1, G5.out.cell HAT.out.2.2.1, G5.out.cell HAT.out.2.2.2.1, G5.out.cell HAT.out.2.2.2.2⟩))
            clear hK K h0
            try simp only [Act.put, List.setIfInBounds_toArray, List.set_cons_zero, List.set_cons_succ]
            refine late_take (i := 7) (oi := { dst := some 49, op := Go.Op.move (Go.Operand.tmp 56), type := 31, pos := "law.go:217", after := #[⟨6, .data⟩], guard := none }) (v := ?va8) rfl (by kernel_rfl) (by kernel_rfl) (by kernel_rfl) (by kernel_rfl) (by kernel_rfl) (fun _ _ _ h => h) (Or.inl ⟨by rfl, ?ra8⟩) (by assumption) ?_
            case ra8 => (intro w hSw; (try dsimp only at hSw); (go_simp <;> with_reducible rfl))
            try simp only [Act.put, List.setIfInBounds_toArray, List.set_cons_zero, List.set_cons_succ]
            have q0 := C5.out.cell (i := 0) rfl
            have q1 := C5.out.cell (i := 1) rfl
            have q2 := C5.out.cell (i := 2) rfl
            have k0 := C5.out.free 0
            have k1 := C5.out.free 1
            have k2 := C5.out.free 2
            refine late_go (by kernel_rfl) ?_
            refine wpAny_take (i := 8) (oi := { dst := some 57, op := Go.Op.extract (Go.Operand.tmp 49) 0, type := 29, pos := "law.go:217", after := #[⟨7, .data⟩], guard := none }) (v := ?vla9) rfl (by kernel_rfl) (by kernel_rfl) (by kernel_rfl) (fun _ _ _ h => h) (Or.inl ⟨by rfl, ?rla9⟩) ?_
            case rla9 => (intro w; (go_simp <;> with_reducible rfl))
            try simp only [Act.put, List.setIfInBounds_toArray, List.set_cons_zero, List.set_cons_succ]
            refine wpAny_take (i := 9) (oi := { dst := some 58, op := Go.Op.extract (Go.Operand.tmp 49) 1, type := 4, pos := "law.go:217", after := #[⟨7, .data⟩, ⟨10, .gcOnly .lateStores⟩], guard := none }) (v := ?vla10) rfl (by kernel_rfl) (by kernel_rfl) (by kernel_rfl) (fun _ _ _ h => h) (Or.inl ⟨by rfl, ?rla10⟩) ?_
            case rla10 => (intro w; (go_simp <;> with_reducible rfl))
            try simp only [Act.put, List.setIfInBounds_toArray, List.set_cons_zero, List.set_cons_succ]
            refine any_one (i := 10) (o := { dst := none, op := Go.Op.store 29 (Go.Operand.tmp 8) (Go.Operand.tmp 57), type := 0, pos := "law.go:217", after := #[⟨8, .data⟩, ⟨6, .chain⟩, ⟨0, .phase⟩, ⟨1, .phase⟩, ⟨2, .phase⟩, ⟨3, .phase⟩, ⟨4, .phase⟩, ⟨5, .phase⟩, ⟨6, .phase⟩, ⟨7, .phase⟩, ⟨8, .phase⟩, ⟨9, .textOnly .lateStores⟩], guard := none }) (by kernel_rfl) rfl (fun K hK => ?_)
            go_simp
            refine hK.out _ _ ?_
            clear hK K
            try simp only [Act.put, List.setIfInBounds_toArray, List.set_cons_zero, List.set_cons_succ]
            refine any_done (by kernel_rfl) ?_
            have HD6 := Lib.hid (doc_set3 (b1 := a1) (m1 := H2.length) (d1 := e1) (b2 := a2) (m2 := W2.length) (d2 := e2) (t := B2.last) HD2.out C5.out hcw)
            have HC6 := Lib.hid (blk_set3 (x1 := .slice a1 H2.length e1) (x2 := .slice a2 W2.length e2) (x3 := .int .u64 B2.last) C5.out)
            have HZ6 := Lib.hid (blk_set3o (x1 := .slice a1 H2.length e1) (x2 := .slice a2 W2.length e2) (x3 := .int .u64 B2.last) Z5.out hzcb)
            go_upto_region 9 with fail
            generalize ((w5.setCell ⟨cb, 0, none⟩ (.slice a1 H2.length e1)).setCell ⟨cb, 1, none⟩ (.slice a2 W2.length e2)).setCell ⟨cb, 2, none⟩ (.int .u64 B2.last) = w6 at *
            clear q0 q1 q2 k0 k1 k2 HD2 C5 Z5 G5 hD hC hZ HAT HDO
            go_wp2
            exact ⟨⟨k + 1, _, _, _, _, _, _, _, hlt, by omega, by simp, HD6, HC6, HZ6, HS2, HF2⟩, by simp [intOf]; omega⟩
          · have hk30 : k = 30 := by omega
            subst hk30
            go_wp2
            go_meet
            exact ⟨30, _, _, _, _, _, _, _, by omega, hD, hC, hZ, hS, hF⟩
        · obtain rfl : k = L.length := by omega
          go_wp2
          go_meet
          exact ⟨L.length, _, _, _, _, _, _, _, hk2, hD, hC, hZ, hS, hF⟩
  case rest =>
    clear HD0 HC0 HZ2
    obtain ⟨k, v1, v2, vH, vW, B, H, W, hk, HD, HC, HZ, HS, HF⟩ := hcut
    have hlb := HD.out.rel.len
    have hlb2 : B.H.length + B.W.length ≤ 31 := by omega
    obtain ⟨aH, cH, rfl, _⟩ := ownsRow_slice HD.out.rH.1
    obtain ⟨aW, cW, rfl, _⟩ := ownsRow_slice HD.out.rW.1
    have hwc : W0.heap.size ≤ wc.heap.size := HD.out.bk.grown.size
    go_wp2_with fail
    refine (held_any wc HD.out.bk (by omega)).mono ?_
    rintro e w7 ⟨vh, rfl, hrh, hg7⟩
    obtain ⟨ah, ch, rfl, _⟩ := ownsRow_slice hrh
    have HD7 := Lib.hid (HD.out.gr hg7)
    go_wp2_with fail
    refine (waits_any w7 HD7.out.bk (by omega)).mono ?_
    rintro e w8 ⟨vw, rfl, hrw, hg8⟩
    obtain ⟨aw, cw, rfl, _⟩ := ownsRow_slice hrw
    have hvh := hrh.lt
    have hvw := hrw.lt
    have HG8 := Lib.hid (((Gr.refl w8).alloc (.cells #[.slice ah B.H.length ch] 37)).alloc (.cells #[.slice aw B.W.length cw] 37))
    have hs8 : (w8.alloc (.cells #[.slice ah B.H.length ch] 37)).heap.size = w8.heap.size + 1 := by simp
    have HB1 := Lib.hid ((Blk.new w8 #[.slice ah B.H.length ch] 37).gr ((Gr.refl _).alloc (.cells #[.slice aw B.W.length cw] 37)))
    have HB2 := Lib.hid (Blk.new (w8.alloc (.cells #[.slice ah B.H.length ch] 37)) #[.slice aw B.W.length cw] 37)
    rw [hs8] at HB2
    have HT : Hid (Two W0 ((w8.alloc (.cells #[.slice ah B.H.length ch] 37)).alloc (.cells #[.slice aw B.W.length cw] 37)) w8.heap.size (w8.heap.size + 1) (.slice ah B.H.length ch) (.slice aw B.W.length cw) B.H B.W) := Lib.hid ⟨HD.out.bk.grown.trans (hg7.trans (hg8.trans HG8.out)), HB1.out, HB2.out, by have := hg7.size; have := hg8.size; omega, by have := hg7.size; have := hg8.size; omega, by omega, owns_base (ownsRow_gr (hg8.trans HG8.out) hrh) hwc, owns_base (ownsRow_gr HG8.out hrw) (Nat.le_trans hwc hg7.size), by
      rcases hq : (Value.slice ah B.H.length ch).ownBlock with _ | q
      · exact .inl rfl
      · refine .inr fun e => ?_
        have h1 := (hvh q hq).2
        have h2 := (hvw q e.symm).1
        omega, fun y hy => HD.out.rel.pathH y hy, fun y hy => HD.out.rel.pathW y hy, by omega⟩
    have HD8 := Lib.hid (HD7.out.gr (hg8.trans HG8.out))
    have HC8 := Lib.hid (HC.out.gr (hg7.trans (hg8.trans HG8.out)))
    have HZ8 := Lib.hid (HZ.out.gr (hg7.trans (hg8.trans HG8.out)))
    have HOH : Hid (OkH B.H B.last) := Lib.hid fun j hj => hold_back HD.out.rel HTN.out HS.out HF.out j hj
    have HOW : Hid (OkW B.H B.W B.last) := Lib.hid fun j hj => wait_back HD.out.rel HS.out HF.out j hj
    clear hrh hrw hg7 hg8 hvh hvw HG8 hs8 HB1 HB2 HD HC HZ HD7 HS HF hwc
    go_upto_region 12 with fail
    generalize (w8.alloc (.cells #[.slice ah B.H.length ch] 37)).alloc (.cells #[.slice aw B.W.length cw] 37) = w9 at *
    obtain ⟨bw, hbw⟩ : ∃ q, w8.heap.size + 1 = q := ⟨_, rfl⟩
    rw [hbw] at HT
    rw [hbw]
    clear hbw
    generalize w8.heap.size = bh at *
    go_wp2_with fail
    refine wp_region_held_drew (S := (fun w0 => w0.cell? ⟨bh, 0, none⟩ = some (.slice ah B.H.length ch) ∧ w0.cell? ⟨bw, 0, none⟩ = some (.slice aw B.W.length cw))) (by kernel_rfl) ?invb (fun h0 => ?_)
    case invb => ((try dsimp only); (exact ⟨(HT.out.c1.gr (Gr.refl w9).drew).cell (i := 0) rfl, (HT.out.c2.gr (Gr.refl w9).drew).cell (i := 0) rfl⟩))
    refine wpAnyH_take (i := 0) (oi := { dst := some 64, op := Go.Op.load 37 (Go.Operand.tmp 10), type := 37, pos := "law.go:220", after := #[], guard := none }) (v := ?vb1) rfl (by kernel_rfl) (by kernel_rfl) (by kernel_rfl) (fun _ _ _ h => h) (Or.inl ⟨by rfl, ?rb1⟩) (by assumption) ?_
    case rb1 => (intro w hSw; (try dsimp only at hSw); (go_simp <;> with_reducible rfl))
    try simp only [Act.put, List.setIfInBounds_toArray, List.set_cons_zero, List.set_cons_succ]
    refine wpAnyH_take (i := 1) (oi := { dst := some 65, op := Go.Op.load 37 (Go.Operand.tmp 11), type := 37, pos := "law.go:220", after := #[], guard := none }) (v := ?vb2) rfl (by kernel_rfl) (by kernel_rfl) (by kernel_rfl) (fun _ _ _ h => h) (Or.inl ⟨by rfl, ?rb2⟩) (by assumption) ?_
    case rb2 => (intro w hSw; (try dsimp only at hSw); (go_simp <;> with_reducible rfl))
    try simp only [Act.put, List.setIfInBounds_toArray, List.set_cons_zero, List.set_cons_succ]
    refine wpAnyH_take (i := 2) (oi := { dst := some 66, op := Go.Op.move (Go.Operand.tmp 7), type := 25, pos := "law.go:220", after := #[], guard := none }) (v := ?vb3) rfl (by kernel_rfl) (by kernel_rfl) (by kernel_rfl) (fun _ _ _ h => h) (Or.inl ⟨by rfl, ?rb3⟩) (by assumption) ?_
    case rb3 => (intro w hSw; (try dsimp only at hSw); (go_simp <;> with_reducible rfl))
    try simp only [Act.put, List.setIfInBounds_toArray, List.set_cons_zero, List.set_cons_succ]
    refine wpAnyH_ready (rs := [3]) (by kernel_rfl) (by simp) ?_
    refine AllReadyH.cons (o := { dst := some 67, op := Go.Op.call { callee := Go.Callee.value (Go.Operand.func 16), args := #[Go.Operand.tmp 66], argTypes := #[25] }, type := 22, pos := "law.go:220", after := #[⟨2, .data⟩], guard := none }) rfl (fun K hK => ?_) AllReadyH.nil
    go_simp
    go_at_call 16
    refine (last_any w9.drew (HD8.out.bk.gr (Gr.refl w9).drew)).mono ?_
    rintro e wa ⟨rfl, hga⟩
    have GA := Lib.hid ((Gr.refl w9).drew.trans hga)
    have TA2 := Lib.hid (HT.out.grW GA.out)
    clear hga
    first | refine hK.out _ _ ?sb4 (fun h4 => ?_) | (go_wp2_with fail; refine hK.out _ _ ?sb4 (fun h4 => ?_))
    case sb4 => ((try dsimp only); (first | exact ⟨TL2.out.c1.cell (i := 0) rfl, TL2.out.c2.cell (i := 0) rfl⟩ | exact ⟨TA2.out.c1.cell (i := 0) rfl, TA2.out.c2.cell (i := 0) rfl⟩))
    clear hK K h0
    try simp only [Act.put, List.setIfInBounds_toArray, List.set_cons_zero, List.set_cons_succ]
    refine wpAnyH_ready (rs := [4]) (by kernel_rfl) (by simp) ?_
    refine AllReadyH.cons (o := { dst := some 68, op := Go.Op.call { callee := Go.Callee.value (Go.Operand.func 17), args := #[Go.Operand.tmp 64, Go.Operand.tmp 65, Go.Operand.tmp 67], argTypes := #[37, 37, 22] }, type := 50, pos := "law.go:220", after := #[⟨0, .data⟩, ⟨1, .data⟩, ⟨3, .data⟩, ⟨3, .chain⟩], guard := none }) rfl (fun K hK => ?_) AllReadyH.nil
    go_simp
    go_at_call 17
    refine (load_any B.H B.W B.last wa (LRow.of TA2.out.r1) (LRow.of TA2.out.r2) (by omega) TA2.out.p1 TA2.out.p2 (HM.out.gr TA2.out.gr)).mono ?_
    rintro e wl hld
    obtain ⟨c, u1, u2, rfl, hc, hkc⟩ : ∃ c u1 u2, e = .returned (.tuple #[.pointer (some ⟨c, 0, none⟩), .int .i64 0]) ∧ wa.heap.size ≤ c ∧ BkIs wa wl c u1 u2 ⟨B.H, B.W, B.last⟩ := by
      rcases hld with ⟨_, _, q⟩ | ⟨hn, _, _⟩
      · exact q
      · exact absurd ⟨HOH.out, HOW.out⟩ hn
    have GL := Lib.hid (GA.out.trans hkc.grown)
    have TL2 := Lib.hid (HT.out.grW GL.out)
    have HKC := Lib.hid (bk_rebase hkc TA2.out.gr.size TL2.out.gr : BkIs W0 wl c u1 u2 B)
    clear hld hkc
    first | refine hK.out _ _ ?sb5 (fun h5 => ?_) | (go_wp2_with fail; refine hK.out _ _ ?sb5 (fun h5 => ?_))
    case sb5 => ((try dsimp only); (first | exact ⟨TL2.out.c1.cell (i := 0) rfl, TL2.out.c2.cell (i := 0) rfl⟩ | exact ⟨TA2.out.c1.cell (i := 0) rfl, TA2.out.c2.cell (i := 0) rfl⟩))
    clear hK K h4
    try simp only [Act.put, List.setIfInBounds_toArray, List.set_cons_zero, List.set_cons_succ]
    refine wpAnyH_take (i := 5) (oi := { dst := some 63, op := Go.Op.move (Go.Operand.tmp 68), type := 50, pos := "law.go:220", after := #[⟨4, .data⟩], guard := none }) (v := ?vb6) rfl (by kernel_rfl) (by kernel_rfl) (by kernel_rfl) (fun _ _ _ h => h) (Or.inl ⟨by rfl, ?rb6⟩) (by assumption) ?_
    case rb6 => (intro w hSw; (try dsimp only at hSw); (go_simp <;> with_reducible rfl))
    try simp only [Act.put, List.setIfInBounds_toArray, List.set_cons_zero, List.set_cons_succ]
    refine wpAnyH_take (i := 6) (oi := { dst := some 69, op := Go.Op.extract (Go.Operand.tmp 63) 0, type := 25, pos := "law.go:220", after := #[⟨5, .data⟩], guard := none }) (v := ?vb7) rfl (by kernel_rfl) (by kernel_rfl) (by kernel_rfl) (fun _ _ _ h => h) (Or.inl ⟨by rfl, ?rb7⟩) (by assumption) ?_
    case rb7 => (intro w hSw; (try dsimp only at hSw); (go_simp <;> with_reducible rfl))
    try simp only [Act.put, List.setIfInBounds_toArray, List.set_cons_zero, List.set_cons_succ]
    refine wpAnyH_take (i := 7) (oi := { dst := some 70, op := Go.Op.extract (Go.Operand.tmp 63) 1, type := 49, pos := "law.go:220", after := #[⟨5, .data⟩, ⟨8, .gcOnly .lateStores⟩], guard := none }) (v := ?vb8) rfl (by kernel_rfl) (by kernel_rfl) (by kernel_rfl) (fun _ _ _ h => h) (Or.inl ⟨by rfl, ?rb8⟩) (by assumption) ?_
    case rb8 => (intro w hSw; (try dsimp only at hSw); (go_simp <;> with_reducible rfl))
    try simp only [Act.put, List.setIfInBounds_toArray, List.set_cons_zero, List.set_cons_succ]
    refine wpAnyH_take (i := 8) (oi := { dst := some 12, op := Go.Op.assign (Go.Operand.tmp 69), type := 25, pos := "law.go:220", after := #[⟨6, .data⟩, ⟨4, .chain⟩, ⟨0, .phase⟩, ⟨1, .phase⟩, ⟨2, .phase⟩, ⟨3, .phase⟩, ⟨4, .phase⟩, ⟨5, .phase⟩, ⟨6, .phase⟩, ⟨7, .textOnly .lateStores⟩], guard := none }) (v := ?vb9) rfl (by kernel_rfl) (by kernel_rfl) (by kernel_rfl) (fun _ _ _ h => h) (Or.inl ⟨by rfl, ?rb9⟩) (by assumption) ?_
    case rb9 => (intro w hSw; (try dsimp only at hSw); (go_simp <;> with_reducible rfl))
    try simp only [Act.put, List.setIfInBounds_toArray, List.set_cons_zero, List.set_cons_succ]
    refine wpAnyH_take (i := 9) (oi := { dst := some 13, op := Go.Op.assign (Go.Operand.tmp 70), type := 49, pos := "law.go:220", after := #[⟨7, .data⟩, ⟨8, .chain⟩, ⟨0, .phase⟩, ⟨1, .phase⟩, ⟨2, .phase⟩, ⟨3, .phase⟩, ⟨4, .phase⟩, ⟨5, .phase⟩, ⟨6, .phase⟩, ⟨7, .phase⟩, ⟨8, .phase⟩], guard := none }) (v := ?vb10) rfl (by kernel_rfl) (by kernel_rfl) (by kernel_rfl) (fun _ _ _ h => h) (Or.inl ⟨by rfl, ?rb10⟩) (by assumption) ?_
    case rb10 => (intro w hSw; (try dsimp only at hSw); (go_simp <;> with_reducible rfl))
    try simp only [Act.put, List.setIfInBounds_toArray, List.set_cons_zero, List.set_cons_succ]
    refine wpAnyH_done (by kernel_rfl) ?_ _
    have HDL := Lib.hid (HD8.out.gr GL.out)
    have HCL := Lib.hid (HC8.out.gr GL.out)
    have HZL := Lib.hid (HZ8.out.gr GL.out)
    clear GA TA2 HT HD8 HC8 HZ8 HOH HOW GL hc
    have q0 := HCL.out.cell (i := 0) rfl
    have q1 := HCL.out.cell (i := 1) rfl
    have q2 := HCL.out.cell (i := 2) rfl
    go_wp2_with fail
    refine (isX_any H W wl HKC.out HDL.out.rel HDL.out.rH HDL.out.rW (by omega) HM.out).mono ?_
    rintro e wm ⟨rfl, hgm⟩
    have HDM := Lib.hid (HDL.out.gr hgm)
    have HZM := Lib.hid (HZL.out.gr hgm)
    have TM := Lib.hid (TL2.out.grW hgm)
    clear q0 q1 q2 HDL HCL HZL TL2 HKC hgm
    go_upto_region 15 with fail
    go_wp2_with fail
    refine (last_any wm HDM.out.bk).mono ?_
    rintro e wn ⟨rfl, hgn⟩
    have HZN := Lib.hid (HZM.out.gr hgn)
    have TN := Lib.hid (TM.out.grW hgn)
    clear hgn HDM HZM TM
    have q1 := TN.out.c1.cell (i := 0) rfl
    have q2 := TN.out.c2.cell (i := 0) rfl
    go_upto_region 17 with fail
    obtain ⟨n, hn⟩ : ∃ n, B.H.length + B.W.length = n := ⟨_, rfl⟩
    have hni : (B.H.length : Int) + (B.W.length : Int) = (n : Int) := by omega
    rw [hni]
    clear hni
    by_cases hn0 : n = 0
    · have e0 : ((n : Int) == 0) = true := by simpa using hn0
      clear hn0
      go_wp2
      go_ret
      exact ⟨rfl, TN.out.gr⟩
    · have e0 : ((n : Int) == 0) = false := by simpa using hn0
      have HN := Lib.hid hn
      have HMD := Lib.hid (mod_any B0 n (by omega) (by omega))
      clear hn
      have z0 := HZN.out.cell (i := 0) rfl
      have z1 := HZN.out.cell (i := 1) rfl
      go_upto_region 20 with fail
      obtain ⟨k0, hk0, hke⟩ := HMD.out
      rw [hke]
      clear HMD hke z0 hn0 e0
      go_upto_if 103 with fail
      go_cut [16, 17] from 100 (fun u16 u17 wx => ∃ (kY yb ob c1 : Nat) (a1 : Option Addr) (vo : Value) (Y O : List Lok), u16 = .int .i64 kY ∧ u17 = .pointer (some ⟨yb, 0, none⟩) ∧ kY < Y.length ∧ Hid (Two W0 wx yb ob (.slice a1 Y.length c1) vo Y O) ∧ Hid (Blk wx zb #[.int .i64 B0, .int .i64 B1] 48) ∧ Hid (yb = bh ∧ ob = bw ∨ yb = bw ∧ ob = bh))
      case first =>
        as_aux_lemma =>
          by_cases hkl : k0 < B.H.length
          · have e3 : decide ((k0 : Int) < (B.H.length : Int)) = true := decide_eq_true (by omega)
            go_wp2
            go_meet
            exact ⟨k0, bh, bw, _, _, _, B.H, B.W, rfl, rfl, hkl, TN, HZN, Lib.hid (.inl ⟨rfl, rfl⟩)⟩
          · have e3 : decide ((k0 : Int) < (B.H.length : Int)) = false := decide_eq_false (by omega)
            have hkw : k0 - B.H.length < B.W.length := by have := HN.out; omega
            have hws : IntKind.i64.wrap ((k0 : Int) - (B.H.length : Int)) = ((k0 - B.H.length : Nat) : Int) := by rw [IntWalk.i64_in _ (by omega)]; omega
            go_wp2
            go_meet
            exact ⟨k0 - B.H.length, bw, bh, _, _, _, B.W, B.H, by first | rfl | (simp; omega), rfl, hkw, Lib.hid TN.out.swap, HZN, Lib.hid (.inr ⟨rfl, rfl⟩)⟩
      case rest =>
        clear q1 q2 z1 HZN TN HN hk0
        obtain ⟨kY, yb, ob, c1, a1, vo, Y, O, rfl, rfl, hkY, HT, HZ, HSD⟩ := hcut
        have z1 := HZ.out.cell (i := 1) rfl
        go_upto_block 2 with fail
        go_cut [14] from 111 (fun u14 wx => ∃ t : Int, u14 = .int .u64 t ∧ Hid (Bent W0 wx bh bw))
        case first =>
          as_aux_lemma =>
            clear z1
            obtain ⟨g, c2, hv, _, _, _, _⟩ := lokrow_at HT.out.r1 kY hkY
            simp only [Value.slice.injEq] at hv
            obtain ⟨rfl, hnn, rfl⟩ := hv
            clear hnn
            obtain ⟨d0, d1, d2, d3, dF⟩ := lokrow_atM HT.out.r1 rfl kY hkY
            have hDR : Gr wc wc.drew := (Gr.refl wc).drew
            have HTD := Lib.hid (HT.out.grW hDR)
            obtain ⟨D0, D1, D2, D3, DF⟩ := lokrow_atM HTD.out.r1 rfl kY hkY
            have z0 := HT.out.c1.cell (i := 0) rfl
            have Z0 := HTD.out.c1.cell (i := 0) rfl
            have Z1 := (HZ.out.gr hDR).cell (i := 1) rfl
            have HSET : Hid (∀ (w' : World) (i : Nat) (u : Value) (x : Lok), Gr wc w' → i < 4 → encLok x = (encLok Y[kY]).set i u → IsPath x.txt → Bent W0 (w'.setCell ⟨g, kY * 4 + i, none⟩ u) bh bw) := Lib.hid fun w' i u x hg hi hx hp => ((HT.out.grW hg).set rfl hkY hi hx hp).side HSD.out
            have QPY := Lib.hid (HT.out.p1 _ (List.getElem_mem hkY))
            have HME := Lib.hid (List.getElem_mem hkY)
            have hYl : Y.length ≤ 61 := by have := HT.out.len; omega
            have hYc : Y.length ≤ c1 := row_cap HT.out.r1
            obtain ⟨y, hyy⟩ : ∃ y, Y[kY] = y := ⟨_, rfl⟩
            have HYY := Lib.hid hyy
            rw [hyy] at d0 d1 d2 d3 D0 D1 D2 D3 HSET QPY HME
            clear hyy
            have HSES : Hid (∀ (w' : World) (v : Int), Gr wc w' → Bent W0 (w'.setCell ⟨g, kY * 4, none⟩ (.int .i64 v)) bh bw) := Lib.hid fun w' v hg => HSET.out w' 0 _ ⟨v, y.txt, y.ex, y.tok⟩ hg (by omega) rfl QPY.out
            have HTXT : Hid (∀ (w' : World) (v : ByteArray), Gr wc w' → IsPath v → Bent W0 (w'.setCell ⟨g, kY * 4 + 1, none⟩ (.string v)) bh bw) := Lib.hid fun w' v hg hp => HSET.out w' 1 _ ⟨y.ses, v, y.ex, y.tok⟩ hg (by omega) rfl hp
            have HEX : Hid (∀ (w' : World) (v : Bool), Gr wc w' → Bent W0 (w'.setCell ⟨g, kY * 4 + 2, none⟩ (.bool v)) bh bw) := Lib.hid fun w' v hg => HSET.out w' 2 _ ⟨y.ses, y.txt, v, y.tok⟩ hg (by omega) rfl QPY.out
            have HTOK : Hid (∀ (w' : World) (v : Int), Gr wc w' → Bent W0 (w'.setCell ⟨g, kY * 4 + 3, none⟩ (.int .u64 v)) bh bw) := Lib.hid fun w' v hg => HSET.out w' 3 _ ⟨y.ses, y.txt, y.ex, v⟩ hg (by omega) rfl QPY.out
            clear HSET
            generalize bits BinOp.and IntKind.i64 B1 7 = q at *
            by_cases h0 : q = 0
            · have e0 : (q == 0) = true := by simpa using h0
              clear h0
              go_upto_region 26 with fail
              have f0 := DF (kY * 4 + 2)
              go_wp2_with fail
              as_aux_lemma =>
                refine late_start (fun i => decide (14 ≤ i)) (fun w0 => w0.cell? ⟨yb, 0, none⟩ = some (.slice (some ⟨g, 0, none⟩) Y.length c1) ∧ w0.cell? ⟨g, kY * 4 + 2, none⟩ = some (.bool y.ex)) (by kernel_rfl) ?invc (fun h0 => ?_)
                case invc => ((try dsimp only); (exact ⟨Z0, D2⟩))
                refine late_take (i := 0) (oi := { dst := some 113, op := Go.Op.move (Go.Operand.tmp 17), type := 52, pos := "law.go:239", after := #[], guard := none }) (v := ?vc1) rfl (by kernel_rfl) (by kernel_rfl) (by kernel_rfl) (by kernel_rfl) (by kernel_rfl) (fun _ _ _ h => h) (Or.inl ⟨by rfl, ?rc1⟩) (by assumption) ?_
                case rc1 => (intro w hSw; (try dsimp only at hSw); (go_simp <;> with_reducible rfl))
                try simp only [Act.put, List.setIfInBounds_toArray, List.set_cons_zero, List.set_cons_succ]
                refine late_take (i := 1) (oi := { dst := some 114, op := Go.Op.nilCheck (Go.Operand.tmp 113), type := 0, pos := "law.go:239", after := #[⟨0, .data⟩], guard := none }) (v := ?vc2) rfl (by kernel_rfl) (by kernel_rfl) (by kernel_rfl) (by kernel_rfl) (by kernel_rfl) (fun _ _ _ h => h) (Or.inl ⟨by rfl, ?rc2⟩) (by assumption) ?_
                case rc2 => (intro w hSw; (try dsimp only at hSw); (go_simp <;> with_reducible rfl))
                try simp only [Act.put, List.setIfInBounds_toArray, List.set_cons_zero, List.set_cons_succ]
                refine late_take (i := 2) (oi := { dst := some 115, op := Go.Op.load 37 (Go.Operand.tmp 114), type := 37, pos := "law.go:239", after := #[⟨1, .data⟩], guard := none }) (v := ?vc3) rfl (by kernel_rfl) (by kernel_rfl) (by kernel_rfl) (by kernel_rfl) (by kernel_rfl) (fun _ _ _ h => h) (Or.inl ⟨by rfl, ?rc3⟩) (by assumption) ?_
                case rc3 => (intro w hSw; (try dsimp only at hSw); (go_simp <;> with_reducible rfl))
                try simp only [Act.put, List.setIfInBounds_toArray, List.set_cons_zero, List.set_cons_succ]
                refine late_take (i := 3) (oi := { dst := some 116, op := Go.Op.move (Go.Operand.tmp 16), type := 3, pos := "law.go:239", after := #[], guard := none }) (v := ?vc4) rfl (by kernel_rfl) (by kernel_rfl) (by kernel_rfl) (by kernel_rfl) (by kernel_rfl) (fun _ _ _ h => h) (Or.inl ⟨by rfl, ?rc4⟩) (by assumption) ?_
                case rc4 => (intro w hSw; (try dsimp only at hSw); (go_simp <;> with_reducible rfl))
                try simp only [Act.put, List.setIfInBounds_toArray, List.set_cons_zero, List.set_cons_succ]
                refine late_take (i := 4) (oi := { dst := some 117, op := Go.Op.move (Go.Operand.tmp 17), type := 52, pos := "law.go:239", after := #[], guard := none }) (v := ?vc5) rfl (by kernel_rfl) (by kernel_rfl) (by kernel_rfl) (by kernel_rfl) (by kernel_rfl) (fun _ _ _ h => h) (Or.inl ⟨by rfl, ?rc5⟩) (by assumption) ?_
                case rc5 => (intro w hSw; (try dsimp only at hSw); (go_simp <;> with_reducible rfl))
                try simp only [Act.put, List.setIfInBounds_toArray, List.set_cons_zero, List.set_cons_succ]
                refine late_take (i := 5) (oi := { dst := some 118, op := Go.Op.nilCheck (Go.Operand.tmp 117), type := 0, pos := "law.go:239", after := #[⟨4, .data⟩], guard := none }) (v := ?vc6) rfl (by kernel_rfl) (by kernel_rfl) (by kernel_rfl) (by kernel_rfl) (by kernel_rfl) (fun _ _ _ h => h) (Or.inl ⟨by rfl, ?rc6⟩) (by assumption) ?_
                case rc6 => (intro w hSw; (try dsimp only at hSw); (go_simp <;> with_reducible rfl))
                try simp only [Act.put, List.setIfInBounds_toArray, List.set_cons_zero, List.set_cons_succ]
                refine late_take (i := 6) (oi := { dst := some 119, op := Go.Op.load 37 (Go.Operand.tmp 118), type := 37, pos := "law.go:239", after := #[⟨5, .data⟩], guard := none }) (v := ?vc7) rfl (by kernel_rfl) (by kernel_rfl) (by kernel_rfl) (by kernel_rfl) (by kernel_rfl) (fun _ _ _ h => h) (Or.inl ⟨by rfl, ?rc7⟩) (by assumption) ?_
                case rc7 => (intro w hSw; (try dsimp only at hSw); (go_simp <;> with_reducible rfl))
                try simp only [Act.put, List.setIfInBounds_toArray, List.set_cons_zero, List.set_cons_succ]
                refine late_take (i := 7) (oi := { dst := some 120, op := Go.Op.move (Go.Operand.tmp 16), type := 3, pos := "law.go:239", after := #[], guard := none }) (v := ?vc8) rfl (by kernel_rfl) (by kernel_rfl) (by kernel_rfl) (by kernel_rfl) (by kernel_rfl) (fun _ _ _ h => h) (Or.inl ⟨by rfl, ?rc8⟩) (by assumption) ?_
                case rc8 => (intro w hSw; (try dsimp only at hSw); (go_simp <;> with_reducible rfl))
                try simp only [Act.put, List.setIfInBounds_toArray, List.set_cons_zero, List.set_cons_succ]
                refine late_take (i := 8) (oi := { dst := some 121, op := Go.Op.indexAddr 37 (Go.Operand.tmp 119) (Go.Operand.tmp 120), type := 0, pos := "law.go:239", after := #[⟨6, .data⟩, ⟨7, .data⟩], guard := none }) (v := ?vc9) rfl (by kernel_rfl) (by kernel_rfl) (by kernel_rfl) (by kernel_rfl) (by kernel_rfl) (fun _ _ _ h => h) (Or.inl ⟨by rfl, ?rc9⟩) (by assumption) ?_
                case rc9 => (intro w hSw; (try dsimp only at hSw); (go_simp <;> with_reducible rfl))
                try simp only [Act.put, List.setIfInBounds_toArray, List.set_cons_zero, List.set_cons_succ]
                refine late_take (i := 9) (oi := { dst := some 122, op := Go.Op.fieldAddr 42 (Go.Operand.tmp 121) 2, type := 0, pos := "law.go:239", after := #[⟨8, .data⟩], guard := none }) (v := ?vc10) rfl (by kernel_rfl) (by kernel_rfl) (by kernel_rfl) (by kernel_rfl) (by kernel_rfl) (fun _ _ _ h => h) (Or.inl ⟨by rfl, ?rc10⟩) (by assumption) ?_
                case rc10 => (intro w hSw; (try dsimp only at hSw); (go_simp <;> with_reducible rfl))
                try simp only [Act.put, List.setIfInBounds_toArray, List.set_cons_zero, List.set_cons_succ]
                refine late_take (i := 10) (oi := { dst := some 123, op := Go.Op.load 4 (Go.Operand.tmp 122), type := 4, pos := "law.go:239", after := #[⟨9, .data⟩], guard := none }) (v := ?vc11) rfl (by kernel_rfl) (by kernel_rfl) (by kernel_rfl) (by kernel_rfl) (by kernel_rfl) (fun _ _ _ h => h) (Or.inl ⟨by rfl, ?rc11⟩) (by assumption) ?_
                case rc11 => (intro w hSw; (try dsimp only at hSw); (go_simp <;> with_reducible rfl))
                try simp only [Act.put, List.setIfInBounds_toArray, List.set_cons_zero, List.set_cons_succ]
                refine late_take (i := 11) (oi := { dst := some 124, op := Go.Op.unOp Go.UnOp.not 4 (Go.Operand.tmp 123), type := 4, pos := "law.go:239", after := #[⟨10, .data⟩], guard := none }) (v := ?vc12) rfl (by kernel_rfl) (by kernel_rfl) (by kernel_rfl) (by kernel_rfl) (by kernel_rfl) (fun _ _ _ h => h) (Or.inl ⟨by rfl, ?rc12⟩) (by assumption) ?_
                case rc12 => (intro w hSw; (try dsimp only at hSw); (go_simp <;> with_reducible rfl))
                try simp only [Act.put, List.setIfInBounds_toArray, List.set_cons_zero, List.set_cons_succ]
                refine late_take (i := 12) (oi := { dst := some 125, op := Go.Op.indexAddr 37 (Go.Operand.tmp 115) (Go.Operand.tmp 116), type := 0, pos := "law.go:239", after := #[⟨2, .data⟩, ⟨3, .data⟩, ⟨0, .phase⟩, ⟨1, .phase⟩, ⟨2, .phase⟩, ⟨3, .phase⟩, ⟨4, .phase⟩, ⟨5, .phase⟩, ⟨6, .phase⟩, ⟨7, .phase⟩, ⟨8, .phase⟩, ⟨9, .phase⟩, ⟨10, .phase⟩, ⟨11, .phase⟩], guard := none }) (v := ?vc13) rfl (by kernel_rfl) (by kernel_rfl) (by kernel_rfl) (by kernel_rfl) (by kernel_rfl) (fun _ _ _ h => h) (Or.inl ⟨by rfl, ?rc13⟩) (by assumption) ?_
                case rc13 => (intro w hSw; (try dsimp only at hSw); (go_simp <;> with_reducible rfl))
                try simp only [Act.put, List.setIfInBounds_toArray, List.set_cons_zero, List.set_cons_succ]
                refine late_take (i := 13) (oi := { dst := some 126, op := Go.Op.fieldAddr 42 (Go.Operand.tmp 125) 2, type := 0, pos := "law.go:239", after := #[⟨12, .data⟩, ⟨0, .phase⟩, ⟨1, .phase⟩, ⟨2, .phase⟩, ⟨3, .phase⟩, ⟨4, .phase⟩, ⟨5, .phase⟩, ⟨6, .phase⟩, ⟨7, .phase⟩, ⟨8, .phase⟩, ⟨9, .phase⟩, ⟨10, .phase⟩, ⟨11, .phase⟩], guard := none }) (v := ?vc14) rfl (by kernel_rfl) (by kernel_rfl) (by kernel_rfl) (by kernel_rfl) (by kernel_rfl) (fun _ _ _ h => h) (Or.inl ⟨by rfl, ?rc14⟩) (by assumption) ?_
                case rc14 => (intro w hSw; (try dsimp only at hSw); (go_simp <;> with_reducible rfl))
                try simp only [Act.put, List.setIfInBounds_toArray, List.set_cons_zero, List.set_cons_succ]
                refine late_go (by kernel_rfl) ?_
                refine any_one (i := 14) (o := { dst := none, op := Go.Op.store 4 (Go.Operand.tmp 126) (Go.Operand.tmp 124), type := 0, pos := "law.go:239", after := #[⟨13, .data⟩, ⟨11, .data⟩, ⟨0, .phase⟩, ⟨1, .phase⟩, ⟨2, .phase⟩, ⟨3, .phase⟩, ⟨4, .phase⟩, ⟨5, .phase⟩, ⟨6, .phase⟩, ⟨7, .phase⟩, ⟨8, .phase⟩, ⟨9, .phase⟩, ⟨10, .phase⟩, ⟨11, .phase⟩], guard := none }) (by kernel_rfl) rfl (fun K hK => ?_)
                go_simp
                refine hK.out _ _ ?_
                clear hK K
                try simp only [Act.put, List.setIfInBounds_toArray, List.set_cons_zero, List.set_cons_succ]
                refine any_done (by kernel_rfl) ?_
                go_wp2_with fail
                go_meet
                exact ⟨_, rfl, Lib.hid (HEX.out wc.drew _ hDR)⟩
            · have e0 : (q == 0) = false := by simpa using h0
              clear h0
              by_cases h1 : q = 1
              · have e1 : (q == 1) = true := by simpa using h1
                clear h1
                have f0 := dF (kY * 4 + 3)
                go_wp2
                go_meet
                exact ⟨_, rfl, Lib.hid (HTOK.out wc _ (Gr.refl _))⟩
              · have e1 : (q == 1) = false := by simpa using h1
                clear h1
                by_cases h2 : q = 2
                · have e2 : (q == 2) = true := by simpa using h2
                  clear h2
                  go_upto_region 30 with fail
                  have f0 := DF (kY * 4)
                  go_wp2_with fail
                  as_aux_lemma =>
                    refine late_start (fun i => decide (10 ≤ i)) (fun w0 => w0.cell? ⟨yb, 0, none⟩ = some (.slice (some ⟨g, 0, none⟩) Y.length c1) ∧ w0.cell? ⟨zb, 1, none⟩ = some (.int .i64 B1) ∧ w0.cell? ⟨g, kY * 4, none⟩ = some (.int .i64 y.ses)) (by kernel_rfl) ?invd (fun h0 => ?_)
                    case invd => ((try dsimp only); (exact ⟨Z0, Z1, D0⟩))
                    refine late_take (i := 0) (oi := { dst := some 141, op := Go.Op.move (Go.Operand.tmp 17), type := 52, pos := "law.go:243", after := #[], guard := none }) (v := ?vd1) rfl (by kernel_rfl) (by kernel_rfl) (by kernel_rfl) (by kernel_rfl) (by kernel_rfl) (fun _ _ _ h => h) (Or.inl ⟨by rfl, ?rd1⟩) (by assumption) ?_
                    case rd1 => (intro w hSw; (try dsimp only at hSw); (go_simp <;> with_reducible rfl))
                    try simp only [Act.put, List.setIfInBounds_toArray, List.set_cons_zero, List.set_cons_succ]
                    refine late_take (i := 1) (oi := { dst := some 142, op := Go.Op.nilCheck (Go.Operand.tmp 141), type := 0, pos := "law.go:243", after := #[⟨0, .data⟩], guard := none }) (v := ?vd2) rfl (by kernel_rfl) (by kernel_rfl) (by kernel_rfl) (by kernel_rfl) (by kernel_rfl) (fun _ _ _ h => h) (Or.inl ⟨by rfl, ?rd2⟩) (by assumption) ?_
                    case rd2 => (intro w hSw; (try dsimp only at hSw); (go_simp <;> with_reducible rfl))
                    try simp only [Act.put, List.setIfInBounds_toArray, List.set_cons_zero, List.set_cons_succ]
                    refine late_take (i := 2) (oi := { dst := some 143, op := Go.Op.load 37 (Go.Operand.tmp 142), type := 37, pos := "law.go:243", after := #[⟨1, .data⟩], guard := none }) (v := ?vd3) rfl (by kernel_rfl) (by kernel_rfl) (by kernel_rfl) (by kernel_rfl) (by kernel_rfl) (fun _ _ _ h => h) (Or.inl ⟨by rfl, ?rd3⟩) (by assumption) ?_
                    case rd3 => (intro w hSw; (try dsimp only at hSw); (go_simp <;> with_reducible rfl))
                    try simp only [Act.put, List.setIfInBounds_toArray, List.set_cons_zero, List.set_cons_succ]
                    refine late_take (i := 3) (oi := { dst := some 144, op := Go.Op.move (Go.Operand.tmp 16), type := 3, pos := "law.go:243", after := #[], guard := none }) (v := ?vd4) rfl (by kernel_rfl) (by kernel_rfl) (by kernel_rfl) (by kernel_rfl) (by kernel_rfl) (fun _ _ _ h => h) (Or.inl ⟨by rfl, ?rd4⟩) (by assumption) ?_
                    case rd4 => (intro w hSw; (try dsimp only at hSw); (go_simp <;> with_reducible rfl))
                    try simp only [Act.put, List.setIfInBounds_toArray, List.set_cons_zero, List.set_cons_succ]
                    refine late_take (i := 4) (oi := { dst := some 145, op := Go.Op.indexAddr 48 (Go.Operand.tmp 5) (Go.Operand.const (Go.Value.int Go.IntKind.i64 1)), type := 0, pos := "law.go:243", after := #[], guard := none }) (v := ?vd5) rfl (by kernel_rfl) (by kernel_rfl) (by kernel_rfl) (by kernel_rfl) (by kernel_rfl) (fun _ _ _ h => h) (Or.inl ⟨by rfl, ?rd5⟩) (by assumption) ?_
                    case rd5 => (intro w hSw; (try dsimp only at hSw); (go_simp <;> with_reducible rfl))
                    try simp only [Act.put, List.setIfInBounds_toArray, List.set_cons_zero, List.set_cons_succ]
                    refine late_take (i := 5) (oi := { dst := some 146, op := Go.Op.load 3 (Go.Operand.tmp 145), type := 3, pos := "law.go:243", after := #[⟨4, .data⟩], guard := none }) (v := ?vd6) rfl (by kernel_rfl) (by kernel_rfl) (by kernel_rfl) (by kernel_rfl) (by kernel_rfl) (fun _ _ _ h => h) (Or.inl ⟨by rfl, ?rd6⟩) (by assumption) ?_
                    case rd6 => (intro w hSw; (try dsimp only at hSw); (go_simp <;> with_reducible rfl))
                    try simp only [Act.put, List.setIfInBounds_toArray, List.set_cons_zero, List.set_cons_succ]
                    refine late_take (i := 6) (oi := { dst := some 147, op := Go.Op.binOp Go.BinOp.shr 3 (Go.Operand.tmp 146) (Go.Operand.const (Go.Value.int Go.IntKind.u64 3)) 53, type := 3, pos := "law.go:243", after := #[⟨5, .data⟩], guard := none }) (v := ?vd7) rfl (by kernel_rfl) (by kernel_rfl) (by kernel_rfl) (by kernel_rfl) (by kernel_rfl) (fun _ _ _ h => h) (Or.inl ⟨by rfl, ?rd7⟩) (by assumption) ?_
                    case rd7 => (intro w hSw; (try dsimp only at hSw); (go_simp <;> with_reducible rfl))
                    try simp only [Act.put, List.setIfInBounds_toArray, List.set_cons_zero, List.set_cons_succ]
                    refine late_take (i := 7) (oi := { dst := some 148, op := Go.Op.binOp Go.BinOp.and 3 (Go.Operand.tmp 147) (Go.Operand.const (Go.Value.int Go.IntKind.i64 15)) 3, type := 3, pos := "law.go:243", after := #[⟨6, .data⟩], guard := none }) (v := ?vd8) rfl (by kernel_rfl) (by kernel_rfl) (by kernel_rfl) (by kernel_rfl) (by kernel_rfl) (fun _ _ _ h => h) (Or.inl ⟨by rfl, ?rd8⟩) (by assumption) ?_
                    case rd8 => (intro w hSw; (try dsimp only at hSw); (go_simp <;> with_reducible rfl))
                    try simp only [Act.put, List.setIfInBounds_toArray, List.set_cons_zero, List.set_cons_succ]
                    refine late_take (i := 8) (oi := { dst := some 149, op := Go.Op.indexAddr 37 (Go.Operand.tmp 143) (Go.Operand.tmp 144), type := 0, pos := "law.go:243", after := #[⟨2, .data⟩, ⟨3, .data⟩, ⟨0, .phase⟩, ⟨1, .phase⟩, ⟨2, .phase⟩, ⟨3, .phase⟩, ⟨4, .phase⟩, ⟨5, .phase⟩, ⟨6, .phase⟩, ⟨7, .phase⟩], guard := none }) (v := ?vd9) rfl (by kernel_rfl) (by kernel_rfl) (by kernel_rfl) (by kernel_rfl) (by kernel_rfl) (fun _ _ _ h => h) (Or.inl ⟨by rfl, ?rd9⟩) (by assumption) ?_
                    case rd9 => (intro w hSw; (try dsimp only at hSw); (go_simp <;> with_reducible rfl))
                    try simp only [Act.put, List.setIfInBounds_toArray, List.set_cons_zero, List.set_cons_succ]
                    refine late_take (i := 9) (oi := { dst := some 150, op := Go.Op.fieldAddr 42 (Go.Operand.tmp 149) 0, type := 0, pos := "law.go:243", after := #[⟨8, .data⟩, ⟨0, .phase⟩, ⟨1, .phase⟩, ⟨2, .phase⟩, ⟨3, .phase⟩, ⟨4, .phase⟩, ⟨5, .phase⟩, ⟨6, .phase⟩, ⟨7, .phase⟩], guard := none }) (v := ?vd10) rfl (by kernel_rfl) (by kernel_rfl) (by kernel_rfl) (by kernel_rfl) (by kernel_rfl) (fun _ _ _ h => h) (Or.inl ⟨by rfl, ?rd10⟩) (by assumption) ?_
                    case rd10 => (intro w hSw; (try dsimp only at hSw); (go_simp <;> with_reducible rfl))
                    try simp only [Act.put, List.setIfInBounds_toArray, List.set_cons_zero, List.set_cons_succ]
                    refine late_go (by kernel_rfl) ?_
                    refine any_one (i := 10) (o := { dst := none, op := Go.Op.store 3 (Go.Operand.tmp 150) (Go.Operand.tmp 148), type := 0, pos := "law.go:243", after := #[⟨9, .data⟩, ⟨7, .data⟩, ⟨0, .phase⟩, ⟨1, .phase⟩, ⟨2, .phase⟩, ⟨3, .phase⟩, ⟨4, .phase⟩, ⟨5, .phase⟩, ⟨6, .phase⟩, ⟨7, .phase⟩], guard := none }) (by kernel_rfl) rfl (fun K hK => ?_)
                    go_simp
                    refine hK.out _ _ ?_
                    clear hK K
                    try simp only [Act.put, List.setIfInBounds_toArray, List.set_cons_zero, List.set_cons_succ]
                    refine any_done (by kernel_rfl) ?_
                    go_wp2_with fail
                    go_meet
                    exact ⟨_, rfl, Lib.hid (HSES.out wc.drew _ hDR)⟩
                · have e2 : (q == 2) = false := by simpa using h2
                  clear h2
                  by_cases h3 : q = 3
                  · have e3 : (q == 3) = true := by simpa using h3
                    clear h3
                    obtain ⟨l, hok, hpt⟩ := QPY.out
                    rw [hpt] at D1
                    go_upto_region 32 with fail
                    go_wp2_with fail
                    as_aux_lemma =>
                      refine late_start (fun i => decide (14 ≤ i)) (fun w0 => w0.cell? ⟨yb, 0, none⟩ = some (.slice (some ⟨g, 0, none⟩) Y.length c1) ∧ w0.cell? ⟨g, kY * 4 + 1, none⟩ = some (.string (ptext l))) (by kernel_rfl) ?inve (fun h0 => ?_)
                      case inve => ((try dsimp only); (exact ⟨Z0, D1⟩))
                      refine late_take (i := 0) (oi := { dst := some 153, op := Go.Op.move (Go.Operand.tmp 17), type := 52, pos := "law.go:245", after := #[], guard := none }) (v := ?ve1) rfl (by kernel_rfl) (by kernel_rfl) (by kernel_rfl) (by kernel_rfl) (by kernel_rfl) (fun _ _ _ h => h) (Or.inl ⟨by rfl, ?re1⟩) (by assumption) ?_
                      case re1 => (intro w hSw; (try dsimp only at hSw); (go_simp <;> with_reducible rfl))
                      try simp only [Act.put, List.setIfInBounds_toArray, List.set_cons_zero, List.set_cons_succ]
                      refine late_take (i := 1) (oi := { dst := some 154, op := Go.Op.nilCheck (Go.Operand.tmp 153), type := 0, pos := "law.go:245", after := #[⟨0, .data⟩], guard := none }) (v := ?ve2) rfl (by kernel_rfl) (by kernel_rfl) (by kernel_rfl) (by kernel_rfl) (by kernel_rfl) (fun _ _ _ h => h) (Or.inl ⟨by rfl, ?re2⟩) (by assumption) ?_
                      case re2 => (intro w hSw; (try dsimp only at hSw); (go_simp <;> with_reducible rfl))
                      try simp only [Act.put, List.setIfInBounds_toArray, List.set_cons_zero, List.set_cons_succ]
                      refine late_take (i := 2) (oi := { dst := some 155, op := Go.Op.load 37 (Go.Operand.tmp 154), type := 37, pos := "law.go:245", after := #[⟨1, .data⟩], guard := none }) (v := ?ve3) rfl (by kernel_rfl) (by kernel_rfl) (by kernel_rfl) (by kernel_rfl) (by kernel_rfl) (fun _ _ _ h => h) (Or.inl ⟨by rfl, ?re3⟩) (by assumption) ?_
                      case re3 => (intro w hSw; (try dsimp only at hSw); (go_simp <;> with_reducible rfl))
                      try simp only [Act.put, List.setIfInBounds_toArray, List.set_cons_zero, List.set_cons_succ]
                      refine late_take (i := 3) (oi := { dst := some 156, op := Go.Op.move (Go.Operand.tmp 16), type := 3, pos := "law.go:245", after := #[], guard := none }) (v := ?ve4) rfl (by kernel_rfl) (by kernel_rfl) (by kernel_rfl) (by kernel_rfl) (by kernel_rfl) (fun _ _ _ h => h) (Or.inl ⟨by rfl, ?re4⟩) (by assumption) ?_
                      case re4 => (intro w hSw; (try dsimp only at hSw); (go_simp <;> with_reducible rfl))
                      try simp only [Act.put, List.setIfInBounds_toArray, List.set_cons_zero, List.set_cons_succ]
                      refine late_take (i := 4) (oi := { dst := some 157, op := Go.Op.move (Go.Operand.tmp 17), type := 52, pos := "law.go:245", after := #[], guard := none }) (v := ?ve5) rfl (by kernel_rfl) (by kernel_rfl) (by kernel_rfl) (by kernel_rfl) (by kernel_rfl) (fun _ _ _ h => h) (Or.inl ⟨by rfl, ?re5⟩) (by assumption) ?_
                      case re5 => (intro w hSw; (try dsimp only at hSw); (go_simp <;> with_reducible rfl))
                      try simp only [Act.put, List.setIfInBounds_toArray, List.set_cons_zero, List.set_cons_succ]
                      refine late_take (i := 5) (oi := { dst := some 158, op := Go.Op.nilCheck (Go.Operand.tmp 157), type := 0, pos := "law.go:245", after := #[⟨4, .data⟩], guard := none }) (v := ?ve6) rfl (by kernel_rfl) (by kernel_rfl) (by kernel_rfl) (by kernel_rfl) (by kernel_rfl) (fun _ _ _ h => h) (Or.inl ⟨by rfl, ?re6⟩) (by assumption) ?_
                      case re6 => (intro w hSw; (try dsimp only at hSw); (go_simp <;> with_reducible rfl))
                      try simp only [Act.put, List.setIfInBounds_toArray, List.set_cons_zero, List.set_cons_succ]
                      refine late_take (i := 6) (oi := { dst := some 159, op := Go.Op.load 37 (Go.Operand.tmp 158), type := 37, pos := "law.go:245", after := #[⟨5, .data⟩], guard := none }) (v := ?ve7) rfl (by kernel_rfl) (by kernel_rfl) (by kernel_rfl) (by kernel_rfl) (by kernel_rfl) (fun _ _ _ h => h) (Or.inl ⟨by rfl, ?re7⟩) (by assumption) ?_
                      case re7 => (intro w hSw; (try dsimp only at hSw); (go_simp <;> with_reducible rfl))
                      try simp only [Act.put, List.setIfInBounds_toArray, List.set_cons_zero, List.set_cons_succ]
                      refine late_take (i := 7) (oi := { dst := some 160, op := Go.Op.move (Go.Operand.tmp 16), type := 3, pos := "law.go:245", after := #[], guard := none }) (v := ?ve8) rfl (by kernel_rfl) (by kernel_rfl) (by kernel_rfl) (by kernel_rfl) (by kernel_rfl) (fun _ _ _ h => h) (Or.inl ⟨by rfl, ?re8⟩) (by assumption) ?_
                      case re8 => (intro w hSw; (try dsimp only at hSw); (go_simp <;> with_reducible rfl))
                      try simp only [Act.put, List.setIfInBounds_toArray, List.set_cons_zero, List.set_cons_succ]
                      refine late_take (i := 8) (oi := { dst := some 161, op := Go.Op.indexAddr 37 (Go.Operand.tmp 159) (Go.Operand.tmp 160), type := 0, pos := "law.go:245", after := #[⟨6, .data⟩, ⟨7, .data⟩], guard := none }) (v := ?ve9) rfl (by kernel_rfl) (by kernel_rfl) (by kernel_rfl) (by kernel_rfl) (by kernel_rfl) (fun _ _ _ h => h) (Or.inl ⟨by rfl, ?re9⟩) (by assumption) ?_
                      case re9 => (intro w hSw; (try dsimp only at hSw); (go_simp <;> with_reducible rfl))
                      try simp only [Act.put, List.setIfInBounds_toArray, List.set_cons_zero, List.set_cons_succ]
                      refine late_take (i := 9) (oi := { dst := some 162, op := Go.Op.fieldAddr 42 (Go.Operand.tmp 161) 1, type := 0, pos := "law.go:245", after := #[⟨8, .data⟩], guard := none }) (v := ?ve10) rfl (by kernel_rfl) (by kernel_rfl) (by kernel_rfl) (by kernel_rfl) (by kernel_rfl) (fun _ _ _ h => h) (Or.inl ⟨by rfl, ?re10⟩) (by assumption) ?_
                      case re10 => (intro w hSw; (try dsimp only at hSw); (go_simp <;> with_reducible rfl))
                      try simp only [Act.put, List.setIfInBounds_toArray, List.set_cons_zero, List.set_cons_succ]
                      refine late_take (i := 10) (oi := { dst := some 163, op := Go.Op.load 40 (Go.Operand.tmp 162), type := 40, pos := "law.go:245", after := #[⟨9, .data⟩], guard := none }) (v := ?ve11) rfl (by kernel_rfl) (by kernel_rfl) (by kernel_rfl) (by kernel_rfl) (by kernel_rfl) (fun _ _ _ h => h) (Or.inl ⟨by rfl, ?re11⟩) (by assumption) ?_
                      case re11 => (intro w hSw; (try dsimp only at hSw); (go_simp <;> with_reducible rfl))
                      try simp only [Act.put, List.setIfInBounds_toArray, List.set_cons_zero, List.set_cons_succ]
                      refine late_ready (rs := [11]) (by kernel_rfl) (by simp) ?_
                      refine LateAll.cons (o := { dst := some 164, op := Go.Op.call { callee := Go.Callee.value (Go.Operand.func 18), args := #[Go.Operand.tmp 163], argTypes := #[40] }, type := 40, pos := "law.go:245", after := #[⟨10, .data⟩], guard := none }) rfl (fun K hK => ?_) LateAll.nil
                      go_simp
                      go_at_call 18
                      refine (up_any l wc.drew hok).mono ?_
                      rintro e wu ⟨rfl, hgu⟩
                      have U0 := hgu.cell Z0
                      have U1 := hgu.cell D1
                      have HGU := Lib.hid (hDR.trans hgu)
                      have UF := (lokrow_atM (HT.out.grW HGU.out).r1 rfl kY hkY).2.2.2.2 (kY * 4 + 1)
                      clear hgu
                      first | refine hK.out _ _ ?se12 (fun h12 => ?_) | (go_wp2_with fail; refine hK.out _ _ ?se12 (fun h12 => ?_))
                      case se12 => ((try dsimp only); (exact ⟨U0, U1⟩))
                      clear hK K h0
                      try simp only [Act.put, List.setIfInBounds_toArray, List.set_cons_zero, List.set_cons_succ]
                      refine late_take (i := 12) (oi := { dst := some 165, op := Go.Op.indexAddr 37 (Go.Operand.tmp 155) (Go.Operand.tmp 156), type := 0, pos := "law.go:245", after := #[⟨2, .data⟩, ⟨3, .data⟩, ⟨0, .phase⟩, ⟨1, .phase⟩, ⟨2, .phase⟩, ⟨3, .phase⟩, ⟨4, .phase⟩, ⟨5, .phase⟩, ⟨6, .phase⟩, ⟨7, .phase⟩, ⟨8, .phase⟩, ⟨9, .phase⟩, ⟨10, .phase⟩, ⟨11, .phase⟩], guard := none }) (v := ?ve13) rfl (by kernel_rfl) (by kernel_rfl) (by kernel_rfl) (by kernel_rfl) (by kernel_rfl) (fun _ _ _ h => h) (Or.inl ⟨by rfl, ?re13⟩) (by assumption) ?_
                      case re13 => (intro w hSw; (try dsimp only at hSw); (go_simp <;> with_reducible rfl))
                      try simp only [Act.put, List.setIfInBounds_toArray, List.set_cons_zero, List.set_cons_succ]
                      refine late_take (i := 13) (oi := { dst := some 166, op := Go.Op.fieldAddr 42 (Go.Operand.tmp 165) 1, type := 0, pos := "law.go:245", after := #[⟨12, .data⟩, ⟨0, .phase⟩, ⟨1, .phase⟩, ⟨2, .phase⟩, ⟨3, .phase⟩, ⟨4, .phase⟩, ⟨5, .phase⟩, ⟨6, .phase⟩, ⟨7, .phase⟩, ⟨8, .phase⟩, ⟨9, .phase⟩, ⟨10, .phase⟩, ⟨11, .phase⟩], guard := none }) (v := ?ve14) rfl (by kernel_rfl) (by kernel_rfl) (by kernel_rfl) (by kernel_rfl) (by kernel_rfl) (fun _ _ _ h => h) (Or.inl ⟨by rfl, ?re14⟩) (by assumption) ?_
                      case re14 => (intro w hSw; (try dsimp only at hSw); (go_simp <;> with_reducible rfl))
                      try simp only [Act.put, List.setIfInBounds_toArray, List.set_cons_zero, List.set_cons_succ]
                      refine late_go (by kernel_rfl) ?_
                      refine any_one (i := 14) (o := { dst := none, op := Go.Op.store 40 (Go.Operand.tmp 166) (Go.Operand.tmp 164), type := 0, pos := "law.go:245", after := #[⟨13, .data⟩, ⟨11, .data⟩, ⟨11, .chain⟩, ⟨0, .phase⟩, ⟨1, .phase⟩, ⟨2, .phase⟩, ⟨3, .phase⟩, ⟨4, .phase⟩, ⟨5, .phase⟩, ⟨6, .phase⟩, ⟨7, .phase⟩, ⟨8, .phase⟩, ⟨9, .phase⟩, ⟨10, .phase⟩, ⟨11, .phase⟩], guard := none }) (by kernel_rfl) rfl (fun K hK => ?_)
                      go_simp
                      refine hK.out _ _ ?_
                      clear hK K
                      try simp only [Act.put, List.setIfInBounds_toArray, List.set_cons_zero, List.set_cons_succ]
                      refine any_done (by kernel_rfl) ?_
                      go_wp2_with fail
                      go_meet
                      exact ⟨_, rfl, Lib.hid (HTXT.out wu _ HGU.out ⟨l.dropLast, up_ok hok, rfl⟩)⟩
                  · have e3 : (q == 3) = false := by simpa using h3
                    clear h3
                    by_cases h4 : q = 4
                    · have e4 : (q == 4) = true := by simpa using h4
                      clear h4
                      have hwk : IntKind.i64.wrap ((kY : Int) + 1) = ((kY + 1 : Nat) : Int) := by rw [IntWalk.i64_in _ (by omega)]; omega
                      have hk1 : kY ≤ c1 := by omega
                      have hk2 : kY + 1 ≤ c1 := by omega
                      have hk3 : kY + 1 ≤ Y.length := by omega
                      have hk4 : 0 ≤ (kY : Int) + 1 := by omega
                      have hk5 : (kY : Int) + 1 ≤ (Y.length : Int) := by omega
                      go_upto_region 34 with fail
                      go_wp2_with fail
                      as_aux_lemma =>
                        refine late_start (fun i => decide (15 ≤ i)) (fun w0 => w0.cell? ⟨yb, 0, none⟩ = some (.slice (some ⟨g, 0, none⟩) Y.length c1)) (by kernel_rfl) ?invk (fun h0 => ?_)
                        case invk => ((try dsimp only); (exact Z0))
                        refine late_take (i := 0) (oi := { dst := some 169, op := Go.Op.move (Go.Operand.tmp 17), type := 52, pos := "law.go:247", after := #[], guard := none }) (v := ?vk1) rfl (by kernel_rfl) (by kernel_rfl) (by kernel_rfl) (by kernel_rfl) (by kernel_rfl) (fun _ _ _ h => h) (Or.inl ⟨by rfl, ?rk1⟩) (by assumption) ?_
                        case rk1 => (intro w hSw; (try dsimp only at hSw); (go_simp <;> with_reducible rfl))
                        try simp only [Act.put, List.setIfInBounds_toArray, List.set_cons_zero, List.set_cons_succ]
                        refine late_take (i := 1) (oi := { dst := some 170, op := Go.Op.move (Go.Operand.tmp 17), type := 52, pos := "law.go:247", after := #[], guard := none }) (v := ?vk2) rfl (by kernel_rfl) (by kernel_rfl) (by kernel_rfl) (by kernel_rfl) (by kernel_rfl) (fun _ _ _ h => h) (Or.inl ⟨by rfl, ?rk2⟩) (by assumption) ?_
                        case rk2 => (intro w hSw; (try dsimp only at hSw); (go_simp <;> with_reducible rfl))
                        try simp only [Act.put, List.setIfInBounds_toArray, List.set_cons_zero, List.set_cons_succ]
                        refine late_take (i := 2) (oi := { dst := some 171, op := Go.Op.nilCheck (Go.Operand.tmp 170), type := 0, pos := "law.go:247", after := #[⟨1, .data⟩], guard := none }) (v := ?vk3) rfl (by kernel_rfl) (by kernel_rfl) (by kernel_rfl) (by kernel_rfl) (by kernel_rfl) (fun _ _ _ h => h) (Or.inl ⟨by rfl, ?rk3⟩) (by assumption) ?_
                        case rk3 => (intro w hSw; (try dsimp only at hSw); (go_simp <;> with_reducible rfl))
                        try simp only [Act.put, List.setIfInBounds_toArray, List.set_cons_zero, List.set_cons_succ]
                        refine late_take (i := 3) (oi := { dst := some 172, op := Go.Op.load 37 (Go.Operand.tmp 171), type := 37, pos := "law.go:247", after := #[⟨2, .data⟩], guard := none }) (v := ?vk4) rfl (by kernel_rfl) (by kernel_rfl) (by kernel_rfl) (by kernel_rfl) (by kernel_rfl) (fun _ _ _ h => h) (Or.inl ⟨by rfl, ?rk4⟩) (by assumption) ?_
                        case rk4 => (intro w hSw; (try dsimp only at hSw); (go_simp <;> with_reducible rfl))
                        try simp only [Act.put, List.setIfInBounds_toArray, List.set_cons_zero, List.set_cons_succ]
                        refine late_take (i := 4) (oi := { dst := some 173, op := Go.Op.move (Go.Operand.tmp 16), type := 3, pos := "law.go:247", after := #[], guard := none }) (v := ?vk5) rfl (by kernel_rfl) (by kernel_rfl) (by kernel_rfl) (by kernel_rfl) (by kernel_rfl) (fun _ _ _ h => h) (Or.inl ⟨by rfl, ?rk5⟩) (by assumption) ?_
                        case rk5 => (intro w hSw; (try dsimp only at hSw); (go_simp <;> with_reducible rfl))
                        try simp only [Act.put, List.setIfInBounds_toArray, List.set_cons_zero, List.set_cons_succ]
                        refine late_take (i := 5) (oi := { dst := some 174, op := Go.Op.move (Go.Operand.tmp 16), type := 3, pos := "law.go:247", after := #[], guard := none }) (v := ?vk6) rfl (by kernel_rfl) (by kernel_rfl) (by kernel_rfl) (by kernel_rfl) (by kernel_rfl) (fun _ _ _ h => h) (Or.inl ⟨by rfl, ?rk6⟩) (by assumption) ?_
                        case rk6 => (intro w hSw; (try dsimp only at hSw); (go_simp <;> with_reducible rfl))
                        try simp only [Act.put, List.setIfInBounds_toArray, List.set_cons_zero, List.set_cons_succ]
                        refine late_take (i := 6) (oi := { dst := some 175, op := Go.Op.slice 37 (Go.Operand.tmp 172) none (some (Go.Operand.tmp 173)) (some (Go.Operand.tmp 174)), type := 37, pos := "law.go:247", after := #[⟨3, .data⟩, ⟨4, .data⟩, ⟨5, .data⟩], guard := none }) (v := ?vk7) rfl (by kernel_rfl) (by kernel_rfl) (by kernel_rfl) (by kernel_rfl) (by kernel_rfl) (fun _ _ _ h => h) (Or.inl ⟨by rfl, ?rk7⟩) (by assumption) ?_
                        case rk7 => (intro w hSw; (try dsimp only at hSw); (go_simp <;> with_reducible rfl))
                        try simp only [Act.put, List.setIfInBounds_toArray, List.set_cons_zero, List.set_cons_succ]
                        refine late_take (i := 7) (oi := { dst := some 176, op := Go.Op.move (Go.Operand.tmp 17), type := 52, pos := "law.go:247", after := #[], guard := none }) (v := ?vk8) rfl (by kernel_rfl) (by kernel_rfl) (by kernel_rfl) (by kernel_rfl) (by kernel_rfl) (fun _ _ _ h => h) (Or.inl ⟨by rfl, ?rk8⟩) (by assumption) ?_
                        case rk8 => (intro w hSw; (try dsimp only at hSw); (go_simp <;> with_reducible rfl))
                        try simp only [Act.put, List.setIfInBounds_toArray, List.set_cons_zero, List.set_cons_succ]
                        refine late_take (i := 8) (oi := { dst := some 177, op := Go.Op.nilCheck (Go.Operand.tmp 176), type := 0, pos := "law.go:247", after := #[⟨7, .data⟩], guard := none }) (v := ?vk9) rfl (by kernel_rfl) (by kernel_rfl) (by kernel_rfl) (by kernel_rfl) (by kernel_rfl) (fun _ _ _ h => h) (Or.inl ⟨by rfl, ?rk9⟩) (by assumption) ?_
                        case rk9 => (intro w hSw; (try dsimp only at hSw); (go_simp <;> with_reducible rfl))
                        try simp only [Act.put, List.setIfInBounds_toArray, List.set_cons_zero, List.set_cons_succ]
                        refine late_take (i := 9) (oi := { dst := some 178, op := Go.Op.load 37 (Go.Operand.tmp 177), type := 37, pos := "law.go:247", after := #[⟨8, .data⟩], guard := none }) (v := ?vk10) rfl (by kernel_rfl) (by kernel_rfl) (by kernel_rfl) (by kernel_rfl) (by kernel_rfl) (fun _ _ _ h => h) (Or.inl ⟨by rfl, ?rk10⟩) (by assumption) ?_
                        case rk10 => (intro w hSw; (try dsimp only at hSw); (go_simp <;> with_reducible rfl))
                        try simp only [Act.put, List.setIfInBounds_toArray, List.set_cons_zero, List.set_cons_succ]
                        refine late_take (i := 10) (oi := { dst := some 179, op := Go.Op.move (Go.Operand.tmp 16), type := 3, pos := "law.go:247", after := #[], guard := none }) (v := ?vk11) rfl (by kernel_rfl) (by kernel_rfl) (by kernel_rfl) (by kernel_rfl) (by kernel_rfl) (fun _ _ _ h => h) (Or.inl ⟨by rfl, ?rk11⟩) (by assumption) ?_
                        case rk11 => (intro w hSw; (try dsimp only at hSw); (go_simp <;> with_reducible rfl))
                        try simp only [Act.put, List.setIfInBounds_toArray, List.set_cons_zero, List.set_cons_succ]
                        refine late_take (i := 11) (oi := { dst := some 180, op := Go.Op.binOp Go.BinOp.add 3 (Go.Operand.tmp 179) (Go.Operand.const (Go.Value.int Go.IntKind.i64 1)) 3, type := 3, pos := "law.go:247", after := #[⟨10, .data⟩], guard := none }) (v := ?vk12) rfl (by kernel_rfl) (by kernel_rfl) (by kernel_rfl) (by kernel_rfl) (by kernel_rfl) (fun _ _ _ h => h) (Or.inl ⟨by rfl, ?rk12⟩) (by assumption) ?_
                        case rk12 => (intro w hSw; (try dsimp only at hSw); (go_simp <;> with_reducible rfl))
                        try simp only [Act.put, List.setIfInBounds_toArray, List.set_cons_zero, List.set_cons_succ]
                        refine late_take (i := 12) (oi := { dst := some 181, op := Go.Op.slice 37 (Go.Operand.tmp 178) (some (Go.Operand.tmp 180)) none none, type := 37, pos := "law.go:247", after := #[⟨9, .data⟩, ⟨11, .data⟩], guard := none }) (v := ?vk13) rfl (by kernel_rfl) (by kernel_rfl) (by kernel_rfl) (by kernel_rfl) (by kernel_rfl) (fun _ _ _ h => h) (Or.inl ⟨by rfl, ?rk13⟩) (by assumption) ?_
                        case rk13 => (intro w hSw; (try dsimp only at hSw); (go_simp <;> with_reducible rfl))
                        try simp only [Act.put, List.setIfInBounds_toArray, List.set_cons_zero, List.set_cons_succ]
                        refine late_ready (rs := [13]) (by kernel_rfl) (by simp) ?_
                        refine LateAll.cons (o := { dst := some 182, op := Go.Op.call { callee := Go.Callee.builtin Go.Builtin.append, args := #[Go.Operand.tmp 175, Go.Operand.tmp 181], argTypes := #[37, 37] }, type := 37, pos := "law.go:247", after := #[⟨6, .data⟩, ⟨12, .data⟩], guard := none }) rfl (fun K hK => ?_) LateAll.nil
                        refine step_del22 wc.drew (by rfl) (.tmp 175) (.tmp 181) (by rfl) Y g c1 kY (LRow.of HTD.out.r1) hkY (by omega) (by rfl) (if c1 = kY + 1 then some ⟨g, 0, none⟩ else some ⟨g, (kY + 1) * 4, none⟩) (Y.length - (kY + 1)) (c1 - (kY + 1)) (by rfl) (by omega) (fun hm => if_neg (by omega)) ?_
                        intro v7 w7 hr7 hg7 hb7
                        obtain ⟨a7, c7, hv7⟩ := hr7.slice
                        obtain ⟨m7, hm7⟩ : ∃ m, List.length (Y.eraseIdx kY) = m := ⟨_, rfl⟩
                        rw [hm7] at hv7
                        subst hv7
                        clear hm7
                        have HR7 := Lib.hid hr7
                        have HB7 := Lib.hid hb7
                        have HG7 := Lib.hid hg7
                        have U0 := hg7.cell Z0 (by simp)
                        have UF := (HTD.out.c1.grownN hg7).free 0
                        clear hr7 hg7 hb7
                        first | refine hK.out _ _ ?sk14 (fun h14 => ?_) | (go_wp2_with fail; refine hK.out _ _ ?sk14 (fun h14 => ?_))
                        case sk14 => ((try dsimp only); (exact U0))
                        clear hK K h0
                        try simp only [Act.put, List.setIfInBounds_toArray, List.set_cons_zero, List.set_cons_succ]
                        refine late_take (i := 14) (oi := { dst := some 183, op := Go.Op.nilCheck (Go.Operand.tmp 169), type := 0, pos := "law.go:247", after := #[⟨0, .data⟩, ⟨0, .phase⟩, ⟨1, .phase⟩, ⟨2, .phase⟩, ⟨3, .phase⟩, ⟨4, .phase⟩, ⟨5, .phase⟩, ⟨6, .phase⟩, ⟨7, .phase⟩, ⟨8, .phase⟩, ⟨9, .phase⟩, ⟨10, .phase⟩, ⟨11, .phase⟩, ⟨12, .phase⟩, ⟨13, .phase⟩], guard := none }) (v := ?vk15) rfl (by kernel_rfl) (by kernel_rfl) (by kernel_rfl) (by kernel_rfl) (by kernel_rfl) (fun _ _ _ h => h) (Or.inl ⟨by rfl, ?rk15⟩) (by assumption) ?_
                        case rk15 => (intro w hSw; (try dsimp only at hSw); (go_simp <;> with_reducible rfl))
                        try simp only [Act.put, List.setIfInBounds_toArray, List.set_cons_zero, List.set_cons_succ]
                        refine late_go (by kernel_rfl) ?_
                        refine any_one (i := 15) (o := { dst := none, op := Go.Op.store 37 (Go.Operand.tmp 183) (Go.Operand.tmp 182), type := 0, pos := "law.go:247", after := #[⟨14, .data⟩, ⟨13, .data⟩, ⟨13, .chain⟩, ⟨0, .phase⟩, ⟨1, .phase⟩, ⟨2, .phase⟩, ⟨3, .phase⟩, ⟨4, .phase⟩, ⟨5, .phase⟩, ⟨6, .phase⟩, ⟨7, .phase⟩, ⟨8, .phase⟩, ⟨9, .phase⟩, ⟨10, .phase⟩, ⟨11, .phase⟩, ⟨12, .phase⟩, ⟨13, .phase⟩], guard := none }) (by kernel_rfl) rfl (fun K hK => ?_)
                        go_simp
                        refine hK.out _ _ ?_
                        clear hK K
                        try simp only [Act.put, List.setIfInBounds_toArray, List.set_cons_zero, List.set_cons_succ]
                        refine any_done (by kernel_rfl) ?_
                        go_wp2_with fail
                        all_goals go_meet
                        all_goals exact ⟨_, rfl, Lib.hid ((HTD.out.stored (grown_none HG7.out) HR7.out (fun q hq => by rcases HB7.out q hq with e | e; exact e ▸ (HTD.out.off.1 g rfl).1; have := HTD.out.c1.lt; omega) (fun x hx => HTD.out.p1 x (List.mem_of_mem_eraseIdx hx)) (by rw [List.length_eraseIdx]; split <;> omega)).side HSD.out)⟩
                    · have e4 : (q == 4) = false := by simpa using h4
                      clear h4
                      by_cases h5 : q = 5
                      · have e5 : (q == 5) = true := by simpa using h5
                        clear h5
                        obtain ⟨i0, hi, hz0, hz1, hz2⟩ : ∃ i0 : TypeInfo, Tryz.prog.info? 42 = some i0 ∧ i0.zero = some (.agg #[.int .i64 0, .string ⟨#[]⟩, .bool false, .int .u64 0]) ∧ i0.size = 4 ∧ i0.bytes = 40 := ⟨_, rfl, rfl, rfl, rfl⟩
                        have hga : Gr wc (wc.alloc (.cells #[.int .i64 y.ses, .string y.txt, .bool y.ex, .int .u64 y.tok] 42)).drew := ((Gr.refl _).alloc _).drew
                        have HTA := Lib.hid (HT.out.grW hga)
                        have hrow := HTA.out.r1
                        have hbase : W0.heap.size ≤ (wc.alloc (.cells #[.int .i64 y.ses, .string y.txt, .bool y.ex, .int .u64 y.tok] 42)).drew.heap.size := HTA.out.gr.size
                        go_upto_region 36 with fail
                        go_wp2_with fail
                        as_aux_lemma =>
                          refine late_start (fun i => decide (13 ≤ i)) (fun w0 => w0.cell? ⟨yb, 0, none⟩ = some (.slice (some ⟨g, 0, none⟩) Y.length c1) ∧ w0.cell? ⟨g, kY * 4, none⟩ = some (.int .i64 y.ses) ∧ w0.cell? ⟨g, kY * 4 + 1, none⟩ = some (.string y.txt) ∧ w0.cell? ⟨g, kY * 4 + 2, none⟩ = some (.bool y.ex) ∧ w0.cell? ⟨g, kY * 4 + 3, none⟩ = some (.int .u64 y.tok)) (by kernel_rfl) ?invm (fun h0 => ?_)
                          case invm => ((try dsimp only); (exact ⟨Z0, D0, D1, D2, D3⟩))
                          refine late_take (i := 0) (oi := { dst := some 186, op := Go.Op.move (Go.Operand.tmp 17), type := 52, pos := "law.go:249", after := #[], guard := none }) (v := ?vm1) rfl (by kernel_rfl) (by kernel_rfl) (by kernel_rfl) (by kernel_rfl) (by kernel_rfl) (fun _ _ _ h => h) (Or.inl ⟨by rfl, ?rm1⟩) (by assumption) ?_
                          case rm1 => (intro w hSw; (try dsimp only at hSw); (go_simp <;> with_reducible rfl))
                          try simp only [Act.put, List.setIfInBounds_toArray, List.set_cons_zero, List.set_cons_succ]
                          refine late_take (i := 1) (oi := { dst := some 187, op := Go.Op.move (Go.Operand.tmp 17), type := 52, pos := "law.go:249", after := #[], guard := none }) (v := ?vm2) rfl (by kernel_rfl) (by kernel_rfl) (by kernel_rfl) (by kernel_rfl) (by kernel_rfl) (fun _ _ _ h => h) (Or.inl ⟨by rfl, ?rm2⟩) (by assumption) ?_
                          case rm2 => (intro w hSw; (try dsimp only at hSw); (go_simp <;> with_reducible rfl))
                          try simp only [Act.put, List.setIfInBounds_toArray, List.set_cons_zero, List.set_cons_succ]
                          refine late_take (i := 2) (oi := { dst := some 188, op := Go.Op.nilCheck (Go.Operand.tmp 187), type := 0, pos := "law.go:249", after := #[⟨1, .data⟩], guard := none }) (v := ?vm3) rfl (by kernel_rfl) (by kernel_rfl) (by kernel_rfl) (by kernel_rfl) (by kernel_rfl) (fun _ _ _ h => h) (Or.inl ⟨by rfl, ?rm3⟩) (by assumption) ?_
                          case rm3 => (intro w hSw; (try dsimp only at hSw); (go_simp <;> with_reducible rfl))
                          try simp only [Act.put, List.setIfInBounds_toArray, List.set_cons_zero, List.set_cons_succ]
                          refine late_take (i := 3) (oi := { dst := some 189, op := Go.Op.load 37 (Go.Operand.tmp 188), type := 37, pos := "law.go:249", after := #[⟨2, .data⟩], guard := none }) (v := ?vm4) rfl (by kernel_rfl) (by kernel_rfl) (by kernel_rfl) (by kernel_rfl) (by kernel_rfl) (fun _ _ _ h => h) (Or.inl ⟨by rfl, ?rm4⟩) (by assumption) ?_
                          case rm4 => (intro w hSw; (try dsimp only at hSw); (go_simp <;> with_reducible rfl))
                          try simp only [Act.put, List.setIfInBounds_toArray, List.set_cons_zero, List.set_cons_succ]
                          refine late_take (i := 4) (oi := { dst := some 190, op := Go.Op.move (Go.Operand.tmp 17), type := 52, pos := "law.go:249", after := #[], guard := none }) (v := ?vm5) rfl (by kernel_rfl) (by kernel_rfl) (by kernel_rfl) (by kernel_rfl) (by kernel_rfl) (fun _ _ _ h => h) (Or.inl ⟨by rfl, ?rm5⟩) (by assumption) ?_
                          case rm5 => (intro w hSw; (try dsimp only at hSw); (go_simp <;> with_reducible rfl))
                          try simp only [Act.put, List.setIfInBounds_toArray, List.set_cons_zero, List.set_cons_succ]
                          refine late_take (i := 5) (oi := { dst := some 191, op := Go.Op.nilCheck (Go.Operand.tmp 190), type := 0, pos := "law.go:249", after := #[⟨4, .data⟩], guard := none }) (v := ?vm6) rfl (by kernel_rfl) (by kernel_rfl) (by kernel_rfl) (by kernel_rfl) (by kernel_rfl) (fun _ _ _ h => h) (Or.inl ⟨by rfl, ?rm6⟩) (by assumption) ?_
                          case rm6 => (intro w hSw; (try dsimp only at hSw); (go_simp <;> with_reducible rfl))
                          try simp only [Act.put, List.setIfInBounds_toArray, List.set_cons_zero, List.set_cons_succ]
                          refine late_take (i := 6) (oi := { dst := some 192, op := Go.Op.load 37 (Go.Operand.tmp 191), type := 37, pos := "law.go:249", after := #[⟨5, .data⟩], guard := none }) (v := ?vm7) rfl (by kernel_rfl) (by kernel_rfl) (by kernel_rfl) (by kernel_rfl) (by kernel_rfl) (fun _ _ _ h => h) (Or.inl ⟨by rfl, ?rm7⟩) (by assumption) ?_
                          case rm7 => (intro w hSw; (try dsimp only at hSw); (go_simp <;> with_reducible rfl))
                          try simp only [Act.put, List.setIfInBounds_toArray, List.set_cons_zero, List.set_cons_succ]
                          refine late_take (i := 7) (oi := { dst := some 193, op := Go.Op.move (Go.Operand.tmp 16), type := 3, pos := "law.go:249", after := #[], guard := none }) (v := ?vm8) rfl (by kernel_rfl) (by kernel_rfl) (by kernel_rfl) (by kernel_rfl) (by kernel_rfl) (fun _ _ _ h => h) (Or.inl ⟨by rfl, ?rm8⟩) (by assumption) ?_
                          case rm8 => (intro w hSw; (try dsimp only at hSw); (go_simp <;> with_reducible rfl))
                          try simp only [Act.put, List.setIfInBounds_toArray, List.set_cons_zero, List.set_cons_succ]
                          refine late_take (i := 8) (oi := { dst := some 194, op := Go.Op.indexAddr 37 (Go.Operand.tmp 192) (Go.Operand.tmp 193), type := 0, pos := "law.go:249", after := #[⟨6, .data⟩, ⟨7, .data⟩], guard := none }) (v := ?vm9) rfl (by kernel_rfl) (by kernel_rfl) (by kernel_rfl) (by kernel_rfl) (by kernel_rfl) (fun _ _ _ h => h) (Or.inl ⟨by rfl, ?rm9⟩) (by assumption) ?_
                          case rm9 => (intro w hSw; (try dsimp only at hSw); (go_simp <;> with_reducible rfl))
                          try simp only [Act.put, List.setIfInBounds_toArray, List.set_cons_zero, List.set_cons_succ]
                          refine late_take (i := 9) (oi := { dst := some 195, op := Go.Op.load 42 (Go.Operand.tmp 194), type := 42, pos := "law.go:249", after := #[⟨8, .data⟩], guard := none }) (v := ?vm10) rfl (by kernel_rfl) (by kernel_rfl) (by kernel_rfl) (by kernel_rfl) (by kernel_rfl) (fun _ _ _ h => h) (Or.inl ⟨by rfl, ?rm10⟩) (by assumption) ?_
                          case rm10 => (intro w hSw; (try dsimp only at hSw); (go_simp <;> with_reducible rfl))
                          try simp only [Act.put, List.setIfInBounds_toArray, List.set_cons_zero, List.set_cons_succ]
                          refine late_ready (rs := [10]) (by kernel_rfl) (by simp) ?_
                          refine LateAll.cons (o := { dst := some 196, op := Go.Op.buildSlice 37 1 #[(0, Go.Operand.tmp 195)], type := 37, pos := "law.go:249", after := #[⟨9, .data⟩], guard := none }) rfl (fun K hK => ?_) LateAll.nil
                          go_simp
                          skip
                          first | refine hK.out _ _ ?sm11 (fun h11 => ?_) | (go_wp2_with fail; refine hK.out _ _ ?sm11 (fun h11 => ?_))
                          case sm11 => ((try dsimp only); (first | exact ⟨QC.out.cell (i := 0) rfl, X0, X1, X2, X3⟩ | exact ⟨((Gr.refl _).alloc _).cell h0.1, ((Gr.refl _).alloc _).cell h0.2.1, ((Gr.refl _).alloc _).cell h0.2.2.1, ((Gr.refl _).alloc _).cell h0.2.2.2.1, ((Gr.refl _).alloc _).cell h0.2.2.2.2⟩))
                          clear hK K h0
                          try simp only [Act.put, List.setIfInBounds_toArray, List.set_cons_zero, List.set_cons_succ]
                          refine late_ready (rs := [11]) (by kernel_rfl) (by simp) ?_
                          refine LateAll.cons (o := { dst := some 197, op := Go.Op.call { callee := Go.Callee.builtin Go.Builtin.append, args := #[Go.Operand.tmp 189, Go.Operand.tmp 196], argTypes := #[37, 37] }, type := 37, pos := "law.go:249", after := #[⟨3, .data⟩, ⟨10, .data⟩], guard := none }) rfl (fun K hK => ?_) LateAll.nil
                          refine step_add22 (wc.alloc (.cells #[.int .i64 y.ses, .string y.txt, .bool y.ex, .int .u64 y.tok] 42)).drew (by rfl) (.tmp 189) (.tmp 196) (by rfl) W0.heap.size Y g c1 hrow (by omega) (by omega) (by rfl) wc.heap.size y (by rfl) (heap_alloc_new wc _) ?_
                          intro v7 w7 hr7 hl7 hg7 hb7
                          obtain ⟨a7, c7, hv7⟩ := hr7.slice
                          obtain ⟨m7, hm7⟩ : ∃ m, List.length (Y ++ [y]) = m := ⟨_, rfl⟩
                          rw [hm7] at hv7
                          subst hv7
                          clear hm7
                          have HR7 := Lib.hid hr7
                          have HG7 := Lib.hid hg7
                          have HB7 := Lib.hid hb7
                          have QC := Lib.hid (HTA.out.c1.keptB (v := .slice (some ⟨g, 0, none⟩) Y.length c1) hg7 (fun e => (HTA.out.off.1 _ e).1 rfl))
                          obtain ⟨g', c', hv', X0, X1, X2, X3⟩ := hl7.at kY hkY
                          simp only [Value.slice.injEq, Option.some.injEq, Addr.mk.injEq, and_true, true_and] at hv'
                          obtain ⟨rfl, rfl⟩ := hv'
                          rw [HYY.out] at X0 X1 X2 X3
                          clear hr7 hl7 hg7 hb7
                          first | refine hK.out _ _ ?sm12 (fun h12 => ?_) | (go_wp2_with fail; refine hK.out _ _ ?sm12 (fun h12 => ?_))
                          case sm12 => ((try dsimp only); (first | exact ⟨QC.out.cell (i := 0) rfl, X0, X1, X2, X3⟩ | exact ⟨((Gr.refl _).alloc _).cell h11.1, ((Gr.refl _).alloc _).cell h11.2.1, ((Gr.refl _).alloc _).cell h11.2.2.1, ((Gr.refl _).alloc _).cell h11.2.2.2.1, ((Gr.refl _).alloc _).cell h11.2.2.2.2⟩))
                          clear hK K h11
                          try simp only [Act.put, List.setIfInBounds_toArray, List.set_cons_zero, List.set_cons_succ]
                          refine late_take (i := 12) (oi := { dst := some 198, op := Go.Op.nilCheck (Go.Operand.tmp 186), type := 0, pos := "law.go:249", after := #[⟨0, .data⟩, ⟨0, .phase⟩, ⟨1, .phase⟩, ⟨2, .phase⟩, ⟨3, .phase⟩, ⟨4, .phase⟩, ⟨5, .phase⟩, ⟨6, .phase⟩, ⟨7, .phase⟩, ⟨8, .phase⟩, ⟨9, .phase⟩, ⟨10, .phase⟩, ⟨11, .phase⟩], guard := none }) (v := ?vm13) rfl (by kernel_rfl) (by kernel_rfl) (by kernel_rfl) (by kernel_rfl) (by kernel_rfl) (fun _ _ _ h => h) (Or.inl ⟨by rfl, ?rm13⟩) (by assumption) ?_
                          case rm13 => (intro w hSw; (try dsimp only at hSw); (go_simp <;> with_reducible rfl))
                          try simp only [Act.put, List.setIfInBounds_toArray, List.set_cons_zero, List.set_cons_succ]
                          have U0 := QC.out.cell (i := 0) rfl
                          have UF := QC.out.free 0
                          refine late_go (by kernel_rfl) ?_
                          refine any_one (i := 13) (o := { dst := none, op := Go.Op.store 37 (Go.Operand.tmp 198) (Go.Operand.tmp 197), type := 0, pos := "law.go:249", after := #[⟨12, .data⟩, ⟨11, .data⟩, ⟨11, .chain⟩, ⟨0, .phase⟩, ⟨1, .phase⟩, ⟨2, .phase⟩, ⟨3, .phase⟩, ⟨4, .phase⟩, ⟨5, .phase⟩, ⟨6, .phase⟩, ⟨7, .phase⟩, ⟨8, .phase⟩, ⟨9, .phase⟩, ⟨10, .phase⟩, ⟨11, .phase⟩], guard := none }) (by kernel_rfl) rfl (fun K hK => ?_)
                          go_simp
                          refine hK.out _ _ ?_
                          clear hK K
                          try simp only [Act.put, List.setIfInBounds_toArray, List.set_cons_zero, List.set_cons_succ]
                          refine any_done (by kernel_rfl) ?_
                          go_wp2_with fail
                          go_meet
                          exact ⟨_, rfl, Lib.hid ((HTA.out.stored HG7.out HR7.out (fun q hq => by rcases HB7.out q hq with e | e; exact e ▸ (HTA.out.off.1 g rfl).1; have := HTA.out.c1.lt; omega) (fun x hx => by rcases List.mem_append.1 hx with hx | hx; exact HTA.out.p1 x hx; rw [List.mem_singleton.1 hx]; exact QPY.out) (by simp)).side HSD.out)⟩
                      · have e5 : (q == 5) = false := by simpa using h5
                        clear h5
                        by_cases h6 : q = 6
                        · have e6 : (q == 6) = true := by simpa using h6
                          clear h6
                          go_wp2
                          go_meet
                          exact ⟨_, rfl, Lib.hid (HT.out.bent.side HSD.out)⟩
                        · have e6 : (q == 6) = false := by simpa using h6
                          clear h6
                          go_wp2
                          go_meet
                          exact ⟨_, rfl, Lib.hid (HT.out.bent.side HSD.out)⟩
        case rest =>
          clear z1 HT HZ HSD hkY
          obtain ⟨t, rfl, HB⟩ := hcut
          as_aux_lemma =>
            obtain ⟨v1, v2, L1, M1, hg, hb1, hb2, hr1, hr2, hp1, hp2, hlm⟩ := HB.out
            clear HB
            obtain ⟨a1, c1, rfl⟩ := hr1.slice
            obtain ⟨a2, c2, rfl⟩ := hr2.slice
            have q1 := hb1.cell (i := 0) rfl
            have q2 := hb2.cell (i := 0) rfl
            have HB1 := Lib.hid hb1
            have HB2 := Lib.hid hb2
            have HG := Lib.hid hg
            have HLD := Lib.hid (load_any L1 M1 t wc hr1 hr2 (by omega) hp1 hp2 (HM.out.gr hg))
            have HP1 := Lib.hid hp1
            have HP2 := Lib.hid hp2
            clear hr1 hr2 hp1 hp2 hg hb1 hb2
            go_wp2_with fail
            refine HLD.out.mono ?_
            rintro e wl hld
            clear HLD
            rcases hld with ⟨hOH, hOW, d, u1, u2, rfl, hd, hkd⟩ | ⟨_, rfl, hgl⟩
            · have HOH := Lib.hid hOH
              have HOW := Lib.hid hOW
              have HKD := Lib.hid hkd
              clear hOH hOW hd hkd q1 q2
              go_wp2_with fail
              refine (last_any wl HKD.out).mono ?_
              rintro e wm ⟨rfl, hgm⟩
              have HKM := Lib.hid (HKD.out.gr hgm)
              clear hgm HKD
              go_upto_region 44 with fail
              go_wp2_with fail
              refine (held_any wm HKM.out (by show L1.length ≤ 1000; omega)).mono ?_
              rintro e w7 ⟨vh, rfl, hrh, hg7⟩
              have HK7 := Lib.hid (HKM.out.gr hg7)
              go_wp2_with fail
              refine (waits_any w7 HK7.out (by show M1.length ≤ 1000; omega)).mono ?_
              rintro e w8 ⟨vw, rfl, hrw, hg8⟩
              have HK8 := Lib.hid (HK7.out.gr hg8)
              have HVH : Hid (w8.ownsRow wm.heap.size 42 4 vh L1.length (rcells encLok L1)) := Lib.hid (ownsRow_gr hg8 hrh)
              have HVW : Hid (w8.ownsRow w7.heap.size 42 4 vw M1.length (rcells encLok M1)) := Lib.hid hrw
              obtain ⟨ah, ch, rfl, hsh⟩ := ownsRow_slice HVH.out
              obtain ⟨aw, cw, rfl, hsw⟩ := ownsRow_slice HVW.out
              have HSH := Lib.hid hsh
              have HSW := Lib.hid hsw
              clear hrh hrw hg7 hg8 hsh hsw HKM HK7
              go_wp2_with fail
              go_loopw [232] (fun i wr => ∃ m : Nat, m ≤ L1.length ∧ i = .int .i64 m ∧ Hid (Gr w8 wr)) (fun i _ => L1.length - (intOf i).toNat)
              case atStart => exact ⟨0, by omega, rfl, Lib.hid (Gr.refl _)⟩
              case round =>
                obtain ⟨m, hm, rfl, hV⟩ := hrel
                by_cases hml : m < L1.length
                · have hwm : IntKind.i64.wrap ((m : Int) + 1) = (m : Int) + 1 := IntWalk.i64_in _ (by omega)
                  have HCAP := Lib.hid (fun g c (e : Value.slice ah L1.length ch = .slice (some ⟨g, 0, none⟩) L1.length c) => show L1.length ≤ ch from by have h9 := HVH.out; simp only [Value.slice.injEq] at e; obtain ⟨rfl, _, _⟩ := e; exact row_cap h9)
                  obtain ⟨g, capy, hvy, d0, d1, d2, d3⟩ := lokrow_at (ownsRow_gr (hV.out) HVH.out) m hml
                  simp only [Value.slice.injEq] at hvy
                  obtain ⟨rfl, hnn, rfl⟩ := hvy
                  clear hnn
                  have HOK := Lib.hid (ok_held HOH.out m hml)
                  have HQY := Lib.hid (HP1.out _ (List.getElem_mem hml))
                  have hcp := HCAP.out _ _ rfl
                  clear HCAP
                  have HXB := Lib.hid (Blk.new wr #[.int .i64 L1[m].ses, .string L1[m].txt, .bool L1[m].ex, .int .u64 L1[m].tok] 42)
                  have HGX := Lib.hid (hV.out.alloc (.cells #[.int .i64 L1[m].ses, .string L1[m].txt, .bool L1[m].ex, .int .u64 L1[m].tok] 42))
                  generalize L1[m] = y at *
                  go_upto_region 48 with fail
                  generalize wr.alloc (.cells #[.int .i64 y.ses, .string y.txt, .bool y.ex, .int .u64 y.tok] 42) = wx at *
                  generalize wr.heap.size = cx at *
                  clear d0 d1 d2 d3
                  have hmc : m ≤ ch := by omega
                  have x0 := HXB.out.cell (i := 0) rfl
                  have x3 := HXB.out.cell (i := 3) rfl
                  have k1 := HOK.out.1
                  have k2 := HOK.out.2.1
                  have k3 := HOK.out.2.2.1
                  go_upto_region 50 with fail
                  clear x0 x3 k1 k2 k3
                  go_wp2_with fail
                  go_loopw [255] (fun i wr => ∃ j : Nat, j ≤ m ∧ i = .int .i64 j ∧ Hid (Gr wx wr)) (fun i _ => m - (intOf i).toNat)
                  case atStart => exact ⟨0, by omega, rfl, Lib.hid (Gr.refl _)⟩
                  case round =>
                    obtain ⟨j, hj, rfl, hU⟩ := hrel
                    by_cases hjm : j < m
                    · have hjl : j < L1.length := by omega
                      obtain ⟨g3, capz, hvz, d0, d1, d2, d3⟩ := lokrow_at (ownsRow_gr (HGX.out.trans hU.out) HVH.out) j hjl
                      simp only [Value.slice.injEq] at hvz
                      obtain ⟨hgg, hnn, hcc⟩ := hvz
                      obtain rfl : g = g3 := by simpa using hgg
                      clear hgg hcc
                      clear hnn
                      have HCJ := Lib.hid (HOK.out.2.2.2 j hjm)
                      have hpz := HP1.out _ (List.getElem_mem hjl)
                      have HYB := Lib.hid (Blk.new wr #[.int .i64 L1[j].ses, .string L1[j].txt, .bool L1[j].ex, .int .u64 L1[j].tok] 42)
                      have HGY := Lib.hid (hU.out.alloc (.cells #[.int .i64 L1[j].ses, .string L1[j].txt, .bool L1[j].ex, .int .u64 L1[j].tok] 42))
                      generalize L1[j] = z at *
                      go_upto_region 53 with fail
                      generalize wr.alloc (.cells #[.int .i64 z.ses, .string z.txt, .bool z.ex, .int .u64 z.tok] 42) = wy at *
                      generalize wr.heap.size = cy at *
                      clear d0 d1 d2 d3
                      have x0 := (HXB.out.gr (HGY.out)).cell (i := 0) rfl
                      have x1 := (HXB.out.gr (HGY.out)).cell (i := 1) rfl
                      have x2 := (HXB.out.gr (HGY.out)).cell (i := 2) rfl
                      have x3 := (HXB.out.gr (HGY.out)).cell (i := 3) rfl
                      have y0 := HYB.out.cell (i := 0) rfl
                      have y1 := HYB.out.cell (i := 1) rfl
                      have y2 := HYB.out.cell (i := 2) rfl
                      have y3 := HYB.out.cell (i := 3) rfl
                      have HCL := Lib.hid (clash_any y z wy HQY.out hpz)
                      rw [HCJ.out.1] at HCL
                      have k5 := HCJ.out.2
                      clear hpz
                      go_wp2_with fail
                      refine HCL.out.mono ?_
                      rintro e wz ⟨rfl, hgz⟩
                      have HGZ := Lib.hid (HGY.out.trans hgz)
                      clear x0 x1 x2 x3 y0 y1 y2 y3
                      have x3 := (HXB.out.gr HGZ.out).cell (i := 3) rfl
                      have y3 := (HYB.out.gr hgz).cell (i := 3) rfl
                      clear hgz HCL
                      go_wp2
                      exact ⟨⟨j + 1, hjm, by simp, HGZ⟩, by simp [intOf]; omega⟩
                    · obtain rfl : j = m := by omega
                      have HGU := Lib.hid (HGX.out.trans hU.out)
                      clear hU
                      go_wp2
                      exact ⟨⟨j + 1, hml, by simp, HGU⟩, by simp [intOf]; omega⟩
                · obtain rfl : m = L1.length := by omega
                  have GA := hV
                  clear hV
                  go_wp2_with fail
                  go_loopw [273] (fun i wr => ∃ m : Nat, m ≤ M1.length ∧ i = .int .i64 m ∧ Hid (Gr w8 wr)) (fun i _ => M1.length - (intOf i).toNat)
                  case atStart => exact ⟨0, by omega, rfl, GA⟩
                  case round =>
                    clear GA
                    obtain ⟨m, hm, rfl, hV⟩ := hrel
                    by_cases hml : m < M1.length
                    · have hwm : IntKind.i64.wrap ((m : Int) + 1) = (m : Int) + 1 := IntWalk.i64_in _ (by omega)
                      have HCAP := Lib.hid (fun g c (e : Value.slice aw M1.length cw = .slice (some ⟨g, 0, none⟩) M1.length c) => show M1.length ≤ cw from by have h9 := HVW.out; simp only [Value.slice.injEq] at e; obtain ⟨rfl, _, _⟩ := e; exact row_cap h9)
                      obtain ⟨g, capy, hvy, d0, d1, d2, d3⟩ := lokrow_at (ownsRow_gr (hV.out) HVW.out) m hml
                      simp only [Value.slice.injEq] at hvy
                      obtain ⟨rfl, hnn, rfl⟩ := hvy
                      clear hnn
                      have HOK := Lib.hid (ok_waits HOW.out m hml)
                      have HQY := Lib.hid (HP2.out _ (List.getElem_mem hml))
                      have hcp := HCAP.out _ _ rfl
                      clear HCAP
                      have HSX : Hid (∀ j u, (rcells encLok (M1.take m))[j]? = some u → w8.cell? ⟨g, j, none⟩ = some u) := Lib.hid (cells_take HVW.out m hm)
                      have HXB := Lib.hid (Blk.new wr #[.int .i64 M1[m].ses, .string M1[m].txt, .bool M1[m].ex, .int .u64 M1[m].tok] 42)
                      have HGX := Lib.hid (hV.out.alloc (.cells #[.int .i64 M1[m].ses, .string M1[m].txt, .bool M1[m].ex, .int .u64 M1[m].tok] 42))
                      generalize M1[m] = y at *
                      go_upto_region 60 with fail
                      generalize wr.alloc (.cells #[.int .i64 y.ses, .string y.txt, .bool y.ex, .int .u64 y.tok] 42) = wx at *
                      generalize wr.heap.size = cx at *
                      clear d0 d1 d2 d3
                      have hmc : m ≤ cw := by omega
                      have x3 := HXB.out.cell (i := 3) rfl
                      have k1 := HOK.out.1
                      go_upto_region 61 with fail
                      clear x3 k1
                      obtain ⟨i0, hi, hz0, hz1, hz2⟩ : ∃ i0 : TypeInfo, Tryz.prog.info? 42 = some i0 ∧ i0.zero = some (.agg #[.int .i64 0, .string ⟨#[]⟩, .bool false, .int .u64 0]) ∧ i0.size = 4 ∧ i0.bytes = 40 := ⟨_, rfl, rfl, rfl, rfl⟩
                      have Hm1 := Lib.hid (World.ownsRow_made (base := wx.heap.size) (e := 42) (size := 4) wx.drew #[] 0 (Nat.le_refl _) (by unfold maxLen; omega) rfl)
                      simp at Hm1
                      go_wp2_with fail
                      refine wp_region_held_drew (S := (fun w9 => Gr wx w9)) (by kernel_rfl) ?invr6 (fun h0 => ?_)
                      case invr6 => ((try dsimp only); (exact (Gr.refl _).drew))
                      refine wpAnyH_take (i := 1) (oi := { dst := some 282, op := Go.Op.move (Go.Operand.tmp 20), type := 37, pos := "law.go:273", after := #[], guard := none }) (v := ?vr61) rfl (by kernel_rfl) (by kernel_rfl) (by kernel_rfl) (fun _ _ _ h => h) (Or.inl ⟨by rfl, ?rr61⟩) (by assumption) ?_
                      case rr61 => (intro w hSw; (try dsimp only at hSw); (go_simp <;> with_reducible rfl))
                      try simp only [Act.put, List.setIfInBounds_toArray, List.set_cons_zero, List.set_cons_succ]
                      refine wpAnyH_take (i := 3) (oi := { dst := some 284, op := Go.Op.move (Go.Operand.tmp 21), type := 37, pos := "law.go:273", after := #[], guard := none }) (v := ?vr62) rfl (by kernel_rfl) (by kernel_rfl) (by kernel_rfl) (fun _ _ _ h => h) (Or.inl ⟨by rfl, ?rr62⟩) (by assumption) ?_
                      case rr62 => (intro w hSw; (try dsimp only at hSw); (go_simp <;> with_reducible rfl))
                      try simp only [Act.put, List.setIfInBounds_toArray, List.set_cons_zero, List.set_cons_succ]
                      refine wpAnyH_take (i := 4) (oi := { dst := some 285, op := Go.Op.move (Go.Operand.tmp 26), type := 3, pos := "law.go:273", after := #[], guard := none }) (v := ?vr63) rfl (by kernel_rfl) (by kernel_rfl) (by kernel_rfl) (fun _ _ _ h => h) (Or.inl ⟨by rfl, ?rr63⟩) (by assumption) ?_
                      case rr63 => (intro w hSw; (try dsimp only at hSw); (go_simp <;> with_reducible rfl))
                      try simp only [Act.put, List.setIfInBounds_toArray, List.set_cons_zero, List.set_cons_succ]
                      refine wpAnyH_take (i := 5) (oi := { dst := some 286, op := Go.Op.slice 37 (Go.Operand.tmp 284) none (some (Go.Operand.tmp 285)) none, type := 37, pos := "law.go:273", after := #[⟨3, .data⟩, ⟨4, .data⟩], guard := none }) (v := ?vr64) rfl (by kernel_rfl) (by kernel_rfl) (by kernel_rfl) (fun _ _ _ h => h) (Or.inl ⟨by rfl, ?rr64⟩) (by assumption) ?_
                      case rr64 => (intro w hSw; (try dsimp only at hSw); (go_simp <;> with_reducible rfl))
                      try simp only [Act.put, List.setIfInBounds_toArray, List.set_cons_zero, List.set_cons_succ]
                      refine wpAnyH_take (i := 8) (oi := { dst := some 289, op := Go.Op.move (Go.Operand.const (Go.Value.int Go.IntKind.i64 0)), type := 3, pos := "law.go:273", after := #[], guard := none }) (v := ?vr65) rfl (by kernel_rfl) (by kernel_rfl) (by kernel_rfl) (fun _ _ _ h => h) (Or.inl ⟨by rfl, ?rr65⟩) (by assumption) ?_
                      case rr65 => (intro w hSw; (try dsimp only at hSw); (go_simp <;> with_reducible rfl))
                      try simp only [Act.put, List.setIfInBounds_toArray, List.set_cons_zero, List.set_cons_succ]
                      refine wpAnyH_ready (rs := [0]) (by kernel_rfl) (by simp) ?_
                      refine AllReadyH.cons (o := { dst := some 281, op := Go.Op.buildSlice 37 0 #[], type := 37, pos := "law.go:273", after := #[], guard := none }) rfl (fun K hK => ?_) AllReadyH.nil
                      go_simp
                      skip
                      first | refine hK.out _ _ ?sr66 (fun h6 => ?_) | (go_wp2_with fail; refine hK.out _ _ ?sr66 (fun h6 => ?_))
                      case sr66 => ((try dsimp only); (first | exact HG7.out | exact HG5.out | exact (h0.alloc _) | exact h0))
                      clear hK K h0
                      try simp only [Act.put, List.setIfInBounds_toArray, List.set_cons_zero, List.set_cons_succ]
                      refine wpAnyH_ready (rs := [2]) (by kernel_rfl) (by simp) ?_
                      refine AllReadyH.cons (o := { dst := some 283, op := Go.Op.call { callee := Go.Callee.builtin Go.Builtin.append, args := #[Go.Operand.tmp 281, Go.Operand.tmp 282], argTypes := #[37, 37] }, type := 37, pos := "law.go:273", after := #[⟨0, .data⟩, ⟨1, .data⟩], guard := none }) rfl (fun K hK => ?_) AllReadyH.nil
                      refine step_append_row _ (by rfl) (.tmp 281) (.tmp 282) 37 (by rfl) wx.heap.size 42 i0 (.agg #[.int .i64 0, .string ⟨#[]⟩, .bool false, .int .u64 0]) 4 40 Tryz.underlying37 hi hz0 hz1 hz2 rfl (by decide) wx.heap.size (by rfl) (Hm1.out) ah L1.length ch (rcells encLok L1) (by rfl) (rcells_len encLok_len L1) (by rcases HSH.out with q9 | ⟨g9, q1, _, q2⟩; exact .inl q9; exact .inr ⟨g9, q1, fun j u hj => h6.cell (HGX.out.cell (q2 j u hj))⟩) (rcells_one encLok_one L1) (by unfold maxLen; omega) (by omega) h6.size _ rfl ?_
                      intro g5 cap5 w5 hown5 hgrow5 hat5 hlt5
                      have HG5 := Lib.hid (h6.append (Hm1.out) hgrow5)
                      first | refine hK.out _ _ ?sr67 (fun h7 => ?_) | (go_wp2_with fail; refine hK.out _ _ ?sr67 (fun h7 => ?_))
                      case sr67 => ((try dsimp only); (first | exact HG7.out | exact HG5.out | exact (h6.alloc _) | exact h6))
                      clear hK K h6
                      try simp only [Act.put, List.setIfInBounds_toArray, List.set_cons_zero, List.set_cons_succ]
                      refine wpAnyH_ready (rs := [6]) (by kernel_rfl) (by simp) ?_
                      refine AllReadyH.cons (o := { dst := some 287, op := Go.Op.call { callee := Go.Callee.builtin Go.Builtin.append, args := #[Go.Operand.tmp 283, Go.Operand.tmp 286], argTypes := #[37, 37] }, type := 37, pos := "law.go:273", after := #[⟨2, .data⟩, ⟨5, .data⟩, ⟨2, .chain⟩], guard := none }) rfl (fun K hK => ?_) AllReadyH.nil
                      refine step_append_onto _ (by rfl) (.tmp 283) (.tmp 286) 37 (by rfl) wx.heap.size 42 i0 (.agg #[.int .i64 0, .string ⟨#[]⟩, .bool false, .int .u64 0]) 4 40 Tryz.underlying37 hi hz0 hz1 hz2 rfl (by decide) g5 L1.length cap5 (rcells encLok L1) (by rfl) (hown5) (some ⟨g, 0, none⟩) m cw (rcells encLok (M1.take m)) (by rfl) (by rw [rcells_len encLok_len, List.length_take]; omega) (.inr ⟨g, rfl, fun j u hj => h7.cell (HGX.out.cell (HSX.out j u hj))⟩) (rcells_one encLok_one _) (by unfold maxLen; omega) (by omega) h7.size _ rfl ?_
                      intro g7 cap7 w7a hown7 hgrow7 hat7 hlt7
                      have HG7 := Lib.hid (h7.append (hown5) hgrow7)
                      first | refine hK.out _ _ ?sr68 (fun h8 => ?_) | (go_wp2_with fail; refine hK.out _ _ ?sr68 (fun h8 => ?_))
                      case sr68 => ((try dsimp only); (first | exact HG7.out | exact HG5.out | exact (h7.alloc _) | exact h7))
                      clear hK K h7
                      try simp only [Act.put, List.setIfInBounds_toArray, List.set_cons_zero, List.set_cons_succ]
                      refine wpAnyH_take (i := 7) (oi := { dst := some 288, op := Go.Op.call { callee := Go.Callee.builtin Go.Builtin.len, args := #[Go.Operand.tmp 287], argTypes := #[37] }, type := 3, pos := "law.go:273", after := #[⟨6, .data⟩], guard := none }) (v := ?vr69) rfl (by kernel_rfl) (by kernel_rfl) (by kernel_rfl) (fun _ _ _ h => h) (Or.inl ⟨by rfl, ?rr69⟩) (by assumption) ?_
                      case rr69 => (intro w hSw; (try dsimp only at hSw); (go_simp <;> with_reducible rfl))
                      try simp only [Act.put, List.setIfInBounds_toArray, List.set_cons_zero, List.set_cons_succ]
                      refine wpAnyH_done (by kernel_rfl) ?_ _
                      clear hgrow7 hat7 hlt7 hown5 hgrow5 hat5 hlt5 HG5 Hm1
                      have HLR := Lib.hid hown7
                      clear hown7
                      obtain ⟨N, hN⟩ : ∃ l, L1 ++ M1.take m = l := ⟨_, rfl⟩
                      have HLN := Lib.hid (show N.length = L1.length + m by rw [← hN, List.length_append, List.length_take]; omega)
                      have HROW : Hid (w7a.ownsRow wx.heap.size 42 4 (.slice (some ⟨g7, 0, none⟩) N.length cap7) N.length (rcells encLok N)) := Lib.hid (by rw [HLN.out, ← hN, rcells_append]; exact HLR.out)
                      have HPN : Hid (∀ q ∈ N, IsPath q.txt) := Lib.hid (fun q hq => by
                        rw [← hN] at hq
                        rcases List.mem_append.1 hq with hq | hq
                        · exact HP1.out q hq
                        · exact HP2.out q (List.mem_of_mem_take hq))
                      rw [hN] at HOK
                      have hlz : (L1.length : Int) + (m : Int) = (N.length : Int) := by have := HLN.out; omega
                      have hln2 : N.length ≤ 200 := by have := HLN.out; omega
                      rw [← HLN.out, hlz]
                      clear hlz hN HLR
                      go_wp2_with fail
                      go_loopw [28, 289] (fun fr i wr => ∃ j : Nat, j ≤ N.length ∧ i = .int .i64 j ∧ fr = .bool (!(N.take j).any (cflB y)) ∧ Hid (Gr w7a wr)) (fun _ i _ => N.length - (intOf i).toNat)
                      case atStart => exact ⟨0, by omega, rfl, by simp, Lib.hid (Gr.refl _)⟩
                      case round =>
                        obtain ⟨j, hj, rfl, rfl, hU⟩ := hrel
                        by_cases hjl : j < N.length
                        · skip
                          obtain ⟨g3, capz, hvz, d0, d1, d2, d3⟩ := lokrow_at (ownsRow_gr (hU.out) HROW.out) j hjl
                          simp only [Value.slice.injEq] at hvz
                          obtain ⟨hgg, hnn, hcc⟩ := hvz
                          obtain rfl : g7 = g3 := by simpa using hgg
                          clear hgg hcc
                          clear hnn
                          have HSN := Lib.hid (any_snoc (cflB y) N j hjl)
                          have hpz := HPN.out _ (List.getElem_mem hjl)
                          have HYB := Lib.hid (Blk.new wr #[.int .i64 N[j].ses, .string N[j].txt, .bool N[j].ex, .int .u64 N[j].tok] 42)
                          have HGY := Lib.hid (hU.out.alloc (.cells #[.int .i64 N[j].ses, .string N[j].txt, .bool N[j].ex, .int .u64 N[j].tok] 42))
                          generalize N[j] = z at *
                          go_upto_region 64 with fail
                          generalize wr.alloc (.cells #[.int .i64 z.ses, .string z.txt, .bool z.ex, .int .u64 z.tok] 42) = wy at *
                          generalize wr.heap.size = cy at *
                          clear d0 d1 d2 d3
                          have x0 := (HXB.out.gr (HG7.out.trans HGY.out)).cell (i := 0) rfl
                          have x1 := (HXB.out.gr (HG7.out.trans HGY.out)).cell (i := 1) rfl
                          have x2 := (HXB.out.gr (HG7.out.trans HGY.out)).cell (i := 2) rfl
                          have x3 := (HXB.out.gr (HG7.out.trans HGY.out)).cell (i := 3) rfl
                          have y0 := HYB.out.cell (i := 0) rfl
                          have y1 := HYB.out.cell (i := 1) rfl
                          have y2 := HYB.out.cell (i := 2) rfl
                          have y3 := HYB.out.cell (i := 3) rfl
                          cases hq : (N.take j).any (cflB y)
                          · rw [hq, Bool.false_or] at HSN
                            clear hq
                            have HCL := Lib.hid (clash_any y z wy HQY.out hpz)
                            go_wp2_with fail
                            refine HCL.out.mono ?_
                            rintro e wz ⟨rfl, hgz⟩
                            have HGZ := Lib.hid (HGY.out.trans hgz)
                            clear hgz HCL hpz x0 x1 x2 x3 y0 y1 y2 y3
                            go_wp2
                            exact ⟨⟨j + 1, hjl, by simp, (by rw [HSN.out]; try rfl), HGZ⟩, by simp [intOf]; omega⟩
                          · rw [hq, Bool.true_or] at HSN
                            clear hq hpz x0 x1 x2 x3 y0 y1 y2 y3
                            go_wp2
                            exact ⟨⟨j + 1, hjl, by simp, (by rw [HSN.out]; try rfl), HGY⟩, by simp [intOf]; omega⟩
                        · obtain rfl : j = N.length := by omega
                          rw [List.take_length]
                          have HGE := Lib.hid (HGX.out.trans (HG7.out.trans hU.out))
                          clear hU
                          rcases HOK.out.2 with h9 | h9
                          · have k9 := h9
                            clear h9
                            cases N.any (cflB y)
                            · go_wp2
                              exact ⟨⟨m + 1, hml, by simp, HGE⟩, by simp [intOf]; omega⟩
                            · go_wp2
                              exact ⟨⟨m + 1, hml, by simp, HGE⟩, by simp [intOf]; omega⟩
                          · rw [h9]
                            clear h9
                            go_wp2
                            exact ⟨⟨m + 1, hml, by simp, HGE⟩, by simp [intOf]; omega⟩
                    · obtain rfl : m = M1.length := by omega
                      have HGE := Lib.hid (HK8.out.grown.trans hV.out)
                      have q1 := (HB1.out.gr HGE.out).cell (i := 0) rfl
                      have q2 := (HB2.out.gr HGE.out).cell (i := 0) rfl
                      clear hV
                      go_wp2
                      go_ret
                      exact ⟨rfl, HG.out.trans HGE.out⟩
            · clear q1 q2
              go_wp2
              go_ret
              exact ⟨rfl, HG.out.trans hgl⟩
end Go.Proofs.YtmgpnpmdmelnkaaGreatDoor
