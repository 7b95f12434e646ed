import Derived.Test.YtegapeplbincnaaDoorF09f
import Derived.Test.YtegapeplbincnaaDoorC20
import Derived.Test.YtegapeplbincnaaDoorC16
import Derived.WalkKit
import Derived.ProofKit
import Derived.LoopTactic
import Derived.Outline
import Derived.WalkSpells
import Derived.WalkLawsBesides
import Derived.Lib.Hide
import Derived.Deep.LoopGhost
import Derived.Deep.QuietTactic
import Derived.BigQuiet
import Derived.ShutString
import Derived.IntWalk
import Derived.Deep.RegionWith
import Derived.Deep.RegionHeld3
namespace Go.Proofs.YtegapeplbincnaaDoor
open Go.ChangeShapes Go.WideShapes Go.ChangeAt Go.RowKit
open Grids
set_option linter.unusedVariables false
set_option linter.unusedSimpArgs false
theorem kz_least {r p W z1 n1 z2 n2 : Nat} (R : Rgt r p W z1 n1 z2 n2) (f : Bool) (s : Nat) : (((least r p (kz f z1 z2) (kz f n1 n2) s : Nat) : Int) == 0) = isQ r p (kz f z1 z2) (kz f n1 n2) s := by
  obtain ⟨h1, h2, h3, h4⟩ := kz_in R f
  have hr := R.shp.hr
  have hp := R.shp.hp
  have := @least_zero r p (kz f z1 z2) (kz f n1 n2) s (by omega) h2 (by omega)
  cases hq : isQ r p (kz f z1 z2) (kz f n1 n2) s
  · rw [beq_eq_false_iff_ne]
    intro e
    have h5 := this.1 (by omega)
    rw [hq] at h5; cases h5
  · have h5 := this.2 hq
    rw [h5]; rfl
theorem add_lt {r p s m : Nat} (hs : s < 2 ^ (r * p)) (hm : m < r * p) : s ||| 2 ^ m < 2 ^ (r * p) := Nat.or_lt_two_pow hs (Nat.pow_lt_pow_right (by decide) hm)
set_option maxRecDepth 100000 in
set_option maxHeartbeats 8000000 in
theorem votesCounts_walk (R0 P0 : Int) (W0 : Nat) (a1 a2 a3 a4 : Int) (f : Bool) (l : List Int) (a : Option Addr) (cap : Nat) (w : World) (hW : W0 < 4294967296) (hl : Ints w a l) (hcap : l.length ≤ cap) (hT : TB w) :
    Calls Tryd.prog 4 #[.agg #[.int .i64 R0, .int .i64 P0, .int .u32 W0, .int .i64 a1, .int .i64 a2, .int .i64 a3, .int .i64 a4], .bool f, .slice a l.length cap] w fun e w' => e = .returned (.bool true) ∧ Gr w w' := by
  have RI := Lib.hid (fun w => right_any R0 P0 a1 a2 a3 a4 W0 w hW)
  have BE := Lib.hid (fun r p W z1 n1 z2 n2 w => begun_any r p W z1 n1 z2 n2 f w)
  have hLl := hl.1
  have HLi := Lib.hid hl
  have HT := Lib.hid hT
  clear hW hl hT hcap
  go_enter Tryd.func4, Tryd.ntmps4
  go_wp2_with fail
  refine (awake09_any _ (HT.out.gr ((Gr.refl w).alloc _))).mono ?_
  rintro e w1 ⟨rfl, hg1⟩
  have hz := (Gr.refl w).alloc (.cells #[.int .i64 R0, .int .i64 P0, .int .u32 W0, .int .i64 a1, .int .i64 a2, .int .i64 a3, .int .i64 a4] 32)
  have HG1 := Lib.hid (hz.trans hg1)
  have k0 := hg1.own.1 0 _ rfl
  have k1 := hg1.own.1 1 _ rfl
  have k2 := hg1.own.1 2 _ rfl
  have k3 := hg1.own.1 3 _ rfl
  have k4 := hg1.own.1 4 _ rfl
  have k5 := hg1.own.1 5 _ rfl
  have k6 := hg1.own.1 6 _ rfl
  have FZ := Lib.hid hg1.own.2.1
  clear hz hg1
  go_wp2_with fail
  refine (RI.out _).mono ?_
  rintro e w2 ⟨r, p, W, z1, n1, z2, n2, R, rfl, hg2⟩
  have FZ2 := Lib.hid (fun i => (hg2.frozen (o := i) (cell_lt k0)).trans (FZ.out i))
  replace k0 := hg2.cell k0
  replace k1 := hg2.cell k1
  replace k2 := hg2.cell k2
  replace k3 := hg2.cell k3
  replace k4 := hg2.cell k4
  replace k5 := hg2.cell k5
  replace k6 := hg2.cell k6
  have HG2 := Lib.hid (HG1.out.trans hg2)
  have HR := Lib.hid R
  clear hg2 R RI
  have f0 := FZ2.out 0
  have f1 := FZ2.out 1
  have f2 := FZ2.out 2
  have f3 := FZ2.out 3
  have f4 := FZ2.out 4
  have f5 := FZ2.out 5
  have f6 := FZ2.out 6
  go_wp2_with fail
  obtain ⟨⟨x0, x1, x2, x3, x4, x5, x6⟩, -, -, hgr⟩ := put7 k0 k1 k2 k3 k4 k5 k6 (rfl : (((((((w2.setCell ⟨w.heap.size, 0, none⟩ (.int .i64 (r : Nat))).setCell ⟨w.heap.size, 1, none⟩ (.int .i64 (p : Nat))).setCell ⟨w.heap.size, 2, none⟩ (.int .u32 (W : Nat))).setCell ⟨w.heap.size, 3, none⟩ (.int .i64 (z1 : Nat))).setCell ⟨w.heap.size, 4, none⟩ (.int .i64 (n1 : Nat))).setCell ⟨w.heap.size, 5, none⟩ (.int .i64 (z2 : Nat))).setCell ⟨w.heap.size, 6, none⟩ (.int .i64 (n2 : Nat))) = _)
  have HW3 := Lib.hid (hgr _ HG2.out (Nat.le_refl _))
  generalize (((((((w2.setCell ⟨w.heap.size, 0, none⟩ (.int .i64 (r : Nat))).setCell ⟨w.heap.size, 1, none⟩ (.int .i64 (p : Nat))).setCell ⟨w.heap.size, 2, none⟩ (.int .u32 (W : Nat))).setCell ⟨w.heap.size, 3, none⟩ (.int .i64 (z1 : Nat))).setCell ⟨w.heap.size, 4, none⟩ (.int .i64 (n1 : Nat))).setCell ⟨w.heap.size, 5, none⟩ (.int .i64 (z2 : Nat))).setCell ⟨w.heap.size, 6, none⟩ (.int .i64 (n2 : Nat))) = w3 at *
  clear k0 k1 k2 k3 k4 k5 k6 hgr f0 f1 f2 f3 f4 f5 f6
  have HC3 := Lib.hid (And.intro x0 (And.intro x1 (And.intro x2 (And.intro x3 (And.intro x4 (And.intro x5 x6))))))
  refine (BE.out r p W z1 n1 z2 n2 w3).mono ?_
  rintro e w4 ⟨b, rfl, hb, hV, hg4⟩
  obtain ⟨zz0, zzr, nn0, nnp⟩ := kz_in HR.out f
  have hr3 := HR.out.shp.hr
  have hp3 := HR.out.shp.hp
  have KL := Lib.hid (fun s => kz_least HR.out f s)
  have AD0 := Lib.hid (fun b s n wn w h => @vAdd_any b r p W z1 n1 z2 n2 s f HR.out n wn w h)
  have DN0 := Lib.hid (fun b s w h => @vDone_any b r p W z1 n1 z2 n2 s f HR.out w h)
  have LN0 := Lib.hid (fun b s hs w h hT => @vLeast_any b r p W z1 n1 z2 n2 s f HR.out hs w h hT)
  have h9 := shp12 HR.out.shp
  have QN0 := Lib.hid (fun s (hs : s < 4294967296) w => refQuorum_any r p (kz f z1 z2) (kz f n1 n2) s W z1 n1 z2 n2 w (by omega) (by omega) (by omega) hs (by omega) (by omega))
  generalize kz f z1 z2 = z at *
  generalize kz f n1 n2 = n at *
  have hz := hg4.trans ((Gr.refl w4).alloc (.cells #[.int .i64 (z : Nat), .int .i64 (n : Nat)] 30))
  have HC4 := Lib.hid (And.intro (hz.cell x0) (And.intro (hz.cell x1) (And.intro (hz.cell x2) (And.intro (hz.cell x3) (And.intro (hz.cell x4) (And.intro (hz.cell x5) (And.intro (hz.cell x6) (And.intro (new_cell (w := w4) (c := #[.int .i64 (z : Nat), .int .i64 (n : Nat)]) (t := 30) (i := 0) rfl rfl) (new_cell (w := w4) (c := #[.int .i64 (z : Nat), .int .i64 (n : Nat)]) (t := 30) (i := 1) rfl rfl)))))))))
  have HV4 := Lib.hid (hV.gr ((Gr.refl w4).alloc (.cells #[.int .i64 (z : Nat), .int .i64 (n : Nat)] 30)))
  have HG4 := Lib.hid (HW3.out.trans hz)
  have HT4 := Lib.hid (HT.out.gr HG4.out)
  have HB := Lib.hid (Nat.le_trans HW3.out.size hb)
  have HNE := Lib.hid (tb_ne HT.out HB.out)
  have HCB := Lib.hid (show w.heap.size ≠ b from Nat.ne_of_lt (Nat.lt_of_lt_of_le (cell_lt x0) hb))
  have HKB := Lib.hid (show w4.heap.size ≠ b from Nat.ne_of_gt (cell_lt hV.c0))
  clear x0 x1 x2 x3 x4 x5 x6 hz hV hg4 hb HC3
  go_wp2_with fail
  generalize w4.alloc (.cells #[.int .i64 (z : Nat), .int .i64 (n : Nat)] 30) = w5 at *
  generalize w4.heap.size = kb at *
  generalize hcb : w.heap.size = cb at *
  have HBW := Lib.hid (show w.heap.size ≤ b by have h2 := HB.out; omega)
  clear hcb
  go_loopw [9, 10] (fun v i wr => ∃ (k u : Nat), k ≤ l.length ∧ i = .int .i64 (k : Nat) ∧ v = .int .u32 (u : Nat) ∧ u < 2 ^ (r * p) ∧ Hid (VtIs wr b r p W z1 n1 z2 n2 f u) ∧ Hid (Gr w wr) ∧ Hid (TB wr) ∧ Hid (wr.cell? ⟨cb, 0, none⟩ = some (.int .i64 (r : Nat)) ∧ wr.cell? ⟨cb, 1, none⟩ = some (.int .i64 (p : Nat)) ∧ wr.cell? ⟨cb, 2, none⟩ = some (.int .u32 (W : Nat)) ∧ wr.cell? ⟨cb, 3, none⟩ = some (.int .i64 (z1 : Nat)) ∧ wr.cell? ⟨cb, 4, none⟩ = some (.int .i64 (n1 : Nat)) ∧ wr.cell? ⟨cb, 5, none⟩ = some (.int .i64 (z2 : Nat)) ∧ wr.cell? ⟨cb, 6, none⟩ = some (.int .i64 (n2 : Nat)) ∧ wr.cell? ⟨kb, 0, none⟩ = some (.int .i64 (z : Nat)) ∧ wr.cell? ⟨kb, 1, none⟩ = some (.int .i64 (n : Nat)))) (fun _ i _ => l.length - (intOf i).toNat)
  case atStart => exact ⟨0, 0, by omega, rfl, rfl, Nat.two_pow_pos _, HV4.out, HG4.out, HT4.out, HC4.out⟩
  case round =>
    obtain ⟨k, s, hk, rfl, rfl, hs, HV0, HG0, HT0, HC0⟩ := hrel
    by_cases hlt : k < l.length
    · by_cases h20 : k < 20
      · obtain ⟨-, hwf, hcl⟩ := HLi.out.gr HG0.out
        obtain ⟨bl, ol, rfl, hcc⟩ := hcl.resolve_left (by intro e; rw [e] at hlt; simp at hlt)
        have c0 := hcc k hlt
        have hwx := hwf l[k] (List.getElem_mem hlt)
        clear hwf hcl hcc
        generalize l[k] = x at *
        have hmul : (r : Int) * (p : Int) = ((r * p : Nat) : Int) := by simp
        have m0 : 0 ≤ (r : Int) * (p : Int) := by rw [hmul]; omega
        have m1 : (r : Int) * (p : Int) ≤ 9 := by rw [hmul]; omega
        have q0 := HC0.out.1
        have q1 := HC0.out.2.1
        have hs32 : s < 4294967296 := Nat.lt_of_lt_of_le hs (Nat.le_trans (Nat.pow_le_pow_right (n := 2) (by decide) h9) (by decide))
        have HUL := Lib.hid hs
        rcases (show x < 0 ∨ 0 ≤ x ∧ ((r * p : Nat) : Int) ≤ x ∨ 0 ≤ x ∧ x < ((r * p : Nat) : Int) by omega) with hx | ⟨hx0, hx⟩ | ⟨hx0, hx⟩
        · skip
          have hf : freshB r p s x = false := by unfold freshB; rw [decide_eq_false (by omega)]; rfl
          have ha : addS r p s x = s := by unfold addS; rw [hf]; simp
          have AD := Lib.hid (fun w h => vAdd_to HR.out hwx hf ha w h (b := b) (f := f))
          clear hf ha hwx hs hs32
          clear hmul
          go_wp2
          have hd := (Gr.refl wr).drew
          have HVd := Lib.hid (HV0.out.gr hd)
          have HGd := Lib.hid (HG0.out.trans hd)
          have HTd := Lib.hid (HT0.out.gr hd)
          have HCd : Hid (wr.drew.cell? ⟨cb, 0, none⟩ = some (.int .i64 (r : Nat)) ∧ wr.drew.cell? ⟨cb, 1, none⟩ = some (.int .i64 (p : Nat)) ∧ wr.drew.cell? ⟨cb, 2, none⟩ = some (.int .u32 (W : Nat)) ∧ wr.drew.cell? ⟨cb, 3, none⟩ = some (.int .i64 (z1 : Nat)) ∧ wr.drew.cell? ⟨cb, 4, none⟩ = some (.int .i64 (n1 : Nat)) ∧ wr.drew.cell? ⟨cb, 5, none⟩ = some (.int .i64 (z2 : Nat)) ∧ wr.drew.cell? ⟨cb, 6, none⟩ = some (.int .i64 (n2 : Nat)) ∧ wr.drew.cell? ⟨kb, 0, none⟩ = some (.int .i64 (z : Nat)) ∧ wr.drew.cell? ⟨kb, 1, none⟩ = some (.int .i64 (n : Nat))) := Lib.hid ⟨hd.cell (HC0.out.1), hd.cell (HC0.out.2.1), hd.cell (HC0.out.2.2.1), hd.cell (HC0.out.2.2.2.1), hd.cell (HC0.out.2.2.2.2.1), hd.cell (HC0.out.2.2.2.2.2.1), hd.cell (HC0.out.2.2.2.2.2.2.1), hd.cell (HC0.out.2.2.2.2.2.2.2.1), hd.cell (HC0.out.2.2.2.2.2.2.2.2)⟩
          clear hd
          have hu32 : s < 4294967296 := Nat.lt_of_lt_of_le HUL.out (Nat.le_trans (Nat.pow_le_pow_right (n := 2) (by decide) h9) (by decide))
          have DN := Lib.hid (DN0.out b s)
          have QN := Lib.hid (QN0.out s hu32)
          have LN := Lib.hid (LN0.out b s HUL.out)
          have HLQ := Lib.hid (KL.out s)
          generalize isQ r p z n s = qv at *
          generalize least r p z n s = lv at *
          have HX : Hid (∀ w0 w9 : World, Gr w0 w9 → (fun w9 => Hid (Gr w w9 ∧ VtIs w9 b r p W z1 n1 z2 n2 f s ∧ TB w9) ∧ w9.cell? ⟨cb, 0, none⟩ = some (.int .i64 (r : Nat)) ∧ w9.cell? ⟨cb, 1, none⟩ = some (.int .i64 (p : Nat)) ∧ w9.cell? ⟨cb, 2, none⟩ = some (.int .u32 (W : Nat)) ∧ w9.cell? ⟨cb, 3, none⟩ = some (.int .i64 (z1 : Nat)) ∧ w9.cell? ⟨cb, 4, none⟩ = some (.int .i64 (n1 : Nat)) ∧ w9.cell? ⟨cb, 5, none⟩ = some (.int .i64 (z2 : Nat)) ∧ w9.cell? ⟨cb, 6, none⟩ = some (.int .i64 (n2 : Nat)) ∧ w9.cell? ⟨kb, 0, none⟩ = some (.int .i64 (z : Nat)) ∧ w9.cell? ⟨kb, 1, none⟩ = some (.int .i64 (n : Nat))) w0 → (fun w9 => Hid (Gr w w9 ∧ VtIs w9 b r p W z1 n1 z2 n2 f s ∧ TB w9) ∧ w9.cell? ⟨cb, 0, none⟩ = some (.int .i64 (r : Nat)) ∧ w9.cell? ⟨cb, 1, none⟩ = some (.int .i64 (p : Nat)) ∧ w9.cell? ⟨cb, 2, none⟩ = some (.int .u32 (W : Nat)) ∧ w9.cell? ⟨cb, 3, none⟩ = some (.int .i64 (z1 : Nat)) ∧ w9.cell? ⟨cb, 4, none⟩ = some (.int .i64 (n1 : Nat)) ∧ w9.cell? ⟨cb, 5, none⟩ = some (.int .i64 (z2 : Nat)) ∧ w9.cell? ⟨cb, 6, none⟩ = some (.int .i64 (n2 : Nat)) ∧ w9.cell? ⟨kb, 0, none⟩ = some (.int .i64 (z : Nat)) ∧ w9.cell? ⟨kb, 1, none⟩ = some (.int .i64 (n : Nat))) w9) := Lib.hid fun w0 w9 hg ⟨h, q0, q1, q2, q3, q4, q5, q6, q7, q8⟩ => ⟨Lib.hid ⟨h.out.1.trans hg, h.out.2.1.gr hg, h.out.2.2.gr hg⟩, hg.cell q0, hg.cell q1, hg.cell q2, hg.cell q3, hg.cell q4, hg.cell q5, hg.cell q6, hg.cell q7, hg.cell q8⟩
          clear hu32 c0 q0 q1 m0 m1
          refine wp_region_held_drew (S := (fun _ : World => True)) (by kernel_rfl) ?inva (fun h0 => ?_)
          case inva => ((try dsimp only); all_goals trivial)
          refine wpAnyH_take (i := 0) (oi := { dst := some 61, op := Go.Op.move (Go.Operand.tmp 7), type := 34, pos := "law.go:42", after := #[], guard := none }) (v := ?va1) rfl (by kernel_rfl) (by kernel_rfl) (by kernel_rfl) (fun _ _ _ h => h) (Or.inl ⟨by rfl, ?ra1⟩) (by assumption) ?_
          case ra1 => (intro w hSw; (try dsimp only at hSw); (go_simp <;> with_reducible rfl))
          try simp only [Act.put, List.setIfInBounds_toArray, List.set_cons_zero, List.set_cons_succ]
          refine wpAnyH_take (i := 1) (oi := { dst := some 62, op := Go.Op.move (Go.Operand.tmp 11), type := 3, pos := "law.go:42", after := #[], guard := none }) (v := ?va2) rfl (by kernel_rfl) (by kernel_rfl) (by kernel_rfl) (fun _ _ _ h => h) (Or.inl ⟨by rfl, ?ra2⟩) (by assumption) ?_
          case ra2 => (intro w hSw; (try dsimp only at hSw); (go_simp <;> with_reducible rfl))
          try simp only [Act.put, List.setIfInBounds_toArray, List.set_cons_zero, List.set_cons_succ]
          refine wpAnyH_take (i := 3) (oi := { dst := some 64, op := Go.Op.move (Go.Operand.tmp 12), type := 4, pos := "law.go:42", after := #[], guard := none }) (v := ?va3) rfl (by kernel_rfl) (by kernel_rfl) (by kernel_rfl) (fun _ _ _ h => h) (Or.inl ⟨by rfl, ?ra3⟩) (by assumption) ?_
          case ra3 => (intro w hSw; (try dsimp only at hSw); (go_simp <;> with_reducible rfl))
          try simp only [Act.put, List.setIfInBounds_toArray, List.set_cons_zero, List.set_cons_succ]
          refine wpAnyH_ready (rs := [2]) (by kernel_rfl) (by simp) ?_
          refine AllReadyH.cons (o := { dst := some 63, op := Go.Op.call { callee := Go.Callee.value (Go.Operand.func 14), args := #[Go.Operand.tmp 61, Go.Operand.tmp 62], argTypes := #[34, 3] }, type := 4, pos := "law.go:42", after := #[{ on := 0, ground := Go.Ground.data }, { on := 1, ground := Go.Ground.data }], guard := none }) rfl (fun K hK => ?_) AllReadyH.nil
          go_simp
          (go_at_call 14; refine (AD.out _ (HVd.out)).mono ?_; rintro e w9 ⟨rfl, hvN, hsN⟩)
          have h4 : (fun w9 => Hid (Gr w w9 ∧ VtIs w9 b r p W z1 n1 z2 n2 f s ∧ TB w9) ∧ w9.cell? ⟨cb, 0, none⟩ = some (.int .i64 (r : Nat)) ∧ w9.cell? ⟨cb, 1, none⟩ = some (.int .i64 (p : Nat)) ∧ w9.cell? ⟨cb, 2, none⟩ = some (.int .u32 (W : Nat)) ∧ w9.cell? ⟨cb, 3, none⟩ = some (.int .i64 (z1 : Nat)) ∧ w9.cell? ⟨cb, 4, none⟩ = some (.int .i64 (n1 : Nat)) ∧ w9.cell? ⟨cb, 5, none⟩ = some (.int .i64 (z2 : Nat)) ∧ w9.cell? ⟨cb, 6, none⟩ = some (.int .i64 (n2 : Nat)) ∧ w9.cell? ⟨kb, 0, none⟩ = some (.int .i64 (z : Nat)) ∧ w9.cell? ⟨kb, 1, none⟩ = some (.int .i64 (n : Nat))) _ := ⟨Lib.hid ⟨hsN.gr HGd.out HBW.out, hvN, HTd.out.sole hsN HNE.out⟩, hsN.cell HCB.out (HCd.out.1), hsN.cell HCB.out (HCd.out.2.1), hsN.cell HCB.out (HCd.out.2.2.1), hsN.cell HCB.out (HCd.out.2.2.2.1), hsN.cell HCB.out (HCd.out.2.2.2.2.1), hsN.cell HCB.out (HCd.out.2.2.2.2.2.1), hsN.cell HCB.out (HCd.out.2.2.2.2.2.2.1), hsN.cell HKB.out (HCd.out.2.2.2.2.2.2.2.1), hsN.cell HKB.out (HCd.out.2.2.2.2.2.2.2.2)⟩
          first | refine hK.out _ _ trivial (fun _ => held_true (fun w9 => Hid (Gr w w9 ∧ VtIs w9 b r p W z1 n1 z2 n2 f s ∧ TB w9) ∧ w9.cell? ⟨cb, 0, none⟩ = some (.int .i64 (r : Nat)) ∧ w9.cell? ⟨cb, 1, none⟩ = some (.int .i64 (p : Nat)) ∧ w9.cell? ⟨cb, 2, none⟩ = some (.int .u32 (W : Nat)) ∧ w9.cell? ⟨cb, 3, none⟩ = some (.int .i64 (z1 : Nat)) ∧ w9.cell? ⟨cb, 4, none⟩ = some (.int .i64 (n1 : Nat)) ∧ w9.cell? ⟨cb, 5, none⟩ = some (.int .i64 (z2 : Nat)) ∧ w9.cell? ⟨cb, 6, none⟩ = some (.int .i64 (n2 : Nat)) ∧ w9.cell? ⟨kb, 0, none⟩ = some (.int .i64 (z : Nat)) ∧ w9.cell? ⟨kb, 1, none⟩ = some (.int .i64 (n : Nat))) _ _ _ _ ?_) | (go_wp2_with fail; refine hK.out _ _ trivial (fun _ => held_true (fun w9 => Hid (Gr w w9 ∧ VtIs w9 b r p W z1 n1 z2 n2 f s ∧ TB w9) ∧ w9.cell? ⟨cb, 0, none⟩ = some (.int .i64 (r : Nat)) ∧ w9.cell? ⟨cb, 1, none⟩ = some (.int .i64 (p : Nat)) ∧ w9.cell? ⟨cb, 2, none⟩ = some (.int .u32 (W : Nat)) ∧ w9.cell? ⟨cb, 3, none⟩ = some (.int .i64 (z1 : Nat)) ∧ w9.cell? ⟨cb, 4, none⟩ = some (.int .i64 (n1 : Nat)) ∧ w9.cell? ⟨cb, 5, none⟩ = some (.int .i64 (z2 : Nat)) ∧ w9.cell? ⟨cb, 6, none⟩ = some (.int .i64 (n2 : Nat)) ∧ w9.cell? ⟨kb, 0, none⟩ = some (.int .i64 (z : Nat)) ∧ w9.cell? ⟨kb, 1, none⟩ = some (.int .i64 (n : Nat))) _ _ _ _ ?_))
          clear hK K h0
          try simp only [Act.put, List.setIfInBounds_toArray, List.set_cons_zero, List.set_cons_succ]
          refine wpAnyH_take (i := 4) (oi := { dst := some 65, op := Go.Op.binOp Go.BinOp.neq 4 (Go.Operand.tmp 63) (Go.Operand.tmp 64) 4, type := 4, pos := "law.go:42", after := #[{ on := 2, ground := Go.Ground.data }, { on := 3, ground := Go.Ground.data }], guard := none }) (v := ?va5) rfl (by kernel_rfl) (by kernel_rfl) (by kernel_rfl) (fun _ _ _ h => h) (Or.inl ⟨by rfl, ?ra5⟩) (by assumption) ?_
          case ra5 => (intro w hSw; (try dsimp only at hSw); (go_simp <;> with_reducible rfl))
          try simp only [Act.put, List.setIfInBounds_toArray, List.set_cons_zero, List.set_cons_succ]
          refine wpAnyH_take (i := 5) (oi := { dst := some 66, op := Go.Op.move (Go.Operand.tmp 65), type := 4, pos := "law.go:42", after := #[{ on := 4, ground := Go.Ground.data }, { on := 2, ground := Go.Ground.chain }], guard := none }) (v := ?va6) rfl (by kernel_rfl) (by kernel_rfl) (by kernel_rfl) (fun _ _ _ h => h) (Or.inl ⟨by rfl, ?ra6⟩) (by assumption) ?_
          case ra6 => (intro w hSw; (try dsimp only at hSw); (go_simp <;> with_reducible rfl))
          try simp only [Act.put, List.setIfInBounds_toArray, List.set_cons_zero, List.set_cons_succ]
          refine wpAnyH_take (i := 6) (oi := { dst := some 67, op := Go.Op.move (Go.Operand.tmp 7), type := 34, pos := "law.go:42", after := #[{ on := 5, ground := Go.Ground.guard }], guard := some (5, false) }) (v := ?va7) rfl (by kernel_rfl) (by kernel_rfl) (by kernel_rfl) (fun _ _ _ h => h) (Or.inl ⟨by rfl, ?ra7⟩) (by assumption) ?_
          case ra7 => (intro w hSw; (try dsimp only at hSw); (go_simp <;> with_reducible rfl))
          try simp only [Act.put, List.setIfInBounds_toArray, List.set_cons_zero, List.set_cons_succ]
          refine wpAnyH_take (i := 8) (oi := { dst := some 69, op := Go.Op.move (Go.Operand.tmp 9), type := 23, pos := "law.go:42", after := #[{ on := 5, ground := Go.Ground.guard }], guard := some (5, false) }) (v := ?va8) rfl (by kernel_rfl) (by kernel_rfl) (by kernel_rfl) (fun _ _ _ h => h) (Or.inl ⟨by rfl, ?ra8⟩) (by assumption) ?_
          case ra8 => (intro w hSw; (try dsimp only at hSw); (go_simp <;> with_reducible rfl))
          try simp only [Act.put, List.setIfInBounds_toArray, List.set_cons_zero, List.set_cons_succ]
          refine wpAnyH_ready (rs := [7]) (by kernel_rfl) (by simp) ?_
          refine AllReadyH.cons (o := { dst := some 68, op := Go.Op.call { callee := Go.Callee.value (Go.Operand.func 15), args := #[Go.Operand.tmp 67], argTypes := #[34] }, type := 23, pos := "law.go:42", after := #[{ on := 6, ground := Go.Ground.data }, { on := 5, ground := Go.Ground.chain }, { on := 5, ground := Go.Ground.guard }], guard := some (5, false) }) rfl (fun K hK => ?_) AllReadyH.nil
          go_simp
          (go_at_call 15; refine (vSet_any _ (h4).1.out.2.1).mono ?_; rintro e w9 ⟨rfl, rfl⟩)
          first | refine hK.out _ _ ?sa9 (fun h9 => ?_) | (go_wp2_with fail; refine hK.out _ _ ?sa9 (fun h9 => ?_))
          case sa9 => ((try dsimp only); (first | exact HX.out _ _ hgN h4 | exact h4))
          clear hK K h4
          try simp only [Act.put, List.setIfInBounds_toArray, List.set_cons_zero, List.set_cons_succ]
          refine wpAnyH_take (i := 9) (oi := { dst := some 70, op := Go.Op.binOp Go.BinOp.neq 23 (Go.Operand.tmp 68) (Go.Operand.tmp 69) 23, type := 4, pos := "law.go:42", after := #[{ on := 7, ground := Go.Ground.data }, { on := 8, ground := Go.Ground.data }, { on := 5, ground := Go.Ground.guard }], guard := some (5, false) }) (v := ?va10) rfl (by kernel_rfl) (by kernel_rfl) (by kernel_rfl) (fun _ _ _ h => h) (Or.inl ⟨by rfl, ?ra10⟩) (by assumption) ?_
          case ra10 => (intro w hSw; (try dsimp only at hSw); (go_simp <;> with_reducible rfl))
          try simp only [Act.put, List.setIfInBounds_toArray, List.set_cons_zero, List.set_cons_succ]
          refine wpAnyH_take (i := 10) (oi := { dst := some 71, op := Go.Op.pick (Go.Operand.tmp 66) (Go.Operand.const (Go.Value.bool true)) (Go.Operand.tmp 70), type := 4, pos := "law.go:42", after := #[{ on := 5, ground := Go.Ground.data }, { on := 9, ground := Go.Ground.data }], guard := none }) (v := ?va11) rfl (by kernel_rfl) (by kernel_rfl) (by kernel_rfl) (fun _ _ _ h => h) (Or.inl ⟨by rfl, ?ra11⟩) (by assumption) ?_
          case ra11 => (intro w hSw; (try dsimp only at hSw); (go_simp <;> with_reducible rfl))
          try simp only [Act.put, List.setIfInBounds_toArray, List.set_cons_zero, List.set_cons_succ]
          refine wpAnyH_take (i := 11) (oi := { dst := some 72, op := Go.Op.move (Go.Operand.tmp 71), type := 4, pos := "law.go:42", after := #[{ on := 10, ground := Go.Ground.data }, { on := 7, ground := Go.Ground.chain }], guard := none }) (v := ?va12) rfl (by kernel_rfl) (by kernel_rfl) (by kernel_rfl) (fun _ _ _ h => h) (Or.inl ⟨by rfl, ?ra12⟩) (by assumption) ?_
          case ra12 => (intro w hSw; (try dsimp only at hSw); (go_simp <;> with_reducible rfl))
          try simp only [Act.put, List.setIfInBounds_toArray, List.set_cons_zero, List.set_cons_succ]
          refine wpAnyH_take (i := 12) (oi := { dst := some 73, op := Go.Op.move (Go.Operand.tmp 7), type := 34, pos := "law.go:42", after := #[{ on := 11, ground := Go.Ground.guard }], guard := some (11, false) }) (v := ?va13) rfl (by kernel_rfl) (by kernel_rfl) (by kernel_rfl) (fun _ _ _ h => h) (Or.inl ⟨by rfl, ?ra13⟩) (by assumption) ?_
          case ra13 => (intro w hSw; (try dsimp only at hSw); (go_simp <;> with_reducible rfl))
          try simp only [Act.put, List.setIfInBounds_toArray, List.set_cons_zero, List.set_cons_succ]
          refine wpAnyH_take (i := 14) (oi := { dst := some 75, op := Go.Op.load 32 (Go.Operand.tmp 3), type := 32, pos := "law.go:42", after := #[{ on := 11, ground := Go.Ground.guard }], guard := some (11, false) }) (v := ?va14) rfl (by kernel_rfl) (by kernel_rfl) (by kernel_rfl) (fun _ _ _ h => h) (Or.inl ⟨by rfl, ?ra14⟩) (by assumption) ?_
          case ra14 => (intro w hSw; (try dsimp only at hSw); (go_simp <;> with_reducible rfl))
          try simp only [Act.put, List.setIfInBounds_toArray, List.set_cons_zero, List.set_cons_succ]
          refine wpAnyH_take (i := 15) (oi := { dst := some 76, op := Go.Op.move (Go.Operand.tmp 9), type := 23, pos := "law.go:42", after := #[{ on := 11, ground := Go.Ground.guard }], guard := some (11, false) }) (v := ?va15) rfl (by kernel_rfl) (by kernel_rfl) (by kernel_rfl) (fun _ _ _ h => h) (Or.inl ⟨by rfl, ?ra15⟩) (by assumption) ?_
          case ra15 => (intro w hSw; (try dsimp only at hSw); (go_simp <;> with_reducible rfl))
          try simp only [Act.put, List.setIfInBounds_toArray, List.set_cons_zero, List.set_cons_succ]
          refine wpAnyH_take (i := 16) (oi := { dst := some 77, op := Go.Op.load 30 (Go.Operand.tmp 8), type := 30, pos := "law.go:42", after := #[{ on := 11, ground := Go.Ground.guard }], guard := some (11, false) }) (v := ?va16) rfl (by kernel_rfl) (by kernel_rfl) (by kernel_rfl) (fun _ _ _ h => h) (Or.inl ⟨by rfl, ?ra16⟩) (by assumption) ?_
          case ra16 => (intro w hSw; (try dsimp only at hSw); (go_simp <;> with_reducible rfl))
          try simp only [Act.put, List.setIfInBounds_toArray, List.set_cons_zero, List.set_cons_succ]
          refine wpAnyH_ready (rs := [13]) (by kernel_rfl) (by simp) ?_
          refine AllReadyH.cons (o := { dst := some 74, op := Go.Op.call { callee := Go.Callee.value (Go.Operand.func 16), args := #[Go.Operand.tmp 73], argTypes := #[34] }, type := 4, pos := "law.go:42", after := #[{ on := 12, ground := Go.Ground.data }, { on := 11, ground := Go.Ground.chain }, { on := 11, ground := Go.Ground.guard }], guard := some (11, false) }) rfl (fun K hK => ?_) AllReadyH.nil
          go_simp
          (go_at_call 16; refine (DN.out _ (h9).1.out.2.1).mono ?_; rintro e w9 ⟨rfl, hgN⟩)
          first | refine hK.out _ _ ?sa17 (fun h17 => ?_) | (go_wp2_with fail; refine hK.out _ _ ?sa17 (fun h17 => ?_))
          case sa17 => ((try dsimp only); (first | exact HX.out _ _ hgN h9 | exact h9))
          clear hK K h9
          try simp only [Act.put, List.setIfInBounds_toArray, List.set_cons_zero, List.set_cons_succ]
          refine wpAnyH_ready (rs := [17]) (by kernel_rfl) (by simp) ?_
          refine AllReadyH.cons (o := { dst := some 78, op := Go.Op.call { callee := Go.Callee.value (Go.Operand.func 17), args := #[Go.Operand.tmp 75, Go.Operand.tmp 76, Go.Operand.tmp 77], argTypes := #[32, 23, 30] }, type := 4, pos := "law.go:42", after := #[{ on := 14, ground := Go.Ground.data }, { on := 15, ground := Go.Ground.data }, { on := 16, ground := Go.Ground.data }, { on := 13, ground := Go.Ground.chain }, { on := 11, ground := Go.Ground.guard }], guard := some (11, false) }) rfl (fun K hK => ?_) AllReadyH.nil
          go_simp
          (go_at_call 17; refine (QN.out _).mono ?_; rintro e w9 ⟨rfl, hgN⟩)
          first | refine hK.out _ _ ?sa18 (fun h18 => ?_) | (go_wp2_with fail; refine hK.out _ _ ?sa18 (fun h18 => ?_))
          case sa18 => ((try dsimp only); (first | exact HX.out _ _ hgN h17 | exact h17))
          clear hK K h17
          try simp only [Act.put, List.setIfInBounds_toArray, List.set_cons_zero, List.set_cons_succ]
          refine wpAnyH_take (i := 18) (oi := { dst := some 79, op := Go.Op.binOp Go.BinOp.neq 4 (Go.Operand.tmp 74) (Go.Operand.tmp 78) 4, type := 4, pos := "law.go:42", after := #[{ on := 13, ground := Go.Ground.data }, { on := 17, ground := Go.Ground.data }, { on := 11, ground := Go.Ground.guard }], guard := some (11, false) }) (v := (.bool false)) rfl (by kernel_rfl) (by kernel_rfl) (by kernel_rfl) (fun _ _ _ h => h) (Or.inl ⟨by rfl, ?ra19⟩) (by assumption) ?_
          case ra19 => (intro w hSw; (try dsimp only at hSw); go_simp; all_goals simp)
          try simp only [Act.put, List.setIfInBounds_toArray, List.set_cons_zero, List.set_cons_succ]
          refine wpAnyH_take (i := 19) (oi := { dst := some 80, op := Go.Op.pick (Go.Operand.tmp 72) (Go.Operand.const (Go.Value.bool true)) (Go.Operand.tmp 79), type := 4, pos := "law.go:42", after := #[{ on := 11, ground := Go.Ground.data }, { on := 18, ground := Go.Ground.data }], guard := none }) (v := ?va20) rfl (by kernel_rfl) (by kernel_rfl) (by kernel_rfl) (fun _ _ _ h => h) (Or.inl ⟨by rfl, ?ra20⟩) (by assumption) ?_
          case ra20 => (intro w hSw; (try dsimp only at hSw); (go_simp <;> with_reducible rfl))
          try simp only [Act.put, List.setIfInBounds_toArray, List.set_cons_zero, List.set_cons_succ]
          refine wpAnyH_take (i := 20) (oi := { dst := some 81, op := Go.Op.move (Go.Operand.tmp 80), type := 4, pos := "law.go:42", after := #[{ on := 19, ground := Go.Ground.data }, { on := 17, ground := Go.Ground.chain }], guard := none }) (v := ?va21) rfl (by kernel_rfl) (by kernel_rfl) (by kernel_rfl) (fun _ _ _ h => h) (Or.inl ⟨by rfl, ?ra21⟩) (by assumption) ?_
          case ra21 => (intro w hSw; (try dsimp only at hSw); (go_simp <;> with_reducible rfl))
          try simp only [Act.put, List.setIfInBounds_toArray, List.set_cons_zero, List.set_cons_succ]
          refine wpAnyH_take (i := 21) (oi := { dst := some 82, op := Go.Op.move (Go.Operand.tmp 7), type := 34, pos := "law.go:42", after := #[{ on := 20, ground := Go.Ground.guard }], guard := some (20, false) }) (v := ?va22) rfl (by kernel_rfl) (by kernel_rfl) (by kernel_rfl) (fun _ _ _ h => h) (Or.inl ⟨by rfl, ?ra22⟩) (by assumption) ?_
          case ra22 => (intro w hSw; (try dsimp only at hSw); (go_simp <;> with_reducible rfl))
          try simp only [Act.put, List.setIfInBounds_toArray, List.set_cons_zero, List.set_cons_succ]
          refine wpAnyH_take (i := 23) (oi := { dst := some 84, op := Go.Op.move (Go.Operand.tmp 7), type := 34, pos := "law.go:42", after := #[{ on := 20, ground := Go.Ground.guard }], guard := some (20, false) }) (v := ?va23) rfl (by kernel_rfl) (by kernel_rfl) (by kernel_rfl) (fun _ _ _ h => h) (Or.inl ⟨by rfl, ?ra23⟩) (by assumption) ?_
          case ra23 => (intro w hSw; (try dsimp only at hSw); (go_simp <;> with_reducible rfl))
          try simp only [Act.put, List.setIfInBounds_toArray, List.set_cons_zero, List.set_cons_succ]
          refine wpAnyH_ready (rs := [22]) (by kernel_rfl) (by simp) ?_
          refine AllReadyH.cons (o := { dst := some 83, op := Go.Op.call { callee := Go.Callee.value (Go.Operand.func 16), args := #[Go.Operand.tmp 82], argTypes := #[34] }, type := 4, pos := "law.go:42", after := #[{ on := 21, ground := Go.Ground.data }, { on := 20, ground := Go.Ground.chain }, { on := 20, ground := Go.Ground.guard }], guard := some (20, false) }) rfl (fun K hK => ?_) AllReadyH.nil
          go_simp
          (go_at_call 16; refine (DN.out _ (h18).1.out.2.1).mono ?_; rintro e w9 ⟨rfl, hgN⟩)
          first | refine hK.out _ _ ?sa24 (fun h24 => ?_) | (go_wp2_with fail; refine hK.out _ _ ?sa24 (fun h24 => ?_))
          case sa24 => ((try dsimp only); (first | exact HX.out _ _ hgN h18 | exact h18))
          clear hK K h18
          try simp only [Act.put, List.setIfInBounds_toArray, List.set_cons_zero, List.set_cons_succ]
          refine wpAnyH_ready (rs := [24]) (by kernel_rfl) (by simp) ?_
          refine AllReadyH.cons (o := { dst := some 85, op := Go.Op.call { callee := Go.Callee.value (Go.Operand.func 18), args := #[Go.Operand.tmp 84], argTypes := #[34] }, type := 3, pos := "law.go:42", after := #[{ on := 23, ground := Go.Ground.data }, { on := 22, ground := Go.Ground.chain }, { on := 20, ground := Go.Ground.guard }], guard := some (20, false) }) rfl (fun K hK => ?_) AllReadyH.nil
          go_simp
          (go_at_call 18; refine (LN.out _ (h24).1.out.2.1 (h24).1.out.2.2).mono ?_; rintro e w9 ⟨rfl, hgN⟩)
          first | refine hK.out _ _ ?sa25 (fun h25 => ?_) | (go_wp2_with fail; refine hK.out _ _ ?sa25 (fun h25 => ?_))
          case sa25 => ((try dsimp only); (first | exact HX.out _ _ hgN h24 | exact h24))
          clear hK K h24
          try simp only [Act.put, List.setIfInBounds_toArray, List.set_cons_zero, List.set_cons_succ]
          refine wpAnyH_take (i := 25) (oi := { dst := some 86, op := Go.Op.binOp Go.BinOp.eql 3 (Go.Operand.tmp 85) (Go.Operand.const (Go.Value.int Go.IntKind.i64 0)) 3, type := 4, pos := "law.go:42", after := #[{ on := 24, ground := Go.Ground.data }, { on := 20, ground := Go.Ground.guard }], guard := some (20, false) }) (v := (.bool qv)) rfl (by kernel_rfl) (by kernel_rfl) (by kernel_rfl) (fun _ _ _ h => h) (Or.inl ⟨by rfl, ?ra26⟩) (by assumption) ?_
          case ra26 => (intro w hSw; (try dsimp only at hSw); go_simp; all_goals simp [HLQ.out])
          try simp only [Act.put, List.setIfInBounds_toArray, List.set_cons_zero, List.set_cons_succ]
          refine wpAnyH_take (i := 26) (oi := { dst := some 87, op := Go.Op.binOp Go.BinOp.neq 4 (Go.Operand.tmp 83) (Go.Operand.tmp 86) 4, type := 4, pos := "law.go:42", after := #[{ on := 22, ground := Go.Ground.data }, { on := 25, ground := Go.Ground.data }, { on := 20, ground := Go.Ground.guard }], guard := some (20, false) }) (v := (.bool false)) rfl (by kernel_rfl) (by kernel_rfl) (by kernel_rfl) (fun _ _ _ h => h) (Or.inl ⟨by rfl, ?ra27⟩) (by assumption) ?_
          case ra27 => (intro w hSw; (try dsimp only at hSw); go_simp; all_goals simp)
          try simp only [Act.put, List.setIfInBounds_toArray, List.set_cons_zero, List.set_cons_succ]
          refine wpAnyH_take (i := 27) (oi := { dst := some 88, op := Go.Op.pick (Go.Operand.tmp 81) (Go.Operand.const (Go.Value.bool true)) (Go.Operand.tmp 87), type := 4, pos := "law.go:42", after := #[{ on := 20, ground := Go.Ground.data }, { on := 26, ground := Go.Ground.data }], guard := none }) (v := ?va28) rfl (by kernel_rfl) (by kernel_rfl) (by kernel_rfl) (fun _ _ _ h => h) (Or.inl ⟨by rfl, ?ra28⟩) (by assumption) ?_
          case ra28 => (intro w hSw; (try dsimp only at hSw); (go_simp <;> with_reducible rfl))
          try simp only [Act.put, List.setIfInBounds_toArray, List.set_cons_zero, List.set_cons_succ]
          refine wpAnyH_done (by kernel_rfl) ?_ _
          have HE := (h25).1
          have HC := Lib.hid (h25).2
          clear h25
          go_wp2
          go_roundw
          case rel => exact ⟨k + 1, s, by omega, by go_num, rfl, HUL.out, Lib.hid HE.out.2.1, Lib.hid HE.out.1, Lib.hid HE.out.2.2, HC⟩
          case measure => simp [intOf]; omega
        · skip
          have hf : freshB r p s x = false := by unfold freshB; rw [decide_eq_false (by omega)]; rfl
          have ha : addS r p s x = s := by unfold addS; rw [hf]; simp
          have AD := Lib.hid (fun w h => vAdd_to HR.out hwx hf ha w h (b := b) (f := f))
          clear hf ha hwx hs hs32
          have hx9 : (r : Int) * (p : Int) ≤ x := by rw [hmul]; exact hx
          clear hmul
          go_wp2
          have hd := (Gr.refl wr).drew
          have HVd := Lib.hid (HV0.out.gr hd)
          have HGd := Lib.hid (HG0.out.trans hd)
          have HTd := Lib.hid (HT0.out.gr hd)
          have HCd : Hid (wr.drew.cell? ⟨cb, 0, none⟩ = some (.int .i64 (r : Nat)) ∧ wr.drew.cell? ⟨cb, 1, none⟩ = some (.int .i64 (p : Nat)) ∧ wr.drew.cell? ⟨cb, 2, none⟩ = some (.int .u32 (W : Nat)) ∧ wr.drew.cell? ⟨cb, 3, none⟩ = some (.int .i64 (z1 : Nat)) ∧ wr.drew.cell? ⟨cb, 4, none⟩ = some (.int .i64 (n1 : Nat)) ∧ wr.drew.cell? ⟨cb, 5, none⟩ = some (.int .i64 (z2 : Nat)) ∧ wr.drew.cell? ⟨cb, 6, none⟩ = some (.int .i64 (n2 : Nat)) ∧ wr.drew.cell? ⟨kb, 0, none⟩ = some (.int .i64 (z : Nat)) ∧ wr.drew.cell? ⟨kb, 1, none⟩ = some (.int .i64 (n : Nat))) := Lib.hid ⟨hd.cell (HC0.out.1), hd.cell (HC0.out.2.1), hd.cell (HC0.out.2.2.1), hd.cell (HC0.out.2.2.2.1), hd.cell (HC0.out.2.2.2.2.1), hd.cell (HC0.out.2.2.2.2.2.1), hd.cell (HC0.out.2.2.2.2.2.2.1), hd.cell (HC0.out.2.2.2.2.2.2.2.1), hd.cell (HC0.out.2.2.2.2.2.2.2.2)⟩
          clear hd
          have hu32 : s < 4294967296 := Nat.lt_of_lt_of_le HUL.out (Nat.le_trans (Nat.pow_le_pow_right (n := 2) (by decide) h9) (by decide))
          have DN := Lib.hid (DN0.out b s)
          have QN := Lib.hid (QN0.out s hu32)
          have LN := Lib.hid (LN0.out b s HUL.out)
          have HLQ := Lib.hid (KL.out s)
          generalize isQ r p z n s = qv at *
          generalize least r p z n s = lv at *
          have HX : Hid (∀ w0 w9 : World, Gr w0 w9 → (fun w9 => Hid (Gr w w9 ∧ VtIs w9 b r p W z1 n1 z2 n2 f s ∧ TB w9) ∧ w9.cell? ⟨cb, 0, none⟩ = some (.int .i64 (r : Nat)) ∧ w9.cell? ⟨cb, 1, none⟩ = some (.int .i64 (p : Nat)) ∧ w9.cell? ⟨cb, 2, none⟩ = some (.int .u32 (W : Nat)) ∧ w9.cell? ⟨cb, 3, none⟩ = some (.int .i64 (z1 : Nat)) ∧ w9.cell? ⟨cb, 4, none⟩ = some (.int .i64 (n1 : Nat)) ∧ w9.cell? ⟨cb, 5, none⟩ = some (.int .i64 (z2 : Nat)) ∧ w9.cell? ⟨cb, 6, none⟩ = some (.int .i64 (n2 : Nat)) ∧ w9.cell? ⟨kb, 0, none⟩ = some (.int .i64 (z : Nat)) ∧ w9.cell? ⟨kb, 1, none⟩ = some (.int .i64 (n : Nat))) w0 → (fun w9 => Hid (Gr w w9 ∧ VtIs w9 b r p W z1 n1 z2 n2 f s ∧ TB w9) ∧ w9.cell? ⟨cb, 0, none⟩ = some (.int .i64 (r : Nat)) ∧ w9.cell? ⟨cb, 1, none⟩ = some (.int .i64 (p : Nat)) ∧ w9.cell? ⟨cb, 2, none⟩ = some (.int .u32 (W : Nat)) ∧ w9.cell? ⟨cb, 3, none⟩ = some (.int .i64 (z1 : Nat)) ∧ w9.cell? ⟨cb, 4, none⟩ = some (.int .i64 (n1 : Nat)) ∧ w9.cell? ⟨cb, 5, none⟩ = some (.int .i64 (z2 : Nat)) ∧ w9.cell? ⟨cb, 6, none⟩ = some (.int .i64 (n2 : Nat)) ∧ w9.cell? ⟨kb, 0, none⟩ = some (.int .i64 (z : Nat)) ∧ w9.cell? ⟨kb, 1, none⟩ = some (.int .i64 (n : Nat))) w9) := Lib.hid fun w0 w9 hg ⟨h, q0, q1, q2, q3, q4, q5, q6, q7, q8⟩ => ⟨Lib.hid ⟨h.out.1.trans hg, h.out.2.1.gr hg, h.out.2.2.gr hg⟩, hg.cell q0, hg.cell q1, hg.cell q2, hg.cell q3, hg.cell q4, hg.cell q5, hg.cell q6, hg.cell q7, hg.cell q8⟩
          clear hu32 c0 q0 q1 m0 m1
          refine wp_region_held_drew (S := (fun _ : World => True)) (by kernel_rfl) ?invb (fun h0 => ?_)
          case invb => ((try dsimp only); all_goals trivial)
          refine wpAnyH_take (i := 0) (oi := { dst := some 61, op := Go.Op.move (Go.Operand.tmp 7), type := 34, pos := "law.go:42", after := #[], guard := none }) (v := ?vb1) rfl (by kernel_rfl) (by kernel_rfl) (by kernel_rfl) (fun _ _ _ h => h) (Or.inl ⟨by rfl, ?rb1⟩) (by assumption) ?_
          case rb1 => (intro w hSw; (try dsimp only at hSw); (go_simp <;> with_reducible rfl))
          try simp only [Act.put, List.setIfInBounds_toArray, List.set_cons_zero, List.set_cons_succ]
          refine wpAnyH_take (i := 1) (oi := { dst := some 62, op := Go.Op.move (Go.Operand.tmp 11), type := 3, pos := "law.go:42", after := #[], guard := none }) (v := ?vb2) rfl (by kernel_rfl) (by kernel_rfl) (by kernel_rfl) (fun _ _ _ h => h) (Or.inl ⟨by rfl, ?rb2⟩) (by assumption) ?_
          case rb2 => (intro w hSw; (try dsimp only at hSw); (go_simp <;> with_reducible rfl))
          try simp only [Act.put, List.setIfInBounds_toArray, List.set_cons_zero, List.set_cons_succ]
          refine wpAnyH_take (i := 3) (oi := { dst := some 64, op := Go.Op.move (Go.Operand.tmp 12), type := 4, pos := "law.go:42", after := #[], guard := none }) (v := ?vb3) rfl (by kernel_rfl) (by kernel_rfl) (by kernel_rfl) (fun _ _ _ h => h) (Or.inl ⟨by rfl, ?rb3⟩) (by assumption) ?_
          case rb3 => (intro w hSw; (try dsimp only at hSw); (go_simp <;> with_reducible rfl))
          try simp only [Act.put, List.setIfInBounds_toArray, List.set_cons_zero, List.set_cons_succ]
          refine wpAnyH_ready (rs := [2]) (by kernel_rfl) (by simp) ?_
          refine AllReadyH.cons (o := { dst := some 63, op := Go.Op.call { callee := Go.Callee.value (Go.Operand.func 14), args := #[Go.Operand.tmp 61, Go.Operand.tmp 62], argTypes := #[34, 3] }, type := 4, pos := "law.go:42", after := #[{ on := 0, ground := Go.Ground.data }, { on := 1, ground := Go.Ground.data }], guard := none }) rfl (fun K hK => ?_) AllReadyH.nil
          go_simp
          (go_at_call 14; refine (AD.out _ (HVd.out)).mono ?_; rintro e w9 ⟨rfl, hvN, hsN⟩)
          have h4 : (fun w9 => Hid (Gr w w9 ∧ VtIs w9 b r p W z1 n1 z2 n2 f s ∧ TB w9) ∧ w9.cell? ⟨cb, 0, none⟩ = some (.int .i64 (r : Nat)) ∧ w9.cell? ⟨cb, 1, none⟩ = some (.int .i64 (p : Nat)) ∧ w9.cell? ⟨cb, 2, none⟩ = some (.int .u32 (W : Nat)) ∧ w9.cell? ⟨cb, 3, none⟩ = some (.int .i64 (z1 : Nat)) ∧ w9.cell? ⟨cb, 4, none⟩ = some (.int .i64 (n1 : Nat)) ∧ w9.cell? ⟨cb, 5, none⟩ = some (.int .i64 (z2 : Nat)) ∧ w9.cell? ⟨cb, 6, none⟩ = some (.int .i64 (n2 : Nat)) ∧ w9.cell? ⟨kb, 0, none⟩ = some (.int .i64 (z : Nat)) ∧ w9.cell? ⟨kb, 1, none⟩ = some (.int .i64 (n : Nat))) _ := ⟨Lib.hid ⟨hsN.gr HGd.out HBW.out, hvN, HTd.out.sole hsN HNE.out⟩, hsN.cell HCB.out (HCd.out.1), hsN.cell HCB.out (HCd.out.2.1), hsN.cell HCB.out (HCd.out.2.2.1), hsN.cell HCB.out (HCd.out.2.2.2.1), hsN.cell HCB.out (HCd.out.2.2.2.2.1), hsN.cell HCB.out (HCd.out.2.2.2.2.2.1), hsN.cell HCB.out (HCd.out.2.2.2.2.2.2.1), hsN.cell HKB.out (HCd.out.2.2.2.2.2.2.2.1), hsN.cell HKB.out (HCd.out.2.2.2.2.2.2.2.2)⟩
          first | refine hK.out _ _ trivial (fun _ => held_true (fun w9 => Hid (Gr w w9 ∧ VtIs w9 b r p W z1 n1 z2 n2 f s ∧ TB w9) ∧ w9.cell? ⟨cb, 0, none⟩ = some (.int .i64 (r : Nat)) ∧ w9.cell? ⟨cb, 1, none⟩ = some (.int .i64 (p : Nat)) ∧ w9.cell? ⟨cb, 2, none⟩ = some (.int .u32 (W : Nat)) ∧ w9.cell? ⟨cb, 3, none⟩ = some (.int .i64 (z1 : Nat)) ∧ w9.cell? ⟨cb, 4, none⟩ = some (.int .i64 (n1 : Nat)) ∧ w9.cell? ⟨cb, 5, none⟩ = some (.int .i64 (z2 : Nat)) ∧ w9.cell? ⟨cb, 6, none⟩ = some (.int .i64 (n2 : Nat)) ∧ w9.cell? ⟨kb, 0, none⟩ = some (.int .i64 (z : Nat)) ∧ w9.cell? ⟨kb, 1, none⟩ = some (.int .i64 (n : Nat))) _ _ _ _ ?_) | (go_wp2_with fail; refine hK.out _ _ trivial (fun _ => held_true (fun w9 => Hid (Gr w w9 ∧ VtIs w9 b r p W z1 n1 z2 n2 f s ∧ TB w9) ∧ w9.cell? ⟨cb, 0, none⟩ = some (.int .i64 (r : Nat)) ∧ w9.cell? ⟨cb, 1, none⟩ = some (.int .i64 (p : Nat)) ∧ w9.cell? ⟨cb, 2, none⟩ = some (.int .u32 (W : Nat)) ∧ w9.cell? ⟨cb, 3, none⟩ = some (.int .i64 (z1 : Nat)) ∧ w9.cell? ⟨cb, 4, none⟩ = some (.int .i64 (n1 : Nat)) ∧ w9.cell? ⟨cb, 5, none⟩ = some (.int .i64 (z2 : Nat)) ∧ w9.cell? ⟨cb, 6, none⟩ = some (.int .i64 (n2 : Nat)) ∧ w9.cell? ⟨kb, 0, none⟩ = some (.int .i64 (z : Nat)) ∧ w9.cell? ⟨kb, 1, none⟩ = some (.int .i64 (n : Nat))) _ _ _ _ ?_))
          clear hK K h0
          try simp only [Act.put, List.setIfInBounds_toArray, List.set_cons_zero, List.set_cons_succ]
          refine wpAnyH_take (i := 4) (oi := { dst := some 65, op := Go.Op.binOp Go.BinOp.neq 4 (Go.Operand.tmp 63) (Go.Operand.tmp 64) 4, type := 4, pos := "law.go:42", after := #[{ on := 2, ground := Go.Ground.data }, { on := 3, ground := Go.Ground.data }], guard := none }) (v := ?vb5) rfl (by kernel_rfl) (by kernel_rfl) (by kernel_rfl) (fun _ _ _ h => h) (Or.inl ⟨by rfl, ?rb5⟩) (by assumption) ?_
          case rb5 => (intro w hSw; (try dsimp only at hSw); (go_simp <;> with_reducible rfl))
          try simp only [Act.put, List.setIfInBounds_toArray, List.set_cons_zero, List.set_cons_succ]
          refine wpAnyH_take (i := 5) (oi := { dst := some 66, op := Go.Op.move (Go.Operand.tmp 65), type := 4, pos := "law.go:42", after := #[{ on := 4, ground := Go.Ground.data }, { on := 2, ground := Go.Ground.chain }], guard := none }) (v := ?vb6) rfl (by kernel_rfl) (by kernel_rfl) (by kernel_rfl) (fun _ _ _ h => h) (Or.inl ⟨by rfl, ?rb6⟩) (by assumption) ?_
          case rb6 => (intro w hSw; (try dsimp only at hSw); (go_simp <;> with_reducible rfl))
          try simp only [Act.put, List.setIfInBounds_toArray, List.set_cons_zero, List.set_cons_succ]
          refine wpAnyH_take (i := 6) (oi := { dst := some 67, op := Go.Op.move (Go.Operand.tmp 7), type := 34, pos := "law.go:42", after := #[{ on := 5, ground := Go.Ground.guard }], guard := some (5, false) }) (v := ?vb7) rfl (by kernel_rfl) (by kernel_rfl) (by kernel_rfl) (fun _ _ _ h => h) (Or.inl ⟨by rfl, ?rb7⟩) (by assumption) ?_
          case rb7 => (intro w hSw; (try dsimp only at hSw); (go_simp <;> with_reducible rfl))
          try simp only [Act.put, List.setIfInBounds_toArray, List.set_cons_zero, List.set_cons_succ]
          refine wpAnyH_take (i := 8) (oi := { dst := some 69, op := Go.Op.move (Go.Operand.tmp 9), type := 23, pos := "law.go:42", after := #[{ on := 5, ground := Go.Ground.guard }], guard := some (5, false) }) (v := ?vb8) rfl (by kernel_rfl) (by kernel_rfl) (by kernel_rfl) (fun _ _ _ h => h) (Or.inl ⟨by rfl, ?rb8⟩) (by assumption) ?_
          case rb8 => (intro w hSw; (try dsimp only at hSw); (go_simp <;> with_reducible rfl))
          try simp only [Act.put, List.setIfInBounds_toArray, List.set_cons_zero, List.set_cons_succ]
          refine wpAnyH_ready (rs := [7]) (by kernel_rfl) (by simp) ?_
          refine AllReadyH.cons (o := { dst := some 68, op := Go.Op.call { callee := Go.Callee.value (Go.Operand.func 15), args := #[Go.Operand.tmp 67], argTypes := #[34] }, type := 23, pos := "law.go:42", after := #[{ on := 6, ground := Go.Ground.data }, { on := 5, ground := Go.Ground.chain }, { on := 5, ground := Go.Ground.guard }], guard := some (5, false) }) rfl (fun K hK => ?_) AllReadyH.nil
          go_simp
          (go_at_call 15; refine (vSet_any _ (h4).1.out.2.1).mono ?_; rintro e w9 ⟨rfl, rfl⟩)
          first | refine hK.out _ _ ?sb9 (fun h9 => ?_) | (go_wp2_with fail; refine hK.out _ _ ?sb9 (fun h9 => ?_))
          case sb9 => ((try dsimp only); (first | exact HX.out _ _ hgN h4 | exact h4))
          clear hK K h4
          try simp only [Act.put, List.setIfInBounds_toArray, List.set_cons_zero, List.set_cons_succ]
          refine wpAnyH_take (i := 9) (oi := { dst := some 70, op := Go.Op.binOp Go.BinOp.neq 23 (Go.Operand.tmp 68) (Go.Operand.tmp 69) 23, type := 4, pos := "law.go:42", after := #[{ on := 7, ground := Go.Ground.data }, { on := 8, ground := Go.Ground.data }, { on := 5, ground := Go.Ground.guard }], guard := some (5, false) }) (v := ?vb10) rfl (by kernel_rfl) (by kernel_rfl) (by kernel_rfl) (fun _ _ _ h => h) (Or.inl ⟨by rfl, ?rb10⟩) (by assumption) ?_
          case rb10 => (intro w hSw; (try dsimp only at hSw); (go_simp <;> with_reducible rfl))
          try simp only [Act.put, List.setIfInBounds_toArray, List.set_cons_zero, List.set_cons_succ]
          refine wpAnyH_take (i := 10) (oi := { dst := some 71, op := Go.Op.pick (Go.Operand.tmp 66) (Go.Operand.const (Go.Value.bool true)) (Go.Operand.tmp 70), type := 4, pos := "law.go:42", after := #[{ on := 5, ground := Go.Ground.data }, { on := 9, ground := Go.Ground.data }], guard := none }) (v := ?vb11) rfl (by kernel_rfl) (by kernel_rfl) (by kernel_rfl) (fun _ _ _ h => h) (Or.inl ⟨by rfl, ?rb11⟩) (by assumption) ?_
          case rb11 => (intro w hSw; (try dsimp only at hSw); (go_simp <;> with_reducible rfl))
          try simp only [Act.put, List.setIfInBounds_toArray, List.set_cons_zero, List.set_cons_succ]
          refine wpAnyH_take (i := 11) (oi := { dst := some 72, op := Go.Op.move (Go.Operand.tmp 71), type := 4, pos := "law.go:42", after := #[{ on := 10, ground := Go.Ground.data }, { on := 7, ground := Go.Ground.chain }], guard := none }) (v := ?vb12) rfl (by kernel_rfl) (by kernel_rfl) (by kernel_rfl) (fun _ _ _ h => h) (Or.inl ⟨by rfl, ?rb12⟩) (by assumption) ?_
          case rb12 => (intro w hSw; (try dsimp only at hSw); (go_simp <;> with_reducible rfl))
          try simp only [Act.put, List.setIfInBounds_toArray, List.set_cons_zero, List.set_cons_succ]
          refine wpAnyH_take (i := 12) (oi := { dst := some 73, op := Go.Op.move (Go.Operand.tmp 7), type := 34, pos := "law.go:42", after := #[{ on := 11, ground := Go.Ground.guard }], guard := some (11, false) }) (v := ?vb13) rfl (by kernel_rfl) (by kernel_rfl) (by kernel_rfl) (fun _ _ _ h => h) (Or.inl ⟨by rfl, ?rb13⟩) (by assumption) ?_
          case rb13 => (intro w hSw; (try dsimp only at hSw); (go_simp <;> with_reducible rfl))
          try simp only [Act.put, List.setIfInBounds_toArray, List.set_cons_zero, List.set_cons_succ]
          refine wpAnyH_take (i := 14) (oi := { dst := some 75, op := Go.Op.load 32 (Go.Operand.tmp 3), type := 32, pos := "law.go:42", after := #[{ on := 11, ground := Go.Ground.guard }], guard := some (11, false) }) (v := ?vb14) rfl (by kernel_rfl) (by kernel_rfl) (by kernel_rfl) (fun _ _ _ h => h) (Or.inl ⟨by rfl, ?rb14⟩) (by assumption) ?_
          case rb14 => (intro w hSw; (try dsimp only at hSw); (go_simp <;> with_reducible rfl))
          try simp only [Act.put, List.setIfInBounds_toArray, List.set_cons_zero, List.set_cons_succ]
          refine wpAnyH_take (i := 15) (oi := { dst := some 76, op := Go.Op.move (Go.Operand.tmp 9), type := 23, pos := "law.go:42", after := #[{ on := 11, ground := Go.Ground.guard }], guard := some (11, false) }) (v := ?vb15) rfl (by kernel_rfl) (by kernel_rfl) (by kernel_rfl) (fun _ _ _ h => h) (Or.inl ⟨by rfl, ?rb15⟩) (by assumption) ?_
          case rb15 => (intro w hSw; (try dsimp only at hSw); (go_simp <;> with_reducible rfl))
          try simp only [Act.put, List.setIfInBounds_toArray, List.set_cons_zero, List.set_cons_succ]
          refine wpAnyH_take (i := 16) (oi := { dst := some 77, op := Go.Op.load 30 (Go.Operand.tmp 8), type := 30, pos := "law.go:42", after := #[{ on := 11, ground := Go.Ground.guard }], guard := some (11, false) }) (v := ?vb16) rfl (by kernel_rfl) (by kernel_rfl) (by kernel_rfl) (fun _ _ _ h => h) (Or.inl ⟨by rfl, ?rb16⟩) (by assumption) ?_
          case rb16 => (intro w hSw; (try dsimp only at hSw); (go_simp <;> with_reducible rfl))
          try simp only [Act.put, List.setIfInBounds_toArray, List.set_cons_zero, List.set_cons_succ]
          refine wpAnyH_ready (rs := [13]) (by kernel_rfl) (by simp) ?_
          refine AllReadyH.cons (o := { dst := some 74, op := Go.Op.call { callee := Go.Callee.value (Go.Operand.func 16), args := #[Go.Operand.tmp 73], argTypes := #[34] }, type := 4, pos := "law.go:42", after := #[{ on := 12, ground := Go.Ground.data }, { on := 11, ground := Go.Ground.chain }, { on := 11, ground := Go.Ground.guard }], guard := some (11, false) }) rfl (fun K hK => ?_) AllReadyH.nil
          go_simp
          (go_at_call 16; refine (DN.out _ (h9).1.out.2.1).mono ?_; rintro e w9 ⟨rfl, hgN⟩)
          first | refine hK.out _ _ ?sb17 (fun h17 => ?_) | (go_wp2_with fail; refine hK.out _ _ ?sb17 (fun h17 => ?_))
          case sb17 => ((try dsimp only); (first | exact HX.out _ _ hgN h9 | exact h9))
          clear hK K h9
          try simp only [Act.put, List.setIfInBounds_toArray, List.set_cons_zero, List.set_cons_succ]
          refine wpAnyH_ready (rs := [17]) (by kernel_rfl) (by simp) ?_
          refine AllReadyH.cons (o := { dst := some 78, op := Go.Op.call { callee := Go.Callee.value (Go.Operand.func 17), args := #[Go.Operand.tmp 75, Go.Operand.tmp 76, Go.Operand.tmp 77], argTypes := #[32, 23, 30] }, type := 4, pos := "law.go:42", after := #[{ on := 14, ground := Go.Ground.data }, { on := 15, ground := Go.Ground.data }, { on := 16, ground := Go.Ground.data }, { on := 13, ground := Go.Ground.chain }, { on := 11, ground := Go.Ground.guard }], guard := some (11, false) }) rfl (fun K hK => ?_) AllReadyH.nil
          go_simp
          (go_at_call 17; refine (QN.out _).mono ?_; rintro e w9 ⟨rfl, hgN⟩)
          first | refine hK.out _ _ ?sb18 (fun h18 => ?_) | (go_wp2_with fail; refine hK.out _ _ ?sb18 (fun h18 => ?_))
          case sb18 => ((try dsimp only); (first | exact HX.out _ _ hgN h17 | exact h17))
          clear hK K h17
          try simp only [Act.put, List.setIfInBounds_toArray, List.set_cons_zero, List.set_cons_succ]
          refine wpAnyH_take (i := 18) (oi := { dst := some 79, op := Go.Op.binOp Go.BinOp.neq 4 (Go.Operand.tmp 74) (Go.Operand.tmp 78) 4, type := 4, pos := "law.go:42", after := #[{ on := 13, ground := Go.Ground.data }, { on := 17, ground := Go.Ground.data }, { on := 11, ground := Go.Ground.guard }], guard := some (11, false) }) (v := (.bool false)) rfl (by kernel_rfl) (by kernel_rfl) (by kernel_rfl) (fun _ _ _ h => h) (Or.inl ⟨by rfl, ?rb19⟩) (by assumption) ?_
          case rb19 => (intro w hSw; (try dsimp only at hSw); go_simp; all_goals simp)
          try simp only [Act.put, List.setIfInBounds_toArray, List.set_cons_zero, List.set_cons_succ]
          refine wpAnyH_take (i := 19) (oi := { dst := some 80, op := Go.Op.pick (Go.Operand.tmp 72) (Go.Operand.const (Go.Value.bool true)) (Go.Operand.tmp 79), type := 4, pos := "law.go:42", after := #[{ on := 11, ground := Go.Ground.data }, { on := 18, ground := Go.Ground.data }], guard := none }) (v := ?vb20) rfl (by kernel_rfl) (by kernel_rfl) (by kernel_rfl) (fun _ _ _ h => h) (Or.inl ⟨by rfl, ?rb20⟩) (by assumption) ?_
          case rb20 => (intro w hSw; (try dsimp only at hSw); (go_simp <;> with_reducible rfl))
          try simp only [Act.put, List.setIfInBounds_toArray, List.set_cons_zero, List.set_cons_succ]
          refine wpAnyH_take (i := 20) (oi := { dst := some 81, op := Go.Op.move (Go.Operand.tmp 80), type := 4, pos := "law.go:42", after := #[{ on := 19, ground := Go.Ground.data }, { on := 17, ground := Go.Ground.chain }], guard := none }) (v := ?vb21) rfl (by kernel_rfl) (by kernel_rfl) (by kernel_rfl) (fun _ _ _ h => h) (Or.inl ⟨by rfl, ?rb21⟩) (by assumption) ?_
          case rb21 => (intro w hSw; (try dsimp only at hSw); (go_simp <;> with_reducible rfl))
          try simp only [Act.put, List.setIfInBounds_toArray, List.set_cons_zero, List.set_cons_succ]
          refine wpAnyH_take (i := 21) (oi := { dst := some 82, op := Go.Op.move (Go.Operand.tmp 7), type := 34, pos := "law.go:42", after := #[{ on := 20, ground := Go.Ground.guard }], guard := some (20, false) }) (v := ?vb22) rfl (by kernel_rfl) (by kernel_rfl) (by kernel_rfl) (fun _ _ _ h => h) (Or.inl ⟨by rfl, ?rb22⟩) (by assumption) ?_
          case rb22 => (intro w hSw; (try dsimp only at hSw); (go_simp <;> with_reducible rfl))
          try simp only [Act.put, List.setIfInBounds_toArray, List.set_cons_zero, List.set_cons_succ]
          refine wpAnyH_take (i := 23) (oi := { dst := some 84, op := Go.Op.move (Go.Operand.tmp 7), type := 34, pos := "law.go:42", after := #[{ on := 20, ground := Go.Ground.guard }], guard := some (20, false) }) (v := ?vb23) rfl (by kernel_rfl) (by kernel_rfl) (by kernel_rfl) (fun _ _ _ h => h) (Or.inl ⟨by rfl, ?rb23⟩) (by assumption) ?_
          case rb23 => (intro w hSw; (try dsimp only at hSw); (go_simp <;> with_reducible rfl))
          try simp only [Act.put, List.setIfInBounds_toArray, List.set_cons_zero, List.set_cons_succ]
          refine wpAnyH_ready (rs := [22]) (by kernel_rfl) (by simp) ?_
          refine AllReadyH.cons (o := { dst := some 83, op := Go.Op.call { callee := Go.Callee.value (Go.Operand.func 16), args := #[Go.Operand.tmp 82], argTypes := #[34] }, type := 4, pos := "law.go:42", after := #[{ on := 21, ground := Go.Ground.data }, { on := 20, ground := Go.Ground.chain }, { on := 20, ground := Go.Ground.guard }], guard := some (20, false) }) rfl (fun K hK => ?_) AllReadyH.nil
          go_simp
          (go_at_call 16; refine (DN.out _ (h18).1.out.2.1).mono ?_; rintro e w9 ⟨rfl, hgN⟩)
          first | refine hK.out _ _ ?sb24 (fun h24 => ?_) | (go_wp2_with fail; refine hK.out _ _ ?sb24 (fun h24 => ?_))
          case sb24 => ((try dsimp only); (first | exact HX.out _ _ hgN h18 | exact h18))
          clear hK K h18
          try simp only [Act.put, List.setIfInBounds_toArray, List.set_cons_zero, List.set_cons_succ]
          refine wpAnyH_ready (rs := [24]) (by kernel_rfl) (by simp) ?_
          refine AllReadyH.cons (o := { dst := some 85, op := Go.Op.call { callee := Go.Callee.value (Go.Operand.func 18), args := #[Go.Operand.tmp 84], argTypes := #[34] }, type := 3, pos := "law.go:42", after := #[{ on := 23, ground := Go.Ground.data }, { on := 22, ground := Go.Ground.chain }, { on := 20, ground := Go.Ground.guard }], guard := some (20, false) }) rfl (fun K hK => ?_) AllReadyH.nil
          go_simp
          (go_at_call 18; refine (LN.out _ (h24).1.out.2.1 (h24).1.out.2.2).mono ?_; rintro e w9 ⟨rfl, hgN⟩)
          first | refine hK.out _ _ ?sb25 (fun h25 => ?_) | (go_wp2_with fail; refine hK.out _ _ ?sb25 (fun h25 => ?_))
          case sb25 => ((try dsimp only); (first | exact HX.out _ _ hgN h24 | exact h24))
          clear hK K h24
          try simp only [Act.put, List.setIfInBounds_toArray, List.set_cons_zero, List.set_cons_succ]
          refine wpAnyH_take (i := 25) (oi := { dst := some 86, op := Go.Op.binOp Go.BinOp.eql 3 (Go.Operand.tmp 85) (Go.Operand.const (Go.Value.int Go.IntKind.i64 0)) 3, type := 4, pos := "law.go:42", after := #[{ on := 24, ground := Go.Ground.data }, { on := 20, ground := Go.Ground.guard }], guard := some (20, false) }) (v := (.bool qv)) rfl (by kernel_rfl) (by kernel_rfl) (by kernel_rfl) (fun _ _ _ h => h) (Or.inl ⟨by rfl, ?rb26⟩) (by assumption) ?_
          case rb26 => (intro w hSw; (try dsimp only at hSw); go_simp; all_goals simp [HLQ.out])
          try simp only [Act.put, List.setIfInBounds_toArray, List.set_cons_zero, List.set_cons_succ]
          refine wpAnyH_take (i := 26) (oi := { dst := some 87, op := Go.Op.binOp Go.BinOp.neq 4 (Go.Operand.tmp 83) (Go.Operand.tmp 86) 4, type := 4, pos := "law.go:42", after := #[{ on := 22, ground := Go.Ground.data }, { on := 25, ground := Go.Ground.data }, { on := 20, ground := Go.Ground.guard }], guard := some (20, false) }) (v := (.bool false)) rfl (by kernel_rfl) (by kernel_rfl) (by kernel_rfl) (fun _ _ _ h => h) (Or.inl ⟨by rfl, ?rb27⟩) (by assumption) ?_
          case rb27 => (intro w hSw; (try dsimp only at hSw); go_simp; all_goals simp)
          try simp only [Act.put, List.setIfInBounds_toArray, List.set_cons_zero, List.set_cons_succ]
          refine wpAnyH_take (i := 27) (oi := { dst := some 88, op := Go.Op.pick (Go.Operand.tmp 81) (Go.Operand.const (Go.Value.bool true)) (Go.Operand.tmp 87), type := 4, pos := "law.go:42", after := #[{ on := 20, ground := Go.Ground.data }, { on := 26, ground := Go.Ground.data }], guard := none }) (v := ?vb28) rfl (by kernel_rfl) (by kernel_rfl) (by kernel_rfl) (fun _ _ _ h => h) (Or.inl ⟨by rfl, ?rb28⟩) (by assumption) ?_
          case rb28 => (intro w hSw; (try dsimp only at hSw); (go_simp <;> with_reducible rfl))
          try simp only [Act.put, List.setIfInBounds_toArray, List.set_cons_zero, List.set_cons_succ]
          refine wpAnyH_done (by kernel_rfl) ?_ _
          have HE := (h25).1
          have HC := Lib.hid (h25).2
          clear h25
          go_wp2
          go_roundw
          case rel => exact ⟨k + 1, s, by omega, by go_num, rfl, HUL.out, Lib.hid HE.out.2.1, Lib.hid HE.out.1, Lib.hid HE.out.2.2, HC⟩
          case measure => simp [intOf]; omega
        · obtain ⟨m, rfl⟩ := Int.eq_ofNat_of_zero_le hx0
          have hm9 : m < r * p := by omega
          have HH := Lib.hid (has_any s m wr hs32 (by omega))
          have hxm : (m : Int) < (r : Int) * (p : Int) := by rw [hmul]; exact hx
          cases hbt : s.testBit m
          · skip
            rw [hbt] at HH
            have hf : freshB r p s (m : Int) = true := by unfold freshB; rw [show (m : Int).toNat = m from rfl, hbt, decide_eq_true ⟨by omega, hx⟩]; rfl
            have ha : addS r p s (m : Int) = s ||| 2 ^ m := by unfold addS; rw [hf]; rfl
            have AD := Lib.hid (fun w h => vAdd_to HR.out hwx hf ha w h (b := b) (f := f))
            have hp2 : 2 ^ m < 4294967296 := Nat.lt_of_lt_of_le (Nat.pow_lt_pow_right (by decide) (show m < 32 by omega)) (by decide)
            have hw := w32_or s (2 ^ m) hs32 hp2
            have hxx : (2 : Int) ^ m % 4294967296 = ((2 ^ m : Nat) : Int) := by
              obtain ⟨q, e1, e2⟩ : ∃ q : Nat, 2 ^ m = q ∧ (2 : Int) ^ m = (q : Int) := ⟨2 ^ m, rfl, by simp⟩
              rw [e1] at hp2 ⊢; rw [e2]; omega
            rw [← hxx] at hw
            have HUL := Lib.hid (add_lt hs hm9)
            have hm32 : m < 32 := by omega
            generalize s ||| 2 ^ m = u at *
            have HWO := Lib.hid hw
            clear hw hxx hp2 hf ha hwx hs32 hbt hmul hx
            go_wp2_with fail
            refine HH.out.mono ?_
            rintro e w6 ⟨rfl, rfl⟩
            go_wp2_with (simp only [HWO.out])
            have hd := (Gr.refl wr).drew
            have HVd := Lib.hid (HV0.out.gr hd)
            have HGd := Lib.hid (HG0.out.trans hd)
            have HTd := Lib.hid (HT0.out.gr hd)
            have HCd : Hid (wr.drew.cell? ⟨cb, 0, none⟩ = some (.int .i64 (r : Nat)) ∧ wr.drew.cell? ⟨cb, 1, none⟩ = some (.int .i64 (p : Nat)) ∧ wr.drew.cell? ⟨cb, 2, none⟩ = some (.int .u32 (W : Nat)) ∧ wr.drew.cell? ⟨cb, 3, none⟩ = some (.int .i64 (z1 : Nat)) ∧ wr.drew.cell? ⟨cb, 4, none⟩ = some (.int .i64 (n1 : Nat)) ∧ wr.drew.cell? ⟨cb, 5, none⟩ = some (.int .i64 (z2 : Nat)) ∧ wr.drew.cell? ⟨cb, 6, none⟩ = some (.int .i64 (n2 : Nat)) ∧ wr.drew.cell? ⟨kb, 0, none⟩ = some (.int .i64 (z : Nat)) ∧ wr.drew.cell? ⟨kb, 1, none⟩ = some (.int .i64 (n : Nat))) := Lib.hid ⟨hd.cell (HC0.out.1), hd.cell (HC0.out.2.1), hd.cell (HC0.out.2.2.1), hd.cell (HC0.out.2.2.2.1), hd.cell (HC0.out.2.2.2.2.1), hd.cell (HC0.out.2.2.2.2.2.1), hd.cell (HC0.out.2.2.2.2.2.2.1), hd.cell (HC0.out.2.2.2.2.2.2.2.1), hd.cell (HC0.out.2.2.2.2.2.2.2.2)⟩
            clear hd
            have hu32 : u < 4294967296 := Nat.lt_of_lt_of_le HUL.out (Nat.le_trans (Nat.pow_le_pow_right (n := 2) (by decide) h9) (by decide))
            have DN := Lib.hid (DN0.out b u)
            have QN := Lib.hid (QN0.out u hu32)
            have LN := Lib.hid (LN0.out b u HUL.out)
            have HLQ := Lib.hid (KL.out u)
            generalize isQ r p z n u = qv at *
            generalize least r p z n u = lv at *
            have HX : Hid (∀ w0 w9 : World, Gr w0 w9 → (fun w9 => Hid (Gr w w9 ∧ VtIs w9 b r p W z1 n1 z2 n2 f u ∧ TB w9) ∧ w9.cell? ⟨cb, 0, none⟩ = some (.int .i64 (r : Nat)) ∧ w9.cell? ⟨cb, 1, none⟩ = some (.int .i64 (p : Nat)) ∧ w9.cell? ⟨cb, 2, none⟩ = some (.int .u32 (W : Nat)) ∧ w9.cell? ⟨cb, 3, none⟩ = some (.int .i64 (z1 : Nat)) ∧ w9.cell? ⟨cb, 4, none⟩ = some (.int .i64 (n1 : Nat)) ∧ w9.cell? ⟨cb, 5, none⟩ = some (.int .i64 (z2 : Nat)) ∧ w9.cell? ⟨cb, 6, none⟩ = some (.int .i64 (n2 : Nat)) ∧ w9.cell? ⟨kb, 0, none⟩ = some (.int .i64 (z : Nat)) ∧ w9.cell? ⟨kb, 1, none⟩ = some (.int .i64 (n : Nat))) w0 → (fun w9 => Hid (Gr w w9 ∧ VtIs w9 b r p W z1 n1 z2 n2 f u ∧ TB w9) ∧ w9.cell? ⟨cb, 0, none⟩ = some (.int .i64 (r : Nat)) ∧ w9.cell? ⟨cb, 1, none⟩ = some (.int .i64 (p : Nat)) ∧ w9.cell? ⟨cb, 2, none⟩ = some (.int .u32 (W : Nat)) ∧ w9.cell? ⟨cb, 3, none⟩ = some (.int .i64 (z1 : Nat)) ∧ w9.cell? ⟨cb, 4, none⟩ = some (.int .i64 (n1 : Nat)) ∧ w9.cell? ⟨cb, 5, none⟩ = some (.int .i64 (z2 : Nat)) ∧ w9.cell? ⟨cb, 6, none⟩ = some (.int .i64 (n2 : Nat)) ∧ w9.cell? ⟨kb, 0, none⟩ = some (.int .i64 (z : Nat)) ∧ w9.cell? ⟨kb, 1, none⟩ = some (.int .i64 (n : Nat))) w9) := Lib.hid fun w0 w9 hg ⟨h, q0, q1, q2, q3, q4, q5, q6, q7, q8⟩ => ⟨Lib.hid ⟨h.out.1.trans hg, h.out.2.1.gr hg, h.out.2.2.gr hg⟩, hg.cell q0, hg.cell q1, hg.cell q2, hg.cell q3, hg.cell q4, hg.cell q5, hg.cell q6, hg.cell q7, hg.cell q8⟩
            clear hu32 c0 q0 q1 m0 m1
            refine wp_region_held_drew (S := (fun _ : World => True)) (by kernel_rfl) ?invd (fun h0 => ?_)
            case invd => ((try dsimp only); all_goals trivial)
            refine wpAnyH_take (i := 0) (oi := { dst := some 61, op := Go.Op.move (Go.Operand.tmp 7), type := 34, pos := "law.go:42", after := #[], guard := none }) (v := ?vd1) rfl (by kernel_rfl) (by kernel_rfl) (by kernel_rfl) (fun _ _ _ h => h) (Or.inl ⟨by rfl, ?rd1⟩) (by assumption) ?_
            case rd1 => (intro w hSw; (try dsimp only at hSw); (go_simp <;> with_reducible rfl))
            try simp only [Act.put, List.setIfInBounds_toArray, List.set_cons_zero, List.set_cons_succ]
            refine wpAnyH_take (i := 1) (oi := { dst := some 62, op := Go.Op.move (Go.Operand.tmp 11), type := 3, pos := "law.go:42", after := #[], guard := none }) (v := ?vd2) rfl (by kernel_rfl) (by kernel_rfl) (by kernel_rfl) (fun _ _ _ h => h) (Or.inl ⟨by rfl, ?rd2⟩) (by assumption) ?_
            case rd2 => (intro w hSw; (try dsimp only at hSw); (go_simp <;> with_reducible rfl))
            try simp only [Act.put, List.setIfInBounds_toArray, List.set_cons_zero, List.set_cons_succ]
            refine wpAnyH_take (i := 3) (oi := { dst := some 64, op := Go.Op.move (Go.Operand.tmp 12), type := 4, pos := "law.go:42", after := #[], guard := none }) (v := ?vd3) rfl (by kernel_rfl) (by kernel_rfl) (by kernel_rfl) (fun _ _ _ h => h) (Or.inl ⟨by rfl, ?rd3⟩) (by assumption) ?_
            case rd3 => (intro w hSw; (try dsimp only at hSw); (go_simp <;> with_reducible rfl))
            try simp only [Act.put, List.setIfInBounds_toArray, List.set_cons_zero, List.set_cons_succ]
            refine wpAnyH_ready (rs := [2]) (by kernel_rfl) (by simp) ?_
            refine AllReadyH.cons (o := { dst := some 63, op := Go.Op.call { callee := Go.Callee.value (Go.Operand.func 14), args := #[Go.Operand.tmp 61, Go.Operand.tmp 62], argTypes := #[34, 3] }, type := 4, pos := "law.go:42", after := #[{ on := 0, ground := Go.Ground.data }, { on := 1, ground := Go.Ground.data }], guard := none }) rfl (fun K hK => ?_) AllReadyH.nil
            go_simp
            (go_at_call 14; refine (AD.out _ (HVd.out)).mono ?_; rintro e w9 ⟨rfl, hvN, hsN⟩)
            have h4 : (fun w9 => Hid (Gr w w9 ∧ VtIs w9 b r p W z1 n1 z2 n2 f u ∧ TB w9) ∧ w9.cell? ⟨cb, 0, none⟩ = some (.int .i64 (r : Nat)) ∧ w9.cell? ⟨cb, 1, none⟩ = some (.int .i64 (p : Nat)) ∧ w9.cell? ⟨cb, 2, none⟩ = some (.int .u32 (W : Nat)) ∧ w9.cell? ⟨cb, 3, none⟩ = some (.int .i64 (z1 : Nat)) ∧ w9.cell? ⟨cb, 4, none⟩ = some (.int .i64 (n1 : Nat)) ∧ w9.cell? ⟨cb, 5, none⟩ = some (.int .i64 (z2 : Nat)) ∧ w9.cell? ⟨cb, 6, none⟩ = some (.int .i64 (n2 : Nat)) ∧ w9.cell? ⟨kb, 0, none⟩ = some (.int .i64 (z : Nat)) ∧ w9.cell? ⟨kb, 1, none⟩ = some (.int .i64 (n : Nat))) _ := ⟨Lib.hid ⟨hsN.gr HGd.out HBW.out, hvN, HTd.out.sole hsN HNE.out⟩, hsN.cell HCB.out (HCd.out.1), hsN.cell HCB.out (HCd.out.2.1), hsN.cell HCB.out (HCd.out.2.2.1), hsN.cell HCB.out (HCd.out.2.2.2.1), hsN.cell HCB.out (HCd.out.2.2.2.2.1), hsN.cell HCB.out (HCd.out.2.2.2.2.2.1), hsN.cell HCB.out (HCd.out.2.2.2.2.2.2.1), hsN.cell HKB.out (HCd.out.2.2.2.2.2.2.2.1), hsN.cell HKB.out (HCd.out.2.2.2.2.2.2.2.2)⟩
            first | refine hK.out _ _ trivial (fun _ => held_true (fun w9 => Hid (Gr w w9 ∧ VtIs w9 b r p W z1 n1 z2 n2 f u ∧ TB w9) ∧ w9.cell? ⟨cb, 0, none⟩ = some (.int .i64 (r : Nat)) ∧ w9.cell? ⟨cb, 1, none⟩ = some (.int .i64 (p : Nat)) ∧ w9.cell? ⟨cb, 2, none⟩ = some (.int .u32 (W : Nat)) ∧ w9.cell? ⟨cb, 3, none⟩ = some (.int .i64 (z1 : Nat)) ∧ w9.cell? ⟨cb, 4, none⟩ = some (.int .i64 (n1 : Nat)) ∧ w9.cell? ⟨cb, 5, none⟩ = some (.int .i64 (z2 : Nat)) ∧ w9.cell? ⟨cb, 6, none⟩ = some (.int .i64 (n2 : Nat)) ∧ w9.cell? ⟨kb, 0, none⟩ = some (.int .i64 (z : Nat)) ∧ w9.cell? ⟨kb, 1, none⟩ = some (.int .i64 (n : Nat))) _ _ _ _ ?_) | (go_wp2_with fail; refine hK.out _ _ trivial (fun _ => held_true (fun w9 => Hid (Gr w w9 ∧ VtIs w9 b r p W z1 n1 z2 n2 f u ∧ TB w9) ∧ w9.cell? ⟨cb, 0, none⟩ = some (.int .i64 (r : Nat)) ∧ w9.cell? ⟨cb, 1, none⟩ = some (.int .i64 (p : Nat)) ∧ w9.cell? ⟨cb, 2, none⟩ = some (.int .u32 (W : Nat)) ∧ w9.cell? ⟨cb, 3, none⟩ = some (.int .i64 (z1 : Nat)) ∧ w9.cell? ⟨cb, 4, none⟩ = some (.int .i64 (n1 : Nat)) ∧ w9.cell? ⟨cb, 5, none⟩ = some (.int .i64 (z2 : Nat)) ∧ w9.cell? ⟨cb, 6, none⟩ = some (.int .i64 (n2 : Nat)) ∧ w9.cell? ⟨kb, 0, none⟩ = some (.int .i64 (z : Nat)) ∧ w9.cell? ⟨kb, 1, none⟩ = some (.int .i64 (n : Nat))) _ _ _ _ ?_))
            clear hK K h0
            try simp only [Act.put, List.setIfInBounds_toArray, List.set_cons_zero, List.set_cons_succ]
            refine wpAnyH_take (i := 4) (oi := { dst := some 65, op := Go.Op.binOp Go.BinOp.neq 4 (Go.Operand.tmp 63) (Go.Operand.tmp 64) 4, type := 4, pos := "law.go:42", after := #[{ on := 2, ground := Go.Ground.data }, { on := 3, ground := Go.Ground.data }], guard := none }) (v := ?vd5) rfl (by kernel_rfl) (by kernel_rfl) (by kernel_rfl) (fun _ _ _ h => h) (Or.inl ⟨by rfl, ?rd5⟩) (by assumption) ?_
            case rd5 => (intro w hSw; (try dsimp only at hSw); (go_simp <;> with_reducible rfl))
            try simp only [Act.put, List.setIfInBounds_toArray, List.set_cons_zero, List.set_cons_succ]
            refine wpAnyH_take (i := 5) (oi := { dst := some 66, op := Go.Op.move (Go.Operand.tmp 65), type := 4, pos := "law.go:42", after := #[{ on := 4, ground := Go.Ground.data }, { on := 2, ground := Go.Ground.chain }], guard := none }) (v := ?vd6) rfl (by kernel_rfl) (by kernel_rfl) (by kernel_rfl) (fun _ _ _ h => h) (Or.inl ⟨by rfl, ?rd6⟩) (by assumption) ?_
            case rd6 => (intro w hSw; (try dsimp only at hSw); (go_simp <;> with_reducible rfl))
            try simp only [Act.put, List.setIfInBounds_toArray, List.set_cons_zero, List.set_cons_succ]
            refine wpAnyH_take (i := 6) (oi := { dst := some 67, op := Go.Op.move (Go.Operand.tmp 7), type := 34, pos := "law.go:42", after := #[{ on := 5, ground := Go.Ground.guard }], guard := some (5, false) }) (v := ?vd7) rfl (by kernel_rfl) (by kernel_rfl) (by kernel_rfl) (fun _ _ _ h => h) (Or.inl ⟨by rfl, ?rd7⟩) (by assumption) ?_
            case rd7 => (intro w hSw; (try dsimp only at hSw); (go_simp <;> with_reducible rfl))
            try simp only [Act.put, List.setIfInBounds_toArray, List.set_cons_zero, List.set_cons_succ]
            refine wpAnyH_take (i := 8) (oi := { dst := some 69, op := Go.Op.move (Go.Operand.tmp 9), type := 23, pos := "law.go:42", after := #[{ on := 5, ground := Go.Ground.guard }], guard := some (5, false) }) (v := ?vd8) rfl (by kernel_rfl) (by kernel_rfl) (by kernel_rfl) (fun _ _ _ h => h) (Or.inl ⟨by rfl, ?rd8⟩) (by assumption) ?_
            case rd8 => (intro w hSw; (try dsimp only at hSw); (go_simp <;> with_reducible rfl))
            try simp only [Act.put, List.setIfInBounds_toArray, List.set_cons_zero, List.set_cons_succ]
            refine wpAnyH_ready (rs := [7]) (by kernel_rfl) (by simp) ?_
            refine AllReadyH.cons (o := { dst := some 68, op := Go.Op.call { callee := Go.Callee.value (Go.Operand.func 15), args := #[Go.Operand.tmp 67], argTypes := #[34] }, type := 23, pos := "law.go:42", after := #[{ on := 6, ground := Go.Ground.data }, { on := 5, ground := Go.Ground.chain }, { on := 5, ground := Go.Ground.guard }], guard := some (5, false) }) rfl (fun K hK => ?_) AllReadyH.nil
            go_simp
            (go_at_call 15; refine (vSet_any _ (h4).1.out.2.1).mono ?_; rintro e w9 ⟨rfl, rfl⟩)
            first | refine hK.out _ _ ?sd9 (fun h9 => ?_) | (go_wp2_with fail; refine hK.out _ _ ?sd9 (fun h9 => ?_))
            case sd9 => ((try dsimp only); (first | exact HX.out _ _ hgN h4 | exact h4))
            clear hK K h4
            try simp only [Act.put, List.setIfInBounds_toArray, List.set_cons_zero, List.set_cons_succ]
            refine wpAnyH_take (i := 9) (oi := { dst := some 70, op := Go.Op.binOp Go.BinOp.neq 23 (Go.Operand.tmp 68) (Go.Operand.tmp 69) 23, type := 4, pos := "law.go:42", after := #[{ on := 7, ground := Go.Ground.data }, { on := 8, ground := Go.Ground.data }, { on := 5, ground := Go.Ground.guard }], guard := some (5, false) }) (v := ?vd10) rfl (by kernel_rfl) (by kernel_rfl) (by kernel_rfl) (fun _ _ _ h => h) (Or.inl ⟨by rfl, ?rd10⟩) (by assumption) ?_
            case rd10 => (intro w hSw; (try dsimp only at hSw); (go_simp <;> with_reducible rfl))
            try simp only [Act.put, List.setIfInBounds_toArray, List.set_cons_zero, List.set_cons_succ]
            refine wpAnyH_take (i := 10) (oi := { dst := some 71, op := Go.Op.pick (Go.Operand.tmp 66) (Go.Operand.const (Go.Value.bool true)) (Go.Operand.tmp 70), type := 4, pos := "law.go:42", after := #[{ on := 5, ground := Go.Ground.data }, { on := 9, ground := Go.Ground.data }], guard := none }) (v := ?vd11) rfl (by kernel_rfl) (by kernel_rfl) (by kernel_rfl) (fun _ _ _ h => h) (Or.inl ⟨by rfl, ?rd11⟩) (by assumption) ?_
            case rd11 => (intro w hSw; (try dsimp only at hSw); (go_simp <;> with_reducible rfl))
            try simp only [Act.put, List.setIfInBounds_toArray, List.set_cons_zero, List.set_cons_succ]
            refine wpAnyH_take (i := 11) (oi := { dst := some 72, op := Go.Op.move (Go.Operand.tmp 71), type := 4, pos := "law.go:42", after := #[{ on := 10, ground := Go.Ground.data }, { on := 7, ground := Go.Ground.chain }], guard := none }) (v := ?vd12) rfl (by kernel_rfl) (by kernel_rfl) (by kernel_rfl) (fun _ _ _ h => h) (Or.inl ⟨by rfl, ?rd12⟩) (by assumption) ?_
            case rd12 => (intro w hSw; (try dsimp only at hSw); (go_simp <;> with_reducible rfl))
            try simp only [Act.put, List.setIfInBounds_toArray, List.set_cons_zero, List.set_cons_succ]
            refine wpAnyH_take (i := 12) (oi := { dst := some 73, op := Go.Op.move (Go.Operand.tmp 7), type := 34, pos := "law.go:42", after := #[{ on := 11, ground := Go.Ground.guard }], guard := some (11, false) }) (v := ?vd13) rfl (by kernel_rfl) (by kernel_rfl) (by kernel_rfl) (fun _ _ _ h => h) (Or.inl ⟨by rfl, ?rd13⟩) (by assumption) ?_
            case rd13 => (intro w hSw; (try dsimp only at hSw); (go_simp <;> with_reducible rfl))
            try simp only [Act.put, List.setIfInBounds_toArray, List.set_cons_zero, List.set_cons_succ]
            refine wpAnyH_take (i := 14) (oi := { dst := some 75, op := Go.Op.load 32 (Go.Operand.tmp 3), type := 32, pos := "law.go:42", after := #[{ on := 11, ground := Go.Ground.guard }], guard := some (11, false) }) (v := ?vd14) rfl (by kernel_rfl) (by kernel_rfl) (by kernel_rfl) (fun _ _ _ h => h) (Or.inl ⟨by rfl, ?rd14⟩) (by assumption) ?_
            case rd14 => (intro w hSw; (try dsimp only at hSw); (go_simp <;> with_reducible rfl))
            try simp only [Act.put, List.setIfInBounds_toArray, List.set_cons_zero, List.set_cons_succ]
            refine wpAnyH_take (i := 15) (oi := { dst := some 76, op := Go.Op.move (Go.Operand.tmp 9), type := 23, pos := "law.go:42", after := #[{ on := 11, ground := Go.Ground.guard }], guard := some (11, false) }) (v := ?vd15) rfl (by kernel_rfl) (by kernel_rfl) (by kernel_rfl) (fun _ _ _ h => h) (Or.inl ⟨by rfl, ?rd15⟩) (by assumption) ?_
            case rd15 => (intro w hSw; (try dsimp only at hSw); (go_simp <;> with_reducible rfl))
            try simp only [Act.put, List.setIfInBounds_toArray, List.set_cons_zero, List.set_cons_succ]
            refine wpAnyH_take (i := 16) (oi := { dst := some 77, op := Go.Op.load 30 (Go.Operand.tmp 8), type := 30, pos := "law.go:42", after := #[{ on := 11, ground := Go.Ground.guard }], guard := some (11, false) }) (v := ?vd16) rfl (by kernel_rfl) (by kernel_rfl) (by kernel_rfl) (fun _ _ _ h => h) (Or.inl ⟨by rfl, ?rd16⟩) (by assumption) ?_
            case rd16 => (intro w hSw; (try dsimp only at hSw); (go_simp <;> with_reducible rfl))
            try simp only [Act.put, List.setIfInBounds_toArray, List.set_cons_zero, List.set_cons_succ]
            refine wpAnyH_ready (rs := [13]) (by kernel_rfl) (by simp) ?_
            refine AllReadyH.cons (o := { dst := some 74, op := Go.Op.call { callee := Go.Callee.value (Go.Operand.func 16), args := #[Go.Operand.tmp 73], argTypes := #[34] }, type := 4, pos := "law.go:42", after := #[{ on := 12, ground := Go.Ground.data }, { on := 11, ground := Go.Ground.chain }, { on := 11, ground := Go.Ground.guard }], guard := some (11, false) }) rfl (fun K hK => ?_) AllReadyH.nil
            go_simp
            (go_at_call 16; refine (DN.out _ (h9).1.out.2.1).mono ?_; rintro e w9 ⟨rfl, hgN⟩)
            first | refine hK.out _ _ ?sd17 (fun h17 => ?_) | (go_wp2_with fail; refine hK.out _ _ ?sd17 (fun h17 => ?_))
            case sd17 => ((try dsimp only); (first | exact HX.out _ _ hgN h9 | exact h9))
            clear hK K h9
            try simp only [Act.put, List.setIfInBounds_toArray, List.set_cons_zero, List.set_cons_succ]
            refine wpAnyH_ready (rs := [17]) (by kernel_rfl) (by simp) ?_
            refine AllReadyH.cons (o := { dst := some 78, op := Go.Op.call { callee := Go.Callee.value (Go.Operand.func 17), args := #[Go.Operand.tmp 75, Go.Operand.tmp 76, Go.Operand.tmp 77], argTypes := #[32, 23, 30] }, type := 4, pos := "law.go:42", after := #[{ on := 14, ground := Go.Ground.data }, { on := 15, ground := Go.Ground.data }, { on := 16, ground := Go.Ground.data }, { on := 13, ground := Go.Ground.chain }, { on := 11, ground := Go.Ground.guard }], guard := some (11, false) }) rfl (fun K hK => ?_) AllReadyH.nil
            go_simp
            (go_at_call 17; refine (QN.out _).mono ?_; rintro e w9 ⟨rfl, hgN⟩)
            first | refine hK.out _ _ ?sd18 (fun h18 => ?_) | (go_wp2_with fail; refine hK.out _ _ ?sd18 (fun h18 => ?_))
            case sd18 => ((try dsimp only); (first | exact HX.out _ _ hgN h17 | exact h17))
            clear hK K h17
            try simp only [Act.put, List.setIfInBounds_toArray, List.set_cons_zero, List.set_cons_succ]
            refine wpAnyH_take (i := 18) (oi := { dst := some 79, op := Go.Op.binOp Go.BinOp.neq 4 (Go.Operand.tmp 74) (Go.Operand.tmp 78) 4, type := 4, pos := "law.go:42", after := #[{ on := 13, ground := Go.Ground.data }, { on := 17, ground := Go.Ground.data }, { on := 11, ground := Go.Ground.guard }], guard := some (11, false) }) (v := (.bool false)) rfl (by kernel_rfl) (by kernel_rfl) (by kernel_rfl) (fun _ _ _ h => h) (Or.inl ⟨by rfl, ?rd19⟩) (by assumption) ?_
            case rd19 => (intro w hSw; (try dsimp only at hSw); go_simp; all_goals simp)
            try simp only [Act.put, List.setIfInBounds_toArray, List.set_cons_zero, List.set_cons_succ]
            refine wpAnyH_take (i := 19) (oi := { dst := some 80, op := Go.Op.pick (Go.Operand.tmp 72) (Go.Operand.const (Go.Value.bool true)) (Go.Operand.tmp 79), type := 4, pos := "law.go:42", after := #[{ on := 11, ground := Go.Ground.data }, { on := 18, ground := Go.Ground.data }], guard := none }) (v := ?vd20) rfl (by kernel_rfl) (by kernel_rfl) (by kernel_rfl) (fun _ _ _ h => h) (Or.inl ⟨by rfl, ?rd20⟩) (by assumption) ?_
            case rd20 => (intro w hSw; (try dsimp only at hSw); (go_simp <;> with_reducible rfl))
            try simp only [Act.put, List.setIfInBounds_toArray, List.set_cons_zero, List.set_cons_succ]
            refine wpAnyH_take (i := 20) (oi := { dst := some 81, op := Go.Op.move (Go.Operand.tmp 80), type := 4, pos := "law.go:42", after := #[{ on := 19, ground := Go.Ground.data }, { on := 17, ground := Go.Ground.chain }], guard := none }) (v := ?vd21) rfl (by kernel_rfl) (by kernel_rfl) (by kernel_rfl) (fun _ _ _ h => h) (Or.inl ⟨by rfl, ?rd21⟩) (by assumption) ?_
            case rd21 => (intro w hSw; (try dsimp only at hSw); (go_simp <;> with_reducible rfl))
            try simp only [Act.put, List.setIfInBounds_toArray, List.set_cons_zero, List.set_cons_succ]
            refine wpAnyH_take (i := 21) (oi := { dst := some 82, op := Go.Op.move (Go.Operand.tmp 7), type := 34, pos := "law.go:42", after := #[{ on := 20, ground := Go.Ground.guard }], guard := some (20, false) }) (v := ?vd22) rfl (by kernel_rfl) (by kernel_rfl) (by kernel_rfl) (fun _ _ _ h => h) (Or.inl ⟨by rfl, ?rd22⟩) (by assumption) ?_
            case rd22 => (intro w hSw; (try dsimp only at hSw); (go_simp <;> with_reducible rfl))
            try simp only [Act.put, List.setIfInBounds_toArray, List.set_cons_zero, List.set_cons_succ]
            refine wpAnyH_take (i := 23) (oi := { dst := some 84, op := Go.Op.move (Go.Operand.tmp 7), type := 34, pos := "law.go:42", after := #[{ on := 20, ground := Go.Ground.guard }], guard := some (20, false) }) (v := ?vd23) rfl (by kernel_rfl) (by kernel_rfl) (by kernel_rfl) (fun _ _ _ h => h) (Or.inl ⟨by rfl, ?rd23⟩) (by assumption) ?_
            case rd23 => (intro w hSw; (try dsimp only at hSw); (go_simp <;> with_reducible rfl))
            try simp only [Act.put, List.setIfInBounds_toArray, List.set_cons_zero, List.set_cons_succ]
            refine wpAnyH_ready (rs := [22]) (by kernel_rfl) (by simp) ?_
            refine AllReadyH.cons (o := { dst := some 83, op := Go.Op.call { callee := Go.Callee.value (Go.Operand.func 16), args := #[Go.Operand.tmp 82], argTypes := #[34] }, type := 4, pos := "law.go:42", after := #[{ on := 21, ground := Go.Ground.data }, { on := 20, ground := Go.Ground.chain }, { on := 20, ground := Go.Ground.guard }], guard := some (20, false) }) rfl (fun K hK => ?_) AllReadyH.nil
            go_simp
            (go_at_call 16; refine (DN.out _ (h18).1.out.2.1).mono ?_; rintro e w9 ⟨rfl, hgN⟩)
            first | refine hK.out _ _ ?sd24 (fun h24 => ?_) | (go_wp2_with fail; refine hK.out _ _ ?sd24 (fun h24 => ?_))
            case sd24 => ((try dsimp only); (first | exact HX.out _ _ hgN h18 | exact h18))
            clear hK K h18
            try simp only [Act.put, List.setIfInBounds_toArray, List.set_cons_zero, List.set_cons_succ]
            refine wpAnyH_ready (rs := [24]) (by kernel_rfl) (by simp) ?_
            refine AllReadyH.cons (o := { dst := some 85, op := Go.Op.call { callee := Go.Callee.value (Go.Operand.func 18), args := #[Go.Operand.tmp 84], argTypes := #[34] }, type := 3, pos := "law.go:42", after := #[{ on := 23, ground := Go.Ground.data }, { on := 22, ground := Go.Ground.chain }, { on := 20, ground := Go.Ground.guard }], guard := some (20, false) }) rfl (fun K hK => ?_) AllReadyH.nil
            go_simp
            (go_at_call 18; refine (LN.out _ (h24).1.out.2.1 (h24).1.out.2.2).mono ?_; rintro e w9 ⟨rfl, hgN⟩)
            first | refine hK.out _ _ ?sd25 (fun h25 => ?_) | (go_wp2_with fail; refine hK.out _ _ ?sd25 (fun h25 => ?_))
            case sd25 => ((try dsimp only); (first | exact HX.out _ _ hgN h24 | exact h24))
            clear hK K h24
            try simp only [Act.put, List.setIfInBounds_toArray, List.set_cons_zero, List.set_cons_succ]
            refine wpAnyH_take (i := 25) (oi := { dst := some 86, op := Go.Op.binOp Go.BinOp.eql 3 (Go.Operand.tmp 85) (Go.Operand.const (Go.Value.int Go.IntKind.i64 0)) 3, type := 4, pos := "law.go:42", after := #[{ on := 24, ground := Go.Ground.data }, { on := 20, ground := Go.Ground.guard }], guard := some (20, false) }) (v := (.bool qv)) rfl (by kernel_rfl) (by kernel_rfl) (by kernel_rfl) (fun _ _ _ h => h) (Or.inl ⟨by rfl, ?rd26⟩) (by assumption) ?_
            case rd26 => (intro w hSw; (try dsimp only at hSw); go_simp; all_goals simp [HLQ.out])
            try simp only [Act.put, List.setIfInBounds_toArray, List.set_cons_zero, List.set_cons_succ]
            refine wpAnyH_take (i := 26) (oi := { dst := some 87, op := Go.Op.binOp Go.BinOp.neq 4 (Go.Operand.tmp 83) (Go.Operand.tmp 86) 4, type := 4, pos := "law.go:42", after := #[{ on := 22, ground := Go.Ground.data }, { on := 25, ground := Go.Ground.data }, { on := 20, ground := Go.Ground.guard }], guard := some (20, false) }) (v := (.bool false)) rfl (by kernel_rfl) (by kernel_rfl) (by kernel_rfl) (fun _ _ _ h => h) (Or.inl ⟨by rfl, ?rd27⟩) (by assumption) ?_
            case rd27 => (intro w hSw; (try dsimp only at hSw); go_simp; all_goals simp)
            try simp only [Act.put, List.setIfInBounds_toArray, List.set_cons_zero, List.set_cons_succ]
            refine wpAnyH_take (i := 27) (oi := { dst := some 88, op := Go.Op.pick (Go.Operand.tmp 81) (Go.Operand.const (Go.Value.bool true)) (Go.Operand.tmp 87), type := 4, pos := "law.go:42", after := #[{ on := 20, ground := Go.Ground.data }, { on := 26, ground := Go.Ground.data }], guard := none }) (v := ?vd28) rfl (by kernel_rfl) (by kernel_rfl) (by kernel_rfl) (fun _ _ _ h => h) (Or.inl ⟨by rfl, ?rd28⟩) (by assumption) ?_
            case rd28 => (intro w hSw; (try dsimp only at hSw); (go_simp <;> with_reducible rfl))
            try simp only [Act.put, List.setIfInBounds_toArray, List.set_cons_zero, List.set_cons_succ]
            refine wpAnyH_done (by kernel_rfl) ?_ _
            have HE := (h25).1
            have HC := Lib.hid (h25).2
            clear h25
            go_wp2
            go_roundw
            case rel => exact ⟨k + 1, u, by omega, by go_num, rfl, HUL.out, Lib.hid HE.out.2.1, Lib.hid HE.out.1, Lib.hid HE.out.2.2, HC⟩
            case measure => simp [intOf]; omega
          · skip
            rw [hbt] at HH
            have hf : freshB r p s (m : Int) = false := by unfold freshB; rw [show (m : Int).toNat = m from rfl, hbt]; simp
            have ha : addS r p s (m : Int) = s := by unfold addS; rw [hf]; simp
            have AD := Lib.hid (fun w h => vAdd_to HR.out hwx hf ha w h (b := b) (f := f))
            clear hf ha hwx hs hs32 hbt hmul hx
            go_wp2_with fail
            refine HH.out.mono ?_
            rintro e w6 ⟨rfl, rfl⟩
            go_wp2
            have hd := (Gr.refl wr).drew
            have HVd := Lib.hid (HV0.out.gr hd)
            have HGd := Lib.hid (HG0.out.trans hd)
            have HTd := Lib.hid (HT0.out.gr hd)
            have HCd : Hid (wr.drew.cell? ⟨cb, 0, none⟩ = some (.int .i64 (r : Nat)) ∧ wr.drew.cell? ⟨cb, 1, none⟩ = some (.int .i64 (p : Nat)) ∧ wr.drew.cell? ⟨cb, 2, none⟩ = some (.int .u32 (W : Nat)) ∧ wr.drew.cell? ⟨cb, 3, none⟩ = some (.int .i64 (z1 : Nat)) ∧ wr.drew.cell? ⟨cb, 4, none⟩ = some (.int .i64 (n1 : Nat)) ∧ wr.drew.cell? ⟨cb, 5, none⟩ = some (.int .i64 (z2 : Nat)) ∧ wr.drew.cell? ⟨cb, 6, none⟩ = some (.int .i64 (n2 : Nat)) ∧ wr.drew.cell? ⟨kb, 0, none⟩ = some (.int .i64 (z : Nat)) ∧ wr.drew.cell? ⟨kb, 1, none⟩ = some (.int .i64 (n : Nat))) := Lib.hid ⟨hd.cell (HC0.out.1), hd.cell (HC0.out.2.1), hd.cell (HC0.out.2.2.1), hd.cell (HC0.out.2.2.2.1), hd.cell (HC0.out.2.2.2.2.1), hd.cell (HC0.out.2.2.2.2.2.1), hd.cell (HC0.out.2.2.2.2.2.2.1), hd.cell (HC0.out.2.2.2.2.2.2.2.1), hd.cell (HC0.out.2.2.2.2.2.2.2.2)⟩
            clear hd
            have hu32 : s < 4294967296 := Nat.lt_of_lt_of_le HUL.out (Nat.le_trans (Nat.pow_le_pow_right (n := 2) (by decide) h9) (by decide))
            have DN := Lib.hid (DN0.out b s)
            have QN := Lib.hid (QN0.out s hu32)
            have LN := Lib.hid (LN0.out b s HUL.out)
            have HLQ := Lib.hid (KL.out s)
            generalize isQ r p z n s = qv at *
            generalize least r p z n s = lv at *
            have HX : Hid (∀ w0 w9 : World, Gr w0 w9 → (fun w9 => Hid (Gr w w9 ∧ VtIs w9 b r p W z1 n1 z2 n2 f s ∧ TB w9) ∧ w9.cell? ⟨cb, 0, none⟩ = some (.int .i64 (r : Nat)) ∧ w9.cell? ⟨cb, 1, none⟩ = some (.int .i64 (p : Nat)) ∧ w9.cell? ⟨cb, 2, none⟩ = some (.int .u32 (W : Nat)) ∧ w9.cell? ⟨cb, 3, none⟩ = some (.int .i64 (z1 : Nat)) ∧ w9.cell? ⟨cb, 4, none⟩ = some (.int .i64 (n1 : Nat)) ∧ w9.cell? ⟨cb, 5, none⟩ = some (.int .i64 (z2 : Nat)) ∧ w9.cell? ⟨cb, 6, none⟩ = some (.int .i64 (n2 : Nat)) ∧ w9.cell? ⟨kb, 0, none⟩ = some (.int .i64 (z : Nat)) ∧ w9.cell? ⟨kb, 1, none⟩ = some (.int .i64 (n : Nat))) w0 → (fun w9 => Hid (Gr w w9 ∧ VtIs w9 b r p W z1 n1 z2 n2 f s ∧ TB w9) ∧ w9.cell? ⟨cb, 0, none⟩ = some (.int .i64 (r : Nat)) ∧ w9.cell? ⟨cb, 1, none⟩ = some (.int .i64 (p : Nat)) ∧ w9.cell? ⟨cb, 2, none⟩ = some (.int .u32 (W : Nat)) ∧ w9.cell? ⟨cb, 3, none⟩ = some (.int .i64 (z1 : Nat)) ∧ w9.cell? ⟨cb, 4, none⟩ = some (.int .i64 (n1 : Nat)) ∧ w9.cell? ⟨cb, 5, none⟩ = some (.int .i64 (z2 : Nat)) ∧ w9.cell? ⟨cb, 6, none⟩ = some (.int .i64 (n2 : Nat)) ∧ w9.cell? ⟨kb, 0, none⟩ = some (.int .i64 (z : Nat)) ∧ w9.cell? ⟨kb, 1, none⟩ = some (.int .i64 (n : Nat))) w9) := Lib.hid fun w0 w9 hg ⟨h, q0, q1, q2, q3, q4, q5, q6, q7, q8⟩ => ⟨Lib.hid ⟨h.out.1.trans hg, h.out.2.1.gr hg, h.out.2.2.gr hg⟩, hg.cell q0, hg.cell q1, hg.cell q2, hg.cell q3, hg.cell q4, hg.cell q5, hg.cell q6, hg.cell q7, hg.cell q8⟩
            clear hu32 c0 q0 q1 m0 m1
            refine wp_region_held_drew (S := (fun _ : World => True)) (by kernel_rfl) ?invc (fun h0 => ?_)
            case invc => ((try dsimp only); all_goals trivial)
            refine wpAnyH_take (i := 0) (oi := { dst := some 61, op := Go.Op.move (Go.Operand.tmp 7), type := 34, pos := "law.go:42", after := #[], guard := none }) (v := ?vc1) rfl (by kernel_rfl) (by kernel_rfl) (by kernel_rfl) (fun _ _ _ h => h) (Or.inl ⟨by rfl, ?rc1⟩) (by assumption) ?_
            case rc1 => (intro w hSw; (try dsimp only at hSw); (go_simp <;> with_reducible rfl))
            try simp only [Act.put, List.setIfInBounds_toArray, List.set_cons_zero, List.set_cons_succ]
            refine wpAnyH_take (i := 1) (oi := { dst := some 62, op := Go.Op.move (Go.Operand.tmp 11), type := 3, pos := "law.go:42", after := #[], guard := none }) (v := ?vc2) rfl (by kernel_rfl) (by kernel_rfl) (by kernel_rfl) (fun _ _ _ h => h) (Or.inl ⟨by rfl, ?rc2⟩) (by assumption) ?_
            case rc2 => (intro w hSw; (try dsimp only at hSw); (go_simp <;> with_reducible rfl))
            try simp only [Act.put, List.setIfInBounds_toArray, List.set_cons_zero, List.set_cons_succ]
            refine wpAnyH_take (i := 3) (oi := { dst := some 64, op := Go.Op.move (Go.Operand.tmp 12), type := 4, pos := "law.go:42", after := #[], guard := none }) (v := ?vc3) rfl (by kernel_rfl) (by kernel_rfl) (by kernel_rfl) (fun _ _ _ h => h) (Or.inl ⟨by rfl, ?rc3⟩) (by assumption) ?_
            case rc3 => (intro w hSw; (try dsimp only at hSw); (go_simp <;> with_reducible rfl))
            try simp only [Act.put, List.setIfInBounds_toArray, List.set_cons_zero, List.set_cons_succ]
            refine wpAnyH_ready (rs := [2]) (by kernel_rfl) (by simp) ?_
            refine AllReadyH.cons (o := { dst := some 63, op := Go.Op.call { callee := Go.Callee.value (Go.Operand.func 14), args := #[Go.Operand.tmp 61, Go.Operand.tmp 62], argTypes := #[34, 3] }, type := 4, pos := "law.go:42", after := #[{ on := 0, ground := Go.Ground.data }, { on := 1, ground := Go.Ground.data }], guard := none }) rfl (fun K hK => ?_) AllReadyH.nil
            go_simp
            (go_at_call 14; refine (AD.out _ (HVd.out)).mono ?_; rintro e w9 ⟨rfl, hvN, hsN⟩)
            have h4 : (fun w9 => Hid (Gr w w9 ∧ VtIs w9 b r p W z1 n1 z2 n2 f s ∧ TB w9) ∧ w9.cell? ⟨cb, 0, none⟩ = some (.int .i64 (r : Nat)) ∧ w9.cell? ⟨cb, 1, none⟩ = some (.int .i64 (p : Nat)) ∧ w9.cell? ⟨cb, 2, none⟩ = some (.int .u32 (W : Nat)) ∧ w9.cell? ⟨cb, 3, none⟩ = some (.int .i64 (z1 : Nat)) ∧ w9.cell? ⟨cb, 4, none⟩ = some (.int .i64 (n1 : Nat)) ∧ w9.cell? ⟨cb, 5, none⟩ = some (.int .i64 (z2 : Nat)) ∧ w9.cell? ⟨cb, 6, none⟩ = some (.int .i64 (n2 : Nat)) ∧ w9.cell? ⟨kb, 0, none⟩ = some (.int .i64 (z : Nat)) ∧ w9.cell? ⟨kb, 1, none⟩ = some (.int .i64 (n : Nat))) _ := ⟨Lib.hid ⟨hsN.gr HGd.out HBW.out, hvN, HTd.out.sole hsN HNE.out⟩, hsN.cell HCB.out (HCd.out.1), hsN.cell HCB.out (HCd.out.2.1), hsN.cell HCB.out (HCd.out.2.2.1), hsN.cell HCB.out (HCd.out.2.2.2.1), hsN.cell HCB.out (HCd.out.2.2.2.2.1), hsN.cell HCB.out (HCd.out.2.2.2.2.2.1), hsN.cell HCB.out (HCd.out.2.2.2.2.2.2.1), hsN.cell HKB.out (HCd.out.2.2.2.2.2.2.2.1), hsN.cell HKB.out (HCd.out.2.2.2.2.2.2.2.2)⟩
            first | refine hK.out _ _ trivial (fun _ => held_true (fun w9 => Hid (Gr w w9 ∧ VtIs w9 b r p W z1 n1 z2 n2 f s ∧ TB w9) ∧ w9.cell? ⟨cb, 0, none⟩ = some (.int .i64 (r : Nat)) ∧ w9.cell? ⟨cb, 1, none⟩ = some (.int .i64 (p : Nat)) ∧ w9.cell? ⟨cb, 2, none⟩ = some (.int .u32 (W : Nat)) ∧ w9.cell? ⟨cb, 3, none⟩ = some (.int .i64 (z1 : Nat)) ∧ w9.cell? ⟨cb, 4, none⟩ = some (.int .i64 (n1 : Nat)) ∧ w9.cell? ⟨cb, 5, none⟩ = some (.int .i64 (z2 : Nat)) ∧ w9.cell? ⟨cb, 6, none⟩ = some (.int .i64 (n2 : Nat)) ∧ w9.cell? ⟨kb, 0, none⟩ = some (.int .i64 (z : Nat)) ∧ w9.cell? ⟨kb, 1, none⟩ = some (.int .i64 (n : Nat))) _ _ _ _ ?_) | (go_wp2_with fail; refine hK.out _ _ trivial (fun _ => held_true (fun w9 => Hid (Gr w w9 ∧ VtIs w9 b r p W z1 n1 z2 n2 f s ∧ TB w9) ∧ w9.cell? ⟨cb, 0, none⟩ = some (.int .i64 (r : Nat)) ∧ w9.cell? ⟨cb, 1, none⟩ = some (.int .i64 (p : Nat)) ∧ w9.cell? ⟨cb, 2, none⟩ = some (.int .u32 (W : Nat)) ∧ w9.cell? ⟨cb, 3, none⟩ = some (.int .i64 (z1 : Nat)) ∧ w9.cell? ⟨cb, 4, none⟩ = some (.int .i64 (n1 : Nat)) ∧ w9.cell? ⟨cb, 5, none⟩ = some (.int .i64 (z2 : Nat)) ∧ w9.cell? ⟨cb, 6, none⟩ = some (.int .i64 (n2 : Nat)) ∧ w9.cell? ⟨kb, 0, none⟩ = some (.int .i64 (z : Nat)) ∧ w9.cell? ⟨kb, 1, none⟩ = some (.int .i64 (n : Nat))) _ _ _ _ ?_))
            clear hK K h0
            try simp only [Act.put, List.setIfInBounds_toArray, List.set_cons_zero, List.set_cons_succ]
            refine wpAnyH_take (i := 4) (oi := { dst := some 65, op := Go.Op.binOp Go.BinOp.neq 4 (Go.Operand.tmp 63) (Go.Operand.tmp 64) 4, type := 4, pos := "law.go:42", after := #[{ on := 2, ground := Go.Ground.data }, { on := 3, ground := Go.Ground.data }], guard := none }) (v := ?vc5) rfl (by kernel_rfl) (by kernel_rfl) (by kernel_rfl) (fun _ _ _ h => h) (Or.inl ⟨by rfl, ?rc5⟩) (by assumption) ?_
            case rc5 => (intro w hSw; (try dsimp only at hSw); (go_simp <;> with_reducible rfl))
            try simp only [Act.put, List.setIfInBounds_toArray, List.set_cons_zero, List.set_cons_succ]
            refine wpAnyH_take (i := 5) (oi := { dst := some 66, op := Go.Op.move (Go.Operand.tmp 65), type := 4, pos := "law.go:42", after := #[{ on := 4, ground := Go.Ground.data }, { on := 2, ground := Go.Ground.chain }], guard := none }) (v := ?vc6) rfl (by kernel_rfl) (by kernel_rfl) (by kernel_rfl) (fun _ _ _ h => h) (Or.inl ⟨by rfl, ?rc6⟩) (by assumption) ?_
            case rc6 => (intro w hSw; (try dsimp only at hSw); (go_simp <;> with_reducible rfl))
            try simp only [Act.put, List.setIfInBounds_toArray, List.set_cons_zero, List.set_cons_succ]
            refine wpAnyH_take (i := 6) (oi := { dst := some 67, op := Go.Op.move (Go.Operand.tmp 7), type := 34, pos := "law.go:42", after := #[{ on := 5, ground := Go.Ground.guard }], guard := some (5, false) }) (v := ?vc7) rfl (by kernel_rfl) (by kernel_rfl) (by kernel_rfl) (fun _ _ _ h => h) (Or.inl ⟨by rfl, ?rc7⟩) (by assumption) ?_
            case rc7 => (intro w hSw; (try dsimp only at hSw); (go_simp <;> with_reducible rfl))
            try simp only [Act.put, List.setIfInBounds_toArray, List.set_cons_zero, List.set_cons_succ]
            refine wpAnyH_take (i := 8) (oi := { dst := some 69, op := Go.Op.move (Go.Operand.tmp 9), type := 23, pos := "law.go:42", after := #[{ on := 5, ground := Go.Ground.guard }], guard := some (5, false) }) (v := ?vc8) rfl (by kernel_rfl) (by kernel_rfl) (by kernel_rfl) (fun _ _ _ h => h) (Or.inl ⟨by rfl, ?rc8⟩) (by assumption) ?_
            case rc8 => (intro w hSw; (try dsimp only at hSw); (go_simp <;> with_reducible rfl))
            try simp only [Act.put, List.setIfInBounds_toArray, List.set_cons_zero, List.set_cons_succ]
            refine wpAnyH_ready (rs := [7]) (by kernel_rfl) (by simp) ?_
            refine AllReadyH.cons (o := { dst := some 68, op := Go.Op.call { callee := Go.Callee.value (Go.Operand.func 15), args := #[Go.Operand.tmp 67], argTypes := #[34] }, type := 23, pos := "law.go:42", after := #[{ on := 6, ground := Go.Ground.data }, { on := 5, ground := Go.Ground.chain }, { on := 5, ground := Go.Ground.guard }], guard := some (5, false) }) rfl (fun K hK => ?_) AllReadyH.nil
            go_simp
            (go_at_call 15; refine (vSet_any _ (h4).1.out.2.1).mono ?_; rintro e w9 ⟨rfl, rfl⟩)
            first | refine hK.out _ _ ?sc9 (fun h9 => ?_) | (go_wp2_with fail; refine hK.out _ _ ?sc9 (fun h9 => ?_))
            case sc9 => ((try dsimp only); (first | exact HX.out _ _ hgN h4 | exact h4))
            clear hK K h4
            try simp only [Act.put, List.setIfInBounds_toArray, List.set_cons_zero, List.set_cons_succ]
            refine wpAnyH_take (i := 9) (oi := { dst := some 70, op := Go.Op.binOp Go.BinOp.neq 23 (Go.Operand.tmp 68) (Go.Operand.tmp 69) 23, type := 4, pos := "law.go:42", after := #[{ on := 7, ground := Go.Ground.data }, { on := 8, ground := Go.Ground.data }, { on := 5, ground := Go.Ground.guard }], guard := some (5, false) }) (v := ?vc10) rfl (by kernel_rfl) (by kernel_rfl) (by kernel_rfl) (fun _ _ _ h => h) (Or.inl ⟨by rfl, ?rc10⟩) (by assumption) ?_
            case rc10 => (intro w hSw; (try dsimp only at hSw); (go_simp <;> with_reducible rfl))
            try simp only [Act.put, List.setIfInBounds_toArray, List.set_cons_zero, List.set_cons_succ]
            refine wpAnyH_take (i := 10) (oi := { dst := some 71, op := Go.Op.pick (Go.Operand.tmp 66) (Go.Operand.const (Go.Value.bool true)) (Go.Operand.tmp 70), type := 4, pos := "law.go:42", after := #[{ on := 5, ground := Go.Ground.data }, { on := 9, ground := Go.Ground.data }], guard := none }) (v := ?vc11) rfl (by kernel_rfl) (by kernel_rfl) (by kernel_rfl) (fun _ _ _ h => h) (Or.inl ⟨by rfl, ?rc11⟩) (by assumption) ?_
            case rc11 => (intro w hSw; (try dsimp only at hSw); (go_simp <;> with_reducible rfl))
            try simp only [Act.put, List.setIfInBounds_toArray, List.set_cons_zero, List.set_cons_succ]
            refine wpAnyH_take (i := 11) (oi := { dst := some 72, op := Go.Op.move (Go.Operand.tmp 71), type := 4, pos := "law.go:42", after := #[{ on := 10, ground := Go.Ground.data }, { on := 7, ground := Go.Ground.chain }], guard := none }) (v := ?vc12) rfl (by kernel_rfl) (by kernel_rfl) (by kernel_rfl) (fun _ _ _ h => h) (Or.inl ⟨by rfl, ?rc12⟩) (by assumption) ?_
            case rc12 => (intro w hSw; (try dsimp only at hSw); (go_simp <;> with_reducible rfl))
            try simp only [Act.put, List.setIfInBounds_toArray, List.set_cons_zero, List.set_cons_succ]
            refine wpAnyH_take (i := 12) (oi := { dst := some 73, op := Go.Op.move (Go.Operand.tmp 7), type := 34, pos := "law.go:42", after := #[{ on := 11, ground := Go.Ground.guard }], guard := some (11, false) }) (v := ?vc13) rfl (by kernel_rfl) (by kernel_rfl) (by kernel_rfl) (fun _ _ _ h => h) (Or.inl ⟨by rfl, ?rc13⟩) (by assumption) ?_
            case rc13 => (intro w hSw; (try dsimp only at hSw); (go_simp <;> with_reducible rfl))
            try simp only [Act.put, List.setIfInBounds_toArray, List.set_cons_zero, List.set_cons_succ]
            refine wpAnyH_take (i := 14) (oi := { dst := some 75, op := Go.Op.load 32 (Go.Operand.tmp 3), type := 32, pos := "law.go:42", after := #[{ on := 11, ground := Go.Ground.guard }], guard := some (11, false) }) (v := ?vc14) rfl (by kernel_rfl) (by kernel_rfl) (by kernel_rfl) (fun _ _ _ h => h) (Or.inl ⟨by rfl, ?rc14⟩) (by assumption) ?_
            case rc14 => (intro w hSw; (try dsimp only at hSw); (go_simp <;> with_reducible rfl))
            try simp only [Act.put, List.setIfInBounds_toArray, List.set_cons_zero, List.set_cons_succ]
            refine wpAnyH_take (i := 15) (oi := { dst := some 76, op := Go.Op.move (Go.Operand.tmp 9), type := 23, pos := "law.go:42", after := #[{ on := 11, ground := Go.Ground.guard }], guard := some (11, false) }) (v := ?vc15) rfl (by kernel_rfl) (by kernel_rfl) (by kernel_rfl) (fun _ _ _ h => h) (Or.inl ⟨by rfl, ?rc15⟩) (by assumption) ?_
            case rc15 => (intro w hSw; (try dsimp only at hSw); (go_simp <;> with_reducible rfl))
            try simp only [Act.put, List.setIfInBounds_toArray, List.set_cons_zero, List.set_cons_succ]
            refine wpAnyH_take (i := 16) (oi := { dst := some 77, op := Go.Op.load 30 (Go.Operand.tmp 8), type := 30, pos := "law.go:42", after := #[{ on := 11, ground := Go.Ground.guard }], guard := some (11, false) }) (v := ?vc16) rfl (by kernel_rfl) (by kernel_rfl) (by kernel_rfl) (fun _ _ _ h => h) (Or.inl ⟨by rfl, ?rc16⟩) (by assumption) ?_
            case rc16 => (intro w hSw; (try dsimp only at hSw); (go_simp <;> with_reducible rfl))
            try simp only [Act.put, List.setIfInBounds_toArray, List.set_cons_zero, List.set_cons_succ]
            refine wpAnyH_ready (rs := [13]) (by kernel_rfl) (by simp) ?_
            refine AllReadyH.cons (o := { dst := some 74, op := Go.Op.call { callee := Go.Callee.value (Go.Operand.func 16), args := #[Go.Operand.tmp 73], argTypes := #[34] }, type := 4, pos := "law.go:42", after := #[{ on := 12, ground := Go.Ground.data }, { on := 11, ground := Go.Ground.chain }, { on := 11, ground := Go.Ground.guard }], guard := some (11, false) }) rfl (fun K hK => ?_) AllReadyH.nil
            go_simp
            (go_at_call 16; refine (DN.out _ (h9).1.out.2.1).mono ?_; rintro e w9 ⟨rfl, hgN⟩)
            first | refine hK.out _ _ ?sc17 (fun h17 => ?_) | (go_wp2_with fail; refine hK.out _ _ ?sc17 (fun h17 => ?_))
            case sc17 => ((try dsimp only); (first | exact HX.out _ _ hgN h9 | exact h9))
            clear hK K h9
            try simp only [Act.put, List.setIfInBounds_toArray, List.set_cons_zero, List.set_cons_succ]
            refine wpAnyH_ready (rs := [17]) (by kernel_rfl) (by simp) ?_
            refine AllReadyH.cons (o := { dst := some 78, op := Go.Op.call { callee := Go.Callee.value (Go.Operand.func 17), args := #[Go.Operand.tmp 75, Go.Operand.tmp 76, Go.Operand.tmp 77], argTypes := #[32, 23, 30] }, type := 4, pos := "law.go:42", after := #[{ on := 14, ground := Go.Ground.data }, { on := 15, ground := Go.Ground.data }, { on := 16, ground := Go.Ground.data }, { on := 13, ground := Go.Ground.chain }, { on := 11, ground := Go.Ground.guard }], guard := some (11, false) }) rfl (fun K hK => ?_) AllReadyH.nil
            go_simp
            (go_at_call 17; refine (QN.out _).mono ?_; rintro e w9 ⟨rfl, hgN⟩)
            first | refine hK.out _ _ ?sc18 (fun h18 => ?_) | (go_wp2_with fail; refine hK.out _ _ ?sc18 (fun h18 => ?_))
            case sc18 => ((try dsimp only); (first | exact HX.out _ _ hgN h17 | exact h17))
            clear hK K h17
            try simp only [Act.put, List.setIfInBounds_toArray, List.set_cons_zero, List.set_cons_succ]
            refine wpAnyH_take (i := 18) (oi := { dst := some 79, op := Go.Op.binOp Go.BinOp.neq 4 (Go.Operand.tmp 74) (Go.Operand.tmp 78) 4, type := 4, pos := "law.go:42", after := #[{ on := 13, ground := Go.Ground.data }, { on := 17, ground := Go.Ground.data }, { on := 11, ground := Go.Ground.guard }], guard := some (11, false) }) (v := (.bool false)) rfl (by kernel_rfl) (by kernel_rfl) (by kernel_rfl) (fun _ _ _ h => h) (Or.inl ⟨by rfl, ?rc19⟩) (by assumption) ?_
            case rc19 => (intro w hSw; (try dsimp only at hSw); go_simp; all_goals simp)
            try simp only [Act.put, List.setIfInBounds_toArray, List.set_cons_zero, List.set_cons_succ]
            refine wpAnyH_take (i := 19) (oi := { dst := some 80, op := Go.Op.pick (Go.Operand.tmp 72) (Go.Operand.const (Go.Value.bool true)) (Go.Operand.tmp 79), type := 4, pos := "law.go:42", after := #[{ on := 11, ground := Go.Ground.data }, { on := 18, ground := Go.Ground.data }], guard := none }) (v := ?vc20) rfl (by kernel_rfl) (by kernel_rfl) (by kernel_rfl) (fun _ _ _ h => h) (Or.inl ⟨by rfl, ?rc20⟩) (by assumption) ?_
            case rc20 => (intro w hSw; (try dsimp only at hSw); (go_simp <;> with_reducible rfl))
            try simp only [Act.put, List.setIfInBounds_toArray, List.set_cons_zero, List.set_cons_succ]
            refine wpAnyH_take (i := 20) (oi := { dst := some 81, op := Go.Op.move (Go.Operand.tmp 80), type := 4, pos := "law.go:42", after := #[{ on := 19, ground := Go.Ground.data }, { on := 17, ground := Go.Ground.chain }], guard := none }) (v := ?vc21) rfl (by kernel_rfl) (by kernel_rfl) (by kernel_rfl) (fun _ _ _ h => h) (Or.inl ⟨by rfl, ?rc21⟩) (by assumption) ?_
            case rc21 => (intro w hSw; (try dsimp only at hSw); (go_simp <;> with_reducible rfl))
            try simp only [Act.put, List.setIfInBounds_toArray, List.set_cons_zero, List.set_cons_succ]
            refine wpAnyH_take (i := 21) (oi := { dst := some 82, op := Go.Op.move (Go.Operand.tmp 7), type := 34, pos := "law.go:42", after := #[{ on := 20, ground := Go.Ground.guard }], guard := some (20, false) }) (v := ?vc22) rfl (by kernel_rfl) (by kernel_rfl) (by kernel_rfl) (fun _ _ _ h => h) (Or.inl ⟨by rfl, ?rc22⟩) (by assumption) ?_
            case rc22 => (intro w hSw; (try dsimp only at hSw); (go_simp <;> with_reducible rfl))
            try simp only [Act.put, List.setIfInBounds_toArray, List.set_cons_zero, List.set_cons_succ]
            refine wpAnyH_take (i := 23) (oi := { dst := some 84, op := Go.Op.move (Go.Operand.tmp 7), type := 34, pos := "law.go:42", after := #[{ on := 20, ground := Go.Ground.guard }], guard := some (20, false) }) (v := ?vc23) rfl (by kernel_rfl) (by kernel_rfl) (by kernel_rfl) (fun _ _ _ h => h) (Or.inl ⟨by rfl, ?rc23⟩) (by assumption) ?_
            case rc23 => (intro w hSw; (try dsimp only at hSw); (go_simp <;> with_reducible rfl))
            try simp only [Act.put, List.setIfInBounds_toArray, List.set_cons_zero, List.set_cons_succ]
            refine wpAnyH_ready (rs := [22]) (by kernel_rfl) (by simp) ?_
            refine AllReadyH.cons (o := { dst := some 83, op := Go.Op.call { callee := Go.Callee.value (Go.Operand.func 16), args := #[Go.Operand.tmp 82], argTypes := #[34] }, type := 4, pos := "law.go:42", after := #[{ on := 21, ground := Go.Ground.data }, { on := 20, ground := Go.Ground.chain }, { on := 20, ground := Go.Ground.guard }], guard := some (20, false) }) rfl (fun K hK => ?_) AllReadyH.nil
            go_simp
            (go_at_call 16; refine (DN.out _ (h18).1.out.2.1).mono ?_; rintro e w9 ⟨rfl, hgN⟩)
            first | refine hK.out _ _ ?sc24 (fun h24 => ?_) | (go_wp2_with fail; refine hK.out _ _ ?sc24 (fun h24 => ?_))
            case sc24 => ((try dsimp only); (first | exact HX.out _ _ hgN h18 | exact h18))
            clear hK K h18
            try simp only [Act.put, List.setIfInBounds_toArray, List.set_cons_zero, List.set_cons_succ]
            refine wpAnyH_ready (rs := [24]) (by kernel_rfl) (by simp) ?_
            refine AllReadyH.cons (o := { dst := some 85, op := Go.Op.call { callee := Go.Callee.value (Go.Operand.func 18), args := #[Go.Operand.tmp 84], argTypes := #[34] }, type := 3, pos := "law.go:42", after := #[{ on := 23, ground := Go.Ground.data }, { on := 22, ground := Go.Ground.chain }, { on := 20, ground := Go.Ground.guard }], guard := some (20, false) }) rfl (fun K hK => ?_) AllReadyH.nil
            go_simp
            (go_at_call 18; refine (LN.out _ (h24).1.out.2.1 (h24).1.out.2.2).mono ?_; rintro e w9 ⟨rfl, hgN⟩)
            first | refine hK.out _ _ ?sc25 (fun h25 => ?_) | (go_wp2_with fail; refine hK.out _ _ ?sc25 (fun h25 => ?_))
            case sc25 => ((try dsimp only); (first | exact HX.out _ _ hgN h24 | exact h24))
            clear hK K h24
            try simp only [Act.put, List.setIfInBounds_toArray, List.set_cons_zero, List.set_cons_succ]
            refine wpAnyH_take (i := 25) (oi := { dst := some 86, op := Go.Op.binOp Go.BinOp.eql 3 (Go.Operand.tmp 85) (Go.Operand.const (Go.Value.int Go.IntKind.i64 0)) 3, type := 4, pos := "law.go:42", after := #[{ on := 24, ground := Go.Ground.data }, { on := 20, ground := Go.Ground.guard }], guard := some (20, false) }) (v := (.bool qv)) rfl (by kernel_rfl) (by kernel_rfl) (by kernel_rfl) (fun _ _ _ h => h) (Or.inl ⟨by rfl, ?rc26⟩) (by assumption) ?_
            case rc26 => (intro w hSw; (try dsimp only at hSw); go_simp; all_goals simp [HLQ.out])
            try simp only [Act.put, List.setIfInBounds_toArray, List.set_cons_zero, List.set_cons_succ]
            refine wpAnyH_take (i := 26) (oi := { dst := some 87, op := Go.Op.binOp Go.BinOp.neq 4 (Go.Operand.tmp 83) (Go.Operand.tmp 86) 4, type := 4, pos := "law.go:42", after := #[{ on := 22, ground := Go.Ground.data }, { on := 25, ground := Go.Ground.data }, { on := 20, ground := Go.Ground.guard }], guard := some (20, false) }) (v := (.bool false)) rfl (by kernel_rfl) (by kernel_rfl) (by kernel_rfl) (fun _ _ _ h => h) (Or.inl ⟨by rfl, ?rc27⟩) (by assumption) ?_
            case rc27 => (intro w hSw; (try dsimp only at hSw); go_simp; all_goals simp)
            try simp only [Act.put, List.setIfInBounds_toArray, List.set_cons_zero, List.set_cons_succ]
            refine wpAnyH_take (i := 27) (oi := { dst := some 88, op := Go.Op.pick (Go.Operand.tmp 81) (Go.Operand.const (Go.Value.bool true)) (Go.Operand.tmp 87), type := 4, pos := "law.go:42", after := #[{ on := 20, ground := Go.Ground.data }, { on := 26, ground := Go.Ground.data }], guard := none }) (v := ?vc28) rfl (by kernel_rfl) (by kernel_rfl) (by kernel_rfl) (fun _ _ _ h => h) (Or.inl ⟨by rfl, ?rc28⟩) (by assumption) ?_
            case rc28 => (intro w hSw; (try dsimp only at hSw); (go_simp <;> with_reducible rfl))
            try simp only [Act.put, List.setIfInBounds_toArray, List.set_cons_zero, List.set_cons_succ]
            refine wpAnyH_done (by kernel_rfl) ?_ _
            have HE := (h25).1
            have HC := Lib.hid (h25).2
            clear h25
            go_wp2
            go_roundw
            case rel => exact ⟨k + 1, s, by omega, by go_num, rfl, HUL.out, Lib.hid HE.out.2.1, Lib.hid HE.out.1, Lib.hid HE.out.2.2, HC⟩
            case measure => simp [intOf]; omega
      · go_wp2
        go_ret
        exact ⟨rfl, HG0.out⟩
    · go_wp2
      go_ret
      exact ⟨rfl, HG0.out⟩
end Go.Proofs.YtegapeplbincnaaDoor
