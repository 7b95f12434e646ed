import Derived.Test.YtegapeplbincnaaDoorL09
import Derived.Test.YtegapeplbincnaaDoorM09c
import Derived.WalkKit
import Derived.ProofKit
import Derived.LoopTactic
import Derived.Outline
import Derived.WalkSpells
import Derived.WalkLawsBesides
import Derived.Lib.Hide
import Derived.Deep.LoopGhost
import Derived.Deep.QuietTactic
import Derived.BigQuiet
import Derived.ShutString
import Derived.IntWalk
import Derived.Lib.MinMax
import Derived.Deep.RegionWith
import Derived.Deep.RegionHeld3
namespace Go.Proofs.YtegapeplbincnaaDoor
open Go.ChangeShapes Go.WideShapes Go.ChangeAt Go.RowKit
open Grids
set_option linter.unusedVariables false
set_option linter.unusedSimpArgs false
theorem addS2_lt {r p s : Nat} {n : Int} (hs : s < 2 ^ (r * p)) : addS r p s n < 2 ^ (r * p) := by
  unfold addS
  by_cases h : freshB r p s n = true
  · rw [if_pos h]
    unfold freshB at h
    simp only [Bool.and_eq_true, decide_eq_true_eq] at h
    exact add_lt hs (by omega)
  · rw [if_neg h]; exact hs
set_option maxRecDepth 100000 in
set_option maxHeartbeats 8000000 in
theorem votesLeast_walk (R0 P0 : Int) (W0 : Nat) (a1 a2 a3 a4 : Int) (f : Bool) (l : List Int) (a : Option Addr) (cap : Nat) (w : World) (hW : W0 < 4294967296) (hl : Ints w a l) (hcap : l.length ≤ cap) (hT : TB w) :
    Calls Tryd.prog 5 #[.agg #[.int .i64 R0, .int .i64 P0, .int .u32 W0, .int .i64 a1, .int .i64 a2, .int .i64 a3, .int .i64 a4], .bool f, .slice a l.length cap] w fun e w' => e = .returned (.bool true) ∧ Gr w w' := by
  have RI := Lib.hid (fun w => right_any R0 P0 a1 a2 a3 a4 W0 w hW)
  have BE := Lib.hid (fun r p W z1 n1 z2 n2 w => begun_any r p W z1 n1 z2 n2 f w)
  have hLl := hl.1
  have HLi := Lib.hid hl
  have HT := Lib.hid hT
  clear hW hl hT hcap
  go_enter Tryd.func5, Tryd.ntmps5
  go_wp2_with fail
  refine (awake09_any _ (HT.out.gr ((Gr.refl w).alloc _))).mono ?_
  rintro e w1 ⟨rfl, hg1⟩
  have hz := (Gr.refl w).alloc (.cells #[.int .i64 R0, .int .i64 P0, .int .u32 W0, .int .i64 a1, .int .i64 a2, .int .i64 a3, .int .i64 a4] 32)
  have HG1 := Lib.hid (hz.trans hg1)
  have k0 := hg1.own.1 0 _ rfl
  have k1 := hg1.own.1 1 _ rfl
  have k2 := hg1.own.1 2 _ rfl
  have k3 := hg1.own.1 3 _ rfl
  have k4 := hg1.own.1 4 _ rfl
  have k5 := hg1.own.1 5 _ rfl
  have k6 := hg1.own.1 6 _ rfl
  have FZ := Lib.hid hg1.own.2.1
  clear hz hg1
  go_wp2_with fail
  refine (RI.out _).mono ?_
  rintro e w2 ⟨r, p, W, z1, n1, z2, n2, R, rfl, hg2⟩
  have FZ2 := Lib.hid (fun i => (hg2.frozen (o := i) (cell_lt k0)).trans (FZ.out i))
  replace k0 := hg2.cell k0
  replace k1 := hg2.cell k1
  replace k2 := hg2.cell k2
  replace k3 := hg2.cell k3
  replace k4 := hg2.cell k4
  replace k5 := hg2.cell k5
  replace k6 := hg2.cell k6
  have HG2 := Lib.hid (HG1.out.trans hg2)
  have HR := Lib.hid R
  clear hg2 R RI
  have f0 := FZ2.out 0
  have f1 := FZ2.out 1
  have f2 := FZ2.out 2
  have f3 := FZ2.out 3
  have f4 := FZ2.out 4
  have f5 := FZ2.out 5
  have f6 := FZ2.out 6
  go_wp2_with fail
  obtain ⟨⟨x0, x1, x2, x3, x4, x5, x6⟩, -, -, hgr⟩ := put7 k0 k1 k2 k3 k4 k5 k6 (rfl : (((((((w2.setCell ⟨w.heap.size, 0, none⟩ (.int .i64 (r : Nat))).setCell ⟨w.heap.size, 1, none⟩ (.int .i64 (p : Nat))).setCell ⟨w.heap.size, 2, none⟩ (.int .u32 (W : Nat))).setCell ⟨w.heap.size, 3, none⟩ (.int .i64 (z1 : Nat))).setCell ⟨w.heap.size, 4, none⟩ (.int .i64 (n1 : Nat))).setCell ⟨w.heap.size, 5, none⟩ (.int .i64 (z2 : Nat))).setCell ⟨w.heap.size, 6, none⟩ (.int .i64 (n2 : Nat))) = _)
  have HW3 := Lib.hid (hgr _ HG2.out (Nat.le_refl _))
  generalize (((((((w2.setCell ⟨w.heap.size, 0, none⟩ (.int .i64 (r : Nat))).setCell ⟨w.heap.size, 1, none⟩ (.int .i64 (p : Nat))).setCell ⟨w.heap.size, 2, none⟩ (.int .u32 (W : Nat))).setCell ⟨w.heap.size, 3, none⟩ (.int .i64 (z1 : Nat))).setCell ⟨w.heap.size, 4, none⟩ (.int .i64 (n1 : Nat))).setCell ⟨w.heap.size, 5, none⟩ (.int .i64 (z2 : Nat))).setCell ⟨w.heap.size, 6, none⟩ (.int .i64 (n2 : Nat))) = w3 at *
  clear k0 k1 k2 k3 k4 k5 k6 hgr f0 f1 f2 f3 f4 f5 f6
  have HC3 := Lib.hid (And.intro x0 (And.intro x1 (And.intro x2 (And.intro x3 (And.intro x4 (And.intro x5 x6))))))
  refine (BE.out r p W z1 n1 z2 n2 w3).mono ?_
  rintro e w4 ⟨b, rfl, hb, hV, hg4⟩
  obtain ⟨zz0, zzr, nn0, nnp⟩ := kz_in HR.out f
  have hr3 := HR.out.shp.hr
  have hp3 := HR.out.shp.hp
  have KL := Lib.hid (fun s => kz_least HR.out f s)
  have AD0 := Lib.hid (fun b s n wn w h => @vAdd_any b r p W z1 n1 z2 n2 s f HR.out n wn w h)
  have DN0 := Lib.hid (fun b s w h => @vDone_any b r p W z1 n1 z2 n2 s f HR.out w h)
  have LN0 := Lib.hid (fun b s hs w h hT => @vLeast_any b r p W z1 n1 z2 n2 s f HR.out hs w h hT)
  have h9 := shp12 HR.out.shp
  have QN0 := Lib.hid (fun s (hs : s < 4294967296) w => refQuorum_any r p (kz f z1 z2) (kz f n1 n2) s W z1 n1 z2 n2 w (by omega) (by omega) (by omega) hs (by omega) (by omega))
  have CO0 := Lib.hid (fun b s t ht w h => @vCould_any b r p W z1 n1 z2 n2 s f HR.out t ht w h)
  generalize kz f z1 z2 = z at *
  generalize kz f n1 n2 = n at *
  have hz := hg4.trans ((Gr.refl w4).alloc (.cells #[.int .i64 (z : Nat), .int .i64 (n : Nat)] 30))
  have HC4 := Lib.hid (And.intro (hz.cell x0) (And.intro (hz.cell x1) (And.intro (hz.cell x2) (And.intro (hz.cell x3) (And.intro (hz.cell x4) (And.intro (hz.cell x5) (And.intro (hz.cell x6) (And.intro (new_cell (w := w4) (c := #[.int .i64 (z : Nat), .int .i64 (n : Nat)]) (t := 30) (i := 0) rfl rfl) (new_cell (w := w4) (c := #[.int .i64 (z : Nat), .int .i64 (n : Nat)]) (t := 30) (i := 1) rfl rfl)))))))))
  have HV4 := Lib.hid (hV.gr ((Gr.refl w4).alloc (.cells #[.int .i64 (z : Nat), .int .i64 (n : Nat)] 30)))
  have HG4 := Lib.hid (HW3.out.trans hz)
  have HT4 := Lib.hid (HT.out.gr HG4.out)
  have HB := Lib.hid (Nat.le_trans HW3.out.size hb)
  have HNE := Lib.hid (tb_ne HT.out HB.out)
  have HCB := Lib.hid (show w.heap.size ≠ b from Nat.ne_of_lt (Nat.lt_of_lt_of_le (cell_lt x0) hb))
  have HKB := Lib.hid (show w4.heap.size ≠ b from Nat.ne_of_gt (cell_lt hV.c0))
  clear x0 x1 x2 x3 x4 x5 x6 hz hV hg4 hb HC3
  go_wp2_with fail
  generalize w4.alloc (.cells #[.int .i64 (z : Nat), .int .i64 (n : Nat)] 30) = w5 at *
  generalize w4.heap.size = kb at *
  generalize hcb : w.heap.size = cb at *
  have HBW := Lib.hid (show w.heap.size ≤ b by have h2 := HB.out; omega)
  clear hcb
  go_loopw [9] (fun i wr => ∃ (k s : Nat), k ≤ l.length ∧ i = .int .i64 (k : Nat) ∧ s < 2 ^ (r * p) ∧ Hid (VtIs wr b r p W z1 n1 z2 n2 f s) ∧ Hid (Gr w wr) ∧ Hid (TB wr) ∧ Hid (wr.cell? ⟨cb, 0, none⟩ = some (.int .i64 (r : Nat)) ∧ wr.cell? ⟨cb, 1, none⟩ = some (.int .i64 (p : Nat)) ∧ wr.cell? ⟨cb, 2, none⟩ = some (.int .u32 (W : Nat)) ∧ wr.cell? ⟨cb, 3, none⟩ = some (.int .i64 (z1 : Nat)) ∧ wr.cell? ⟨cb, 4, none⟩ = some (.int .i64 (n1 : Nat)) ∧ wr.cell? ⟨cb, 5, none⟩ = some (.int .i64 (z2 : Nat)) ∧ wr.cell? ⟨cb, 6, none⟩ = some (.int .i64 (n2 : Nat)) ∧ wr.cell? ⟨kb, 0, none⟩ = some (.int .i64 (z : Nat)) ∧ wr.cell? ⟨kb, 1, none⟩ = some (.int .i64 (n : Nat)))) (fun i _ => l.length - (intOf i).toNat)
  case atStart => exact ⟨0, 0, by omega, rfl, Nat.two_pow_pos _, HV4.out, HG4.out, HT4.out, HC4.out⟩
  case round =>
    obtain ⟨k, s, hk, rfl, hs, HV0, HG0, HT0, HC0⟩ := hrel
    by_cases hlt : k < l.length
    · by_cases h20 : k < 9
      · obtain ⟨-, hwf, hcl⟩ := HLi.out.gr HG0.out
        obtain ⟨bl, ol, rfl, hcc⟩ := hcl.resolve_left (by intro e; rw [e] at hlt; simp at hlt)
        have c0 := hcc k hlt
        have hwx := hwf l[k] (List.getElem_mem hlt)
        clear hwf hcl hcc
        generalize l[k] = x at *
        have AX := Lib.hid (AD0.out b s x hwx wr HV0.out)
        have HUL := Lib.hid (addS2_lt (n := x) hs)
        clear hwx
        go_wp2_with fail
        refine AX.out.mono ?_
        rintro e w6 ⟨rfl, hV, hS⟩
        have HV6 := Lib.hid hV
        have HG6 := Lib.hid (hS.gr HG0.out HBW.out)
        have HT6 := Lib.hid (HT0.out.sole hS HNE.out)
        have HC6 : Hid (w6.cell? ⟨cb, 0, none⟩ = some (.int .i64 (r : Nat)) ∧ w6.cell? ⟨cb, 1, none⟩ = some (.int .i64 (p : Nat)) ∧ w6.cell? ⟨cb, 2, none⟩ = some (.int .u32 (W : Nat)) ∧ w6.cell? ⟨cb, 3, none⟩ = some (.int .i64 (z1 : Nat)) ∧ w6.cell? ⟨cb, 4, none⟩ = some (.int .i64 (n1 : Nat)) ∧ w6.cell? ⟨cb, 5, none⟩ = some (.int .i64 (z2 : Nat)) ∧ w6.cell? ⟨cb, 6, none⟩ = some (.int .i64 (n2 : Nat)) ∧ w6.cell? ⟨kb, 0, none⟩ = some (.int .i64 (z : Nat)) ∧ w6.cell? ⟨kb, 1, none⟩ = some (.int .i64 (n : Nat))) := Lib.hid ⟨hS.cell HCB.out (HC0.out.1), hS.cell HCB.out (HC0.out.2.1), hS.cell HCB.out (HC0.out.2.2.1), hS.cell HCB.out (HC0.out.2.2.2.1), hS.cell HCB.out (HC0.out.2.2.2.2.1), hS.cell HCB.out (HC0.out.2.2.2.2.2.1), hS.cell HCB.out (HC0.out.2.2.2.2.2.2.1), hS.cell HKB.out (HC0.out.2.2.2.2.2.2.2.1), hS.cell HKB.out (HC0.out.2.2.2.2.2.2.2.2)⟩
        clear hV hS c0
        go_wp2
        go_roundw
        case rel => exact ⟨k + 1, _, by omega, by go_num, HUL.out, HV6.out, HG6.out, HT6.out, HC6.out⟩
        case measure => simp [intOf]; omega
      · skip
        have hmul : (r : Int) * (p : Int) = ((r * p : Nat) : Int) := by simp
        have m0 : 0 ≤ (r : Int) * (p : Int) := by rw [hmul]; omega
        have m1 : (r : Int) * (p : Int) ≤ 9 := by rw [hmul]; omega
        have hp9 : 2 ^ (r * p) ≤ 512 := Nat.pow_le_pow_right (n := 2) (by decide) h9
        have hs32 : s < 4294967296 := by omega
        have hmt : ((r : Int) * (p : Int)).toNat = r * p := by rw [hmul]; rfl
        have HPI : Hid ((2 : Int) ^ (r * p) % 4294967296 = ((2 ^ (r * p) : Nat) : Int)) := Lib.hid (by rw [show (2 : Int) ^ (r * p) = ((2 ^ (r * p) : Nat) : Int) by simp]; omega)
        have BE0 := Lib.hid (best_end (R := r) (per := p) (z := z) (nodes := n) (set := s) (by omega) zzr (by omega) nnp h9)
        have LN := Lib.hid (LN0.out b s hs)
        generalize least r p z n s = lv at *
        clear hmul hs AD0 DN0 LN0 KL BE
        generalize hpw : 2 ^ (r * p) = N at *
        clear hpw
        go_wp2
        go_loopw [10, 11] (fun v i wr => ∃ (t best : Nat), t ≤ N ∧ i = .int .u32 (t : Nat) ∧ v = .int .i64 (best : Nat) ∧ best ≤ 99 ∧ Hid (Best r p z n s t best) ∧ Hid (VtIs wr b r p W z1 n1 z2 n2 f s) ∧ Hid (Gr w wr) ∧ Hid (TB wr) ∧ Hid (wr.cell? ⟨cb, 0, none⟩ = some (.int .i64 (r : Nat)) ∧ wr.cell? ⟨cb, 1, none⟩ = some (.int .i64 (p : Nat)) ∧ wr.cell? ⟨cb, 2, none⟩ = some (.int .u32 (W : Nat)) ∧ wr.cell? ⟨cb, 3, none⟩ = some (.int .i64 (z1 : Nat)) ∧ wr.cell? ⟨cb, 4, none⟩ = some (.int .i64 (n1 : Nat)) ∧ wr.cell? ⟨cb, 5, none⟩ = some (.int .i64 (z2 : Nat)) ∧ wr.cell? ⟨cb, 6, none⟩ = some (.int .i64 (n2 : Nat)) ∧ wr.cell? ⟨kb, 0, none⟩ = some (.int .i64 (z : Nat)) ∧ wr.cell? ⟨kb, 1, none⟩ = some (.int .i64 (n : Nat)))) (fun _ i _ => N - (intOf i).toNat)
        case atStart => exact ⟨0, 99, by omega, rfl, rfl, by omega, Lib.hid (best_start r p z n s), HV0.out, HG0.out, HT0.out, HC0.out⟩
        case round =>
          obtain ⟨t, best, ht, rfl, rfl, hb99, HBS, HV1, HG1, HT1, HC1⟩ := hrel
          have q0 := HC1.out.1
          have q1 := HC1.out.2.1
          by_cases hlt : t < N
          · have hd : (t : Int) < (2 : Int) ^ (r * p) % 4294967296 := by rw [HPI.out]; omega
            have ht32 : t < 4294967296 := by omega
            have hor : s ||| t < 4294967296 := Nat.or_lt_two_pow (n := 32) hs32 ht32
            have HOR := Lib.hid (w32_or s t hs32 ht32)
            have QN := Lib.hid (QN0.out (s ||| t) hor)
            have CO := Lib.hid (CO0.out b s t ht32)
            obtain ⟨qv, hqv⟩ : ∃ qv, isQ r p z n (s ||| t) = qv := ⟨_, rfl⟩
            rw [hqv] at QN CO
            have HQV := Lib.hid hqv
            clear hqv hor
            have HCL := Lib.hid (bitsL_len t)
            have HBN := Lib.hid (fun h => @best_no r p z n s t best HBS.out h)
            have HBY := Lib.hid (fun h => @best_yes r p z n s t best HBS.out h)
            have hc32 := cnt_le t.testBit 32
            generalize ho : s ||| t = o at *
            clear ho
            have HS0 : (fun w9 => Hid (Gr w w9 ∧ VtIs w9 b r p W z1 n1 z2 n2 f s ∧ TB w9) ∧ w9.cell? ⟨cb, 0, none⟩ = some (.int .i64 (r : Nat)) ∧ w9.cell? ⟨cb, 1, none⟩ = some (.int .i64 (p : Nat)) ∧ w9.cell? ⟨cb, 2, none⟩ = some (.int .u32 (W : Nat)) ∧ w9.cell? ⟨cb, 3, none⟩ = some (.int .i64 (z1 : Nat)) ∧ w9.cell? ⟨cb, 4, none⟩ = some (.int .i64 (n1 : Nat)) ∧ w9.cell? ⟨cb, 5, none⟩ = some (.int .i64 (z2 : Nat)) ∧ w9.cell? ⟨cb, 6, none⟩ = some (.int .i64 (n2 : Nat)) ∧ w9.cell? ⟨kb, 0, none⟩ = some (.int .i64 (z : Nat)) ∧ w9.cell? ⟨kb, 1, none⟩ = some (.int .i64 (n : Nat))) wr := ⟨Lib.hid ⟨HG1.out, HV1.out, HT1.out⟩, HC1.out.1, HC1.out.2.1, HC1.out.2.2.1, HC1.out.2.2.2.1, HC1.out.2.2.2.2.1, HC1.out.2.2.2.2.2.1, HC1.out.2.2.2.2.2.2.1, HC1.out.2.2.2.2.2.2.2.1, HC1.out.2.2.2.2.2.2.2.2⟩
            have HX : Hid (∀ w0 w9 : World, Gr w0 w9 → (fun w9 => Hid (Gr w w9 ∧ VtIs w9 b r p W z1 n1 z2 n2 f s ∧ TB w9) ∧ w9.cell? ⟨cb, 0, none⟩ = some (.int .i64 (r : Nat)) ∧ w9.cell? ⟨cb, 1, none⟩ = some (.int .i64 (p : Nat)) ∧ w9.cell? ⟨cb, 2, none⟩ = some (.int .u32 (W : Nat)) ∧ w9.cell? ⟨cb, 3, none⟩ = some (.int .i64 (z1 : Nat)) ∧ w9.cell? ⟨cb, 4, none⟩ = some (.int .i64 (n1 : Nat)) ∧ w9.cell? ⟨cb, 5, none⟩ = some (.int .i64 (z2 : Nat)) ∧ w9.cell? ⟨cb, 6, none⟩ = some (.int .i64 (n2 : Nat)) ∧ w9.cell? ⟨kb, 0, none⟩ = some (.int .i64 (z : Nat)) ∧ w9.cell? ⟨kb, 1, none⟩ = some (.int .i64 (n : Nat))) w0 → (fun w9 => Hid (Gr w w9 ∧ VtIs w9 b r p W z1 n1 z2 n2 f s ∧ TB w9) ∧ w9.cell? ⟨cb, 0, none⟩ = some (.int .i64 (r : Nat)) ∧ w9.cell? ⟨cb, 1, none⟩ = some (.int .i64 (p : Nat)) ∧ w9.cell? ⟨cb, 2, none⟩ = some (.int .u32 (W : Nat)) ∧ w9.cell? ⟨cb, 3, none⟩ = some (.int .i64 (z1 : Nat)) ∧ w9.cell? ⟨cb, 4, none⟩ = some (.int .i64 (n1 : Nat)) ∧ w9.cell? ⟨cb, 5, none⟩ = some (.int .i64 (z2 : Nat)) ∧ w9.cell? ⟨cb, 6, none⟩ = some (.int .i64 (n2 : Nat)) ∧ w9.cell? ⟨kb, 0, none⟩ = some (.int .i64 (z : Nat)) ∧ w9.cell? ⟨kb, 1, none⟩ = some (.int .i64 (n : Nat))) w9) := Lib.hid fun w0 w9 hg ⟨h, q0, q1, q2, q3, q4, q5, q6, q7, q8⟩ => ⟨Lib.hid ⟨h.out.1.trans hg, h.out.2.1.gr hg, h.out.2.2.gr hg⟩, hg.cell q0, hg.cell q1, hg.cell q2, hg.cell q3, hg.cell q4, hg.cell q5, hg.cell q6, hg.cell q7, hg.cell q8⟩
            cases qv
            · skip
              go_wp2
              refine wp_region_held_drew (S := (fun w9 => Hid (Gr w w9 ∧ VtIs w9 b r p W z1 n1 z2 n2 f s ∧ TB w9) ∧ w9.cell? ⟨cb, 0, none⟩ = some (.int .i64 (r : Nat)) ∧ w9.cell? ⟨cb, 1, none⟩ = some (.int .i64 (p : Nat)) ∧ w9.cell? ⟨cb, 2, none⟩ = some (.int .u32 (W : Nat)) ∧ w9.cell? ⟨cb, 3, none⟩ = some (.int .i64 (z1 : Nat)) ∧ w9.cell? ⟨cb, 4, none⟩ = some (.int .i64 (n1 : Nat)) ∧ w9.cell? ⟨cb, 5, none⟩ = some (.int .i64 (z2 : Nat)) ∧ w9.cell? ⟨cb, 6, none⟩ = some (.int .i64 (n2 : Nat)) ∧ w9.cell? ⟨kb, 0, none⟩ = some (.int .i64 (z : Nat)) ∧ w9.cell? ⟨kb, 1, none⟩ = some (.int .i64 (n : Nat)))) (by kernel_rfl) ?invxa (fun h0 => ?_)
              case invxa => ((try dsimp only); (first | exact HS0 | exact HX.out _ _ ((Gr.refl _).drew) HS0))
              refine wpAnyH_take (i := 0) (oi := { dst := some 51, op := Go.Op.load 32 (Go.Operand.tmp 3), type := 32, pos := "law.go:65", after := #[], guard := none }) (v := ?vxa1) rfl (by kernel_rfl) (by kernel_rfl) (by kernel_rfl) (fun _ _ _ h => h) (Or.inl ⟨by rfl, ?rxa1⟩) (by assumption) ?_
              case rxa1 => (intro w hSw; (try dsimp only at hSw); (go_simp <;> with_reducible rfl))
              try simp only [Act.put, List.setIfInBounds_toArray, List.set_cons_zero, List.set_cons_succ]
              refine wpAnyH_take (i := 1) (oi := { dst := some 52, op := Go.Op.move (Go.Operand.tmp 7), type := 34, pos := "law.go:65", after := #[], guard := none }) (v := ?vxa2) rfl (by kernel_rfl) (by kernel_rfl) (by kernel_rfl) (fun _ _ _ h => h) (Or.inl ⟨by rfl, ?rxa2⟩) (by assumption) ?_
              case rxa2 => (intro w hSw; (try dsimp only at hSw); (go_simp <;> with_reducible rfl))
              try simp only [Act.put, List.setIfInBounds_toArray, List.set_cons_zero, List.set_cons_succ]
              refine wpAnyH_take (i := 3) (oi := { dst := some 54, op := Go.Op.move (Go.Operand.tmp 11), type := 23, pos := "law.go:65", after := #[], guard := none }) (v := ?vxa3) rfl (by kernel_rfl) (by kernel_rfl) (by kernel_rfl) (fun _ _ _ h => h) (Or.inl ⟨by rfl, ?rxa3⟩) (by assumption) ?_
              case rxa3 => (intro w hSw; (try dsimp only at hSw); (go_simp <;> with_reducible rfl))
              try simp only [Act.put, List.setIfInBounds_toArray, List.set_cons_zero, List.set_cons_succ]
              refine wpAnyH_take (i := 5) (oi := { dst := some 56, op := Go.Op.load 30 (Go.Operand.tmp 8), type := 30, pos := "law.go:65", after := #[], guard := none }) (v := ?vxa4) rfl (by kernel_rfl) (by kernel_rfl) (by kernel_rfl) (fun _ _ _ h => h) (Or.inl ⟨by rfl, ?rxa4⟩) (by assumption) ?_
              case rxa4 => (intro w hSw; (try dsimp only at hSw); (go_simp <;> with_reducible rfl))
              try simp only [Act.put, List.setIfInBounds_toArray, List.set_cons_zero, List.set_cons_succ]
              refine wpAnyH_ready (rs := [2]) (by kernel_rfl) (by simp) ?_
              refine AllReadyH.cons (o := { dst := some 53, op := Go.Op.call { callee := Go.Callee.value (Go.Operand.func 15), args := #[Go.Operand.tmp 52], argTypes := #[34] }, type := 23, pos := "law.go:65", after := #[{ on := 1, ground := Go.Ground.data }], guard := none }) rfl (fun K hK => ?_) AllReadyH.nil
              go_simp
              (go_at_call 15; refine (vSet_any _ (h0).1.out.2.1).mono ?_; rintro e w9 ⟨rfl, rfl⟩)
              first | refine hK.out _ _ ?sxa5 (fun h5 => ?_) | (go_wp2_with fail; refine hK.out _ _ ?sxa5 (fun h5 => ?_))
              case sxa5 => ((try dsimp only); (first | exact HX.out _ _ hgN h0 | exact h0))
              clear hK K h0
              try simp only [Act.put, List.setIfInBounds_toArray, List.set_cons_zero, List.set_cons_succ]
              refine wpAnyH_take (i := 4) (oi := { dst := some 55, op := Go.Op.binOp Go.BinOp.or 23 (Go.Operand.tmp 53) (Go.Operand.tmp 54) 23, type := 23, pos := "law.go:65", after := #[{ on := 2, ground := Go.Ground.data }, { on := 3, ground := Go.Ground.data }], guard := none }) (v := (.int .u32 (o : Nat))) rfl (by kernel_rfl) (by kernel_rfl) (by kernel_rfl) (fun _ _ _ h => h) (Or.inl ⟨by rfl, ?rxa6⟩) (by assumption) ?_
              case rxa6 => (intro w hSw; (try dsimp only at hSw); go_simp; all_goals simp [HOR.out])
              try simp only [Act.put, List.setIfInBounds_toArray, List.set_cons_zero, List.set_cons_succ]
              refine wpAnyH_ready (rs := [6]) (by kernel_rfl) (by simp) ?_
              refine AllReadyH.cons (o := { dst := some 57, op := Go.Op.call { callee := Go.Callee.value (Go.Operand.func 17), args := #[Go.Operand.tmp 51, Go.Operand.tmp 55, Go.Operand.tmp 56], argTypes := #[32, 23, 30] }, type := 4, pos := "law.go:65", after := #[{ on := 0, ground := Go.Ground.data }, { on := 4, ground := Go.Ground.data }, { on := 5, ground := Go.Ground.data }, { on := 2, ground := Go.Ground.chain }], guard := none }) rfl (fun K hK => ?_) AllReadyH.nil
              go_simp
              (go_at_call 17; refine (QN.out _).mono ?_; rintro e w9 ⟨rfl, hgN⟩)
              first | refine hK.out _ _ ?sxa7 (fun h7 => ?_) | (go_wp2_with fail; refine hK.out _ _ ?sxa7 (fun h7 => ?_))
              case sxa7 => ((try dsimp only); (first | exact HX.out _ _ hgN h5 | exact h5))
              clear hK K h5
              try simp only [Act.put, List.setIfInBounds_toArray, List.set_cons_zero, List.set_cons_succ]
              refine wpAnyH_take (i := 7) (oi := { dst := some 12, op := Go.Op.assign (Go.Operand.tmp 57), type := 4, pos := "law.go:65", after := #[{ on := 6, ground := Go.Ground.data }, { on := 6, ground := Go.Ground.chain }, { on := 0, ground := Go.Ground.phase }, { on := 1, ground := Go.Ground.phase }, { on := 2, ground := Go.Ground.phase }, { on := 3, ground := Go.Ground.phase }, { on := 4, ground := Go.Ground.phase }, { on := 5, ground := Go.Ground.phase }, { on := 6, ground := Go.Ground.phase }], guard := none }) (v := ?vxa8) rfl (by kernel_rfl) (by kernel_rfl) (by kernel_rfl) (fun _ _ _ h => h) (Or.inl ⟨by rfl, ?rxa8⟩) (by assumption) ?_
              case rxa8 => (intro w hSw; (try dsimp only at hSw); (go_simp <;> with_reducible rfl))
              try simp only [Act.put, List.setIfInBounds_toArray, List.set_cons_zero, List.set_cons_succ]
              refine wpAnyH_done (by kernel_rfl) ?_ _
              have HE := (h7).1
              have HC := Lib.hid (h7).2
              clear h7 HS0
              go_wp2_with fail
              refine (CO.out _ HE.out.2.1).mono ?_
              rintro e w20 ⟨rfl, hg20⟩
              have HE2 := Lib.hid (And.intro (HE.out.1.trans hg20) (And.intro (HE.out.2.1.gr hg20) (HE.out.2.2.gr hg20)))
              have HC2 : Hid (w20.cell? ⟨cb, 0, none⟩ = some (.int .i64 (r : Nat)) ∧ w20.cell? ⟨cb, 1, none⟩ = some (.int .i64 (p : Nat)) ∧ w20.cell? ⟨cb, 2, none⟩ = some (.int .u32 (W : Nat)) ∧ w20.cell? ⟨cb, 3, none⟩ = some (.int .i64 (z1 : Nat)) ∧ w20.cell? ⟨cb, 4, none⟩ = some (.int .i64 (n1 : Nat)) ∧ w20.cell? ⟨cb, 5, none⟩ = some (.int .i64 (z2 : Nat)) ∧ w20.cell? ⟨cb, 6, none⟩ = some (.int .i64 (n2 : Nat)) ∧ w20.cell? ⟨kb, 0, none⟩ = some (.int .i64 (z : Nat)) ∧ w20.cell? ⟨kb, 1, none⟩ = some (.int .i64 (n : Nat))) := Lib.hid ⟨hg20.cell (HC.out.1), hg20.cell (HC.out.2.1), hg20.cell (HC.out.2.2.1), hg20.cell (HC.out.2.2.2.1), hg20.cell (HC.out.2.2.2.2.1), hg20.cell (HC.out.2.2.2.2.2.1), hg20.cell (HC.out.2.2.2.2.2.2.1), hg20.cell (HC.out.2.2.2.2.2.2.2.1), hg20.cell (HC.out.2.2.2.2.2.2.2.2)⟩
              clear hg20
              go_wp2
              go_roundw
              case rel => exact ⟨t + 1, best, by omega, by go_num, rfl, hb99, Lib.hid (HBN.out HQV.out), Lib.hid HE2.out.2.1, Lib.hid HE2.out.1, Lib.hid HE2.out.2.2, HC2⟩
              case measure => simp [intOf]; omega
            · skip
              go_wp2
              refine wp_region_held_drew (S := (fun w9 => Hid (Gr w w9 ∧ VtIs w9 b r p W z1 n1 z2 n2 f s ∧ TB w9) ∧ w9.cell? ⟨cb, 0, none⟩ = some (.int .i64 (r : Nat)) ∧ w9.cell? ⟨cb, 1, none⟩ = some (.int .i64 (p : Nat)) ∧ w9.cell? ⟨cb, 2, none⟩ = some (.int .u32 (W : Nat)) ∧ w9.cell? ⟨cb, 3, none⟩ = some (.int .i64 (z1 : Nat)) ∧ w9.cell? ⟨cb, 4, none⟩ = some (.int .i64 (n1 : Nat)) ∧ w9.cell? ⟨cb, 5, none⟩ = some (.int .i64 (z2 : Nat)) ∧ w9.cell? ⟨cb, 6, none⟩ = some (.int .i64 (n2 : Nat)) ∧ w9.cell? ⟨kb, 0, none⟩ = some (.int .i64 (z : Nat)) ∧ w9.cell? ⟨kb, 1, none⟩ = some (.int .i64 (n : Nat)))) (by kernel_rfl) ?invya (fun h0 => ?_)
              case invya => ((try dsimp only); (first | exact HS0 | exact HX.out _ _ ((Gr.refl _).drew) HS0))
              refine wpAnyH_take (i := 0) (oi := { dst := some 51, op := Go.Op.load 32 (Go.Operand.tmp 3), type := 32, pos := "law.go:65", after := #[], guard := none }) (v := ?vya1) rfl (by kernel_rfl) (by kernel_rfl) (by kernel_rfl) (fun _ _ _ h => h) (Or.inl ⟨by rfl, ?rya1⟩) (by assumption) ?_
              case rya1 => (intro w hSw; (try dsimp only at hSw); (go_simp <;> with_reducible rfl))
              try simp only [Act.put, List.setIfInBounds_toArray, List.set_cons_zero, List.set_cons_succ]
              refine wpAnyH_take (i := 1) (oi := { dst := some 52, op := Go.Op.move (Go.Operand.tmp 7), type := 34, pos := "law.go:65", after := #[], guard := none }) (v := ?vya2) rfl (by kernel_rfl) (by kernel_rfl) (by kernel_rfl) (fun _ _ _ h => h) (Or.inl ⟨by rfl, ?rya2⟩) (by assumption) ?_
              case rya2 => (intro w hSw; (try dsimp only at hSw); (go_simp <;> with_reducible rfl))
              try simp only [Act.put, List.setIfInBounds_toArray, List.set_cons_zero, List.set_cons_succ]
              refine wpAnyH_take (i := 3) (oi := { dst := some 54, op := Go.Op.move (Go.Operand.tmp 11), type := 23, pos := "law.go:65", after := #[], guard := none }) (v := ?vya3) rfl (by kernel_rfl) (by kernel_rfl) (by kernel_rfl) (fun _ _ _ h => h) (Or.inl ⟨by rfl, ?rya3⟩) (by assumption) ?_
              case rya3 => (intro w hSw; (try dsimp only at hSw); (go_simp <;> with_reducible rfl))
              try simp only [Act.put, List.setIfInBounds_toArray, List.set_cons_zero, List.set_cons_succ]
              refine wpAnyH_take (i := 5) (oi := { dst := some 56, op := Go.Op.load 30 (Go.Operand.tmp 8), type := 30, pos := "law.go:65", after := #[], guard := none }) (v := ?vya4) rfl (by kernel_rfl) (by kernel_rfl) (by kernel_rfl) (fun _ _ _ h => h) (Or.inl ⟨by rfl, ?rya4⟩) (by assumption) ?_
              case rya4 => (intro w hSw; (try dsimp only at hSw); (go_simp <;> with_reducible rfl))
              try simp only [Act.put, List.setIfInBounds_toArray, List.set_cons_zero, List.set_cons_succ]
              refine wpAnyH_ready (rs := [2]) (by kernel_rfl) (by simp) ?_
              refine AllReadyH.cons (o := { dst := some 53, op := Go.Op.call { callee := Go.Callee.value (Go.Operand.func 15), args := #[Go.Operand.tmp 52], argTypes := #[34] }, type := 23, pos := "law.go:65", after := #[{ on := 1, ground := Go.Ground.data }], guard := none }) rfl (fun K hK => ?_) AllReadyH.nil
              go_simp
              (go_at_call 15; refine (vSet_any _ (h0).1.out.2.1).mono ?_; rintro e w9 ⟨rfl, rfl⟩)
              first | refine hK.out _ _ ?sya5 (fun h5 => ?_) | (go_wp2_with fail; refine hK.out _ _ ?sya5 (fun h5 => ?_))
              case sya5 => ((try dsimp only); (first | exact HX.out _ _ hgN h0 | exact h0))
              clear hK K h0
              try simp only [Act.put, List.setIfInBounds_toArray, List.set_cons_zero, List.set_cons_succ]
              refine wpAnyH_take (i := 4) (oi := { dst := some 55, op := Go.Op.binOp Go.BinOp.or 23 (Go.Operand.tmp 53) (Go.Operand.tmp 54) 23, type := 23, pos := "law.go:65", after := #[{ on := 2, ground := Go.Ground.data }, { on := 3, ground := Go.Ground.data }], guard := none }) (v := (.int .u32 (o : Nat))) rfl (by kernel_rfl) (by kernel_rfl) (by kernel_rfl) (fun _ _ _ h => h) (Or.inl ⟨by rfl, ?rya6⟩) (by assumption) ?_
              case rya6 => (intro w hSw; (try dsimp only at hSw); go_simp; all_goals simp [HOR.out])
              try simp only [Act.put, List.setIfInBounds_toArray, List.set_cons_zero, List.set_cons_succ]
              refine wpAnyH_ready (rs := [6]) (by kernel_rfl) (by simp) ?_
              refine AllReadyH.cons (o := { dst := some 57, op := Go.Op.call { callee := Go.Callee.value (Go.Operand.func 17), args := #[Go.Operand.tmp 51, Go.Operand.tmp 55, Go.Operand.tmp 56], argTypes := #[32, 23, 30] }, type := 4, pos := "law.go:65", after := #[{ on := 0, ground := Go.Ground.data }, { on := 4, ground := Go.Ground.data }, { on := 5, ground := Go.Ground.data }, { on := 2, ground := Go.Ground.chain }], guard := none }) rfl (fun K hK => ?_) AllReadyH.nil
              go_simp
              (go_at_call 17; refine (QN.out _).mono ?_; rintro e w9 ⟨rfl, hgN⟩)
              first | refine hK.out _ _ ?sya7 (fun h7 => ?_) | (go_wp2_with fail; refine hK.out _ _ ?sya7 (fun h7 => ?_))
              case sya7 => ((try dsimp only); (first | exact HX.out _ _ hgN h5 | exact h5))
              clear hK K h5
              try simp only [Act.put, List.setIfInBounds_toArray, List.set_cons_zero, List.set_cons_succ]
              refine wpAnyH_take (i := 7) (oi := { dst := some 12, op := Go.Op.assign (Go.Operand.tmp 57), type := 4, pos := "law.go:65", after := #[{ on := 6, ground := Go.Ground.data }, { on := 6, ground := Go.Ground.chain }, { on := 0, ground := Go.Ground.phase }, { on := 1, ground := Go.Ground.phase }, { on := 2, ground := Go.Ground.phase }, { on := 3, ground := Go.Ground.phase }, { on := 4, ground := Go.Ground.phase }, { on := 5, ground := Go.Ground.phase }, { on := 6, ground := Go.Ground.phase }], guard := none }) (v := ?vya8) rfl (by kernel_rfl) (by kernel_rfl) (by kernel_rfl) (fun _ _ _ h => h) (Or.inl ⟨by rfl, ?rya8⟩) (by assumption) ?_
              case rya8 => (intro w hSw; (try dsimp only at hSw); (go_simp <;> with_reducible rfl))
              try simp only [Act.put, List.setIfInBounds_toArray, List.set_cons_zero, List.set_cons_succ]
              refine wpAnyH_done (by kernel_rfl) ?_ _
              have HE := (h7).1
              have HC := Lib.hid (h7).2
              clear h7 HS0
              go_wp2_with fail
              refine (CO.out _ HE.out.2.1).mono ?_
              rintro e w20 ⟨rfl, hg20⟩
              have HE2 := Lib.hid (And.intro (HE.out.1.trans hg20) (And.intro (HE.out.2.1.gr hg20) (HE.out.2.2.gr hg20)))
              have HC2 : Hid (w20.cell? ⟨cb, 0, none⟩ = some (.int .i64 (r : Nat)) ∧ w20.cell? ⟨cb, 1, none⟩ = some (.int .i64 (p : Nat)) ∧ w20.cell? ⟨cb, 2, none⟩ = some (.int .u32 (W : Nat)) ∧ w20.cell? ⟨cb, 3, none⟩ = some (.int .i64 (z1 : Nat)) ∧ w20.cell? ⟨cb, 4, none⟩ = some (.int .i64 (n1 : Nat)) ∧ w20.cell? ⟨cb, 5, none⟩ = some (.int .i64 (z2 : Nat)) ∧ w20.cell? ⟨cb, 6, none⟩ = some (.int .i64 (n2 : Nat)) ∧ w20.cell? ⟨kb, 0, none⟩ = some (.int .i64 (z : Nat)) ∧ w20.cell? ⟨kb, 1, none⟩ = some (.int .i64 (n : Nat))) := Lib.hid ⟨hg20.cell (HC.out.1), hg20.cell (HC.out.2.1), hg20.cell (HC.out.2.2.1), hg20.cell (HC.out.2.2.2.1), hg20.cell (HC.out.2.2.2.2.1), hg20.cell (HC.out.2.2.2.2.2.1), hg20.cell (HC.out.2.2.2.2.2.2.1), hg20.cell (HC.out.2.2.2.2.2.2.2.1), hg20.cell (HC.out.2.2.2.2.2.2.2.2)⟩
              clear hg20
              go_wp2_with fail
              refine (list3_any t _ ht32 HE2.out.2.2).mono ?_
              rintro e w21 ⟨a2, cap2, rfl, -, hg21, -⟩
              have HE3 := Lib.hid (And.intro (HE2.out.1.trans hg21) (And.intro (HE2.out.2.1.gr hg21) (HE2.out.2.2.gr hg21)))
              have HC3 : Hid (w21.cell? ⟨cb, 0, none⟩ = some (.int .i64 (r : Nat)) ∧ w21.cell? ⟨cb, 1, none⟩ = some (.int .i64 (p : Nat)) ∧ w21.cell? ⟨cb, 2, none⟩ = some (.int .u32 (W : Nat)) ∧ w21.cell? ⟨cb, 3, none⟩ = some (.int .i64 (z1 : Nat)) ∧ w21.cell? ⟨cb, 4, none⟩ = some (.int .i64 (n1 : Nat)) ∧ w21.cell? ⟨cb, 5, none⟩ = some (.int .i64 (z2 : Nat)) ∧ w21.cell? ⟨cb, 6, none⟩ = some (.int .i64 (n2 : Nat)) ∧ w21.cell? ⟨kb, 0, none⟩ = some (.int .i64 (z : Nat)) ∧ w21.cell? ⟨kb, 1, none⟩ = some (.int .i64 (n : Nat))) := Lib.hid ⟨hg21.cell (HC2.out.1), hg21.cell (HC2.out.2.1), hg21.cell (HC2.out.2.2.1), hg21.cell (HC2.out.2.2.2.1), hg21.cell (HC2.out.2.2.2.2.1), hg21.cell (HC2.out.2.2.2.2.2.1), hg21.cell (HC2.out.2.2.2.2.2.2.1), hg21.cell (HC2.out.2.2.2.2.2.2.2.1), hg21.cell (HC2.out.2.2.2.2.2.2.2.2)⟩
              clear hg21
              have HIL := Lib.hid (show (ints (bitsL t)).length = cnt t.testBit 32 by simp [ints, HCL.out])
              rw [HIL.out]
              have HB2 := Lib.hid (HBY.out HQV.out)
              generalize cnt t.testBit 32 = c at *
              have HMN := Lib.hid (show min (best : Int) (c : Int) = ((min best c : Nat) : Int) by omega)
              have hmb : min best c ≤ 99 := by omega
              go_wp2_with (simp only [HMN.out])
              go_roundw
              case rel => exact ⟨t + 1, min best c, by omega, by go_num, by first | rfl | (rw [HMN.out]), hmb, HB2, Lib.hid HE3.out.2.1, Lib.hid HE3.out.1, Lib.hid HE3.out.2.2, HC3⟩
              case measure => simp [intOf]; omega
          · obtain rfl : t = N := by omega
            have hd : ¬ ((t : Int) < (2 : Int) ^ (r * p) % 4294967296) := by rw [HPI.out]; omega
            have hlb := BE0.out best HBS.out
            subst hlb
            go_wp2_with fail
            refine (LN.out _ HV1.out HT1.out).mono ?_
            rintro e w20 ⟨rfl, hg20⟩
            have HE := Lib.hid (HG1.out.trans hg20)
            clear hg20
            go_wp2
            go_ret
            exact ⟨rfl, HE.out⟩
    · skip
      have hmul : (r : Int) * (p : Int) = ((r * p : Nat) : Int) := by simp
      have m0 : 0 ≤ (r : Int) * (p : Int) := by rw [hmul]; omega
      have m1 : (r : Int) * (p : Int) ≤ 9 := by rw [hmul]; omega
      have hp9 : 2 ^ (r * p) ≤ 512 := Nat.pow_le_pow_right (n := 2) (by decide) h9
      have hs32 : s < 4294967296 := by omega
      have hmt : ((r : Int) * (p : Int)).toNat = r * p := by rw [hmul]; rfl
      have HPI : Hid ((2 : Int) ^ (r * p) % 4294967296 = ((2 ^ (r * p) : Nat) : Int)) := Lib.hid (by rw [show (2 : Int) ^ (r * p) = ((2 ^ (r * p) : Nat) : Int) by simp]; omega)
      have BE0 := Lib.hid (best_end (R := r) (per := p) (z := z) (nodes := n) (set := s) (by omega) zzr (by omega) nnp h9)
      have LN := Lib.hid (LN0.out b s hs)
      generalize least r p z n s = lv at *
      clear hmul hs AD0 DN0 LN0 KL BE
      generalize hpw : 2 ^ (r * p) = N at *
      clear hpw
      go_wp2
      go_loopw [10, 11] (fun v i wr => ∃ (t best : Nat), t ≤ N ∧ i = .int .u32 (t : Nat) ∧ v = .int .i64 (best : Nat) ∧ best ≤ 99 ∧ Hid (Best r p z n s t best) ∧ Hid (VtIs wr b r p W z1 n1 z2 n2 f s) ∧ Hid (Gr w wr) ∧ Hid (TB wr) ∧ Hid (wr.cell? ⟨cb, 0, none⟩ = some (.int .i64 (r : Nat)) ∧ wr.cell? ⟨cb, 1, none⟩ = some (.int .i64 (p : Nat)) ∧ wr.cell? ⟨cb, 2, none⟩ = some (.int .u32 (W : Nat)) ∧ wr.cell? ⟨cb, 3, none⟩ = some (.int .i64 (z1 : Nat)) ∧ wr.cell? ⟨cb, 4, none⟩ = some (.int .i64 (n1 : Nat)) ∧ wr.cell? ⟨cb, 5, none⟩ = some (.int .i64 (z2 : Nat)) ∧ wr.cell? ⟨cb, 6, none⟩ = some (.int .i64 (n2 : Nat)) ∧ wr.cell? ⟨kb, 0, none⟩ = some (.int .i64 (z : Nat)) ∧ wr.cell? ⟨kb, 1, none⟩ = some (.int .i64 (n : Nat)))) (fun _ i _ => N - (intOf i).toNat)
      case atStart => exact ⟨0, 99, by omega, rfl, rfl, by omega, Lib.hid (best_start r p z n s), HV0.out, HG0.out, HT0.out, HC0.out⟩
      case round =>
        obtain ⟨t, best, ht, rfl, rfl, hb99, HBS, HV1, HG1, HT1, HC1⟩ := hrel
        have q0 := HC1.out.1
        have q1 := HC1.out.2.1
        by_cases hlt : t < N
        · have hd : (t : Int) < (2 : Int) ^ (r * p) % 4294967296 := by rw [HPI.out]; omega
          have ht32 : t < 4294967296 := by omega
          have hor : s ||| t < 4294967296 := Nat.or_lt_two_pow (n := 32) hs32 ht32
          have HOR := Lib.hid (w32_or s t hs32 ht32)
          have QN := Lib.hid (QN0.out (s ||| t) hor)
          have CO := Lib.hid (CO0.out b s t ht32)
          obtain ⟨qv, hqv⟩ : ∃ qv, isQ r p z n (s ||| t) = qv := ⟨_, rfl⟩
          rw [hqv] at QN CO
          have HQV := Lib.hid hqv
          clear hqv hor
          have HCL := Lib.hid (bitsL_len t)
          have HBN := Lib.hid (fun h => @best_no r p z n s t best HBS.out h)
          have HBY := Lib.hid (fun h => @best_yes r p z n s t best HBS.out h)
          have hc32 := cnt_le t.testBit 32
          generalize ho : s ||| t = o at *
          clear ho
          have HS0 : (fun w9 => Hid (Gr w w9 ∧ VtIs w9 b r p W z1 n1 z2 n2 f s ∧ TB w9) ∧ w9.cell? ⟨cb, 0, none⟩ = some (.int .i64 (r : Nat)) ∧ w9.cell? ⟨cb, 1, none⟩ = some (.int .i64 (p : Nat)) ∧ w9.cell? ⟨cb, 2, none⟩ = some (.int .u32 (W : Nat)) ∧ w9.cell? ⟨cb, 3, none⟩ = some (.int .i64 (z1 : Nat)) ∧ w9.cell? ⟨cb, 4, none⟩ = some (.int .i64 (n1 : Nat)) ∧ w9.cell? ⟨cb, 5, none⟩ = some (.int .i64 (z2 : Nat)) ∧ w9.cell? ⟨cb, 6, none⟩ = some (.int .i64 (n2 : Nat)) ∧ w9.cell? ⟨kb, 0, none⟩ = some (.int .i64 (z : Nat)) ∧ w9.cell? ⟨kb, 1, none⟩ = some (.int .i64 (n : Nat))) wr := ⟨Lib.hid ⟨HG1.out, HV1.out, HT1.out⟩, HC1.out.1, HC1.out.2.1, HC1.out.2.2.1, HC1.out.2.2.2.1, HC1.out.2.2.2.2.1, HC1.out.2.2.2.2.2.1, HC1.out.2.2.2.2.2.2.1, HC1.out.2.2.2.2.2.2.2.1, HC1.out.2.2.2.2.2.2.2.2⟩
          have HX : Hid (∀ w0 w9 : World, Gr w0 w9 → (fun w9 => Hid (Gr w w9 ∧ VtIs w9 b r p W z1 n1 z2 n2 f s ∧ TB w9) ∧ w9.cell? ⟨cb, 0, none⟩ = some (.int .i64 (r : Nat)) ∧ w9.cell? ⟨cb, 1, none⟩ = some (.int .i64 (p : Nat)) ∧ w9.cell? ⟨cb, 2, none⟩ = some (.int .u32 (W : Nat)) ∧ w9.cell? ⟨cb, 3, none⟩ = some (.int .i64 (z1 : Nat)) ∧ w9.cell? ⟨cb, 4, none⟩ = some (.int .i64 (n1 : Nat)) ∧ w9.cell? ⟨cb, 5, none⟩ = some (.int .i64 (z2 : Nat)) ∧ w9.cell? ⟨cb, 6, none⟩ = some (.int .i64 (n2 : Nat)) ∧ w9.cell? ⟨kb, 0, none⟩ = some (.int .i64 (z : Nat)) ∧ w9.cell? ⟨kb, 1, none⟩ = some (.int .i64 (n : Nat))) w0 → (fun w9 => Hid (Gr w w9 ∧ VtIs w9 b r p W z1 n1 z2 n2 f s ∧ TB w9) ∧ w9.cell? ⟨cb, 0, none⟩ = some (.int .i64 (r : Nat)) ∧ w9.cell? ⟨cb, 1, none⟩ = some (.int .i64 (p : Nat)) ∧ w9.cell? ⟨cb, 2, none⟩ = some (.int .u32 (W : Nat)) ∧ w9.cell? ⟨cb, 3, none⟩ = some (.int .i64 (z1 : Nat)) ∧ w9.cell? ⟨cb, 4, none⟩ = some (.int .i64 (n1 : Nat)) ∧ w9.cell? ⟨cb, 5, none⟩ = some (.int .i64 (z2 : Nat)) ∧ w9.cell? ⟨cb, 6, none⟩ = some (.int .i64 (n2 : Nat)) ∧ w9.cell? ⟨kb, 0, none⟩ = some (.int .i64 (z : Nat)) ∧ w9.cell? ⟨kb, 1, none⟩ = some (.int .i64 (n : Nat))) w9) := Lib.hid fun w0 w9 hg ⟨h, q0, q1, q2, q3, q4, q5, q6, q7, q8⟩ => ⟨Lib.hid ⟨h.out.1.trans hg, h.out.2.1.gr hg, h.out.2.2.gr hg⟩, hg.cell q0, hg.cell q1, hg.cell q2, hg.cell q3, hg.cell q4, hg.cell q5, hg.cell q6, hg.cell q7, hg.cell q8⟩
          cases qv
          · skip
            go_wp2
            refine wp_region_held_drew (S := (fun w9 => Hid (Gr w w9 ∧ VtIs w9 b r p W z1 n1 z2 n2 f s ∧ TB w9) ∧ w9.cell? ⟨cb, 0, none⟩ = some (.int .i64 (r : Nat)) ∧ w9.cell? ⟨cb, 1, none⟩ = some (.int .i64 (p : Nat)) ∧ w9.cell? ⟨cb, 2, none⟩ = some (.int .u32 (W : Nat)) ∧ w9.cell? ⟨cb, 3, none⟩ = some (.int .i64 (z1 : Nat)) ∧ w9.cell? ⟨cb, 4, none⟩ = some (.int .i64 (n1 : Nat)) ∧ w9.cell? ⟨cb, 5, none⟩ = some (.int .i64 (z2 : Nat)) ∧ w9.cell? ⟨cb, 6, none⟩ = some (.int .i64 (n2 : Nat)) ∧ w9.cell? ⟨kb, 0, none⟩ = some (.int .i64 (z : Nat)) ∧ w9.cell? ⟨kb, 1, none⟩ = some (.int .i64 (n : Nat)))) (by kernel_rfl) ?invxb (fun h0 => ?_)
            case invxb => ((try dsimp only); (first | exact HS0 | exact HX.out _ _ ((Gr.refl _).drew) HS0))
            refine wpAnyH_take (i := 0) (oi := { dst := some 51, op := Go.Op.load 32 (Go.Operand.tmp 3), type := 32, pos := "law.go:65", after := #[], guard := none }) (v := ?vxb1) rfl (by kernel_rfl) (by kernel_rfl) (by kernel_rfl) (fun _ _ _ h => h) (Or.inl ⟨by rfl, ?rxb1⟩) (by assumption) ?_
            case rxb1 => (intro w hSw; (try dsimp only at hSw); (go_simp <;> with_reducible rfl))
            try simp only [Act.put, List.setIfInBounds_toArray, List.set_cons_zero, List.set_cons_succ]
            refine wpAnyH_take (i := 1) (oi := { dst := some 52, op := Go.Op.move (Go.Operand.tmp 7), type := 34, pos := "law.go:65", after := #[], guard := none }) (v := ?vxb2) rfl (by kernel_rfl) (by kernel_rfl) (by kernel_rfl) (fun _ _ _ h => h) (Or.inl ⟨by rfl, ?rxb2⟩) (by assumption) ?_
            case rxb2 => (intro w hSw; (try dsimp only at hSw); (go_simp <;> with_reducible rfl))
            try simp only [Act.put, List.setIfInBounds_toArray, List.set_cons_zero, List.set_cons_succ]
            refine wpAnyH_take (i := 3) (oi := { dst := some 54, op := Go.Op.move (Go.Operand.tmp 11), type := 23, pos := "law.go:65", after := #[], guard := none }) (v := ?vxb3) rfl (by kernel_rfl) (by kernel_rfl) (by kernel_rfl) (fun _ _ _ h => h) (Or.inl ⟨by rfl, ?rxb3⟩) (by assumption) ?_
            case rxb3 => (intro w hSw; (try dsimp only at hSw); (go_simp <;> with_reducible rfl))
            try simp only [Act.put, List.setIfInBounds_toArray, List.set_cons_zero, List.set_cons_succ]
            refine wpAnyH_take (i := 5) (oi := { dst := some 56, op := Go.Op.load 30 (Go.Operand.tmp 8), type := 30, pos := "law.go:65", after := #[], guard := none }) (v := ?vxb4) rfl (by kernel_rfl) (by kernel_rfl) (by kernel_rfl) (fun _ _ _ h => h) (Or.inl ⟨by rfl, ?rxb4⟩) (by assumption) ?_
            case rxb4 => (intro w hSw; (try dsimp only at hSw); (go_simp <;> with_reducible rfl))
            try simp only [Act.put, List.setIfInBounds_toArray, List.set_cons_zero, List.set_cons_succ]
            refine wpAnyH_ready (rs := [2]) (by kernel_rfl) (by simp) ?_
            refine AllReadyH.cons (o := { dst := some 53, op := Go.Op.call { callee := Go.Callee.value (Go.Operand.func 15), args := #[Go.Operand.tmp 52], argTypes := #[34] }, type := 23, pos := "law.go:65", after := #[{ on := 1, ground := Go.Ground.data }], guard := none }) rfl (fun K hK => ?_) AllReadyH.nil
            go_simp
            (go_at_call 15; refine (vSet_any _ (h0).1.out.2.1).mono ?_; rintro e w9 ⟨rfl, rfl⟩)
            first | refine hK.out _ _ ?sxb5 (fun h5 => ?_) | (go_wp2_with fail; refine hK.out _ _ ?sxb5 (fun h5 => ?_))
            case sxb5 => ((try dsimp only); (first | exact HX.out _ _ hgN h0 | exact h0))
            clear hK K h0
            try simp only [Act.put, List.setIfInBounds_toArray, List.set_cons_zero, List.set_cons_succ]
            refine wpAnyH_take (i := 4) (oi := { dst := some 55, op := Go.Op.binOp Go.BinOp.or 23 (Go.Operand.tmp 53) (Go.Operand.tmp 54) 23, type := 23, pos := "law.go:65", after := #[{ on := 2, ground := Go.Ground.data }, { on := 3, ground := Go.Ground.data }], guard := none }) (v := (.int .u32 (o : Nat))) rfl (by kernel_rfl) (by kernel_rfl) (by kernel_rfl) (fun _ _ _ h => h) (Or.inl ⟨by rfl, ?rxb6⟩) (by assumption) ?_
            case rxb6 => (intro w hSw; (try dsimp only at hSw); go_simp; all_goals simp [HOR.out])
            try simp only [Act.put, List.setIfInBounds_toArray, List.set_cons_zero, List.set_cons_succ]
            refine wpAnyH_ready (rs := [6]) (by kernel_rfl) (by simp) ?_
            refine AllReadyH.cons (o := { dst := some 57, op := Go.Op.call { callee := Go.Callee.value (Go.Operand.func 17), args := #[Go.Operand.tmp 51, Go.Operand.tmp 55, Go.Operand.tmp 56], argTypes := #[32, 23, 30] }, type := 4, pos := "law.go:65", after := #[{ on := 0, ground := Go.Ground.data }, { on := 4, ground := Go.Ground.data }, { on := 5, ground := Go.Ground.data }, { on := 2, ground := Go.Ground.chain }], guard := none }) rfl (fun K hK => ?_) AllReadyH.nil
            go_simp
            (go_at_call 17; refine (QN.out _).mono ?_; rintro e w9 ⟨rfl, hgN⟩)
            first | refine hK.out _ _ ?sxb7 (fun h7 => ?_) | (go_wp2_with fail; refine hK.out _ _ ?sxb7 (fun h7 => ?_))
            case sxb7 => ((try dsimp only); (first | exact HX.out _ _ hgN h5 | exact h5))
            clear hK K h5
            try simp only [Act.put, List.setIfInBounds_toArray, List.set_cons_zero, List.set_cons_succ]
            refine wpAnyH_take (i := 7) (oi := { dst := some 12, op := Go.Op.assign (Go.Operand.tmp 57), type := 4, pos := "law.go:65", after := #[{ on := 6, ground := Go.Ground.data }, { on := 6, ground := Go.Ground.chain }, { on := 0, ground := Go.Ground.phase }, { on := 1, ground := Go.Ground.phase }, { on := 2, ground := Go.Ground.phase }, { on := 3, ground := Go.Ground.phase }, { on := 4, ground := Go.Ground.phase }, { on := 5, ground := Go.Ground.phase }, { on := 6, ground := Go.Ground.phase }], guard := none }) (v := ?vxb8) rfl (by kernel_rfl) (by kernel_rfl) (by kernel_rfl) (fun _ _ _ h => h) (Or.inl ⟨by rfl, ?rxb8⟩) (by assumption) ?_
            case rxb8 => (intro w hSw; (try dsimp only at hSw); (go_simp <;> with_reducible rfl))
            try simp only [Act.put, List.setIfInBounds_toArray, List.set_cons_zero, List.set_cons_succ]
            refine wpAnyH_done (by kernel_rfl) ?_ _
            have HE := (h7).1
            have HC := Lib.hid (h7).2
            clear h7 HS0
            go_wp2_with fail
            refine (CO.out _ HE.out.2.1).mono ?_
            rintro e w20 ⟨rfl, hg20⟩
            have HE2 := Lib.hid (And.intro (HE.out.1.trans hg20) (And.intro (HE.out.2.1.gr hg20) (HE.out.2.2.gr hg20)))
            have HC2 : Hid (w20.cell? ⟨cb, 0, none⟩ = some (.int .i64 (r : Nat)) ∧ w20.cell? ⟨cb, 1, none⟩ = some (.int .i64 (p : Nat)) ∧ w20.cell? ⟨cb, 2, none⟩ = some (.int .u32 (W : Nat)) ∧ w20.cell? ⟨cb, 3, none⟩ = some (.int .i64 (z1 : Nat)) ∧ w20.cell? ⟨cb, 4, none⟩ = some (.int .i64 (n1 : Nat)) ∧ w20.cell? ⟨cb, 5, none⟩ = some (.int .i64 (z2 : Nat)) ∧ w20.cell? ⟨cb, 6, none⟩ = some (.int .i64 (n2 : Nat)) ∧ w20.cell? ⟨kb, 0, none⟩ = some (.int .i64 (z : Nat)) ∧ w20.cell? ⟨kb, 1, none⟩ = some (.int .i64 (n : Nat))) := Lib.hid ⟨hg20.cell (HC.out.1), hg20.cell (HC.out.2.1), hg20.cell (HC.out.2.2.1), hg20.cell (HC.out.2.2.2.1), hg20.cell (HC.out.2.2.2.2.1), hg20.cell (HC.out.2.2.2.2.2.1), hg20.cell (HC.out.2.2.2.2.2.2.1), hg20.cell (HC.out.2.2.2.2.2.2.2.1), hg20.cell (HC.out.2.2.2.2.2.2.2.2)⟩
            clear hg20
            go_wp2
            go_roundw
            case rel => exact ⟨t + 1, best, by omega, by go_num, rfl, hb99, Lib.hid (HBN.out HQV.out), Lib.hid HE2.out.2.1, Lib.hid HE2.out.1, Lib.hid HE2.out.2.2, HC2⟩
            case measure => simp [intOf]; omega
          · skip
            go_wp2
            refine wp_region_held_drew (S := (fun w9 => Hid (Gr w w9 ∧ VtIs w9 b r p W z1 n1 z2 n2 f s ∧ TB w9) ∧ w9.cell? ⟨cb, 0, none⟩ = some (.int .i64 (r : Nat)) ∧ w9.cell? ⟨cb, 1, none⟩ = some (.int .i64 (p : Nat)) ∧ w9.cell? ⟨cb, 2, none⟩ = some (.int .u32 (W : Nat)) ∧ w9.cell? ⟨cb, 3, none⟩ = some (.int .i64 (z1 : Nat)) ∧ w9.cell? ⟨cb, 4, none⟩ = some (.int .i64 (n1 : Nat)) ∧ w9.cell? ⟨cb, 5, none⟩ = some (.int .i64 (z2 : Nat)) ∧ w9.cell? ⟨cb, 6, none⟩ = some (.int .i64 (n2 : Nat)) ∧ w9.cell? ⟨kb, 0, none⟩ = some (.int .i64 (z : Nat)) ∧ w9.cell? ⟨kb, 1, none⟩ = some (.int .i64 (n : Nat)))) (by kernel_rfl) ?invyb (fun h0 => ?_)
            case invyb => ((try dsimp only); (first | exact HS0 | exact HX.out _ _ ((Gr.refl _).drew) HS0))
            refine wpAnyH_take (i := 0) (oi := { dst := some 51, op := Go.Op.load 32 (Go.Operand.tmp 3), type := 32, pos := "law.go:65", after := #[], guard := none }) (v := ?vyb1) rfl (by kernel_rfl) (by kernel_rfl) (by kernel_rfl) (fun _ _ _ h => h) (Or.inl ⟨by rfl, ?ryb1⟩) (by assumption) ?_
            case ryb1 => (intro w hSw; (try dsimp only at hSw); (go_simp <;> with_reducible rfl))
            try simp only [Act.put, List.setIfInBounds_toArray, List.set_cons_zero, List.set_cons_succ]
            refine wpAnyH_take (i := 1) (oi := { dst := some 52, op := Go.Op.move (Go.Operand.tmp 7), type := 34, pos := "law.go:65", after := #[], guard := none }) (v := ?vyb2) rfl (by kernel_rfl) (by kernel_rfl) (by kernel_rfl) (fun _ _ _ h => h) (Or.inl ⟨by rfl, ?ryb2⟩) (by assumption) ?_
            case ryb2 => (intro w hSw; (try dsimp only at hSw); (go_simp <;> with_reducible rfl))
            try simp only [Act.put, List.setIfInBounds_toArray, List.set_cons_zero, List.set_cons_succ]
            refine wpAnyH_take (i := 3) (oi := { dst := some 54, op := Go.Op.move (Go.Operand.tmp 11), type := 23, pos := "law.go:65", after := #[], guard := none }) (v := ?vyb3) rfl (by kernel_rfl) (by kernel_rfl) (by kernel_rfl) (fun _ _ _ h => h) (Or.inl ⟨by rfl, ?ryb3⟩) (by assumption) ?_
            case ryb3 => (intro w hSw; (try dsimp only at hSw); (go_simp <;> with_reducible rfl))
            try simp only [Act.put, List.setIfInBounds_toArray, List.set_cons_zero, List.set_cons_succ]
            refine wpAnyH_take (i := 5) (oi := { dst := some 56, op := Go.Op.load 30 (Go.Operand.tmp 8), type := 30, pos := "law.go:65", after := #[], guard := none }) (v := ?vyb4) rfl (by kernel_rfl) (by kernel_rfl) (by kernel_rfl) (fun _ _ _ h => h) (Or.inl ⟨by rfl, ?ryb4⟩) (by assumption) ?_
            case ryb4 => (intro w hSw; (try dsimp only at hSw); (go_simp <;> with_reducible rfl))
            try simp only [Act.put, List.setIfInBounds_toArray, List.set_cons_zero, List.set_cons_succ]
            refine wpAnyH_ready (rs := [2]) (by kernel_rfl) (by simp) ?_
            refine AllReadyH.cons (o := { dst := some 53, op := Go.Op.call { callee := Go.Callee.value (Go.Operand.func 15), args := #[Go.Operand.tmp 52], argTypes := #[34] }, type := 23, pos := "law.go:65", after := #[{ on := 1, ground := Go.Ground.data }], guard := none }) rfl (fun K hK => ?_) AllReadyH.nil
            go_simp
            (go_at_call 15; refine (vSet_any _ (h0).1.out.2.1).mono ?_; rintro e w9 ⟨rfl, rfl⟩)
            first | refine hK.out _ _ ?syb5 (fun h5 => ?_) | (go_wp2_with fail; refine hK.out _ _ ?syb5 (fun h5 => ?_))
            case syb5 => ((try dsimp only); (first | exact HX.out _ _ hgN h0 | exact h0))
            clear hK K h0
            try simp only [Act.put, List.setIfInBounds_toArray, List.set_cons_zero, List.set_cons_succ]
            refine wpAnyH_take (i := 4) (oi := { dst := some 55, op := Go.Op.binOp Go.BinOp.or 23 (Go.Operand.tmp 53) (Go.Operand.tmp 54) 23, type := 23, pos := "law.go:65", after := #[{ on := 2, ground := Go.Ground.data }, { on := 3, ground := Go.Ground.data }], guard := none }) (v := (.int .u32 (o : Nat))) rfl (by kernel_rfl) (by kernel_rfl) (by kernel_rfl) (fun _ _ _ h => h) (Or.inl ⟨by rfl, ?ryb6⟩) (by assumption) ?_
            case ryb6 => (intro w hSw; (try dsimp only at hSw); go_simp; all_goals simp [HOR.out])
            try simp only [Act.put, List.setIfInBounds_toArray, List.set_cons_zero, List.set_cons_succ]
            refine wpAnyH_ready (rs := [6]) (by kernel_rfl) (by simp) ?_
            refine AllReadyH.cons (o := { dst := some 57, op := Go.Op.call { callee := Go.Callee.value (Go.Operand.func 17), args := #[Go.Operand.tmp 51, Go.Operand.tmp 55, Go.Operand.tmp 56], argTypes := #[32, 23, 30] }, type := 4, pos := "law.go:65", after := #[{ on := 0, ground := Go.Ground.data }, { on := 4, ground := Go.Ground.data }, { on := 5, ground := Go.Ground.data }, { on := 2, ground := Go.Ground.chain }], guard := none }) rfl (fun K hK => ?_) AllReadyH.nil
            go_simp
            (go_at_call 17; refine (QN.out _).mono ?_; rintro e w9 ⟨rfl, hgN⟩)
            first | refine hK.out _ _ ?syb7 (fun h7 => ?_) | (go_wp2_with fail; refine hK.out _ _ ?syb7 (fun h7 => ?_))
            case syb7 => ((try dsimp only); (first | exact HX.out _ _ hgN h5 | exact h5))
            clear hK K h5
            try simp only [Act.put, List.setIfInBounds_toArray, List.set_cons_zero, List.set_cons_succ]
            refine wpAnyH_take (i := 7) (oi := { dst := some 12, op := Go.Op.assign (Go.Operand.tmp 57), type := 4, pos := "law.go:65", after := #[{ on := 6, ground := Go.Ground.data }, { on := 6, ground := Go.Ground.chain }, { on := 0, ground := Go.Ground.phase }, { on := 1, ground := Go.Ground.phase }, { on := 2, ground := Go.Ground.phase }, { on := 3, ground := Go.Ground.phase }, { on := 4, ground := Go.Ground.phase }, { on := 5, ground := Go.Ground.phase }, { on := 6, ground := Go.Ground.phase }], guard := none }) (v := ?vyb8) rfl (by kernel_rfl) (by kernel_rfl) (by kernel_rfl) (fun _ _ _ h => h) (Or.inl ⟨by rfl, ?ryb8⟩) (by assumption) ?_
            case ryb8 => (intro w hSw; (try dsimp only at hSw); (go_simp <;> with_reducible rfl))
            try simp only [Act.put, List.setIfInBounds_toArray, List.set_cons_zero, List.set_cons_succ]
            refine wpAnyH_done (by kernel_rfl) ?_ _
            have HE := (h7).1
            have HC := Lib.hid (h7).2
            clear h7 HS0
            go_wp2_with fail
            refine (CO.out _ HE.out.2.1).mono ?_
            rintro e w20 ⟨rfl, hg20⟩
            have HE2 := Lib.hid (And.intro (HE.out.1.trans hg20) (And.intro (HE.out.2.1.gr hg20) (HE.out.2.2.gr hg20)))
            have HC2 : Hid (w20.cell? ⟨cb, 0, none⟩ = some (.int .i64 (r : Nat)) ∧ w20.cell? ⟨cb, 1, none⟩ = some (.int .i64 (p : Nat)) ∧ w20.cell? ⟨cb, 2, none⟩ = some (.int .u32 (W : Nat)) ∧ w20.cell? ⟨cb, 3, none⟩ = some (.int .i64 (z1 : Nat)) ∧ w20.cell? ⟨cb, 4, none⟩ = some (.int .i64 (n1 : Nat)) ∧ w20.cell? ⟨cb, 5, none⟩ = some (.int .i64 (z2 : Nat)) ∧ w20.cell? ⟨cb, 6, none⟩ = some (.int .i64 (n2 : Nat)) ∧ w20.cell? ⟨kb, 0, none⟩ = some (.int .i64 (z : Nat)) ∧ w20.cell? ⟨kb, 1, none⟩ = some (.int .i64 (n : Nat))) := Lib.hid ⟨hg20.cell (HC.out.1), hg20.cell (HC.out.2.1), hg20.cell (HC.out.2.2.1), hg20.cell (HC.out.2.2.2.1), hg20.cell (HC.out.2.2.2.2.1), hg20.cell (HC.out.2.2.2.2.2.1), hg20.cell (HC.out.2.2.2.2.2.2.1), hg20.cell (HC.out.2.2.2.2.2.2.2.1), hg20.cell (HC.out.2.2.2.2.2.2.2.2)⟩
            clear hg20
            go_wp2_with fail
            refine (list3_any t _ ht32 HE2.out.2.2).mono ?_
            rintro e w21 ⟨a2, cap2, rfl, -, hg21, -⟩
            have HE3 := Lib.hid (And.intro (HE2.out.1.trans hg21) (And.intro (HE2.out.2.1.gr hg21) (HE2.out.2.2.gr hg21)))
            have HC3 : Hid (w21.cell? ⟨cb, 0, none⟩ = some (.int .i64 (r : Nat)) ∧ w21.cell? ⟨cb, 1, none⟩ = some (.int .i64 (p : Nat)) ∧ w21.cell? ⟨cb, 2, none⟩ = some (.int .u32 (W : Nat)) ∧ w21.cell? ⟨cb, 3, none⟩ = some (.int .i64 (z1 : Nat)) ∧ w21.cell? ⟨cb, 4, none⟩ = some (.int .i64 (n1 : Nat)) ∧ w21.cell? ⟨cb, 5, none⟩ = some (.int .i64 (z2 : Nat)) ∧ w21.cell? ⟨cb, 6, none⟩ = some (.int .i64 (n2 : Nat)) ∧ w21.cell? ⟨kb, 0, none⟩ = some (.int .i64 (z : Nat)) ∧ w21.cell? ⟨kb, 1, none⟩ = some (.int .i64 (n : Nat))) := Lib.hid ⟨hg21.cell (HC2.out.1), hg21.cell (HC2.out.2.1), hg21.cell (HC2.out.2.2.1), hg21.cell (HC2.out.2.2.2.1), hg21.cell (HC2.out.2.2.2.2.1), hg21.cell (HC2.out.2.2.2.2.2.1), hg21.cell (HC2.out.2.2.2.2.2.2.1), hg21.cell (HC2.out.2.2.2.2.2.2.2.1), hg21.cell (HC2.out.2.2.2.2.2.2.2.2)⟩
            clear hg21
            have HIL := Lib.hid (show (ints (bitsL t)).length = cnt t.testBit 32 by simp [ints, HCL.out])
            rw [HIL.out]
            have HB2 := Lib.hid (HBY.out HQV.out)
            generalize cnt t.testBit 32 = c at *
            have HMN := Lib.hid (show min (best : Int) (c : Int) = ((min best c : Nat) : Int) by omega)
            have hmb : min best c ≤ 99 := by omega
            go_wp2_with (simp only [HMN.out])
            go_roundw
            case rel => exact ⟨t + 1, min best c, by omega, by go_num, by first | rfl | (rw [HMN.out]), hmb, HB2, Lib.hid HE3.out.2.1, Lib.hid HE3.out.1, Lib.hid HE3.out.2.2, HC3⟩
            case measure => simp [intOf]; omega
        · obtain rfl : t = N := by omega
          have hd : ¬ ((t : Int) < (2 : Int) ^ (r * p) % 4294967296) := by rw [HPI.out]; omega
          have hlb := BE0.out best HBS.out
          subst hlb
          go_wp2_with fail
          refine (LN.out _ HV1.out HT1.out).mono ?_
          rintro e w20 ⟨rfl, hg20⟩
          have HE := Lib.hid (HG1.out.trans hg20)
          clear hg20
          go_wp2
          go_ret
          exact ⟨rfl, HE.out⟩
end Go.Proofs.YtegapeplbincnaaDoor
