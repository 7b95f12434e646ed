import Derived.Test.YtkihencimbdoiaaF08c
import Derived.Test.YtkihencimbdoiaaC12
import Derived.Test.YtkihencimbdoiaaC34
import Derived.Test.YtkihencimbdoiaaC35
import Derived.Test.YtkihencimbdoiaaF04
import Derived.WalkKit
import Derived.ProofKit
import Derived.LoopTactic
import Derived.Outline
import Derived.WalkSpells
import Derived.WalkLawsBesides
import Derived.Lib.Hide
import Derived.Deep.LoopGhost
import Derived.Deep.QuietTactic
import Derived.BigQuiet
import Derived.ShutString
import Derived.IntWalk
namespace Go.Proofs.Ytkihencimbdoiaa
open Go.ChangeShapes Go.WideShapes Go.ChangeAt Go.RowKit
open Bal
set_option linter.unusedVariables false
set_option linter.unusedSimpArgs false
theorem right16_det (N : Int) (c : Nat) : ∃ n : Nat, n ≤ 11 ∧ (c = 0 → n = 0) ∧ ∀ w : World, Calls Try.prog 66 #[.agg #[.int .u64 c, .int .i64 N]] w fun e w' => e = .returned (.agg #[.int .u64 c, .int .i64 n]) ∧ Gr w w' := by
  obtain ⟨n, hn, he⟩ := mod12 N
  by_cases hc : c = 0
  · subst hc
    refine ⟨0, by omega, fun _ => rfl, fun w => ?_⟩
    go_enter Try.func66, Try.ntmps66
    go_wp2
    exact bodyPost_ret (v := .agg #[.int .u64 0, .int .i64 0]) (by simp [results, Try.results66, go_sem]) rfl ⟨rfl, ((Gr.refl _).alloc _).alloc _⟩
  · have hc' : ((c : Int) == 0) = false := by simp; omega
    refine ⟨n, hn, fun h => absurd h hc, fun w => ?_⟩
    go_enter Try.func66, Try.ntmps66
    go_wp2
    exact bodyPost_ret (v := .agg #[.int .u64 c, .int .i64 n]) (by simp [results, Try.results66, go_sem, he]) rfl ⟨rfl, ((Gr.refl _).alloc _).alloc _⟩
def Act16.vals (p : Act16) : Array Value := #[.int .i64 p.k, .int .i64 p.fr, .int .i64 p.sl, .int .i64 p.ti, .int .i64 p.nw, .int .i64 p.lg, .int .u64 p.c, .int .i64 p.n, .string p.tx]
structure Act16.Right (p : Act16) : Prop where
  fr : 0 ≤ p.fr ∧ p.fr ≤ 11
  sl : 0 ≤ p.sl ∧ p.sl ≤ 255
  ti : 0 ≤ p.ti ∧ p.ti ≤ 65535
  nw : 0 ≤ p.nw ∧ p.nw ≤ 65535
  lg : 0 ≤ p.lg ∧ p.lg ≤ 65535
  c : 0 ≤ p.c ∧ p.c ≤ 18446744073709551615
  n : 0 ≤ p.n ∧ p.n ≤ 11
  z : p.c = 0 → p.n = 0
  tx : p.tx.size ≤ 30
set_option maxRecDepth 100000 in
set_option maxHeartbeats 2000000 in
theorem few16_det (p : Act16) (hp : p.ok) : ∃ q : Act16, q.Right ∧ q.k = p.k ∧ ∀ w : World, Calls Try.prog 19 #[.agg p.vals] w fun e w' => e = .returned (.agg q.vals) ∧ Gr w w' := by
  obtain ⟨K, FR, SL, TI, NW, LG, C, N, TX⟩ := p
  obtain ⟨_, _, _, _, _, _, hc, _, htx⟩ := hp
  replace htx : TX.size ≤ 9223372036854775807 := htx
  have bc := bounds_u64 hc
  obtain ⟨c, rfl⟩ := Int.eq_ofNat_of_zero_le bc.1
  obtain ⟨n, hn, h0, r⟩ := right16_det N c
  obtain ⟨f, hf, he⟩ := mod12 FR
  have HR := Lib.hid r
  have HE := he
  have HC := Lib.hid (fun w => cut_any TX 30 w htx (by decide))
  have hcl := cutB_le TX 30
  generalize cutB TX 30 = T30 at *
  have s1 := and_mask SL 255 (by decide)
  have t1 := and_mask TI 65535 (by decide)
  have n1 := and_mask NW 65535 (by decide)
  have l1 := and_mask LG 65535 (by decide)
  generalize hS1 : bits .and .i64 SL 255 = S1 at *
  generalize hT1 : bits .and .i64 TI 65535 = T1 at *
  generalize hN1 : bits .and .i64 NW 65535 = N1 at *
  generalize hL1 : bits .and .i64 LG 65535 = L1 at *
  refine ⟨⟨K, f, S1, T1, N1, L1, c, n, T30⟩, ⟨⟨by show (0 : Int) ≤ f; omega, by show (f : Int) ≤ 11; omega⟩, s1, t1, n1, l1, bc, ⟨by show (0 : Int) ≤ n; omega, by show (n : Int) ≤ 11; omega⟩, fun h => by have : n = 0 := h0 (by have : (c : Int) = 0 := h; omega); show (n : Int) = 0; omega, hcl⟩, rfl, fun w => ?_⟩
  clear s1 t1 n1 l1 r hc bc
  show Calls Try.prog 19 #[.agg #[.int .i64 K, .int .i64 FR, .int .i64 SL, .int .i64 TI, .int .i64 NW, .int .i64 LG, .int .u64 (c : Int), .int .i64 N, .string TX]] w fun e w' => e = .returned (.agg #[.int .i64 K, .int .i64 f, .int .i64 S1, .int .i64 T1, .int .i64 N1, .int .i64 L1, .int .u64 (c : Int), .int .i64 n, .string T30]) ∧ Gr w w'
  go_enter Try.func19, Try.ntmps19
  go_wp2_with fail
  clear hS1 hT1 hN1 hL1
  have HB := Lib.hid ((Blk.new w #[.int .i64 K, .int .i64 f, .int .i64 S1, .int .i64 T1, .int .i64 N1, .int .i64 L1, .int .u64 (c : Int), .int .i64 N, .string TX] 41).gr ((Gr.refl _).alloc (.cells #[.int .i64 0, .int .i64 0, .int .i64 0, .int .i64 0, .int .i64 0, .int .i64 0, .int .u64 0, .int .i64 0, .string ⟨#[]⟩] 41)))
  have HZ := Lib.hid (Blk.new (w.alloc (.cells #[.int .i64 K, .int .i64 f, .int .i64 S1, .int .i64 T1, .int .i64 N1, .int .i64 L1, .int .u64 (c : Int), .int .i64 N, .string TX] 41)) #[.int .i64 0, .int .i64 0, .int .i64 0, .int .i64 0, .int .i64 0, .int .i64 0, .int .u64 0, .int .i64 0, .string ⟨#[]⟩] 41)
  rw [show (w.alloc (.cells #[.int .i64 K, .int .i64 f, .int .i64 S1, .int .i64 T1, .int .i64 N1, .int .i64 L1, .int .u64 (c : Int), .int .i64 N, .string TX] 41)).heap.size = w.heap.size + 1 by simp] at HZ
  have HG := Lib.hid (((Gr.refl w).alloc (.cells #[.int .i64 K, .int .i64 f, .int .i64 S1, .int .i64 T1, .int .i64 N1, .int .i64 L1, .int .u64 (c : Int), .int .i64 N, .string TX] 41)).alloc (.cells #[.int .i64 0, .int .i64 0, .int .i64 0, .int .i64 0, .int .i64 0, .int .i64 0, .int .u64 0, .int .i64 0, .string ⟨#[]⟩] 41))
  generalize (w.alloc (.cells #[.int .i64 K, .int .i64 f, .int .i64 S1, .int .i64 T1, .int .i64 N1, .int .i64 L1, .int .u64 (c : Int), .int .i64 N, .string TX] 41)).alloc (.cells #[.int .i64 0, .int .i64 0, .int .i64 0, .int .i64 0, .int .i64 0, .int .i64 0, .int .u64 0, .int .i64 0, .string ⟨#[]⟩] 41) = wa at *
  refine (HR.out _).mono ?_
  rintro e w1 ⟨rfl, hg1⟩
  have HB1 := Lib.hid (HB.out.gr hg1)
  have HZ1 := Lib.hid (HZ.out.gr hg1)
  have HG1 := Lib.hid (HG.out.trans hg1)
  clear HB HZ HG hg1
  have q6 := HB1.out.cell (i := 6) rfl
  have q7 := HB1.out.cell (i := 7) rfl
  have q8 := HB1.out.cell (i := 8) rfl
  have r6 := HB1.out.free 6
  have r7 := HB1.out.free 7
  have HB2 := Lib.hid ((HB1.out.set 6 (.int .u64 (c : Int))).set 7 (.int .i64 n))
  have HZ2 := Lib.hid ((HZ1.out.other (show w.heap.size + 1 ≠ w.heap.size by omega) 6 (.int .u64 (c : Int))).other (show w.heap.size + 1 ≠ w.heap.size by omega) 7 (.int .i64 n))
  have HG2 := Lib.hid ((HG1.out.setCell (p := ⟨w.heap.size, 6, none⟩) (Nat.le_refl _) (.int .u64 (c : Int))).setCell (p := ⟨w.heap.size, 7, none⟩) (Nat.le_refl _) (.int .i64 n))
  have q8' := HB2.out.cell (i := 8) rfl
  go_wp2_with fail
  generalize (w1.setCell ⟨w.heap.size, 6, none⟩ (.int .u64 (c : Int))).setCell ⟨w.heap.size, 7, none⟩ (.int .i64 n) = w2 at *
  clear HB1 HZ1 HG1 q6 q7 q8 r6 r7
  refine (HC.out _).mono ?_
  rintro e w3 ⟨rfl, rfl⟩
  have r8 := HB2.out.free 8
  have HB3 := Lib.hid (HB2.out.set 8 (.string T30))
  have HZ3 := Lib.hid (HZ2.out.other (show w.heap.size + 1 ≠ w.heap.size by omega) 8 (.string T30))
  have HG3 := Lib.hid (HG2.out.setCell (p := ⟨w.heap.size, 8, none⟩) (Nat.le_refl _) (.string T30))
  replace HB3 := Lib.hid (show Blk _ _ #[.int .i64 K, .int .i64 f, .int .i64 S1, .int .i64 T1, .int .i64 N1, .int .i64 L1, .int .u64 (c : Int), .int .i64 n, .string T30] _ from HB3.out)
  obtain ⟨ms, hms, hml, hT, hO, hgr, hBl⟩ := blk_put HZ3.out #[.int .i64 K, .int .i64 f, .int .i64 S1, .int .i64 T1, .int .i64 N1, .int .i64 L1, .int .u64 (c : Int), .int .i64 n, .string T30] rfl (by intro u hu; simp only [List.mem_cons, List.not_mem_nil, or_false] at hu; rcases hu with rfl | rfl | rfl | rfl | rfl | rfl | rfl | rfl | rfl <;> rfl)
  have HGF := Lib.hid (gr_put HG3.out hgr (by omega))
  have HMS := Lib.hid hms
  have HML := Lib.hid hml
  have HTT := Lib.hid hT
  have HOO := Lib.hid hO
  have g0 := HB3.out.cell (i := 0) rfl
  have g1 := HB3.out.cell (i := 1) rfl
  have g2 := HB3.out.cell (i := 2) rfl
  have g3 := HB3.out.cell (i := 3) rfl
  have g4 := HB3.out.cell (i := 4) rfl
  have g5 := HB3.out.cell (i := 5) rfl
  have g6 := HB3.out.cell (i := 6) rfl
  have g7 := HB3.out.cell (i := 7) rfl
  have g8 := HB3.out.cell (i := 8) rfl
  have z0 := hBl.cell (i := 0) rfl
  have z1 := hBl.cell (i := 1) rfl
  have z2 := hBl.cell (i := 2) rfl
  have z3 := hBl.cell (i := 3) rfl
  have z4 := hBl.cell (i := 4) rfl
  have z5 := hBl.cell (i := 5) rfl
  have z6 := hBl.cell (i := 6) rfl
  have z7 := hBl.cell (i := 7) rfl
  have z8 := hBl.cell (i := 8) rfl
  clear hms hml hT hO hgr hBl HZ3 HG3 HZ2 HG2 HB3
  go_wp2_with (first | (refine wpList_store_mid rfl 41 (.tmp 2) (.tmp 33) (by rfl) (w.heap.size + 1) 0 ms.toArray (by rfl) (by exact HMS.out) HTT.out (by rw [HML.out]; kernel_rfl) HOO.out ?_))
  refine bodyPost_ret (v := .agg #[.int .i64 K, .int .i64 f, .int .i64 S1, .int .i64 T1, .int .i64 N1, .int .i64 L1, .int .u64 (c : Int), .int .i64 n, .string T30]) (by simp [results, Try.results19, go_sem, z0, z1, z2, z3, z4, z5, z6, z7, z8]; try rfl) rfl ?_
  exact ⟨rfl, HGF.out⟩
end Go.Proofs.Ytkihencimbdoiaa
