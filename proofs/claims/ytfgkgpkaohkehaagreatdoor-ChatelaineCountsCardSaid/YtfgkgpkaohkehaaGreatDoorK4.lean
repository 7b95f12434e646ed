import Derived.Test.YtfgkgpkaohkehaaGreatDoorK1
import Derived.Test.YtfgkgpkaohkehaaGreatDoorK2
import Derived.WalkKit
import Derived.ProofKit
import Derived.LoopTactic
import Derived.Outline
import Derived.WalkSpells
import Derived.WalkLawsBesides
import Derived.Lib.Hide
import Derived.Deep.LoopGhost
import Derived.Deep.QuietTactic
import Derived.BigQuiet
import Derived.ShutString
import Derived.IntWalk
import Derived.Lib.Tables
import Derived.Laws.Bits64b
import Derived.Deep.RegionHeld3
namespace Go.Proofs.YtfgkgpkaohkehaaGreatDoor
open Go.ChangeShapes Go.WideShapes Go.ChangeAt Go.RowKit
open Grids
set_option linter.unusedVariables false
theorem and255 (x : Nat) (hx : x < 4294967296) : bits .and .u32 (x : Int) 255 = ((x % 256 : Nat) : Int) := by
  have := w32_and x 255 hx (by decide)
  rw [show (255 : Nat) = 2 ^ 8 - 1 from rfl, Nat.and_two_pow_sub_one_eq_mod] at this
  exact this
theorem mask_val {p r : Nat} (h : 1 ≤ p ∧ p ≤ 4) (hr : r ≤ 3) : ((2 : Int) ^ p - 1) % 4294967296 * 2 ^ (r * p) % 4294967296 = (mask p r : Nat) := by
  obtain rfl | rfl | rfl | rfl : p = 1 ∨ p = 2 ∨ p = 3 ∨ p = 4 := by omega
  all_goals (obtain rfl | rfl | rfl | rfl : r = 0 ∨ r = 1 ∨ r = 2 ∨ r = 3 := by omega) <;> decide +kernel
set_option maxRecDepth 100000 in
theorem region_any (R W z1 n1 z2 n2 : Int) (p r : Nat) (w : World) (hp : 1 ≤ p ∧ p ≤ 4) (hr : r ≤ 3) :
    Calls Tryz.prog 76 #[.agg #[.int .i64 R, .int .i64 p, .int .u32 W, .int .i64 z1, .int .i64 n1, .int .i64 z2, .int .i64 n2], .int .i64 r] w fun e w' => e = .returned (.int .u32 (mask p r : Nat)) ∧ Gr w w' := by
  have V := Lib.hid (mask_val hp hr)
  have hm : r * p ≤ 12 := Nat.le_trans (Nat.mul_le_mul hr hp.2) (by decide)
  have m1 : (0 : Int) ≤ (r : Int) * (p : Int) := by rw [← Int.natCast_mul]; omega
  have m2 : (r : Int) * (p : Int) ≤ 12 := by rw [← Int.natCast_mul]; omega
  obtain ⟨p1, p2⟩ := hp
  go_enter Tryz.func76, Tryz.ntmps76
  go_wp2
  go_region
  go_wp2
  go_ret
  refine ⟨?_, ((Gr.refl _).alloc _).drew⟩
  exact ret_int V.out
end Go.Proofs.YtfgkgpkaohkehaaGreatDoor
namespace Go.Proofs.YtfgkgpkaohkehaaGreatDoor
open Go.ChangeShapes Go.WideShapes Go.ChangeAt Go.RowKit
open Grids
set_option linter.unusedVariables false
set_option linter.unusedSimpArgs false
theorem ones_val (x : Nat) (hx : x < 4294967296) : ∃ b1 b2 b3 b4 : Nat, b1 ≤ 8 ∧ b2 ≤ 8 ∧ b3 ≤ 8 ∧ b4 ≤ 8 ∧ Lib.pop8 ((x / 16777216 : Nat) : Int) = b1 ∧ Lib.pop8 ((x / 65536 % 256 : Nat) : Int) = b2 ∧ Lib.pop8 ((x / 256 % 256 : Nat) : Int) = b3 ∧ Lib.pop8 ((x % 256 : Nat) : Int) = b4 ∧ cnt x.testBit 32 = b1 + b2 + b3 + b4 := by
  have h := pop_word x
  rw [show (2 : Nat) ^ 24 = 16777216 from rfl, show (2 : Nat) ^ 16 = 65536 from rfl, show (2 : Nat) ^ 8 = 256 from rfl, show x / 16777216 % 256 = x / 16777216 by omega] at h
  exact ⟨_, _, _, _, cnt_le _ _, cnt_le _ _, cnt_le _ _, cnt_le _ _, pop8_cnt _ (by omega), pop8_cnt _ (by omega), pop8_cnt _ (by omega), pop8_cnt _ (by omega), h⟩
theorem if_pop {w : World} {E : Result Value} {n : Int} {m b : Nat} (hn : n = (m : Int)) (hm : m < 256) (h : Lib.pop8 (m : Int) = b) :
    ((if hi : 0 ≤ n ∧ n < (Lib.pop8tab.size : Int) then Result.ok (Value.int .u8 (Lib.pop8tab[n.toNat]'(by omega)).toNat) w else E).andThen fun a w' => Result.ok (Next.value a) w') = Result.ok (Next.value (.int .u8 b)) w := by
  subst hn
  have hs := Lib.pop8tab_size
  rw [dif_pos ⟨by omega, by omega⟩]
  have h2 : ((m : Int)).toNat < Lib.pop8tab.size := by omega
  unfold Lib.pop8 at h
  rw [ByteArray.getElem?_lt' _ _ h2, Option.getD_some] at h
  rw [h]; rfl
set_option maxRecDepth 100000 in
set_option maxHeartbeats 1000000 in
theorem ones_any (x : Nat) (w : World) (hx : x < 4294967296) :
    Calls Tryz.prog 75 #[.int .u32 x] w fun e w' => e = .returned (.int .i64 (cnt x.testBit 32 : Nat)) ∧ Gr w w' := by
  obtain ⟨b1, b2, b3, b4, l1, l2, l3, l4, h1, h2, h3, h4, hv⟩ := ones_val x hx
  rw [hv]; clear hv
  have H1 := Lib.hid h1
  have H2 := Lib.hid h2
  have H3 := Lib.hid h3
  have H4 := Lib.hid h4
  have a2 := Lib.hid (and255 (x / 65536) (by omega))
  have a3 := Lib.hid (and255 (x / 256) (by omega))
  have a4 := Lib.hid (and255 x hx)
  have q1 := Lib.hid (show x / 16777216 < 256 by omega)
  clear h1 h2 h3 h4
  go_enter Tryz.func75, Tryz.ntmps75
  go_wp2
  refine wp_region_held_drew (S := (fun w9 => Gr w w9)) (by kernel_rfl) ?inva (fun h0 => ?_)
  case inva => ((try dsimp only); exact (Gr.refl _).drew)
  refine wpAnyH_take (i := 0) (oi := { dst := some 3, op := Go.Op.move (Go.Operand.tmp 0), type := 22, pos := "bits.go:136", after := #[], guard := none }) (v := ?va0) rfl (by kernel_rfl) (by kernel_rfl) (by kernel_rfl) (fun _ _ _ h => h) (Or.inl ⟨by rfl, ?ra0⟩) (by assumption) ?_
  case ra0 => (intro w hSw; (try dsimp only at hSw); (go_simp <;> with_reducible rfl))
  try simp only [Act.put, List.setIfInBounds_toArray, List.set_cons_zero, List.set_cons_succ]
  refine wpAnyH_take (i := 1) (oi := { dst := some 4, op := Go.Op.binOp Go.BinOp.shr 22 (Go.Operand.tmp 3) (Go.Operand.const (Go.Value.int Go.IntKind.u64 24)) 92, type := 22, pos := "bits.go:136", after := #[{ on := 0, ground := Go.Ground.data }], guard := none }) (v := ?va1) rfl (by kernel_rfl) (by kernel_rfl) (by kernel_rfl) (fun _ _ _ h => h) (Or.inl ⟨by rfl, ?ra1⟩) (by assumption) ?_
  case ra1 => (intro w hSw; (try dsimp only at hSw); (go_simp <;> with_reducible rfl))
  try simp only [Act.put, List.setIfInBounds_toArray, List.set_cons_zero, List.set_cons_succ]
  refine wpAnyH_take (i := 2) (oi := { dst := some 5, op := Go.Op.index 9 (Go.Operand.const (Go.Value.string { data := (([0, 1, 1, 2, 1, 2, 2, 3, 1, 2, 2, 3, 2, 3, 3, 4, 1, 2, 2, 3, 2, 3, 3, 4, 2, 3, 3, 4, 3, 4, 4, 5, 1, 2, 2, 3, 2, 3, 3, 4, 2, 3, 3, 4, 3, 4, 4, 5, 2, 3, 3, 4, 3, 4, 4, 5, 3, 4, 4, 5, 4, 5, 5, 6].append [1, 2, 2, 3, 2, 3, 3, 4, 2, 3, 3, 4, 3, 4, 4, 5, 2, 3, 3, 4, 3, 4, 4, 5, 3, 4, 4, 5, 4, 5, 5, 6, 2, 3, 3, 4, 3, 4, 4, 5, 3, 4, 4, 5, 4, 5, 5, 6, 3, 4, 4, 5, 4, 5, 5, 6, 4, 5, 5, 6, 5, 6, 6, 7]).append ([1, 2, 2, 3, 2, 3, 3, 4, 2, 3, 3, 4, 3, 4, 4, 5, 2, 3, 3, 4, 3, 4, 4, 5, 3, 4, 4, 5, 4, 5, 5, 6, 2, 3, 3, 4, 3, 4, 4, 5, 3, 4, 4, 5, 4, 5, 5, 6, 3, 4, 4, 5, 4, 5, 5, 6, 4, 5, 5, 6, 5, 6, 6, 7].append [2, 3, 3, 4, 3, 4, 4, 5, 3, 4, 4, 5, 4, 5, 5, 6, 3, 4, 4, 5, 4, 5, 5, 6, 4, 5, 5, 6, 5, 6, 6, 7, 3, 4, 4, 5, 4, 5, 5, 6, 4, 5, 5, 6, 5, 6, 6, 7, 4, 5, 5, 6, 5, 6, 6, 7, 5, 6, 6, 7, 6, 7, 7, 8])).toArray })) (Go.Operand.tmp 4), type := 5, pos := "bits.go:136", after := #[{ on := 1, ground := Go.Ground.data }], guard := none }) (v := (.int .u8 (b1 : Nat))) rfl (by kernel_rfl) (by kernel_rfl) (by kernel_rfl) (fun _ _ _ h => h) (Or.inl ⟨by rfl, ?ra2⟩) (by assumption) ?_
  case ra2 => (intro w hSw; (try dsimp only at hSw); go_simp; exact if_pop rfl q1.out H1.out)
  try simp only [Act.put, List.setIfInBounds_toArray, List.set_cons_zero, List.set_cons_succ]
  refine wpAnyH_take (i := 3) (oi := { dst := some 6, op := Go.Op.move (Go.Operand.tmp 0), type := 22, pos := "bits.go:136", after := #[], guard := none }) (v := ?va3) rfl (by kernel_rfl) (by kernel_rfl) (by kernel_rfl) (fun _ _ _ h => h) (Or.inl ⟨by rfl, ?ra3⟩) (by assumption) ?_
  case ra3 => (intro w hSw; (try dsimp only at hSw); (go_simp <;> with_reducible rfl))
  try simp only [Act.put, List.setIfInBounds_toArray, List.set_cons_zero, List.set_cons_succ]
  refine wpAnyH_take (i := 4) (oi := { dst := some 7, op := Go.Op.binOp Go.BinOp.shr 22 (Go.Operand.tmp 6) (Go.Operand.const (Go.Value.int Go.IntKind.u64 16)) 92, type := 22, pos := "bits.go:136", after := #[{ on := 3, ground := Go.Ground.data }], guard := none }) (v := ?va4) rfl (by kernel_rfl) (by kernel_rfl) (by kernel_rfl) (fun _ _ _ h => h) (Or.inl ⟨by rfl, ?ra4⟩) (by assumption) ?_
  case ra4 => (intro w hSw; (try dsimp only at hSw); (go_simp <;> with_reducible rfl))
  try simp only [Act.put, List.setIfInBounds_toArray, List.set_cons_zero, List.set_cons_succ]
  refine wpAnyH_take (i := 5) (oi := { dst := some 8, op := Go.Op.binOp Go.BinOp.and 22 (Go.Operand.tmp 7) (Go.Operand.const (Go.Value.int Go.IntKind.u32 255)) 22, type := 22, pos := "bits.go:136", after := #[{ on := 4, ground := Go.Ground.data }], guard := none }) (v := ?va5) rfl (by kernel_rfl) (by kernel_rfl) (by kernel_rfl) (fun _ _ _ h => h) (Or.inl ⟨by rfl, ?ra5⟩) (by assumption) ?_
  case ra5 => (intro w hSw; (try dsimp only at hSw); (go_simp <;> with_reducible rfl))
  try simp only [Act.put, List.setIfInBounds_toArray, List.set_cons_zero, List.set_cons_succ]
  refine wpAnyH_take (i := 6) (oi := { dst := some 9, op := Go.Op.index 9 (Go.Operand.const (Go.Value.string { data := (([0, 1, 1, 2, 1, 2, 2, 3, 1, 2, 2, 3, 2, 3, 3, 4, 1, 2, 2, 3, 2, 3, 3, 4, 2, 3, 3, 4, 3, 4, 4, 5, 1, 2, 2, 3, 2, 3, 3, 4, 2, 3, 3, 4, 3, 4, 4, 5, 2, 3, 3, 4, 3, 4, 4, 5, 3, 4, 4, 5, 4, 5, 5, 6].append [1, 2, 2, 3, 2, 3, 3, 4, 2, 3, 3, 4, 3, 4, 4, 5, 2, 3, 3, 4, 3, 4, 4, 5, 3, 4, 4, 5, 4, 5, 5, 6, 2, 3, 3, 4, 3, 4, 4, 5, 3, 4, 4, 5, 4, 5, 5, 6, 3, 4, 4, 5, 4, 5, 5, 6, 4, 5, 5, 6, 5, 6, 6, 7]).append ([1, 2, 2, 3, 2, 3, 3, 4, 2, 3, 3, 4, 3, 4, 4, 5, 2, 3, 3, 4, 3, 4, 4, 5, 3, 4, 4, 5, 4, 5, 5, 6, 2, 3, 3, 4, 3, 4, 4, 5, 3, 4, 4, 5, 4, 5, 5, 6, 3, 4, 4, 5, 4, 5, 5, 6, 4, 5, 5, 6, 5, 6, 6, 7].append [2, 3, 3, 4, 3, 4, 4, 5, 3, 4, 4, 5, 4, 5, 5, 6, 3, 4, 4, 5, 4, 5, 5, 6, 4, 5, 5, 6, 5, 6, 6, 7, 3, 4, 4, 5, 4, 5, 5, 6, 4, 5, 5, 6, 5, 6, 6, 7, 4, 5, 5, 6, 5, 6, 6, 7, 5, 6, 6, 7, 6, 7, 7, 8])).toArray })) (Go.Operand.tmp 8), type := 5, pos := "bits.go:136", after := #[{ on := 5, ground := Go.Ground.data }], guard := none }) (v := (.int .u8 (b2 : Nat))) rfl (by kernel_rfl) (by kernel_rfl) (by kernel_rfl) (fun _ _ _ h => h) (Or.inl ⟨by rfl, ?ra6⟩) (by assumption) ?_
  case ra6 => (intro w hSw; (try dsimp only at hSw); go_simp; exact if_pop a2.out (by omega) H2.out)
  try simp only [Act.put, List.setIfInBounds_toArray, List.set_cons_zero, List.set_cons_succ]
  refine wpAnyH_take (i := 7) (oi := { dst := some 10, op := Go.Op.binOp Go.BinOp.add 5 (Go.Operand.tmp 5) (Go.Operand.tmp 9) 5, type := 5, pos := "bits.go:136", after := #[{ on := 2, ground := Go.Ground.data }, { on := 6, ground := Go.Ground.data }], guard := none }) (v := ?va7) rfl (by kernel_rfl) (by kernel_rfl) (by kernel_rfl) (fun _ _ _ h => h) (Or.inl ⟨by rfl, ?ra7⟩) (by assumption) ?_
  case ra7 => (intro w hSw; (try dsimp only at hSw); (go_simp <;> with_reducible rfl))
  try simp only [Act.put, List.setIfInBounds_toArray, List.set_cons_zero, List.set_cons_succ]
  refine wpAnyH_take (i := 8) (oi := { dst := some 11, op := Go.Op.move (Go.Operand.tmp 0), type := 22, pos := "bits.go:136", after := #[], guard := none }) (v := ?va8) rfl (by kernel_rfl) (by kernel_rfl) (by kernel_rfl) (fun _ _ _ h => h) (Or.inl ⟨by rfl, ?ra8⟩) (by assumption) ?_
  case ra8 => (intro w hSw; (try dsimp only at hSw); (go_simp <;> with_reducible rfl))
  try simp only [Act.put, List.setIfInBounds_toArray, List.set_cons_zero, List.set_cons_succ]
  refine wpAnyH_take (i := 9) (oi := { dst := some 12, op := Go.Op.binOp Go.BinOp.shr 22 (Go.Operand.tmp 11) (Go.Operand.const (Go.Value.int Go.IntKind.u64 8)) 92, type := 22, pos := "bits.go:136", after := #[{ on := 8, ground := Go.Ground.data }], guard := none }) (v := ?va9) rfl (by kernel_rfl) (by kernel_rfl) (by kernel_rfl) (fun _ _ _ h => h) (Or.inl ⟨by rfl, ?ra9⟩) (by assumption) ?_
  case ra9 => (intro w hSw; (try dsimp only at hSw); (go_simp <;> with_reducible rfl))
  try simp only [Act.put, List.setIfInBounds_toArray, List.set_cons_zero, List.set_cons_succ]
  refine wpAnyH_take (i := 10) (oi := { dst := some 13, op := Go.Op.binOp Go.BinOp.and 22 (Go.Operand.tmp 12) (Go.Operand.const (Go.Value.int Go.IntKind.u32 255)) 22, type := 22, pos := "bits.go:136", after := #[{ on := 9, ground := Go.Ground.data }], guard := none }) (v := ?va10) rfl (by kernel_rfl) (by kernel_rfl) (by kernel_rfl) (fun _ _ _ h => h) (Or.inl ⟨by rfl, ?ra10⟩) (by assumption) ?_
  case ra10 => (intro w hSw; (try dsimp only at hSw); (go_simp <;> with_reducible rfl))
  try simp only [Act.put, List.setIfInBounds_toArray, List.set_cons_zero, List.set_cons_succ]
  refine wpAnyH_take (i := 11) (oi := { dst := some 14, op := Go.Op.index 9 (Go.Operand.const (Go.Value.string { data := (([0, 1, 1, 2, 1, 2, 2, 3, 1, 2, 2, 3, 2, 3, 3, 4, 1, 2, 2, 3, 2, 3, 3, 4, 2, 3, 3, 4, 3, 4, 4, 5, 1, 2, 2, 3, 2, 3, 3, 4, 2, 3, 3, 4, 3, 4, 4, 5, 2, 3, 3, 4, 3, 4, 4, 5, 3, 4, 4, 5, 4, 5, 5, 6].append [1, 2, 2, 3, 2, 3, 3, 4, 2, 3, 3, 4, 3, 4, 4, 5, 2, 3, 3, 4, 3, 4, 4, 5, 3, 4, 4, 5, 4, 5, 5, 6, 2, 3, 3, 4, 3, 4, 4, 5, 3, 4, 4, 5, 4, 5, 5, 6, 3, 4, 4, 5, 4, 5, 5, 6, 4, 5, 5, 6, 5, 6, 6, 7]).append ([1, 2, 2, 3, 2, 3, 3, 4, 2, 3, 3, 4, 3, 4, 4, 5, 2, 3, 3, 4, 3, 4, 4, 5, 3, 4, 4, 5, 4, 5, 5, 6, 2, 3, 3, 4, 3, 4, 4, 5, 3, 4, 4, 5, 4, 5, 5, 6, 3, 4, 4, 5, 4, 5, 5, 6, 4, 5, 5, 6, 5, 6, 6, 7].append [2, 3, 3, 4, 3, 4, 4, 5, 3, 4, 4, 5, 4, 5, 5, 6, 3, 4, 4, 5, 4, 5, 5, 6, 4, 5, 5, 6, 5, 6, 6, 7, 3, 4, 4, 5, 4, 5, 5, 6, 4, 5, 5, 6, 5, 6, 6, 7, 4, 5, 5, 6, 5, 6, 6, 7, 5, 6, 6, 7, 6, 7, 7, 8])).toArray })) (Go.Operand.tmp 13), type := 5, pos := "bits.go:136", after := #[{ on := 10, ground := Go.Ground.data }], guard := none }) (v := (.int .u8 (b3 : Nat))) rfl (by kernel_rfl) (by kernel_rfl) (by kernel_rfl) (fun _ _ _ h => h) (Or.inl ⟨by rfl, ?ra11⟩) (by assumption) ?_
  case ra11 => (intro w hSw; (try dsimp only at hSw); go_simp; exact if_pop a3.out (by omega) H3.out)
  try simp only [Act.put, List.setIfInBounds_toArray, List.set_cons_zero, List.set_cons_succ]
  refine wpAnyH_take (i := 12) (oi := { dst := some 15, op := Go.Op.binOp Go.BinOp.add 5 (Go.Operand.tmp 10) (Go.Operand.tmp 14) 5, type := 5, pos := "bits.go:136", after := #[{ on := 7, ground := Go.Ground.data }, { on := 11, ground := Go.Ground.data }], guard := none }) (v := ?va12) rfl (by kernel_rfl) (by kernel_rfl) (by kernel_rfl) (fun _ _ _ h => h) (Or.inl ⟨by rfl, ?ra12⟩) (by assumption) ?_
  case ra12 => (intro w hSw; (try dsimp only at hSw); (go_simp <;> with_reducible rfl))
  try simp only [Act.put, List.setIfInBounds_toArray, List.set_cons_zero, List.set_cons_succ]
  refine wpAnyH_take (i := 13) (oi := { dst := some 16, op := Go.Op.move (Go.Operand.tmp 0), type := 22, pos := "bits.go:136", after := #[], guard := none }) (v := ?va13) rfl (by kernel_rfl) (by kernel_rfl) (by kernel_rfl) (fun _ _ _ h => h) (Or.inl ⟨by rfl, ?ra13⟩) (by assumption) ?_
  case ra13 => (intro w hSw; (try dsimp only at hSw); (go_simp <;> with_reducible rfl))
  try simp only [Act.put, List.setIfInBounds_toArray, List.set_cons_zero, List.set_cons_succ]
  refine wpAnyH_take (i := 14) (oi := { dst := some 17, op := Go.Op.binOp Go.BinOp.and 22 (Go.Operand.tmp 16) (Go.Operand.const (Go.Value.int Go.IntKind.u32 255)) 22, type := 22, pos := "bits.go:136", after := #[{ on := 13, ground := Go.Ground.data }], guard := none }) (v := ?va14) rfl (by kernel_rfl) (by kernel_rfl) (by kernel_rfl) (fun _ _ _ h => h) (Or.inl ⟨by rfl, ?ra14⟩) (by assumption) ?_
  case ra14 => (intro w hSw; (try dsimp only at hSw); (go_simp <;> with_reducible rfl))
  try simp only [Act.put, List.setIfInBounds_toArray, List.set_cons_zero, List.set_cons_succ]
  refine wpAnyH_take (i := 15) (oi := { dst := some 18, op := Go.Op.index 9 (Go.Operand.const (Go.Value.string { data := (([0, 1, 1, 2, 1, 2, 2, 3, 1, 2, 2, 3, 2, 3, 3, 4, 1, 2, 2, 3, 2, 3, 3, 4, 2, 3, 3, 4, 3, 4, 4, 5, 1, 2, 2, 3, 2, 3, 3, 4, 2, 3, 3, 4, 3, 4, 4, 5, 2, 3, 3, 4, 3, 4, 4, 5, 3, 4, 4, 5, 4, 5, 5, 6].append [1, 2, 2, 3, 2, 3, 3, 4, 2, 3, 3, 4, 3, 4, 4, 5, 2, 3, 3, 4, 3, 4, 4, 5, 3, 4, 4, 5, 4, 5, 5, 6, 2, 3, 3, 4, 3, 4, 4, 5, 3, 4, 4, 5, 4, 5, 5, 6, 3, 4, 4, 5, 4, 5, 5, 6, 4, 5, 5, 6, 5, 6, 6, 7]).append ([1, 2, 2, 3, 2, 3, 3, 4, 2, 3, 3, 4, 3, 4, 4, 5, 2, 3, 3, 4, 3, 4, 4, 5, 3, 4, 4, 5, 4, 5, 5, 6, 2, 3, 3, 4, 3, 4, 4, 5, 3, 4, 4, 5, 4, 5, 5, 6, 3, 4, 4, 5, 4, 5, 5, 6, 4, 5, 5, 6, 5, 6, 6, 7].append [2, 3, 3, 4, 3, 4, 4, 5, 3, 4, 4, 5, 4, 5, 5, 6, 3, 4, 4, 5, 4, 5, 5, 6, 4, 5, 5, 6, 5, 6, 6, 7, 3, 4, 4, 5, 4, 5, 5, 6, 4, 5, 5, 6, 5, 6, 6, 7, 4, 5, 5, 6, 5, 6, 6, 7, 5, 6, 6, 7, 6, 7, 7, 8])).toArray })) (Go.Operand.tmp 17), type := 5, pos := "bits.go:136", after := #[{ on := 14, ground := Go.Ground.data }], guard := none }) (v := (.int .u8 (b4 : Nat))) rfl (by kernel_rfl) (by kernel_rfl) (by kernel_rfl) (fun _ _ _ h => h) (Or.inl ⟨by rfl, ?ra15⟩) (by assumption) ?_
  case ra15 => (intro w hSw; (try dsimp only at hSw); go_simp; exact if_pop a4.out (by omega) H4.out)
  try simp only [Act.put, List.setIfInBounds_toArray, List.set_cons_zero, List.set_cons_succ]
  refine wpAnyH_take (i := 16) (oi := { dst := some 19, op := Go.Op.binOp Go.BinOp.add 5 (Go.Operand.tmp 15) (Go.Operand.tmp 18) 5, type := 5, pos := "bits.go:136", after := #[{ on := 12, ground := Go.Ground.data }, { on := 15, ground := Go.Ground.data }], guard := none }) (v := ?va16) rfl (by kernel_rfl) (by kernel_rfl) (by kernel_rfl) (fun _ _ _ h => h) (Or.inl ⟨by rfl, ?ra16⟩) (by assumption) ?_
  case ra16 => (intro w hSw; (try dsimp only at hSw); (go_simp <;> with_reducible rfl))
  try simp only [Act.put, List.setIfInBounds_toArray, List.set_cons_zero, List.set_cons_succ]
  refine wpAnyH_take (i := 17) (oi := { dst := some 20, op := Go.Op.convert 5 3 (Go.Operand.tmp 19), type := 3, pos := "bits.go:136", after := #[{ on := 16, ground := Go.Ground.data }], guard := none }) (v := ?va17) rfl (by kernel_rfl) (by kernel_rfl) (by kernel_rfl) (fun _ _ _ h => h) (Or.inl ⟨by rfl, ?ra17⟩) (by assumption) ?_
  case ra17 => (intro w hSw; (try dsimp only at hSw); (go_simp <;> with_reducible rfl))
  try simp only [Act.put, List.setIfInBounds_toArray, List.set_cons_zero, List.set_cons_succ]
  refine wpAnyH_take (i := 18) (oi := { dst := some 2, op := Go.Op.assign (Go.Operand.tmp 20), type := 3, pos := "bits.go:136", after := #[{ on := 17, ground := Go.Ground.data }, { on := 0, ground := Go.Ground.phase }, { on := 1, ground := Go.Ground.phase }, { on := 2, ground := Go.Ground.phase }, { on := 3, ground := Go.Ground.phase }, { on := 4, ground := Go.Ground.phase }, { on := 5, ground := Go.Ground.phase }, { on := 6, ground := Go.Ground.phase }, { on := 7, ground := Go.Ground.phase }, { on := 8, ground := Go.Ground.phase }, { on := 9, ground := Go.Ground.phase }, { on := 10, ground := Go.Ground.phase }, { on := 11, ground := Go.Ground.phase }, { on := 12, ground := Go.Ground.phase }, { on := 13, ground := Go.Ground.phase }, { on := 14, ground := Go.Ground.phase }, { on := 15, ground := Go.Ground.phase }, { on := 16, ground := Go.Ground.phase }, { on := 17, ground := Go.Ground.phase }], guard := none }) (v := ?va18) rfl (by kernel_rfl) (by kernel_rfl) (by kernel_rfl) (fun _ _ _ h => h) (Or.inl ⟨by rfl, ?ra18⟩) (by assumption) ?_
  case ra18 => (intro w hSw; (try dsimp only at hSw); (go_simp <;> with_reducible rfl))
  try simp only [Act.put, List.setIfInBounds_toArray, List.set_cons_zero, List.set_cons_succ]
  refine wpAnyH_done (by kernel_rfl) ?_ _
  go_wp2
  go_ret
  refine ⟨ret_int ?_, h0⟩
  simp only [IntKind.wrap_u8, IntKind.wrap_i64]
  omega
end Go.Proofs.YtfgkgpkaohkehaaGreatDoor
namespace Go.Proofs.YtfgkgpkaohkehaaGreatDoor
open Go.ChangeShapes Go.WideShapes Go.ChangeAt Go.RowKit
open Grids
set_option linter.unusedVariables false
/-- Is every number of a configuration in its range? -/
def Form (R P : Int) (W : Nat) (z1 n1 z2 n2 : Int) : Prop :=
  (1 ≤ R ∧ R ≤ 4) ∧ (1 ≤ P ∧ P ≤ 4) ∧ R * P ≤ 12 ∧ W / 2 ^ (R * P).toNat = 0 ∧ ((1 ≤ z1 ∧ z1 ≤ R) ∧ 1 ≤ n1 ∧ n1 ≤ P) ∧ (1 ≤ z2 ∧ z2 ≤ R) ∧ 1 ≤ n2 ∧ n2 ≤ P
instance (R P : Int) (W : Nat) (z1 n1 z2 n2 : Int) : Decidable (Form R P W z1 n1 z2 n2) := by unfold Form; infer_instance
theorem rp_bd {R P : Int} (h : 1 ≤ R ∧ R ≤ 4) (k : 1 ≤ P ∧ P ≤ 4) : 0 ≤ R * P ∧ R * P ≤ 16 :=
  ⟨Int.mul_nonneg (by omega) (by omega), Int.le_trans (Int.mul_le_mul h.2 k.2 (by omega) (by omega)) (by decide)⟩
theorem form_cases (R P : Int) (W : Nat) (z1 n1 z2 n2 : Int) :
    ∃ f1 f2 f3 f4 f5 f6 : Bool, decide (1 ≤ R ∧ R ≤ 4) = f1 ∧ decide (1 ≤ P ∧ P ≤ 4) = f2 ∧ decide (R * P ≤ 12) = f3 ∧ ((W : Int) / 2 ^ (R * P).toNat == 0) = f4 ∧
      (decide (1 ≤ z1 ∧ z1 ≤ R) && decide (1 ≤ n1 ∧ n1 ≤ P)) = f5 ∧ (decide (1 ≤ z2 ∧ z2 ≤ R) && decide (1 ≤ n2 ∧ n2 ≤ P)) = f6 ∧ decide (Form R P W z1 n1 z2 n2) = (f1 && f2 && f3 && f4 && f5 && f6) := by
  refine ⟨_, _, _, _, _, _, rfl, rfl, rfl, rfl, rfl, rfl, ?_⟩
  have e : ((W : Int) / 2 ^ (R * P).toNat == 0) = decide (W / 2 ^ (R * P).toNat = 0) := by
    have : (W : Int) / 2 ^ (R * P).toNat = ((W / 2 ^ (R * P).toNat : Nat) : Int) := by simp
    rw [this, Bool.eq_iff_iff, beq_iff_eq, decide_eq_true_eq]; omega
  rw [e]
  unfold Form
  rw [Bool.eq_iff_iff]
  simp only [decide_eq_true_eq, Bool.and_eq_true, and_assoc]
set_option maxRecDepth 100000 in
set_option maxHeartbeats 1000000 in
theorem hasForm_any (R P : Int) (W : Nat) (z1 n1 z2 n2 : Int) (w : World) :
    Calls Tryz.prog 46 #[.agg #[.int .i64 R, .int .i64 P, .int .u32 W, .int .i64 z1, .int .i64 n1, .int .i64 z2, .int .i64 n2]] w fun e w' => e = .returned (.bool (decide (Form R P W z1 n1 z2 n2))) ∧ Gr w w' := by
  obtain ⟨f1, f2, f3, f4, f5, f6, h1, h2, h3, h4, h5, h6, hF⟩ := form_cases R P W z1 n1 z2 n2
  rw [hF]; clear hF
  have c1 := Lib.hid (gupTo_any R 4)
  have c2 := Lib.hid (gupTo_any P 4)
  have c5 := Lib.hid (hasKind_any R P W z1 n1 z2 n2 z1 n1)
  have c6 := Lib.hid (hasKind_any R P W z1 n1 z2 n2 z2 n2)
  rw [h1] at c1
  rw [h2] at c2
  rw [h5] at c5
  rw [h6] at c6
  clear h5 h6
  cases f1
  · clear h1 h2 h3 h4
    go_enter Tryz.func46, Tryz.ntmps46
    go_wp2_with fail
    refine (c1.out _).mono ?_
    rintro e w1 ⟨rfl, rfl⟩
    go_wp2
    go_ret
    exact ⟨rfl, (Gr.refl _).alloc _⟩
  cases f2
  · clear h1 h2 h3 h4
    go_enter Tryz.func46, Tryz.ntmps46
    go_wp2_with fail
    refine (c1.out _).mono ?_
    rintro e w1 ⟨rfl, rfl⟩
    go_wp2_with fail
    refine (c2.out _).mono ?_
    rintro e w1 ⟨rfl, rfl⟩
    go_wp2
    go_ret
    exact ⟨rfl, (Gr.refl _).alloc _⟩
  obtain ⟨m1, m2⟩ := rp_bd (of_decide_eq_true h1) (of_decide_eq_true h2)
  clear h1 h2
  cases f3
  · have h3' := of_decide_eq_false h3
    clear h3 h4
    go_enter Tryz.func46, Tryz.ntmps46
    go_wp2_with fail
    refine (c1.out _).mono ?_
    rintro e w1 ⟨rfl, rfl⟩
    go_wp2_with fail
    refine (c2.out _).mono ?_
    rintro e w1 ⟨rfl, rfl⟩
    go_wp2
    go_ret
    exact ⟨by first | rfl | (simp <;> omega), (Gr.refl _).alloc _⟩
  have h3' := of_decide_eq_true h3
  clear h3
  cases f4
  · go_enter Tryz.func46, Tryz.ntmps46
    go_wp2_with fail
    refine (c1.out _).mono ?_
    rintro e w1 ⟨rfl, rfl⟩
    go_wp2_with fail
    refine (c2.out _).mono ?_
    rintro e w1 ⟨rfl, rfl⟩
    go_wp2
    go_ret
    exact ⟨by first | rfl | (simp <;> omega), (Gr.refl _).alloc _⟩
  cases f5
  · go_enter Tryz.func46, Tryz.ntmps46
    go_wp2_with fail
    refine (c1.out _).mono ?_
    rintro e w1 ⟨rfl, rfl⟩
    go_wp2_with fail
    refine (c2.out _).mono ?_
    rintro e w1 ⟨rfl, rfl⟩
    go_wp2_with fail
    refine (c5.out _).mono ?_
    rintro e w1 ⟨rfl, hg⟩
    have HG := Lib.hid hg
    clear hg
    go_wp2
    go_ret
    exact ⟨rfl, ((Gr.refl _).alloc _).trans HG.out⟩
  · go_enter Tryz.func46, Tryz.ntmps46
    go_wp2_with fail
    refine (c1.out _).mono ?_
    rintro e w1 ⟨rfl, rfl⟩
    go_wp2_with fail
    refine (c2.out _).mono ?_
    rintro e w1 ⟨rfl, rfl⟩
    go_wp2_with fail
    refine (c5.out _).mono ?_
    rintro e w1 ⟨rfl, hg⟩
    have HG := Lib.hid hg
    have k0 := hg.own.1 0 _ rfl
    have k1 := hg.own.1 1 _ rfl
    have k2 := hg.own.1 2 _ rfl
    have k3 := hg.own.1 3 _ rfl
    have k4 := hg.own.1 4 _ rfl
    have k5 := hg.own.1 5 _ rfl
    have k6 := hg.own.1 6 _ rfl
    clear hg
    go_wp2_with fail
    refine (c6.out _).mono ?_
    rintro e w2 ⟨rfl, hg⟩
    have HG2 := Lib.hid hg
    clear hg
    go_wp2
    go_ret
    exact ⟨rfl, (((Gr.refl _).alloc _).trans HG.out).trans HG2.out⟩
end Go.Proofs.YtfgkgpkaohkehaaGreatDoor
namespace Go.Proofs.YtfgkgpkaohkehaaGreatDoor
open Go.ChangeShapes Go.WideShapes Go.ChangeAt Go.RowKit
open Grids
set_option linter.unusedVariables false
set_option linter.unusedSimpArgs false
theorem region_bd {r p k : Nat} (hk : k < r) (hr : r ≤ 4) (hp : p ≤ 4) (hn : r * p ≤ 12) : k * p + p ≤ 12 := by
  have := Nat.mul_le_mul_right p (show k + 1 ≤ r by omega)
  rw [Nat.add_mul] at this; omega
/-- What a region's two calls give. -/
theorem region_facts {r p W k : Nat} (hk : k < r) (hr : r ≤ 4) (hp : 1 ≤ p ∧ p ≤ 4) (hn : r * p ≤ 12) (hW : W < 4294967296) :
    ∃ mk m rc : Nat, mask p k = mk ∧ bits .and .u32 (W : Int) (mk : Int) = (m : Int) ∧ m < 4294967296 ∧ cnt m.testBit 32 = rc ∧ regC p W k = rc ∧ rc ≤ p := by
  have hb := region_bd hk hr hp.2 hn
  have hm := mask_lt (p := p) (r := k) (by omega)
  exact ⟨_, _, _, rfl, w32_and _ _ hW (by omega), Nat.lt_of_le_of_lt Nat.and_le_left hW, rfl, (pop_region (by omega)).symm, by rw [pop_region (by omega)]; exact cnt_le _ _⟩
set_option maxRecDepth 100000 in
set_option maxHeartbeats 2000000 in
theorem meets_any (r p W z1 n1 z2 n2 : Nat) (w : World) (hr : 1 ≤ r ∧ r ≤ 4) (hp : 1 ≤ p ∧ p ≤ 4) (hn : r * p ≤ 12) (hW : W < 4294967296) (hz1 : z1 ≤ 4) (hz2 : z2 ≤ 4) (hn1 : n1 ≤ 4) (hn2 : n2 ≤ 4) :
    Calls Tryz.prog 47 #[.agg #[.int .i64 r, .int .i64 p, .int .u32 W, .int .i64 z1, .int .i64 n1, .int .i64 z2, .int .i64 n2]] w fun e w' => e = .returned (.bool (meetsB r p W z1 n1 z2 n2)) ∧ Gr w w' := by
  have HM := Lib.hid (show meetsB r p W z1 n1 z2 n2 = !decide (z1 + z2 ≤ r + cnt (loose p W n1 n2) r) from rfl)
  rw [HM.out]; clear HM
  have HC := Lib.hid (fun k => cnt_le (loose p W n1 n2) k)
  have HL := Lib.hid (fun k => show loose p W n1 n2 k = decide (n1 + n2 ≤ p + regC p W k) from rfl)
  have HK := Lib.hid (fun k => show cnt (loose p W n1 n2) (k + 1) = cnt (loose p W n1 n2) k + (if loose p W n1 n2 k then 1 else 0) from rfl)
  have HC0 := Lib.hid (show cnt (loose p W n1 n2) 0 = 0 from rfl)
  generalize cnt (loose p W n1 n2) = C at *
  generalize loose p W n1 n2 = Lo at *
  go_enter Tryz.func47, Tryz.ntmps47
  go_wp2
  have hg0 := Gr.refl (w.alloc (.cells #[.int .i64 r, .int .i64 p, .int .u32 W, .int .i64 z1, .int .i64 n1, .int .i64 z2, .int .i64 n2] 30))
  have HG0 := Lib.hid ((Gr.refl w).alloc (.cells #[.int .i64 r, .int .i64 p, .int .u32 W, .int .i64 z1, .int .i64 n1, .int .i64 z2, .int .i64 n2] 30))
  have k0 := hg0.own.1 0 _ rfl
  have k1 := hg0.own.1 1 _ rfl
  have k2 := hg0.own.1 2 _ rfl
  have k3 := hg0.own.1 3 _ rfl
  have k4 := hg0.own.1 4 _ rfl
  have k5 := hg0.own.1 5 _ rfl
  have k6 := hg0.own.1 6 _ rfl
  clear hg0
  generalize w.heap.size = b at *
  generalize w.alloc (.cells #[.int .i64 r, .int .i64 p, .int .u32 W, .int .i64 z1, .int .i64 n1, .int .i64 z2, .int .i64 n2] 30) = wz at *
  have HX : Hid (∀ w0 w9 : World, Gr w0 w9 → (fun w9 => Gr wz w9 ∧ w9.cell? ⟨b, 0, none⟩ = some (.int .i64 (r : Nat)) ∧ w9.cell? ⟨b, 1, none⟩ = some (.int .i64 (p : Nat)) ∧ w9.cell? ⟨b, 2, none⟩ = some (.int .u32 (W : Nat)) ∧ w9.cell? ⟨b, 3, none⟩ = some (.int .i64 (z1 : Nat)) ∧ w9.cell? ⟨b, 4, none⟩ = some (.int .i64 (n1 : Nat)) ∧ w9.cell? ⟨b, 5, none⟩ = some (.int .i64 (z2 : Nat)) ∧ w9.cell? ⟨b, 6, none⟩ = some (.int .i64 (n2 : Nat))) w0 → (fun w9 => Gr wz w9 ∧ w9.cell? ⟨b, 0, none⟩ = some (.int .i64 (r : Nat)) ∧ w9.cell? ⟨b, 1, none⟩ = some (.int .i64 (p : Nat)) ∧ w9.cell? ⟨b, 2, none⟩ = some (.int .u32 (W : Nat)) ∧ w9.cell? ⟨b, 3, none⟩ = some (.int .i64 (z1 : Nat)) ∧ w9.cell? ⟨b, 4, none⟩ = some (.int .i64 (n1 : Nat)) ∧ w9.cell? ⟨b, 5, none⟩ = some (.int .i64 (z2 : Nat)) ∧ w9.cell? ⟨b, 6, none⟩ = some (.int .i64 (n2 : Nat))) w9) :=
    Lib.hid fun w0 w9 hg ⟨h0, h1, h2, h3, h4, h5, h6, h7⟩ => ⟨h0.trans hg, hg.cell h1, hg.cell h2, hg.cell h3, hg.cell h4, hg.cell h5, hg.cell h6, hg.cell h7⟩
  go_loopw [3, 8] (fun l i wr => ∃ k : Nat, k ≤ r ∧ i = .int .i64 k ∧ l = .int .i64 (C k : Nat) ∧ Hid (Gr wz wr)) (fun _ i _ => r - (intOf i).toNat)
  case atStart => exact ⟨0, by omega, rfl, by rw [HC0.out]; rfl, Lib.hid (Gr.refl _)⟩
  case round =>
    obtain ⟨k, hk, rfl, rfl, hG⟩ := hrel
    have hck := HC.out k
    by_cases hlt : k < r
    · have HK' := Lib.hid (HK.out k)
      obtain ⟨mk, m, rc, e1, e2, e3, e4, e5, e6⟩ := region_facts hlt hr.2 hp hn hW
      have RG := Lib.hid (region_any r W z1 n1 z2 n2 p k)
      have RG := Lib.hid (fun w => RG.out w hp (by omega))
      rw [e1] at RG
      have ON := Lib.hid (fun w => ones_any m w e3)
      rw [e4] at ON
      have HL' := Lib.hid (HL.out k)
      rw [e5] at HL'
      have HA := Lib.hid e2
      clear e1 e2 e3 e4 e5
      generalize C k = c at *
      generalize Lo k = lk at *
      have HS0 := And.intro hG.out (And.intro (hG.out.cell k0) (And.intro (hG.out.cell k1) (And.intro (hG.out.cell k2) (And.intro (hG.out.cell k3) (And.intro (hG.out.cell k4) (And.intro (hG.out.cell k5) (hG.out.cell k6)))))))
      have HP := Lib.hid hp
      have HZ := Lib.hid (And.intro k0 (And.intro k1 (And.intro k2 (And.intro k3 (And.intro k4 (And.intro k5 k6))))))
      clear k0 k1 k2 k3 k4 k5 k6
      go_wp2
      refine wp_region_held_drew (S := (fun w9 => Gr wz w9 ∧ w9.cell? ⟨b, 0, none⟩ = some (.int .i64 (r : Nat)) ∧ w9.cell? ⟨b, 1, none⟩ = some (.int .i64 (p : Nat)) ∧ w9.cell? ⟨b, 2, none⟩ = some (.int .u32 (W : Nat)) ∧ w9.cell? ⟨b, 3, none⟩ = some (.int .i64 (z1 : Nat)) ∧ w9.cell? ⟨b, 4, none⟩ = some (.int .i64 (n1 : Nat)) ∧ w9.cell? ⟨b, 5, none⟩ = some (.int .i64 (z2 : Nat)) ∧ w9.cell? ⟨b, 6, none⟩ = some (.int .i64 (n2 : Nat)))) (by kernel_rfl) ?inva (fun h0 => ?_)
      case inva => ((try dsimp only); (first | exact HS0 | exact HX.out _ _ ((Gr.refl _).drew) HS0))
      refine wpAnyH_take (i := 0) (oi := { dst := some 11, op := Go.Op.fieldAddr 30 (Go.Operand.tmp 1) 2, type := 0, pos := "grid.go:54", after := #[], guard := none }) (v := ?va0) rfl (by kernel_rfl) (by kernel_rfl) (by kernel_rfl) (fun _ _ _ h => h) (Or.inl ⟨by rfl, ?ra0⟩) (by assumption) ?_
      case ra0 => (intro w hSw; (try dsimp only at hSw); (go_simp <;> with_reducible rfl))
      try simp only [Act.put, List.setIfInBounds_toArray, List.set_cons_zero, List.set_cons_succ]
      refine wpAnyH_take (i := 1) (oi := { dst := some 12, op := Go.Op.load 22 (Go.Operand.tmp 11), type := 22, pos := "grid.go:54", after := #[{ on := 0, ground := Go.Ground.data }], guard := none }) (v := ?va1) rfl (by kernel_rfl) (by kernel_rfl) (by kernel_rfl) (fun _ _ _ h => h) (Or.inl ⟨by rfl, ?ra1⟩) (by assumption) ?_
      case ra1 => (intro w hSw; (try dsimp only at hSw); (go_simp <;> with_reducible rfl))
      try simp only [Act.put, List.setIfInBounds_toArray, List.set_cons_zero, List.set_cons_succ]
      refine wpAnyH_take (i := 2) (oi := { dst := some 13, op := Go.Op.load 30 (Go.Operand.tmp 1), type := 30, pos := "grid.go:54", after := #[], guard := none }) (v := ?va2) rfl (by kernel_rfl) (by kernel_rfl) (by kernel_rfl) (fun _ _ _ h => h) (Or.inl ⟨by rfl, ?ra2⟩) (by assumption) ?_
      case ra2 => (intro w hSw; (try dsimp only at hSw); (go_simp <;> with_reducible rfl))
      try simp only [Act.put, List.setIfInBounds_toArray, List.set_cons_zero, List.set_cons_succ]
      refine wpAnyH_take (i := 3) (oi := { dst := some 14, op := Go.Op.move (Go.Operand.tmp 4), type := 3, pos := "grid.go:54", after := #[], guard := none }) (v := ?va3) rfl (by kernel_rfl) (by kernel_rfl) (by kernel_rfl) (fun _ _ _ h => h) (Or.inl ⟨by rfl, ?ra3⟩) (by assumption) ?_
      case ra3 => (intro w hSw; (try dsimp only at hSw); (go_simp <;> with_reducible rfl))
      try simp only [Act.put, List.setIfInBounds_toArray, List.set_cons_zero, List.set_cons_succ]
      refine wpAnyH_ready (rs := [4]) (by kernel_rfl) (by simp) ?_
      refine AllReadyH.cons (o := { dst := some 15, op := Go.Op.call { callee := Go.Callee.value (Go.Operand.func 76), args := #[Go.Operand.tmp 13, Go.Operand.tmp 14], argTypes := #[30, 3] }, type := 22, pos := "grid.go:54", after := #[{ on := 2, ground := Go.Ground.data }, { on := 3, ground := Go.Ground.data }], guard := none }) rfl (fun K hK => ?_) AllReadyH.nil
      go_simp
      (go_at_call 76; refine (RG.out _).mono ?_; rintro e w9 ⟨rfl, hgN⟩)
      first | refine hK.out _ _ ?sa1 (fun h1 => ?_) | (go_wp2_with fail; refine hK.out _ _ ?sa1 (fun h1 => ?_))
      case sa1 => ((try dsimp only); exact HX.out _ _ hgN h0)
      clear hK K h0
      try simp only [Act.put, List.setIfInBounds_toArray, List.set_cons_zero, List.set_cons_succ]
      refine wpAnyH_take (i := 5) (oi := { dst := some 16, op := Go.Op.binOp Go.BinOp.and 22 (Go.Operand.tmp 12) (Go.Operand.tmp 15) 22, type := 22, pos := "grid.go:54", after := #[{ on := 1, ground := Go.Ground.data }, { on := 4, ground := Go.Ground.data }], guard := none }) (v := (.int .u32 (m : Nat))) rfl (by kernel_rfl) (by kernel_rfl) (by kernel_rfl) (fun _ _ _ h => h) (Or.inl ⟨by rfl, ?ra5⟩) (by assumption) ?_
      case ra5 => (intro w hSw; (try dsimp only at hSw); go_simp; simp [HA.out])
      try simp only [Act.put, List.setIfInBounds_toArray, List.set_cons_zero, List.set_cons_succ]
      refine wpAnyH_ready (rs := [6]) (by kernel_rfl) (by simp) ?_
      refine AllReadyH.cons (o := { dst := some 17, op := Go.Op.call { callee := Go.Callee.value (Go.Operand.func 75), args := #[Go.Operand.tmp 16], argTypes := #[22] }, type := 3, pos := "grid.go:54", after := #[{ on := 5, ground := Go.Ground.data }, { on := 4, ground := Go.Ground.chain }], guard := none }) rfl (fun K hK => ?_) AllReadyH.nil
      go_simp
      (go_at_call 75; refine (ON.out _).mono ?_; rintro e w9 ⟨rfl, hgN⟩)
      first | refine hK.out _ _ ?sa2 (fun h2 => ?_) | (go_wp2_with fail; refine hK.out _ _ ?sa2 (fun h2 => ?_))
      case sa2 => ((try dsimp only); exact HX.out _ _ hgN h1)
      clear hK K h1
      try simp only [Act.put, List.setIfInBounds_toArray, List.set_cons_zero, List.set_cons_succ]
      refine wpAnyH_take (i := 7) (oi := { dst := some 5, op := Go.Op.assign (Go.Operand.tmp 17), type := 3, pos := "grid.go:54", after := #[{ on := 6, ground := Go.Ground.data }, { on := 6, ground := Go.Ground.chain }, { on := 0, ground := Go.Ground.phase }, { on := 1, ground := Go.Ground.phase }, { on := 2, ground := Go.Ground.phase }, { on := 3, ground := Go.Ground.phase }, { on := 4, ground := Go.Ground.phase }, { on := 5, ground := Go.Ground.phase }, { on := 6, ground := Go.Ground.phase }], guard := none }) (v := ?va7) rfl (by kernel_rfl) (by kernel_rfl) (by kernel_rfl) (fun _ _ _ h => h) (Or.inl ⟨by rfl, ?ra7⟩) (by assumption) ?_
      case ra7 => (intro w hSw; (try dsimp only at hSw); (go_simp <;> with_reducible rfl))
      try simp only [Act.put, List.setIfInBounds_toArray, List.set_cons_zero, List.set_cons_succ]
      refine wpAnyH_done (by kernel_rfl) ?_ _
      obtain ⟨g9, d0, d1, d2, d3, d4, d5, d6⟩ := h2
      have G9 := Lib.hid g9
      clear g9 HS0
      have AP := Lib.hid (fun w => apart_any n1 n2 p rc w (by omega) (by omega) (by omega) (by omega))
      rw [show decide ((n1 : Int) + n2 ≤ p + rc) = lk by rw [HL'.out, Bool.eq_iff_iff, decide_eq_true_eq, decide_eq_true_eq]; omega] at AP
      cases lk
      · go_wp2_with fail
        refine (AP.out _).mono ?_
        rintro e w9 ⟨rfl, rfl⟩
        go_wp2
        go_roundw
        case rel => exact ⟨k + 1, by omega, by go_num, by rw [HK'.out]; rfl, G9⟩
        case measure => simp [intOf]; omega
      · go_wp2_with fail
        refine (AP.out _).mono ?_
        rintro e w9 ⟨rfl, rfl⟩
        go_wp2
        go_roundw
        case rel => exact ⟨k + 1, by omega, by go_num, by rw [HK'.out]; go_num, G9⟩
        case measure => simp [intOf]; omega
    · obtain rfl : k = r := by omega
      have d0 := hG.out.cell k0
      have d3 := hG.out.cell k3
      have d5 := hG.out.cell k5
      have AP := Lib.hid (fun w => apart_any z1 z2 k (C k) w (by omega) (by omega) (by omega) (by omega))
      rw [show decide ((z1 : Int) + z2 ≤ k + (C k : Nat)) = decide (z1 + z2 ≤ k + C k) by rw [Bool.eq_iff_iff, decide_eq_true_eq, decide_eq_true_eq]; omega] at AP
      obtain ⟨q, hq⟩ : ∃ q, decide (z1 + z2 ≤ k + C k) = q := ⟨_, rfl⟩
      rw [hq] at AP
      have HQ := Lib.hid hq
      clear hq
      clear k0 k1 k2 k3 k4 k5 k6
      go_wp2_with fail
      refine (AP.out _).mono ?_
      rintro e w9 ⟨rfl, rfl⟩
      go_wp2
      go_ret
      exact ⟨by rw [HQ.out]; rfl, HG0.out.trans hG.out⟩
set_option maxRecDepth 100000 in
set_option maxHeartbeats 1000000 in
theorem check_form (R P : Int) (W : Nat) (z1 n1 z2 n2 : Int) (w : World) (h : decide (Form R P W z1 n1 z2 n2) = false) :
    Calls Tryz.prog 18 #[.agg #[.int .i64 R, .int .i64 P, .int .u32 W, .int .i64 z1, .int .i64 n1, .int .i64 z2, .int .i64 n2]] w fun e w' => e = .returned (.int .i64 12) ∧ Gr w w' := by
  have c1 := Lib.hid (hasForm_any R P W z1 n1 z2 n2)
  rw [h] at c1
  clear h
  go_enter Tryz.func18, Tryz.ntmps18
  go_wp2_with fail
  refine (c1.out _).mono ?_
  rintro e w1 ⟨rfl, hg⟩
  go_wp2
  go_ret
  exact ⟨rfl, ((Gr.refl _).alloc _).trans hg⟩
theorem form_mk {r p W z1 n1 z2 n2 : Nat} (hr : 1 ≤ r ∧ r ≤ 4) (hp : 1 ≤ p ∧ p ≤ 4) (hn : r * p ≤ 12) (hW : W < 2 ^ (r * p)) (hz1 : 1 ≤ z1 ∧ z1 ≤ r) (hn1 : 1 ≤ n1 ∧ n1 ≤ p) (hz2 : 1 ≤ z2 ∧ z2 ≤ r) (hn2 : 1 ≤ n2 ∧ n2 ≤ p) : Form r p W z1 n1 z2 n2 := by
  have e : (r : Int) * p = ((r * p : Nat) : Int) := by simp
  unfold Form
  rw [e, Int.toNat_natCast, Nat.div_eq_of_lt hW]
  omega
set_option maxRecDepth 100000 in
set_option maxHeartbeats 1000000 in
theorem check_any (r p W z1 n1 z2 n2 : Nat) (w : World) (hr : 1 ≤ r ∧ r ≤ 4) (hp : 1 ≤ p ∧ p ≤ 4) (hn : r * p ≤ 12) (hW : W < 2 ^ (r * p)) (hz1 : 1 ≤ z1 ∧ z1 ≤ r) (hn1 : 1 ≤ n1 ∧ n1 ≤ p) (hz2 : 1 ≤ z2 ∧ z2 ≤ r) (hn2 : 1 ≤ n2 ∧ n2 ≤ p) :
    Calls Tryz.prog 18 #[.agg #[.int .i64 r, .int .i64 p, .int .u32 W, .int .i64 z1, .int .i64 n1, .int .i64 z2, .int .i64 n2]] w fun e w' => e = .returned (.int .i64 (if meetsB r p W z1 n1 z2 n2 then 0 else 12)) ∧ Gr w w' := by
  have hW' : W < 4294967296 := Nat.lt_of_lt_of_le hW (Nat.le_trans (Nat.pow_le_pow_right (by decide) hn) (by decide))
  have c1 := Lib.hid (hasForm_any r p W z1 n1 z2 n2)
  rw [decide_eq_true (form_mk hr hp hn hW hz1 hn1 hz2 hn2)] at c1
  have c2 := Lib.hid (fun w => meets_any r p W z1 n1 z2 n2 w hr hp hn hW' (by omega) (by omega) (by omega) (by omega))
  clear hr hp hn hW hz1 hn1 hz2 hn2 hW'
  generalize meetsB r p W z1 n1 z2 n2 = M at *
  cases M
  all_goals
    go_enter Tryz.func18, Tryz.ntmps18
    go_wp2_with fail
    refine (c1.out _).mono ?_
    rintro e w1 ⟨rfl, hg⟩
    have HG := Lib.hid hg
    have k0 := hg.own.1 0 _ rfl
    have k1 := hg.own.1 1 _ rfl
    have k2 := hg.own.1 2 _ rfl
    have k3 := hg.own.1 3 _ rfl
    have k4 := hg.own.1 4 _ rfl
    have k5 := hg.own.1 5 _ rfl
    have k6 := hg.own.1 6 _ rfl
    clear hg
    go_wp2_with fail
    refine (c2.out _).mono ?_
    rintro e w2 ⟨rfl, hg2⟩
    go_wp2
    go_ret
    exact ⟨rfl, (((Gr.refl _).alloc _).trans HG.out).trans hg2⟩
end Go.Proofs.YtfgkgpkaohkehaaGreatDoor
namespace Go.Proofs.YtfgkgpkaohkehaaGreatDoor
open Go.ChangeShapes Go.WideShapes Go.ChangeAt Go.RowKit
open Grids
set_option linter.unusedVariables false
set_option linter.unusedSimpArgs false
/-- What Check answers for a configuration. -/
def ChkIs (R P W z1 n1 z2 n2 c : Int) : Prop := ∀ w : World, Calls Tryz.prog 18 #[.agg #[.int .i64 R, .int .i64 P, .int .u32 W, .int .i64 z1, .int .i64 n1, .int .i64 z2, .int .i64 n2]] w fun e w' => e = .returned (.int .i64 c) ∧ Gr w w'
def LenIs (R P W z1 n1 z2 n2 L : Int) : Prop := ∀ w : World, Calls Tryz.prog 67 #[.agg #[.int .i64 R, .int .i64 P, .int .u32 W, .int .i64 z1, .int .i64 n1, .int .i64 z2, .int .i64 n2]] w fun e w' => e = .returned (.int .i64 L) ∧ Gr w w'
def HasIs (R P W z1 n1 z2 n2 n : Int) (q : Bool) : Prop := ∀ w : World, Calls Tryz.prog 40 #[.agg #[.int .i64 R, .int .i64 P, .int .u32 W, .int .i64 z1, .int .i64 n1, .int .i64 z2, .int .i64 n2], .int .i64 n] w fun e w' => e = .returned (.bool q) ∧ Gr w w'
def AllIs (R P W z1 n1 z2 n2 A : Int) : Prop := ∀ w : World, Calls Tryz.prog 129 #[.agg #[.int .i64 R, .int .i64 P, .int .u32 W, .int .i64 z1, .int .i64 n1, .int .i64 z2, .int .i64 n2]] w fun e w' => e = .returned (.int .u32 A) ∧ Gr w w'
theorem len_bad {R P W z1 n1 z2 n2 : Int} (h : ChkIs R P W z1 n1 z2 n2 12) : LenIs R P W z1 n1 z2 n2 0 := by
  intro w
  have c1 := Lib.hid h
  clear h
  go_enter Tryz.func67, Tryz.ntmps67
  go_wp2_with fail
  refine (c1.out _).mono ?_
  rintro e w1 ⟨rfl, hg⟩
  go_wp2
  go_ret
  exact ⟨rfl, ((Gr.refl _).alloc _).trans hg⟩
theorem len_ok {R P W z1 n1 z2 n2 : Int} (h : ChkIs R P W z1 n1 z2 n2 0) (h1 : 0 ≤ R * P) (h2 : R * P ≤ 16) : LenIs R P W z1 n1 z2 n2 (R * P) := by
  intro w
  have c1 := Lib.hid h
  clear h
  go_enter Tryz.func67, Tryz.ntmps67
  go_wp2_with fail
  refine (c1.out _).mono ?_
  rintro e w1 ⟨rfl, hg⟩
  have k0 := hg.own.1 0 _ rfl
  have k1 := hg.own.1 1 _ rfl
  have HG := Lib.hid hg
  clear hg
  go_wp2
  go_ret
  exact ⟨rfl, ((Gr.refl _).alloc _).trans HG.out⟩
theorem has2_any {R P W z1 n1 z2 n2 L : Int} (n : Int) (h : LenIs R P W z1 n1 z2 n2 L) : HasIs R P W z1 n1 z2 n2 n (decide (0 ≤ n ∧ n < L)) := by
  intro w
  have c1 := Lib.hid h
  clear h
  have hc : n < 0 ∧ decide (0 ≤ n ∧ n < L) = false ∨ 0 ≤ n ∧ n < L ∧ decide (0 ≤ n ∧ n < L) = true ∨ 0 ≤ n ∧ L ≤ n ∧ decide (0 ≤ n ∧ n < L) = false := by
    simp only [decide_eq_false_iff_not, decide_eq_true_eq]; omega
  rcases hc with ⟨h1, h2⟩ | ⟨h1, h3, h2⟩ | ⟨h1, h3, h2⟩
  · rw [h2]; clear h2
    go_enter Tryz.func40, Tryz.ntmps40
    go_wp2
    go_ret
    exact ⟨by first | rfl | (simp <;> omega), (Gr.refl _).alloc _⟩
  all_goals
    rw [h2]; clear h2
    go_enter Tryz.func40, Tryz.ntmps40
    go_wp2_with fail
    refine (c1.out _).mono ?_
    rintro e w1 ⟨rfl, hg⟩
    go_wp2
    go_ret
    exact ⟨by first | rfl | (simp <;> omega), ((Gr.refl _).alloc _).trans hg⟩
theorem regionOf_no {R P W z1 n1 z2 n2 n : Int} (h : HasIs R P W z1 n1 z2 n2 n false) (w : World) :
    Calls Tryz.prog 22 #[.agg #[.int .i64 R, .int .i64 P, .int .u32 W, .int .i64 z1, .int .i64 n1, .int .i64 z2, .int .i64 n2], .int .i64 n] w fun e w' => e = .returned (.int .i64 (-1)) ∧ Gr w w' := by
  have c1 := Lib.hid h
  clear h
  go_enter Tryz.func22, Tryz.ntmps22
  go_wp2_with fail
  refine (c1.out _).mono ?_
  rintro e w1 ⟨rfl, hg⟩
  go_wp2
  go_ret
  exact ⟨rfl, ((Gr.refl _).alloc _).trans hg⟩
theorem regionOf_yes {R W z1 n1 z2 n2 : Int} (n p : Nat) (hp : 1 ≤ p ∧ p ≤ 4) (hn : n ≤ 16) (h : HasIs R p W z1 n1 z2 n2 n true) (w : World) :
    Calls Tryz.prog 22 #[.agg #[.int .i64 R, .int .i64 p, .int .u32 W, .int .i64 z1, .int .i64 n1, .int .i64 z2, .int .i64 n2], .int .i64 n] w fun e w' => e = .returned (.int .i64 (n / p : Nat)) ∧ Gr w w' := by
  have c1 := Lib.hid h
  clear h
  obtain ⟨p1, p2⟩ := hp
  have hz : ((p : Int) == 0) = false := by simp; omega
  have q1 : 0 ≤ (n : Int) / (p : Int) := Int.natCast_nonneg (n / p)
  have q2 : (n : Int) / (p : Int) ≤ 16 := by
    have := Nat.div_le_self n p
    have e : (n : Int) / (p : Int) = ((n / p : Nat) : Int) := rfl
    omega
  go_enter Tryz.func22, Tryz.ntmps22
  go_wp2_with fail
  refine (c1.out _).mono ?_
  rintro e w1 ⟨rfl, hg⟩
  have k1 := hg.own.1 1 _ rfl
  have HG := Lib.hid hg
  clear hg
  go_wp2
  go_ret
  exact ⟨rfl, ((Gr.refl _).alloc _).trans HG.out⟩
theorem all_val {L : Nat} (h : L ≤ 16) : ((2 : Int) ^ L % 4294967296 - 1) % 4294967296 = ((2 ^ L - 1 : Nat) : Int) := by
  have : L < 17 := by omega
  revert L
  intro L h h2
  have key : ∀ i : Fin 17, ((2 : Int) ^ i.val % 4294967296 - 1) % 4294967296 = ((2 ^ i.val - 1 : Nat) : Int) := by decide +kernel
  exact key ⟨L, h2⟩
end Go.Proofs.YtfgkgpkaohkehaaGreatDoor
