import Derived.Test.YtnanclgnjchpeaaF19g
import Derived.Test.YtnanclgnjchpeaaC18
import Derived.WalkKit
import Derived.ProofKit
import Derived.LoopTactic
import Derived.Outline
import Derived.WalkSpells
import Derived.WalkLawsBesides
import Derived.Lib.Hide
import Derived.Deep.LoopGhost
import Derived.Deep.QuietTactic
import Derived.BigQuiet
import Derived.ShutString
import Derived.IntWalk
import Derived.BigQuiet
import Derived.Laws.OwnMore
namespace Go.Proofs.Ytnanclgnjchpeaa
open Go.ChangeShapes Go.WideShapes Go.ChangeAt Go.RowKit
open Bal
set_option linter.unusedVariables false
set_option linter.unusedSimpArgs false
theorem LnIs.keep {w0 w w' : World} {b c : Nat} {v : Value} {a : Ln} {cs : Array Value} {t : TypeId} (h : LnIs w0 w b v a) (hf : Far b v w w') (hc : Blk w c cs t) (hne : c ≠ b) (ht : v.ownBlock ≠ some c) : Blk w' c cs t :=
  hc.far hf hne ht
abbrev eB : E := ⟨2, 0, 0, ⟨#[98]⟩⟩
abbrev eA : E := ⟨1, 0, 0, ⟨#[97]⟩⟩
set_option maxRecDepth 100000 in
set_option maxHeartbeats 1000000 in
theorem awake19 (w : World) : Calls Try.prog 13 #[] w fun e w' => e = .returned (.bool true) ∧ Gr w w' := by
  have k0 : (⟨0, 0, []⟩ : Ln).Ok 0 := Ln.ok0 (by decide) (by decide)
  have k1 : (⟨0, 0, [eB]⟩ : Ln).Ok 1 := k0.learn 2 (text := ⟨#[98]⟩) (by decide)
  have k2 : (⟨0, 0, [eA, eB]⟩ : Ln).Ok 2 := k1.learn 1 (text := ⟨#[97]⟩) (by decide)
  have k3 : (⟨0, 1, [eA, eB]⟩ : Ln).Ok 2 := k2.next (by decide)
  have H0 := Lib.hid (fun w => lnNew_st 0 w)
  have H1 := Lib.hid (fun (v : Value) (w1 : World) b (h : LnIs w w1 b v ⟨0, 0, []⟩) => learn_st 2 ⟨#[98]⟩ w1 h k0 (by decide) (by decide) (by decide))
  have H2 := Lib.hid (fun (v : Value) (w1 : World) b (h : LnIs w w1 b v ⟨0, 0, [eB]⟩) => next_st w1 h k1 (by decide))
  have H3 := Lib.hid (fun (v : Value) (w1 : World) b (h : LnIs w w1 b v ⟨0, 0, [eB]⟩) => learn_st 1 ⟨#[97]⟩ w1 h k1 (by decide) (by decide) (by decide))
  have H4 := Lib.hid (fun (v : Value) (w1 : World) b (h : LnIs w w1 b v ⟨0, 0, [eA, eB]⟩) => next_st w1 h k2 (by decide))
  have H5 := Lib.hid (fun (v : Value) (w1 : World) b (h : LnIs w w1 b v ⟨0, 1, [eA, eB]⟩) => next_st w1 h k3 (by decide))
  clear k0 k1 k2 k3
  go_enter Try.func13, Try.ntmps13
  go_wp2_with fail
  refine (H0.out _).mono ?_
  rintro e w1 ⟨rfl, hA1, hg1⟩
  have HA1 := Lib.hid (show LnIs w w1 w.heap.size (.slice none 0 0) ⟨0, 0, []⟩ from hA1)
  clear hA1 hg1
  go_wp2_with fail
  refine (H1.out _ _ _ HA1.out).mono ?_
  rintro e w2 ⟨rfl, v2, hA2, _⟩
  have HA2 := Lib.hid (show LnIs w w2 w.heap.size v2 ⟨0, 0, [eB]⟩ from hA2)
  clear hA2 HA1
  rw [show Ln.learnR ⟨0, 0, []⟩ 2 ⟨#[98]⟩ = 0 by kernel_rfl]
  go_wp2_with fail
  refine (H2.out _ _ _ HA2.out).mono ?_
  rintro e w3 ⟨rfl, v3, hA3, _⟩
  have HA3 := Lib.hid (show LnIs w w3 w.heap.size v3 ⟨0, 0, [eB]⟩ from hA3)
  clear hA3 HA2
  rw [show Ln.nextE ⟨0, 0, [eB]⟩ = zeroE by kernel_rfl, show Ln.nextB ⟨0, 0, [eB]⟩ = false by kernel_rfl]
  have HA4 := Lib.hid (HA3.out.gr ((Gr.refl _).alloc (.cells #[.int .i64 0, .int .u64 0, .int .i64 0, .string ⟨#[]⟩] 44)))
  simp only [zeroE]
  clear HA3
  go_wp2_with fail
  generalize w3.alloc (.cells #[.int .i64 0, .int .u64 0, .int .i64 0, .string ⟨#[]⟩] 44) = w4 at *
  refine (H3.out _ _ _ HA4.out).mono ?_
  rintro e w5 ⟨rfl, v5, hA5, _⟩
  have HA5 := Lib.hid (show LnIs w w5 w.heap.size v5 ⟨0, 0, [eA, eB]⟩ from hA5)
  clear hA5 HA4
  rw [show Ln.learnR ⟨0, 0, [eB]⟩ 1 ⟨#[97]⟩ = 0 by kernel_rfl]
  go_wp2_with fail
  refine (H4.out _ _ _ HA5.out).mono ?_
  rintro e w6 ⟨rfl, v6, hA6, _⟩
  have HA6 := Lib.hid (show LnIs w w6 w.heap.size v6 ⟨0, 1, [eA, eB]⟩ from hA6)
  clear hA6 HA5
  rw [show Ln.nextE ⟨0, 0, [eA, eB]⟩ = eA by kernel_rfl, show Ln.nextB ⟨0, 0, [eA, eB]⟩ = true by kernel_rfl]
  have HX7 := Lib.hid (Blk.new w6 #[.int .i64 1, .int .u64 0, .int .i64 0, .string ⟨#[97]⟩] 44)
  have HA7 := Lib.hid (HA6.out.gr ((Gr.refl _).alloc (.cells #[.int .i64 1, .int .u64 0, .int .i64 0, .string ⟨#[97]⟩] 44)))
  have HN7 := Lib.hid (show v6.ownBlock ≠ some w6.heap.size from fun e => by have := (HA6.out.row.lt _ e).2; omega)
  have HM7 := Lib.hid (show w6.heap.size ≠ w.heap.size by have := HA6.out.lt; omega)
  simp only [eA]
  clear HA6
  go_wp2_with fail
  generalize w6.alloc (.cells #[.int .i64 1, .int .u64 0, .int .i64 0, .string ⟨#[97]⟩] 44) = w7 at *
  generalize w6.heap.size = p7 at *
  refine (H5.out _ _ _ HA7.out).mono ?_
  rintro e w8 ⟨rfl, v8, hA8, hf8, _⟩
  have HX8 := Lib.hid (HX7.out.far hf8 HM7.out HN7.out)
  have HA8 := Lib.hid (show LnIs w w8 w.heap.size v8 ⟨0, 2, [eA, eB]⟩ from hA8)
  clear hA8 HA7 hf8 HX7
  rw [show Ln.nextE ⟨0, 1, [eA, eB]⟩ = eB by kernel_rfl, show Ln.nextB ⟨0, 1, [eA, eB]⟩ = true by kernel_rfl]
  simp only [eB]
  have HX9 := Lib.hid (HX8.out.gr ((Gr.refl _).alloc (.cells #[.int .i64 2, .int .u64 0, .int .i64 0, .string ⟨#[98]⟩] 44)))
  have HA9 := Lib.hid (HA8.out.gr ((Gr.refl _).alloc (.cells #[.int .i64 2, .int .u64 0, .int .i64 0, .string ⟨#[98]⟩] 44)))
  have y2 := HX9.out.cell (i := 3) rfl
  have z2 : ((w8.alloc (.cells #[.int .i64 2, .int .u64 0, .int .i64 0, .string ⟨#[98]⟩] 44)).cell? ⟨w8.heap.size, 3, none⟩) = some (.string ⟨#[98]⟩) := (Blk.new w8 _ 44).cell (i := 3) rfl
  go_wp2_with fail
  refine (lnDone_any _ HA9.out).mono ?_
  rintro e w10 ⟨rfl, rfl⟩
  go_wp2
  go_ret
  exact ⟨rfl, HA9.out.grown⟩
end Go.Proofs.Ytnanclgnjchpeaa
