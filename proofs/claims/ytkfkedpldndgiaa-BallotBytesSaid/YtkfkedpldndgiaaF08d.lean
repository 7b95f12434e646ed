import Derived.Test.YtkfkedpldndgiaaF08c
import Derived.WalkKit
import Derived.ProofKit
import Derived.LoopTactic
import Derived.Outline
import Derived.WalkSpells
import Derived.WalkLawsBesides
import Derived.Lib.Hide
import Derived.Deep.LoopGhost
import Derived.Deep.QuietTactic
import Derived.BigQuiet
import Derived.ShutString
import Derived.IntWalk
namespace Go.Proofs.Ytkfkedpldndgiaa
open Go.ChangeShapes Go.WideShapes Go.ChangeAt Go.RowKit
open Bal
set_option linter.unusedVariables false
set_option linter.unusedSimpArgs false
theorem above_to {c n d m : Int} {b : Bool} (h : above c n d m = b) (w : World) :
    Calls Try.prog 48 #[.agg #[.int .u64 c, .int .i64 n], .agg #[.int .u64 d, .int .i64 m]] w fun e w' => e = .returned (.bool b) ∧ Gr w w' := by rw [← h]; exact above_any c n d m w
def RNext (c m n : Int) (w : World) (e : Ending) (w' : World) : Prop := e = .returned (.tuple #[.agg #[.int .u64 (nextB c m n).1.1, .int .i64 (nextB c m n).1.2], .int .i64 (nextB c m n).2]) ∧ Gr w w'
theorem rnext_mk {c m n x y z : Int} {w w' : World} {e : Ending} (h : Hid (nextB c m n = ((x, y), z))) (he : e = .returned (.tuple #[.agg #[.int .u64 x, .int .i64 y], .int .i64 z])) (hg : Gr w w') : RNext c m n w e w' := by
  unfold RNext; rw [h.out]; exact ⟨he, hg⟩
set_option maxRecDepth 100000 in
set_option maxHeartbeats 2000000 in
theorem refNext_any (c m n : Int) (w : World) (hc : 0 ≤ c ∧ c ≤ 18446744073709551615) (h0 : c = 0 → m = 0) :
    Calls Try.prog 52 #[.agg #[.int .u64 c, .int .i64 m], .int .i64 n] w (RNext c m n w) := by
  rcases nextB_plain (n := n) hc.1 h0 with ⟨h, e⟩ | ⟨h, e⟩ | ⟨h1, h2, h3, h4, e⟩ | ⟨h1, h2, h3, h4, e⟩ | ⟨h1, h2, h3, h4, e⟩
  · have E := Lib.hid e
    clear e h0
    go_enter Try.func52, Try.ntmps52
    go_wp2
    exact bodyPost_ret (v := .tuple #[.agg #[.int .u64 0, .int .i64 0], .int .i64 2]) (by simp [results, Try.results52, go_sem]) rfl (rnext_mk E rfl (((Gr.refl _).alloc _).alloc _))
  · have E := Lib.hid e
    clear e h0
    go_enter Try.func52, Try.ntmps52
    go_wp2
    exact bodyPost_ret (v := .tuple #[.agg #[.int .u64 0, .int .i64 0], .int .i64 2]) (by simp [results, Try.results52, go_sem]) rfl (rnext_mk E rfl (((Gr.refl _).alloc _).alloc _))
  · have E := Lib.hid e
    clear e
    clear h0
    have AB := Lib.hid (above_to (c := c) (n := n) (d := c) (m := m) (b := true) (by unfold above; first | (simp; done) | (simp; omega)))
    have h5 : 0 < c := by omega
    go_enter Try.func52, Try.ntmps52
    go_wp2
    have hA := (Gr.refl (w.alloc (.cells #[.int .u64 c, .int .i64 m] 67))).alloc (.cells #[.int .u64 0, .int .i64 0] 67)
    have hR := Gr.refl ((w.alloc (.cells #[.int .u64 c, .int .i64 m] 67)).alloc (.cells #[.int .u64 0, .int .i64 0] 67))
    have k0 := hA.own.1 0 _ rfl
    have k1 := hA.own.1 1 _ rfl
    have j0 := hR.own.1 0 _ rfl
    have j1 := hR.own.1 1 _ rfl
    have f0 := hR.own.2.1 0
    have f1 := hR.own.2.1 1
    have hs : (w.alloc (.cells #[.int .u64 c, .int .i64 m] 67)).heap.size = w.heap.size + 1 := by simp
    rw [hs] at j0 j1 f0 f1
    have HG := Lib.hid (((Gr.refl w).alloc (.cells #[.int .u64 c, .int .i64 m] 67)).alloc (.cells #[.int .u64 0, .int .i64 0] 67))
    clear hs hA hR
    have hle : w.heap.size ≤ w.heap.size + 1 := Nat.le_succ _
    generalize (w.alloc (.cells #[.int .u64 c, .int .i64 m] 67)).alloc (.cells #[.int .u64 0, .int .i64 0] 67) = wz at *
    generalize hb : w.heap.size = b at *
    go_loopw [6] (fun i wr => ∃ k : Nat, k ≤ 0 ∧ i = .int .i64 k ∧ Hid (Gr wz wr)) (fun i _ => 1 - (intOf i).toNat)
    case atStart => exact ⟨0, by omega, rfl, Lib.hid (Gr.refl _)⟩
    case round =>
      obtain ⟨k, hk, rfl, hG⟩ := hrel
      replace f0 := (hG.out.frozen (o := 0) (cell_lt j0)).trans f0
      replace f1 := (hG.out.frozen (o := 1) (cell_lt j1)).trans f1
      replace k0 := hG.out.cell k0
      replace k1 := hG.out.cell k1
      replace j0 := hG.out.cell j0
      replace j1 := hG.out.cell j1
      have HZ := Lib.hid (HG.out.trans hG.out)
      have hbl := cell_lt k0
      have hbl1 := cell_lt j0
      obtain rfl : k = 0 := by omega
      go_wp2_with fail
      refine (AB.out _).mono ?_
      rintro e w9 ⟨rfl, hg⟩
      have l0 := hg.own.1 0 _ rfl
      have l1 := hg.own.1 1 _ rfl
      have hx := ((Gr.refl wr).alloc (.cells #[.int .u64 (c), .int .i64 n] 67)).trans hg
      replace f0 := (hx.frozen (o := 0) (cell_lt j0)).trans f0
      replace f1 := (hx.frozen (o := 1) (cell_lt j1)).trans f1
      replace j0 := hx.cell j0
      replace j1 := hx.cell j1
      have HX := Lib.hid hx
      clear hg hx
      go_wp2
      exact bodyPost_ret (v := .tuple #[.agg #[.int .u64 (c), .int .i64 n], .int .i64 0]) (by simp [results, Try.results52, go_sem, j0, j1]) rfl (rnext_mk E rfl (by have h1 := (HZ.out.trans HX.out); have h2 : w.heap.size ≤ b + 1 := (by omega); exact (h1.setCell h2 _).setCell h2 _))
  · subst h3
    have E := Lib.hid e
    clear e
    clear h0
    have AB := Lib.hid (above_to (c := 18446744073709551615) (n := n) (d := 18446744073709551615) (m := m) (b := false) (by unfold above; first | (simp; done) | (simp; omega)))
    have w1 : IntKind.u64.wrap 18446744073709551616 = 0 := by decide
    have w2 : IntKind.u64.wrap 18446744073709551617 = 1 := by decide
    go_enter Try.func52, Try.ntmps52
    go_wp2
    have hA := (Gr.refl (w.alloc (.cells #[.int .u64 18446744073709551615, .int .i64 m] 67))).alloc (.cells #[.int .u64 0, .int .i64 0] 67)
    have hR := Gr.refl ((w.alloc (.cells #[.int .u64 18446744073709551615, .int .i64 m] 67)).alloc (.cells #[.int .u64 0, .int .i64 0] 67))
    have k0 := hA.own.1 0 _ rfl
    have k1 := hA.own.1 1 _ rfl
    have j0 := hR.own.1 0 _ rfl
    have j1 := hR.own.1 1 _ rfl
    have f0 := hR.own.2.1 0
    have f1 := hR.own.2.1 1
    have hs : (w.alloc (.cells #[.int .u64 18446744073709551615, .int .i64 m] 67)).heap.size = w.heap.size + 1 := by simp
    rw [hs] at j0 j1 f0 f1
    have HG := Lib.hid (((Gr.refl w).alloc (.cells #[.int .u64 18446744073709551615, .int .i64 m] 67)).alloc (.cells #[.int .u64 0, .int .i64 0] 67))
    clear hs hA hR
    have hle : w.heap.size ≤ w.heap.size + 1 := Nat.le_succ _
    generalize (w.alloc (.cells #[.int .u64 18446744073709551615, .int .i64 m] 67)).alloc (.cells #[.int .u64 0, .int .i64 0] 67) = wz at *
    generalize hb : w.heap.size = b at *
    go_loopw [6] (fun i wr => ∃ k : Nat, k ≤ 3 ∧ i = .int .i64 k ∧ Hid (Gr wz wr)) (fun i _ => 4 - (intOf i).toNat)
    case atStart => exact ⟨0, by omega, rfl, Lib.hid (Gr.refl _)⟩
    case round =>
      obtain ⟨k, hk, rfl, hG⟩ := hrel
      replace f0 := (hG.out.frozen (o := 0) (cell_lt j0)).trans f0
      replace f1 := (hG.out.frozen (o := 1) (cell_lt j1)).trans f1
      replace k0 := hG.out.cell k0
      replace k1 := hG.out.cell k1
      replace j0 := hG.out.cell j0
      replace j1 := hG.out.cell j1
      have HZ := Lib.hid (HG.out.trans hG.out)
      have hbl := cell_lt k0
      have hbl1 := cell_lt j0
      obtain rfl | rfl | rfl | rfl : k = 0 ∨ k = 1 ∨ k = 2 ∨ k = 3 := by omega
      · go_wp2_with fail
        refine (AB.out _).mono ?_
        rintro e w9 ⟨rfl, hg⟩
        have l0 := hg.own.1 0 _ rfl
        have l1 := hg.own.1 1 _ rfl
        have hx := ((Gr.refl wr).alloc (.cells #[.int .u64 (18446744073709551615), .int .i64 n] 67)).trans hg
        replace f0 := (hx.frozen (o := 0) (cell_lt j0)).trans f0
        replace f1 := (hx.frozen (o := 1) (cell_lt j1)).trans f1
        replace j0 := hx.cell j0
        replace j1 := hx.cell j1
        have HX := Lib.hid hx
        clear hg hx
        go_wp2
        go_roundw
        case rel => exact ⟨1, by omega, by go_num, Lib.hid (hG.out.trans HX.out)⟩
        case measure => simp [intOf]
      · go_wp2
        go_roundw
        case rel => exact ⟨2, by omega, by go_num, Lib.hid (hG.out.alloc _)⟩
        case measure => simp [intOf]
      · go_wp2
        go_roundw
        case rel => exact ⟨3, by omega, by go_num, Lib.hid (hG.out.alloc _)⟩
        case measure => simp [intOf]
      · go_wp2
        exact bodyPost_ret (v := .tuple #[.agg #[.int .u64 0, .int .i64 0], .int .i64 19]) (by simp [results, Try.results52, go_sem, j0, j1]) rfl (rnext_mk E rfl (by have h1 := HZ.out; have h2 : w.heap.size ≤ b + 1 := (by omega); exact (h1.setCell h2 _).setCell h2 _))
  · rcases (show c = 0 ∨ 1 ≤ c ∧ n ≤ m by omega) with h5 | ⟨h5, h6⟩
    · subst h5
      have E := Lib.hid e
      clear e
      clear h0 h3 h4
      have AB := Lib.hid (above_to (c := 1) (n := n) (d := 0) (m := m) (b := true) (by unfold above; first | (simp; done) | (simp; omega)))
      go_enter Try.func52, Try.ntmps52
      go_wp2
      have hA := (Gr.refl (w.alloc (.cells #[.int .u64 0, .int .i64 m] 67))).alloc (.cells #[.int .u64 0, .int .i64 0] 67)
      have hR := Gr.refl ((w.alloc (.cells #[.int .u64 0, .int .i64 m] 67)).alloc (.cells #[.int .u64 0, .int .i64 0] 67))
      have k0 := hA.own.1 0 _ rfl
      have k1 := hA.own.1 1 _ rfl
      have j0 := hR.own.1 0 _ rfl
      have j1 := hR.own.1 1 _ rfl
      have f0 := hR.own.2.1 0
      have f1 := hR.own.2.1 1
      have hs : (w.alloc (.cells #[.int .u64 0, .int .i64 m] 67)).heap.size = w.heap.size + 1 := by simp
      rw [hs] at j0 j1 f0 f1
      have HG := Lib.hid (((Gr.refl w).alloc (.cells #[.int .u64 0, .int .i64 m] 67)).alloc (.cells #[.int .u64 0, .int .i64 0] 67))
      clear hs hA hR
      have hle : w.heap.size ≤ w.heap.size + 1 := Nat.le_succ _
      generalize (w.alloc (.cells #[.int .u64 0, .int .i64 m] 67)).alloc (.cells #[.int .u64 0, .int .i64 0] 67) = wz at *
      generalize hb : w.heap.size = b at *
      go_loopw [6] (fun i wr => ∃ k : Nat, k ≤ 1 ∧ i = .int .i64 k ∧ Hid (Gr wz wr)) (fun i _ => 2 - (intOf i).toNat)
      case atStart => exact ⟨0, by omega, rfl, Lib.hid (Gr.refl _)⟩
      case round =>
        obtain ⟨k, hk, rfl, hG⟩ := hrel
        replace f0 := (hG.out.frozen (o := 0) (cell_lt j0)).trans f0
        replace f1 := (hG.out.frozen (o := 1) (cell_lt j1)).trans f1
        replace k0 := hG.out.cell k0
        replace k1 := hG.out.cell k1
        replace j0 := hG.out.cell j0
        replace j1 := hG.out.cell j1
        have HZ := Lib.hid (HG.out.trans hG.out)
        have hbl := cell_lt k0
        have hbl1 := cell_lt j0
        obtain rfl | rfl : k = 0 ∨ k = 1 := by omega
        · go_wp2
          go_roundw
          case rel => exact ⟨1, by omega, by go_num, Lib.hid (hG.out.alloc _)⟩
          case measure => simp [intOf]
        · go_wp2_with fail
          refine (AB.out _).mono ?_
          rintro e w9 ⟨rfl, hg⟩
          have l0 := hg.own.1 0 _ rfl
          have l1 := hg.own.1 1 _ rfl
          have hx := ((Gr.refl wr).alloc (.cells #[.int .u64 (1), .int .i64 n] 67)).trans hg
          replace f0 := (hx.frozen (o := 0) (cell_lt j0)).trans f0
          replace f1 := (hx.frozen (o := 1) (cell_lt j1)).trans f1
          replace j0 := hx.cell j0
          replace j1 := hx.cell j1
          have HX := Lib.hid hx
          clear hg hx
          go_wp2
          exact bodyPost_ret (v := .tuple #[.agg #[.int .u64 (1), .int .i64 n], .int .i64 0]) (by simp [results, Try.results52, go_sem, j0, j1]) rfl (rnext_mk E rfl (by have h1 := (HZ.out.trans HX.out); have h2 : w.heap.size ≤ b + 1 := (by omega); exact (h1.setCell h2 _).setCell h2 _))
    · have E := Lib.hid e
      clear e
      have h7 : c < 18446744073709551615 := by omega
      clear h0 h3 h4
      have AB := Lib.hid (above_to (c := c) (n := n) (d := c) (m := m) (b := false) (by unfold above; first | (simp; done) | (simp; omega)))
      have AC := Lib.hid (above_to (c := c + 1) (n := n) (d := c) (m := m) (b := true) (by unfold above; first | (simp; done) | (simp; omega)))
      have h8 : 0 < c := by omega
      go_enter Try.func52, Try.ntmps52
      go_wp2
      have hA := (Gr.refl (w.alloc (.cells #[.int .u64 c, .int .i64 m] 67))).alloc (.cells #[.int .u64 0, .int .i64 0] 67)
      have hR := Gr.refl ((w.alloc (.cells #[.int .u64 c, .int .i64 m] 67)).alloc (.cells #[.int .u64 0, .int .i64 0] 67))
      have k0 := hA.own.1 0 _ rfl
      have k1 := hA.own.1 1 _ rfl
      have j0 := hR.own.1 0 _ rfl
      have j1 := hR.own.1 1 _ rfl
      have f0 := hR.own.2.1 0
      have f1 := hR.own.2.1 1
      have hs : (w.alloc (.cells #[.int .u64 c, .int .i64 m] 67)).heap.size = w.heap.size + 1 := by simp
      rw [hs] at j0 j1 f0 f1
      have HG := Lib.hid (((Gr.refl w).alloc (.cells #[.int .u64 c, .int .i64 m] 67)).alloc (.cells #[.int .u64 0, .int .i64 0] 67))
      clear hs hA hR
      have hle : w.heap.size ≤ w.heap.size + 1 := Nat.le_succ _
      generalize (w.alloc (.cells #[.int .u64 c, .int .i64 m] 67)).alloc (.cells #[.int .u64 0, .int .i64 0] 67) = wz at *
      generalize hb : w.heap.size = b at *
      go_loopw [6] (fun i wr => ∃ k : Nat, k ≤ 1 ∧ i = .int .i64 k ∧ Hid (Gr wz wr)) (fun i _ => 2 - (intOf i).toNat)
      case atStart => exact ⟨0, by omega, rfl, Lib.hid (Gr.refl _)⟩
      case round =>
        obtain ⟨k, hk, rfl, hG⟩ := hrel
        replace f0 := (hG.out.frozen (o := 0) (cell_lt j0)).trans f0
        replace f1 := (hG.out.frozen (o := 1) (cell_lt j1)).trans f1
        replace k0 := hG.out.cell k0
        replace k1 := hG.out.cell k1
        replace j0 := hG.out.cell j0
        replace j1 := hG.out.cell j1
        have HZ := Lib.hid (HG.out.trans hG.out)
        have hbl := cell_lt k0
        have hbl1 := cell_lt j0
        obtain rfl | rfl : k = 0 ∨ k = 1 := by omega
        · go_wp2_with fail
          refine (AB.out _).mono ?_
          rintro e w9 ⟨rfl, hg⟩
          have l0 := hg.own.1 0 _ rfl
          have l1 := hg.own.1 1 _ rfl
          have hx := ((Gr.refl wr).alloc (.cells #[.int .u64 (c), .int .i64 n] 67)).trans hg
          replace f0 := (hx.frozen (o := 0) (cell_lt j0)).trans f0
          replace f1 := (hx.frozen (o := 1) (cell_lt j1)).trans f1
          replace j0 := hx.cell j0
          replace j1 := hx.cell j1
          have HX := Lib.hid hx
          clear hg hx
          go_wp2
          go_roundw
          case rel => exact ⟨1, by omega, by go_num, Lib.hid (hG.out.trans HX.out)⟩
          case measure => simp [intOf]
        · go_wp2_with fail
          refine (AC.out _).mono ?_
          rintro e w9 ⟨rfl, hg⟩
          have l0 := hg.own.1 0 _ rfl
          have l1 := hg.own.1 1 _ rfl
          have hx := ((Gr.refl wr).alloc (.cells #[.int .u64 (c + 1), .int .i64 n] 67)).trans hg
          replace f0 := (hx.frozen (o := 0) (cell_lt j0)).trans f0
          replace f1 := (hx.frozen (o := 1) (cell_lt j1)).trans f1
          replace j0 := hx.cell j0
          replace j1 := hx.cell j1
          have HX := Lib.hid hx
          clear hg hx
          go_wp2
          exact bodyPost_ret (v := .tuple #[.agg #[.int .u64 (c + 1), .int .i64 n], .int .i64 0]) (by simp [results, Try.results52, go_sem, j0, j1]) rfl (rnext_mk E rfl (by have h1 := (HZ.out.trans HX.out); have h2 : w.heap.size ≤ b + 1 := (by omega); exact (h1.setCell h2 _).setCell h2 _))
end Go.Proofs.Ytkfkedpldndgiaa
