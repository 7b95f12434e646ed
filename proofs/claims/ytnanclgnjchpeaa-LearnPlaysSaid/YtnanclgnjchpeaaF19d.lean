import Derived.Test.YtnanclgnjchpeaaF19c
import Derived.WalkKit
import Derived.ProofKit
import Derived.LoopTactic
import Derived.Outline
import Derived.WalkSpells
import Derived.WalkLawsBesides
import Derived.Lib.Hide
import Derived.Deep.LoopGhost
import Derived.Deep.QuietTactic
import Derived.BigQuiet
import Derived.ShutString
import Derived.IntWalk
import Derived.BigQuiet
import Derived.Laws.OwnMore
namespace Go.Proofs.Ytnanclgnjchpeaa
open Go.ChangeShapes Go.WideShapes Go.ChangeAt Go.RowKit
open Bal
set_option linter.unusedVariables false
set_option linter.unusedSimpArgs false
section
variable {w0 : World} {b : Nat} {v : Value} {a : Ln}
set_option maxRecDepth 100000 in
set_option maxHeartbeats 2000000 in
theorem lforget_any (x : Int) (w : World) (h : LnIs w0 w b v a) (hl : a.L.length ≤ 1000) :
    Calls Try.prog 67 #[.pointer (some ⟨b, 0, none⟩), .int .i64 x] w fun e w' => e = .returned (.tuple #[]) ∧ LnTo w0 w w' b v ⟨x, a.dn, hiE a.L x⟩ := by
  have HH0 := Lib.hid h
  have HG := Lib.hid ((Gr.refl w).alloc (.cells #[.int .i64 x] 3))
  have HI := Lib.hid (h.gr HG.out)
  have HB := Lib.hid (Blk.new w #[.int .i64 x] 3)
  have HVB := Lib.hid h.off
  have HVP := Lib.hid (show v.ownBlock ≠ some w.heap.size from fun e => by have := (h.row.lt _ e).2; omega)
  have hpb : w.heap.size ≠ b := fun e => by have := h.lt; omega
  obtain ⟨ba, dn, L⟩ := a
  replace HI : Hid (LnIs w0 _ b v ⟨ba, dn, L⟩) := HI
  simp only at hl
  have c0 := HB.out.cell (i := 0) rfl
  have b0 : (w.alloc (.cells #[.int .i64 x] 3)).cell? ⟨b, 0, none⟩ = some (.int .i64 ba) := HI.out.blk.cell (i := 0) rfl
  have f0 := HI.out.blk.free 0
  have HA2 := Lib.hid (show Blk _ b (Ln.cells ⟨x, dn, L⟩ v) 114 from HI.out.blk.set 0 (.int .i64 x))
  have HB2 := Lib.hid (HB.out.other hpb 0 (.int .i64 x))
  have HO2 := Lib.hid (ownsRow_setCell_other (a := ⟨b, 0, none⟩) HI.out.row HVB.out (.int .i64 x))
  have HF2 := Lib.hid ((Far.of_gr (b := b) (v := v) HG.out).trans (From.refl v w) (Far.setCell b 0 v _ (.int .i64 x)))
  have b2 : ((w.alloc (.cells #[.int .i64 x] 3)).setCell ⟨b, 0, none⟩ (.int .i64 x)).cell? ⟨b, 2, none⟩ = some v := HA2.out.cell (i := 2) rfl
  have b2' : (w.alloc (.cells #[.int .i64 x] 3)).cell? ⟨b, 2, none⟩ = some v := HI.out.blk.cell (i := 2) rfl
  clear h
  go_enter Try.func67, Try.ntmps67
  go_wp2_with fail
  generalize (w.alloc (.cells #[.int .i64 x] 3)).setCell ⟨b, 0, none⟩ (.int .i64 x) = w2 at *
  generalize w.heap.size = p at *
  refine (ldelE_any x L _ HO2.out (HB2.out.cell (i := 0) rfl) HVP.out hl).mono ?_
  rintro e w3 ⟨v', rfl, ho3, hg3, hf3⟩
  obtain ⟨va', vc', hv', _⟩ := ownsRow_slice ho3
  subst hv'
  have HA3 := Lib.hid (HA2.out.grownB hg3 HVB.out)
  have HO3 := Lib.hid ho3
  have HF3 := Lib.hid (HF2.out.trans (From.refl v w) (Far.of_grown hg3))
  have HV3 := Lib.hid ((From.refl v w).trans HF2.out.size hf3)
  clear HB HI HA2 HB2 HO2 HF2 c0 b0 f0 b2 b2' ho3 hg3 hf3
  have b4 : w3.cell? ⟨b, 2, none⟩ = some v := HA3.out.cell (i := 2) rfl
  have f4 := HA3.out.free 2
  go_wp2
  go_end0
  exact ⟨rfl, ln_to HH0.out.base HH0.out.grown HH0.out.row (HA3.out.set 2 _) (ownsRow_setCell_other (a := ⟨b, 2, none⟩) HO3.out (row_off HA3.out HO3.out (by decide)) _) (HF3.out.trans HV3.out (Far.setCell b 2 _ w3 _)) HV3.out⟩
/-- Fold. -/
def Ln.folds (a : Ln) (x : Int) : Bool := decide (a.ba < x) && decide (x ≤ a.dn)
def Ln.fold (a : Ln) (x : Int) : Ln := if a.folds x then ⟨x, a.dn, hiE a.L x⟩ else a
def Ln.takes (a : Ln) (x : Int) : Bool := decide (a.dn < x)
def Ln.install (a : Ln) (x : Int) : Ln := if a.takes x then ⟨x, x, hiE a.L x⟩ else a
set_option maxRecDepth 100000 in
set_option maxHeartbeats 2000000 in
theorem lfold_any (x : Int) (w : World) (h : LnIs w0 w b v a) (hl : a.L.length ≤ 1000) :
    Calls Try.prog 23 #[.pointer (some ⟨b, 0, none⟩), .int .i64 x] w fun e w' => e = .returned (.bool (a.folds x)) ∧ LnTo w0 w w' b v (a.fold x) := by
  have b0 : w.cell? ⟨b, 0, none⟩ = some (.int .i64 a.ba) := h.blk.cell (i := 0) rfl
  have b1 : w.cell? ⟨b, 1, none⟩ = some (.int .i64 a.dn) := h.blk.cell (i := 1) rfl
  have HF := Lib.hid (lforget_any x w h hl)
  have HH0 := Lib.hid h
  obtain ⟨ba, dn, L⟩ := a
  simp only at b0 b1
  clear h hl
  unfold Ln.fold Ln.folds
  simp only
  by_cases hx : x ≤ ba
  · have h1 : decide (ba < x) = false := decide_eq_false (by omega)
    rw [h1, Bool.false_and, if_neg (by simp)]
    clear h1
    go_enter Try.func23, Try.ntmps23
    go_wp2
    go_ret
    exact ⟨rfl, LnTo.same HH0.out (Gr.refl _)⟩
  · have h1 : decide (ba < x) = true := decide_eq_true (by omega)
    by_cases hy : dn < x
    · have h2 : decide (x ≤ dn) = false := decide_eq_false (by omega)
      rw [h1, h2, Bool.and_false, if_neg (by simp)]
      clear h1 h2
      go_enter Try.func23, Try.ntmps23
      go_wp2
      go_ret
      exact ⟨rfl, LnTo.same HH0.out (Gr.refl _)⟩
    · have h2 : decide (x ≤ dn) = true := decide_eq_true (by omega)
      rw [h1, h2, Bool.and_true, if_pos rfl]
      clear h1 h2
      have hy2 : ¬ x > dn := hy
      go_enter Try.func23, Try.ntmps23
      go_wp2_with fail
      refine HF.out.mono ?_
      rintro e w1 ⟨rfl, ht⟩
      have HT := Lib.hid ht
      clear ht
      go_wp2
      go_ret
      exact ⟨rfl, HT.out⟩
set_option maxRecDepth 100000 in
set_option maxHeartbeats 2000000 in
theorem linstall_any (x : Int) (w : World) (h : LnIs w0 w b v a) (hl : a.L.length ≤ 1000) :
    Calls Try.prog 25 #[.pointer (some ⟨b, 0, none⟩), .int .i64 x] w fun e w' => e = .returned (.bool (a.takes x)) ∧ LnTo w0 w w' b v (a.install x) := by
  have b1 : w.cell? ⟨b, 1, none⟩ = some (.int .i64 a.dn) := h.blk.cell (i := 1) rfl
  have HF := Lib.hid (lforget_any x w h hl)
  have HH0 := Lib.hid h
  obtain ⟨ba, dn, L⟩ := a
  simp only at b1
  clear h hl
  unfold Ln.install Ln.takes
  simp only
  by_cases hx : x ≤ dn
  · have h1 : decide (dn < x) = false := decide_eq_false (by omega)
    rw [h1, if_neg (by simp)]
    clear h1
    go_enter Try.func25, Try.ntmps25
    go_wp2
    go_ret
    exact ⟨rfl, LnTo.same HH0.out (Gr.refl _)⟩
  · have h1 : decide (dn < x) = true := decide_eq_true (by omega)
    rw [h1, if_pos rfl]
    clear h1
    go_enter Try.func25, Try.ntmps25
    go_wp2_with fail
    refine HF.out.mono ?_
    rintro e w1 ⟨rfl, v1, h1, hf1, hv1⟩
    have H1 := Lib.hid h1
    have HF1 := Lib.hid hf1
    have HV1 := Lib.hid hv1
    clear h1 hf1 hv1 b1
    have b1 : w1.cell? ⟨b, 1, none⟩ = some (.int .i64 dn) := H1.out.blk.cell (i := 1) rfl
    have f1 := H1.out.blk.free 1
    go_wp2
    go_ret
    exact ⟨rfl, ln_to HH0.out.base HH0.out.grown HH0.out.row (H1.out.blk.set 1 _) (ownsRow_setCell_other (a := ⟨b, 1, none⟩) H1.out.row H1.out.off _) (HF1.out.trans HV1.out (Far.setCell b 1 _ w1 _)) HV1.out⟩
end
end Go.Proofs.Ytnanclgnjchpeaa
