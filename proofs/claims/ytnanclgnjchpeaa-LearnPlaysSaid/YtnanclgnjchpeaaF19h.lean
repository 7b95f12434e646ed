import Derived.Test.YtnanclgnjchpeaaF19g
import Derived.Test.YtnanclgnjchpeaaF16h
import Derived.WalkKit
import Derived.ProofKit
import Derived.LoopTactic
import Derived.Outline
import Derived.WalkSpells
import Derived.WalkLawsBesides
import Derived.Lib.Hide
import Derived.Deep.LoopGhost
import Derived.Deep.QuietTactic
import Derived.BigQuiet
import Derived.ShutString
import Derived.IntWalk
import Derived.BigQuiet
import Derived.Laws.OwnMore
import Derived.Deep.MidRow
namespace Go.Proofs.Ytnanclgnjchpeaa
open Go.ChangeShapes Go.WideShapes Go.ChangeAt Go.RowKit
open Bal
set_option linter.unusedVariables false
set_option linter.unusedSimpArgs false
section
variable {w0 : World} {b : Nat} {v : Value} {a : Ln} {N : Nat}
def Ln.knT (a : Ln) (x : Int) : ByteArray := if hasE a.L x then (oldE a.L x).text else ⟨#[]⟩
set_option maxRecDepth 100000 in
set_option maxHeartbeats 2000000 in
theorem lknown_any (x : Int) (w : World) (h : LnIs w0 w b v a) (hl : a.L.length ≤ 1000) (ha : Asc a.L) (ht : ∀ e ∈ a.L, e.text.size ≤ 281474976710656) :
    Calls Try.prog 68 #[.pointer (some ⟨b, 0, none⟩), .int .i64 x] w fun e w' => e = .returned (.tuple #[.string (a.knT x), .bool (hasE a.L x)]) ∧ Gr w w' := by
  have HI := Lib.hid h
  have HASC := Lib.hid ha
  have HT := Lib.hid ht
  obtain ⟨ba, dn, L⟩ := a
  replace HI : Hid (LnIs w0 w b v ⟨ba, dn, L⟩) := HI
  replace HASC : Hid (Asc L) := HASC
  replace HT : Hid (∀ e ∈ L, e.text.size ≤ 281474976710656) := HT
  simp only at hl
  unfold Ln.knT
  simp only
  clear h ha ht
  cases hh : hasE L x
  · rw [if_neg (by simp)]
    have HH := Lib.hid hh
    clear hh
    go_enter Try.func68, Try.ntmps68
    go_wp2_with fail
    refine (lfind_any x _ HI.out hl HASC.out).mono ?_
    rintro e w1 ⟨i, fd, rfl, hi, hcut, hfd, hg1⟩
    have hfd2 : fd = false := by
      cases fd
      · rfl
      · have := (has_cut HASC.out hcut).2 (hfd.1 rfl)
        rw [HH.out] at this
        exact absurd this (by simp)
    subst hfd2
    have HG1 := Lib.hid hg1
    clear hi hcut hfd hg1
    go_wp2
    refine bodyPost_ret (v := .tuple #[.string ⟨#[]⟩, .bool false]) (by simp [results, Try.results68, go_sem]; try rfl) rfl ?_
    exact ⟨rfl, HG1.out⟩
  · rw [if_pos rfl]
    have HH := Lib.hid hh
    obtain ⟨t, hto⟩ : ∃ t, t = (oldE L x).text := ⟨_, rfl⟩
    rw [← hto]
    have HTO := Lib.hid hto
    clear hh hto
    go_enter Try.func68, Try.ntmps68
    go_wp2_with fail
    refine (lfind_any x _ HI.out hl HASC.out).mono ?_
    rintro e w1 ⟨i, fd, rfl, hi, hcut, hfd, hg1⟩
    have hfd2 : fd = true := hfd.2 ((has_cut HASC.out hcut).1 HH.out)
    subst hfd2
    obtain ⟨hil, hsl⟩ := hfd.1 rfl
    replace hil : i < L.length := hil
    have HI1 := Lib.hid (HI.out.gr hg1)
    have HG1 := Lib.hid hg1
    have b2 : w1.cell? ⟨b, 2, none⟩ = some v := HI1.out.blk.cell (i := 2) rfl
    obtain ⟨g, cap, hv, hc0, hc1, hc2, hc3⟩ := erow_at HI1.out.row i hil
    have HE := Lib.hid (show (L[i]'hil).text = t by rw [HTO.out, old_in HASC.out hil hsl])
    replace hv : v = .slice (some ⟨g, 0, none⟩) L.length cap := hv
    replace hc3 : w1.cell? ⟨g, i * 4 + 3, none⟩ = some (.string (L[i]'hil).text) := hc3
    subst hv
    rw [HE.out] at hc3
    have HSZ := Lib.hid (show t.size ≤ 281474976710656 by rw [← HE.out]; exact HT.out _ (List.getElem_mem hil))
    have hli : (i : Int) < (L.length : Int) := by omega
    clear hi hcut hfd hsl HTO HE hc0 hc1 hc2 hg1
    go_wp2_with fail
    refine (clone16 t _ HSZ.out).mono ?_
    rintro e w2 ⟨rfl, hg2⟩
    have HG2 := Lib.hid (HG1.out.trans hg2)
    clear hg2
    go_wp2
    refine bodyPost_ret (v := .tuple #[.string t, .bool true]) (by simp [results, Try.results68, go_sem]; try rfl) rfl ?_
    exact ⟨rfl, HG2.out⟩
set_option maxRecDepth 100000 in
set_option maxHeartbeats 2000000 in
theorem lclone_any (w : World) (h : LnIs w0 w b v a) (hl : a.L.length ≤ 1000) :
    Calls Try.prog 16 #[.pointer (some ⟨b, 0, none⟩)] w fun e w' => ∃ b2 v2, e = .returned (.pointer (some ⟨b2, 0, none⟩)) ∧ LnIs w w' b2 v2 a ∧ Gr w w' := by
  have b0 : w.cell? ⟨b, 0, none⟩ = some (.int .i64 a.ba) := h.blk.cell (i := 0) rfl
  have b1 : w.cell? ⟨b, 1, none⟩ = some (.int .i64 a.dn) := h.blk.cell (i := 1) rfl
  have b2 : w.cell? ⟨b, 2, none⟩ = some v := h.blk.cell (i := 2) rfl
  have HI := Lib.hid h
  have HG := Lib.hid ((Gr.refl w).alloc (.cells #[.int .i64 a.ba, .int .i64 a.dn, v] 114))
  have HB := Lib.hid (Blk.new w #[.int .i64 a.ba, .int .i64 a.dn, v] 114)
  have HC := Lib.hid (cloneE_any a.L _ (ownsRow_gr HG.out h.row) hl)
  have d2 := HG.out.cell b2
  obtain ⟨ba, dn, L⟩ := a
  obtain ⟨va, vc, hv, _⟩ := ownsRow_slice h.row
  subst hv
  simp only at hl b0 b1
  clear h
  go_enter Try.func16, Try.ntmps16
  go_wp2_with fail
  refine HC.out.mono ?_
  rintro e w2 ⟨v2, rfl, hr2, hg2⟩
  obtain ⟨va2, vc2, hv2, _⟩ := ownsRow_slice hr2
  subst hv2
  have HB2 := Lib.hid (HB.out.gr hg2)
  have HR2 := Lib.hid (row_weak hr2 HG.out.size)
  have HG2 := Lib.hid (HG.out.trans hg2)
  have c2 := HB2.out.cell (i := 2) rfl
  have f2 := HB2.out.free 2
  clear hr2 hg2 HC HB HG d2 b0 b1 b2
  go_wp2
  go_ret
  exact ⟨_, _, rfl, ⟨Nat.le_refl _, HG2.out.setCell (p := ⟨w.heap.size, 2, none⟩) (Nat.le_refl _) _, HB2.out.set 2 _, ownsRow_setCell_other (a := ⟨w.heap.size, 2, none⟩) HR2.out (row_off HB2.out HR2.out (by decide)) _⟩, HG2.out.setCell (p := ⟨w.heap.size, 2, none⟩) (Nat.le_refl _) _⟩
end
end Go.Proofs.Ytnanclgnjchpeaa
