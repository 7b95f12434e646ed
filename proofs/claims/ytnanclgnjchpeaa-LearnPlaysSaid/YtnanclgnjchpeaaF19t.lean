import Derived.Test.YtnanclgnjchpeaaF19s
import Derived.WalkKit
import Derived.ProofKit
import Derived.LoopTactic
import Derived.Outline
import Derived.WalkSpells
import Derived.WalkLawsBesides
import Derived.Lib.Hide
import Derived.Deep.LoopGhost
import Derived.Deep.QuietTactic
import Derived.BigQuiet
import Derived.ShutString
import Derived.IntWalk
import Derived.BigQuiet
import Derived.Laws.OwnMore
import Derived.Deep.Cut
import Derived.Deep.CutRange
namespace Go.Proofs.Ytnanclgnjchpeaa
open Go.ChangeShapes Go.WideShapes Go.ChangeAt Go.RowKit
open Bal
set_option linter.unusedVariables false
set_option linter.unusedSimpArgs false
set_option maxRecDepth 100000 in
set_option maxHeartbeats 2000000 in
theorem refNext_any (b d : Int) (lv : Value) (M : List RE) (w : World) (hr : RRow w lv M) (hl : M.length ≤ 1000) (hd : 0 ≤ d ∧ d ≤ 1000000) :
    Calls Try.prog 20 #[.agg #[.int .i64 b, .int .i64 d, lv]] w fun e w' => ∃ lv', e = .returned (.tuple #[(Rs.next ⟨b, d, M⟩).val lv', .string (txtM M (d + 1)), .bool (hasM M (d + 1))]) ∧ RTo w w' (Rs.next ⟨b, d, M⟩) lv' := by
  have HG1 := Lib.hid (((Gr.refl w).alloc (.cells #[.int .i64 b, .int .i64 d, lv] 31)).alloc (.cells #[.int .i64 0, .int .i64 0, .slice none 0 0] 31))
  have HA := Lib.hid ((Blk.new w #[.int .i64 b, .int .i64 d, lv] 31).gr ((Gr.refl _).alloc (.cells #[.int .i64 0, .int .i64 0, .slice none 0 0] 31)))
  have HZ := Lib.hid (Blk.new (w.alloc (.cells #[.int .i64 b, .int .i64 d, lv] 31)) #[.int .i64 0, .int .i64 0, .slice none 0 0] 31)
  rw [show (w.alloc (.cells #[.int .i64 b, .int .i64 d, lv] 31)).heap.size = w.heap.size + 1 by simp] at HZ
  have HK := Lib.hid (refKnown_any b d (d + 1) lv M _ (ownsRow_gr HG1.out hr) hl)
  have HR0 := Lib.hid hr
  have hw1 : IntKind.i64.wrap (d + 1) = d + 1 := by rw [IntKind.wrap_i64]; omega
  obtain ⟨la, lc, rfl, _⟩ := ownsRow_slice hr
  clear hr
  unfold Rs.next Rs.val RTo
  simp only
  generalize txtM M (d + 1) = T at *
  cases hh : hasM M (d + 1)
  · rw [if_neg (by simp)]
    rw [hh] at HK
    clear hh
    go_enter Try.func20, Try.ntmps20
    go_wp2_with fail
    refine HK.out.mono ?_
    rintro e w2 ⟨rfl, hg2⟩
    have HA2 := Lib.hid (HA.out.gr hg2)
    have HZ2 := Lib.hid (HZ.out.gr hg2)
    have HG2 := Lib.hid (HG1.out.trans hg2)
    have a0 := HA2.out.cell (i := 0) rfl
    have a1 := HA2.out.cell (i := 1) rfl
    have a2 := HA2.out.cell (i := 2) rfl
    have f0 := HZ2.out.free 0
    have f1 := HZ2.out.free 1
    have f2 := HZ2.out.free 2
    have z0 := HZ2.out.cell (i := 0) rfl
    have z1 := HZ2.out.cell (i := 1) rfl
    have z2 := HZ2.out.cell (i := 2) rfl
    have HZ4 := Lib.hid (HZ2.out.store3 (.int .i64 b) (.int .i64 d) (.slice la M.length lc))
    have HG4 := Lib.hid (HG2.out.store3 (b := w.heap.size + 1) (by omega) (.int .i64 b) (.int .i64 d) (.slice la M.length lc))
    have y0 := HZ4.out.cell (i := 0) rfl
    have y1 := HZ4.out.cell (i := 1) rfl
    have y2 := HZ4.out.cell (i := 2) rfl
    clear hg2 HK HA HZ
    go_wp2
    refine bodyPost_ret (v := .tuple #[.agg #[.int .i64 b, .int .i64 d, .slice la M.length lc], .string T, .bool false]) (by simp [results, Try.results20, go_sem, y0, y1, y2]; try rfl) rfl ?_
    exact ⟨_, rfl, ownsRow_gr HG4.out HR0.out, HG4.out⟩
  · rw [if_pos rfl]
    rw [hh] at HK
    clear hh
    go_enter Try.func20, Try.ntmps20
    go_wp2_with fail
    refine HK.out.mono ?_
    rintro e w2 ⟨rfl, hg2⟩
    have HA2 := Lib.hid (HA.out.gr hg2)
    have HZ2 := Lib.hid (HZ.out.gr hg2)
    have HG2 := Lib.hid (HG1.out.trans hg2)
    have a1 := HA2.out.cell (i := 1) rfl
    have f1 := HA2.out.free 1
    have HA3 := Lib.hid (HA2.out.set 1 (.int .i64 (d + 1)))
    have HZ3 := Lib.hid (HZ2.out.other (show w.heap.size + 1 ≠ w.heap.size by omega) 1 (.int .i64 (d + 1)))
    have HG3 := Lib.hid (HG2.out.setCell (p := ⟨w.heap.size, 1, none⟩) (Nat.le_refl _) (.int .i64 (d + 1)))
    clear hg2 HK HA HZ
    go_upto_region 4 with fail
    generalize w2.setCell ⟨w.heap.size, 1, none⟩ (.int .i64 (d + 1)) = w3 at *
    replace HA3 := Lib.hid (show Blk w3 w.heap.size #[.int .i64 b, .int .i64 (d + 1), .slice la M.length lc] 31 from HA3.out)
    clear a1 f1
    have a0 := HA3.out.cell (i := 0) rfl
    have a1 := HA3.out.cell (i := 1) rfl
    have a2 := HA3.out.cell (i := 2) rfl
    have f0 := HZ3.out.free 0
    have f1 := HZ3.out.free 1
    have f2 := HZ3.out.free 2
    have z0 := HZ3.out.cell (i := 0) rfl
    have z1 := HZ3.out.cell (i := 1) rfl
    have z2 := HZ3.out.cell (i := 2) rfl
    have HZ4 := Lib.hid (HZ3.out.store3 (.int .i64 b) (.int .i64 (d + 1)) (.slice la M.length lc))
    have HG4 := Lib.hid (HG3.out.store3 (b := w.heap.size + 1) (by omega) (.int .i64 b) (.int .i64 (d + 1)) (.slice la M.length lc))
    have y0 := HZ4.out.cell (i := 0) rfl
    have y1 := HZ4.out.cell (i := 1) rfl
    have y2 := HZ4.out.cell (i := 2) rfl
    go_wp2
    refine bodyPost_ret (v := .tuple #[.agg #[.int .i64 b, .int .i64 (d + 1), .slice la M.length lc], .string T, .bool true]) (by simp [results, Try.results20, go_sem, y0, y1, y2]; try rfl) rfl ?_
    exact ⟨_, rfl, ownsRow_gr HG4.out HR0.out, HG4.out⟩
end Go.Proofs.Ytnanclgnjchpeaa
