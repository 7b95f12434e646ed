import Derived.Test.YtnanclgnjchpeaaF19t
import Derived.WalkKit
import Derived.ProofKit
import Derived.LoopTactic
import Derived.Outline
import Derived.WalkSpells
import Derived.WalkLawsBesides
import Derived.Lib.Hide
import Derived.Deep.LoopGhost
import Derived.Deep.QuietTactic
import Derived.BigQuiet
import Derived.ShutString
import Derived.IntWalk
import Derived.BigQuiet
import Derived.Laws.OwnMore
import Derived.Laws.AppendOwn
import Derived.Deep.Cut
import Derived.Deep.CutRange
namespace Go.Proofs.Ytnanclgnjchpeaa
open Go.ChangeShapes Go.WideShapes Go.ChangeAt Go.RowKit
open Bal
set_option linter.unusedVariables false
set_option linter.unusedSimpArgs false
theorem encR_one (x : RE) : ∀ v ∈ encR x, v.oneCell' = true := by
  intro v hv
  simp only [encR, List.mem_cons, List.not_mem_nil, or_false] at hv
  rcases hv with rfl | rfl <;> rfl
/-- append of a whole row to an empty one of its own. -/
theorem wpList_append_row {ops : Array Oper} {rest : List Oper} {o : Oper} {a : Act} {Q : Exit → Act → World → Prop} (w : World) (hgd : o.guard = none) (s x : Operand) (t : TypeId)
    (ho : o.op = .call { callee := .builtin .append, args := #[s, x], argTypes := #[t, t] }) (i : TypeInfo) (ht : Try.prog.underlying t = some (.slice 119)) (hi : Try.prog.info? 119 = some i) (hz0 : i.zero = some (.agg #[.int .i64 0, .string ⟨#[]⟩])) (hz1 : i.size = 2) (hz2 : i.bytes = 24)
    (base n : Nat) (la : Option Addr) (lc : Nat) (M : List RE) (hs : a.eval s = .slice (some ⟨n, 0, none⟩) 0 0) (hx : a.eval x = .slice la M.length lc) (hown : w.ownsRow base 119 2 (.slice (some ⟨n, 0, none⟩) 0 0) 0 (rcells encR [])) (hr : RRow w (.slice la M.length lc) M) (hl : M.length ≤ 1000) (hb : base ≤ w.heap.size)
    (hK : ∀ va vc w', w'.ownsRow base 119 2 (.slice va M.length vc) M.length (rcells encR M) → w.grownBy w' (some n) → wpList Try.prog ops Q rest (a.put o.dst (.slice va M.length vc)) w') : wpList Try.prog ops Q (o :: rest) a w := by
  by_cases h0 : M.length = 0
  · obtain rfl := List.length_eq_zero_iff.1 h0
    exact wpList_append_zero w hgd s x t ho _ i ht hi n 0 0 la lc hs hx (Nat.le_refl _) (hK _ _ w hown (grown_refl _ _))
  · obtain ⟨g, cap, _, hv, _, _, _, _, _, _, _, hat, _⟩ := owns_open hr (by omega)
    simp only [Value.slice.injEq, true_and] at hv
    obtain ⟨rfl, rfl⟩ := hv
    refine wpList_append_own w hgd s x t ho base _ i (.agg #[.int .i64 0, .string ⟨#[]⟩]) 2 24 ht hi hz0 hz1 hz2 rfl (by decide) _ _ _ hs hown ⟨g, 0, none⟩ M.length lc (rcells encR M) hx (rcells_len encR_len M) (fun j u hj => by rw [addr_add, Nat.zero_add]; exact hat j u hj) (rcells_one encR_one M) (by unfold maxLen; omega) (by omega) hb ?_
    intro v' w' hown' hgrow _
    rw [Nat.zero_add] at hown'
    obtain ⟨va, vc, rfl, _⟩ := ownsRow_slice hown'
    exact hK va vc w' hown' hgrow
set_option maxRecDepth 100000 in
set_option maxHeartbeats 2000000 in
theorem refLearn_base (b d slot : Int) (text : ByteArray) (lv : Value) (M : List RE) (w : World) (hr : RRow w lv M) (hl : M.length ≤ 900) (hd : 0 ≤ d ∧ d ≤ 1000000) (hx : slot ≤ b) :
    Calls Try.prog 17 #[.agg #[.int .i64 b, .int .i64 d, lv], .int .i64 slot, .string text] w fun e w' => ∃ lv', e = .returned (.tuple #[(Rs.mk b d M).val lv', .int .i64 0]) ∧ RTo w w' ⟨b, d, M⟩ lv' := by
  have HG1 := Lib.hid (((Gr.refl w).alloc (.cells #[.int .i64 b, .int .i64 d, lv] 31)).alloc (.cells #[.int .i64 0, .int .i64 0, .slice none 0 0] 31))
  have HA := Lib.hid ((Blk.new w #[.int .i64 b, .int .i64 d, lv] 31).gr ((Gr.refl _).alloc (.cells #[.int .i64 0, .int .i64 0, .slice none 0 0] 31)))
  have HZ := Lib.hid (Blk.new (w.alloc (.cells #[.int .i64 b, .int .i64 d, lv] 31)) #[.int .i64 0, .int .i64 0, .slice none 0 0] 31)
  rw [show (w.alloc (.cells #[.int .i64 b, .int .i64 d, lv] 31)).heap.size = w.heap.size + 1 by simp] at HZ
  have HK := Lib.hid (refKnown_any b d slot lv M _ (ownsRow_gr HG1.out hr) (by omega))
  have HR0 := Lib.hid hr
  have hw1 : IntKind.i64.wrap (d + 1024) = d + 1024 := by rw [IntKind.wrap_i64]; omega
  obtain ⟨la, lc, rfl, _⟩ := ownsRow_slice hr
  unfold Rs.val RTo
  simp only
  clear HK HA HZ HG1
  clear hr
  go_enter Try.func17, Try.ntmps17
  go_wp2
  refine bodyPost_ret (v := .tuple #[.agg #[.int .i64 b, .int .i64 d, .slice la M.length lc], .int .i64 0]) (by simp [results, Try.results17, go_sem]; try rfl) rfl ?_
  exact ⟨_, rfl, ownsRow_gr (((Gr.refl _).alloc _).alloc _) HR0.out, ((Gr.refl _).alloc _).alloc _⟩
set_option maxRecDepth 100000 in
set_option maxHeartbeats 2000000 in
theorem refLearn_same (b d slot : Int) (text : ByteArray) (lv : Value) (M : List RE) (w : World) (hr : RRow w lv M) (hl : M.length ≤ 900) (hd : 0 ≤ d ∧ d ≤ 1000000) (hx : b < slot) (hh : hasM M slot = true) (ho : (txtM M slot).toList = text.toList) :
    Calls Try.prog 17 #[.agg #[.int .i64 b, .int .i64 d, lv], .int .i64 slot, .string text] w fun e w' => ∃ lv', e = .returned (.tuple #[(Rs.mk b d M).val lv', .int .i64 0]) ∧ RTo w w' ⟨b, d, M⟩ lv' := by
  have HG1 := Lib.hid (((Gr.refl w).alloc (.cells #[.int .i64 b, .int .i64 d, lv] 31)).alloc (.cells #[.int .i64 0, .int .i64 0, .slice none 0 0] 31))
  have HA := Lib.hid ((Blk.new w #[.int .i64 b, .int .i64 d, lv] 31).gr ((Gr.refl _).alloc (.cells #[.int .i64 0, .int .i64 0, .slice none 0 0] 31)))
  have HZ := Lib.hid (Blk.new (w.alloc (.cells #[.int .i64 b, .int .i64 d, lv] 31)) #[.int .i64 0, .int .i64 0, .slice none 0 0] 31)
  rw [show (w.alloc (.cells #[.int .i64 b, .int .i64 d, lv] 31)).heap.size = w.heap.size + 1 by simp] at HZ
  have HK := Lib.hid (refKnown_any b d slot lv M _ (ownsRow_gr HG1.out hr) (by omega))
  have HR0 := Lib.hid hr
  have hw1 : IntKind.i64.wrap (d + 1024) = d + 1024 := by rw [IntKind.wrap_i64]; omega
  obtain ⟨la, lc, rfl, _⟩ := ownsRow_slice hr
  unfold Rs.val RTo
  simp only
  rw [hh] at HK
  generalize txtM M slot = T at *
  have hx2 : ¬ slot ≤ b := by omega
  clear hh
  have heq : (T.toList == text.toList) = true := by simpa using ho
  clear ho
  clear hr
  go_enter Try.func17, Try.ntmps17
  go_wp2_with fail
  refine HK.out.mono ?_
  rintro e w2 ⟨rfl, hg2⟩
  have HA2 := Lib.hid (HA.out.gr hg2)
  have HZ2 := Lib.hid (HZ.out.gr hg2)
  have HG2 := Lib.hid (HG1.out.trans hg2)
  have a0 := HA2.out.cell (i := 0) rfl
  have a1 := HA2.out.cell (i := 1) rfl
  have a2 := HA2.out.cell (i := 2) rfl
  have f0 := HZ2.out.free 0
  have f1 := HZ2.out.free 1
  have f2 := HZ2.out.free 2
  have z0 := HZ2.out.cell (i := 0) rfl
  have z1 := HZ2.out.cell (i := 1) rfl
  have z2 := HZ2.out.cell (i := 2) rfl
  have HZ4 := Lib.hid (HZ2.out.store3 (.int .i64 b) (.int .i64 d) (.slice la M.length lc))
  have HG4 := Lib.hid (HG2.out.store3 (b := w.heap.size + 1) (by omega) (.int .i64 b) (.int .i64 d) (.slice la M.length lc))
  have y0 := HZ4.out.cell (i := 0) rfl
  have y1 := HZ4.out.cell (i := 1) rfl
  have y2 := HZ4.out.cell (i := 2) rfl
  clear hg2 HK HA HZ
  go_wp2
  refine bodyPost_ret (v := .tuple #[.agg #[.int .i64 b, .int .i64 d, .slice la M.length lc], .int .i64 0]) (by simp [results, Try.results17, go_sem, y0, y1, y2]; try rfl) rfl ?_
  exact ⟨_, rfl, ownsRow_gr HG4.out HR0.out, HG4.out⟩
set_option maxRecDepth 100000 in
set_option maxHeartbeats 2000000 in
theorem refLearn_other (b d slot : Int) (text : ByteArray) (lv : Value) (M : List RE) (w : World) (hr : RRow w lv M) (hl : M.length ≤ 900) (hd : 0 ≤ d ∧ d ≤ 1000000) (hx : b < slot) (hh : hasM M slot = true) (ho : (txtM M slot).toList ≠ text.toList) :
    Calls Try.prog 17 #[.agg #[.int .i64 b, .int .i64 d, lv], .int .i64 slot, .string text] w fun e w' => ∃ lv', e = .returned (.tuple #[(Rs.mk b d M).val lv', .int .i64 7]) ∧ RTo w w' ⟨b, d, M⟩ lv' := by
  have HG1 := Lib.hid (((Gr.refl w).alloc (.cells #[.int .i64 b, .int .i64 d, lv] 31)).alloc (.cells #[.int .i64 0, .int .i64 0, .slice none 0 0] 31))
  have HA := Lib.hid ((Blk.new w #[.int .i64 b, .int .i64 d, lv] 31).gr ((Gr.refl _).alloc (.cells #[.int .i64 0, .int .i64 0, .slice none 0 0] 31)))
  have HZ := Lib.hid (Blk.new (w.alloc (.cells #[.int .i64 b, .int .i64 d, lv] 31)) #[.int .i64 0, .int .i64 0, .slice none 0 0] 31)
  rw [show (w.alloc (.cells #[.int .i64 b, .int .i64 d, lv] 31)).heap.size = w.heap.size + 1 by simp] at HZ
  have HK := Lib.hid (refKnown_any b d slot lv M _ (ownsRow_gr HG1.out hr) (by omega))
  have HR0 := Lib.hid hr
  have hw1 : IntKind.i64.wrap (d + 1024) = d + 1024 := by rw [IntKind.wrap_i64]; omega
  obtain ⟨la, lc, rfl, _⟩ := ownsRow_slice hr
  unfold Rs.val RTo
  simp only
  rw [hh] at HK
  generalize txtM M slot = T at *
  have hx2 : ¬ slot ≤ b := by omega
  clear hh
  have heq : (T.toList == text.toList) = false := by simpa using ho
  clear ho
  clear hr
  go_enter Try.func17, Try.ntmps17
  go_wp2_with fail
  refine HK.out.mono ?_
  rintro e w2 ⟨rfl, hg2⟩
  have HA2 := Lib.hid (HA.out.gr hg2)
  have HZ2 := Lib.hid (HZ.out.gr hg2)
  have HG2 := Lib.hid (HG1.out.trans hg2)
  have a0 := HA2.out.cell (i := 0) rfl
  have a1 := HA2.out.cell (i := 1) rfl
  have a2 := HA2.out.cell (i := 2) rfl
  have f0 := HZ2.out.free 0
  have f1 := HZ2.out.free 1
  have f2 := HZ2.out.free 2
  have z0 := HZ2.out.cell (i := 0) rfl
  have z1 := HZ2.out.cell (i := 1) rfl
  have z2 := HZ2.out.cell (i := 2) rfl
  have HZ4 := Lib.hid (HZ2.out.store3 (.int .i64 b) (.int .i64 d) (.slice la M.length lc))
  have HG4 := Lib.hid (HG2.out.store3 (b := w.heap.size + 1) (by omega) (.int .i64 b) (.int .i64 d) (.slice la M.length lc))
  have y0 := HZ4.out.cell (i := 0) rfl
  have y1 := HZ4.out.cell (i := 1) rfl
  have y2 := HZ4.out.cell (i := 2) rfl
  clear hg2 HK HA HZ
  go_wp2
  refine bodyPost_ret (v := .tuple #[.agg #[.int .i64 b, .int .i64 d, .slice la M.length lc], .int .i64 7]) (by simp [results, Try.results17, go_sem, y0, y1, y2]; try rfl) rfl ?_
  exact ⟨_, rfl, ownsRow_gr HG4.out HR0.out, HG4.out⟩
set_option maxRecDepth 100000 in
set_option maxHeartbeats 2000000 in
theorem refLearn_far (b d slot : Int) (text : ByteArray) (lv : Value) (M : List RE) (w : World) (hr : RRow w lv M) (hl : M.length ≤ 900) (hd : 0 ≤ d ∧ d ≤ 1000000) (hx : b < slot) (hh : hasM M slot = false) (hf : d + 1024 < slot) :
    Calls Try.prog 17 #[.agg #[.int .i64 b, .int .i64 d, lv], .int .i64 slot, .string text] w fun e w' => ∃ lv', e = .returned (.tuple #[(Rs.mk b d M).val lv', .int .i64 6]) ∧ RTo w w' ⟨b, d, M⟩ lv' := by
  have HG1 := Lib.hid (((Gr.refl w).alloc (.cells #[.int .i64 b, .int .i64 d, lv] 31)).alloc (.cells #[.int .i64 0, .int .i64 0, .slice none 0 0] 31))
  have HA := Lib.hid ((Blk.new w #[.int .i64 b, .int .i64 d, lv] 31).gr ((Gr.refl _).alloc (.cells #[.int .i64 0, .int .i64 0, .slice none 0 0] 31)))
  have HZ := Lib.hid (Blk.new (w.alloc (.cells #[.int .i64 b, .int .i64 d, lv] 31)) #[.int .i64 0, .int .i64 0, .slice none 0 0] 31)
  rw [show (w.alloc (.cells #[.int .i64 b, .int .i64 d, lv] 31)).heap.size = w.heap.size + 1 by simp] at HZ
  have HK := Lib.hid (refKnown_any b d slot lv M _ (ownsRow_gr HG1.out hr) (by omega))
  have HR0 := Lib.hid hr
  have hw1 : IntKind.i64.wrap (d + 1024) = d + 1024 := by rw [IntKind.wrap_i64]; omega
  obtain ⟨la, lc, rfl, _⟩ := ownsRow_slice hr
  unfold Rs.val RTo
  simp only
  rw [hh] at HK
  generalize txtM M slot = T at *
  have hx2 : ¬ slot ≤ b := by omega
  clear hh
  clear hr
  go_enter Try.func17, Try.ntmps17
  go_wp2_with fail
  refine HK.out.mono ?_
  rintro e w2 ⟨rfl, hg2⟩
  have HA2 := Lib.hid (HA.out.gr hg2)
  have HZ2 := Lib.hid (HZ.out.gr hg2)
  have HG2 := Lib.hid (HG1.out.trans hg2)
  have a0 := HA2.out.cell (i := 0) rfl
  have a1 := HA2.out.cell (i := 1) rfl
  have a2 := HA2.out.cell (i := 2) rfl
  have f0 := HZ2.out.free 0
  have f1 := HZ2.out.free 1
  have f2 := HZ2.out.free 2
  have z0 := HZ2.out.cell (i := 0) rfl
  have z1 := HZ2.out.cell (i := 1) rfl
  have z2 := HZ2.out.cell (i := 2) rfl
  have HZ4 := Lib.hid (HZ2.out.store3 (.int .i64 b) (.int .i64 d) (.slice la M.length lc))
  have HG4 := Lib.hid (HG2.out.store3 (b := w.heap.size + 1) (by omega) (.int .i64 b) (.int .i64 d) (.slice la M.length lc))
  have y0 := HZ4.out.cell (i := 0) rfl
  have y1 := HZ4.out.cell (i := 1) rfl
  have y2 := HZ4.out.cell (i := 2) rfl
  clear hg2 HK HA HZ
  go_wp2
  refine bodyPost_ret (v := .tuple #[.agg #[.int .i64 b, .int .i64 d, .slice la M.length lc], .int .i64 6]) (by simp [results, Try.results17, go_sem, y0, y1, y2]; try rfl) rfl ?_
  exact ⟨_, rfl, ownsRow_gr HG4.out HR0.out, HG4.out⟩
set_option maxRecDepth 100000 in
set_option maxHeartbeats 2000000 in
theorem refLearn_new (b d slot : Int) (text : ByteArray) (lv : Value) (M : List RE) (w : World) (hr : RRow w lv M) (hl : M.length ≤ 900) (hd : 0 ≤ d ∧ d ≤ 1000000) (hx : b < slot) (hh : hasM M slot = false) (hf : slot ≤ d + 1024) :
    Calls Try.prog 17 #[.agg #[.int .i64 b, .int .i64 d, lv], .int .i64 slot, .string text] w fun e w' => ∃ lv', e = .returned (.tuple #[(Rs.mk b d (M ++ [⟨slot, text⟩])).val lv', .int .i64 0]) ∧ RTo w w' ⟨b, d, (M ++ [⟨slot, text⟩])⟩ lv' := by
  have HG1 := Lib.hid (((Gr.refl w).alloc (.cells #[.int .i64 b, .int .i64 d, lv] 31)).alloc (.cells #[.int .i64 0, .int .i64 0, .slice none 0 0] 31))
  have HA := Lib.hid ((Blk.new w #[.int .i64 b, .int .i64 d, lv] 31).gr ((Gr.refl _).alloc (.cells #[.int .i64 0, .int .i64 0, .slice none 0 0] 31)))
  have HZ := Lib.hid (Blk.new (w.alloc (.cells #[.int .i64 b, .int .i64 d, lv] 31)) #[.int .i64 0, .int .i64 0, .slice none 0 0] 31)
  rw [show (w.alloc (.cells #[.int .i64 b, .int .i64 d, lv] 31)).heap.size = w.heap.size + 1 by simp] at HZ
  have HK := Lib.hid (refKnown_any b d slot lv M _ (ownsRow_gr HG1.out hr) (by omega))
  have HR0 := Lib.hid hr
  have hw1 : IntKind.i64.wrap (d + 1024) = d + 1024 := by rw [IntKind.wrap_i64]; omega
  obtain ⟨la, lc, rfl, _⟩ := ownsRow_slice hr
  unfold Rs.val RTo
  simp only
  obtain ⟨i0, hi0, hz0, hz1, hz2⟩ := info_parts info_re
  rw [hh] at HK
  generalize txtM M slot = T at *
  have hx2 : ¬ slot ≤ b := by omega
  clear hh
  have hf2 : ¬ slot > d + 1024 := by omega
  clear hr
  go_enter Try.func17, Try.ntmps17
  go_wp2_with fail
  refine HK.out.mono ?_
  rintro e w2 ⟨rfl, hg2⟩
  have HA2 := Lib.hid (HA.out.gr hg2)
  have HZ2 := Lib.hid (HZ.out.gr hg2)
  have HG2 := Lib.hid (HG1.out.trans hg2)
  have a1 := HA2.out.cell (i := 1) rfl
  have a2 := HA2.out.cell (i := 2) rfl
  have hsz : Hid (w.heap.size + 1 < w2.heap.size) := Lib.hid HZ2.out.lt
  have HG3 := Lib.hid ((Gr.refl w2).alloc (.cells #[] 119))
  have HOC := Lib.hid (show (w2.alloc (.cells #[] 119)).ownsRow w2.heap.size 119 2 (.slice (some ⟨w2.heap.size, 0, none⟩) 0 0) 0 (rcells encR []) from
    owns_of (Nat.le_refl _) (Blk.new w2 #[] 119) rfl (Nat.le_refl _) (by unfold maxLen; omega) rfl (fun j u hj => by simp [rcells] at hj))
  have HRC := Lib.hid (ownsRow_gr (HG2.out.trans HG3.out) HR0.out)
  have HBS := Lib.hid HG3.out.size
  have a2' := HG3.out.cell a2
  clear HK HA HZ hg2
  go_wp2_with (at_builtin; refine wpList_append_row _ rfl (.tmp 36) (.tmp 38) 29 rfl i0 Try.underlying29 hi0 hz0 hz1 hz2 w2.heap.size w2.heap.size la lc M rfl rfl HOC.out HRC.out (by omega) HBS.out ?_)
  intro va vc w4 hown4 hgrow4
  have HG4 := Lib.hid (show Gr w2 w4 from HG3.out.append HOC.out hgrow4)
  have hown5 := hown4.alloc (.cells #[.int .i64 slot, .string text] 119)
  have HO4 := Lib.hid hown4
  clear hgrow4
  go_wp2_with (at_builtin; refine wpList_append_own _ rfl (.tmp 39) (.tmp 43) 29 rfl w2.heap.size 119 i0 (.agg #[.int .i64 0, .string ⟨#[]⟩]) 2 24 Try.underlying29 hi0 hz0 hz1 hz2 rfl (by decide) _ _ _ rfl hown5 ⟨w4.heap.size, 0, none⟩ 1 1 [.int .i64 slot, .string text] rfl rfl ?c1 ?c2 ?c3 ?c4 ?c5 ?_)
  case c1 => exact cellsR_two _ _ _ _ _ rfl
  case c2 => intro u hu; simp at hu; rcases hu with rfl | rfl <;> rfl
  case c3 => unfold maxLen; omega
  case c4 => omega
  case c5 => have := HG4.out.size; simp; omega
  · intro v' w6 hown6 hgrow6 _
    have HG6 := Lib.hid (show Gr w2 w6 from (HG4.out.alloc _).append hown5 hgrow6)
    obtain ⟨va6, vc6, hv6, _⟩ := ownsRow_slice hown6
    subst hv6
    have HO6 := Lib.hid (show w6.ownsRow w2.heap.size 119 2 (.slice va6 (M.length + 1) vc6) (M ++ [(⟨slot, text⟩ : RE)]).length (rcells encR (M ++ [⟨slot, text⟩])) by
      rw [rcells_snoc, List.length_append]; exact hown6)
    have HA6 := Lib.hid (HA2.out.gr HG6.out)
    have HZ6 := Lib.hid (HZ2.out.gr HG6.out)
    have a2 := HA6.out.cell (i := 2) rfl
    have f2 := HA6.out.free 2
    have HA7 := Lib.hid (HA6.out.set 2 (.slice va6 (M.length + 1) vc6))
    have HZ7 := Lib.hid (HZ6.out.other (show w.heap.size + 1 ≠ w.heap.size by omega) 2 (.slice va6 (M.length + 1) vc6))
    have HG7 := Lib.hid ((HG2.out.trans HG6.out).setCell (p := ⟨w.heap.size, 2, none⟩) (Nat.le_refl _) (.slice va6 (M.length + 1) vc6))
    have HO7 := Lib.hid (ownsRow_setCell_other (a := ⟨w.heap.size, 2, none⟩) HO6.out (row_off HA6.out HO6.out (by decide)) (.slice va6 (M.length + 1) vc6))
    clear hown4 hown5 hown6 hgrow6 HA2 HZ2 HA6 HZ6 a1 a2'
    go_upto_region 11 with fail
    generalize w6.setCell ⟨w.heap.size, 2, none⟩ (.slice va6 (M.length + 1) vc6) = w7 at *
    clear a2 f2
    replace HA7 := Lib.hid (show Blk w7 w.heap.size #[.int .i64 b, .int .i64 d, .slice va6 (M.length + 1) vc6] 31 from HA7.out)
    have a0 := HA7.out.cell (i := 0) rfl
    have a1 := HA7.out.cell (i := 1) rfl
    have a2 := HA7.out.cell (i := 2) rfl
    have f0 := HZ7.out.free 0
    have f1 := HZ7.out.free 1
    have f2 := HZ7.out.free 2
    have z0 := HZ7.out.cell (i := 0) rfl
    have z1 := HZ7.out.cell (i := 1) rfl
    have z2 := HZ7.out.cell (i := 2) rfl
    have HZ8 := Lib.hid (HZ7.out.store3 (.int .i64 b) (.int .i64 d) (.slice va6 (M.length + 1) vc6))
    have HG8 := Lib.hid (HG7.out.store3 (b := w.heap.size + 1) (by omega) (.int .i64 b) (.int .i64 d) (.slice va6 (M.length + 1) vc6))
    have HB8 := Lib.hid (show (Value.slice va6 (M.length + 1) vc6).ownBlock ≠ some (w.heap.size + 1) from row_off HZ7.out HO7.out (by decide))
    have HO8 := Lib.hid (ownsRow_setCell_other (a := ⟨w.heap.size + 1, 2, none⟩) (ownsRow_setCell_other (a := ⟨w.heap.size + 1, 1, none⟩) (ownsRow_setCell_other (a := ⟨w.heap.size + 1, 0, none⟩) HO7.out HB8.out (.int .i64 b)) HB8.out (.int .i64 d)) HB8.out (.slice va6 (M.length + 1) vc6))
    have y0 := HZ8.out.cell (i := 0) rfl
    have y1 := HZ8.out.cell (i := 1) rfl
    have y2 := HZ8.out.cell (i := 2) rfl
    clear HA7 HZ7 HO6 HG7
    go_wp2
    refine bodyPost_ret (v := .tuple #[.agg #[.int .i64 b, .int .i64 d, .slice va6 (M.length + 1) vc6], .int .i64 0]) (by simp [results, Try.results17, go_sem, y0, y1, y2]; try rfl) rfl ?_
    exact ⟨_, rfl, row_weak HO8.out (Nat.zero_le _), HG8.out⟩
theorem refLearn_st (b d slot : Int) (text : ByteArray) (lv : Value) (M : List RE) (w : World) (hr : RRow w lv M) (hl : M.length ≤ 900) (hd : 0 ≤ d ∧ d ≤ 1000000) :
    Calls Try.prog 17 #[.agg #[.int .i64 b, .int .i64 d, lv], .int .i64 slot, .string text] w fun e w' => ∃ lv', e = .returned (.tuple #[(Rs.learn ⟨b, d, M⟩ slot text).val lv', .int .i64 (Rs.learnR ⟨b, d, M⟩ slot text)]) ∧ RTo w w' (Rs.learn ⟨b, d, M⟩ slot text) lv' := by
  unfold Rs.learnR Rs.learn
  by_cases hx : slot ≤ b
  · rw [if_pos (show slot ≤ (Rs.mk b d M).ba from hx), if_pos (show slot ≤ (Rs.mk b d M).ba from hx)]
    exact refLearn_base b d slot text lv M w hr hl hd hx
  · rw [if_neg (show ¬ slot ≤ (Rs.mk b d M).ba from hx), if_neg (show ¬ slot ≤ (Rs.mk b d M).ba from hx)]
    have hx := Int.not_le.1 hx
    by_cases hh : hasM M slot = true
    · rw [if_pos (show hasM (Rs.mk b d M).M slot = true from hh), if_pos (show hasM (Rs.mk b d M).M slot = true from hh)]
      by_cases ho : (txtM M slot).toList = text.toList
      · rw [if_pos (show (txtM (Rs.mk b d M).M slot).toList = text.toList from ho)]
        exact refLearn_same b d slot text lv M w hr hl hd hx hh ho
      · rw [if_neg (show ¬ (txtM (Rs.mk b d M).M slot).toList = text.toList from ho)]
        exact refLearn_other b d slot text lv M w hr hl hd hx hh ho
    · rw [if_neg (show ¬ hasM (Rs.mk b d M).M slot = true from hh), if_neg (show ¬ hasM (Rs.mk b d M).M slot = true from hh)]
      have hh := Bool.eq_false_iff.2 hh
      by_cases hf : d + 1024 < slot
      · rw [if_pos (show (Rs.mk b d M).dn + 1024 < slot from hf), if_pos (show (Rs.mk b d M).dn + 1024 < slot from hf)]
        exact refLearn_far b d slot text lv M w hr hl hd hx hh hf
      · rw [if_neg (show ¬ (Rs.mk b d M).dn + 1024 < slot from hf), if_neg (show ¬ (Rs.mk b d M).dn + 1024 < slot from hf)]
        exact refLearn_new b d slot text lv M w hr hl hd hx hh (Int.not_lt.1 hf)
end Go.Proofs.Ytnanclgnjchpeaa
