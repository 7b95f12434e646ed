import Derived.Test.YtahohgnkichibaaF15j
import Derived.WalkKit
import Derived.ProofKit
import Derived.LoopTactic
import Derived.Outline
import Derived.WalkSpells
import Derived.WalkLawsBesides
import Derived.Lib.Hide
import Derived.Deep.LoopGhost
import Derived.Deep.QuietTactic
import Derived.BigQuiet
import Derived.ShutString
import Derived.BigQuiet
import Derived.Deep.AppendLies
import Derived.Deep.RegionWith
import Derived.Deep.Onto
namespace Go.Proofs.Ytahohgnkichibaa
open Go.ChangeShapes Go.WideShapes Go.ChangeAt Go.RowKit
set_option linter.unusedVariables false
set_option linter.unusedSimpArgs false
/-- A row of the document's alarms that the call owns. -/
def RRow (w : World) (base : Nat) (v : Value) (L : List A) : Prop := w.ownsRow base 40 2 v L.length (rcells encA L)
theorem RRow.gr {w w' : World} {base : Nat} {v : Value} {L : List A} (h : RRow w base v L) (hg : Gr w w') : RRow w' base v L := ownsRow_gr hg h
theorem RRow.at {w : World} {base : Nat} {v : Value} {L : List A} (h : RRow w base v L) (k : Nat) (hk : k < L.length) :
    ∃ g cap, v = .slice (some ⟨g, 0, none⟩) L.length cap ∧ g < w.heap.size ∧ w.cell? ⟨g, k * 2, none⟩ = some (.int .i64 L[k].key) ∧ w.cell? ⟨g, k * 2 + 1, none⟩ = some (.int .i64 L[k].due) := by
  obtain ⟨g, cap, cur, hv, _, hlt, _, _, _, _, _, hat, _⟩ := owns_open h (by omega)
  refine ⟨g, cap, hv, hlt, ?_, ?_⟩
  · have := rcells_at encA_len L k hk 0 (by omega)
    exact hat _ _ (by rw [Nat.add_zero] at this; rw [this]; rfl)
  · have := rcells_at encA_len L k hk 1 (by omega)
    exact hat _ _ (by rw [this]; rfl)
theorem RRow.slice {w : World} {base : Nat} {v : Value} {L : List A} (h : RRow w base v L) : ∃ a cap, v = .slice a L.length cap := by
  obtain ⟨a, cap, hv, _⟩ := ownsRow_slice h
  exact ⟨a, cap, hv⟩
theorem RRow.base {w : World} {base base' : Nat} {v : Value} {L : List A} (h : RRow w base v L) (hb : base' ≤ base) : RRow w base' v L := World.ownsRow.mono h hb
theorem rrow_empty (w : World) (base : Nat) (hb : base ≤ w.heap.size) : RRow (w.alloc (.cells #[] 40)) base (.slice (some ⟨w.heap.size, 0, none⟩) 0 0) [] :=
  World.ownsRow_made (base := base) (e := 40) (size := 2) w #[] 0 hb (by unfold maxLen; omega) rfl
set_option maxRecDepth 100000 in
theorem rinfo : ∃ i0 : TypeInfo, Try.prog.info? 40 = some i0 ∧ i0.zero = some (.agg #[.int .i64 0, .int .i64 0]) ∧ i0.size = 2 ∧ i0.bytes = 16 := ⟨_, rfl, rfl, rfl, rfl⟩
def keyless (L : List A) (k : Int) : List A := L.filter fun x => !(x.key == k)
theorem keyless_len (L : List A) (k : Int) : (keyless L k).length ≤ L.length := List.length_filter_le _ _
theorem keyless_same {L : List A} {k : Int} {j : Nat} (h : j < L.length) (hk : (L[j].key == k) = true) : keyless (L.take (j + 1)) k = keyless (L.take j) k := by
  unfold keyless
  rw [List.take_succ_eq_append_getElem h, List.filter_append, List.filter_cons_of_neg (by simp [hk])]
  simp
theorem keyless_more {L : List A} {k : Int} {j : Nat} (h : j < L.length) (hk : (L[j].key == k) = false) : keyless (L.take (j + 1)) k = keyless (L.take j) k ++ [L[j]] := by
  unfold keyless
  rw [List.take_succ_eq_append_getElem h, List.filter_append, List.filter_cons_of_pos (by simp [hk])]
  simp
set_option maxRecDepth 100000 in
set_option maxHeartbeats 2000000 in
theorem refOff_any {base : Nat} {v : Value} (k : Int) (L : List A) (w : World) (h : RRow w base v L) (hl : L.length ≤ 1000) :
    Calls Try.prog 15 #[v, .int .i64 k] w fun e w' => ∃ v', e = .returned (.tuple #[v', .bool (decide ((keyless L k).length < L.length))]) ∧ RRow w' w.heap.size v' (keyless L k) ∧ Gr w w' := by
  obtain ⟨i0, hi, hz0, hz1, hz2⟩ := rinfo
  obtain ⟨a, c, rfl⟩ := h.slice
  have HL := Lib.hid h
  clear h
  go_enter Try.func15, Try.ntmps15
  go_wp2
  go_loopw [6, 12] (fun v i wr => ∃ j : Nat, j ≤ L.length ∧ i = .int .i64 (j : Nat) ∧ Hid (Gr w wr) ∧ Hid (RRow wr w.heap.size v (keyless (L.take j) k))) (fun _ i _ => L.length - (intOf i).toNat)
  case atStart => exact ⟨0, by omega, rfl, Lib.hid ((Gr.refl _).alloc _), Lib.hid (rrow_empty _ _ (Nat.le_refl _))⟩
  case round =>
    obtain ⟨j, hj, rfl, HG, HO⟩ := hrel
    by_cases hlt : j < L.length
    · have hk2 : (j : Int) < (L.length : Int) := by omega
      obtain ⟨g, cap, hv, _, hc1, hc2⟩ := HL.out.at j hlt
      simp only [Value.slice.injEq, true_and] at hv
      obtain ⟨rfl, rfl⟩ := hv
      have e0 := HG.out.cell hc1
      have e1 := HG.out.cell hc2
      clear hc1 hc2
      have HS : Hid ((L[j].key == k) = true → keyless (L.take (j + 1)) k = keyless (L.take j) k) := Lib.hid fun h => keyless_same hlt h
      have HM : Hid ((L[j].key == k) = false → keyless (L.take (j + 1)) k = keyless (L.take j) k ++ [⟨L[j].key, L[j].due⟩]) := Lib.hid fun h => keyless_more hlt h
      have HN := Lib.hid (show (keyless (L.take j) k).length ≤ 1000 by have := keyless_len (L.take j) k; rw [List.length_take] at this; omega)
      generalize L[j].key = xk at *
      generalize L[j].due = xd at *
      by_cases hjk : xk = k
      · have HE := Lib.hid (HS.out (by simp [hjk]))
        have HO2 := Lib.hid (show RRow (wr.alloc (.cells #[.int .i64 xk, .int .i64 xd] 40)) w.heap.size u6 (keyless (L.take (j + 1)) k) by rw [HE.out]; exact HO.out.gr ((Gr.refl _).alloc _))
        have HG3 := Lib.hid (HG.out.alloc (.cells #[.int .i64 xk, .int .i64 xd] 40))
        subst hjk
        go_wp2
        go_roundw
        case rel => exact ⟨j + 1, by omega, by go_num, HG3, HO2⟩
        case measure => simp [intOf]; omega
      · have HE := Lib.hid (HM.out (by simp [hjk]))
        obtain ⟨sa, sc, rfl⟩ := HO.out.slice
        generalize hLL : keyless (L.take (j + 1)) k = LL at *
        have HLL := Lib.hid hLL
        clear hLL
        generalize keyless (L.take j) k = L0 at *
        have hn := HN.out
        have hrow : ((wr.alloc (.cells #[.int .i64 xk, .int .i64 xd] 40)).alloc (.cells #[.int .i64 xk, .int .i64 xd] 40)).ownsRow w.heap.size 40 2 _ _ _ := HO.out.gr (((Gr.refl _).alloc _).alloc _)
        have HG3 := Lib.hid ((HG.out.alloc (.cells #[.int .i64 xk, .int .i64 xd] 40)).alloc (.cells #[.int .i64 xk, .int .i64 xd] 40))
        have HZ3 := Lib.hid HG.out.size
        go_wp2_with (at_builtin; go_loud (refine wpList_append_lies _ rfl (.tmp 20) (.tmp 22) 27 rfl w.heap.size 40 i0 (.agg #[.int .i64 0, .int .i64 0]) 2 16 Try.underlying27 hi hz0 hz1 hz2 rfl (by decide) _ _ _ rfl hrow ⟨wr.heap.size + 1, 0, none⟩ 1 1 [.int .i64 xk, .int .i64 xd] rfl (by simp) ?c1 ?c2 Nat.one_pos ?c3 ?c4 ?c5 _ rfl ?_))
        case c1 =>
          have := World.news_of_block (cs := #[.int .i64 xk, .int .i64 xd]) (t := 40) (fr := (0, 0)) (heap_alloc_new ((wr.alloc (.cells #[.int .i64 xk, .int .i64 xd] 40))) (.cells #[.int .i64 xk, .int .i64 xd] 40))
          first | exact this | rwa [show ((wr.alloc (.cells #[.int .i64 xk, .int .i64 xd] 40))).heap.size = wr.heap.size + 1 by simp] at this
        case c2 => intro u hu; simp at hu; rcases hu with rfl | rfl <;> rfl
        case c3 => unfold maxLen; omega
        case c4 => omega
        case c5 => have := HZ3.out; simp; omega
        intro g7 cap7 w7 hown7 hgrow7 hat7 hlt7
        have HG7 := Lib.hid (HG3.out.append hrow hgrow7)
        have HO7 := Lib.hid (show RRow w7 w.heap.size (.slice (some ⟨g7, 0, none⟩) (L0.length + 1) cap7) LL by rw [HE.out]; unfold RRow; rw [rcells_snoc, List.length_append]; exact hown7)
        clear hown7 hgrow7 hat7 hlt7 hrow HG3
        go_wp2
        go_roundw
        case rel => exact ⟨j + 1, by omega, by go_num, HG7, Lib.hid (by rw [HLL.out]; exact HO7.out)⟩
        case measure => simp [intOf]; omega
    · obtain rfl : j = L.length := by omega
      have HO2 := Lib.hid (show RRow wr w.heap.size u6 (keyless L k) by have := HO.out; rwa [List.take_length] at this)
      obtain ⟨sa, sc, rfl⟩ := HO2.out.slice
      generalize hM : keyless L k = M at *
      have HM9 := Lib.hid hM
      clear hM
      go_wp2
      refine bodyPost_ret (v := .tuple #[.slice sa M.length sc, .bool (decide (M.length < L.length))]) (by simp [results, Try.results15, go_sem]; try rfl) rfl ?_
      exact ⟨.slice sa M.length sc, by rw [HM9.out], by rw [HM9.out]; exact HO2.out, HG.out⟩
set_option maxRecDepth 100000 in
set_option maxHeartbeats 2000000 in
theorem refSet_any15 {base : Nat} {v : Value} (k t : Int) (L : List A) (w : World) (h : RRow w base v L) (hl : L.length ≤ 1000) :
    Calls Try.prog 14 #[v, .int .i64 k, .int .i64 t] w fun e w' => ∃ v', e = .returned v' ∧ RRow w' w.heap.size v' (keyless L k ++ [⟨k, t⟩]) ∧ Gr w w' := by
  obtain ⟨i0, hi, hz0, hz1, hz2⟩ := rinfo
  have HF := Lib.hid (refOff_any k L w h hl)
  have hn := keyless_len L k
  generalize keyless L k = M at *
  clear h
  go_enter Try.func14, Try.ntmps14
  go_wp2_with fail
  refine HF.out.mono ?_
  rintro e wr ⟨v', rfl, hr, hg⟩
  obtain ⟨sa, sc, rfl⟩ := hr.slice
  have hrow : (wr.alloc (.cells #[.int .i64 k, .int .i64 t] 40)).ownsRow w.heap.size 40 2 _ _ _ := hr.gr ((Gr.refl _).alloc _)
  have HG3 := Lib.hid (hg.alloc (.cells #[.int .i64 k, .int .i64 t] 40))
  have HZ3 := Lib.hid hg.size
  clear hr hg
  go_wp2_with (at_builtin; go_loud (refine wpList_append_lies _ rfl (.tmp 15) (.tmp 19) 27 rfl w.heap.size 40 i0 (.agg #[.int .i64 0, .int .i64 0]) 2 16 Try.underlying27 hi hz0 hz1 hz2 rfl (by decide) _ _ _ rfl hrow ⟨wr.heap.size, 0, none⟩ 1 1 [.int .i64 k, .int .i64 t] rfl (by simp) ?c1 ?c2 Nat.one_pos ?c3 ?c4 ?c5 _ rfl ?_))
  case c1 =>
    have := World.news_of_block (cs := #[.int .i64 k, .int .i64 t]) (t := 40) (fr := (0, 0)) (heap_alloc_new (wr) (.cells #[.int .i64 k, .int .i64 t] 40))
    first | exact this | rwa [show (wr).heap.size = wr.heap.size by simp] at this
  case c2 => intro u hu; simp at hu; rcases hu with rfl | rfl <;> rfl
  case c3 => unfold maxLen; omega
  case c4 => omega
  case c5 => have := HZ3.out; simp; omega
  intro g7 cap7 w7 hown7 hgrow7 hat7 hlt7
  have HG7 := Lib.hid (HG3.out.append hrow hgrow7)
  have HO7 := Lib.hid (show RRow w7 w.heap.size (.slice (some ⟨g7, 0, none⟩) (M.length + 1) cap7) (M ++ [⟨k, t⟩]) by unfold RRow; rw [rcells_snoc, List.length_append]; exact hown7)
  clear hown7 hgrow7 hat7 hlt7 hrow HG3
  go_wp2
  go_ret
  exact ⟨_, rfl, HO7.out, HG7.out⟩
def aheadA (x y : A) : Bool := decide (x.due < y.due ∨ x.due = y.due ∧ x.key < y.key)
set_option maxRecDepth 100000 in
theorem ahead_any (x y : A) (w : World) : Calls Try.prog 67 #[.agg #[.int .i64 x.key, .int .i64 x.due], .agg #[.int .i64 y.key, .int .i64 y.due]] w fun e w' => e = .returned (.bool (aheadA x y)) ∧ Gr w w' := by
  obtain ⟨xk, xd⟩ := x
  obtain ⟨yk, yd⟩ := y
  have HG := Lib.hid (((Gr.refl w).alloc (.cells #[.int .i64 xk, .int .i64 xd] 40)).alloc (.cells #[.int .i64 yk, .int .i64 yd] 40))
  generalize hr : aheadA ⟨xk, xd⟩ ⟨yk, yd⟩ = r
  have HR := Lib.hid hr
  clear hr
  by_cases h1 : xd < yd
  · have : r = true := by rw [← HR.out]; unfold aheadA; simp [h1]
    subst this
    go_enter Try.func67, Try.ntmps67
    go_wp2
    go_ret
    exact ⟨rfl, HG.out⟩
  · by_cases h2 : xd = yd
    · subst h2
      have : r = decide (xk < yk) := by rw [← HR.out]; unfold aheadA; simp
      subst this
      go_enter Try.func67, Try.ntmps67
      go_wp2
      go_ret
      exact ⟨rfl, HG.out⟩
    · have : r = false := by rw [← HR.out]; unfold aheadA; simp [h1, h2]
      subst this
      go_enter Try.func67, Try.ntmps67
      go_wp2
      go_ret
      exact ⟨rfl, HG.out⟩
end Go.Proofs.Ytahohgnkichibaa
