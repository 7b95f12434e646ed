import Derived.Test.YtahohgnkichibabF14g
import Derived.WalkKit
import Derived.ProofKit
import Derived.LoopTactic
import Derived.Outline
import Derived.WalkSpells
import Derived.WalkLawsBesides
import Derived.Lib.Hide
import Derived.Deep.LoopGhost
import Derived.Deep.QuietTactic
import Derived.BigQuiet
import Derived.ShutString
import Derived.IntWalk
import Derived.Lib.MinMax
import Derived.Deep.AppendLies
import Derived.Deep.RegionWith
import Derived.Deep.RegionHeld3
import Derived.Deep.RegionLaw
namespace Go.Proofs.Ytahohgnkichibab
open Go.ChangeShapes Go.WideShapes Go.ChangeAt Go.RowKit
set_option linter.unusedVariables false
set_option linter.unusedSimpArgs false
open Nt
/-- The ways but one. -/
def wf (a b : Int) (M : List (Int × Int)) : List (Int × Int) := M.filter fun m => decide (m ≠ (a, b))
def wg (n : Nat) (a b : Int) (is : Bool) : List (Int × Int) := if is && wayB n a b then [(a, b)] else []
theorem wf_same {M : List (Int × Int)} {a b : Int} {i : Nat} (hi : i < M.length) (h : M[i] = (a, b)) : wf a b (M.take (i + 1)) = wf a b (M.take i) := by
  unfold wf; rw [List.take_succ_eq_append_getElem hi, List.filter_append]; simp [h]
theorem wf_more {M : List (Int × Int)} {a b : Int} {i : Nat} (hi : i < M.length) (h : M[i] ≠ (a, b)) : wf a b (M.take (i + 1)) = wf a b (M.take i) ++ [M[i]] := by
  unfold wf; rw [List.take_succ_eq_append_getElem hi, List.filter_append]; simp [h]
theorem wf_len (M : List (Int × Int)) (a b : Int) (i : Nat) : (wf a b (M.take i)).length ≤ i := by
  refine Nat.le_trans (List.length_filter_le _ _) ?_
  rw [List.length_take]; omega
theorem wayB_nat {n : Nat} {a b : Int} (h : wayB n a b = true) : ∃ i j : Nat, a = i ∧ b = j ∧ i < n ∧ j < n ∧ i ≠ j := by
  have h1 := of_decide_eq_true h
  exact ⟨a.toNat, b.toNat, by omega, by omega, by omega, by omega, by omega⟩
theorem setCut_mem {x : N} {M : List (Int × Int)} (h : ∀ a b, decide ((a, b) ∈ M) = Nt.isCut x a b) (a b : Int) (is : Bool) : ∀ c d, decide ((c, d) ∈ wf a b M ++ wg x.n a b is) = Nt.isCut (Nt.setCut x a b is) c d := by
  intro c d
  have hcd := h c d
  by_cases hw : wayB x.n a b = true
  · have e1 : Nt.isCut (Nt.setCut x a b is) c d = (wayB x.n c d && if c.toNat = a.toNat ∧ d.toNat = b.toNat then is else x.cut c.toNat d.toNat) := by
      unfold Nt.setCut; rw [if_pos hw]; rfl
    rw [e1]
    by_cases he : c = a ∧ d = b
    · obtain ⟨rfl, rfl⟩ := he
      rw [hw, if_pos ⟨rfl, rfl⟩]
      unfold wf wg
      rw [hw]
      cases is <;> simp
    · have hne : (c, d) ≠ (a, b) := fun e => he ⟨(Prod.mk.inj e).1, (Prod.mk.inj e).2⟩
      have hm : ((c, d) ∈ wf a b M ++ wg x.n a b is) ↔ (c, d) ∈ M := by
        unfold wf wg
        simp only [List.mem_append, List.mem_filter, decide_eq_true_eq]
        constructor
        · rintro (h1 | h1)
          · exact h1.1
          · split at h1
            · simp only [List.mem_singleton] at h1; exact absurd h1 hne
            · simp at h1
        · intro h1; exact .inl ⟨h1, hne⟩
      rw [decide_eq_decide.2 hm, hcd]
      unfold Nt.isCut
      cases hw2 : wayB x.n c d
      · rfl
      · have ⟨i, j, ha, hb, _⟩ := wayB_nat hw
        have ⟨i', j', hc, hd, _⟩ := wayB_nat hw2
        rw [if_neg (fun e => he (by omega))]
  · have hw' : wayB x.n a b = false := by simpa using hw
    have e1 : Nt.setCut x a b is = x := by unfold Nt.setCut; rw [if_neg hw]
    rw [e1, ← hcd]
    have hab : (a, b) ∉ M := fun hm => by
      have := h a b
      rw [decide_eq_true hm] at this
      unfold Nt.isCut at this
      rw [hw'] at this
      cases this
    have hm : ((c, d) ∈ wf a b M ++ wg x.n a b is) ↔ (c, d) ∈ M := by
      unfold wf wg
      rw [hw']
      simp only [Bool.and_false, Bool.false_eq_true, if_false, List.append_nil, List.mem_filter, decide_eq_true_eq]
      exact ⟨fun h1 => h1.1, fun h1 => ⟨h1, fun e => hab (e ▸ h1)⟩⟩
    exact decide_eq_decide.2 hm
theorem info_rway : (Try.prog.info? 59).map (fun i => (i.zero, i.size, i.bytes)) = some (some (.agg #[.int .i64 0, .int .i64 0]), 2, 16) := by kernel_rfl
set_option maxRecDepth 100000 in
set_option maxHeartbeats 1000000 in
theorem refSetCut_row (n : Nat) (la ca : Option Addr) (ln lc cc : Nat) (M : List (Int × Int)) (a b : Int) (is : Bool) (w : World) (hM : CRow w (.slice ca M.length cc) M.length (wcells M)) (hl : M.length ≤ 1000000) :
    Calls Try.prog 21 #[.agg #[.int .i64 (n : Nat), .slice la ln lc, .slice ca M.length cc], .int .i64 a, .int .i64 b, .bool is] w fun e w' =>
      ∃ v', e = .returned (.agg #[.int .i64 (n : Nat), .slice la ln lc, v']) ∧ CRow w' v' (wf a b M ++ wg n a b is).length (wcells (wf a b M ++ wg n a b is)) ∧ Gr w w' ∧ Fresh w w' v' := by
  obtain ⟨i0, hi, hz0, hz1, hz2⟩ := info_parts info_rway
  have HNW : Hid (is = false → wf a b M ++ wg n a b is = wf a b M) := Lib.hid fun e => by unfold wg; rw [e]; simp
  have HNI : Hid (wayB n a b = false → wf a b M ++ wg n a b is = wf a b M) := Lib.hid fun e => by unfold wg; rw [e]; simp
  have HYW : Hid (is = true → wayB n a b = true → wf a b M ++ wg n a b is = wf a b M ++ [(a, b)]) := Lib.hid fun e e2 => by unfold wg; rw [e, e2]; rfl
  generalize wf a b M ++ wg n a b is = TT at *
  have HM := Lib.hid hM
  clear hM
  obtain ⟨W2, hW2⟩ : ∃ W2, (w.alloc (.cells #[.int .i64 (n : Nat), .slice la ln lc, .slice ca M.length cc] 29)).alloc (.cells #[.int .i64 0, .slice none 0 0, .slice none 0 0] 29) = W2 := ⟨_, rfl⟩
  have HW2 := Lib.hid hW2
  have HG2 := Lib.hid (show Gr w W2 by rw [← hW2]; exact ((Gr.refl w).alloc _).alloc _)
  have HZ2 := Lib.hid (show W2.heap.size = w.heap.size + 2 by rw [← hW2]; simp)
  have HB0 := Lib.hid (show Blk W2 w.heap.size #[.int .i64 (n : Nat), .slice la ln lc, .slice ca M.length cc] 29 by rw [← hW2]; exact (Blk.new w _ _).gr ((Gr.refl _).alloc _))
  have HB1 := Lib.hid (show Blk W2 (w.heap.size + 1) #[.int .i64 0, .slice none 0 0, .slice none 0 0] 29 by
    rw [← hW2]
    have := Blk.new (w.alloc (.cells #[.int .i64 (n : Nat), .slice la ln lc, .slice ca M.length cc] 29)) #[.int .i64 0, .slice none 0 0, .slice none 0 0] 29
    rwa [show (w.alloc (.cells #[.int .i64 (n : Nat), .slice la ln lc, .slice ca M.length cc] 29)).heap.size = w.heap.size + 1 by simp] at this)
  clear hW2
  go_enter Try.func21, Try.ntmps21
  go_wp2
  go_loopw [9, 16] (fun v i wr => ∃ k' : Nat, k' ≤ M.length ∧ i = .int .i64 (k' : Nat) ∧ Hid (Gr W2 wr) ∧ Hid (wr.ownsRow W2.heap.size 59 2 v (wf a b (M.take k')).length (wcells (wf a b (M.take k'))))) (fun _ i _ => M.length - (intOf i).toNat)
  case atStart =>
    refine ⟨0, by omega, rfl, Lib.hid (by rw [← HW2.out]; exact (Gr.refl _).alloc _), Lib.hid ?_⟩
    have := World.ownsRow_made (base := W2.heap.size) (e := 59) (size := 2) W2 #[] 0 (Nat.le_refl _) (by unfold maxLen; omega) rfl
    rw [← HW2.out] at this ⊢
    simpa [wcells, wf] using this
  case round =>
    obtain ⟨j, hj, rfl, HG, HO⟩ := hrel
    by_cases hlt : j < M.length
    · have hk2 : (j : Int) < (M.length : Int) := by omega
      obtain ⟨la', lc', he, h1⟩ := HM.out
      simp only [Value.slice.injEq] at he
      obtain ⟨rfl, _, rfl⟩ := he
      rcases h1 with h1 | ⟨g, rfl, hc⟩
      · omega
      have e0 := (HG2.out.trans HG.out).cell (hc _ _ (wcells_at M j hlt).1)
      have e1 := (HG2.out.trans HG.out).cell (hc _ _ (wcells_at M j hlt).2)
      clear hc
      have HS : Hid ((M[j].1, M[j].2) = (a, b) → wf a b (M.take (j + 1)) = wf a b (M.take j)) := Lib.hid fun h => wf_same hlt h
      have HN : Hid ((M[j].1, M[j].2) ≠ (a, b) → wf a b (M.take (j + 1)) = wf a b (M.take j) ++ [(M[j].1, M[j].2)]) := Lib.hid fun h => wf_more hlt h
      generalize M[j].1 = m1 at *
      generalize M[j].2 = m2 at *
      by_cases hjk : m1 = a ∧ m2 = b
      · have HO2 := Lib.hid (show (wr.alloc (.cells #[.int .i64 m1, .int .i64 m2] 59)).ownsRow W2.heap.size 59 2 u9 (wf a b (M.take (j + 1))).length (wcells (wf a b (M.take (j + 1)))) by rw [HS.out (by rw [hjk.1, hjk.2])]; exact HO.out.alloc _)
        have HG3 := Lib.hid (HG.out.alloc (.cells #[.int .i64 m1, .int .i64 m2] 59))
        obtain ⟨rfl, rfl⟩ := hjk
        go_wp2
        go_roundw
        case rel => exact ⟨j + 1, by omega, by go_num, HG3, HO2⟩
        case measure => simp [intOf]; omega
      · have HM2 := Lib.hid (HN.out (fun e => hjk (by simpa using e)))
        obtain ⟨sa, sc, rfl, hsc⟩ := ownsRow_slice HO.out
        clear hsc
        have hwl : (wf a b (M.take j)).length ≤ 1000000 := Nat.le_trans (wf_len M a b j) (by omega)
        have HPS := Lib.hid (show wcells (wf a b (M.take (j + 1))) = wcells (wf a b (M.take j)) ++ [.int .i64 m1, .int .i64 m2] by rw [HM2.out, wcells_snoc])
        have HPL := Lib.hid (show (wf a b (M.take (j + 1))).length = (wf a b (M.take j)).length + 1 by rw [HM2.out]; simp)
        generalize hLL : wf a b (M.take (j + 1)) = LL at *
        have HLL := Lib.hid hLL
        clear hLL
        generalize wf a b (M.take j) = L0 at *
        have hrow := (HO.out.alloc (.cells #[.int .i64 m1, .int .i64 m2] 59)).alloc (.cells #[.int .i64 m1, .int .i64 m2] 59)
        have HG3 := Lib.hid ((HG.out.alloc (.cells #[.int .i64 m1, .int .i64 m2] 59)).alloc (.cells #[.int .i64 m1, .int .i64 m2] 59))
        have HZ3 := Lib.hid HG.out.size
        by_cases hm1 : m1 = a
        · have hm2 : ¬ m2 = b := fun e => hjk ⟨hm1, e⟩
          subst hm1
          clear hjk
          go_wp2_with (at_builtin; go_loud (refine wpList_append_lies _ rfl (.tmp 30) (.tmp 32) 27 rfl W2.heap.size 59 i0 (.agg #[.int .i64 0, .int .i64 0]) 2 16 Try.underlying27 hi hz0 hz1 hz2 rfl (by decide) _ _ _ rfl hrow ⟨wr.heap.size + 1, 0, none⟩ 1 1 [.int .i64 m1, .int .i64 m2] rfl (by simp) ?c1 ?c2 Nat.one_pos ?c3 ?c4 ?c5 _ rfl ?_))
          case c1 => 
            have := World.news_of_block (cs := #[.int .i64 m1, .int .i64 m2]) (t := 59) (fr := (0, 0)) (heap_alloc_new (wr.alloc (.cells #[.int .i64 m1, .int .i64 m2] 59)) (.cells #[.int .i64 m1, .int .i64 m2] 59))
            rwa [show (wr.alloc (.cells #[.int .i64 m1, .int .i64 m2] 59)).heap.size = wr.heap.size + 1 by simp] at this
          case c2 => intro u hu; simp at hu; rcases hu with rfl | rfl <;> rfl
          case c3 => unfold maxLen; omega
          case c4 => omega
          case c5 => have := HZ3.out; simp; omega
          intro g7 cap7 w7 hown7 hgrow7 hat7 hlt7
          have HG7 := Lib.hid (HG3.out.append hrow hgrow7)
          have HO7 := Lib.hid (show w7.ownsRow W2.heap.size 59 2 (.slice (some ⟨g7, 0, none⟩) (L0.length + 1) cap7) LL.length (wcells LL) by rw [HPL.out, HPS.out]; exact hown7)
          clear hown7 hgrow7 hat7 hlt7 hrow HG3
          go_wp2
          go_roundw
          case rel => exact ⟨j + 1, by omega, by go_num, HG7, Lib.hid (by rw [HLL.out]; exact HO7.out)⟩
          case measure => simp [intOf]; omega
        · clear hjk
          go_wp2_with (at_builtin; go_loud (refine wpList_append_lies _ rfl (.tmp 30) (.tmp 32) 27 rfl W2.heap.size 59 i0 (.agg #[.int .i64 0, .int .i64 0]) 2 16 Try.underlying27 hi hz0 hz1 hz2 rfl (by decide) _ _ _ rfl hrow ⟨wr.heap.size + 1, 0, none⟩ 1 1 [.int .i64 m1, .int .i64 m2] rfl (by simp) ?c1 ?c2 Nat.one_pos ?c3 ?c4 ?c5 _ rfl ?_))
          case c1 => 
            have := World.news_of_block (cs := #[.int .i64 m1, .int .i64 m2]) (t := 59) (fr := (0, 0)) (heap_alloc_new (wr.alloc (.cells #[.int .i64 m1, .int .i64 m2] 59)) (.cells #[.int .i64 m1, .int .i64 m2] 59))
            rwa [show (wr.alloc (.cells #[.int .i64 m1, .int .i64 m2] 59)).heap.size = wr.heap.size + 1 by simp] at this
          case c2 => intro u hu; simp at hu; rcases hu with rfl | rfl <;> rfl
          case c3 => unfold maxLen; omega
          case c4 => omega
          case c5 => have := HZ3.out; simp; omega
          intro g7 cap7 w7 hown7 hgrow7 hat7 hlt7
          have HG7 := Lib.hid (HG3.out.append hrow hgrow7)
          have HO7 := Lib.hid (show w7.ownsRow W2.heap.size 59 2 (.slice (some ⟨g7, 0, none⟩) (L0.length + 1) cap7) LL.length (wcells LL) by rw [HPL.out, HPS.out]; exact hown7)
          clear hown7 hgrow7 hat7 hlt7 hrow HG3
          go_wp2
          go_roundw
          case rel => exact ⟨j + 1, by omega, by go_num, HG7, Lib.hid (by rw [HLL.out]; exact HO7.out)⟩
          case measure => simp [intOf]; omega
    · obtain rfl : j = M.length := by omega
      have HO2 := Lib.hid (show wr.ownsRow W2.heap.size 59 2 u9 (wf a b M).length (wcells (wf a b M)) by have := HO.out; rwa [List.take_length] at this)
      have hwl : (wf a b M).length ≤ 1000000 := Nat.le_trans (List.length_filter_le _ _) hl
      obtain ⟨sa, sc, rfl, hsc⟩ := ownsRow_slice HO2.out
      clear hsc HO
      generalize wf a b M = WF at *
      have b0 := HB0.out.gr HG.out
      have b1 := HB1.out.gr HG.out
      have p0 := b0.cell (i := 0) rfl
      have p1 := b0.cell (i := 1) rfl
      have p2 := b0.cell (i := 2) rfl
      have q0 := b1.cell (i := 0) rfl
      have q1 := b1.cell (i := 1) rfl
      have q2 := b1.cell (i := 2) rfl
      have f1 := b0.free 2
      have d0 := b1.free 0
      have d1 := b1.free 1
      have d2 := b1.free 2
      clear b0 b1
      cases is
      · have HT := Lib.hid (HNW.out rfl)
        have HR := Lib.hid (CRow.of_owns HO2.out)
        have HFR : Hid (∀ m, (Value.slice sa WF.length sc).ownBlock = some m → w.heap.size ≤ m ∧ m < wr.heap.size) := Lib.hid fun m e => by have := HO2.out.lt m e; have := HZ2.out; omega
        have HQ := Lib.hid (HG2.out.trans HG.out)
        have HB : Hid (∀ m, m < w.heap.size + 2 → (Value.slice sa WF.length sc).ownBlock ≠ some m) := Lib.hid fun m hm e => by have := (HO2.out.lt m e).1; have := HZ2.out; omega
        go_wp2
        refine bodyPost_ret (v := .agg #[.int .i64 (n : Nat), .slice la ln lc, .slice sa WF.length sc]) (by simp [results, Try.results21, go_sem, q0, q1, q2, d0, d1, d2]; try rfl) rfl ?_
        refine ⟨_, rfl, ?_, ?_, fun m e => by have := HFR.out m e; simpa [World.setCell] using this⟩
        · have := (((HR.out.set (HB.out w.heap.size (by omega)) (o := 2) (.slice sa WF.length sc)).set (HB.out (w.heap.size + 1) (by omega)) (o := 0) (.int .i64 (n : Nat))).set (HB.out (w.heap.size + 1) (by omega)) (o := 1) (.slice la ln lc)).set (HB.out (w.heap.size + 1) (by omega)) (o := 2) (.slice sa WF.length sc)
          rw [HT.out]; exact this
        · exact (((HQ.out.setCell (p := ⟨w.heap.size, 2, none⟩) (Nat.le_refl _) _).setCell (p := ⟨w.heap.size + 1, 0, none⟩) (by simp) _).setCell (p := ⟨w.heap.size + 1, 1, none⟩) (by simp) _).setCell (p := ⟨w.heap.size + 1, 2, none⟩) (by simp) _
      · go_wp2_with fail
        refine (refIs_any n la ca ln lc M.length cc a b _).mono ?_
        rintro e w8 ⟨rfl, hg8⟩
        have HG8 := Lib.hid (HG.out.trans hg8)
        have HO8 := Lib.hid (ownsRow_gr hg8 HO2.out)
        have hsz8 := HG8.out.size
        clear p0 p1 p2 q0 q1 q2 f1 d0 d1 d2 hg8
        cases hw : wayB n a b
        · have HT := Lib.hid (HNI.out hw)
          clear hw
          have b0 := HB0.out.gr HG8.out
          have b1 := HB1.out.gr HG8.out
          have p0 := b0.cell (i := 0) rfl
          have p1 := b0.cell (i := 1) rfl
          have p2 := b0.cell (i := 2) rfl
          have q0 := b1.cell (i := 0) rfl
          have q1 := b1.cell (i := 1) rfl
          have q2 := b1.cell (i := 2) rfl
          have f1 := b0.free 2
          have d0 := b1.free 0
          have d1 := b1.free 1
          have d2 := b1.free 2
          clear b0 b1
          have HR := Lib.hid (CRow.of_owns HO8.out)
          have HFR : Hid (∀ m, (Value.slice sa WF.length sc).ownBlock = some m → w.heap.size ≤ m ∧ m < w8.heap.size) := Lib.hid fun m e => by have := HO8.out.lt m e; have := HZ2.out; omega
          have HQ := Lib.hid (HG2.out.trans HG8.out)
          have HB : Hid (∀ m, m < w.heap.size + 2 → (Value.slice sa WF.length sc).ownBlock ≠ some m) := Lib.hid fun m hm e => by have := (HO8.out.lt m e).1; have := HZ2.out; omega
          go_wp2
          refine bodyPost_ret (v := .agg #[.int .i64 (n : Nat), .slice la ln lc, .slice sa WF.length sc]) (by simp [results, Try.results21, go_sem, q0, q1, q2, d0, d1, d2]; try rfl) rfl ?_
          refine ⟨_, rfl, ?_, ?_, fun m e => by have := HFR.out m e; simpa [World.setCell] using this⟩
          · have := (((HR.out.set (HB.out w.heap.size (by omega)) (o := 2) (.slice sa WF.length sc)).set (HB.out (w.heap.size + 1) (by omega)) (o := 0) (.int .i64 (n : Nat))).set (HB.out (w.heap.size + 1) (by omega)) (o := 1) (.slice la ln lc)).set (HB.out (w.heap.size + 1) (by omega)) (o := 2) (.slice sa WF.length sc)
            rw [HT.out]; exact this
          · exact (((HQ.out.setCell (p := ⟨w.heap.size, 2, none⟩) (Nat.le_refl _) _).setCell (p := ⟨w.heap.size + 1, 0, none⟩) (by simp) _).setCell (p := ⟨w.heap.size + 1, 1, none⟩) (by simp) _).setCell (p := ⟨w.heap.size + 1, 2, none⟩) (by simp) _
        · have HT := Lib.hid (HYW.out (by trivial) hw)
          clear hw
          have HPS := Lib.hid (show wcells TT = wcells WF ++ [.int .i64 a, .int .i64 b] by rw [HT.out, wcells_snoc])
          have HPL := Lib.hid (show TT.length = WF.length + 1 by rw [HT.out]; simp)
          have hrow := HO8.out.alloc (.cells #[.int .i64 a, .int .i64 b] 59)
          have HG9 := Lib.hid (HG8.out.alloc (.cells #[.int .i64 a, .int .i64 b] 59))
          go_wp2_with (at_builtin; go_loud (refine wpList_append_lies _ rfl (.tmp 42) (.tmp 46) 27 rfl W2.heap.size 59 i0 (.agg #[.int .i64 0, .int .i64 0]) 2 16 Try.underlying27 hi hz0 hz1 hz2 rfl (by decide) _ _ _ rfl hrow ⟨w8.heap.size, 0, none⟩ 1 1 [.int .i64 a, .int .i64 b] rfl (by simp) ?c1 ?c2 Nat.one_pos ?c3 ?c4 ?c5 _ rfl ?_))
          case c1 => exact World.news_of_block (cs := #[.int .i64 a, .int .i64 b]) (t := 59) (fr := (0, 0)) (heap_alloc_new w8 (.cells #[.int .i64 a, .int .i64 b] 59))
          case c2 => intro u hu; simp at hu; rcases hu with rfl | rfl <;> rfl
          case c3 => unfold maxLen; omega
          case c4 => omega
          case c5 => simp; omega
          intro g7 cap7 w7 hown7 hgrow7 hat7 hlt7
          have HG7 := Lib.hid (HG9.out.append hrow hgrow7)
          have HO7 := Lib.hid (show w7.ownsRow W2.heap.size 59 2 (.slice (some ⟨g7, 0, none⟩) (WF.length + 1) cap7) TT.length (wcells TT) by rw [HPL.out, HPS.out]; exact hown7)
          clear hown7 hgrow7 hat7 hlt7 hrow
          have b0 := HB0.out.gr HG7.out
          have b1 := HB1.out.gr HG7.out
          have p0 := b0.cell (i := 0) rfl
          have p1 := b0.cell (i := 1) rfl
          have p2 := b0.cell (i := 2) rfl
          have q0 := b1.cell (i := 0) rfl
          have q1 := b1.cell (i := 1) rfl
          have q2 := b1.cell (i := 2) rfl
          have f1 := b0.free 2
          have d0 := b1.free 0
          have d1 := b1.free 1
          have d2 := b1.free 2
          clear b0 b1
          have HR := Lib.hid (CRow.of_owns HO7.out)
          have HFR : Hid (∀ m, (Value.slice (some ⟨g7, 0, none⟩) (WF.length + 1) cap7).ownBlock = some m → w.heap.size ≤ m ∧ m < w7.heap.size) := Lib.hid fun m e => by have := HO7.out.lt m e; have := HZ2.out; omega
          have HQ := Lib.hid (HG2.out.trans HG7.out)
          have HB : Hid (∀ m, m < w.heap.size + 2 → (Value.slice (some ⟨g7, 0, none⟩) (WF.length + 1) cap7).ownBlock ≠ some m) := Lib.hid fun m hm e => by have := (HO7.out.lt m e).1; have := HZ2.out; omega
          go_wp2
          refine bodyPost_ret (v := .agg #[.int .i64 (n : Nat), .slice la ln lc, .slice (some ⟨g7, 0, none⟩) (WF.length + 1) cap7]) (by simp [results, Try.results21, go_sem, q0, q1, q2, d0, d1, d2]; try rfl) rfl ?_
          refine ⟨_, rfl, ?_, ?_, fun m e => by have := HFR.out m e; simpa [World.setCell] using this⟩
          · have := (((HR.out.set (HB.out w.heap.size (by omega)) (o := 2) (.slice (some ⟨g7, 0, none⟩) (WF.length + 1) cap7)).set (HB.out (w.heap.size + 1) (by omega)) (o := 0) (.int .i64 (n : Nat))).set (HB.out (w.heap.size + 1) (by omega)) (o := 1) (.slice la ln lc)).set (HB.out (w.heap.size + 1) (by omega)) (o := 2) (.slice (some ⟨g7, 0, none⟩) (WF.length + 1) cap7)
            exact this
          · exact (((HQ.out.setCell (p := ⟨w.heap.size, 2, none⟩) (Nat.le_refl _) _).setCell (p := ⟨w.heap.size + 1, 0, none⟩) (by simp) _).setCell (p := ⟨w.heap.size + 1, 1, none⟩) (by simp) _).setCell (p := ⟨w.heap.size + 1, 2, none⟩) (by simp) _
end Go.Proofs.Ytahohgnkichibab
