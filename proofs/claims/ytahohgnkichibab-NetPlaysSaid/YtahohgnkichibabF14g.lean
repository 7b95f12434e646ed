import Derived.Test.YtahohgnkichibabF14f
import Derived.WalkKit
import Derived.ProofKit
import Derived.LoopTactic
import Derived.Outline
import Derived.WalkSpells
import Derived.WalkLawsBesides
import Derived.Lib.Hide
import Derived.Deep.LoopGhost
import Derived.Deep.QuietTactic
import Derived.BigQuiet
import Derived.ShutString
import Derived.IntWalk
import Derived.Lib.MinMax
import Derived.Deep.AppendLies
import Derived.Deep.RegionWith
import Derived.Deep.RegionHeld3
import Derived.Deep.RegionLaw
namespace Go.Proofs.Ytahohgnkichibab
open Go.ChangeShapes Go.WideShapes Go.ChangeAt Go.RowKit
set_option linter.unusedVariables false
set_option linter.unusedSimpArgs false
open Nt
theorem CRow.set {w : World} {v : Value} {n : Nat} {cs : List Value} (h : CRow w v n cs) {b o : Nat} (hb : v.ownBlock ≠ some b) (u : Value) : CRow (w.setCell ⟨b, o, none⟩ u) v n cs :=
  h.far (Far.setCell b o (.slice none 0 0) w u) hb (fun k _ e => by simp [Value.ownBlock] at e)
theorem wo_same {L : List P} {k i : Nat} (hi : i < L.length) (h : i = k) : (L.take (i + 1)).eraseIdx k = (L.take i).eraseIdx k := by
  subst h
  rw [List.take_succ_eq_append_getElem hi, List.eraseIdx_append_of_length_le (by rw [List.length_take]; omega)]
  rw [show i - (L.take i).length = 0 by rw [List.length_take]; omega]
  rw [List.eraseIdx_of_length_le (l := L.take i) (by rw [List.length_take]; omega)]
  simp
theorem wo_more {L : List P} {k i : Nat} (hi : i < L.length) (h : i ≠ k) : (L.take (i + 1)).eraseIdx k = (L.take i).eraseIdx k ++ [L[i]] := by
  rw [List.take_succ_eq_append_getElem hi]
  have hl : (L.take i).length = i := by rw [List.length_take]; omega
  rcases Nat.lt_or_ge k i with h1 | h1
  · rw [List.eraseIdx_append_of_lt_length (by omega)]
  · rw [List.eraseIdx_of_length_le (by simp; omega), List.eraseIdx_of_length_le (by omega)]
theorem wo_len (L : List P) (k i : Nat) : ((L.take i).eraseIdx k).length ≤ i := by
  refine Nat.le_trans (List.length_eraseIdx_le _ _) ?_
  rw [List.length_take]; omega
theorem info_rpacket : (Try.prog.info? 50).map (fun i => (i.zero, i.size, i.bytes)) = some (some (.agg #[.int .i64 0, .int .i64 0, .string ⟨#[]⟩]), 3, 32) := by kernel_rfl
set_option maxRecDepth 100000 in
set_option maxHeartbeats 1000000 in
theorem refWithout_row (n : Int) (la ca : Option Addr) (lc cn cc : Nat) (L : List P) (k : Nat) (w : World) (hL : CRow w (.slice la L.length lc) L.length (pcells L)) (hl : L.length ≤ 4000) (hk : k < L.length) :
    Calls Try.prog 17 #[.agg #[.int .i64 n, .slice la L.length lc, .slice ca cn cc], .int .i64 (k : Nat)] w fun e w' =>
      ∃ v', e = .returned (.agg #[.int .i64 n, v', .slice ca cn cc]) ∧ CRow w' v' (L.eraseIdx k).length (pcells (L.eraseIdx k)) ∧ Gr w w' ∧ Fresh w w' v' := by
  obtain ⟨i0, hi, hz0, hz1, hz2⟩ := info_parts info_rpacket
  have HL := Lib.hid hL
  clear hL
  obtain ⟨W2, hW2⟩ : ∃ W2, (w.alloc (.cells #[.int .i64 n, .slice la L.length lc, .slice ca cn cc] 29)).alloc (.cells #[.int .i64 0, .slice none 0 0, .slice none 0 0] 29) = W2 := ⟨_, rfl⟩
  have HW2 := Lib.hid hW2
  have HG2 := Lib.hid (show Gr w W2 by rw [← hW2]; exact ((Gr.refl w).alloc _).alloc _)
  have HZ2 := Lib.hid (show W2.heap.size = w.heap.size + 2 by rw [← hW2]; simp)
  have HB0 := Lib.hid (show Blk W2 w.heap.size #[.int .i64 n, .slice la L.length lc, .slice ca cn cc] 29 by rw [← hW2]; exact (Blk.new w _ _).gr ((Gr.refl _).alloc _))
  have HB1 := Lib.hid (show Blk W2 (w.heap.size + 1) #[.int .i64 0, .slice none 0 0, .slice none 0 0] 29 by
    rw [← hW2]
    have := Blk.new (w.alloc (.cells #[.int .i64 n, .slice la L.length lc, .slice ca cn cc] 29)) #[.int .i64 0, .slice none 0 0, .slice none 0 0] 29
    rwa [show (w.alloc (.cells #[.int .i64 n, .slice la L.length lc, .slice ca cn cc] 29)).heap.size = w.heap.size + 1 by simp] at this)
  clear hW2
  go_enter Try.func17, Try.ntmps17
  go_wp2
  go_loopw [5, 12] (fun v i wr => ∃ k' : Nat, k' ≤ L.length ∧ i = .int .i64 (k' : Nat) ∧ Hid (Gr W2 wr) ∧ Hid (wr.ownsRow W2.heap.size 50 3 v ((L.take k').eraseIdx k).length (pcells ((L.take k').eraseIdx k)))) (fun _ i _ => L.length - (intOf i).toNat)
  case atStart =>
    refine ⟨0, by omega, rfl, Lib.hid (by rw [← HW2.out]; exact (Gr.refl _).alloc _), Lib.hid ?_⟩
    have := World.ownsRow_made (base := W2.heap.size) (e := 50) (size := 3) W2 #[] 0 (Nat.le_refl _) (by unfold maxLen; omega) rfl
    rw [← HW2.out] at this ⊢
    simpa [pcells] using this
  case round =>
    obtain ⟨j, hj, rfl, HG, HO⟩ := hrel
    by_cases hlt : j < L.length
    · have hk2 : (j : Int) < (L.length : Int) := by omega
      obtain ⟨la', lc', he, h1⟩ := HL.out
      simp only [Value.slice.injEq] at he
      obtain ⟨rfl, _, rfl⟩ := he
      rcases h1 with h1 | ⟨g, rfl, hc⟩
      · omega
      have e0 := (HG2.out.trans HG.out).cell (hc _ _ (pcells_at L j hlt).1)
      have e1 := (HG2.out.trans HG.out).cell (hc _ _ (pcells_at L j hlt).2.1)
      have e2 := (HG2.out.trans HG.out).cell (hc _ _ (pcells_at L j hlt).2.2)
      clear hc
      have HS : Hid (j = k → (L.take (j + 1)).eraseIdx k = (L.take j).eraseIdx k) := Lib.hid fun h => wo_same hlt h
      have HM : Hid (j ≠ k → (L.take (j + 1)).eraseIdx k = (L.take j).eraseIdx k ++ [⟨L[j].a, L[j].b, L[j].s⟩]) := Lib.hid fun h => wo_more hlt h
      generalize L[j].a = pA at *
      generalize L[j].b = pB at *
      generalize L[j].s = s at *
      by_cases hjk : j = k
      · have HO2 := Lib.hid (show (wr.alloc (.cells #[.int .i64 pA, .int .i64 pB, .string s] 50)).ownsRow W2.heap.size 50 3 u5 ((L.take (j + 1)).eraseIdx k).length (pcells ((L.take (j + 1)).eraseIdx k)) by rw [HS.out hjk]; exact HO.out.alloc _)
        have HG3 := Lib.hid (HG.out.alloc (.cells #[.int .i64 pA, .int .i64 pB, .string s] 50))
        subst hjk
        go_wp2
        go_roundw
        case rel => exact ⟨j + 1, by omega, by go_num, HG3, HO2⟩
        case measure => simp [intOf]; omega
      · have HM2 := Lib.hid (HM.out hjk)
        obtain ⟨sa, sc, rfl, hsc⟩ := ownsRow_slice HO.out
        clear hsc
        have hwl : ((L.take j).eraseIdx k).length ≤ 4000 := Nat.le_trans (wo_len L k j) (by omega)
        have HPS := Lib.hid (show pcells ((L.take (j + 1)).eraseIdx k) = pcells ((L.take j).eraseIdx k) ++ [.int .i64 pA, .int .i64 pB, .string s] by rw [HM2.out, pcells_snoc])
        have HPL := Lib.hid (show ((L.take (j + 1)).eraseIdx k).length = ((L.take j).eraseIdx k).length + 1 by rw [HM2.out]; simp)
        generalize hLL : (L.take (j + 1)).eraseIdx k = LL at *
        have HLL := Lib.hid hLL
        clear hLL
        generalize (L.take j).eraseIdx k = L0 at *
        have hjk2 : ¬ ((j : Int) = (k : Int)) := by omega
        have hrow := (HO.out.alloc (.cells #[.int .i64 pA, .int .i64 pB, .string s] 50)).alloc (.cells #[.int .i64 pA, .int .i64 pB, .string s] 50)
        have HG3 := Lib.hid ((HG.out.alloc (.cells #[.int .i64 pA, .int .i64 pB, .string s] 50)).alloc (.cells #[.int .i64 pA, .int .i64 pB, .string s] 50))
        have HZ3 := Lib.hid HG.out.size
        go_wp2_with (at_builtin; go_loud (refine wpList_append_lies _ rfl (.tmp 20) (.tmp 22) 26 rfl W2.heap.size 50 i0 (.agg #[.int .i64 0, .int .i64 0, .string ⟨#[]⟩]) 3 32 Try.underlying26 hi hz0 hz1 hz2 rfl (by decide) _ _ _ rfl hrow ⟨wr.heap.size + 1, 0, none⟩ 1 1 [.int .i64 pA, .int .i64 pB, .string s] rfl (by simp) ?c1 ?c2 Nat.one_pos ?c3 ?c4 ?c5 _ rfl ?_))
        case c1 => 
          have := World.news_of_block (cs := #[.int .i64 pA, .int .i64 pB, .string s]) (t := 50) (fr := (0, 0)) (heap_alloc_new (wr.alloc (.cells #[.int .i64 pA, .int .i64 pB, .string s] 50)) (.cells #[.int .i64 pA, .int .i64 pB, .string s] 50))
          rwa [show (wr.alloc (.cells #[.int .i64 pA, .int .i64 pB, .string s] 50)).heap.size = wr.heap.size + 1 by simp] at this
        case c2 => intro u hu; simp at hu; rcases hu with rfl | rfl | rfl <;> rfl
        case c3 => unfold maxLen; omega
        case c4 => omega
        case c5 => have := HZ3.out; simp; omega
        intro g7 cap7 w7 hown7 hgrow7 hat7 hlt7
        have HG7 := Lib.hid (HG3.out.append hrow hgrow7)
        have HO7 := Lib.hid (show w7.ownsRow W2.heap.size 50 3 (.slice (some ⟨g7, 0, none⟩) (L0.length + 1) cap7) LL.length (pcells LL) by rw [HPL.out, HPS.out]; exact hown7)
        clear hown7 hgrow7 hat7 hlt7 hrow HG3
        go_wp2
        go_roundw
        case rel => exact ⟨j + 1, by omega, by go_num, HG7, Lib.hid (by rw [HLL.out]; exact HO7.out)⟩
        case measure => simp [intOf]; omega
    · obtain rfl : j = L.length := by omega
      have HO2 := Lib.hid (show wr.ownsRow W2.heap.size 50 3 u5 (L.eraseIdx k).length (pcells (L.eraseIdx k)) by have := HO.out; rwa [List.take_length] at this)
      obtain ⟨sa, sc, rfl, hsc⟩ := ownsRow_slice HO2.out
      clear hsc
      have b0 := HB0.out.gr HG.out
      have b1 := HB1.out.gr HG.out
      have p0 := b0.cell (i := 0) rfl
      have p1 := b0.cell (i := 1) rfl
      have p2 := b0.cell (i := 2) rfl
      have q0 := b1.cell (i := 0) rfl
      have q1 := b1.cell (i := 1) rfl
      have q2 := b1.cell (i := 2) rfl
      have f1 := b0.free 1
      have d0 := b1.free 0
      have d1 := b1.free 1
      have d2 := b1.free 2
      have HR := Lib.hid (CRow.of_owns HO2.out)
      have HFR : Hid (∀ m, (Value.slice sa (L.eraseIdx k).length sc).ownBlock = some m → w.heap.size ≤ m ∧ m < wr.heap.size) := Lib.hid fun m e => by have := HO2.out.lt m e; have := HZ2.out; omega
      have HQ := Lib.hid (HG2.out.trans HG.out)
      have hb0 : ∀ m, m < w.heap.size + 2 → (Value.slice sa (L.eraseIdx k).length sc).ownBlock ≠ some m := fun m hm e => by have := (HO2.out.lt m e).1; have := HZ2.out; omega
      have HB := Lib.hid hb0
      clear hb0 b0 b1
      go_wp2
      refine bodyPost_ret (v := .agg #[.int .i64 n, .slice sa (L.eraseIdx k).length sc, .slice ca cn cc]) (by simp [results, Try.results17, go_sem, q0, q1, q2, d0, d1, d2]; try rfl) rfl ?_
      refine ⟨_, rfl, ?_, ?_, fun m e => by have := HFR.out m e; simpa [World.setCell] using this⟩
      · exact (((HR.out.set (HB.out _ (by omega)) _).set (HB.out _ (by omega)) _).set (HB.out _ (by omega)) _).set (HB.out _ (by omega)) _
      · exact (((HQ.out.setCell (p := ⟨w.heap.size, 1, none⟩) (Nat.le_refl _) _).setCell (p := ⟨w.heap.size + 1, 0, none⟩) (by simp) _).setCell (p := ⟨w.heap.size + 1, 1, none⟩) (by simp) _).setCell (p := ⟨w.heap.size + 1, 2, none⟩) (by simp) _
end Go.Proofs.Ytahohgnkichibab
