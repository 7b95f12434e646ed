import Derived.Test.YtahohgnkichibabF14
import Derived.WalkKit
import Derived.ProofKit
import Derived.LoopTactic
import Derived.Outline
import Derived.WalkSpells
import Derived.WalkLawsBesides
import Derived.Lib.Hide
import Derived.Deep.LoopGhost
import Derived.Deep.QuietTactic
import Derived.BigQuiet
import Derived.ShutString
import Derived.IntWalk
import Derived.Lib.MinMax
import Derived.Deep.AppendLies
import Derived.Deep.RegionWith
import Derived.Deep.RegionHeld3
import Derived.Deep.RegionLaw
namespace Go.Proofs.Ytahohgnkichibab
open Go.ChangeShapes Go.WideShapes Go.ChangeAt Go.RowKit
set_option linter.unusedVariables false
set_option linter.unusedSimpArgs false
open Nt
/-- A net has become another one. -/
def NtTo (b : Nat) (v : Value) (w : World) (x' : N) (w' : World) : Prop := ∃ v', NtIs w' b v' x' ∧ Far b v w w' ∧ From v w v'
theorem NtTo.same {b : Nat} {v : Value} {w w' : World} {x : N} (h : NtIs w b v x) (hg : Gr w w') : NtTo b v w x w' := ⟨v, h.gr hg, Far.of_gr hg, From.refl _ _⟩
theorem NtTo.onto {b : Nat} {v : Value} {w0 w w' : World} {x' : N} (hg : Gr w0 w) (h : NtTo b v w x' w') : NtTo b v w0 x' w' := by
  obtain ⟨v', h1, h2, h3⟩ := h
  refine ⟨v', h1, (Far.of_gr hg).trans (From.refl _ _) h2, fun k e => ?_⟩
  rcases h3 k e with h4 | h4
  · exact .inl h4
  · exact .inr (Nat.le_trans hg.size h4)
theorem info_packet : (Try.prog.info? 39).map (fun i => (i.zero, i.size, i.bytes)) = some (some (.agg #[.int .i64 0, .int .i64 0, .string ⟨#[]⟩]), 3, 32) := by kernel_rfl
theorem grow_cell {w w' : World} {row : Option Nat} (hg : w.grownBy w' row) {b o : Nat} {u : Value} (hc : w.cell? ⟨b, o, none⟩ = some u) (hne : row ≠ some b) : w'.cell? ⟨b, o, none⟩ = some u := hg.cell hc (fun e => hne e.symm)
theorem grow_free {w w' : World} {row : Option Nat} (hg : w.grownBy w' row) {b o : Nat} (hlt : b < w.heap.size) (hne : row ≠ some b) : w'.frozen? ⟨b, o, none⟩ = w.frozen? ⟨b, o, none⟩ := hg.frozen_far ⟨b, o, none⟩ hlt (fun e => hne e.symm)
theorem NtIs.off {w : World} {b : Nat} {v : Value} {x : N} (h : NtIs w b v x) : v.ownBlock ≠ some b := fun e => by have := h.away b e; omega
/-- The row's cell is written, the row itself has become another one. -/
theorem NtIs.reset {w w5 : World} {b : Nat} {v v5 : Value} {x : N} {L : List P} (h : NtIs w b v x) (hf : Far b v w w5) (hc : ∀ o u, w.cell? ⟨b, o, none⟩ = some u → w5.cell? ⟨b, o, none⟩ = some u) (hfr : ∀ o, w5.frozen? ⟨b, o, none⟩ = w.frozen? ⟨b, o, none⟩)
    (h5 : w5.ownsRow (b + 1) 39 3 v5 L.length (pcells L)) (hok : (put x L).Ok) (hfrom : From v w v5) : NtTo b v w (put x L) (w5.setCell ⟨b, 1, none⟩ v5) := by
  have o : ∀ i u, i ≠ 1 → w5.cell? ⟨b, i, none⟩ = some u → (w5.setCell ⟨b, 1, none⟩ v5).cell? ⟨b, i, none⟩ = some u := fun i u hi hu => by
    rw [World.cell?_setCell_other _ _ _ _ (by simp [hi])]; exact hu
  refine ⟨v5, ⟨o 0 _ (by decide) (hc _ _ h.nodes), World.cell?_setCell_same' _ _ _ (by rw [hc _ _ h.rowv]; rfl), fun i j hi hj => o _ _ (by omega) (hc _ _ (h.cut i j hi hj)), fun i hi => ?_, ?_, hok⟩, hf.trans (From.refl _ _) (Far.setCell _ _ _ _ _), hfrom⟩
  · rw [World.frozen?_setCell, hfr]; exact h.free i hi
  · exact ownsRow_far (Far.setCell b 1 (.slice none 0 0) w5 v5) h5 (fun e => by have := h5.lt b e; omega) (fun k _ e => by simp [Value.ownBlock] at e)
theorem add_reset {w w4 w5 : World} {b : Nat} {v v5 : Value} {x : N} {L : List P} (h : NtIs w b v x) (hg : Gr w w4) (hgrow : w4.grownBy w5 v.ownBlock)
    (h5 : w5.ownsRow (b + 1) 39 3 v5 L.length (pcells L)) (hok : (put x L).Ok) (hfrom : ∀ {k}, v5.ownBlock = some k → (v.ownBlock = some k ∨ w.heap.size ≤ k)) : NtTo b v w (put x L) (w5.setCell ⟨b, 1, none⟩ v5) :=
  h.reset ((Far.of_gr hg).trans (From.refl _ _) (Far.of_grown hgrow)) (fun o u hu => grow_cell hgrow (hg.cell hu) h.off) (fun o => (grow_free hgrow (cell_lt (hg.cell h.nodes)) h.off).trans (hg.frozen (cell_lt h.nodes))) h5 hok (fun k e => hfrom e)
set_option maxRecDepth 100000 in
set_option maxHeartbeats 1000000 in
theorem add_yes {b : Nat} {v : Value} {x : N} (p : P) (w : World) (h : NtIs w b v x) (hl : x.L.length < 4000) (hs : p.s.size ≤ 1000000) :
    Calls Try.prog 26 #[.pointer (some ⟨b, 0, none⟩), p.val] w fun e w' => e = .returned (.bool true) ∧ NtTo b v w (put x (x.L ++ [p])) w' := by
  have HC := Lib.hid (fun w => pclone_any p w hs)
  have hok : (put x (x.L ++ [p])).Ok := by
    have := add_ok h.ok hs
    unfold add at this
    rwa [if_pos hl] at this
  have HOK := Lib.hid hok
  obtain ⟨i0, hi, hz0, hz1, hz2⟩ := info_parts info_packet
  obtain ⟨a, cap, hv⟩ := h.slice
  have c1 := h.rowv
  have f1 := h.free 1 (by decide)
  have hvb := h.off
  have hbl := cell_lt c1
  have own := h.row
  have H := Lib.hid h
  have HO := Lib.hid own
  have HPS := Lib.hid (pcells_snoc x.L p)
  have HLN := Lib.hid (show (x.L ++ [p]).length = x.L.length + 1 by simp)
  clear h own hok
  generalize hLL : x.L ++ [p] = LL at *
  obtain ⟨pa, pb, s⟩ := p
  clear hLL
  generalize hn : x.L.length = n at *
  have HN := Lib.hid hn
  clear hn
  subst hv
  have HC2 : Hid (∀ w, Calls Try.prog 30 #[.agg #[.int .i64 pa, .int .i64 pb, .string s]] w fun e w' => e = .returned (.agg #[.int .i64 pa, .int .i64 pb, .string s]) ∧ Gr w w') := HC
  clear HC hs
  show Calls Try.prog 26 #[.pointer (some ⟨b, 0, none⟩), .agg #[.int .i64 pa, .int .i64 pb, .string s]] w fun e w' => e = .returned (.bool true) ∧ NtTo b (.slice a n cap) w (put x LL) w'
  go_enter Try.func26, Try.ntmps26
  go_wp2_with fail
  have HB0 := Lib.hid (Blk.new w #[.int .i64 pa, .int .i64 pb, .string s] 39)
  have HG0 := Lib.hid ((Gr.refl w).alloc (.cells #[.int .i64 pa, .int .i64 pb, .string s] 39))
  have p0 := HB0.out.cell (i := 0) rfl
  have p1 := HB0.out.cell (i := 1) rfl
  have p2 := HB0.out.cell (i := 2) rfl
  have d1 := HG0.out.cell c1
  have g1 := (HG0.out.frozen hbl (o := 1)).trans f1
  have HV := Lib.hid c1
  have HF := Lib.hid f1
  clear c1 f1
  generalize w.alloc (.cells #[.int .i64 pa, .int .i64 pb, .string s] 39) = wn at *
  generalize w.heap.size = nb at *
  have hbn : b < wn.heap.size := cell_lt d1
  go_region_law (first
    | (go_simp; go_at_call 30; refine (HC2.out _).mono ?_; rintro e w3 ⟨rfl, hg3⟩; have hg4 : Gr wn w3 := (by first | exact hg3 | exact hg3.of_drew); have d3 := hg4.cell d1; have d4 : (w3.alloc (.cells #[.int .i64 pa, .int .i64 pb, .string s] 39)).cell? ⟨b, 1, none⟩ = some (.slice a n cap) := ((Gr.refl w3).alloc _).cell d3; have g3 := (hg4.frozen hbn (o := 1)).trans g1; have r0 := hg4.cell p0; have r1 := hg4.cell p1; have r2 := hg4.cell p2; have HG4 := Lib.hid (HG0.out.trans hg4); have own3 := ownsRow_gr HG4.out HO.out; clear hg3 hg4)
    | go_loud (refine step_append_lies _ (by rfl) _ _ _ (by rfl) (b + 1) 39 i0 (.agg #[.int .i64 0, .int .i64 0, .string ⟨#[]⟩]) 3 32 Try.underlying44 hi hz0 hz1 hz2 rfl (by omega) (.slice a n cap) n _ (by rfl) (by first | exact own3.alloc _ | exact (own3.alloc _).drew) ⟨w3.heap.size, 0, none⟩ 1 1 [.int .i64 pa, .int .i64 pb, .string s] (by rfl) (by rfl) (World.news_of_block (cs := #[.int .i64 pa, .int .i64 pb, .string s]) (t := 39) (fr := (0, 0)) (heap_alloc_new w3 _)) (by intro u hu; simp at hu; rcases hu with rfl | rfl | rfl <;> rfl) (by omega) (by unfold maxLen; omega) (by omega) (by have := cell_lt d3; simp; omega) (w3.heap.size + 1) (by simp) ?_; intro g5 cap5 w5 hown5 hgrow5 hat5 hlt5; have G5 := Lib.hid (HG4.out.trans ((Gr.refl w3).alloc (.cells #[.int .i64 pa, .int .i64 pb, .string s] 39))); have d5 := grow_cell hgrow5 (G5.out.cell HV.out) hvb; have e5 := (grow_free hgrow5 (cell_lt (G5.out.cell HV.out)) hvb).trans ((G5.out.frozen (cell_lt HV.out) (o := 1)).trans HF.out); have HW5 := Lib.hid (add_reset H.out G5.out hgrow5 (show w5.ownsRow (b + 1) 39 3 (.slice (some ⟨g5, 0, none⟩) (n + 1) cap5) LL.length (pcells LL) by rw [HLN.out, HPS.out]; exact hown5) HOK.out (fun e => by simp only [Value.ownBlock, Option.some.injEq] at e; subst e; exact hat5.imp id (fun e => by have := HG4.out.size; omega))); clear hown5 hgrow5 hat5 hlt5 own3 d3 g3))
  all_goals
    go_wp2
    go_ret
    exact ⟨rfl, HW5.out⟩
set_option maxRecDepth 100000 in
theorem add_any {b : Nat} {v : Value} {x : N} (p : P) (w : World) (h : NtIs w b v x) (hs : p.s.size ≤ 1000000) :
    Calls Try.prog 26 #[.pointer (some ⟨b, 0, none⟩), p.val] w fun e w' => e = .returned (.bool (add x p).2) ∧ NtTo b v w (add x p).1 w' := by
  unfold add
  by_cases hl : x.L.length < 4000
  · rw [if_pos hl]
    exact add_yes p w h hl hs
  · rw [if_neg hl]
    obtain ⟨a, cap, hv⟩ := h.slice
    have c1 := h.rowv
    have H := Lib.hid h
    have hl2 : (4000 : Int) ≤ (x.L.length : Int) := by omega
    obtain ⟨pa, pb, s⟩ := p
    clear h hl
    generalize x.L.length = n at *
    subst hv
    show Calls Try.prog 26 #[.pointer (some ⟨b, 0, none⟩), .agg #[.int .i64 pa, .int .i64 pb, .string s]] w fun e w' => e = .returned (.bool false) ∧ NtTo b (.slice a n cap) w x w'
    have d1 := ((Gr.refl w).alloc (.cells #[.int .i64 pa, .int .i64 pb, .string s] 39)).cell c1
    clear c1
    go_enter Try.func26, Try.ntmps26
    go_wp2
    go_ret
    exact ⟨rfl, NtTo.same H.out ((Gr.refl _).alloc _)⟩
set_option maxRecDepth 100000 in
theorem nsend_any {b : Nat} {v : Value} {x : N} (p : P) (w : World) (h : NtIs w b v x) (hs : p.s.size ≤ 1000000) :
    Calls Try.prog 9 #[.pointer (some ⟨b, 0, none⟩), p.val] w fun e w' => e = .returned (.bool (send x p).2) ∧ NtTo b v w (send x p).1 w' := by
  have HA := Lib.hid (fun w (h : NtIs w b v x) => add_any p w h hs)
  have HW := Lib.hid (fun w (h : NtIs w b v x) => connects_any p.a p.b w h)
  have H := Lib.hid h
  have HE := Lib.hid (show send x p = if wayB x.n p.a p.b then add x p else (x, false) from rfl)
  clear h hs
  generalize send x p = q at *
  generalize add x p = y at *
  obtain ⟨pa, pb, s⟩ := p
  simp only [P.val] at HA HW HE ⊢
  generalize wayB x.n pa pb = wb at *
  cases wb
  · rw [if_neg (by decide)] at HE
    obtain rfl := HE.out
    go_enter Try.func9, Try.ntmps9
    go_wp2_with fail
    refine (HW.out _ (H.out.gr ((Gr.refl w).alloc _))).mono ?_
    rintro e w2 ⟨rfl, rfl⟩
    go_wp2
    go_ret
    exact ⟨rfl, NtTo.same H.out ((Gr.refl _).alloc _)⟩
  · rw [if_pos rfl] at HE
    obtain rfl := HE.out
    go_enter Try.func9, Try.ntmps9
    go_wp2_with fail
    refine (HW.out _ (H.out.gr ((Gr.refl w).alloc _))).mono ?_
    rintro e w2 ⟨rfl, rfl⟩
    go_wp2_with fail
    refine (HA.out _ (H.out.gr ((Gr.refl w).alloc _))).mono ?_
    rintro e w3 ⟨rfl, hn⟩
    have HN := Lib.hid (NtTo.onto ((Gr.refl w).alloc _) hn)
    clear hn
    go_wp2
    go_ret
    exact ⟨rfl, HN.out⟩
set_option maxRecDepth 100000 in
theorem look_no {b : Nat} {v : Value} {x : N} (k : Int) (w : World) (h : NtIs w b v x) (hk : Nt.hasB x k = false) :
    Calls Try.prog 23 #[.pointer (some ⟨b, 0, none⟩), .int .i64 k] w fun e w' => e = .returned (.tuple #[pzero.val, .bool false]) ∧ Gr w w' := by
  have HH := Lib.hid (fun w h => nhas_any (b := b) (v := v) (x := x) k w h)
  rw [hk] at HH
  have H := Lib.hid h
  clear h hk
  show Calls Try.prog 23 #[.pointer (some ⟨b, 0, none⟩), .int .i64 k] w fun e w' => e = .returned (.tuple #[.agg #[.int .i64 0, .int .i64 0, .string ⟨#[]⟩], .bool false]) ∧ Gr w w'
  go_enter Try.func23, Try.ntmps23
  go_wp2_with fail
  refine (HH.out _ (H.out.gr ((Gr.refl w).alloc _))).mono ?_
  rintro e w2 ⟨rfl, rfl⟩
  have HB := Lib.hid (Blk.new w #[.int .i64 0, .int .i64 0, .string ⟨#[]⟩] 39)
  have HG := Lib.hid ((Gr.refl w).alloc (.cells #[.int .i64 0, .int .i64 0, .string ⟨#[]⟩] 39))
  have p0 := HB.out.cell (i := 0) rfl
  have p1 := HB.out.cell (i := 1) rfl
  have p2 := HB.out.cell (i := 2) rfl
  have f0 := HB.out.free 0
  have f1 := HB.out.free 1
  have f2 := HB.out.free 2
  go_wp2
  have HZ := Lib.hid (HB.out.store3 (.int .i64 0) (.int .i64 0) (.string ⟨#[]⟩))
  have r0 := HZ.out.cell (i := 0) rfl
  have r1 := HZ.out.cell (i := 1) rfl
  have r2 := HZ.out.cell (i := 2) rfl
  refine bodyPost_ret (v := .tuple #[.agg #[.int .i64 0, .int .i64 0, .string ⟨#[]⟩], .bool false]) (by simp [results, Try.results23, go_sem, r0, r1, r2]; try rfl) rfl ?_
  exact ⟨rfl, HG.out⟩
set_option maxRecDepth 100000 in
theorem look_yes {b : Nat} {v : Value} {x : N} (k : Nat) (w : World) (h : NtIs w b v x) (hk : k < x.L.length) :
    Calls Try.prog 23 #[.pointer (some ⟨b, 0, none⟩), .int .i64 (k : Nat)] w fun e w' => e = .returned (.tuple #[x.L[k].val, .bool true]) ∧ Gr w w' := by
  have HH := Lib.hid (fun w h => nhas_any (b := b) (v := v) (x := x) k w h)
  rw [show Nt.hasB x k = true from decide_eq_true ⟨by omega, by omega⟩] at HH
  obtain ⟨g, cap, hv, hbg, hgl, _, _, hc⟩ := h.form (by omega)
  obtain ⟨k0, k1, k2⟩ := pcells_get x.L k hk w g hc
  have HC := Lib.hid (fun w => pclone_any x.L[k] w (h.ok.s _ (List.getElem_mem hk)))
  have c1 := h.rowv
  have H := Lib.hid h
  clear h hc
  generalize hp : x.L[k] = p at *
  clear hp
  generalize x.L.length = n at *
  obtain ⟨pa, pb, s⟩ := p
  subst hv
  have HC2 : Hid (∀ w, Calls Try.prog 30 #[.agg #[.int .i64 pa, .int .i64 pb, .string s]] w fun e w' => e = .returned (.agg #[.int .i64 pa, .int .i64 pb, .string s]) ∧ Gr w w') := HC
  clear HC
  show Calls Try.prog 23 #[.pointer (some ⟨b, 0, none⟩), .int .i64 (k : Nat)] w fun e w' => e = .returned (.tuple #[.agg #[.int .i64 pa, .int .i64 pb, .string s], .bool true]) ∧ Gr w w'
  have hk1 : (k : Int) < (n : Int) := by omega
  go_enter Try.func23, Try.ntmps23
  go_wp2_with fail
  refine (HH.out _ (H.out.gr ((Gr.refl w).alloc _))).mono ?_
  rintro e w2 ⟨rfl, rfl⟩
  have HB := Lib.hid (Blk.new w #[.int .i64 0, .int .i64 0, .string ⟨#[]⟩] 39)
  have HG := Lib.hid ((Gr.refl w).alloc (.cells #[.int .i64 0, .int .i64 0, .string ⟨#[]⟩] 39))
  have d1 := HG.out.cell c1
  have e0 := HG.out.cell k0
  have e1 := HG.out.cell k1
  have e2 := HG.out.cell k2
  go_wp2_with fail
  refine (HC2.out _).mono ?_
  rintro e w3 ⟨rfl, hg3⟩
  have HB3 := Lib.hid (HB.out.gr hg3)
  have HG3 := Lib.hid (HG.out.trans hg3)
  clear hg3
  have p0 := HB3.out.cell (i := 0) rfl
  have p1 := HB3.out.cell (i := 1) rfl
  have p2 := HB3.out.cell (i := 2) rfl
  have f0 := HB3.out.free 0
  have f1 := HB3.out.free 1
  have f2 := HB3.out.free 2
  clear d1 e0 e1 e2 c1 k0 k1 k2
  go_wp2
  have HZ := Lib.hid (HB3.out.store3 (.int .i64 pa) (.int .i64 pb) (.string s))
  have r0 := HZ.out.cell (i := 0) rfl
  have r1 := HZ.out.cell (i := 1) rfl
  have r2 := HZ.out.cell (i := 2) rfl
  refine bodyPost_ret (v := .tuple #[.agg #[.int .i64 pa, .int .i64 pb, .string s], .bool true]) (by simp [results, Try.results23, go_sem, r0, r1, r2]; try rfl) rfl ?_
  exact ⟨rfl, HG3.out.store3 (Nat.le_refl _) _ _ _⟩
theorem hasB_nat {x : N} {k : Int} (h : Nt.hasB x k = true) : ∃ n : Nat, k = (n : Int) ∧ n < x.L.length := by
  have h1 := of_decide_eq_true h
  exact ⟨k.toNat, by omega, by omega⟩
theorem look_any {b : Nat} {v : Value} {x : N} (k : Int) (w : World) (h : NtIs w b v x) :
    Calls Try.prog 23 #[.pointer (some ⟨b, 0, none⟩), .int .i64 k] w fun e w' => e = .returned (.tuple #[(Nt.look x k).1.val, .bool (Nt.look x k).2]) ∧ Gr w w' := by
  unfold Nt.look
  cases hk : Nt.hasB x k
  · exact look_no k w h hk
  · obtain ⟨n, rfl, hn⟩ := hasB_nat hk
    have e : x.L.getD (n : Int).toNat pzero = x.L[n] := by rw [show (n : Int).toNat = n by omega, List.getD_eq_getElem?_getD, List.getElem?_eq_getElem hn]; rfl
    rw [if_pos rfl, e]
    exact look_yes n w h hn
end Go.Proofs.Ytahohgnkichibab
