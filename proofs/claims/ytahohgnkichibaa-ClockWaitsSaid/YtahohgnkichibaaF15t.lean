import Derived.Test.YtahohgnkichibaaF15s
import Derived.WalkKit
import Derived.ProofKit
import Derived.LoopTactic
import Derived.Outline
import Derived.WalkSpells
import Derived.WalkLawsBesides
import Derived.Lib.Hide
import Derived.Deep.LoopGhost
import Derived.Deep.QuietTactic
import Derived.BigQuiet
import Derived.ShutString
import Derived.IntWalk
import Derived.Lib.MinMax
import Derived.BigQuiet
import Derived.Deep.RegionWith
import Derived.Deep.RegionHeld3
import Derived.Laws.OwnMore
namespace Go.Proofs.Ytahohgnkichibaa
open Go.ChangeShapes Go.WideShapes Go.ChangeAt Go.RowKit
open Rates
set_option linter.unusedVariables false
set_option linter.unusedSimpArgs false
def runStep (c : Clk) (g : Go15) : Clk := if g.E then stepC (goC c g.N g.B) else goC c g.N g.B
def runC (n : Nat) (G : List Go15) : Clk := G.foldl runStep (newC (n : Nat))
theorem runC_next (n : Nat) (G : List Go15) (g : Go15) : runC n (G ++ [g]) = runStep (runC n G) g := by unfold runC; rw [List.foldl_append]; rfl
theorem stepC_now (c : Clk) : (stepC c).now = c.now ∧ (stepC c).n = c.n := by
  unfold stepC clearC
  split
  · unfold judgeC; split <;> exact ⟨rfl, rfl⟩
  · exact ⟨rfl, rfl⟩
theorem goC_n (c : Clk) (k d : Int) : (goC c k d).n = c.n := by unfold goC; split <;> rfl
/-- The law's times are the clocks'. -/
structure NowIs (n k : Nat) (c : Clk) (B : List Int) : Prop where
  cn : c.n = n
  mild : Mild B n k
  eq : ∀ i, i < n → B.getD i 0 = c.now i
theorem nowIs_go {n k : Nat} {c : Clk} {B : List Int} (h : NowIs n k c B) (hk : k ≤ 100) (g : Go15) (hg : g.B ≤ 1000) : NowIs n (k + 1) (goC c g.N g.B) (addB n B g) := by
  refine ⟨(goC_n _ _ _).trans h.cn, mild_add h.mild g hg, fun i hi => ?_⟩
  unfold goC addB
  by_cases hin : 0 ≤ g.N ∧ g.N < (n : Int)
  · have hh : hasC c g.N = true := decide_eq_true (by rw [h.cn]; exact hin)
    rw [if_pos hin, if_pos hh]
    have hl : g.N.toNat < B.length := by rw [h.mild.1]; omega
    show _ = upd c.now g.N.toNat (nextC c g.N.toNat g.B) i
    by_cases e : i = g.N.toNat
    · subst e
      rw [upd_same, List.getD_eq_getElem?_getD, List.getElem?_set_self hl]
      show B.getD g.N.toNat 0 + max g.B 0 = nextC c g.N.toNat g.B
      have hm : B.getD g.N.toNat 0 ∈ B := by rw [List.getD_eq_getElem?_getD, List.getElem?_eq_getElem hl]; exact List.getElem_mem hl
      have h1 := h.mild.2 _ hm
      have h2 := h.eq g.N.toNat hi
      unfold nextC
      rw [← h2]
      unfold lim
      omega
    · rw [upd_other _ _ e, List.getD_eq_getElem?_getD, List.getElem?_set_ne (fun h => e h.symm), ← List.getD_eq_getElem?_getD]
      exact h.eq i hi
  · have hh : hasC c g.N = false := decide_eq_false (by rw [h.cn]; exact hin)
    rw [if_neg hin, if_neg (by rw [hh]; decide)]
    exact h.eq i hi
theorem nowIs_step {n k : Nat} {c : Clk} {B : List Int} (h : NowIs n k c B) : NowIs n k (stepC c) B :=
  ⟨(stepC_now c).2.trans h.cn, h.mild, fun i hi => by rw [(stepC_now c).1]; exact h.eq i hi⟩
structure RunIs (w0 w : World) (n k b : Nat) (v : Value) (c : Clk) (B : List Int) : Prop where
  gr : Gr w0 w
  lo : w0.heap.size ≤ b
  is : ClkIs w b c
  row : w.ownsRow w0.heap.size 3 1 v n (ints B)
  ne : v.ownBlock ≠ some b
  now : NowIs n k c B
theorem RunIs.more {w0 w w' : World} {n k b : Nat} {v : Value} {c : Clk} {B : List Int} (h : RunIs w0 w n k b v c B) (hg : Gr w w') : RunIs w0 w' n k b v c B :=
  ⟨h.gr.trans hg, h.lo, h.is.gr hg, ownsRow_gr hg h.row, h.ne, h.now⟩
theorem far_gr {b : Nat} {w0 w w' : World} (h : Far b (.slice none 0 0) w w') (hg : Gr w0 w) (hb : w0.heap.size ≤ b) : Gr w0 w' := h.gr hg hb (fun k e => by simp [Value.ownBlock] at e)
theorem row_far {b : Nat} {w w' : World} {v : Value} {base n : Nat} {xs : List Value} (h : Far b (.slice none 0 0) w w') (ho : w.ownsRow base 3 1 v n xs) (hb : v.ownBlock ≠ some b) : w'.ownsRow base 3 1 v n xs :=
  ownsRow_far h ho hb (fun k _ => by simp [Value.ownBlock])
theorem ClkIs.far {w w' : World} {b g : Nat} {c : Clk} (h : ClkIs w b c) (hf : Far g (.slice none 0 0) w w') (hb : b ≠ g) : ClkIs w' b c := by
  have hc : ∀ o u, w.cell? ⟨b, o, none⟩ = some u → w'.cell? ⟨b, o, none⟩ = some u := fun o u hu => hf.cell hb (by simp [Value.ownBlock]) hu
  exact ⟨hc _ _ h.n, fun i hi => hc _ _ (h.now i hi), fun i hi => hc _ _ (h.by' i hi), hc _ _ h.lo, hc _ _ h.hi, hc _ _ h.jd, fun i => (hf.frozen hb (by simp [Value.ownBlock]) (cell_lt h.n)).trans (h.free i), h.ok⟩
set_option maxRecDepth 100000 in
set_option maxHeartbeats 4000000 in
theorem run15_any {base : Nat} {v : Value} (n : Nat) (hn : n ≤ 12) (G : List Go15) (w : World) (hG : w.ownsRow base 63 3 v G.length (rcells encG G)) (hgl : G.length ≤ 100) (hgb : ∀ g ∈ G, -5 ≤ g.B ∧ g.B ≤ 1000) :
    Calls Try.prog 22 #[.int .i64 (n : Nat), v] w fun e w' => ∃ b, e = .returned (.tuple #[.pointer (some ⟨b, 0, none⟩), .bool true]) ∧ w.heap.size ≤ b ∧ ClkIs w' b (runC n G) ∧ (runC n G).n = n ∧ Gr w w' := by
  have hmk := fun w => make_n n hn w
  have HAT : Hid (∀ i (h : i < G.length), ∃ g cap, v = .slice (some ⟨g, 0, none⟩) G.length cap ∧ w.cell? ⟨g, i * 3, none⟩ = some (.int .i64 G[i].N) ∧ w.cell? ⟨g, i * 3 + 1, none⟩ = some (.int .i64 G[i].B) ∧ w.cell? ⟨g, i * 3 + 2, none⟩ = some (.bool G[i].E)) := Lib.hid fun i h => by
    obtain ⟨g, cap, cur, hv, _, _, _, _, _, _, _, hat, _⟩ := owns_open hG (by omega)
    refine ⟨g, cap, hv, hat _ _ ?_, hat _ _ ?_, hat _ _ ?_⟩
    · have := rcells_at encG_len G i h 0 (by omega); rw [Nat.add_zero] at this; rw [this]; rfl
    · rw [rcells_at encG_len G i h 1 (by omega)]; rfl
    · rw [rcells_at encG_len G i h 2 (by omega)]; rfl
  have HGB := Lib.hid hgb
  obtain ⟨a, cap, rfl, _⟩ := ownsRow_slice hG
  have HN0 : Hid ((newC (n : Nat)).n = n) := Lib.hid (by show (min (max (n : Int) 0) 12).toNat = n; omega)
  clear hG hgb
  go_enter Try.func22, Try.ntmps22
  go_wp2_with fail
  refine (clkNew_any (n : Nat) _).mono ?_
  rintro e w1 ⟨b, rfl, hb, h1, hg1⟩
  have H2 := Lib.hid (RunIs.mk (k := 0) (v := .slice (some ⟨w1.heap.size, 0, none⟩) n n) (hg1.trans ((Gr.refl w1).alloc (.cells (Array.replicate n (.int .i64 0)) 3))) hb (h1.gr ((Gr.refl w1).alloc _)) (zrow w1 w.heap.size n hn hg1.size) (fun e => by have h3 : b < w1.heap.size := cell_lt h1.n; simp [Value.ownBlock] at e; omega) ⟨HN0.out, mild_zero n 0, fun i hi => by simp [newC, List.getD_eq_getElem?_getD, hi]⟩)
  clear h1 hg1
  go_wp2_with (simp only [hmk])
  generalize w1.alloc (.cells (Array.replicate n (.int .i64 0)) 3) = wa at *
  generalize w1.heap.size = g7 at *
  go_loopw [21] (fun i wr => ∃ (k : Nat) (B : List Int), k ≤ G.length ∧ i = .int .i64 (k : Nat) ∧ Hid (RunIs w wr n k b (.slice (some ⟨g7, 0, none⟩) n n) (runC n (G.take k)) B)) (fun i _ => G.length - (intOf i).toNat)
  case atStart => exact ⟨0, _, by omega, rfl, H2⟩
  case round =>
    clear H2
    obtain ⟨k, B, hk, rfl, H⟩ := hrel
    by_cases hlt : k < G.length
    · obtain ⟨g6, cap6, hv, hc0, hc1, hc2⟩ := HAT.out k hlt
      simp only [Value.slice.injEq, true_and] at hv
      obtain ⟨rfl, rfl⟩ := hv
      have c0 := H.out.gr.cell hc0
      have c1 := H.out.gr.cell hc1
      have c2 := H.out.gr.cell hc2
      have hk4 : (k : Int) < (G.length : Int) := by omega
      have hgk := HGB.out _ (List.getElem_mem hlt)
      have HE := Lib.hid (show runC n (G.take (k + 1)) = runStep (runC n (G.take k)) G[k] by rw [List.take_succ_eq_append_getElem hlt, runC_next])
      have HNG := Lib.hid (nowIs_go H.out.now (by omega) G[k] hgk.2)
      generalize hR2 : runC n (G.take (k + 1)) = c9 at *
      have HR2 := Lib.hid hR2
      clear hR2
      generalize runC n (G.take k) = c at *
      generalize G[k] = p at *
      obtain ⟨pN, pB, pE⟩ := p
      simp only at c0 c1 c2 hgk HNG
      clear hc0 hc1 hc2
      have HG0 := Lib.hid ((Gr.refl wr).alloc (.cells #[.int .i64 pN, .int .i64 pB, .bool pE] 63))
      have H0 := Lib.hid (H.out.more HG0.out)
      have HB0 := Lib.hid (Blk.new wr #[.int .i64 pN, .int .i64 pB, .bool pE] 63)
      have HPB := Lib.hid (show wr.heap.size ≠ b by have : b < wr.heap.size := cell_lt H.out.is.n; omega)
      have HP7 := Lib.hid (show wr.heap.size ≠ g7 by have := (H.out.row.lt g7 rfl).2; omega)
      have HB7 := Lib.hid (show b ≠ g7 from fun e => H.out.ne (by rw [e]; rfl))
      have HHC : Hid (hasC c pN = decide (0 ≤ pN ∧ pN < (n : Int))) := Lib.hid (by unfold hasC; rw [H.out.now.cn])
      have hbl := HNG.out.mild.1
      have HBD := Lib.hid H.out.now.mild
      clear H
      by_cases hin : 0 ≤ pN ∧ pN < (n : Int)
      · have hh : hasC c pN = true := by rw [HHC.out]; exact decide_eq_true hin
        obtain ⟨j, rfl⟩ : ∃ j : Nat, pN = (j : Int) := ⟨pN.toNat, by omega⟩
        have hj : j < n := by omega
        have hj2 : (j : Int) < (n : Int) := by omega
        have HAD : Hid (addB n B ⟨(j : Nat), pB, pE⟩ = B.set j (B.getD j 0 + max pB 0)) := Lib.hid (by unfold addB; rw [if_pos ⟨by simp, by simpa using hj2⟩]; rfl)
        have HGO := Lib.hid (fun w h => clkGo_any (b := b) (c := c) (j : Nat) pB w h)
        rw [hh] at HGO
        clear HHC hh
        go_wp2_with fail
        refine (HGO.out _ H0.out.is).mono ?_
        rintro e w3 ⟨rfl, h3, hf3⟩
        have HI3 := Lib.hid h3
        have HG3 := Lib.hid (far_gr hf3 H0.out.gr H0.out.lo)
        have HR3 := Lib.hid (row_far hf3 H0.out.row H0.out.ne)
        have HB3 := Lib.hid (show Blk w3 wr.heap.size _ _ from (hf3.block _ HB0.out.lt HPB.out (by simp [Value.ownBlock])).trans HB0.out)
        have x0 := HB3.out.cell (i := 0) rfl
        have x1 := HB3.out.cell (i := 1) rfl
        obtain ⟨g8, cap8, cur8, hv8, _, hlt8, _, _, _, _, hil, hat8, _, hfz8⟩ := owns_open HR3.out (by omega)
        simp only [Value.slice.injEq, Option.some.injEq, Addr.mk.injEq, and_true, true_and] at hv8
        obtain ⟨rfl, rfl⟩ := hv8
        have hBl : B.length = n := HBD.out.1
        have hget : (ints B)[j]? = some (.int .i64 (B.getD j 0)) := by
          unfold ints
          rw [List.getElem?_map, List.getD_eq_getElem?_getD, List.getElem?_eq_getElem (by omega)]; rfl
        have d0 := hat8 j _ hget
        have d1 := hfz8 j
        have hbd : 0 ≤ B.getD j 0 ∧ B.getD j 0 ≤ 1000 * (k : Int) := HBD.out.2 _ (by rw [List.getD_eq_getElem?_getD, List.getElem?_eq_getElem (by omega)]; exact List.getElem_mem (by omega))
        have HST := HR3.out.stored j (.int .i64 (B.getD j 0 + max pB 0))
        rw [show (ints B).set j (.int .i64 (B.getD j 0 + max pB 0)) = ints (B.set j (B.getD j 0 + max pB 0)) by simp [ints], ← HAD.out] at HST
        have HFS := Lib.hid (Far.setCell g7 j (.slice none 0 0) w3 (.int .i64 (B.getD j 0 + max pB 0)))
        have HLO := Lib.hid (H0.out.row.lt g7 rfl).1
        have H5 := Lib.hid (RunIs.mk (k := k + 1) (w := w3.setCell ⟨g7, j, none⟩ (.int .i64 (B.getD j 0 + max pB 0))) (HG3.out.setCell (p := ⟨g7, j, none⟩) HLO.out _) H0.out.lo (HI3.out.far HFS.out HB7.out) HST.1 H0.out.ne HNG.out)
        have HB5 := Lib.hid (HB3.out.other HP7.out j (.int .i64 (B.getD j 0 + max pB 0)))
        clear h3 hf3 hat8 hfz8 hil hget HST HFS
        generalize hbj : B.getD j 0 = bj at *
        clear hbj
        have hw1 : IntKind.i64.wrap (bj + max pB 0) = bj + max pB 0 := IntWalk.i64_in _ (by omega)
        have hji : (j : Int).toNat = j := by omega
        go_wp2_with fail
        refine late_start (fun i => decide (10 ≤ i)) (fun w9 => w9.cell? ⟨wr.heap.size, 0, none⟩ = some (.int .i64 (j : Nat)) ∧ w9.cell? ⟨wr.heap.size, 1, none⟩ = some (.int .i64 pB) ∧ w9.cell? ⟨g7, j, none⟩ = some (.int .i64 bj)) (by kernel_rfl) ?invr (fun h0 => ?_)
        case invr => ((try dsimp only); (exact ⟨x0, x1, d0⟩))
        refine late_take (i := 0) (oi := { dst := some 44, op := Go.Op.move (Go.Operand.tmp 7), type := 57, pos := "law.go:108", after := #[], guard := none }) (v := ?vr1) rfl (by kernel_rfl) (by kernel_rfl) (by kernel_rfl) (by kernel_rfl) (by kernel_rfl) (fun _ _ _ h => h) (Or.inl ⟨by rfl, ?rr1⟩) (by assumption) ?_
        case rr1 => (intro w hSw; (try dsimp only at hSw); (go_simp <;> with_reducible rfl))
        try simp only [Act.put, List.setIfInBounds_toArray, List.set_cons_zero, List.set_cons_succ]
        refine late_take (i := 1) (oi := { dst := some 45, op := Go.Op.fieldAddr 63 (Go.Operand.tmp 9) 0, type := 0, pos := "law.go:108", after := #[], guard := none }) (v := ?vr2) rfl (by kernel_rfl) (by kernel_rfl) (by kernel_rfl) (by kernel_rfl) (by kernel_rfl) (fun _ _ _ h => h) (Or.inl ⟨by rfl, ?rr2⟩) (by assumption) ?_
        case rr2 => (intro w hSw; (try dsimp only at hSw); (go_simp <;> with_reducible rfl))
        try simp only [Act.put, List.setIfInBounds_toArray, List.set_cons_zero, List.set_cons_succ]
        refine late_take (i := 2) (oi := { dst := some 46, op := Go.Op.load 3 (Go.Operand.tmp 45), type := 3, pos := "law.go:108", after := #[{ on := 1, ground := Go.Ground.data }], guard := none }) (v := ?vr3) rfl (by kernel_rfl) (by kernel_rfl) (by kernel_rfl) (by kernel_rfl) (by kernel_rfl) (fun _ _ _ h => h) (Or.inl ⟨by rfl, ?rr3⟩) (by assumption) ?_
        case rr3 => (intro w hSw; (try dsimp only at hSw); (go_simp <;> with_reducible rfl))
        try simp only [Act.put, List.setIfInBounds_toArray, List.set_cons_zero, List.set_cons_succ]
        refine late_take (i := 3) (oi := { dst := some 47, op := Go.Op.indexAddr 57 (Go.Operand.tmp 44) (Go.Operand.tmp 46), type := 0, pos := "law.go:108", after := #[{ on := 0, ground := Go.Ground.data }, { on := 2, ground := Go.Ground.data }], guard := none }) (v := ?vr4) rfl (by kernel_rfl) (by kernel_rfl) (by kernel_rfl) (by kernel_rfl) (by kernel_rfl) (fun _ _ _ h => h) (Or.inl ⟨by rfl, ?rr4⟩) (by assumption) ?_
        case rr4 => (intro w hSw; (try dsimp only at hSw); (go_simp <;> with_reducible rfl))
        try simp only [Act.put, List.setIfInBounds_toArray, List.set_cons_zero, List.set_cons_succ]
        refine late_take (i := 4) (oi := { dst := some 48, op := Go.Op.load 3 (Go.Operand.tmp 47), type := 3, pos := "law.go:108", after := #[{ on := 3, ground := Go.Ground.data }], guard := none }) (v := ?vr5) rfl (by kernel_rfl) (by kernel_rfl) (by kernel_rfl) (by kernel_rfl) (by kernel_rfl) (fun _ _ _ h => h) (Or.inl ⟨by rfl, ?rr5⟩) (by assumption) ?_
        case rr5 => (intro w hSw; (try dsimp only at hSw); (go_simp <;> with_reducible rfl))
        try simp only [Act.put, List.setIfInBounds_toArray, List.set_cons_zero, List.set_cons_succ]
        refine late_take (i := 5) (oi := { dst := some 49, op := Go.Op.fieldAddr 63 (Go.Operand.tmp 9) 1, type := 0, pos := "law.go:108", after := #[], guard := none }) (v := ?vr6) rfl (by kernel_rfl) (by kernel_rfl) (by kernel_rfl) (by kernel_rfl) (by kernel_rfl) (fun _ _ _ h => h) (Or.inl ⟨by rfl, ?rr6⟩) (by assumption) ?_
        case rr6 => (intro w hSw; (try dsimp only at hSw); (go_simp <;> with_reducible rfl))
        try simp only [Act.put, List.setIfInBounds_toArray, List.set_cons_zero, List.set_cons_succ]
        refine late_take (i := 6) (oi := { dst := some 50, op := Go.Op.load 3 (Go.Operand.tmp 49), type := 3, pos := "law.go:108", after := #[{ on := 5, ground := Go.Ground.data }], guard := none }) (v := ?vr7) rfl (by kernel_rfl) (by kernel_rfl) (by kernel_rfl) (by kernel_rfl) (by kernel_rfl) (fun _ _ _ h => h) (Or.inl ⟨by rfl, ?rr7⟩) (by assumption) ?_
        case rr7 => (intro w hSw; (try dsimp only at hSw); (go_simp <;> with_reducible rfl))
        try simp only [Act.put, List.setIfInBounds_toArray, List.set_cons_zero, List.set_cons_succ]
        refine late_take (i := 7) (oi := { dst := some 51, op := Go.Op.call { callee := Go.Callee.builtin Go.Builtin.max, args := #[Go.Operand.tmp 50, Go.Operand.const (Go.Value.int Go.IntKind.i64 0)], argTypes := #[3, 3] }, type := 3, pos := "law.go:108", after := #[{ on := 6, ground := Go.Ground.data }], guard := none }) (v := ?vr8) rfl (by kernel_rfl) (by kernel_rfl) (by kernel_rfl) (by kernel_rfl) (by kernel_rfl) (fun _ _ _ h => h) (Or.inl ⟨by rfl, ?rr8⟩) (by assumption) ?_
        case rr8 => (intro w hSw; (try dsimp only at hSw); (go_simp <;> with_reducible rfl))
        try simp only [Act.put, List.setIfInBounds_toArray, List.set_cons_zero, List.set_cons_succ]
        refine late_take (i := 8) (oi := { dst := some 52, op := Go.Op.binOp Go.BinOp.add 3 (Go.Operand.tmp 48) (Go.Operand.tmp 51) 3, type := 3, pos := "law.go:108", after := #[{ on := 4, ground := Go.Ground.data }, { on := 7, ground := Go.Ground.data }], guard := none }) (v := ?vr9) rfl (by kernel_rfl) (by kernel_rfl) (by kernel_rfl) (by kernel_rfl) (by kernel_rfl) (fun _ _ _ h => h) (Or.inl ⟨by rfl, ?rr9⟩) (by assumption) ?_
        case rr9 => (intro w hSw; (try dsimp only at hSw); (go_simp <;> with_reducible rfl))
        try simp only [Act.put, List.setIfInBounds_toArray, List.set_cons_zero, List.set_cons_succ]
        refine late_take (i := 9) (oi := { dst := some 53, op := Go.Op.indexAddr 57 (Go.Operand.tmp 44) (Go.Operand.tmp 46), type := 0, pos := "law.go:108", after := #[{ on := 0, ground := Go.Ground.data }, { on := 2, ground := Go.Ground.data }, { on := 0, ground := Go.Ground.phase }, { on := 1, ground := Go.Ground.phase }, { on := 2, ground := Go.Ground.phase }, { on := 3, ground := Go.Ground.phase }, { on := 4, ground := Go.Ground.phase }, { on := 5, ground := Go.Ground.phase }, { on := 6, ground := Go.Ground.phase }, { on := 7, ground := Go.Ground.phase }, { on := 8, ground := Go.Ground.phase }], guard := none }) (v := ?vr10) rfl (by kernel_rfl) (by kernel_rfl) (by kernel_rfl) (by kernel_rfl) (by kernel_rfl) (fun _ _ _ h => h) (Or.inl ⟨by rfl, ?rr10⟩) (by assumption) ?_
        case rr10 => (intro w hSw; (try dsimp only at hSw); (go_simp <;> with_reducible rfl))
        try simp only [Act.put, List.setIfInBounds_toArray, List.set_cons_zero, List.set_cons_succ]
        refine late_go (by kernel_rfl) ?_
        refine any_one (i := 10) (o := { dst := none, op := Go.Op.store 3 (Go.Operand.tmp 53) (Go.Operand.tmp 52), type := 0, pos := "law.go:108", after := #[{ on := 9, ground := Go.Ground.data }, { on := 8, ground := Go.Ground.data }, { on := 0, ground := Go.Ground.phase }, { on := 1, ground := Go.Ground.phase }, { on := 2, ground := Go.Ground.phase }, { on := 3, ground := Go.Ground.phase }, { on := 4, ground := Go.Ground.phase }, { on := 5, ground := Go.Ground.phase }, { on := 6, ground := Go.Ground.phase }, { on := 7, ground := Go.Ground.phase }, { on := 8, ground := Go.Ground.phase }], guard := none }) (by kernel_rfl) rfl (fun K hK => ?_)
        go_simp
        refine hK.out _ _ ?_
        clear hK K
        try simp only [Act.put, List.setIfInBounds_toArray, List.set_cons_zero, List.set_cons_succ]
        refine any_done (by kernel_rfl) ?_
        clear h0 x0 x1 d0 d1 c0 c1 c2
        have HW5 := Lib.hid (H5.out.more (Gr.refl _).drew)
        have HV5 := Lib.hid (HB5.out.gr (Gr.refl _).drew)
        generalize (w3.setCell ⟨g7, j, none⟩ (.int .i64 (bj + max pB 0))).drew = w5 at *
        clear H5 HB5
        have H5 := HW5
        have x2 := HV5.out.cell (i := 2) rfl
        generalize hB2 : addB n B ⟨(j : Nat), pB, pE⟩ = B2 at *
        clear hB2
        cases pE
        · have HS2 := Lib.hid (show c9 = goC c (j : Nat) pB by rw [HE.out]; rfl)
          rw [← HS2.out] at H5
          go_wp2
          go_loopw [60] (fun i wr => ∃ m : Nat, m ≤ n ∧ i = .int .i64 (m : Nat) ∧ w5 = wr) (fun i _ => n - (intOf i).toNat)
          case atStart => exact ⟨0, by omega, rfl, rfl⟩
          case round =>
            obtain ⟨m, hm, rfl, rfl⟩ := hrel
            by_cases hlt2 : m < n
            · have hm2 : (m : Int) < (n : Int) := by omega
              obtain ⟨g9, cap9, cur9, hv9, _, _, _, _, _, _, _, hat9, _, _⟩ := owns_open H5.out.row (by omega)
              simp only [Value.slice.injEq, Option.some.injEq, Addr.mk.injEq, and_true, true_and] at hv9
              obtain ⟨rfl, rfl⟩ := hv9
              have hl9 : B2.length = n := H5.out.now.mild.1
              have hget : (ints B2)[m]? = some (.int .i64 (B2.getD m 0)) := by
                unfold ints
                rw [List.getElem?_map, List.getD_eq_getElem?_getD, List.getElem?_eq_getElem (by omega)]; rfl
              have d9 := hat9 m _ hget
              have HNW := Lib.hid (show nowC c9 (m : Nat) = B2.getD m 0 by
                unfold nowC
                rw [if_pos (by unfold hasC; rw [H5.out.now.cn]; exact decide_eq_true ⟨by omega, by omega⟩), show ((m : Nat) : Int).toNat = m by omega]
                exact (H5.out.now.eq m hlt2).symm)
              clear hat9 hget
              generalize B2.getD m 0 = z at *
              go_wp2_with fail
              refine (clkNow_any (m : Nat) _ H5.out.is).mono ?_
              rintro e w9 ⟨rfl, rfl⟩
              rw [HNW.out]
              go_wp2
              go_roundw
              case rel => exact ⟨m + 1, by omega, by go_num, by first | rfl | trivial⟩
              case measure => simp [intOf]; omega
            · have hm2 : ¬ (m : Int) < (n : Int) := by omega
              go_wp2
              go_roundw
              case rel => exact ⟨k + 1, B2, by omega, by go_num, Lib.hid (by rw [HR2.out]; exact H5.out)⟩
              case measure => simp [intOf]; omega
        · have HS2 := Lib.hid (show c9 = stepC (goC c (j : Nat) pB) by rw [HE.out]; rfl)
          go_wp2_with fail
          refine (clkStep_any _ H5.out.is).mono ?_
          rintro e w6 ⟨rfl, h6, hf6⟩
          rw [← HS2.out] at h6
          have HNS := nowIs_step H5.out.now
          rw [← HS2.out] at HNS
          have H6 := Lib.hid (RunIs.mk (far_gr hf6 H5.out.gr H5.out.lo) H5.out.lo h6 (row_far hf6 H5.out.row H5.out.ne) H5.out.ne HNS)
          clear h6 hf6 HNS x2
          go_wp2
          go_loopw [60] (fun i wr => ∃ m : Nat, m ≤ n ∧ i = .int .i64 (m : Nat) ∧ w6 = wr) (fun i _ => n - (intOf i).toNat)
          case atStart => exact ⟨0, by omega, rfl, rfl⟩
          case round =>
            obtain ⟨m, hm, rfl, rfl⟩ := hrel
            by_cases hlt2 : m < n
            · have hm2 : (m : Int) < (n : Int) := by omega
              obtain ⟨g9, cap9, cur9, hv9, _, _, _, _, _, _, _, hat9, _, _⟩ := owns_open H6.out.row (by omega)
              simp only [Value.slice.injEq, Option.some.injEq, Addr.mk.injEq, and_true, true_and] at hv9
              obtain ⟨rfl, rfl⟩ := hv9
              have hl9 : B2.length = n := H6.out.now.mild.1
              have hget : (ints B2)[m]? = some (.int .i64 (B2.getD m 0)) := by
                unfold ints
                rw [List.getElem?_map, List.getD_eq_getElem?_getD, List.getElem?_eq_getElem (by omega)]; rfl
              have d9 := hat9 m _ hget
              have HNW := Lib.hid (show nowC c9 (m : Nat) = B2.getD m 0 by
                unfold nowC
                rw [if_pos (by unfold hasC; rw [H6.out.now.cn]; exact decide_eq_true ⟨by omega, by omega⟩), show ((m : Nat) : Int).toNat = m by omega]
                exact (H6.out.now.eq m hlt2).symm)
              clear hat9 hget
              generalize B2.getD m 0 = z at *
              go_wp2_with fail
              refine (clkNow_any (m : Nat) _ H6.out.is).mono ?_
              rintro e w9 ⟨rfl, rfl⟩
              rw [HNW.out]
              go_wp2
              go_roundw
              case rel => exact ⟨m + 1, by omega, by go_num, by first | rfl | trivial⟩
              case measure => simp [intOf]; omega
            · have hm2 : ¬ (m : Int) < (n : Int) := by omega
              go_wp2
              go_roundw
              case rel => exact ⟨k + 1, B2, by omega, by go_num, Lib.hid (by rw [HR2.out]; exact H6.out)⟩
              case measure => simp [intOf]; omega
      · have hh : hasC c pN = false := by rw [HHC.out]; exact decide_eq_false hin
        have HAD : Hid (addB n B ⟨pN, pB, pE⟩ = B) := Lib.hid (by unfold addB; rw [if_neg hin])
        have HGO := Lib.hid (fun w h => clkGo_any (b := b) (c := c) pN pB w h)
        rw [hh] at HGO
        clear HHC hh
        by_cases hn0 : 0 ≤ pN
        · have hn1 : ¬ pN < (n : Int) := fun e => hin ⟨hn0, e⟩
          go_wp2_with fail
          refine (HGO.out _ H0.out.is).mono ?_
          rintro e w3 ⟨rfl, h3, hf3⟩
          have HI3 := Lib.hid h3
          have HG3 := Lib.hid (far_gr hf3 H0.out.gr H0.out.lo)
          have HR3 := Lib.hid (row_far hf3 H0.out.row H0.out.ne)
          have HB5 := Lib.hid (show Blk w3 wr.heap.size _ _ from (hf3.block _ HB0.out.lt HPB.out (by simp [Value.ownBlock])).trans HB0.out)
          rw [HAD.out] at HNG
          have H5 := Lib.hid (RunIs.mk (k := k + 1) HG3.out H0.out.lo HI3.out HR3.out H0.out.ne HNG.out)
          rw [← HAD.out] at H5
          clear h3 hf3 c0 c1 c2
          have x2 := HB5.out.cell (i := 2) rfl
          generalize hB2 : addB n B ⟨pN, pB, pE⟩ = B2 at *
          clear hB2
          cases pE
          · have HS2 := Lib.hid (show c9 = goC c pN pB by rw [HE.out]; rfl)
            rw [← HS2.out] at H5
            go_wp2
            go_loopw [60] (fun i wr => ∃ m : Nat, m ≤ n ∧ i = .int .i64 (m : Nat) ∧ w3 = wr) (fun i _ => n - (intOf i).toNat)
            case atStart => exact ⟨0, by omega, rfl, rfl⟩
            case round =>
              obtain ⟨m, hm, rfl, rfl⟩ := hrel
              by_cases hlt2 : m < n
              · have hm2 : (m : Int) < (n : Int) := by omega
                obtain ⟨g9, cap9, cur9, hv9, _, _, _, _, _, _, _, hat9, _, _⟩ := owns_open H5.out.row (by omega)
                simp only [Value.slice.injEq, Option.some.injEq, Addr.mk.injEq, and_true, true_and] at hv9
                obtain ⟨rfl, rfl⟩ := hv9
                have hl9 : B2.length = n := H5.out.now.mild.1
                have hget : (ints B2)[m]? = some (.int .i64 (B2.getD m 0)) := by
                  unfold ints
                  rw [List.getElem?_map, List.getD_eq_getElem?_getD, List.getElem?_eq_getElem (by omega)]; rfl
                have d9 := hat9 m _ hget
                have HNW := Lib.hid (show nowC c9 (m : Nat) = B2.getD m 0 by
                  unfold nowC
                  rw [if_pos (by unfold hasC; rw [H5.out.now.cn]; exact decide_eq_true ⟨by omega, by omega⟩), show ((m : Nat) : Int).toNat = m by omega]
                  exact (H5.out.now.eq m hlt2).symm)
                clear hat9 hget
                generalize B2.getD m 0 = z at *
                go_wp2_with fail
                refine (clkNow_any (m : Nat) _ H5.out.is).mono ?_
                rintro e w9 ⟨rfl, rfl⟩
                rw [HNW.out]
                go_wp2
                go_roundw
                case rel => exact ⟨m + 1, by omega, by go_num, by first | rfl | trivial⟩
                case measure => simp [intOf]; omega
              · have hm2 : ¬ (m : Int) < (n : Int) := by omega
                go_wp2
                go_roundw
                case rel => exact ⟨k + 1, B2, by omega, by go_num, Lib.hid (by rw [HR2.out]; exact H5.out)⟩
                case measure => simp [intOf]; omega
          · have HS2 := Lib.hid (show c9 = stepC (goC c pN pB) by rw [HE.out]; rfl)
            go_wp2_with fail
            refine (clkStep_any _ H5.out.is).mono ?_
            rintro e w6 ⟨rfl, h6, hf6⟩
            rw [← HS2.out] at h6
            have HNS := nowIs_step H5.out.now
            rw [← HS2.out] at HNS
            have H6 := Lib.hid (RunIs.mk (far_gr hf6 H5.out.gr H5.out.lo) H5.out.lo h6 (row_far hf6 H5.out.row H5.out.ne) H5.out.ne HNS)
            clear h6 hf6 HNS x2
            go_wp2
            go_loopw [60] (fun i wr => ∃ m : Nat, m ≤ n ∧ i = .int .i64 (m : Nat) ∧ w6 = wr) (fun i _ => n - (intOf i).toNat)
            case atStart => exact ⟨0, by omega, rfl, rfl⟩
            case round =>
              obtain ⟨m, hm, rfl, rfl⟩ := hrel
              by_cases hlt2 : m < n
              · have hm2 : (m : Int) < (n : Int) := by omega
                obtain ⟨g9, cap9, cur9, hv9, _, _, _, _, _, _, _, hat9, _, _⟩ := owns_open H6.out.row (by omega)
                simp only [Value.slice.injEq, Option.some.injEq, Addr.mk.injEq, and_true, true_and] at hv9
                obtain ⟨rfl, rfl⟩ := hv9
                have hl9 : B2.length = n := H6.out.now.mild.1
                have hget : (ints B2)[m]? = some (.int .i64 (B2.getD m 0)) := by
                  unfold ints
                  rw [List.getElem?_map, List.getD_eq_getElem?_getD, List.getElem?_eq_getElem (by omega)]; rfl
                have d9 := hat9 m _ hget
                have HNW := Lib.hid (show nowC c9 (m : Nat) = B2.getD m 0 by
                  unfold nowC
                  rw [if_pos (by unfold hasC; rw [H6.out.now.cn]; exact decide_eq_true ⟨by omega, by omega⟩), show ((m : Nat) : Int).toNat = m by omega]
                  exact (H6.out.now.eq m hlt2).symm)
                clear hat9 hget
                generalize B2.getD m 0 = z at *
                go_wp2_with fail
                refine (clkNow_any (m : Nat) _ H6.out.is).mono ?_
                rintro e w9 ⟨rfl, rfl⟩
                rw [HNW.out]
                go_wp2
                go_roundw
                case rel => exact ⟨m + 1, by omega, by go_num, by first | rfl | trivial⟩
                case measure => simp [intOf]; omega
              · have hm2 : ¬ (m : Int) < (n : Int) := by omega
                go_wp2
                go_roundw
                case rel => exact ⟨k + 1, B2, by omega, by go_num, Lib.hid (by rw [HR2.out]; exact H6.out)⟩
                case measure => simp [intOf]; omega
        · skip
          go_wp2_with fail
          refine (HGO.out _ H0.out.is).mono ?_
          rintro e w3 ⟨rfl, h3, hf3⟩
          have HI3 := Lib.hid h3
          have HG3 := Lib.hid (far_gr hf3 H0.out.gr H0.out.lo)
          have HR3 := Lib.hid (row_far hf3 H0.out.row H0.out.ne)
          have HB5 := Lib.hid (show Blk w3 wr.heap.size _ _ from (hf3.block _ HB0.out.lt HPB.out (by simp [Value.ownBlock])).trans HB0.out)
          rw [HAD.out] at HNG
          have H5 := Lib.hid (RunIs.mk (k := k + 1) HG3.out H0.out.lo HI3.out HR3.out H0.out.ne HNG.out)
          rw [← HAD.out] at H5
          clear h3 hf3 c0 c1 c2
          have x2 := HB5.out.cell (i := 2) rfl
          generalize hB2 : addB n B ⟨pN, pB, pE⟩ = B2 at *
          clear hB2
          cases pE
          · have HS2 := Lib.hid (show c9 = goC c pN pB by rw [HE.out]; rfl)
            rw [← HS2.out] at H5
            go_wp2
            go_loopw [60] (fun i wr => ∃ m : Nat, m ≤ n ∧ i = .int .i64 (m : Nat) ∧ w3 = wr) (fun i _ => n - (intOf i).toNat)
            case atStart => exact ⟨0, by omega, rfl, rfl⟩
            case round =>
              obtain ⟨m, hm, rfl, rfl⟩ := hrel
              by_cases hlt2 : m < n
              · have hm2 : (m : Int) < (n : Int) := by omega
                obtain ⟨g9, cap9, cur9, hv9, _, _, _, _, _, _, _, hat9, _, _⟩ := owns_open H5.out.row (by omega)
                simp only [Value.slice.injEq, Option.some.injEq, Addr.mk.injEq, and_true, true_and] at hv9
                obtain ⟨rfl, rfl⟩ := hv9
                have hl9 : B2.length = n := H5.out.now.mild.1
                have hget : (ints B2)[m]? = some (.int .i64 (B2.getD m 0)) := by
                  unfold ints
                  rw [List.getElem?_map, List.getD_eq_getElem?_getD, List.getElem?_eq_getElem (by omega)]; rfl
                have d9 := hat9 m _ hget
                have HNW := Lib.hid (show nowC c9 (m : Nat) = B2.getD m 0 by
                  unfold nowC
                  rw [if_pos (by unfold hasC; rw [H5.out.now.cn]; exact decide_eq_true ⟨by omega, by omega⟩), show ((m : Nat) : Int).toNat = m by omega]
                  exact (H5.out.now.eq m hlt2).symm)
                clear hat9 hget
                generalize B2.getD m 0 = z at *
                go_wp2_with fail
                refine (clkNow_any (m : Nat) _ H5.out.is).mono ?_
                rintro e w9 ⟨rfl, rfl⟩
                rw [HNW.out]
                go_wp2
                go_roundw
                case rel => exact ⟨m + 1, by omega, by go_num, by first | rfl | trivial⟩
                case measure => simp [intOf]; omega
              · have hm2 : ¬ (m : Int) < (n : Int) := by omega
                go_wp2
                go_roundw
                case rel => exact ⟨k + 1, B2, by omega, by go_num, Lib.hid (by rw [HR2.out]; exact H5.out)⟩
                case measure => simp [intOf]; omega
          · have HS2 := Lib.hid (show c9 = stepC (goC c pN pB) by rw [HE.out]; rfl)
            go_wp2_with fail
            refine (clkStep_any _ H5.out.is).mono ?_
            rintro e w6 ⟨rfl, h6, hf6⟩
            rw [← HS2.out] at h6
            have HNS := nowIs_step H5.out.now
            rw [← HS2.out] at HNS
            have H6 := Lib.hid (RunIs.mk (far_gr hf6 H5.out.gr H5.out.lo) H5.out.lo h6 (row_far hf6 H5.out.row H5.out.ne) H5.out.ne HNS)
            clear h6 hf6 HNS x2
            go_wp2
            go_loopw [60] (fun i wr => ∃ m : Nat, m ≤ n ∧ i = .int .i64 (m : Nat) ∧ w6 = wr) (fun i _ => n - (intOf i).toNat)
            case atStart => exact ⟨0, by omega, rfl, rfl⟩
            case round =>
              obtain ⟨m, hm, rfl, rfl⟩ := hrel
              by_cases hlt2 : m < n
              · have hm2 : (m : Int) < (n : Int) := by omega
                obtain ⟨g9, cap9, cur9, hv9, _, _, _, _, _, _, _, hat9, _, _⟩ := owns_open H6.out.row (by omega)
                simp only [Value.slice.injEq, Option.some.injEq, Addr.mk.injEq, and_true, true_and] at hv9
                obtain ⟨rfl, rfl⟩ := hv9
                have hl9 : B2.length = n := H6.out.now.mild.1
                have hget : (ints B2)[m]? = some (.int .i64 (B2.getD m 0)) := by
                  unfold ints
                  rw [List.getElem?_map, List.getD_eq_getElem?_getD, List.getElem?_eq_getElem (by omega)]; rfl
                have d9 := hat9 m _ hget
                have HNW := Lib.hid (show nowC c9 (m : Nat) = B2.getD m 0 by
                  unfold nowC
                  rw [if_pos (by unfold hasC; rw [H6.out.now.cn]; exact decide_eq_true ⟨by omega, by omega⟩), show ((m : Nat) : Int).toNat = m by omega]
                  exact (H6.out.now.eq m hlt2).symm)
                clear hat9 hget
                generalize B2.getD m 0 = z at *
                go_wp2_with fail
                refine (clkNow_any (m : Nat) _ H6.out.is).mono ?_
                rintro e w9 ⟨rfl, rfl⟩
                rw [HNW.out]
                go_wp2
                go_roundw
                case rel => exact ⟨m + 1, by omega, by go_num, by first | rfl | trivial⟩
                case measure => simp [intOf]; omega
              · have hm2 : ¬ (m : Int) < (n : Int) := by omega
                go_wp2
                go_roundw
                case rel => exact ⟨k + 1, B2, by omega, by go_num, Lib.hid (by rw [HR2.out]; exact H6.out)⟩
                case measure => simp [intOf]; omega
    · obtain rfl : k = G.length := by omega
      rw [List.take_length] at H
      have HN1 : Hid (nowC (runC n G) (-1) = 0) := Lib.hid (by unfold nowC; rw [if_neg (by unfold hasC; simp)])
      have HN2 : Hid (nowC (runC n G) (n : Nat) = 0) := Lib.hid (by unfold nowC; rw [if_neg (by unfold hasC; rw [H.out.now.cn]; simp)])
      have HHF : Hid (hasC (runC n G) (n : Nat) = false) := Lib.hid (by unfold hasC; rw [H.out.now.cn]; simp)
      go_wp2_with fail
      refine (clkNow_any (-1) _ H.out.is).mono ?_
      rintro e w3 ⟨rfl, rfl⟩
      rw [HN1.out]
      go_wp2_with fail
      refine (clkNow_any (n : Nat) _ H.out.is).mono ?_
      rintro e w3 ⟨rfl, rfl⟩
      rw [HN2.out]
      go_wp2_with fail
      refine (clkGo_any (n : Nat) 1 _ H.out.is).mono ?_
      rintro e w3 ⟨rfl, h3, hf3⟩
      rw [HHF.out]
      have HGE : Hid (goC (runC n G) (n : Nat) 1 = runC n G) := Lib.hid (by unfold goC; rw [if_neg (by rw [HHF.out]; decide)])
      rw [HGE.out] at h3
      have HI3 := Lib.hid h3
      have HG3 := Lib.hid (far_gr hf3 H.out.gr H.out.lo)
      have HCN := Lib.hid H.out.now.cn
      clear h3 hf3
      go_wp2
      refine bodyPost_ret (v := .tuple #[.pointer (some ⟨b, 0, none⟩), .bool true]) (by simp [results, Try.results22, go_sem]; try rfl) rfl ?_
      exact ⟨b, rfl, hb, HI3.out, HCN.out, HG3.out⟩
end Go.Proofs.Ytahohgnkichibaa
