import Derived.Test.YtmgpnpmdmelnkaaGreatDoorK1
import Derived.WalkKit
import Derived.ProofKit
import Derived.LoopTactic
import Derived.Outline
import Derived.WalkSpells
import Derived.WalkLawsBesides
import Derived.Lib.Hide
import Derived.Deep.LoopGhost
import Derived.Deep.QuietTactic
import Derived.BigQuiet
import Derived.ShutString
import Derived.IntWalk
import Derived.Lib.MinMax
import Derived.Deep.AppendLies
import Derived.Deep.RegionWith
import Derived.Deep.RegionHeld3
import Derived.Deep.RegionLaw
import Derived.ArgAppend
import Derived.Test.YtmgpnpmdmelnkaaGreatDoorK4
import Derived.Test.YtmgpnpmdmelnkaaGreatDoorC17
import Derived.Deep.Cut
import Derived.Deep.CutRange
import Derived.Deep.CutBlock
namespace Go.Proofs.YtmgpnpmdmelnkaaGreatDoor
open Go.ChangeShapes Go.WideShapes Go.ChangeAt Go.RowKit
set_option linter.unusedVariables false
set_option linter.unusedSimpArgs false
/-- append of a whole row, long or of nothing, to an empty one that is owned. -/
theorem run_append_nought {P : Program} (w : World) (t ty e : TypeId) (i : TypeInfo) (ht : P.underlying t = some (.slice e)) (hi : P.info? e = some i) (b n cap : Nat) (la : Option Addr) (c : Nat) (hn : n ≤ cap) :
    (Builtin.append_ #[t, t] ty #[.slice (some ⟨b, 0, none⟩) n cap, .slice la 0 c]).run P w = .ok (.slice (some ⟨b, 0, none⟩) n cap) w := by
  cases la with
  | none => simp [Builtin.append_, run_underlying ht, sizeOf, typeInfo, hi, Builtin.lenOf, hn, Builtin.firstCells, storeCells]
  | some a => exact run_append_room_cells w t ty e i ht hi b 0 n cap a 0 c [] (by simp) (by intro j u h; simp at h) (by simp) (by omega) (by simp) (by simp)
theorem step_append_row {P : Program} (w : World) {ops : Array Oper} {o : Oper} {a : Act} {K : Act → World → Prop} {Q : Exit → Act → World → Prop} {E : Prop} (hgd : o.guard = none) (s x : Operand) (t : TypeId)
    (ho : o.op = .call { callee := .builtin .append, args := #[s, x], argTypes := #[t, t] })
    (base : Nat) (e : TypeId) (i : TypeInfo) (z : Value) (size bytes : Nat) (ht : P.underlying t = some (.slice e)) (hi : P.info? e = some i) (hz : i.zero = some z)
    (hsize : i.size = size) (hby : i.bytes = bytes) (hzs : z.cells.size = size) (hsz : 0 < size)
    (b : Nat) (hs : a.eval s = .slice (some ⟨b, 0, none⟩) 0 0) (hown : w.ownsRow base e size (.slice (some ⟨b, 0, none⟩) 0 0) 0 [])
    (la : Option Addr) (m c : Nat) (news : List Value) (hx : a.eval x = .slice la m c) (hl : news.length = m * size)
    (hnews : la = none ∧ m = 0 ∨ ∃ g, la = some ⟨g, 0, none⟩ ∧ ∀ j u, news[j]? = some u → w.cell? ⟨g, j, none⟩ = some u) (h1 : ∀ u ∈ news, u.oneCell' = true)
    (h63 : m ≤ maxLen) (hbytes : m * bytes ≤ 140737488355328) (hbase : base ≤ w.heap.size) (H : Nat) (hH : w.heap.size = H)
    (h : ∀ g cap w', w'.ownsRow base e size (.slice (some ⟨g, 0, none⟩) m cap) m news → w.grownBy w' (some b) → (b = g ∨ g = H) → g < w'.heap.size → K (a.put o.dst (.slice (some ⟨g, 0, none⟩) m cap)) w') :
    if Region.wanted o (yielded ops a.tmps) = true then Oper.wp P o a w K Q else E := by
  rcases Nat.eq_zero_or_pos m with h0 | h0
  · subst h0
    have hn : news = [] := List.eq_nil_of_length_eq_zero (by rw [hl]; omega)
    subst hn
    have hK := h b 0 w hown (World.grownBy.refl w _) (.inl rfl) (hown.lt b rfl).2
    have hw : Region.wanted o (yielded ops a.tmps) = true := by simp [Region.wanted, hgd]
    rw [if_pos hw]
    have hrun := run_append_nought (P := P) w t o.type e i ht hi b 0 0 la c (Nat.le_refl _)
    unfold Oper.wp
    simp [execOp, ho, resolve, invoke, builtin, hs, hx, hrun, Result.andThen]
    exact hK
  · rcases hnews with ⟨_, h2⟩ | ⟨g, rfl, hc⟩
    · omega
    · refine step_append_lies w hgd s x t ho base e i z size bytes ht hi hz hsize hby hzs hsz _ 0 [] hs hown ⟨g, 0, none⟩ m c news hx hl (fun j u hj => ?_) h1 h0 (by omega) (by rw [Nat.zero_add]; exact hbytes) hbase H hH ?_
      · have hadd : (⟨g, 0, none⟩ : Addr).add j = ⟨g, j, none⟩ := by unfold Addr.add; split <;> simp_all
        rw [hadd]; exact hc j u hj
      · intro g5 cap5 w5 q1 q2 q3 q4
        simp only [Nat.zero_add, List.nil_append] at q1 ⊢
        exact h g5 cap5 w5 q1 q2 (by rcases q3 with q3 | q3; exact .inl (by simpa [Value.ownBlock] using q3); exact .inr q3) q4
theorem step_append_onto {P : Program} (w : World) {ops : Array Oper} {o : Oper} {a : Act} {K : Act → World → Prop} {Q : Exit → Act → World → Prop} {E : Prop} (hgd : o.guard = none) (s x : Operand) (t : TypeId)
    (ho : o.op = .call { callee := .builtin .append, args := #[s, x], argTypes := #[t, t] })
    (base : Nat) (e : TypeId) (i : TypeInfo) (z : Value) (size bytes : Nat) (ht : P.underlying t = some (.slice e)) (hi : P.info? e = some i) (hz : i.zero = some z)
    (hsize : i.size = size) (hby : i.bytes = bytes) (hzs : z.cells.size = size) (hsz : 0 < size)
    (b n cap : Nat) (xs : List Value) (hs : a.eval s = .slice (some ⟨b, 0, none⟩) n cap) (hown : w.ownsRow base e size (.slice (some ⟨b, 0, none⟩) n cap) n xs)
    (la : Option Addr) (m c : Nat) (news : List Value) (hx : a.eval x = .slice la m c) (hl : news.length = m * size)
    (hnews : la = none ∧ m = 0 ∨ ∃ g, la = some ⟨g, 0, none⟩ ∧ ∀ j u, news[j]? = some u → w.cell? ⟨g, j, none⟩ = some u) (h1 : ∀ u ∈ news, u.oneCell' = true)
    (h63 : n + m ≤ maxLen) (hbytes : (n + m) * bytes ≤ 140737488355328) (hbase : base ≤ w.heap.size) (H : Nat) (hH : w.heap.size = H)
    (h : ∀ g cap w', w'.ownsRow base e size (.slice (some ⟨g, 0, none⟩) (n + m) cap) (n + m) (xs ++ news) → w.grownBy w' (some b) → (b = g ∨ g = H) → g < w'.heap.size → K (a.put o.dst (.slice (some ⟨g, 0, none⟩) (n + m) cap)) w') :
    if Region.wanted o (yielded ops a.tmps) = true then Oper.wp P o a w K Q else E := by
  rcases Nat.eq_zero_or_pos m with h0 | h0
  · subst h0
    have hn : news = [] := List.eq_nil_of_length_eq_zero (by rw [hl]; omega)
    subst hn
    have hcap : n ≤ cap := by
      rcases hown.2 with ⟨hv, _⟩ | ⟨g, cap', cur, hv, _, _, hle, _⟩
      · simp at hv
      · simp only [Value.slice.injEq] at hv
        rw [hv.2.2]; exact hle
    have hK := h b cap w (by rw [List.append_nil]; exact hown) (World.grownBy.refl w _) (.inl rfl) (hown.lt b rfl).2
    have hw : Region.wanted o (yielded ops a.tmps) = true := by simp [Region.wanted, hgd]
    rw [if_pos hw]
    have hrun := run_append_nought (P := P) w t o.type e i ht hi b n cap la c hcap
    unfold Oper.wp
    simp [execOp, ho, resolve, invoke, builtin, hs, hx, hrun, Result.andThen]
    exact hK
  · rcases hnews with ⟨_, h2⟩ | ⟨g, rfl, hc⟩
    · omega
    · refine step_append_lies w hgd s x t ho base e i z size bytes ht hi hz hsize hby hzs hsz _ n xs hs hown ⟨g, 0, none⟩ m c news hx hl (fun j u hj => ?_) h1 h0 h63 hbytes hbase H hH ?_
      · have hadd : (⟨g, 0, none⟩ : Addr).add j = ⟨g, j, none⟩ := by unfold Addr.add; split <;> simp_all
        rw [hadd]; exact hc j u hj
      · intro g5 cap5 w5 q1 q2 q3 q4
        exact h g5 cap5 w5 q1 q2 (by rcases q3 with q3 | q3; exact .inl (by simpa [Value.ownBlock] using q3); exact .inr q3) q4
theorem ownsRow_lower {w : World} {base base' : Nat} {e : TypeId} {size : Nat} {v : Value} {n : Nat} {xs : List Value} (h : w.ownsRow base e size v n xs) (hb : base' ≤ base) : w.ownsRow base' e size v n xs :=
  ⟨h.1, h.2.imp id fun ⟨g, cap, cur, h1, h2, h3⟩ => ⟨g, cap, cur, h1, Nat.le_trans hb h2, h3⟩⟩
end Go.Proofs.YtmgpnpmdmelnkaaGreatDoor
namespace Go.Proofs.YtmgpnpmdmelnkaaGreatDoor
open Go.ChangeShapes Go.WideShapes Go.ChangeAt Go.RowKit
set_option linter.unusedVariables false
set_option linter.unusedSimpArgs false
/-- A lock with a token. -/
def RL.tokd (x : RL) (t : Int) : RL := ⟨x.ses, x.l, x.a, x.c, x.ex, t⟩
theorem RL.tokd_lies {w : World} {x : RL} (h : x.lies w) (t : Int) : (x.tokd t).lies w := h
set_option maxRecDepth 100000 in
set_option maxHeartbeats 4000000 in
theorem refGrant_any {bH : Nat} {vH : Value} {last : Int} {aW : Option Addr} {nW cW : Nat} (H : List RL) (x : RL) (w : World) (hH : RRow22 w bH vH H) (hx : x.lies w) (hl : H.length ≤ 1000) (ht : 0 ≤ last ∧ last < 18446744073709551615) :
    Calls Tryz.prog 49 #[.agg #[vH, .slice aW nW cW, .int .u64 last], .agg #[.int .i64 x.ses, .slice x.a x.l.length x.c, .bool x.ex, .int .u64 x.tok]] w fun e w' => ∃ v', e = .returned (.tuple #[.agg #[v', .slice aW nW cW, .int .u64 (last + 1)], .agg #[.int .i64 x.ses, .slice x.a x.l.length x.c, .bool x.ex, .int .u64 (last + 1)]]) ∧ RRow22 w' w.heap.size v' (H ++ [x.tokd (last + 1)]) ∧ Gr w w' := by
  obtain ⟨i0, hi, hz0, hz1, hz2⟩ : ∃ i0 : TypeInfo, Tryz.prog.info? 71 = some i0 ∧ i0.zero = some (.agg #[.int .i64 0, .slice none 0 0, .bool false, .int .u64 0]) ∧ i0.size = 4 ∧ i0.bytes = 48 := ⟨_, rfl, rfl, rfl, rfl⟩
  obtain ⟨aH, cH, rfl, hsrc0⟩ := ownsRow_slice hH.1
  have hsrc : aH = none ∧ H.length = 0 ∨ ∃ g, aH = some ⟨g, 0, none⟩ ∧ ∀ j u, (rcells encRL H)[j]? = some u → w.cell? ⟨g, j, none⟩ = some u := by
    rcases hsrc0 with q | ⟨g, q1, _, q3⟩
    · exact .inl q
    · exact .inr ⟨g, q1, q3⟩
  have HLIE := Lib.hid (show ∀ w', Gr w w' → ∀ y ∈ H ++ [x.tokd (last + 1)], y.lies w' from fun w' hg y hy => by
    rcases List.mem_append.1 hy with hy | hy
    · exact (hH.2 y hy).gr hg
    · rw [List.mem_singleton.1 hy]; exact (hx.gr hg : Strs w' x.a x.l))
  have HEN := Lib.hid (show rcells encRL (H ++ [x.tokd (last + 1)]) = rcells encRL H ++ [.int .i64 x.ses, .slice x.a x.l.length x.c, .bool x.ex, .int .u64 (last + 1)] by rw [rcells_append]; rfl)
  have HLE := Lib.hid (show (H ++ [x.tokd (last + 1)]).length = H.length + 1 by rw [List.length_append, List.length_singleton])
  have HLN := Lib.hid (rcells_len encRL_len H)
  have HON := Lib.hid (rcells_one encRL_one H)
  have hW0 : (IntKind.u64.wrap (last + 1)) = last + 1 := by rw [IntKind.wrap_u64]; omega
  unfold RRow22
  clear hsrc0 hH hx
  generalize H ++ [x.tokd (last + 1)] = HH at *
  obtain ⟨t1, ht1⟩ : ∃ t1, last + 1 = t1 := ⟨_, rfl⟩
  rw [ht1] at HEN ⊢
  have hW : IntKind.u64.wrap (last + 1) = t1 := hW0.trans ht1
  have HT1 := Lib.hid ht1
  clear hW0 ht1
  generalize rcells encRL H = cs at *
  generalize H.length = ln at *
  obtain ⟨xs, xl, xa, xc, xe, xk⟩ := x
  simp only at *
  generalize xl.length = xn at *
  have HSR := Lib.hid hsrc
  clear hsrc
  have HB0 := Lib.hid ((((Blk.new w #[.slice aH ln cH, .slice aW nW cW, .int .u64 last] 29).gr ((Gr.refl _).alloc (.cells #[.int .i64 xs, .slice xa xn xc, .bool xe, .int .u64 xk] 71))).gr ((Gr.refl _).alloc (.cells #[.slice none 0 0, .slice none 0 0, .int .u64 0] 29))).gr ((Gr.refl _).alloc (.cells #[.int .i64 0, .slice none 0 0, .bool false, .int .u64 0] 71)))
  have HB1 := Lib.hid (((Blk.new (w.alloc (.cells #[.slice aH ln cH, .slice aW nW cW, .int .u64 last] 29)) #[.int .i64 xs, .slice xa xn xc, .bool xe, .int .u64 xk] 71).gr ((Gr.refl _).alloc (.cells #[.slice none 0 0, .slice none 0 0, .int .u64 0] 29))).gr ((Gr.refl _).alloc (.cells #[.int .i64 0, .slice none 0 0, .bool false, .int .u64 0] 71)))
  have HB2 := Lib.hid ((Blk.new ((w.alloc (.cells #[.slice aH ln cH, .slice aW nW cW, .int .u64 last] 29)).alloc (.cells #[.int .i64 xs, .slice xa xn xc, .bool xe, .int .u64 xk] 71)) #[.slice none 0 0, .slice none 0 0, .int .u64 0] 29).gr ((Gr.refl _).alloc (.cells #[.int .i64 0, .slice none 0 0, .bool false, .int .u64 0] 71)))
  have HB3 := Lib.hid (Blk.new (((w.alloc (.cells #[.slice aH ln cH, .slice aW nW cW, .int .u64 last] 29)).alloc (.cells #[.int .i64 xs, .slice xa xn xc, .bool xe, .int .u64 xk] 71)).alloc (.cells #[.slice none 0 0, .slice none 0 0, .int .u64 0] 29)) #[.int .i64 0, .slice none 0 0, .bool false, .int .u64 0] 71)
  have HG0 := Lib.hid (((((Gr.refl w).alloc (.cells #[.slice aH ln cH, .slice aW nW cW, .int .u64 last] 29)).alloc (.cells #[.int .i64 xs, .slice xa xn xc, .bool xe, .int .u64 xk] 71)).alloc (.cells #[.slice none 0 0, .slice none 0 0, .int .u64 0] 29)).alloc (.cells #[.int .i64 0, .slice none 0 0, .bool false, .int .u64 0] 71))
  have z1 : ∀ (w : World) (o : Obj), (w.alloc o).heap.size = w.heap.size + 1 := fun w o => by simp
  simp only [z1] at HB1 HB2 HB3
  clear z1
  go_enter Tryz.func49, Tryz.ntmps49
  go_upto_region 1 with fail
  generalize (((w.alloc (.cells #[.slice aH ln cH, .slice aW nW cW, .int .u64 last] 29)).alloc (.cells #[.int .i64 xs, .slice xa xn xc, .bool xe, .int .u64 xk] 71)).alloc (.cells #[.slice none 0 0, .slice none 0 0, .int .u64 0] 29)).alloc (.cells #[.int .i64 0, .slice none 0 0, .bool false, .int .u64 0] 71) = w1 at *
  have c2 := HB0.out.cell (i := 2) rfl
  have f2 := HB0.out.free 2
  have QB0 : Hid (Blk (w1.setCell ⟨w.heap.size, 2, none⟩ (.int .u64 t1)) w.heap.size #[.slice aH ln cH, .slice aW nW cW, .int .u64 t1] 29) := Lib.hid (HB0.out.set 2 _)
  have QB1 := Lib.hid (HB1.out.other (c := w.heap.size) (by omega) 2 (.int .u64 t1))
  have QB2 := Lib.hid (HB2.out.other (c := w.heap.size) (by omega) 2 (.int .u64 t1))
  have QB3 := Lib.hid (HB3.out.other (c := w.heap.size) (by omega) 2 (.int .u64 t1))
  have HG1 := Lib.hid (HG0.out.setCell (p := ⟨w.heap.size, 2, none⟩) (Nat.le_refl _) (.int .u64 t1))
  go_upto_region 2 with fail
  generalize w1.setCell ⟨w.heap.size, 2, none⟩ (.int .u64 t1) = w2 at *
  clear c2 f2 HB0 HB1 HB2 HB3 HG0
  have c2 := QB0.out.cell (i := 2) rfl
  have f2 := QB1.out.free 3
  have HB0 := Lib.hid (QB0.out.other (c := w.heap.size + 1) (by omega) 3 (.int .u64 t1))
  have HB1 : Hid (Blk (w2.setCell ⟨w.heap.size + 1, 3, none⟩ (.int .u64 t1)) (w.heap.size + 1) #[.int .i64 xs, .slice xa xn xc, .bool xe, .int .u64 t1] 71) := Lib.hid (QB1.out.set 3 _)
  have HB2 := Lib.hid (QB2.out.other (c := w.heap.size + 1) (by omega) 3 (.int .u64 t1))
  have HB3 := Lib.hid (QB3.out.other (c := w.heap.size + 1) (by omega) 3 (.int .u64 t1))
  have HG3 := Lib.hid (HG1.out.setCell (p := ⟨w.heap.size + 1, 3, none⟩) (Nat.le_succ _) (.int .u64 t1))
  have x3 := QB1.out.cell (i := 3) rfl
  go_upto_region 3 with fail
  generalize w2.setCell ⟨w.heap.size + 1, 3, none⟩ (.int .u64 t1) = W3 at *
  clear c2 f2 x3 QB0 QB1 QB2 QB3 HG1
  have HSRC : Hid (aH = none ∧ ln = 0 ∨ ∃ g, aH = some ⟨g, 0, none⟩ ∧ ∀ j u, cs[j]? = some u → W3.cell? ⟨g, j, none⟩ = some u) := Lib.hid (by
    rcases HSR.out with q | ⟨g, q1, q2⟩
    · exact .inl q
    · exact .inr ⟨g, q1, fun j u hj => HG3.out.cell (q2 j u hj)⟩)
  clear HSR
  have HZ3 := Lib.hid (show w.heap.size + 1 + 1 + 1 < W3.heap.size from HB3.out.lt)
  have c0 := HB0.out.cell (i := 0) rfl
  have c1 := c0
  have f0 := HB0.out.free 0
  have p0 := HB1.out.cell (i := 0) rfl
  have p1 := HB1.out.cell (i := 1) rfl
  have p2 := HB1.out.cell (i := 2) rfl
  have p3 := HB1.out.cell (i := 3) rfl
  have HX : Hid (∀ w9 : World, Gr W3 w9 → (fun w9 => Gr W3 w9 ∧ w9.cell? ⟨w.heap.size, 0, none⟩ = some (.slice aH ln cH) ∧ w9.cell? ⟨(w.heap.size + 1), 0, none⟩ = some (.int .i64 xs) ∧ w9.cell? ⟨(w.heap.size + 1), 1, none⟩ = some (.slice xa xn xc) ∧ w9.cell? ⟨(w.heap.size + 1), 2, none⟩ = some (.bool xe) ∧ w9.cell? ⟨(w.heap.size + 1), 3, none⟩ = some (.int .u64 t1)) w9) := Lib.hid fun w9 hg => ⟨hg, hg.cell c1, hg.cell p0, hg.cell p1, hg.cell p2, hg.cell p3⟩
  have Hm1 := Lib.hid (World.ownsRow_made (base := W3.heap.size) (e := 71) (size := 4) W3.drew #[] 0 (Nat.le_refl _) (by unfold maxLen; omega) rfl)
  have Hm2 := Lib.hid (World.ownsRow_made (base := W3.heap.size) (e := 71) (size := 4) (W3.drew.alloc (.cells #[.int .i64 xs, .slice xa xn xc, .bool xe, .int .u64 t1] 71)) #[] 0 (by simp) (by unfold maxLen; omega) rfl)
  have Hb1 := Lib.hid (Blk.new (W3.drew.alloc (.cells #[] 71)) #[.int .i64 xs, .slice xa xn xc, .bool xe, .int .u64 t1] 71)
  have Hb2 := Lib.hid ((Blk.new W3.drew #[.int .i64 xs, .slice xa xn xc, .bool xe, .int .u64 t1] 71).gr ((Gr.refl _).alloc (.cells #[] 71)))
  simp at Hm1 Hm2 Hb1 Hb2
  go_wp2_with fail
  refine late_start (fun i => decide (8 ≤ i)) (fun w9 => Gr W3 w9 ∧ w9.cell? ⟨w.heap.size, 0, none⟩ = some (.slice aH ln cH) ∧ w9.cell? ⟨(w.heap.size + 1), 0, none⟩ = some (.int .i64 xs) ∧ w9.cell? ⟨(w.heap.size + 1), 1, none⟩ = some (.slice xa xn xc) ∧ w9.cell? ⟨(w.heap.size + 1), 2, none⟩ = some (.bool xe) ∧ w9.cell? ⟨(w.heap.size + 1), 3, none⟩ = some (.int .u64 t1)) (by kernel_rfl) ?inva (fun h0 => ?_)
  case inva => ((try dsimp only); (exact HX.out _ (Gr.refl _).drew))
  refine late_take (i := 1) (oi := { dst := some 14, op := Go.Op.fieldAddr 29 (Go.Operand.tmp 2) 0, type := 0, pos := "ref.go:50", after := #[], guard := none }) (v := ?va1) rfl (by kernel_rfl) (by kernel_rfl) (by kernel_rfl) (by kernel_rfl) (by kernel_rfl) (fun _ _ _ h => h) (Or.inl ⟨by rfl, ?ra1⟩) (by assumption) ?_
  case ra1 => (intro w hSw; (try dsimp only at hSw); (go_simp <;> with_reducible rfl))
  try simp only [Act.put, List.setIfInBounds_toArray, List.set_cons_zero, List.set_cons_succ]
  refine late_take (i := 2) (oi := { dst := some 15, op := Go.Op.load 27 (Go.Operand.tmp 14), type := 27, pos := "ref.go:50", after := #[⟨1, .data⟩], guard := none }) (v := ?va2) rfl (by kernel_rfl) (by kernel_rfl) (by kernel_rfl) (by kernel_rfl) (by kernel_rfl) (fun _ _ _ h => h) (Or.inl ⟨by rfl, ?ra2⟩) (by assumption) ?_
  case ra2 => (intro w hSw; (try dsimp only at hSw); (go_simp <;> with_reducible rfl))
  try simp only [Act.put, List.setIfInBounds_toArray, List.set_cons_zero, List.set_cons_succ]
  refine late_take (i := 4) (oi := { dst := some 17, op := Go.Op.load 71 (Go.Operand.tmp 3), type := 71, pos := "ref.go:50", after := #[], guard := none }) (v := ?va3) rfl (by kernel_rfl) (by kernel_rfl) (by kernel_rfl) (by kernel_rfl) (by kernel_rfl) (fun _ _ _ h => h) (Or.inl ⟨by rfl, ?ra3⟩) (by assumption) ?_
  case ra3 => (intro w hSw; (try dsimp only at hSw); (go_simp <;> with_reducible rfl))
  try simp only [Act.put, List.setIfInBounds_toArray, List.set_cons_zero, List.set_cons_succ]
  refine late_ready (rs := [0, 5]) (by kernel_rfl) (by simp) ?_
  refine LateAll.cons (o := { dst := some 13, op := Go.Op.buildSlice 27 0 #[], type := 27, pos := "ref.go:50", after := #[], guard := none }) rfl (fun K hK => ?_) (LateAll.cons (o := { dst := some 18, op := Go.Op.buildSlice 27 1 #[(0, Go.Operand.tmp 17)], type := 27, pos := "ref.go:50", after := #[⟨4, .data⟩], guard := none }) rfl (fun K hK => ?_) LateAll.nil)
  · skip
    go_simp
    skip
    first | refine hK.out _ _ ?sa4 (fun h4 => ?_) | (go_wp2_with fail; refine hK.out _ _ ?sa4 (fun h4 => ?_))
    case sa4 => ((try dsimp only); (first | exact HX.out _ HG7.out | exact HX.out _ HG5.out | exact HX.out _ (h0.1.alloc _) | exact HX.out _ h0.1))
    clear hK K h0
    try simp only [Act.put, List.setIfInBounds_toArray, List.set_cons_zero, List.set_cons_succ]
    refine late_ready (rs := [3, 5]) (by kernel_rfl) (by simp) ?_
    refine LateAll.cons (o := { dst := some 16, op := Go.Op.call { callee := Go.Callee.builtin Go.Builtin.append, args := #[Go.Operand.tmp 13, Go.Operand.tmp 15], argTypes := #[27, 27] }, type := 27, pos := "ref.go:50", after := #[⟨0, .data⟩, ⟨2, .data⟩], guard := none }) rfl (fun K hK => ?_) (LateAll.cons (o := { dst := some 18, op := Go.Op.buildSlice 27 1 #[(0, Go.Operand.tmp 17)], type := 27, pos := "ref.go:50", after := #[⟨4, .data⟩], guard := none }) rfl (fun K hK => ?_) LateAll.nil)
    · skip
      refine step_append_row _ (by rfl) (.tmp 13) (.tmp 15) 27 (by rfl) W3.heap.size 71 i0 (.agg #[.int .i64 0, .slice none 0 0, .bool false, .int .u64 0]) 4 48 Tryz.underlying27 hi hz0 hz1 hz2 rfl (by decide) (W3.heap.size) (by rfl) (Hm1.out) aH ln cH cs (by rfl) HLN.out (by rcases HSRC.out with q | ⟨g9, q1, q2⟩; exact .inl q; exact .inr ⟨g9, q1, fun j u hj => h4.1.cell (q2 j u hj)⟩) HON.out (by unfold maxLen; omega) (by omega) h4.1.size _ rfl ?_
      intro g5 cap5 w5 hown5 hgrow5 hat5 hlt5
      have HG5 := Lib.hid (h4.1.append (Hm1.out) hgrow5)
      
      first | refine hK.out _ _ ?sa5 (fun h5 => ?_) | (go_wp2_with fail; refine hK.out _ _ ?sa5 (fun h5 => ?_))
      case sa5 => ((try dsimp only); (first | exact HX.out _ HG7.out | exact HX.out _ HG5.out | exact HX.out _ (h4.1.alloc _) | exact HX.out _ h4.1))
      clear hK K h4
      try simp only [Act.put, List.setIfInBounds_toArray, List.set_cons_zero, List.set_cons_succ]
      refine late_ready (rs := [5]) (by kernel_rfl) (by simp) ?_
      refine LateAll.cons (o := { dst := some 18, op := Go.Op.buildSlice 27 1 #[(0, Go.Operand.tmp 17)], type := 27, pos := "ref.go:50", after := #[⟨4, .data⟩], guard := none }) rfl (fun K hK => ?_) LateAll.nil
      go_simp
      skip
      first | refine hK.out _ _ ?sa6 (fun h6 => ?_) | (go_wp2_with fail; refine hK.out _ _ ?sa6 (fun h6 => ?_))
      case sa6 => ((try dsimp only); (first | exact HX.out _ HG7.out | exact HX.out _ HG5.out | exact HX.out _ (h5.1.alloc _) | exact HX.out _ h5.1))
      clear hK K h5
      try simp only [Act.put, List.setIfInBounds_toArray, List.set_cons_zero, List.set_cons_succ]
      refine late_ready (rs := [6]) (by kernel_rfl) (by simp) ?_
      refine LateAll.cons (o := { dst := some 19, op := Go.Op.call { callee := Go.Callee.builtin Go.Builtin.append, args := #[Go.Operand.tmp 16, Go.Operand.tmp 18], argTypes := #[27, 27] }, type := 27, pos := "ref.go:50", after := #[⟨3, .data⟩, ⟨5, .data⟩, ⟨3, .chain⟩], guard := none }) rfl (fun K hK => ?_) LateAll.nil
      refine step_append_lies _ (by rfl) (.tmp 16) (.tmp 18) 27 (by rfl) W3.heap.size 71 i0 (.agg #[.int .i64 0, .slice none 0 0, .bool false, .int .u64 0]) 4 48 Tryz.underlying27 hi hz0 hz1 hz2 rfl (by decide) _ ln _ (by rfl) (hown5.alloc _) ⟨_, 0, none⟩ 1 1 [.int .i64 xs, .slice xa xn xc, .bool xe, .int .u64 t1] (by rfl) (by rfl) (World.news_of_block (cs := #[.int .i64 xs, .slice xa xn xc, .bool xe, .int .u64 t1]) (t := 71) (fr := (0, 0)) (heap_alloc_new w5 _)) (by intro u hu; simp at hu; rcases hu with rfl | rfl | rfl | rfl <;> rfl) (by omega) (by unfold maxLen; omega) (by omega) h6.1.size _ rfl ?_
      intro g7 cap7 w7 hown7 hgrow7 hat7 hlt7
      have HG7 := Lib.hid (h6.1.append (hown5.alloc _) hgrow7)
      first | refine hK.out _ _ ?sa7 (fun h7 => ?_) | (go_wp2_with fail; refine hK.out _ _ ?sa7 (fun h7 => ?_))
      case sa7 => ((try dsimp only); (first | exact HX.out _ HG7.out | exact HX.out _ HG5.out | exact HX.out _ (h6.1.alloc _) | exact HX.out _ h6.1))
      clear hK K h6
      try simp only [Act.put, List.setIfInBounds_toArray, List.set_cons_zero, List.set_cons_succ]
      refine late_take (i := 7) (oi := { dst := some 20, op := Go.Op.fieldAddr 29 (Go.Operand.tmp 2) 0, type := 0, pos := "ref.go:50", after := #[⟨0, .phase⟩, ⟨1, .phase⟩, ⟨2, .phase⟩, ⟨3, .phase⟩, ⟨4, .phase⟩, ⟨5, .phase⟩, ⟨6, .phase⟩], guard := none }) (v := ?va8) rfl (by kernel_rfl) (by kernel_rfl) (by kernel_rfl) (by kernel_rfl) (by kernel_rfl) (fun _ _ _ h => h) (Or.inl ⟨by rfl, ?ra8⟩) (by assumption) ?_
      case ra8 => (intro w hSw; (try dsimp only at hSw); (go_simp <;> with_reducible rfl))
      try simp only [Act.put, List.setIfInBounds_toArray, List.set_cons_zero, List.set_cons_succ]
      have HO7 := Lib.hid (show w7.ownsRow W3.heap.size 71 4 (.slice (some ⟨g7, 0, none⟩) (ln + 1) cap7) (ln + 1) (cs ++ [.int .i64 xs, .slice xa xn xc, .bool xe, .int .u64 t1]) from hown7)
      clear hown7 hgrow7 hat7 hlt7
      have m0 := (HG7.out.frozen (cell_lt c0) (o := 0)).trans f0
      have K0 := Lib.hid (HB0.out.gr HG7.out)
      have K1 := Lib.hid (HB1.out.gr HG7.out)
      have K2 := Lib.hid (HB2.out.gr HG7.out)
      have K3 := Lib.hid (HB3.out.gr HG7.out)
      clear c0 c1 f0 p0 p1 p2 p3
      refine late_go (by kernel_rfl) ?_
      refine any_one (i := 8) (o := { dst := none, op := Go.Op.store 27 (Go.Operand.tmp 20) (Go.Operand.tmp 19), type := 0, pos := "ref.go:50", after := #[⟨7, .data⟩, ⟨6, .data⟩, ⟨6, .chain⟩, ⟨0, .phase⟩, ⟨1, .phase⟩, ⟨2, .phase⟩, ⟨3, .phase⟩, ⟨4, .phase⟩, ⟨5, .phase⟩, ⟨6, .phase⟩], guard := none }) (by kernel_rfl) rfl (fun K hK => ?_)
      go_simp
      refine hK.out _ _ ?_
      clear hK K
      try simp only [Act.put, List.setIfInBounds_toArray, List.set_cons_zero, List.set_cons_succ]
      refine any_done (by kernel_rfl) ?_
      have HU := Lib.hid (ownsRow_setCell_other (a := ⟨w.heap.size, 0, none⟩) HO7.out (fun e => by have h1 : W3.heap.size ≤ w.heap.size := (HO7.out.lt _ e).1; have := HZ3.out; omega) (.slice (some ⟨g7, 0, none⟩) (ln + 1) cap7))
      have HG8 := Lib.hid ((HG3.out.trans HG7.out).setCell (p := ⟨w.heap.size, 0, none⟩) (Nat.le_refl _) (.slice (some ⟨g7, 0, none⟩) (ln + 1) cap7))
      have U0 : Hid (Blk (w7.setCell ⟨w.heap.size, 0, none⟩ (.slice (some ⟨g7, 0, none⟩) (ln + 1) cap7)) w.heap.size #[.slice (some ⟨g7, 0, none⟩) (ln + 1) cap7, .slice aW nW cW, .int .u64 t1] 29) := Lib.hid (K0.out.set 0 _)
      have U1 := Lib.hid (K1.out.other (c := w.heap.size) (by omega) 0 (.slice (some ⟨g7, 0, none⟩) (ln + 1) cap7))
      have U2 := Lib.hid (K2.out.other (c := w.heap.size) (by omega) 0 (.slice (some ⟨g7, 0, none⟩) (ln + 1) cap7))
      have U3 := Lib.hid (K3.out.other (c := w.heap.size) (by omega) 0 (.slice (some ⟨g7, 0, none⟩) (ln + 1) cap7))
      have HLO := Lib.hid (show ∀ c, w.heap.size ≤ c → c < W3.heap.size → (Value.ownBlock (.slice (some ⟨g7, 0, none⟩) (ln + 1) cap7)) ≠ some c from fun c _ hc e => by have := (HO7.out.lt c e).1; omega)
      have HZ7 := Lib.hid HZ3.out
      clear HG7 K0 K1 K2 K3 HO7 m0
      go_upto_region 4 with fail
      generalize w7.setCell ⟨w.heap.size, 0, none⟩ (.slice (some ⟨g7, 0, none⟩) (ln + 1) cap7) = w8 at *
      have HS9 : Hid ((fun w0 => w0.cell? ⟨w.heap.size, 0, none⟩ = some (.slice (some ⟨g7, 0, none⟩) (ln + 1) cap7) ∧ w0.cell? ⟨w.heap.size, 1, none⟩ = some (.slice aW nW cW) ∧ w0.cell? ⟨w.heap.size, 2, none⟩ = some (.int .u64 t1) ∧ w0.cell? ⟨w.heap.size + 1, 0, none⟩ = some (.int .i64 xs) ∧ w0.cell? ⟨w.heap.size + 1, 1, none⟩ = some (.slice xa xn xc) ∧ w0.cell? ⟨w.heap.size + 1, 2, none⟩ = some (.bool xe) ∧ w0.cell? ⟨w.heap.size + 1, 3, none⟩ = some (.int .u64 t1)) w8.drew) := Lib.hid (have G9 := (Gr.refl w8).drew; ⟨(U0.out.gr G9).cell (i := 0) rfl, (U0.out.gr G9).cell (i := 1) rfl, (U0.out.gr G9).cell (i := 2) rfl, (U1.out.gr G9).cell (i := 0) rfl, (U1.out.gr G9).cell (i := 1) rfl, (U1.out.gr G9).cell (i := 2) rfl, (U1.out.gr G9).cell (i := 3) rfl⟩)
      have U0 := Lib.hid (U0.out.gr (Gr.refl w8).drew)
      have U1 := Lib.hid (U1.out.gr (Gr.refl w8).drew)
      have U2 := Lib.hid (U2.out.gr (Gr.refl w8).drew)
      have U3 := Lib.hid (U3.out.gr (Gr.refl w8).drew)
      have HU := Lib.hid (ownsRow_gr (Gr.refl w8).drew HU.out)
      have HG8 := Lib.hid (HG8.out.trans (Gr.refl w8).drew)
      clear HB0 HB1 HB2 HB3 HG3 HX Hm1 Hm2 Hb1 Hb2 HSRC
      go_wp2_with fail
      refine wp_region_held_drew (S := (fun w0 => w0.cell? ⟨w.heap.size, 0, none⟩ = some (.slice (some ⟨g7, 0, none⟩) (ln + 1) cap7) ∧ w0.cell? ⟨w.heap.size, 1, none⟩ = some (.slice aW nW cW) ∧ w0.cell? ⟨w.heap.size, 2, none⟩ = some (.int .u64 t1) ∧ w0.cell? ⟨w.heap.size + 1, 0, none⟩ = some (.int .i64 xs) ∧ w0.cell? ⟨w.heap.size + 1, 1, none⟩ = some (.slice xa xn xc) ∧ w0.cell? ⟨w.heap.size + 1, 2, none⟩ = some (.bool xe) ∧ w0.cell? ⟨w.heap.size + 1, 3, none⟩ = some (.int .u64 t1))) (by kernel_rfl) ?invz1z (fun h0 => ?_)
      case invz1z => ((try dsimp only); (exact HS9.out))
      generalize w8.drew = w9 at *
      have q20 := U2.out.cell (i := 0) rfl
      have q21 := U2.out.cell (i := 1) rfl
      have q22 := U2.out.cell (i := 2) rfl
      have q30 := U3.out.cell (i := 0) rfl
      have q31 := U3.out.cell (i := 1) rfl
      have q32 := U3.out.cell (i := 2) rfl
      have q33 := U3.out.cell (i := 3) rfl
      have d20 := U2.out.free 0
      have d21 := U2.out.free 1
      have d22 := U2.out.free 2
      have d30 := U3.out.free 0
      have d31 := U3.out.free 1
      have d32 := U3.out.free 2
      have d33 := U3.out.free 3
      have A0 := Lib.hid (((U0.out.other (c := w.heap.size + 1 + 1) (by omega) 0 (.slice (some ⟨g7, 0, none⟩) (ln + 1) cap7)).other (c := w.heap.size + 1 + 1) (by omega) 1 (.slice aW nW cW)).other (c := w.heap.size + 1 + 1) (by omega) 2 (.int .u64 t1))
      have A1 := Lib.hid (((U1.out.other (c := w.heap.size + 1 + 1) (by omega) 0 (.slice (some ⟨g7, 0, none⟩) (ln + 1) cap7)).other (c := w.heap.size + 1 + 1) (by omega) 1 (.slice aW nW cW)).other (c := w.heap.size + 1 + 1) (by omega) 2 (.int .u64 t1))
      have B0 := Lib.hid ((((A0.out.other (c := w.heap.size + 1 + 1 + 1) (by omega) 0 (.int .i64 xs)).other (c := w.heap.size + 1 + 1 + 1) (by omega) 1 (.slice xa xn xc)).other (c := w.heap.size + 1 + 1 + 1) (by omega) 2 (.bool xe)).other (c := w.heap.size + 1 + 1 + 1) (by omega) 3 (.int .u64 t1))
      have B1 := Lib.hid ((((A1.out.other (c := w.heap.size + 1 + 1 + 1) (by omega) 0 (.int .i64 xs)).other (c := w.heap.size + 1 + 1 + 1) (by omega) 1 (.slice xa xn xc)).other (c := w.heap.size + 1 + 1 + 1) (by omega) 2 (.bool xe)).other (c := w.heap.size + 1 + 1 + 1) (by omega) 3 (.int .u64 t1))
      refine wpAnyH_take (i := 0) (oi := { dst := some 21, op := Go.Op.load 29 (Go.Operand.tmp 2), type := 29, pos := "ref.go:51", after := #[], guard := none }) (v := ?vz1z1) rfl (by kernel_rfl) (by kernel_rfl) (by kernel_rfl) (fun _ _ _ h => h) (Or.inl ⟨by rfl, ?rz1z1⟩) (by assumption) ?_
      case rz1z1 => (intro w hSw; (try dsimp only at hSw); (go_simp <;> with_reducible rfl))
      try simp only [Act.put, List.setIfInBounds_toArray, List.set_cons_zero, List.set_cons_succ]
      refine wpAnyH_take (i := 1) (oi := { dst := some 22, op := Go.Op.load 71 (Go.Operand.tmp 3), type := 71, pos := "ref.go:51", after := #[⟨2, .gcOnly .lateStores⟩], guard := none }) (v := ?vz1z2) rfl (by kernel_rfl) (by kernel_rfl) (by kernel_rfl) (fun _ _ _ h => h) (Or.inl ⟨by rfl, ?rz1z2⟩) (by assumption) ?_
      case rz1z2 => (intro w hSw; (try dsimp only at hSw); (go_simp <;> with_reducible rfl))
      try simp only [Act.put, List.setIfInBounds_toArray, List.set_cons_zero, List.set_cons_succ]
      refine wpAnyH_ready (rs := [2]) (by kernel_rfl) (by simp) ?_
      refine AllReadyH.cons (o := { dst := none, op := Go.Op.store 29 (Go.Operand.tmp 4) (Go.Operand.tmp 21), type := 0, pos := "ref.go:51", after := #[⟨0, .data⟩, ⟨0, .phase⟩, ⟨1, .textOnly .lateStores⟩], guard := none }) rfl (fun K hK => ?_) AllReadyH.nil
      go_simp
      skip
      first | refine hK.out _ _ ?sz1z3 (fun h3 => ?_) | (go_wp2_with fail; refine hK.out _ _ ?sz1z3 (fun h3 => ?_))
      case sz1z3 => ((try dsimp only); (exact ⟨A0.out.cell (i := 0) rfl, A0.out.cell (i := 1) rfl, A0.out.cell (i := 2) rfl, A1.out.cell (i := 0) rfl, A1.out.cell (i := 1) rfl, A1.out.cell (i := 2) rfl, A1.out.cell (i := 3) rfl⟩))
      clear hK K h0
      try simp only [Act.put, List.setIfInBounds_toArray, List.set_cons_zero, List.set_cons_succ]
      refine wpAnyH_ready (rs := [3]) (by kernel_rfl) (by simp) ?_
      refine AllReadyH.cons (o := { dst := none, op := Go.Op.store 71 (Go.Operand.tmp 5) (Go.Operand.tmp 22), type := 0, pos := "ref.go:51", after := #[⟨1, .data⟩, ⟨2, .chain⟩, ⟨0, .phase⟩, ⟨1, .phase⟩, ⟨2, .phase⟩], guard := none }) rfl (fun K hK => ?_) AllReadyH.nil
      go_simp
      skip
      first | refine hK.out _ _ ?sz1z4 (fun h4 => ?_) | (go_wp2_with fail; refine hK.out _ _ ?sz1z4 (fun h4 => ?_))
      case sz1z4 => ((try dsimp only); (exact ⟨B0.out.cell (i := 0) rfl, B0.out.cell (i := 1) rfl, B0.out.cell (i := 2) rfl, B1.out.cell (i := 0) rfl, B1.out.cell (i := 1) rfl, B1.out.cell (i := 2) rfl, B1.out.cell (i := 3) rfl⟩))
      clear hK K h3
      try simp only [Act.put, List.setIfInBounds_toArray, List.set_cons_zero, List.set_cons_succ]
      refine wpAnyH_done (by kernel_rfl) ?_ _
      go_wp2
      refine bodyPost_ret (v := .tuple #[.agg #[.slice (some ⟨g7, 0, none⟩) (ln + 1) cap7, .slice aW nW cW, .int .u64 t1], .agg #[.int .i64 xs, .slice xa xn xc, .bool xe, .int .u64 t1]]) (by simp [results, Tryz.results49, go_sem, q20, q21, q22, q30, q31, q32, q33, d20, d21, d22, d30, d31, d32, d33]; try rfl) rfl ?_
      refine ⟨_, rfl, ⟨?_, HLIE.out _ ?_⟩, ?_⟩
      · rw [HLE.out, HEN.out]
        exact ownsRow_lower (ownsRow_setCell_other (a := ⟨w.heap.size + 1 + 1 + 1, 3, none⟩) (ownsRow_setCell_other (a := ⟨w.heap.size + 1 + 1 + 1, 2, none⟩) (ownsRow_setCell_other (a := ⟨w.heap.size + 1 + 1 + 1, 1, none⟩) (ownsRow_setCell_other (a := ⟨w.heap.size + 1 + 1 + 1, 0, none⟩) (ownsRow_setCell_other (a := ⟨w.heap.size + 1 + 1, 2, none⟩) (ownsRow_setCell_other (a := ⟨w.heap.size + 1 + 1, 1, none⟩) (ownsRow_setCell_other (a := ⟨w.heap.size + 1 + 1, 0, none⟩) HU.out (HLO.out (w.heap.size + 1 + 1) (by omega) (by have := HZ7.out; omega)) _) (HLO.out (w.heap.size + 1 + 1) (by omega) (by have := HZ7.out; omega)) _) (HLO.out (w.heap.size + 1 + 1) (by omega) (by have := HZ7.out; omega)) _) (HLO.out (w.heap.size + 1 + 1 + 1) (by omega) (by have := HZ7.out; omega)) _) (HLO.out (w.heap.size + 1 + 1 + 1) (by omega) (by have := HZ7.out; omega)) _) (HLO.out (w.heap.size + 1 + 1 + 1) (by omega) (by have := HZ7.out; omega)) _) (HLO.out (w.heap.size + 1 + 1 + 1) (by omega) (by have := HZ7.out; omega)) _) (by have := HZ7.out; omega)
      · exact (((((((HG8.out.setCell (p := ⟨w.heap.size + 1 + 1, 0, none⟩) (by simp; try omega) _).setCell (p := ⟨w.heap.size + 1 + 1, 1, none⟩) (by simp; try omega) _).setCell (p := ⟨w.heap.size + 1 + 1, 2, none⟩) (by simp; try omega) _).setCell (p := ⟨w.heap.size + 1 + 1 + 1, 0, none⟩) (by simp; try omega) _).setCell (p := ⟨w.heap.size + 1 + 1 + 1, 1, none⟩) (by simp; try omega) _).setCell (p := ⟨w.heap.size + 1 + 1 + 1, 2, none⟩) (by simp; try omega) _).setCell (p := ⟨w.heap.size + 1 + 1 + 1, 3, none⟩) (by simp; try omega) _)
      · exact (((((((HG8.out.setCell (p := ⟨w.heap.size + 1 + 1, 0, none⟩) (by simp; try omega) _).setCell (p := ⟨w.heap.size + 1 + 1, 1, none⟩) (by simp; try omega) _).setCell (p := ⟨w.heap.size + 1 + 1, 2, none⟩) (by simp; try omega) _).setCell (p := ⟨w.heap.size + 1 + 1 + 1, 0, none⟩) (by simp; try omega) _).setCell (p := ⟨w.heap.size + 1 + 1 + 1, 1, none⟩) (by simp; try omega) _).setCell (p := ⟨w.heap.size + 1 + 1 + 1, 2, none⟩) (by simp; try omega) _).setCell (p := ⟨w.heap.size + 1 + 1 + 1, 3, none⟩) (by simp; try omega) _)
    · skip
      go_simp
      skip
      first | refine hK.out _ _ ?sa9 (fun h9 => ?_) | (go_wp2_with fail; refine hK.out _ _ ?sa9 (fun h9 => ?_))
      case sa9 => ((try dsimp only); (first | exact HX.out _ HG7.out | exact HX.out _ HG5.out | exact HX.out _ (h4.1.alloc _) | exact HX.out _ h4.1))
      clear hK K h4
      try simp only [Act.put, List.setIfInBounds_toArray, List.set_cons_zero, List.set_cons_succ]
      refine late_ready (rs := [3]) (by kernel_rfl) (by simp) ?_
      refine LateAll.cons (o := { dst := some 16, op := Go.Op.call { callee := Go.Callee.builtin Go.Builtin.append, args := #[Go.Operand.tmp 13, Go.Operand.tmp 15], argTypes := #[27, 27] }, type := 27, pos := "ref.go:50", after := #[⟨0, .data⟩, ⟨2, .data⟩], guard := none }) rfl (fun K hK => ?_) LateAll.nil
      refine step_append_row _ (by rfl) (.tmp 13) (.tmp 15) 27 (by rfl) W3.heap.size 71 i0 (.agg #[.int .i64 0, .slice none 0 0, .bool false, .int .u64 0]) 4 48 Tryz.underlying27 hi hz0 hz1 hz2 rfl (by decide) (W3.heap.size) (by rfl) ((Hm1.out.alloc _)) aH ln cH cs (by rfl) HLN.out (by rcases HSRC.out with q | ⟨g9, q1, q2⟩; exact .inl q; exact .inr ⟨g9, q1, fun j u hj => h9.1.cell (q2 j u hj)⟩) HON.out (by unfold maxLen; omega) (by omega) h9.1.size _ rfl ?_
      intro g5 cap5 w5 hown5 hgrow5 hat5 hlt5
      have HG5 := Lib.hid (h9.1.append ((Hm1.out.alloc _)) hgrow5)
      have hn5 : Blk w5 (W3.heap.size + 1) #[.int .i64 xs, .slice xa xn xc, .bool xe, .int .u64 t1] 71 := (hgrow5.block _ (by simp) (by simp [Value.ownBlock])).trans Hb1.out
      first | refine hK.out _ _ ?sa10 (fun h10 => ?_) | (go_wp2_with fail; refine hK.out _ _ ?sa10 (fun h10 => ?_))
      case sa10 => ((try dsimp only); (first | exact HX.out _ HG7.out | exact HX.out _ HG5.out | exact HX.out _ (h9.1.alloc _) | exact HX.out _ h9.1))
      clear hK K h9
      try simp only [Act.put, List.setIfInBounds_toArray, List.set_cons_zero, List.set_cons_succ]
      refine late_ready (rs := [6]) (by kernel_rfl) (by simp) ?_
      refine LateAll.cons (o := { dst := some 19, op := Go.Op.call { callee := Go.Callee.builtin Go.Builtin.append, args := #[Go.Operand.tmp 16, Go.Operand.tmp 18], argTypes := #[27, 27] }, type := 27, pos := "ref.go:50", after := #[⟨3, .data⟩, ⟨5, .data⟩, ⟨3, .chain⟩], guard := none }) rfl (fun K hK => ?_) LateAll.nil
      refine step_append_lies _ (by rfl) (.tmp 16) (.tmp 18) 27 (by rfl) W3.heap.size 71 i0 (.agg #[.int .i64 0, .slice none 0 0, .bool false, .int .u64 0]) 4 48 Tryz.underlying27 hi hz0 hz1 hz2 rfl (by decide) _ ln _ (by rfl) (hown5) ⟨_, 0, none⟩ 1 1 [.int .i64 xs, .slice xa xn xc, .bool xe, .int .u64 t1] (by rfl) (by rfl) (World.news_of_block (cs := #[.int .i64 xs, .slice xa xn xc, .bool xe, .int .u64 t1]) (t := 71) (fr := (0, 0)) hn5) (by intro u hu; simp at hu; rcases hu with rfl | rfl | rfl | rfl <;> rfl) (by omega) (by unfold maxLen; omega) (by omega) h10.1.size _ rfl ?_
      intro g7 cap7 w7 hown7 hgrow7 hat7 hlt7
      have HG7 := Lib.hid (h10.1.append (hown5) hgrow7)
      first | refine hK.out _ _ ?sa11 (fun h11 => ?_) | (go_wp2_with fail; refine hK.out _ _ ?sa11 (fun h11 => ?_))
      case sa11 => ((try dsimp only); (first | exact HX.out _ HG7.out | exact HX.out _ HG5.out | exact HX.out _ (h10.1.alloc _) | exact HX.out _ h10.1))
      clear hK K h10
      try simp only [Act.put, List.setIfInBounds_toArray, List.set_cons_zero, List.set_cons_succ]
      refine late_take (i := 7) (oi := { dst := some 20, op := Go.Op.fieldAddr 29 (Go.Operand.tmp 2) 0, type := 0, pos := "ref.go:50", after := #[⟨0, .phase⟩, ⟨1, .phase⟩, ⟨2, .phase⟩, ⟨3, .phase⟩, ⟨4, .phase⟩, ⟨5, .phase⟩, ⟨6, .phase⟩], guard := none }) (v := ?va12) rfl (by kernel_rfl) (by kernel_rfl) (by kernel_rfl) (by kernel_rfl) (by kernel_rfl) (fun _ _ _ h => h) (Or.inl ⟨by rfl, ?ra12⟩) (by assumption) ?_
      case ra12 => (intro w hSw; (try dsimp only at hSw); (go_simp <;> with_reducible rfl))
      try simp only [Act.put, List.setIfInBounds_toArray, List.set_cons_zero, List.set_cons_succ]
      have HO7 := Lib.hid (show w7.ownsRow W3.heap.size 71 4 (.slice (some ⟨g7, 0, none⟩) (ln + 1) cap7) (ln + 1) (cs ++ [.int .i64 xs, .slice xa xn xc, .bool xe, .int .u64 t1]) from hown7)
      clear hown7 hgrow7 hat7 hlt7
      have m0 := (HG7.out.frozen (cell_lt c0) (o := 0)).trans f0
      have K0 := Lib.hid (HB0.out.gr HG7.out)
      have K1 := Lib.hid (HB1.out.gr HG7.out)
      have K2 := Lib.hid (HB2.out.gr HG7.out)
      have K3 := Lib.hid (HB3.out.gr HG7.out)
      clear c0 c1 f0 p0 p1 p2 p3
      refine late_go (by kernel_rfl) ?_
      refine any_one (i := 8) (o := { dst := none, op := Go.Op.store 27 (Go.Operand.tmp 20) (Go.Operand.tmp 19), type := 0, pos := "ref.go:50", after := #[⟨7, .data⟩, ⟨6, .data⟩, ⟨6, .chain⟩, ⟨0, .phase⟩, ⟨1, .phase⟩, ⟨2, .phase⟩, ⟨3, .phase⟩, ⟨4, .phase⟩, ⟨5, .phase⟩, ⟨6, .phase⟩], guard := none }) (by kernel_rfl) rfl (fun K hK => ?_)
      go_simp
      refine hK.out _ _ ?_
      clear hK K
      try simp only [Act.put, List.setIfInBounds_toArray, List.set_cons_zero, List.set_cons_succ]
      refine any_done (by kernel_rfl) ?_
      have HU := Lib.hid (ownsRow_setCell_other (a := ⟨w.heap.size, 0, none⟩) HO7.out (fun e => by have h1 : W3.heap.size ≤ w.heap.size := (HO7.out.lt _ e).1; have := HZ3.out; omega) (.slice (some ⟨g7, 0, none⟩) (ln + 1) cap7))
      have HG8 := Lib.hid ((HG3.out.trans HG7.out).setCell (p := ⟨w.heap.size, 0, none⟩) (Nat.le_refl _) (.slice (some ⟨g7, 0, none⟩) (ln + 1) cap7))
      have U0 : Hid (Blk (w7.setCell ⟨w.heap.size, 0, none⟩ (.slice (some ⟨g7, 0, none⟩) (ln + 1) cap7)) w.heap.size #[.slice (some ⟨g7, 0, none⟩) (ln + 1) cap7, .slice aW nW cW, .int .u64 t1] 29) := Lib.hid (K0.out.set 0 _)
      have U1 := Lib.hid (K1.out.other (c := w.heap.size) (by omega) 0 (.slice (some ⟨g7, 0, none⟩) (ln + 1) cap7))
      have U2 := Lib.hid (K2.out.other (c := w.heap.size) (by omega) 0 (.slice (some ⟨g7, 0, none⟩) (ln + 1) cap7))
      have U3 := Lib.hid (K3.out.other (c := w.heap.size) (by omega) 0 (.slice (some ⟨g7, 0, none⟩) (ln + 1) cap7))
      have HLO := Lib.hid (show ∀ c, w.heap.size ≤ c → c < W3.heap.size → (Value.ownBlock (.slice (some ⟨g7, 0, none⟩) (ln + 1) cap7)) ≠ some c from fun c _ hc e => by have := (HO7.out.lt c e).1; omega)
      have HZ7 := Lib.hid HZ3.out
      clear HG7 K0 K1 K2 K3 HO7 m0
      go_upto_region 4 with fail
      generalize w7.setCell ⟨w.heap.size, 0, none⟩ (.slice (some ⟨g7, 0, none⟩) (ln + 1) cap7) = w8 at *
      have HS9 : Hid ((fun w0 => w0.cell? ⟨w.heap.size, 0, none⟩ = some (.slice (some ⟨g7, 0, none⟩) (ln + 1) cap7) ∧ w0.cell? ⟨w.heap.size, 1, none⟩ = some (.slice aW nW cW) ∧ w0.cell? ⟨w.heap.size, 2, none⟩ = some (.int .u64 t1) ∧ w0.cell? ⟨w.heap.size + 1, 0, none⟩ = some (.int .i64 xs) ∧ w0.cell? ⟨w.heap.size + 1, 1, none⟩ = some (.slice xa xn xc) ∧ w0.cell? ⟨w.heap.size + 1, 2, none⟩ = some (.bool xe) ∧ w0.cell? ⟨w.heap.size + 1, 3, none⟩ = some (.int .u64 t1)) w8.drew) := Lib.hid (have G9 := (Gr.refl w8).drew; ⟨(U0.out.gr G9).cell (i := 0) rfl, (U0.out.gr G9).cell (i := 1) rfl, (U0.out.gr G9).cell (i := 2) rfl, (U1.out.gr G9).cell (i := 0) rfl, (U1.out.gr G9).cell (i := 1) rfl, (U1.out.gr G9).cell (i := 2) rfl, (U1.out.gr G9).cell (i := 3) rfl⟩)
      have U0 := Lib.hid (U0.out.gr (Gr.refl w8).drew)
      have U1 := Lib.hid (U1.out.gr (Gr.refl w8).drew)
      have U2 := Lib.hid (U2.out.gr (Gr.refl w8).drew)
      have U3 := Lib.hid (U3.out.gr (Gr.refl w8).drew)
      have HU := Lib.hid (ownsRow_gr (Gr.refl w8).drew HU.out)
      have HG8 := Lib.hid (HG8.out.trans (Gr.refl w8).drew)
      clear HB0 HB1 HB2 HB3 HG3 HX Hm1 Hm2 Hb1 Hb2 HSRC
      go_wp2_with fail
      refine wp_region_held_drew (S := (fun w0 => w0.cell? ⟨w.heap.size, 0, none⟩ = some (.slice (some ⟨g7, 0, none⟩) (ln + 1) cap7) ∧ w0.cell? ⟨w.heap.size, 1, none⟩ = some (.slice aW nW cW) ∧ w0.cell? ⟨w.heap.size, 2, none⟩ = some (.int .u64 t1) ∧ w0.cell? ⟨w.heap.size + 1, 0, none⟩ = some (.int .i64 xs) ∧ w0.cell? ⟨w.heap.size + 1, 1, none⟩ = some (.slice xa xn xc) ∧ w0.cell? ⟨w.heap.size + 1, 2, none⟩ = some (.bool xe) ∧ w0.cell? ⟨w.heap.size + 1, 3, none⟩ = some (.int .u64 t1))) (by kernel_rfl) ?invz2z (fun h0 => ?_)
      case invz2z => ((try dsimp only); (exact HS9.out))
      generalize w8.drew = w9 at *
      have q20 := U2.out.cell (i := 0) rfl
      have q21 := U2.out.cell (i := 1) rfl
      have q22 := U2.out.cell (i := 2) rfl
      have q30 := U3.out.cell (i := 0) rfl
      have q31 := U3.out.cell (i := 1) rfl
      have q32 := U3.out.cell (i := 2) rfl
      have q33 := U3.out.cell (i := 3) rfl
      have d20 := U2.out.free 0
      have d21 := U2.out.free 1
      have d22 := U2.out.free 2
      have d30 := U3.out.free 0
      have d31 := U3.out.free 1
      have d32 := U3.out.free 2
      have d33 := U3.out.free 3
      have A0 := Lib.hid (((U0.out.other (c := w.heap.size + 1 + 1) (by omega) 0 (.slice (some ⟨g7, 0, none⟩) (ln + 1) cap7)).other (c := w.heap.size + 1 + 1) (by omega) 1 (.slice aW nW cW)).other (c := w.heap.size + 1 + 1) (by omega) 2 (.int .u64 t1))
      have A1 := Lib.hid (((U1.out.other (c := w.heap.size + 1 + 1) (by omega) 0 (.slice (some ⟨g7, 0, none⟩) (ln + 1) cap7)).other (c := w.heap.size + 1 + 1) (by omega) 1 (.slice aW nW cW)).other (c := w.heap.size + 1 + 1) (by omega) 2 (.int .u64 t1))
      have B0 := Lib.hid ((((A0.out.other (c := w.heap.size + 1 + 1 + 1) (by omega) 0 (.int .i64 xs)).other (c := w.heap.size + 1 + 1 + 1) (by omega) 1 (.slice xa xn xc)).other (c := w.heap.size + 1 + 1 + 1) (by omega) 2 (.bool xe)).other (c := w.heap.size + 1 + 1 + 1) (by omega) 3 (.int .u64 t1))
      have B1 := Lib.hid ((((A1.out.other (c := w.heap.size + 1 + 1 + 1) (by omega) 0 (.int .i64 xs)).other (c := w.heap.size + 1 + 1 + 1) (by omega) 1 (.slice xa xn xc)).other (c := w.heap.size + 1 + 1 + 1) (by omega) 2 (.bool xe)).other (c := w.heap.size + 1 + 1 + 1) (by omega) 3 (.int .u64 t1))
      refine wpAnyH_take (i := 0) (oi := { dst := some 21, op := Go.Op.load 29 (Go.Operand.tmp 2), type := 29, pos := "ref.go:51", after := #[], guard := none }) (v := ?vz2z1) rfl (by kernel_rfl) (by kernel_rfl) (by kernel_rfl) (fun _ _ _ h => h) (Or.inl ⟨by rfl, ?rz2z1⟩) (by assumption) ?_
      case rz2z1 => (intro w hSw; (try dsimp only at hSw); (go_simp <;> with_reducible rfl))
      try simp only [Act.put, List.setIfInBounds_toArray, List.set_cons_zero, List.set_cons_succ]
      refine wpAnyH_take (i := 1) (oi := { dst := some 22, op := Go.Op.load 71 (Go.Operand.tmp 3), type := 71, pos := "ref.go:51", after := #[⟨2, .gcOnly .lateStores⟩], guard := none }) (v := ?vz2z2) rfl (by kernel_rfl) (by kernel_rfl) (by kernel_rfl) (fun _ _ _ h => h) (Or.inl ⟨by rfl, ?rz2z2⟩) (by assumption) ?_
      case rz2z2 => (intro w hSw; (try dsimp only at hSw); (go_simp <;> with_reducible rfl))
      try simp only [Act.put, List.setIfInBounds_toArray, List.set_cons_zero, List.set_cons_succ]
      refine wpAnyH_ready (rs := [2]) (by kernel_rfl) (by simp) ?_
      refine AllReadyH.cons (o := { dst := none, op := Go.Op.store 29 (Go.Operand.tmp 4) (Go.Operand.tmp 21), type := 0, pos := "ref.go:51", after := #[⟨0, .data⟩, ⟨0, .phase⟩, ⟨1, .textOnly .lateStores⟩], guard := none }) rfl (fun K hK => ?_) AllReadyH.nil
      go_simp
      skip
      first | refine hK.out _ _ ?sz2z3 (fun h3 => ?_) | (go_wp2_with fail; refine hK.out _ _ ?sz2z3 (fun h3 => ?_))
      case sz2z3 => ((try dsimp only); (exact ⟨A0.out.cell (i := 0) rfl, A0.out.cell (i := 1) rfl, A0.out.cell (i := 2) rfl, A1.out.cell (i := 0) rfl, A1.out.cell (i := 1) rfl, A1.out.cell (i := 2) rfl, A1.out.cell (i := 3) rfl⟩))
      clear hK K h0
      try simp only [Act.put, List.setIfInBounds_toArray, List.set_cons_zero, List.set_cons_succ]
      refine wpAnyH_ready (rs := [3]) (by kernel_rfl) (by simp) ?_
      refine AllReadyH.cons (o := { dst := none, op := Go.Op.store 71 (Go.Operand.tmp 5) (Go.Operand.tmp 22), type := 0, pos := "ref.go:51", after := #[⟨1, .data⟩, ⟨2, .chain⟩, ⟨0, .phase⟩, ⟨1, .phase⟩, ⟨2, .phase⟩], guard := none }) rfl (fun K hK => ?_) AllReadyH.nil
      go_simp
      skip
      first | refine hK.out _ _ ?sz2z4 (fun h4 => ?_) | (go_wp2_with fail; refine hK.out _ _ ?sz2z4 (fun h4 => ?_))
      case sz2z4 => ((try dsimp only); (exact ⟨B0.out.cell (i := 0) rfl, B0.out.cell (i := 1) rfl, B0.out.cell (i := 2) rfl, B1.out.cell (i := 0) rfl, B1.out.cell (i := 1) rfl, B1.out.cell (i := 2) rfl, B1.out.cell (i := 3) rfl⟩))
      clear hK K h3
      try simp only [Act.put, List.setIfInBounds_toArray, List.set_cons_zero, List.set_cons_succ]
      refine wpAnyH_done (by kernel_rfl) ?_ _
      go_wp2
      refine bodyPost_ret (v := .tuple #[.agg #[.slice (some ⟨g7, 0, none⟩) (ln + 1) cap7, .slice aW nW cW, .int .u64 t1], .agg #[.int .i64 xs, .slice xa xn xc, .bool xe, .int .u64 t1]]) (by simp [results, Tryz.results49, go_sem, q20, q21, q22, q30, q31, q32, q33, d20, d21, d22, d30, d31, d32, d33]; try rfl) rfl ?_
      refine ⟨_, rfl, ⟨?_, HLIE.out _ ?_⟩, ?_⟩
      · rw [HLE.out, HEN.out]
        exact ownsRow_lower (ownsRow_setCell_other (a := ⟨w.heap.size + 1 + 1 + 1, 3, none⟩) (ownsRow_setCell_other (a := ⟨w.heap.size + 1 + 1 + 1, 2, none⟩) (ownsRow_setCell_other (a := ⟨w.heap.size + 1 + 1 + 1, 1, none⟩) (ownsRow_setCell_other (a := ⟨w.heap.size + 1 + 1 + 1, 0, none⟩) (ownsRow_setCell_other (a := ⟨w.heap.size + 1 + 1, 2, none⟩) (ownsRow_setCell_other (a := ⟨w.heap.size + 1 + 1, 1, none⟩) (ownsRow_setCell_other (a := ⟨w.heap.size + 1 + 1, 0, none⟩) HU.out (HLO.out (w.heap.size + 1 + 1) (by omega) (by have := HZ7.out; omega)) _) (HLO.out (w.heap.size + 1 + 1) (by omega) (by have := HZ7.out; omega)) _) (HLO.out (w.heap.size + 1 + 1) (by omega) (by have := HZ7.out; omega)) _) (HLO.out (w.heap.size + 1 + 1 + 1) (by omega) (by have := HZ7.out; omega)) _) (HLO.out (w.heap.size + 1 + 1 + 1) (by omega) (by have := HZ7.out; omega)) _) (HLO.out (w.heap.size + 1 + 1 + 1) (by omega) (by have := HZ7.out; omega)) _) (HLO.out (w.heap.size + 1 + 1 + 1) (by omega) (by have := HZ7.out; omega)) _) (by have := HZ7.out; omega)
      · exact (((((((HG8.out.setCell (p := ⟨w.heap.size + 1 + 1, 0, none⟩) (by simp; try omega) _).setCell (p := ⟨w.heap.size + 1 + 1, 1, none⟩) (by simp; try omega) _).setCell (p := ⟨w.heap.size + 1 + 1, 2, none⟩) (by simp; try omega) _).setCell (p := ⟨w.heap.size + 1 + 1 + 1, 0, none⟩) (by simp; try omega) _).setCell (p := ⟨w.heap.size + 1 + 1 + 1, 1, none⟩) (by simp; try omega) _).setCell (p := ⟨w.heap.size + 1 + 1 + 1, 2, none⟩) (by simp; try omega) _).setCell (p := ⟨w.heap.size + 1 + 1 + 1, 3, none⟩) (by simp; try omega) _)
      · exact (((((((HG8.out.setCell (p := ⟨w.heap.size + 1 + 1, 0, none⟩) (by simp; try omega) _).setCell (p := ⟨w.heap.size + 1 + 1, 1, none⟩) (by simp; try omega) _).setCell (p := ⟨w.heap.size + 1 + 1, 2, none⟩) (by simp; try omega) _).setCell (p := ⟨w.heap.size + 1 + 1 + 1, 0, none⟩) (by simp; try omega) _).setCell (p := ⟨w.heap.size + 1 + 1 + 1, 1, none⟩) (by simp; try omega) _).setCell (p := ⟨w.heap.size + 1 + 1 + 1, 2, none⟩) (by simp; try omega) _).setCell (p := ⟨w.heap.size + 1 + 1 + 1, 3, none⟩) (by simp; try omega) _)
  · skip
    go_simp
    skip
    first | refine hK.out _ _ ?sa13 (fun h13 => ?_) | (go_wp2_with fail; refine hK.out _ _ ?sa13 (fun h13 => ?_))
    case sa13 => ((try dsimp only); (first | exact HX.out _ HG7.out | exact HX.out _ HG5.out | exact HX.out _ (h0.1.alloc _) | exact HX.out _ h0.1))
    clear hK K h0
    try simp only [Act.put, List.setIfInBounds_toArray, List.set_cons_zero, List.set_cons_succ]
    refine late_ready (rs := [0]) (by kernel_rfl) (by simp) ?_
    refine LateAll.cons (o := { dst := some 13, op := Go.Op.buildSlice 27 0 #[], type := 27, pos := "ref.go:50", after := #[], guard := none }) rfl (fun K hK => ?_) LateAll.nil
    go_simp
    skip
    first | refine hK.out _ _ ?sa14 (fun h14 => ?_) | (go_wp2_with fail; refine hK.out _ _ ?sa14 (fun h14 => ?_))
    case sa14 => ((try dsimp only); (first | exact HX.out _ HG7.out | exact HX.out _ HG5.out | exact HX.out _ (h13.1.alloc _) | exact HX.out _ h13.1))
    clear hK K h13
    try simp only [Act.put, List.setIfInBounds_toArray, List.set_cons_zero, List.set_cons_succ]
    refine late_ready (rs := [3]) (by kernel_rfl) (by simp) ?_
    refine LateAll.cons (o := { dst := some 16, op := Go.Op.call { callee := Go.Callee.builtin Go.Builtin.append, args := #[Go.Operand.tmp 13, Go.Operand.tmp 15], argTypes := #[27, 27] }, type := 27, pos := "ref.go:50", after := #[⟨0, .data⟩, ⟨2, .data⟩], guard := none }) rfl (fun K hK => ?_) LateAll.nil
    refine step_append_row _ (by rfl) (.tmp 13) (.tmp 15) 27 (by rfl) W3.heap.size 71 i0 (.agg #[.int .i64 0, .slice none 0 0, .bool false, .int .u64 0]) 4 48 Tryz.underlying27 hi hz0 hz1 hz2 rfl (by decide) (W3.heap.size + 1) (by rfl) (Hm2.out) aH ln cH cs (by rfl) HLN.out (by rcases HSRC.out with q | ⟨g9, q1, q2⟩; exact .inl q; exact .inr ⟨g9, q1, fun j u hj => h14.1.cell (q2 j u hj)⟩) HON.out (by unfold maxLen; omega) (by omega) h14.1.size _ rfl ?_
    intro g5 cap5 w5 hown5 hgrow5 hat5 hlt5
    have HG5 := Lib.hid (h14.1.append (Hm2.out) hgrow5)
    have hn5 : Blk w5 W3.heap.size #[.int .i64 xs, .slice xa xn xc, .bool xe, .int .u64 t1] 71 := (hgrow5.block _ (by simp; omega) (by simp [Value.ownBlock])).trans Hb2.out
    first | refine hK.out _ _ ?sa15 (fun h15 => ?_) | (go_wp2_with fail; refine hK.out _ _ ?sa15 (fun h15 => ?_))
    case sa15 => ((try dsimp only); (first | exact HX.out _ HG7.out | exact HX.out _ HG5.out | exact HX.out _ (h14.1.alloc _) | exact HX.out _ h14.1))
    clear hK K h14
    try simp only [Act.put, List.setIfInBounds_toArray, List.set_cons_zero, List.set_cons_succ]
    refine late_ready (rs := [6]) (by kernel_rfl) (by simp) ?_
    refine LateAll.cons (o := { dst := some 19, op := Go.Op.call { callee := Go.Callee.builtin Go.Builtin.append, args := #[Go.Operand.tmp 16, Go.Operand.tmp 18], argTypes := #[27, 27] }, type := 27, pos := "ref.go:50", after := #[⟨3, .data⟩, ⟨5, .data⟩, ⟨3, .chain⟩], guard := none }) rfl (fun K hK => ?_) LateAll.nil
    refine step_append_lies _ (by rfl) (.tmp 16) (.tmp 18) 27 (by rfl) W3.heap.size 71 i0 (.agg #[.int .i64 0, .slice none 0 0, .bool false, .int .u64 0]) 4 48 Tryz.underlying27 hi hz0 hz1 hz2 rfl (by decide) _ ln _ (by rfl) (hown5) ⟨_, 0, none⟩ 1 1 [.int .i64 xs, .slice xa xn xc, .bool xe, .int .u64 t1] (by rfl) (by rfl) (World.news_of_block (cs := #[.int .i64 xs, .slice xa xn xc, .bool xe, .int .u64 t1]) (t := 71) (fr := (0, 0)) hn5) (by intro u hu; simp at hu; rcases hu with rfl | rfl | rfl | rfl <;> rfl) (by omega) (by unfold maxLen; omega) (by omega) h15.1.size _ rfl ?_
    intro g7 cap7 w7 hown7 hgrow7 hat7 hlt7
    have HG7 := Lib.hid (h15.1.append (hown5) hgrow7)
    first | refine hK.out _ _ ?sa16 (fun h16 => ?_) | (go_wp2_with fail; refine hK.out _ _ ?sa16 (fun h16 => ?_))
    case sa16 => ((try dsimp only); (first | exact HX.out _ HG7.out | exact HX.out _ HG5.out | exact HX.out _ (h15.1.alloc _) | exact HX.out _ h15.1))
    clear hK K h15
    try simp only [Act.put, List.setIfInBounds_toArray, List.set_cons_zero, List.set_cons_succ]
    refine late_take (i := 7) (oi := { dst := some 20, op := Go.Op.fieldAddr 29 (Go.Operand.tmp 2) 0, type := 0, pos := "ref.go:50", after := #[⟨0, .phase⟩, ⟨1, .phase⟩, ⟨2, .phase⟩, ⟨3, .phase⟩, ⟨4, .phase⟩, ⟨5, .phase⟩, ⟨6, .phase⟩], guard := none }) (v := ?va17) rfl (by kernel_rfl) (by kernel_rfl) (by kernel_rfl) (by kernel_rfl) (by kernel_rfl) (fun _ _ _ h => h) (Or.inl ⟨by rfl, ?ra17⟩) (by assumption) ?_
    case ra17 => (intro w hSw; (try dsimp only at hSw); (go_simp <;> with_reducible rfl))
    try simp only [Act.put, List.setIfInBounds_toArray, List.set_cons_zero, List.set_cons_succ]
    have HO7 := Lib.hid (show w7.ownsRow W3.heap.size 71 4 (.slice (some ⟨g7, 0, none⟩) (ln + 1) cap7) (ln + 1) (cs ++ [.int .i64 xs, .slice xa xn xc, .bool xe, .int .u64 t1]) from hown7)
    clear hown7 hgrow7 hat7 hlt7
    have m0 := (HG7.out.frozen (cell_lt c0) (o := 0)).trans f0
    have K0 := Lib.hid (HB0.out.gr HG7.out)
    have K1 := Lib.hid (HB1.out.gr HG7.out)
    have K2 := Lib.hid (HB2.out.gr HG7.out)
    have K3 := Lib.hid (HB3.out.gr HG7.out)
    clear c0 c1 f0 p0 p1 p2 p3
    refine late_go (by kernel_rfl) ?_
    refine any_one (i := 8) (o := { dst := none, op := Go.Op.store 27 (Go.Operand.tmp 20) (Go.Operand.tmp 19), type := 0, pos := "ref.go:50", after := #[⟨7, .data⟩, ⟨6, .data⟩, ⟨6, .chain⟩, ⟨0, .phase⟩, ⟨1, .phase⟩, ⟨2, .phase⟩, ⟨3, .phase⟩, ⟨4, .phase⟩, ⟨5, .phase⟩, ⟨6, .phase⟩], guard := none }) (by kernel_rfl) rfl (fun K hK => ?_)
    go_simp
    refine hK.out _ _ ?_
    clear hK K
    try simp only [Act.put, List.setIfInBounds_toArray, List.set_cons_zero, List.set_cons_succ]
    refine any_done (by kernel_rfl) ?_
    have HU := Lib.hid (ownsRow_setCell_other (a := ⟨w.heap.size, 0, none⟩) HO7.out (fun e => by have h1 : W3.heap.size ≤ w.heap.size := (HO7.out.lt _ e).1; have := HZ3.out; omega) (.slice (some ⟨g7, 0, none⟩) (ln + 1) cap7))
    have HG8 := Lib.hid ((HG3.out.trans HG7.out).setCell (p := ⟨w.heap.size, 0, none⟩) (Nat.le_refl _) (.slice (some ⟨g7, 0, none⟩) (ln + 1) cap7))
    have U0 : Hid (Blk (w7.setCell ⟨w.heap.size, 0, none⟩ (.slice (some ⟨g7, 0, none⟩) (ln + 1) cap7)) w.heap.size #[.slice (some ⟨g7, 0, none⟩) (ln + 1) cap7, .slice aW nW cW, .int .u64 t1] 29) := Lib.hid (K0.out.set 0 _)
    have U1 := Lib.hid (K1.out.other (c := w.heap.size) (by omega) 0 (.slice (some ⟨g7, 0, none⟩) (ln + 1) cap7))
    have U2 := Lib.hid (K2.out.other (c := w.heap.size) (by omega) 0 (.slice (some ⟨g7, 0, none⟩) (ln + 1) cap7))
    have U3 := Lib.hid (K3.out.other (c := w.heap.size) (by omega) 0 (.slice (some ⟨g7, 0, none⟩) (ln + 1) cap7))
    have HLO := Lib.hid (show ∀ c, w.heap.size ≤ c → c < W3.heap.size → (Value.ownBlock (.slice (some ⟨g7, 0, none⟩) (ln + 1) cap7)) ≠ some c from fun c _ hc e => by have := (HO7.out.lt c e).1; omega)
    have HZ7 := Lib.hid HZ3.out
    clear HG7 K0 K1 K2 K3 HO7 m0
    go_upto_region 4 with fail
    generalize w7.setCell ⟨w.heap.size, 0, none⟩ (.slice (some ⟨g7, 0, none⟩) (ln + 1) cap7) = w8 at *
    have HS9 : Hid ((fun w0 => w0.cell? ⟨w.heap.size, 0, none⟩ = some (.slice (some ⟨g7, 0, none⟩) (ln + 1) cap7) ∧ w0.cell? ⟨w.heap.size, 1, none⟩ = some (.slice aW nW cW) ∧ w0.cell? ⟨w.heap.size, 2, none⟩ = some (.int .u64 t1) ∧ w0.cell? ⟨w.heap.size + 1, 0, none⟩ = some (.int .i64 xs) ∧ w0.cell? ⟨w.heap.size + 1, 1, none⟩ = some (.slice xa xn xc) ∧ w0.cell? ⟨w.heap.size + 1, 2, none⟩ = some (.bool xe) ∧ w0.cell? ⟨w.heap.size + 1, 3, none⟩ = some (.int .u64 t1)) w8.drew) := Lib.hid (have G9 := (Gr.refl w8).drew; ⟨(U0.out.gr G9).cell (i := 0) rfl, (U0.out.gr G9).cell (i := 1) rfl, (U0.out.gr G9).cell (i := 2) rfl, (U1.out.gr G9).cell (i := 0) rfl, (U1.out.gr G9).cell (i := 1) rfl, (U1.out.gr G9).cell (i := 2) rfl, (U1.out.gr G9).cell (i := 3) rfl⟩)
    have U0 := Lib.hid (U0.out.gr (Gr.refl w8).drew)
    have U1 := Lib.hid (U1.out.gr (Gr.refl w8).drew)
    have U2 := Lib.hid (U2.out.gr (Gr.refl w8).drew)
    have U3 := Lib.hid (U3.out.gr (Gr.refl w8).drew)
    have HU := Lib.hid (ownsRow_gr (Gr.refl w8).drew HU.out)
    have HG8 := Lib.hid (HG8.out.trans (Gr.refl w8).drew)
    clear HB0 HB1 HB2 HB3 HG3 HX Hm1 Hm2 Hb1 Hb2 HSRC
    go_wp2_with fail
    refine wp_region_held_drew (S := (fun w0 => w0.cell? ⟨w.heap.size, 0, none⟩ = some (.slice (some ⟨g7, 0, none⟩) (ln + 1) cap7) ∧ w0.cell? ⟨w.heap.size, 1, none⟩ = some (.slice aW nW cW) ∧ w0.cell? ⟨w.heap.size, 2, none⟩ = some (.int .u64 t1) ∧ w0.cell? ⟨w.heap.size + 1, 0, none⟩ = some (.int .i64 xs) ∧ w0.cell? ⟨w.heap.size + 1, 1, none⟩ = some (.slice xa xn xc) ∧ w0.cell? ⟨w.heap.size + 1, 2, none⟩ = some (.bool xe) ∧ w0.cell? ⟨w.heap.size + 1, 3, none⟩ = some (.int .u64 t1))) (by kernel_rfl) ?invz3z (fun h0 => ?_)
    case invz3z => ((try dsimp only); (exact HS9.out))
    generalize w8.drew = w9 at *
    have q20 := U2.out.cell (i := 0) rfl
    have q21 := U2.out.cell (i := 1) rfl
    have q22 := U2.out.cell (i := 2) rfl
    have q30 := U3.out.cell (i := 0) rfl
    have q31 := U3.out.cell (i := 1) rfl
    have q32 := U3.out.cell (i := 2) rfl
    have q33 := U3.out.cell (i := 3) rfl
    have d20 := U2.out.free 0
    have d21 := U2.out.free 1
    have d22 := U2.out.free 2
    have d30 := U3.out.free 0
    have d31 := U3.out.free 1
    have d32 := U3.out.free 2
    have d33 := U3.out.free 3
    have A0 := Lib.hid (((U0.out.other (c := w.heap.size + 1 + 1) (by omega) 0 (.slice (some ⟨g7, 0, none⟩) (ln + 1) cap7)).other (c := w.heap.size + 1 + 1) (by omega) 1 (.slice aW nW cW)).other (c := w.heap.size + 1 + 1) (by omega) 2 (.int .u64 t1))
    have A1 := Lib.hid (((U1.out.other (c := w.heap.size + 1 + 1) (by omega) 0 (.slice (some ⟨g7, 0, none⟩) (ln + 1) cap7)).other (c := w.heap.size + 1 + 1) (by omega) 1 (.slice aW nW cW)).other (c := w.heap.size + 1 + 1) (by omega) 2 (.int .u64 t1))
    have B0 := Lib.hid ((((A0.out.other (c := w.heap.size + 1 + 1 + 1) (by omega) 0 (.int .i64 xs)).other (c := w.heap.size + 1 + 1 + 1) (by omega) 1 (.slice xa xn xc)).other (c := w.heap.size + 1 + 1 + 1) (by omega) 2 (.bool xe)).other (c := w.heap.size + 1 + 1 + 1) (by omega) 3 (.int .u64 t1))
    have B1 := Lib.hid ((((A1.out.other (c := w.heap.size + 1 + 1 + 1) (by omega) 0 (.int .i64 xs)).other (c := w.heap.size + 1 + 1 + 1) (by omega) 1 (.slice xa xn xc)).other (c := w.heap.size + 1 + 1 + 1) (by omega) 2 (.bool xe)).other (c := w.heap.size + 1 + 1 + 1) (by omega) 3 (.int .u64 t1))
    refine wpAnyH_take (i := 0) (oi := { dst := some 21, op := Go.Op.load 29 (Go.Operand.tmp 2), type := 29, pos := "ref.go:51", after := #[], guard := none }) (v := ?vz3z1) rfl (by kernel_rfl) (by kernel_rfl) (by kernel_rfl) (fun _ _ _ h => h) (Or.inl ⟨by rfl, ?rz3z1⟩) (by assumption) ?_
    case rz3z1 => (intro w hSw; (try dsimp only at hSw); (go_simp <;> with_reducible rfl))
    try simp only [Act.put, List.setIfInBounds_toArray, List.set_cons_zero, List.set_cons_succ]
    refine wpAnyH_take (i := 1) (oi := { dst := some 22, op := Go.Op.load 71 (Go.Operand.tmp 3), type := 71, pos := "ref.go:51", after := #[⟨2, .gcOnly .lateStores⟩], guard := none }) (v := ?vz3z2) rfl (by kernel_rfl) (by kernel_rfl) (by kernel_rfl) (fun _ _ _ h => h) (Or.inl ⟨by rfl, ?rz3z2⟩) (by assumption) ?_
    case rz3z2 => (intro w hSw; (try dsimp only at hSw); (go_simp <;> with_reducible rfl))
    try simp only [Act.put, List.setIfInBounds_toArray, List.set_cons_zero, List.set_cons_succ]
    refine wpAnyH_ready (rs := [2]) (by kernel_rfl) (by simp) ?_
    refine AllReadyH.cons (o := { dst := none, op := Go.Op.store 29 (Go.Operand.tmp 4) (Go.Operand.tmp 21), type := 0, pos := "ref.go:51", after := #[⟨0, .data⟩, ⟨0, .phase⟩, ⟨1, .textOnly .lateStores⟩], guard := none }) rfl (fun K hK => ?_) AllReadyH.nil
    go_simp
    skip
    first | refine hK.out _ _ ?sz3z3 (fun h3 => ?_) | (go_wp2_with fail; refine hK.out _ _ ?sz3z3 (fun h3 => ?_))
    case sz3z3 => ((try dsimp only); (exact ⟨A0.out.cell (i := 0) rfl, A0.out.cell (i := 1) rfl, A0.out.cell (i := 2) rfl, A1.out.cell (i := 0) rfl, A1.out.cell (i := 1) rfl, A1.out.cell (i := 2) rfl, A1.out.cell (i := 3) rfl⟩))
    clear hK K h0
    try simp only [Act.put, List.setIfInBounds_toArray, List.set_cons_zero, List.set_cons_succ]
    refine wpAnyH_ready (rs := [3]) (by kernel_rfl) (by simp) ?_
    refine AllReadyH.cons (o := { dst := none, op := Go.Op.store 71 (Go.Operand.tmp 5) (Go.Operand.tmp 22), type := 0, pos := "ref.go:51", after := #[⟨1, .data⟩, ⟨2, .chain⟩, ⟨0, .phase⟩, ⟨1, .phase⟩, ⟨2, .phase⟩], guard := none }) rfl (fun K hK => ?_) AllReadyH.nil
    go_simp
    skip
    first | refine hK.out _ _ ?sz3z4 (fun h4 => ?_) | (go_wp2_with fail; refine hK.out _ _ ?sz3z4 (fun h4 => ?_))
    case sz3z4 => ((try dsimp only); (exact ⟨B0.out.cell (i := 0) rfl, B0.out.cell (i := 1) rfl, B0.out.cell (i := 2) rfl, B1.out.cell (i := 0) rfl, B1.out.cell (i := 1) rfl, B1.out.cell (i := 2) rfl, B1.out.cell (i := 3) rfl⟩))
    clear hK K h3
    try simp only [Act.put, List.setIfInBounds_toArray, List.set_cons_zero, List.set_cons_succ]
    refine wpAnyH_done (by kernel_rfl) ?_ _
    go_wp2
    refine bodyPost_ret (v := .tuple #[.agg #[.slice (some ⟨g7, 0, none⟩) (ln + 1) cap7, .slice aW nW cW, .int .u64 t1], .agg #[.int .i64 xs, .slice xa xn xc, .bool xe, .int .u64 t1]]) (by simp [results, Tryz.results49, go_sem, q20, q21, q22, q30, q31, q32, q33, d20, d21, d22, d30, d31, d32, d33]; try rfl) rfl ?_
    refine ⟨_, rfl, ⟨?_, HLIE.out _ ?_⟩, ?_⟩
    · rw [HLE.out, HEN.out]
      exact ownsRow_lower (ownsRow_setCell_other (a := ⟨w.heap.size + 1 + 1 + 1, 3, none⟩) (ownsRow_setCell_other (a := ⟨w.heap.size + 1 + 1 + 1, 2, none⟩) (ownsRow_setCell_other (a := ⟨w.heap.size + 1 + 1 + 1, 1, none⟩) (ownsRow_setCell_other (a := ⟨w.heap.size + 1 + 1 + 1, 0, none⟩) (ownsRow_setCell_other (a := ⟨w.heap.size + 1 + 1, 2, none⟩) (ownsRow_setCell_other (a := ⟨w.heap.size + 1 + 1, 1, none⟩) (ownsRow_setCell_other (a := ⟨w.heap.size + 1 + 1, 0, none⟩) HU.out (HLO.out (w.heap.size + 1 + 1) (by omega) (by have := HZ7.out; omega)) _) (HLO.out (w.heap.size + 1 + 1) (by omega) (by have := HZ7.out; omega)) _) (HLO.out (w.heap.size + 1 + 1) (by omega) (by have := HZ7.out; omega)) _) (HLO.out (w.heap.size + 1 + 1 + 1) (by omega) (by have := HZ7.out; omega)) _) (HLO.out (w.heap.size + 1 + 1 + 1) (by omega) (by have := HZ7.out; omega)) _) (HLO.out (w.heap.size + 1 + 1 + 1) (by omega) (by have := HZ7.out; omega)) _) (HLO.out (w.heap.size + 1 + 1 + 1) (by omega) (by have := HZ7.out; omega)) _) (by have := HZ7.out; omega)
    · exact (((((((HG8.out.setCell (p := ⟨w.heap.size + 1 + 1, 0, none⟩) (by simp; try omega) _).setCell (p := ⟨w.heap.size + 1 + 1, 1, none⟩) (by simp; try omega) _).setCell (p := ⟨w.heap.size + 1 + 1, 2, none⟩) (by simp; try omega) _).setCell (p := ⟨w.heap.size + 1 + 1 + 1, 0, none⟩) (by simp; try omega) _).setCell (p := ⟨w.heap.size + 1 + 1 + 1, 1, none⟩) (by simp; try omega) _).setCell (p := ⟨w.heap.size + 1 + 1 + 1, 2, none⟩) (by simp; try omega) _).setCell (p := ⟨w.heap.size + 1 + 1 + 1, 3, none⟩) (by simp; try omega) _)
    · exact (((((((HG8.out.setCell (p := ⟨w.heap.size + 1 + 1, 0, none⟩) (by simp; try omega) _).setCell (p := ⟨w.heap.size + 1 + 1, 1, none⟩) (by simp; try omega) _).setCell (p := ⟨w.heap.size + 1 + 1, 2, none⟩) (by simp; try omega) _).setCell (p := ⟨w.heap.size + 1 + 1 + 1, 0, none⟩) (by simp; try omega) _).setCell (p := ⟨w.heap.size + 1 + 1 + 1, 1, none⟩) (by simp; try omega) _).setCell (p := ⟨w.heap.size + 1 + 1 + 1, 2, none⟩) (by simp; try omega) _).setCell (p := ⟨w.heap.size + 1 + 1 + 1, 3, none⟩) (by simp; try omega) _)
end Go.Proofs.YtmgpnpmdmelnkaaGreatDoor
namespace Go.Proofs.YtmgpnpmdmelnkaaGreatDoor
open Go.ChangeShapes Go.WideShapes Go.ChangeAt Go.RowKit
set_option linter.unusedVariables false
set_option linter.unusedSimpArgs false
/-- The document's pump: what is held, the last token, what was granted, what waits on. -/
def pumpStep (s : List RL × Int × List RL × List RL) (x : RL) : List RL × Int × List RL × List RL :=
  if s.2.1 < 18446744073709551615 ∧ mayR s.1 s.2.2.2 x = true then (s.1 ++ [x.tokd (s.2.1 + 1)], s.2.1 + 1, s.2.2.1 ++ [x.tokd (s.2.1 + 1)], s.2.2.2) else (s.1, s.2.1, s.2.2.1, s.2.2.2 ++ [x])
def pumpF (H : List RL) (last : Int) (L : List RL) : List RL × Int × List RL × List RL := L.foldl pumpStep (H, last, [], [])
theorem pumpF_snoc (H : List RL) (last : Int) (L : List RL) (j : Nat) (h : j < L.length) : pumpF H last (L.take (j + 1)) = pumpStep (pumpF H last (L.take j)) L[j] := by
  unfold pumpF
  rw [List.take_succ_eq_append_getElem h, List.foldl_append]
  rfl
structure PmP (w : World) (H : List RL) (j : Nat) (s : List RL × Int × List RL × List RL) : Prop where
  lies : (∀ x ∈ s.1, x.lies w) ∧ (∀ x ∈ s.2.2.1, x.lies w) ∧ ∀ x ∈ s.2.2.2, x.lies w
  len : s.1.length ≤ H.length + j ∧ s.2.2.1.length ≤ j ∧ s.2.2.2.length ≤ j
  last : 0 ≤ s.2.1 ∧ s.2.1 ≤ 18446744073709551615
theorem PmP.step {w : World} {H : List RL} {j : Nat} {s : List RL × Int × List RL × List RL} (h : PmP w H j s) {x : RL} (hx : x.lies w) : PmP w H (j + 1) (pumpStep s x) := by
  obtain ⟨h1, h2, h3⟩ := h.len
  unfold pumpStep
  split
  · rename_i hc
    refine ⟨⟨fun y hy => ?_, fun y hy => ?_, h.lies.2.2⟩, ⟨?_, ?_, by show s.2.2.2.length ≤ _; omega⟩, ?_⟩
    · rcases List.mem_append.1 hy with hy | hy
      · exact h.lies.1 y hy
      · rw [List.mem_singleton.1 hy]; exact RL.tokd_lies hx _
    · rcases List.mem_append.1 hy with hy | hy
      · exact h.lies.2.1 y hy
      · rw [List.mem_singleton.1 hy]; exact RL.tokd_lies hx _
    · show (s.1 ++ [_]).length ≤ _
      rw [List.length_append, List.length_singleton]; omega
    · show (s.2.2.1 ++ [_]).length ≤ _
      rw [List.length_append, List.length_singleton]; omega
    · have := h.last
      have := hc.1
      show 0 ≤ s.2.1 + 1 ∧ s.2.1 + 1 ≤ _
      omega
  · refine ⟨⟨h.lies.1, h.lies.2.1, fun y hy => ?_⟩, ⟨by show s.1.length ≤ _; omega, by show s.2.2.1.length ≤ _; omega, ?_⟩, h.last⟩
    · rcases List.mem_append.1 hy with hy | hy
      · exact h.lies.2.2 y hy
      · rw [List.mem_singleton.1 hy]; exact hx
    · show (s.2.2.2 ++ [x]).length ≤ _
      rw [List.length_append, List.length_singleton]; omega
structure PmIs (w wr : World) (n : Nat) (vW : Value) (s : List RL × Int × List RL × List RL) (vH v3 v4 : Value) : Prop where
  g : Gr w wr
  blk : Blk wr n #[vH, vW, .int .u64 s.2.1] 29
  r1 : wr.ownsRow 0 71 4 vH s.1.length (rcells encRL s.1)
  r3 : wr.ownsRow w.heap.size 71 4 v3 s.2.2.1.length (rcells encRL s.2.2.1)
  r4 : wr.ownsRow w.heap.size 71 4 v4 s.2.2.2.length (rcells encRL s.2.2.2)
  n34 : v3.ownBlock = none ∨ v3.ownBlock ≠ v4.ownBlock
  n13 : vH.ownBlock = none ∨ vH.ownBlock ≠ v3.ownBlock
  n14 : vH.ownBlock = none ∨ vH.ownBlock ≠ v4.ownBlock
variable {w wr wx : World} {n : Nat} {vW vH v3 v4 : Value} {s : List RL × Int × List RL × List RL}
theorem PmIs.gr (h : PmIs w wr n vW s vH v3 v4) (hg : Gr wr wx) : PmIs w wx n vW s vH v3 v4 :=
  ⟨h.g.trans hg, h.blk.gr hg, ownsRow_gr hg h.r1, ownsRow_gr hg h.r3, ownsRow_gr hg h.r4, h.n34, h.n13, h.n14⟩
/-- Another row of those held, and another last token, behind what wrote them into the book's block. -/
theorem PmIs.held (h : PmIs w wr n vW s vH v3 v4) (hg : Gr wr wx) {H : List RL} {t : Int} {vH' : Value} (hr : wx.ownsRow wr.heap.size 71 4 vH' H.length (rcells encRL H)) (hb : w.heap.size ≤ n) :
    PmIs w (((wx.setCell ⟨n, 0, none⟩ vH').setCell ⟨n, 1, none⟩ vW).setCell ⟨n, 2, none⟩ (.int .u64 t)) n vW (H, t, s.2.2.1, s.2.2.2) vH' v3 v4 := by
  have hlt := h.blk.lt
  have hB := h.blk.gr hg
  have hs : ∀ {base k m : Nat} {v : Value} {xs : List Value}, wx.ownsRow base 71 k v m xs → (((wx.setCell ⟨n, 0, none⟩ vH').setCell ⟨n, 1, none⟩ vW).setCell ⟨n, 2, none⟩ (.int .u64 t)).ownsRow base 71 k v m xs := fun hr => by
    have hne := row_offL hB hr (by decide)
    exact ownsRow_setCell_other (a := ⟨n, 2, none⟩) (ownsRow_setCell_other (a := ⟨n, 1, none⟩) (ownsRow_setCell_other (a := ⟨n, 0, none⟩) hr hne _) hne _) hne _
  have hnew : ∀ {base m : Nat} {v : Value} {xs : List Value}, wr.ownsRow base 71 4 v m xs → (vH'.ownBlock = none ∨ vH'.ownBlock ≠ v.ownBlock) := fun h9 => by
    rcases hq : vH'.ownBlock with _ | k
    · exact .inl rfl
    · exact .inr fun e => by have := (hr.lt k hq).1; have := (h9.lt k e.symm).2; omega
  refine ⟨?_, ?_, hs (ownsRow_lower hr (Nat.zero_le _)), hs (ownsRow_gr hg h.r3), hs (ownsRow_gr hg h.r4), h.n34, hnew h.r3, hnew h.r4⟩
  · exact (((h.g.trans hg).setCell (p := ⟨n, 0, none⟩) hb _).setCell (p := ⟨n, 1, none⟩) hb _).setCell (p := ⟨n, 2, none⟩) hb _
  · exact ((hB.set 0 _).set 1 _).set 2 _
theorem pm_ne {v va va' : Value} {m g base k : Nat} {e : TypeId} {xs : List Value} (hr : wr.ownsRow base e k v m xs) (hn : v.ownBlock = none ∨ v.ownBlock ≠ va.ownBlock) (hown : va'.ownBlock = some g) (hat : va.ownBlock = some g ∨ g = wr.heap.size) : v.ownBlock = none ∨ v.ownBlock ≠ va'.ownBlock := by
  rcases hq : v.ownBlock with _ | k
  · exact .inl rfl
  · refine .inr (fun e => ?_)
    rw [hown] at e
    obtain rfl : k = g := Option.some.inj e
    rcases hat with h3 | h3
    · rcases hn with h4 | h4
      · rw [hq] at h4; simp at h4
      · exact h4 (hq.trans h3.symm)
    · have := (hr.lt _ hq).2; omega
theorem PmIs.put3 (h : PmIs w wr n vW s vH v3 v4) {y : RL} {v3' : Value} {g : Nat} (hg : wr.grownBy wx v3.ownBlock) (ho : wx.ownsRow w.heap.size 71 4 v3' (s.2.2.1.length + 1) (rcells encRL s.2.2.1 ++ encRL y)) (hown : v3'.ownBlock = some g) (hat : v3.ownBlock = some g ∨ g = wr.heap.size) : PmIs w wx n vW (s.1, s.2.1, s.2.2.1 ++ [y], s.2.2.2) vH v3' v4 := by
  refine ⟨Gr.append h.g h.r3 hg, h.blk.keptB hg (row_offL h.blk h.r3 (by decide)), h.r1.kept hg h.n13, ?_, h.r4.kept hg (ne_swap h.n34), ne_swap (pm_ne h.r4 (ne_swap h.n34) hown hat), pm_ne h.r1 h.n13 hown hat, h.n14⟩
  show wx.ownsRow _ _ _ _ (s.2.2.1 ++ [y]).length (rcells encRL (s.2.2.1 ++ [y]))
  rw [List.length_append, rcells_append]
  exact ho
theorem PmIs.put4 (h : PmIs w wr n vW s vH v3 v4) {y : RL} {v4' : Value} {g : Nat} (hg : wr.grownBy wx v4.ownBlock) (ho : wx.ownsRow w.heap.size 71 4 v4' (s.2.2.2.length + 1) (rcells encRL s.2.2.2 ++ encRL y)) (hown : v4'.ownBlock = some g) (hat : v4.ownBlock = some g ∨ g = wr.heap.size) : PmIs w wx n vW (s.1, s.2.1, s.2.2.1, s.2.2.2 ++ [y]) vH v3 v4' := by
  refine ⟨Gr.append h.g h.r4 hg, h.blk.keptB hg (row_offL h.blk h.r4 (by decide)), h.r1.kept hg h.n14, h.r3.kept hg h.n34, ?_, pm_ne h.r3 h.n34 hown hat, h.n13, pm_ne h.r1 h.n14 hown hat⟩
  show wx.ownsRow _ _ _ _ (s.2.2.2 ++ [y]).length (rcells encRL (s.2.2.2 ++ [y]))
  rw [List.length_append, rcells_append]
  exact ho
/-- The answer of pump: the book by value, with what was granted. -/
structure PumpIs (w' : World) (base : Nat) (v1 v2 v3 : Value) (s : List RL × Int × List RL × List RL) : Prop where
  h : RRow22 w' 0 v1 s.1
  w : RRow22 w' base v2 s.2.2.2
  o : RRow22 w' base v3 s.2.2.1
end Go.Proofs.YtmgpnpmdmelnkaaGreatDoor
namespace Go.Proofs.YtmgpnpmdmelnkaaGreatDoor
open Go.ChangeShapes Go.WideShapes Go.ChangeAt Go.RowKit
set_option linter.unusedVariables false
set_option linter.unusedSimpArgs false
variable {w wr wx : World} {n : Nat} {vW vH v3 v4 : Value} {s : List RL × Int × List RL × List RL}
set_option maxRecDepth 100000 in
set_option maxHeartbeats 4000000 in
theorem refPump_any {bH bW : Nat} {vH vW : Value} {last : Int} (H W : List RL) (w : World) (hH : RRow22 w bH vH H) (hW : RRow22 w bW vW W) (hl : H.length + W.length ≤ 400) (ht : 0 ≤ last ∧ last ≤ 18446744073709551615) :
    Calls Tryz.prog 52 #[.agg #[vH, vW, .int .u64 last]] w fun e w' => ∃ v1 v2 v3, e = .returned (.tuple #[.agg #[v1, v2, .int .u64 (pumpF H last W).2.1], v3]) ∧ PumpIs w' w.heap.size v1 v2 v3 (pumpF H last W) ∧ Gr w w' := by
  obtain ⟨i0, hi, hz0, hz1, hz2⟩ : ∃ i0 : TypeInfo, Tryz.prog.info? 71 = some i0 ∧ i0.zero = some (.agg #[.int .i64 0, .slice none 0 0, .bool false, .int .u64 0]) ∧ i0.size = 4 ∧ i0.bytes = 48 := ⟨_, rfl, rfl, rfl, rfl⟩
  obtain ⟨aH, cH, rfl, _⟩ := ownsRow_slice hH.1
  obtain ⟨aW, cW, rfl, _⟩ := ownsRow_slice hW.1
  have HWR := Lib.hid hW
  have HSN := Lib.hid (fun k (hk : k < W.length) => pumpF_snoc H last W k hk)
  have HP0 : Hid (PmP w H 0 (H, last, [], [])) := Lib.hid ⟨⟨hH.2, fun x hx => by simp at hx, fun x hx => by simp at hx⟩, ⟨by simp, by simp, by simp⟩, ht⟩
  have z1 : ∀ (w : World) (o : Obj), (w.alloc o).heap.size = w.heap.size + 1 := fun w o => by simp
  have HB := Lib.hid ((((Blk.new w #[.slice aH H.length cH, .slice aW W.length cW, .int .u64 last] 29).gr ((Gr.refl _).alloc (.cells #[.slice none 0 0, .slice none 0 0, .int .u64 0] 29))).gr ((Gr.refl _).alloc (.cells #[] 71))).gr ((Gr.refl _).alloc (.cells #[] 71)))
  have HR := Lib.hid (((Blk.new (w.alloc (.cells #[.slice aH H.length cH, .slice aW W.length cW, .int .u64 last] 29)) #[.slice none 0 0, .slice none 0 0, .int .u64 0] 29).gr ((Gr.refl _).alloc (.cells #[] 71))).gr ((Gr.refl _).alloc (.cells #[] 71)))
  have HG0 := Lib.hid (((((Gr.refl w).alloc (.cells #[.slice aH H.length cH, .slice aW W.length cW, .int .u64 last] 29)).alloc (.cells #[.slice none 0 0, .slice none 0 0, .int .u64 0] 29)).alloc (.cells #[] 71)).alloc (.cells #[] 71))
  have HO3 := Lib.hid (((World.ownsRow_made (base := w.heap.size) (e := 71) (size := 4) ((w.alloc (.cells #[.slice aH H.length cH, .slice aW W.length cW, .int .u64 last] 29)).alloc (.cells #[.slice none 0 0, .slice none 0 0, .int .u64 0] 29)) #[] 0 (by rw [z1, z1]; omega) (by unfold maxLen; omega) rfl)).alloc (.cells #[] 71))
  have HO4 := Lib.hid (World.ownsRow_made (base := w.heap.size) (e := 71) (size := 4) (((w.alloc (.cells #[.slice aH H.length cH, .slice aW W.length cW, .int .u64 last] 29)).alloc (.cells #[.slice none 0 0, .slice none 0 0, .int .u64 0] 29)).alloc (.cells #[] 71)) #[] 0 (by rw [z1, z1, z1]; omega) (by unfold maxLen; omega) rfl)
  have HH1 := Lib.hid (ownsRow_lower (ownsRow_gr HG0.out hH.1) (Nat.zero_le _))
  have HOB := Lib.hid (show ∀ k, (Value.slice aH H.length cH).ownBlock = some k → k < w.heap.size from fun k e => (hH.1.lt k e).2)
  simp only [z1] at HR HO3 HO4
  clear z1 hH hW ht
  go_enter Tryz.func52, Tryz.ntmps52
  go_upto_region 3 with fail
  generalize (((w.alloc (.cells #[.slice aH H.length cH, .slice aW W.length cW, .int .u64 last] 29)).alloc (.cells #[.slice none 0 0, .slice none 0 0, .int .u64 0] 29)).alloc (.cells #[] 71)).alloc (.cells #[] 71) = w1 at *
  have HS0 : Hid (PmIs w w1 w.heap.size (.slice aW W.length cW) (H, last, [], []) (.slice aH H.length cH) (.slice (some ⟨w.heap.size + 1 + 1, 0, none⟩) 0 0) (.slice (some ⟨w.heap.size + 1 + 1 + 1, 0, none⟩) 0 0)) := Lib.hid
    ⟨HG0.out, HB.out, HH1.out, HO3.out, HO4.out, .inr (by simp [Value.ownBlock]), (by rcases hq : (Value.slice aH H.length cH).ownBlock with _ | k; exact .inl rfl; exact .inr (fun e => by have := HOB.out k hq; simp [Value.ownBlock] at e; omega)), (by rcases hq : (Value.slice aH H.length cH).ownBlock with _ | k; exact .inl rfl; exact .inr (fun e => by have := HOB.out k hq; simp [Value.ownBlock] at e; omega))⟩
  have c1 := HB.out.cell (i := 1) rfl
  go_wp2_with fail
  go_loopw [4, 5, 15] (fun x3 x4 i wr => ∃ (j : Nat) (s : List RL × Int × List RL × List RL) (u1 : Value), j ≤ W.length ∧ i = .int .i64 j ∧ Hid (pumpF H last (W.take j) = s) ∧ Hid (PmP w H j s) ∧ Hid (PmIs w wr w.heap.size (.slice aW W.length cW) s u1 x3 x4) ∧ Hid (Blk wr (w.heap.size + 1) #[.slice none 0 0, .slice none 0 0, .int .u64 0] 29)) (fun _ _ i _ => W.length - (intOf i).toNat)
  case atStart => exact ⟨0, _, _, by omega, rfl, Lib.hid rfl, HP0, HS0, HR⟩
  case round =>
    clear HS0 HP0 c1 HH1 HO3 HO4 HB HR
    obtain ⟨j, s, u1, hj, rfl, hs, hP, hI, hR⟩ := hrel
    by_cases hlt : j < W.length
    · obtain ⟨g, cap, hv, d0, d1, d2, d3, hlies⟩ := rlrow_at (HWR.out.gr hI.out.g) j hlt
      simp only [Value.slice.injEq] at hv
      obtain ⟨rfl, hnn, rfl⟩ := hv
      clear hnn hlies
      have HST := Lib.hid (HSN.out j hlt)
      rw [hs.out] at HST
      have HPY := Lib.hid (HWR.out.2 _ (List.getElem_mem hlt))
      have HPN := Lib.hid (hP.out.step HPY.out)
      have HLEN : Hid (s.1.length + s.2.2.1.length + s.2.2.2.length + 3 ≤ 1300) := Lib.hid (by have := hP.out.len; omega)
      have HIX := Lib.hid (hI.out.gr ((Gr.refl wr).alloc (.cells #[.int .i64 W[j].ses, .slice W[j].a W[j].l.length W[j].c, .bool W[j].ex, .int .u64 W[j].tok] 71)))
      have HYX := Lib.hid (Blk.new wr #[.int .i64 W[j].ses, .slice W[j].a W[j].l.length W[j].c, .bool W[j].ex, .int .u64 W[j].tok] 71)
      have HRX := Lib.hid (hR.out.gr ((Gr.refl wr).alloc (.cells #[.int .i64 W[j].ses, .slice W[j].a W[j].l.length W[j].c, .bool W[j].ex, .int .u64 W[j].tok] 71)))
      generalize W[j] = y at *
      go_upto_region 6 with fail
      generalize wr.alloc (.cells #[.int .i64 y.ses, .slice y.a y.l.length y.c, .bool y.ex, .int .u64 y.tok] 71) = wx at *
      generalize wr.heap.size = c at *
      obtain ⟨a1, c1, rfl, _⟩ := ownsRow_slice HIX.out.r1
      obtain ⟨a4, c4, rfl, _⟩ := ownsRow_slice HIX.out.r4
      clear d0 d1 d2 d3 hI
      have b0 := HIX.out.blk.cell (i := 0) rfl
      have b1 := HIX.out.blk.cell (i := 1) rfl
      have b2 := HIX.out.blk.cell (i := 2) rfl
      have y0 := HYX.out.cell (i := 0) rfl
      have y1 := HYX.out.cell (i := 1) rfl
      have y2 := HYX.out.cell (i := 2) rfl
      have y3 := HYX.out.cell (i := 3) rfl
      by_cases hla : s.2.1 < 18446744073709551615
      · have hld : decide (s.2.1 < 18446744073709551615) = true := decide_eq_true hla
        have HM := Lib.hid (refMay_any (vW := .slice (some ⟨g, 0, none⟩) W.length cW) (last := s.2.1) s.1 s.2.2.2 y wx ⟨HIX.out.r1, fun x hx => (hP.out.lies.1 x hx).gr HIX.out.g⟩ ⟨HIX.out.r4, fun x hx => (hP.out.lies.2.2 x hx).gr HIX.out.g⟩ (HPY.out.gr HIX.out.g) (by have := hP.out.len; omega))
        cases hq : mayR s.1 s.2.2.2 y
        · rw [show pumpStep s y = (s.1, s.2.1, s.2.2.1, s.2.2.2 ++ [y]) by unfold pumpStep; rw [if_neg (fun h => by rw [hq] at h; simp at h)]] at HST HPN
          rw [hq] at HM
          clear hq hla
          go_wp2_with fail
          refine HM.out.mono ?_
          rintro e w5 ⟨rfl, hg5⟩
          have HI5 := Lib.hid (HIX.out.gr hg5)
          have HYB := Lib.hid (HYX.out.gr hg5)
          have HR5 := Lib.hid (HRX.out.gr hg5)
          clear y0 y1 y2 y3 b0 b1 b2 hg5 HM HIX HYX HRX
          have y0 := HYB.out.cell (i := 0) rfl
          have y1 := HYB.out.cell (i := 1) rfl
          have y2 := HYB.out.cell (i := 2) rfl
          have y3 := HYB.out.cell (i := 3) rfl
          have hrow := ownsRow_gr ((Gr.refl w5).alloc (.cells #[.int .i64 y.ses, .slice y.a y.l.length y.c, .bool y.ex, .int .u64 y.tok] 71)) HI5.out.r4
          go_wp2_with (at_builtin; go_loud (refine wpList_append_lies _ rfl (.tmp 39) (.tmp 41) 27 rfl w.heap.size 71 i0 (.agg #[.int .i64 0, .slice none 0 0, .bool false, .int .u64 0]) 4 48 Tryz.underlying27 hi hz0 hz1 hz2 rfl (by decide) _ _ _ rfl hrow ⟨w5.heap.size, 0, none⟩ 1 1 [.int .i64 y.ses, .slice y.a y.l.length y.c, .bool y.ex, .int .u64 y.tok] rfl (by simp) ?ka1 ?ka2 Nat.one_pos ?ka3 ?ka4 ?ka5 _ rfl ?_))
          try (case ka1 => exact World.news_of_block (cs := #[.int .i64 y.ses, .slice y.a y.l.length y.c, .bool y.ex, .int .u64 y.tok]) (t := 71) (fr := (0, 0)) (heap_alloc_new w5 (.cells #[.int .i64 y.ses, .slice y.a y.l.length y.c, .bool y.ex, .int .u64 y.tok] 71)))
          case ka2 => first | (intro u hu; simp at hu; rcases hu with rfl | rfl | rfl | rfl <;> rfl) | exact ⟨rfl, rfl, rfl, rfl⟩
          case ka3 => have := HLEN.out; unfold maxLen; omega
          case ka4 => have := HLEN.out; omega
          case ka5 => have := HI5.out.g.size; simp; omega
          intro g7 cap7 w7 hown7 hgrow7 hat7 hlt7
          have HI7 := Lib.hid ((HI5.out.gr ((Gr.refl w5).alloc (.cells #[.int .i64 y.ses, .slice y.a y.l.length y.c, .bool y.ex, .int .u64 y.tok] 71))).put4 (y := y) hgrow7 hown7 rfl (hat7.imp id (fun h => h.trans (by simp))))
          have HR7 := Lib.hid ((HR5.out.gr ((Gr.refl w5).alloc (.cells #[.int .i64 y.ses, .slice y.a y.l.length y.c, .bool y.ex, .int .u64 y.tok] 71))).keptB hgrow7 (row_offL (HR5.out.gr ((Gr.refl w5).alloc (.cells #[.int .i64 y.ses, .slice y.a y.l.length y.c, .bool y.ex, .int .u64 y.tok] 71))) hrow (by decide)))
          clear hown7 hgrow7 hat7 hlt7 hrow y0 y1 y2 y3
          go_wp2
          exact ⟨⟨j + 1, _, _, hlt, by simp, HST, HPN, HI7, HR7⟩, by simp [intOf]; omega⟩
        · skip
          rw [show pumpStep s y = (s.1 ++ [y.tokd (s.2.1 + 1)], s.2.1 + 1, s.2.2.1 ++ [y.tokd (s.2.1 + 1)], s.2.2.2) by unfold pumpStep; rw [if_pos ⟨hla, hq⟩]] at HST HPN
          have HLA := Lib.hid hla
          rw [hq] at HM
          clear hq hla
          go_wp2_with fail
          refine HM.out.mono ?_
          rintro e w5 ⟨rfl, hg5⟩
          have HI5 := Lib.hid (HIX.out.gr hg5)
          have HYB := Lib.hid (HYX.out.gr hg5)
          have HR5 := Lib.hid (HRX.out.gr hg5)
          clear y0 y1 y2 y3 b0 b1 b2 hg5 HM HIX HYX HRX
          have y0 := HYB.out.cell (i := 0) rfl
          have y1 := HYB.out.cell (i := 1) rfl
          have y2 := HYB.out.cell (i := 2) rfl
          have y3 := HYB.out.cell (i := 3) rfl
          have b0 := HI5.out.blk.cell (i := 0) rfl
          have b1 := HI5.out.blk.cell (i := 1) rfl
          have b2 := HI5.out.blk.cell (i := 2) rfl
          have HLW := Lib.hid (HPY.out.gr HI5.out.g : RL.lies w5 y)
          go_wp2_with fail
          refine (refGrant_any s.1 y w5 ⟨HI5.out.r1, fun x hx => (hP.out.lies.1 x hx).gr HI5.out.g⟩ HLW.out (by have := hP.out.len; omega) (by have := hP.out.last; have := HLA.out; omega)).mono ?_
          rintro e w6 ⟨v', rfl, hr6, hg6⟩
          obtain ⟨a6, c6, rfl, _⟩ := ownsRow_slice hr6.1
          have HR6 := Lib.hid hr6.1
          have HG6 := Lib.hid hg6
          have HBN := Lib.hid (HI5.out.blk.gr hg6)
          clear y0 y1 y2 y3 b0 b1 b2 hr6 hg6 HYB HLW
          have z0 := HBN.out.cell (i := 0) rfl
          have z1 := HBN.out.cell (i := 1) rfl
          have z2 := HBN.out.cell (i := 2) rfl
          have k0 := HBN.out.free 0
          have k1 := HBN.out.free 1
          have k2 := HBN.out.free 2
          have HL6 := Lib.hid (show (s.1 ++ [y.tokd (s.2.1 + 1)]).length = s.1.length + 1 by rw [List.length_append, List.length_singleton])
          go_upto_region 8 with fail
          have z1 : ∀ (w : World) (o : Obj), (w.alloc o).heap.size = w.heap.size + 1 := fun w o => by simp
          have hga := ((Gr.refl w6).alloc (.cells #[.slice a6 (s.1.length + 1) c6, .slice (some ⟨g, 0, none⟩) W.length cW, .int .u64 (s.2.1 + 1)] 29)).alloc (.cells #[.int .i64 y.ses, .slice y.a y.l.length y.c, .bool y.ex, .int .u64 (s.2.1 + 1)] 71)
          have HNB := Lib.hid ((Blk.new w6 #[.slice a6 (s.1.length + 1) c6, .slice (some ⟨g, 0, none⟩) W.length cW, .int .u64 (s.2.1 + 1)] 29).gr ((Gr.refl _).alloc (.cells #[.int .i64 y.ses, .slice y.a y.l.length y.c, .bool y.ex, .int .u64 (s.2.1 + 1)] 71)))
          have HNL := Lib.hid (Blk.new (w6.alloc (.cells #[.slice a6 (s.1.length + 1) c6, .slice (some ⟨g, 0, none⟩) W.length cW, .int .u64 (s.2.1 + 1)] 29)) #[.int .i64 y.ses, .slice y.a y.l.length y.c, .bool y.ex, .int .u64 (s.2.1 + 1)] 71)
          rw [z1] at HNL
          have HGA := Lib.hid (HG6.out.trans hga)
          have HR7 := Lib.hid (ownsRow_gr hga HR6.out)
          have HBM := Lib.hid (HBN.out.gr hga)
          have HRM := Lib.hid ((HR5.out.gr HG6.out).gr hga)
          have HN6 := Lib.hid HBN.out.lt
          clear z0 z1 z2 k0 k1 k2 hga HR6 HG6 HBN HR5
          generalize (w6.alloc (.cells #[.slice a6 (s.1.length + 1) c6, .slice (some ⟨g, 0, none⟩) W.length cW, .int .u64 (s.2.1 + 1)] 29)).alloc (.cells #[.int .i64 y.ses, .slice y.a y.l.length y.c, .bool y.ex, .int .u64 (s.2.1 + 1)] 71) = w7 at *
          generalize w6.heap.size = c6s at *
          have z0 := HBM.out.cell (i := 0) rfl
          have z1 := HBM.out.cell (i := 1) rfl
          have z2 := HBM.out.cell (i := 2) rfl
          have k0 := HBM.out.free 0
          have k1 := HBM.out.free 1
          have k2 := HBM.out.free 2
          have m0 := HNB.out.cell (i := 0) rfl
          have m1 := HNB.out.cell (i := 1) rfl
          have m2 := HNB.out.cell (i := 2) rfl
          have HI8 := Lib.hid (HI5.out.held HGA.out (H := s.1 ++ [y.tokd (s.2.1 + 1)]) (t := s.2.1 + 1) (vH' := .slice a6 (s.1.length + 1) c6) (by have h9 := HR7.out; rw [HL6.out] at h9 ⊢; exact h9) (Nat.le_refl _))
          have HNL8 := Lib.hid (((HNL.out.other (c := w.heap.size) (by have := HN6.out; omega) 0 (.slice a6 (s.1.length + 1) c6)).other (c := w.heap.size) (by have := HN6.out; omega) 1 (.slice (some ⟨g, 0, none⟩) W.length cW)).other (c := w.heap.size) (by have := HN6.out; omega) 2 (.int .u64 (s.2.1 + 1)))
          have HRM8 := Lib.hid (((HRM.out.other (c := w.heap.size) (by omega) 0 (.slice a6 (s.1.length + 1) c6)).other (c := w.heap.size) (by omega) 1 (.slice (some ⟨g, 0, none⟩) W.length cW)).other (c := w.heap.size) (by omega) 2 (.int .u64 (s.2.1 + 1)))
          go_upto_region 9 with fail
          generalize ((w7.setCell ⟨w.heap.size, 0, none⟩ (.slice a6 (s.1.length + 1) c6)).setCell ⟨w.heap.size, 1, none⟩ (.slice (some ⟨g, 0, none⟩) W.length cW)).setCell ⟨w.heap.size, 2, none⟩ (.int .u64 (s.2.1 + 1)) = w8 at *
          clear z0 z1 z2 k0 k1 k2 m0 m1 m2 HNB HNL HBM HRM HGA HI5 HR7
          have y0 := HNL8.out.cell (i := 0) rfl
          have y1 := HNL8.out.cell (i := 1) rfl
          have y2 := HNL8.out.cell (i := 2) rfl
          have y3 := HNL8.out.cell (i := 3) rfl
          obtain ⟨a3, c3, hv3, _⟩ := ownsRow_slice HI8.out.r3
          subst hv3
          have hrow := ownsRow_gr ((Gr.refl w8).alloc (.cells #[.int .i64 y.ses, .slice y.a y.l.length y.c, .bool y.ex, .int .u64 (s.2.1 + 1)] 71)) HI8.out.r3
          go_wp2_with (at_builtin; go_loud (refine wpList_append_lies _ rfl (.tmp 35) (.tmp 37) 27 rfl w.heap.size 71 i0 (.agg #[.int .i64 0, .slice none 0 0, .bool false, .int .u64 0]) 4 48 Tryz.underlying27 hi hz0 hz1 hz2 rfl (by decide) _ _ _ rfl hrow ⟨w8.heap.size, 0, none⟩ 1 1 [.int .i64 y.ses, .slice y.a y.l.length y.c, .bool y.ex, .int .u64 (s.2.1 + 1)] rfl (by simp) ?kg1 ?kg2 Nat.one_pos ?kg3 ?kg4 ?kg5 _ rfl ?_))
          try (case kg1 => exact World.news_of_block (cs := #[.int .i64 y.ses, .slice y.a y.l.length y.c, .bool y.ex, .int .u64 (s.2.1 + 1)]) (t := 71) (fr := (0, 0)) (heap_alloc_new w8 (.cells #[.int .i64 y.ses, .slice y.a y.l.length y.c, .bool y.ex, .int .u64 (s.2.1 + 1)] 71)))
          case kg2 => first | (intro u hu; simp at hu; rcases hu with rfl | rfl | rfl | rfl <;> rfl) | exact ⟨rfl, rfl, rfl, rfl⟩
          case kg3 => have := HLEN.out; unfold maxLen; omega
          case kg4 => have := HLEN.out; omega
          case kg5 => have := HI8.out.g.size; simp; omega
          intro g7 cap7 w7 hown7 hgrow7 hat7 hlt7
          have HI9 := Lib.hid ((HI8.out.gr ((Gr.refl w8).alloc (.cells #[.int .i64 y.ses, .slice y.a y.l.length y.c, .bool y.ex, .int .u64 (s.2.1 + 1)] 71))).put3 (y := y.tokd (s.2.1 + 1)) hgrow7 hown7 rfl (hat7.imp id (fun h => h.trans (by simp))))
          have HR9 := Lib.hid ((HRM8.out.gr ((Gr.refl w8).alloc (.cells #[.int .i64 y.ses, .slice y.a y.l.length y.c, .bool y.ex, .int .u64 (s.2.1 + 1)] 71))).keptB hgrow7 (row_offL (HRM8.out.gr ((Gr.refl w8).alloc (.cells #[.int .i64 y.ses, .slice y.a y.l.length y.c, .bool y.ex, .int .u64 (s.2.1 + 1)] 71))) hrow (by decide)))
          clear hown7 hgrow7 hat7 hlt7 hrow y0 y1 y2 y3
          go_wp2
          exact ⟨⟨j + 1, _, _, hlt, by simp, HST, HPN, HI9, HR9⟩, by simp [intOf]; omega⟩
      · have hld : decide (s.2.1 < 18446744073709551615) = false := decide_eq_false hla
        rw [show pumpStep s y = (s.1, s.2.1, s.2.2.1, s.2.2.2 ++ [y]) by unfold pumpStep; rw [if_neg (fun h => hla h.1)]] at HST HPN
        clear hla
        have HI5 := HIX
        have HYB := HYX
        have HR5 := HRX
        clear HIX HYX HRX b0 b1 y0 y1 y2 y3
        generalize wx = w5 at *
        have y0 := HYB.out.cell (i := 0) rfl
        have y1 := HYB.out.cell (i := 1) rfl
        have y2 := HYB.out.cell (i := 2) rfl
        have y3 := HYB.out.cell (i := 3) rfl
        have hrow := ownsRow_gr ((Gr.refl w5).alloc (.cells #[.int .i64 y.ses, .slice y.a y.l.length y.c, .bool y.ex, .int .u64 y.tok] 71)) HI5.out.r4
        go_wp2_with (at_builtin; go_loud (refine wpList_append_lies _ rfl (.tmp 39) (.tmp 41) 27 rfl w.heap.size 71 i0 (.agg #[.int .i64 0, .slice none 0 0, .bool false, .int .u64 0]) 4 48 Tryz.underlying27 hi hz0 hz1 hz2 rfl (by decide) _ _ _ rfl hrow ⟨w5.heap.size, 0, none⟩ 1 1 [.int .i64 y.ses, .slice y.a y.l.length y.c, .bool y.ex, .int .u64 y.tok] rfl (by simp) ?kb1 ?kb2 Nat.one_pos ?kb3 ?kb4 ?kb5 _ rfl ?_))
        try (case kb1 => exact World.news_of_block (cs := #[.int .i64 y.ses, .slice y.a y.l.length y.c, .bool y.ex, .int .u64 y.tok]) (t := 71) (fr := (0, 0)) (heap_alloc_new w5 (.cells #[.int .i64 y.ses, .slice y.a y.l.length y.c, .bool y.ex, .int .u64 y.tok] 71)))
        case kb2 => first | (intro u hu; simp at hu; rcases hu with rfl | rfl | rfl | rfl <;> rfl) | exact ⟨rfl, rfl, rfl, rfl⟩
        case kb3 => have := HLEN.out; unfold maxLen; omega
        case kb4 => have := HLEN.out; omega
        case kb5 => have := HI5.out.g.size; simp; omega
        intro g7 cap7 w7 hown7 hgrow7 hat7 hlt7
        have HI7 := Lib.hid ((HI5.out.gr ((Gr.refl w5).alloc (.cells #[.int .i64 y.ses, .slice y.a y.l.length y.c, .bool y.ex, .int .u64 y.tok] 71))).put4 (y := y) hgrow7 hown7 rfl (hat7.imp id (fun h => h.trans (by simp))))
        have HR7 := Lib.hid ((HR5.out.gr ((Gr.refl w5).alloc (.cells #[.int .i64 y.ses, .slice y.a y.l.length y.c, .bool y.ex, .int .u64 y.tok] 71))).keptB hgrow7 (row_offL (HR5.out.gr ((Gr.refl w5).alloc (.cells #[.int .i64 y.ses, .slice y.a y.l.length y.c, .bool y.ex, .int .u64 y.tok] 71))) hrow (by decide)))
        clear hown7 hgrow7 hat7 hlt7 hrow y0 y1 y2 y3
        go_wp2
        exact ⟨⟨j + 1, _, _, hlt, by simp, HST, HPN, HI7, HR7⟩, by simp [intOf]; omega⟩
    · obtain rfl : j = W.length := by omega
      rw [List.take_length] at hs
      obtain ⟨a1, c1, rfl, _⟩ := ownsRow_slice hI.out.r1
      obtain ⟨a3, c3, hv3, _⟩ := ownsRow_slice hI.out.r3
      obtain ⟨a4, c4, hv4, _⟩ := ownsRow_slice hI.out.r4
      subst hv3
      subst hv4
      have b1 := hI.out.blk.cell (i := 1) rfl
      have f1 := hI.out.blk.free 1
      have QB : Hid (Blk (wr.setCell ⟨w.heap.size, 1, none⟩ (.slice a4 s.2.2.2.length c4)) w.heap.size #[.slice a1 s.1.length c1, .slice a4 s.2.2.2.length c4, .int .u64 s.2.1] 29) := Lib.hid (hI.out.blk.set 1 _)
      have QR := Lib.hid (hR.out.other (c := w.heap.size) (by omega) 1 (.slice a4 s.2.2.2.length c4))
      have QG := Lib.hid (hI.out.g.setCell (p := ⟨w.heap.size, 1, none⟩) (Nat.le_refl _) (.slice a4 s.2.2.2.length c4))
      have Q1 := Lib.hid (ownsRow_setCell_other (a := ⟨w.heap.size, 1, none⟩) hI.out.r1 (row_offL hI.out.blk hI.out.r1 (by decide)) (.slice a4 s.2.2.2.length c4))
      have Q3 := Lib.hid (ownsRow_setCell_other (a := ⟨w.heap.size, 1, none⟩) hI.out.r3 (row_offL hI.out.blk hI.out.r3 (by decide)) (.slice a4 s.2.2.2.length c4))
      have Q4 := Lib.hid (ownsRow_setCell_other (a := ⟨w.heap.size, 1, none⟩) hI.out.r4 (row_offL hI.out.blk hI.out.r4 (by decide)) (.slice a4 s.2.2.2.length c4))
      go_upto_region 13 with fail
      generalize wr.setCell ⟨w.heap.size, 1, none⟩ (.slice a4 s.2.2.2.length c4) = w2 at *
      clear b1 f1 hI hR
      have b0 := QB.out.cell (i := 0) rfl
      have b1 := QB.out.cell (i := 1) rfl
      have b2 := QB.out.cell (i := 2) rfl
      have q0 := QR.out.cell (i := 0) rfl
      have q1 := QR.out.cell (i := 1) rfl
      have q2 := QR.out.cell (i := 2) rfl
      have f0 := QR.out.free 0
      have f1 := QR.out.free 1
      have f2 := QR.out.free 2
      go_wp2
      refine bodyPost_ret (v := .tuple #[.agg #[.slice a1 s.1.length c1, .slice a4 s.2.2.2.length c4, .int .u64 s.2.1], .slice a3 s.2.2.1.length c3]) (by simp [results, Tryz.results52, go_sem, q0, q1, q2, f0, f1, f2]; try rfl) rfl ?_
      have hgr : Gr w (((w2.setCell ⟨w.heap.size + 1, 0, none⟩ (.slice a1 s.1.length c1)).setCell ⟨w.heap.size + 1, 1, none⟩ (.slice a4 s.2.2.2.length c4)).setCell ⟨w.heap.size + 1, 2, none⟩ (.int .u64 s.2.1)) := ((QG.out.setCell (p := ⟨w.heap.size + 1, 0, none⟩) (Nat.le_succ _) _).setCell (p := ⟨w.heap.size + 1, 1, none⟩) (Nat.le_succ _) _).setCell (p := ⟨w.heap.size + 1, 2, none⟩) (Nat.le_succ _) _
      rw [hs.out]
      exact ⟨_, _, _, rfl, ⟨⟨(ownsRow_setCell_other (a := ⟨w.heap.size + 1, 2, none⟩) (ownsRow_setCell_other (a := ⟨w.heap.size + 1, 1, none⟩) (ownsRow_setCell_other (a := ⟨w.heap.size + 1, 0, none⟩) Q1.out (row_offL QR.out Q1.out (by decide)) _) (row_offL QR.out Q1.out (by decide)) _) (row_offL QR.out Q1.out (by decide)) _), fun x hx => (hP.out.lies.1 x hx).gr hgr⟩, ⟨(ownsRow_setCell_other (a := ⟨w.heap.size + 1, 2, none⟩) (ownsRow_setCell_other (a := ⟨w.heap.size + 1, 1, none⟩) (ownsRow_setCell_other (a := ⟨w.heap.size + 1, 0, none⟩) Q4.out (row_offL QR.out Q4.out (by decide)) _) (row_offL QR.out Q4.out (by decide)) _) (row_offL QR.out Q4.out (by decide)) _), fun x hx => (hP.out.lies.2.2 x hx).gr hgr⟩, ⟨(ownsRow_setCell_other (a := ⟨w.heap.size + 1, 2, none⟩) (ownsRow_setCell_other (a := ⟨w.heap.size + 1, 1, none⟩) (ownsRow_setCell_other (a := ⟨w.heap.size + 1, 0, none⟩) Q3.out (row_offL QR.out Q3.out (by decide)) _) (row_offL QR.out Q3.out (by decide)) _) (row_offL QR.out Q3.out (by decide)) _), fun x hx => (hP.out.lies.2.1 x hx).gr hgr⟩⟩, hgr⟩
end Go.Proofs.YtmgpnpmdmelnkaaGreatDoor
namespace Go.Proofs.YtmgpnpmdmelnkaaGreatDoor
open Go.ChangeShapes Go.WideShapes Go.ChangeAt Go.RowKit
set_option linter.unusedVariables false
set_option linter.unusedSimpArgs false
theorem pumpF_P {w : World} {H W : List RL} {last : Int} (hH : ∀ x ∈ H, x.lies w) (hW : ∀ x ∈ W, x.lies w) (ht : 0 ≤ last ∧ last ≤ 18446744073709551615) : PmP w H W.length (pumpF H last W) := by
  have key : ∀ j, j ≤ W.length → PmP w H j (pumpF H last (W.take j)) := by
    intro j
    induction j with
    | zero => intro _; exact ⟨⟨hH, fun x hx => by simp [pumpF] at hx, fun x hx => by simp [pumpF] at hx⟩, ⟨by simp [pumpF], by simp [pumpF], by simp [pumpF]⟩, ht⟩
    | succ j ih =>
      intro hj
      rw [pumpF_snoc H last W j (by omega)]
      exact (ih (by omega)).step (hW _ (List.getElem_mem (by omega)))
  have := key W.length (Nat.le_refl _)
  rwa [List.take_length] at this
variable {n : Nat} {vW vH v3 v4 : Value}
set_option maxRecDepth 100000 in
set_option maxHeartbeats 4000000 in
theorem refDrop_any {bH bW : Nat} {vH vW : Value} {last : Int} (H W : List RL) (s : Int) (w : World) (hH : RRow22 w bH vH H) (hW : RRow22 w bW vW W) (hl : H.length + W.length ≤ 400) (ht : 0 ≤ last ∧ last ≤ 18446744073709551615) :
    Calls Tryz.prog 28 #[.agg #[vH, vW, .int .u64 last], .int .i64 s] w fun e w' => ∃ v1 v2 v3, e = .returned (.tuple #[.agg #[v1, v2, .int .u64 (pumpF (H.filter (keepR s true [])) last (W.filter (keepR s true []))).2.1], v3]) ∧ PumpIs w' w.heap.size v1 v2 v3 (pumpF (H.filter (keepR s true [])) last (W.filter (keepR s true []))) ∧ Gr w w' := by
  obtain ⟨aH, cH, rfl, _⟩ := ownsRow_slice hH.1
  obtain ⟨aW, cW, rfl, _⟩ := ownsRow_slice hW.1
  have HRH := Lib.hid hH
  have HRW := Lib.hid hW
  have HT := Lib.hid ht
  obtain ⟨F0, hF0⟩ : ∃ l, H.filter (keepR s true []) = l := ⟨_, rfl⟩
  obtain ⟨F1, hF1⟩ : ∃ l, W.filter (keepR s true []) = l := ⟨_, rfl⟩
  rw [hF0, hF1]
  have HE0 := Lib.hid hF0
  have HE1 := Lib.hid hF1
  have HLS0 := Lib.hid (show ∀ wz : World, Gr w wz → ∀ x ∈ F0, x.lies wz from fun wz hz x hx => (hH.2 x (by rw [← hF0] at hx; exact (List.mem_filter.1 hx).1)).gr hz)
  have HLS1 := Lib.hid (show ∀ wz : World, Gr w wz → ∀ x ∈ F1, x.lies wz from fun wz hz x hx => (hW.2 x (by rw [← hF1] at hx; exact (List.mem_filter.1 hx).1)).gr hz)
  have HFL := Lib.hid (show F0.length + F1.length ≤ 400 by
    have h1 := List.length_filter_le (keepR s true []) H
    have h2 := List.length_filter_le (keepR s true []) W
    rw [hF0] at h1; rw [hF1] at h2; omega)
  obtain ⟨r, hr⟩ : ∃ r, pumpF F0 last F1 = r := ⟨_, rfl⟩
  rw [hr]
  have HPP := Lib.hid (show PmP w F0 F1.length r by rw [← hr]; exact pumpF_P (HLS0.out _ (Gr.refl _)) (HLS1.out _ (Gr.refl _)) HT.out)
  have HRR := Lib.hid hr
  clear hF0 hF1 hH hW ht hr
  have HP : Hid (Strs w none []) := Lib.hid (⟨by simp, by simp, .inl rfl⟩)
  have z1 : ∀ (w : World) (o : Obj), (w.alloc o).heap.size = w.heap.size + 1 := fun w o => by simp
  have QBw1 := Lib.hid ((Blk.new w #[.slice aH H.length cH, .slice aW W.length cW, .int .u64 last] 29).gr ((Gr.refl _).alloc (.cells #[.slice none 0 0, .slice none 0 0, .int .u64 0] 29)))
  have QRw1 := Lib.hid (Blk.new (w.alloc (.cells #[.slice aH H.length cH, .slice aW W.length cW, .int .u64 last] 29)) #[.slice none 0 0, .slice none 0 0, .int .u64 0] 29)
  have QGw1 := Lib.hid (((Gr.refl w).alloc (.cells #[.slice aH H.length cH, .slice aW W.length cW, .int .u64 last] 29)).alloc (.cells #[.slice none 0 0, .slice none 0 0, .int .u64 0] 29))
  simp only [z1] at QRw1
  clear z1
  go_enter Tryz.func28, Tryz.ntmps28
  go_upto_region 1 with fail
  generalize (w.alloc (.cells #[.slice aH H.length cH, .slice aW W.length cW, .int .u64 last] 29)).alloc (.cells #[.slice none 0 0, .slice none 0 0, .int .u64 0] 29) = w1 at *
  have b0 := QBw1.out.cell (i := 0) rfl
  go_wp2_with fail
  refine (refWithout_any H s true [] none 0 w1 (HRH.out.gr QGw1.out) (HP.out.gr QGw1.out) (by omega)).mono ?_
  rintro e w5 ⟨v5, rfl, hr5, hg5⟩
  obtain ⟨a0, c0, rfl, _⟩ := ownsRow_slice hr5.1
  rw [HE0.out] at hr5 ⊢
  have HO0 := Lib.hid (ownsRow_lower hr5.1 (Nat.zero_le _))
  have HB5 := Lib.hid (QBw1.out.gr hg5)
  have HR5 := Lib.hid (QRw1.out.gr hg5)
  have HG5 := Lib.hid (QGw1.out.trans hg5)
  have hg55 := Lib.hid hg5
  clear hr5 hg5 b0
  have z0 := HB5.out.cell (i := 0) rfl
  have k0 := HB5.out.free 0
  have QBw2 : Hid (Blk (w5.setCell ⟨w.heap.size, 0, none⟩ (.slice a0 F0.length c0)) w.heap.size #[.slice a0 F0.length c0, .slice aW W.length cW, .int .u64 last] 29) := Lib.hid (HB5.out.set 0 _)
  have QRw2 := Lib.hid (HR5.out.other (c := w.heap.size) (by omega) 0 (.slice a0 F0.length c0))
  have QGw2 := Lib.hid (HG5.out.setCell (p := ⟨w.heap.size, 0, none⟩) (Nat.le_refl _) (.slice a0 F0.length c0))
  have HO0 := Lib.hid (ownsRow_setCell_other (a := ⟨w.heap.size, 0, none⟩) HO0.out (row_offL HB5.out HO0.out (by decide)) (.slice a0 F0.length c0))
  go_upto_region 2 with fail
  generalize w5.setCell ⟨w.heap.size, 0, none⟩ (.slice a0 F0.length c0) = w2 at *
  clear z0 k0 HB5 HR5 HG5 hg55 QBw1 QRw1 QGw1
  have b0 := QBw2.out.cell (i := 1) rfl
  go_wp2_with fail
  refine (refWithout_any W s true [] none 0 w2 (HRW.out.gr QGw2.out) (HP.out.gr QGw2.out) (by omega)).mono ?_
  rintro e w5 ⟨v5, rfl, hr5, hg5⟩
  obtain ⟨a1, c1, rfl, _⟩ := ownsRow_slice hr5.1
  rw [HE1.out] at hr5 ⊢
  have HO1 := Lib.hid (ownsRow_lower hr5.1 (Nat.zero_le _))
  have HB5 := Lib.hid (QBw2.out.gr hg5)
  have HR5 := Lib.hid (QRw2.out.gr hg5)
  have HG5 := Lib.hid (QGw2.out.trans hg5)
  have hg55 := Lib.hid hg5
  clear hr5 hg5 b0
  have z0 := HB5.out.cell (i := 1) rfl
  have k0 := HB5.out.free 1
  have QBw3 : Hid (Blk (w5.setCell ⟨w.heap.size, 1, none⟩ (.slice a1 F1.length c1)) w.heap.size #[.slice a0 F0.length c0, .slice a1 F1.length c1, .int .u64 last] 29) := Lib.hid (HB5.out.set 1 _)
  have QRw3 := Lib.hid (HR5.out.other (c := w.heap.size) (by omega) 1 (.slice a1 F1.length c1))
  have QGw3 := Lib.hid (HG5.out.setCell (p := ⟨w.heap.size, 1, none⟩) (Nat.le_refl _) (.slice a1 F1.length c1))
  have HO1 := Lib.hid (ownsRow_setCell_other (a := ⟨w.heap.size, 1, none⟩) HO1.out (row_offL HB5.out HO1.out (by decide)) (.slice a1 F1.length c1))
  have HO0 := Lib.hid (ownsRow_setCell_other (a := ⟨w.heap.size, 1, none⟩) (ownsRow_gr hg55.out HO0.out) (row_offL HB5.out (ownsRow_gr hg55.out HO0.out) (by decide)) (.slice a1 F1.length c1))
  go_upto_region 3 with fail
  generalize w5.setCell ⟨w.heap.size, 1, none⟩ (.slice a1 F1.length c1) = w3 at *
  clear z0 k0 HB5 HR5 HG5 hg55 QBw2 QRw2 QGw2
  have b0 := QBw3.out.cell (i := 0) rfl
  have b1 := QBw3.out.cell (i := 1) rfl
  have b2 := QBw3.out.cell (i := 2) rfl
  go_wp2_with fail
  refine (refPump_any F0 F1 w3 ⟨HO0.out, fun x hx => HLS0.out _ QGw3.out x hx⟩ ⟨HO1.out, fun x hx => HLS1.out _ QGw3.out x hx⟩ HFL.out HT.out).mono ?_
  rw [HRR.out]
  rintro e w9 ⟨v1, v2, v3, rfl, hp9, hg9⟩
  obtain ⟨a6, c6, rfl, _⟩ := ownsRow_slice hp9.h.1
  obtain ⟨a7, c7, rfl, _⟩ := ownsRow_slice hp9.w.1
  obtain ⟨a8, c8, rfl, _⟩ := ownsRow_slice hp9.o.1
  have HP9 := Lib.hid hp9
  have HG9 := Lib.hid (QGw3.out.trans hg9)
  have HR9 := Lib.hid (QRw3.out.gr hg9)
  clear b0 b1 b2 hp9 hg9
  have q0 := HR9.out.cell (i := 0) rfl
  have q1 := HR9.out.cell (i := 1) rfl
  have q2 := HR9.out.cell (i := 2) rfl
  have f0 := HR9.out.free 0
  have f1 := HR9.out.free 1
  have f2 := HR9.out.free 2
  go_wp2
  refine bodyPost_ret (v := .tuple #[.agg #[.slice a6 r.1.length c6, .slice a7 r.2.2.2.length c7, .int .u64 r.2.1], .slice a8 r.2.2.1.length c8]) (by simp [results, Tryz.results28, go_sem, q0, q1, q2, f0, f1, f2]; try rfl) rfl ?_
  have hgr : Gr w (((w9.setCell ⟨w.heap.size + 1, 0, none⟩ (.slice a6 r.1.length c6)).setCell ⟨w.heap.size + 1, 1, none⟩ (.slice a7 r.2.2.2.length c7)).setCell ⟨w.heap.size + 1, 2, none⟩ (.int .u64 r.2.1)) := ((HG9.out.setCell (p := ⟨w.heap.size + 1, 0, none⟩) (Nat.le_succ _) _).setCell (p := ⟨w.heap.size + 1, 1, none⟩) (Nat.le_succ _) _).setCell (p := ⟨w.heap.size + 1, 2, none⟩) (Nat.le_succ _) _
  -- have hg39 : Gr w9 (((w9.setCell ⟨w.heap.size + 1, 0, none⟩ (.slice a6 r.1.length c6)).setCell ⟨w.heap.size + 1, 1, none⟩ (.slice a7 r.2.2.2.length c7)).setCell ⟨w.heap.size + 1, 2, none⟩ (.int .u64 r.2.1)) → True := fun _ => trivial
  exact ⟨_, _, _, rfl, ⟨⟨(ownsRow_setCell_other (a := ⟨w.heap.size + 1, 2, none⟩) (ownsRow_setCell_other (a := ⟨w.heap.size + 1, 1, none⟩) (ownsRow_setCell_other (a := ⟨w.heap.size + 1, 0, none⟩) HP9.out.h.1 (row_offL HR9.out HP9.out.h.1 (by decide)) _) (row_offL HR9.out HP9.out.h.1 (by decide)) _) (row_offL HR9.out HP9.out.h.1 (by decide)) _), fun x hx => (HPP.out.lies.1 x hx).gr hgr⟩, ⟨ownsRow_lower (ownsRow_setCell_other (a := ⟨w.heap.size + 1, 2, none⟩) (ownsRow_setCell_other (a := ⟨w.heap.size + 1, 1, none⟩) (ownsRow_setCell_other (a := ⟨w.heap.size + 1, 0, none⟩) HP9.out.w.1 (row_offL HR9.out HP9.out.w.1 (by decide)) _) (row_offL HR9.out HP9.out.w.1 (by decide)) _) (row_offL HR9.out HP9.out.w.1 (by decide)) _) QGw3.out.size, fun x hx => (HPP.out.lies.2.2 x hx).gr hgr⟩, ⟨ownsRow_lower (ownsRow_setCell_other (a := ⟨w.heap.size + 1, 2, none⟩) (ownsRow_setCell_other (a := ⟨w.heap.size + 1, 1, none⟩) (ownsRow_setCell_other (a := ⟨w.heap.size + 1, 0, none⟩) HP9.out.o.1 (row_offL HR9.out HP9.out.o.1 (by decide)) _) (row_offL HR9.out HP9.out.o.1 (by decide)) _) (row_offL HR9.out HP9.out.o.1 (by decide)) _) QGw3.out.size, fun x hx => (HPP.out.lies.2.1 x hx).gr hgr⟩⟩, hgr⟩
set_option maxRecDepth 100000 in
set_option maxHeartbeats 4000000 in
theorem refRelease_none {bH bW : Nat} {vH vW : Value} {last : Int} (p : List ByteArray) (pa : Option Addr) (pc : Nat) (H W : List RL) (s : Int) (w : World) (hH : RRow22 w bH vH H) (hW : RRow22 w bW vW W) (hl : H.length + W.length ≤ 400) (ht : 0 ≤ last ∧ last ≤ 18446744073709551615) (hp : Strs w pa p) (hi0 : (findR H W s p).2 < 0) :
    Calls Tryz.prog 26 #[.agg #[vH, vW, .int .u64 last], .int .i64 s, .slice pa p.length pc] w fun e w' => e = .returned (.tuple #[.agg #[vH, vW, .int .u64 last], .slice none 0 0, .int .i64 20]) ∧ Gr w w' := by
  obtain ⟨⟨f, i⟩, hfi⟩ : ∃ q, findR H W s p = q := ⟨_, rfl⟩
  rw [hfi] at hi0
  have HFI := Lib.hid hfi
  clear hfi
  simp only at hi0
  obtain ⟨aH, cH, rfl, _⟩ := ownsRow_slice hH.1
  obtain ⟨aW, cW, rfl, _⟩ := ownsRow_slice hW.1
  have HRH := Lib.hid hH
  have HRW := Lib.hid hW
  have hld : decide (i < 0) = true := decide_eq_true hi0
  clear hH hW hi0
  have HP := Lib.hid hp
  have z1 : ∀ (w : World) (o : Obj), (w.alloc o).heap.size = w.heap.size + 1 := fun w o => by simp
  have QBw0 := Lib.hid ((Blk.new w #[.slice aH H.length cH, .slice aW W.length cW, .int .u64 last] 29).gr ((Gr.refl _).alloc (.cells #[.slice none 0 0, .slice none 0 0, .int .u64 0] 29)))
  have QRw0 := Lib.hid (Blk.new (w.alloc (.cells #[.slice aH H.length cH, .slice aW W.length cW, .int .u64 last] 29)) #[.slice none 0 0, .slice none 0 0, .int .u64 0] 29)
  have QGw0 := Lib.hid (((Gr.refl w).alloc (.cells #[.slice aH H.length cH, .slice aW W.length cW, .int .u64 last] 29)).alloc (.cells #[.slice none 0 0, .slice none 0 0, .int .u64 0] 29))
  simp only [z1] at QRw0
  clear z1 hp
  go_enter Tryz.func26, Tryz.ntmps26
  go_upto_region 1 with fail
  generalize (w.alloc (.cells #[.slice aH H.length cH, .slice aW W.length cW, .int .u64 last] 29)).alloc (.cells #[.slice none 0 0, .slice none 0 0, .int .u64 0] 29) = w0 at *
  have b0 := QBw0.out.cell (i := 0) rfl
  have b1 := QBw0.out.cell (i := 1) rfl
  have b2 := QBw0.out.cell (i := 2) rfl
  go_wp2_with fail
  refine (refFind_any H W s p pa pc w0 (HRH.out.gr QGw0.out) (HRW.out.gr QGw0.out) (HP.out.gr QGw0.out) (by omega)).mono ?_
  rw [HFI.out]
  rintro e w5 ⟨rfl, hg5⟩
  have hga := hg5.trans ((Gr.refl w5).alloc (.cells #[.int .i64 f.ses, .slice f.a f.l.length f.c, .bool f.ex, .int .u64 f.tok] 71))
  have QBw1 := Lib.hid (QBw0.out.gr hga)
  have QRw1 := Lib.hid (QRw0.out.gr hga)
  have QGw1 := Lib.hid (QGw0.out.trans hga)
  clear hg5 hga b0 b1 b2 QBw0 QRw0 QGw0
  go_upto_region 2 with fail
  generalize w5.alloc (.cells #[.int .i64 f.ses, .slice f.a f.l.length f.c, .bool f.ex, .int .u64 f.tok] 71) = w1 at *
  have b0 := QBw1.out.cell (i := 0) rfl
  have b1 := QBw1.out.cell (i := 1) rfl
  have b2 := QBw1.out.cell (i := 2) rfl
  have q0 := QRw1.out.cell (i := 0) rfl
  have q1 := QRw1.out.cell (i := 1) rfl
  have q2 := QRw1.out.cell (i := 2) rfl
  have f0 := QRw1.out.free 0
  have f1 := QRw1.out.free 1
  have f2 := QRw1.out.free 2
  go_wp2
  refine bodyPost_ret (v := .tuple #[.agg #[.slice aH H.length cH, .slice aW W.length cW, .int .u64 last], .slice none 0 0, .int .i64 20]) (by simp [results, Tryz.results26, go_sem, q0, q1, q2, f0, f1, f2]; try rfl) rfl ?_
  exact ⟨rfl, ((QGw1.out.setCell (p := ⟨w.heap.size + 1, 0, none⟩) (Nat.le_succ _) _).setCell (p := ⟨w.heap.size + 1, 1, none⟩) (Nat.le_succ _) _).setCell (p := ⟨w.heap.size + 1, 2, none⟩) (Nat.le_succ _) _⟩
theorem PumpIs.gr {w w' : World} {base : Nat} {v1 v2 v3 : Value} {s : List RL × Int × List RL × List RL} (h : PumpIs w base v1 v2 v3 s) (hg : Gr w w') : PumpIs w' base v1 v2 v3 s := ⟨h.h.gr hg, h.w.gr hg, h.o.gr hg⟩
set_option maxRecDepth 100000 in
set_option maxHeartbeats 4000000 in
theorem refRelease_some {bH bW : Nat} {vH vW : Value} {last : Int} (p : List ByteArray) (pa : Option Addr) (pc : Nat) (H W : List RL) (s : Int) (w : World) (hH : RRow22 w bH vH H) (hW : RRow22 w bW vW W) (hl : H.length + W.length ≤ 400) (ht : 0 ≤ last ∧ last ≤ 18446744073709551615) (hp : Strs w pa p) (hi0 : ¬ (findR H W s p).2 < 0) :
    Calls Tryz.prog 26 #[.agg #[vH, vW, .int .u64 last], .int .i64 s, .slice pa p.length pc] w fun e w' => ∃ v1 v2 v3, e = .returned (.tuple #[.agg #[v1, v2, .int .u64 (pumpF (H.filter (keepR s false p)) last (W.filter (keepR s false p))).2.1], v3, .int .i64 0]) ∧ PumpIs w' w.heap.size v1 v2 v3 (pumpF (H.filter (keepR s false p)) last (W.filter (keepR s false p))) ∧ Gr w w' := by
  obtain ⟨⟨f, i⟩, hfi⟩ : ∃ q, findR H W s p = q := ⟨_, rfl⟩
  rw [hfi] at hi0
  have HFI := Lib.hid hfi
  clear hfi
  simp only at hi0
  obtain ⟨aH, cH, rfl, _⟩ := ownsRow_slice hH.1
  obtain ⟨aW, cW, rfl, _⟩ := ownsRow_slice hW.1
  have HRH := Lib.hid hH
  have HRW := Lib.hid hW
  have HT := Lib.hid ht
  obtain ⟨F0, hF0⟩ : ∃ l, H.filter (keepR s false p) = l := ⟨_, rfl⟩
  obtain ⟨F1, hF1⟩ : ∃ l, W.filter (keepR s false p) = l := ⟨_, rfl⟩
  rw [hF0, hF1]
  have HE0 := Lib.hid hF0
  have HE1 := Lib.hid hF1
  have HLS0 := Lib.hid (show ∀ wz : World, Gr w wz → ∀ x ∈ F0, x.lies wz from fun wz hz x hx => (hH.2 x (by rw [← hF0] at hx; exact (List.mem_filter.1 hx).1)).gr hz)
  have HLS1 := Lib.hid (show ∀ wz : World, Gr w wz → ∀ x ∈ F1, x.lies wz from fun wz hz x hx => (hW.2 x (by rw [← hF1] at hx; exact (List.mem_filter.1 hx).1)).gr hz)
  have HFL := Lib.hid (show F0.length + F1.length ≤ 400 by
    have h1 := List.length_filter_le (keepR s false p) H
    have h2 := List.length_filter_le (keepR s false p) W
    rw [hF0] at h1; rw [hF1] at h2; omega)
  obtain ⟨r, hr⟩ : ∃ r, pumpF F0 last F1 = r := ⟨_, rfl⟩
  rw [hr]
  have HPP := Lib.hid (show PmP w F0 F1.length r by rw [← hr]; exact pumpF_P (HLS0.out _ (Gr.refl _)) (HLS1.out _ (Gr.refl _)) HT.out)
  have HRR := Lib.hid hr
  clear hF0 hF1 hH hW ht hr
  have hld : decide (i < 0) = false := decide_eq_false hi0
  clear hi0
  have HP := Lib.hid hp
  have z1 : ∀ (w : World) (o : Obj), (w.alloc o).heap.size = w.heap.size + 1 := fun w o => by simp
  have QBw0 := Lib.hid ((Blk.new w #[.slice aH H.length cH, .slice aW W.length cW, .int .u64 last] 29).gr ((Gr.refl _).alloc (.cells #[.slice none 0 0, .slice none 0 0, .int .u64 0] 29)))
  have QRw0 := Lib.hid (Blk.new (w.alloc (.cells #[.slice aH H.length cH, .slice aW W.length cW, .int .u64 last] 29)) #[.slice none 0 0, .slice none 0 0, .int .u64 0] 29)
  have QGw0 := Lib.hid (((Gr.refl w).alloc (.cells #[.slice aH H.length cH, .slice aW W.length cW, .int .u64 last] 29)).alloc (.cells #[.slice none 0 0, .slice none 0 0, .int .u64 0] 29))
  simp only [z1] at QRw0
  clear z1 hp
  go_enter Tryz.func26, Tryz.ntmps26
  go_upto_region 1 with fail
  generalize (w.alloc (.cells #[.slice aH H.length cH, .slice aW W.length cW, .int .u64 last] 29)).alloc (.cells #[.slice none 0 0, .slice none 0 0, .int .u64 0] 29) = w0 at *
  have b0 := QBw0.out.cell (i := 0) rfl
  have b1 := QBw0.out.cell (i := 1) rfl
  have b2 := QBw0.out.cell (i := 2) rfl
  go_wp2_with fail
  refine (refFind_any H W s p pa pc w0 (HRH.out.gr QGw0.out) (HRW.out.gr QGw0.out) (HP.out.gr QGw0.out) (by omega)).mono ?_
  rw [HFI.out]
  rintro e w5 ⟨rfl, hg5⟩
  have hga := hg5.trans ((Gr.refl w5).alloc (.cells #[.int .i64 f.ses, .slice f.a f.l.length f.c, .bool f.ex, .int .u64 f.tok] 71))
  have QBw1 := Lib.hid (QBw0.out.gr hga)
  have QRw1 := Lib.hid (QRw0.out.gr hga)
  have QGw1 := Lib.hid (QGw0.out.trans hga)
  clear hg5 hga b0 b1 b2 QBw0 QRw0 QGw0
  go_upto_region 2 with fail
  generalize w5.alloc (.cells #[.int .i64 f.ses, .slice f.a f.l.length f.c, .bool f.ex, .int .u64 f.tok] 71) = w1 at *
  have b0 := QBw1.out.cell (i := 0) rfl
  go_wp2_with fail
  refine (refWithout_any H s false p pa pc w1 (HRH.out.gr QGw1.out) (HP.out.gr QGw1.out) (by omega)).mono ?_
  rintro e w5 ⟨v5, rfl, hr5, hg5⟩
  obtain ⟨a0, c0, rfl, _⟩ := ownsRow_slice hr5.1
  rw [HE0.out] at hr5 ⊢
  have HO0 := Lib.hid (ownsRow_lower hr5.1 (Nat.zero_le _))
  have HB5 := Lib.hid (QBw1.out.gr hg5)
  have HR5 := Lib.hid (QRw1.out.gr hg5)
  have HG5 := Lib.hid (QGw1.out.trans hg5)
  have hg55 := Lib.hid hg5
  clear hr5 hg5 b0
  have z0 := HB5.out.cell (i := 0) rfl
  have k0 := HB5.out.free 0
  have QBw2 : Hid (Blk (w5.setCell ⟨w.heap.size, 0, none⟩ (.slice a0 F0.length c0)) w.heap.size #[.slice a0 F0.length c0, .slice aW W.length cW, .int .u64 last] 29) := Lib.hid (HB5.out.set 0 _)
  have QRw2 := Lib.hid (HR5.out.other (c := w.heap.size) (by omega) 0 (.slice a0 F0.length c0))
  have QGw2 := Lib.hid (HG5.out.setCell (p := ⟨w.heap.size, 0, none⟩) (Nat.le_refl _) (.slice a0 F0.length c0))
  have HO0 := Lib.hid (ownsRow_setCell_other (a := ⟨w.heap.size, 0, none⟩) HO0.out (row_offL HB5.out HO0.out (by decide)) (.slice a0 F0.length c0))
  go_upto_region 5 with fail
  generalize w5.setCell ⟨w.heap.size, 0, none⟩ (.slice a0 F0.length c0) = w2 at *
  clear z0 k0 HB5 HR5 HG5 hg55 QBw1 QRw1 QGw1
  have b0 := QBw2.out.cell (i := 1) rfl
  go_wp2_with fail
  refine (refWithout_any W s false p pa pc w2 (HRW.out.gr QGw2.out) (HP.out.gr QGw2.out) (by omega)).mono ?_
  rintro e w5 ⟨v5, rfl, hr5, hg5⟩
  obtain ⟨a1, c1, rfl, _⟩ := ownsRow_slice hr5.1
  rw [HE1.out] at hr5 ⊢
  have HO1 := Lib.hid (ownsRow_lower hr5.1 (Nat.zero_le _))
  have HB5 := Lib.hid (QBw2.out.gr hg5)
  have HR5 := Lib.hid (QRw2.out.gr hg5)
  have HG5 := Lib.hid (QGw2.out.trans hg5)
  have hg55 := Lib.hid hg5
  clear hr5 hg5 b0
  have z0 := HB5.out.cell (i := 1) rfl
  have k0 := HB5.out.free 1
  have QBw3 : Hid (Blk (w5.setCell ⟨w.heap.size, 1, none⟩ (.slice a1 F1.length c1)) w.heap.size #[.slice a0 F0.length c0, .slice a1 F1.length c1, .int .u64 last] 29) := Lib.hid (HB5.out.set 1 _)
  have QRw3 := Lib.hid (HR5.out.other (c := w.heap.size) (by omega) 1 (.slice a1 F1.length c1))
  have QGw3 := Lib.hid (HG5.out.setCell (p := ⟨w.heap.size, 1, none⟩) (Nat.le_refl _) (.slice a1 F1.length c1))
  have HO1 := Lib.hid (ownsRow_setCell_other (a := ⟨w.heap.size, 1, none⟩) HO1.out (row_offL HB5.out HO1.out (by decide)) (.slice a1 F1.length c1))
  have HO0 := Lib.hid (ownsRow_setCell_other (a := ⟨w.heap.size, 1, none⟩) (ownsRow_gr hg55.out HO0.out) (row_offL HB5.out (ownsRow_gr hg55.out HO0.out) (by decide)) (.slice a1 F1.length c1))
  go_upto_region 6 with fail
  generalize w5.setCell ⟨w.heap.size, 1, none⟩ (.slice a1 F1.length c1) = w3 at *
  clear z0 k0 HB5 HR5 HG5 hg55 QBw2 QRw2 QGw2
  have b0 := QBw3.out.cell (i := 0) rfl
  have b1 := QBw3.out.cell (i := 1) rfl
  have b2 := QBw3.out.cell (i := 2) rfl
  go_wp2_with fail
  refine (refPump_any F0 F1 w3 ⟨HO0.out, fun x hx => HLS0.out _ QGw3.out x hx⟩ ⟨HO1.out, fun x hx => HLS1.out _ QGw3.out x hx⟩ HFL.out HT.out).mono ?_
  rw [HRR.out]
  rintro e w9 ⟨v1, v2, v3, rfl, hp9, hg9⟩
  obtain ⟨a6, c6, rfl, _⟩ := ownsRow_slice hp9.h.1
  obtain ⟨a7, c7, rfl, _⟩ := ownsRow_slice hp9.w.1
  obtain ⟨a8, c8, rfl, _⟩ := ownsRow_slice hp9.o.1
  have HP9 := Lib.hid hp9
  have HG9 := Lib.hid (QGw3.out.trans hg9)
  have HR9 := Lib.hid (QRw3.out.gr hg9)
  clear b0 b1 b2 hp9 hg9
  have hga := (Gr.refl w9).alloc (.cells #[.slice a6 r.1.length c6, .slice a7 r.2.2.2.length c7, .int .u64 r.2.1] 29)
  have HNB := Lib.hid (Blk.new w9 #[.slice a6 r.1.length c6, .slice a7 r.2.2.2.length c7, .int .u64 r.2.1] 29)
  have HP9 := Lib.hid (HP9.out.gr hga)
  have HG9 := Lib.hid (HG9.out.trans hga)
  have HR9 := Lib.hid (HR9.out.gr hga)
  clear hga
  go_upto_region 7 with fail
  generalize w9.alloc (.cells #[.slice a6 r.1.length c6, .slice a7 r.2.2.2.length c7, .int .u64 r.2.1] 29) = wa at *
  have m0 := HNB.out.cell (i := 0) rfl
  have m1 := HNB.out.cell (i := 1) rfl
  have m2 := HNB.out.cell (i := 2) rfl
  have q0 := HR9.out.cell (i := 0) rfl
  have q1 := HR9.out.cell (i := 1) rfl
  have q2 := HR9.out.cell (i := 2) rfl
  have f0 := HR9.out.free 0
  have f1 := HR9.out.free 1
  have f2 := HR9.out.free 2
  go_wp2
  refine bodyPost_ret (v := .tuple #[.agg #[.slice a6 r.1.length c6, .slice a7 r.2.2.2.length c7, .int .u64 r.2.1], .slice a8 r.2.2.1.length c8, .int .i64 0]) (by simp [results, Tryz.results26, go_sem, q0, q1, q2, f0, f1, f2]; try rfl) rfl ?_
  have hgr : Gr w (((wa.setCell ⟨w.heap.size + 1, 0, none⟩ (.slice a6 r.1.length c6)).setCell ⟨w.heap.size + 1, 1, none⟩ (.slice a7 r.2.2.2.length c7)).setCell ⟨w.heap.size + 1, 2, none⟩ (.int .u64 r.2.1)) := ((HG9.out.setCell (p := ⟨w.heap.size + 1, 0, none⟩) (Nat.le_succ _) _).setCell (p := ⟨w.heap.size + 1, 1, none⟩) (Nat.le_succ _) _).setCell (p := ⟨w.heap.size + 1, 2, none⟩) (Nat.le_succ _) _
  -- have hg39 : Gr wa (((wa.setCell ⟨w.heap.size + 1, 0, none⟩ (.slice a6 r.1.length c6)).setCell ⟨w.heap.size + 1, 1, none⟩ (.slice a7 r.2.2.2.length c7)).setCell ⟨w.heap.size + 1, 2, none⟩ (.int .u64 r.2.1)) → True := fun _ => trivial
  exact ⟨_, _, _, rfl, ⟨⟨(ownsRow_setCell_other (a := ⟨w.heap.size + 1, 2, none⟩) (ownsRow_setCell_other (a := ⟨w.heap.size + 1, 1, none⟩) (ownsRow_setCell_other (a := ⟨w.heap.size + 1, 0, none⟩) HP9.out.h.1 (row_offL HR9.out HP9.out.h.1 (by decide)) _) (row_offL HR9.out HP9.out.h.1 (by decide)) _) (row_offL HR9.out HP9.out.h.1 (by decide)) _), fun x hx => (HPP.out.lies.1 x hx).gr hgr⟩, ⟨ownsRow_lower (ownsRow_setCell_other (a := ⟨w.heap.size + 1, 2, none⟩) (ownsRow_setCell_other (a := ⟨w.heap.size + 1, 1, none⟩) (ownsRow_setCell_other (a := ⟨w.heap.size + 1, 0, none⟩) HP9.out.w.1 (row_offL HR9.out HP9.out.w.1 (by decide)) _) (row_offL HR9.out HP9.out.w.1 (by decide)) _) (row_offL HR9.out HP9.out.w.1 (by decide)) _) QGw3.out.size, fun x hx => (HPP.out.lies.2.2 x hx).gr hgr⟩, ⟨ownsRow_lower (ownsRow_setCell_other (a := ⟨w.heap.size + 1, 2, none⟩) (ownsRow_setCell_other (a := ⟨w.heap.size + 1, 1, none⟩) (ownsRow_setCell_other (a := ⟨w.heap.size + 1, 0, none⟩) HP9.out.o.1 (row_offL HR9.out HP9.out.o.1 (by decide)) _) (row_offL HR9.out HP9.out.o.1 (by decide)) _) (row_offL HR9.out HP9.out.o.1 (by decide)) _) QGw3.out.size, fun x hx => (HPP.out.lies.2.1 x hx).gr hgr⟩⟩, hgr⟩
end Go.Proofs.YtmgpnpmdmelnkaaGreatDoor
