import Derived.Test.YtahohgnkichibabF14h
import Derived.Test.YtahohgnkichibabC17
import Derived.WalkKit
import Derived.ProofKit
import Derived.LoopTactic
import Derived.Outline
import Derived.WalkSpells
import Derived.WalkLawsBesides
import Derived.Lib.Hide
import Derived.Deep.LoopGhost
import Derived.Deep.QuietTactic
import Derived.BigQuiet
import Derived.ShutString
import Derived.IntWalk
import Derived.Lib.MinMax
import Derived.Deep.AppendLies
import Derived.Deep.RegionWith
import Derived.Deep.RegionHeld3
import Derived.Deep.RegionLaw
import Derived.ArgAppend
namespace Go.Proofs.Ytahohgnkichibab
open Go.ChangeShapes Go.WideShapes Go.ChangeAt Go.RowKit
set_option linter.unusedVariables false
set_option linter.unusedSimpArgs false
open Nt
/-- append of nothing. -/
theorem run_append_zero {P : Program} (w : World) (t ty e : TypeId) (i : TypeInfo) (ht : P.underlying t = some (.slice e)) (hi : P.info? e = some i) (b n cap : Nat) (la : Option Addr) (c : Nat) (hn : n ≤ cap) :
    (Builtin.append_ #[t, t] ty #[.slice (some ⟨b, 0, none⟩) n cap, .slice la 0 c]).run P w = .ok (.slice (some ⟨b, 0, none⟩) n cap) w := by
  cases la with
  | none => simp [Builtin.append_, run_underlying ht, sizeOf, typeInfo, hi, Builtin.lenOf, hn, Builtin.firstCells, storeCells]
  | some a => exact run_append_room_cells w t ty e i ht hi b 0 n cap a 0 c [] (by simp) (by intro j u h; simp at h) (by simp) (by omega) (by simp) (by simp)
theorem step_append_zero {P : Program} {ops : Array Oper} {o : Oper} {a : Act} {K : Act → World → Prop} {Q : Exit → Act → World → Prop} {E : Prop} (w : World) (hgd : o.guard = none) (s x : Operand) (t : TypeId)
    (ho : o.op = .call { callee := .builtin .append, args := #[s, x], argTypes := #[t, t] }) (e : TypeId) (i : TypeInfo) (ht : P.underlying t = some (.slice e)) (hi : P.info? e = some i)
    (b n cap : Nat) (la : Option Addr) (c : Nat) (hs : a.eval s = .slice (some ⟨b, 0, none⟩) n cap) (hx : a.eval x = .slice la 0 c) (hn : n ≤ cap) (hK : K (a.put o.dst (.slice (some ⟨b, 0, none⟩) n cap)) w) :
    if Region.wanted o (yielded ops a.tmps) = true then Oper.wp P o a w K Q else E := by
  have hw : Region.wanted o (yielded ops a.tmps) = true := by simp [Region.wanted, hgd]
  rw [if_pos hw]
  have hrun := run_append_zero (P := P) w t o.type e i ht hi b n cap la c hn
  unfold Oper.wp
  simp [execOp, ho, resolve, invoke, builtin, hs, hx, hrun, Result.andThen]
  exact hK
set_option maxRecDepth 100000 in
set_option maxHeartbeats 1000000 in
theorem refSend_no (n : Nat) (la ca : Option Addr) (lc cn cc : Nat) (L : List P) (p : P) (w : World) (hl : L.length ≤ 4000) (hq : (wayB n p.a p.b && decide (L.length < 4000)) = false) :
    Calls Try.prog 15 #[.agg #[.int .i64 (n : Nat), .slice la L.length lc, .slice ca cn cc], p.val] w (fun e w' => e = .returned (.tuple #[.agg #[.int .i64 (n : Nat), .slice la L.length lc, .slice ca cn cc], .bool false]) ∧ Gr w w') := by
  obtain ⟨pA, pB, s⟩ := p
  generalize L.length = ln at *
  simp only at hq
  have HI := Lib.hid (refIs_any n la ca ln lc cn cc pA pB)
  show Calls Try.prog 15 #[.agg #[.int .i64 (n : Nat), .slice la ln lc, .slice ca cn cc], .agg #[.int .i64 pA, .int .i64 pB, .string s]] w _
  obtain ⟨W2, hW2⟩ : ∃ W2, ((w.alloc (.cells #[.int .i64 (n : Nat), .slice la ln lc, .slice ca cn cc] 29)).alloc (.cells #[.int .i64 pA, .int .i64 pB, .string s] 50)).alloc (.cells #[.int .i64 0, .slice none 0 0, .slice none 0 0] 29) = W2 := ⟨_, rfl⟩
  have HG2 := Lib.hid (show Gr w W2 by rw [← hW2]; exact (((Gr.refl w).alloc _).alloc _).alloc _)
  have HB0 := Lib.hid (show Blk W2 w.heap.size #[.int .i64 (n : Nat), .slice la ln lc, .slice ca cn cc] 29 by rw [← hW2]; exact (Blk.new w _ _).gr (((Gr.refl _).alloc _).alloc _))
  have HB2 := Lib.hid (show Blk W2 (w.heap.size + 2) #[.int .i64 0, .slice none 0 0, .slice none 0 0] 29 by
    rw [← hW2]
    have := Blk.new ((w.alloc (.cells #[.int .i64 (n : Nat), .slice la ln lc, .slice ca cn cc] 29)).alloc (.cells #[.int .i64 pA, .int .i64 pB, .string s] 50)) #[.int .i64 0, .slice none 0 0, .slice none 0 0] 29
    rwa [show ((w.alloc (.cells #[.int .i64 (n : Nat), .slice la ln lc, .slice ca cn cc] 29)).alloc (.cells #[.int .i64 pA, .int .i64 pB, .string s] 50)).heap.size = w.heap.size + 2 by simp] at this)
  have HW2 := Lib.hid hW2
  clear hW2
  go_enter Try.func15, Try.ntmps15
  go_wp2_with fail
  refine (HI.out _).mono ?_
  rintro e W3 ⟨rfl, hg8⟩
  rw [HW2.out] at hg8
  have HG3 := Lib.hid (HG2.out.trans hg8)
  have b0 := HB0.out.gr hg8
  have b2 := HB2.out.gr hg8
  have c0 := b0.cell (i := 0) rfl
  have c1 := b0.cell (i := 1) rfl
  have c2 := b0.cell (i := 2) rfl
  have q0 := b2.cell (i := 0) rfl
  have q1 := b2.cell (i := 1) rfl
  have q2 := b2.cell (i := 2) rfl
  have d0 := b2.free 0
  have d1 := b2.free 1
  have d2 := b2.free 2
  clear hg8 b0 b2
  cases hw : wayB n pA pB
  · clear hw hq
    go_wp2
    refine bodyPost_ret (v := .tuple #[.agg #[.int .i64 (n : Nat), .slice la ln lc, .slice ca cn cc], .bool false]) (by simp [results, Try.results15, go_sem, q0, q1, q2, d0, d1, d2]; try rfl) rfl ?_
    exact ⟨rfl, ((HG3.out.setCell (p := ⟨w.heap.size + 2, 0, none⟩) (by simp) _).setCell (p := ⟨w.heap.size + 2, 1, none⟩) (by simp) _).setCell (p := ⟨w.heap.size + 2, 2, none⟩) (by simp) _⟩
  · have hgt : (3999 : Int) < (ln : Int) := by rw [hw] at hq; simp at hq; omega
    clear hw hq
    go_wp2
    refine bodyPost_ret (v := .tuple #[.agg #[.int .i64 (n : Nat), .slice la ln lc, .slice ca cn cc], .bool false]) (by simp [results, Try.results15, go_sem, q0, q1, q2, d0, d1, d2]; try rfl) rfl ?_
    exact ⟨rfl, ((HG3.out.setCell (p := ⟨w.heap.size + 2, 0, none⟩) (by simp) _).setCell (p := ⟨w.heap.size + 2, 1, none⟩) (by simp) _).setCell (p := ⟨w.heap.size + 2, 2, none⟩) (by simp) _⟩
set_option maxRecDepth 100000 in
set_option maxHeartbeats 2000000 in
theorem refSend_yes (n : Nat) (la ca : Option Addr) (lc cn cc : Nat) (L : List P) (p : P) (w : World) (hL : CRow w (.slice la L.length lc) L.length (pcells L)) (hl : L.length < 4000) (hlp : 0 < L.length) (hq : wayB n p.a p.b = true) :
    Calls Try.prog 15 #[.agg #[.int .i64 (n : Nat), .slice la L.length lc, .slice ca cn cc], p.val] w (fun e w' => ∃ v', e = .returned (.tuple #[.agg #[.int .i64 (n : Nat), v', .slice ca cn cc], .bool true]) ∧ CRow w' v' (L ++ [p]).length (pcells (L ++ [p])) ∧ Gr w w' ∧ Fresh w w' v') := by
  obtain ⟨i0, hi, hz0, hz1, hz2⟩ := info_parts info_rpacket
  obtain ⟨pA, pB, s⟩ := p
  have QCS := Lib.hid (pcells_snoc L ⟨pA, pB, s⟩)
  have QLN := Lib.hid (show (L ++ [(⟨pA, pB, s⟩ : P)]).length = L.length + 1 by simp)
  generalize L ++ [(⟨pA, pB, s⟩ : P)] = LL at *
  obtain ⟨a', c', he, h1⟩ := hL
  simp only [Value.slice.injEq] at he
  obtain ⟨rfl, _, rfl⟩ := he
  rcases h1 with h1 | ⟨g, rfl, hsrc⟩
  · omega
  generalize hln : L.length = ln at *
  have HLN := Lib.hid hln
  clear hln
  simp only at hq
  have HI := Lib.hid (refIs_any n (some ⟨g, 0, none⟩) ca ln lc cn cc pA pB)
  rw [hq] at HI
  clear hq
  show Calls Try.prog 15 #[.agg #[.int .i64 (n : Nat), .slice (some ⟨g, 0, none⟩) ln lc, .slice ca cn cc], .agg #[.int .i64 pA, .int .i64 pB, .string s]] w _
  obtain ⟨W2, hW2⟩ : ∃ W2, ((w.alloc (.cells #[.int .i64 (n : Nat), .slice (some ⟨g, 0, none⟩) ln lc, .slice ca cn cc] 29)).alloc (.cells #[.int .i64 pA, .int .i64 pB, .string s] 50)).alloc (.cells #[.int .i64 0, .slice none 0 0, .slice none 0 0] 29) = W2 := ⟨_, rfl⟩
  have HG2 := Lib.hid (show Gr w W2 by rw [← hW2]; exact (((Gr.refl w).alloc _).alloc _).alloc _)
  have HZ2 := Lib.hid (show W2.heap.size = w.heap.size + 3 by rw [← hW2]; simp)
  have HB0 := Lib.hid (show Blk W2 w.heap.size #[.int .i64 (n : Nat), .slice (some ⟨g, 0, none⟩) ln lc, .slice ca cn cc] 29 by rw [← hW2]; exact (Blk.new w _ _).gr (((Gr.refl _).alloc _).alloc _))
  have HB1 := Lib.hid (show Blk W2 (w.heap.size + 1) #[.int .i64 pA, .int .i64 pB, .string s] 50 by
    rw [← hW2]
    have := (Blk.new (w.alloc (.cells #[.int .i64 (n : Nat), .slice (some ⟨g, 0, none⟩) ln lc, .slice ca cn cc] 29)) #[.int .i64 pA, .int .i64 pB, .string s] 50).gr ((Gr.refl _).alloc (.cells #[.int .i64 0, .slice none 0 0, .slice none 0 0] 29))
    rwa [show (w.alloc (.cells #[.int .i64 (n : Nat), .slice (some ⟨g, 0, none⟩) ln lc, .slice ca cn cc] 29)).heap.size = w.heap.size + 1 by simp] at this)
  have HB2 := Lib.hid (show Blk W2 (w.heap.size + 2) #[.int .i64 0, .slice none 0 0, .slice none 0 0] 29 by
    rw [← hW2]
    have := Blk.new ((w.alloc (.cells #[.int .i64 (n : Nat), .slice (some ⟨g, 0, none⟩) ln lc, .slice ca cn cc] 29)).alloc (.cells #[.int .i64 pA, .int .i64 pB, .string s] 50)) #[.int .i64 0, .slice none 0 0, .slice none 0 0] 29
    rwa [show ((w.alloc (.cells #[.int .i64 (n : Nat), .slice (some ⟨g, 0, none⟩) ln lc, .slice ca cn cc] 29)).alloc (.cells #[.int .i64 pA, .int .i64 pB, .string s] 50)).heap.size = w.heap.size + 2 by simp] at this)
  have HSR := Lib.hid fun j u hj => HG2.out.cell (hsrc j u hj)
  clear hsrc
  have hgz : (ln : Int) ≤ 3999 := by omega
  have HW2 := Lib.hid hW2
  clear hW2
  go_enter Try.func15, Try.ntmps15
  go_wp2_with fail
  refine (HI.out _).mono ?_
  rintro e W3 ⟨rfl, hg8⟩
  rw [HW2.out] at hg8
  have HG3 := Lib.hid (HG2.out.trans hg8)
  have HZ3 := Lib.hid (show w.heap.size + 3 ≤ W3.heap.size by have := hg8.size; have := HZ2.out; omega)
  have b0 := HB0.out.gr hg8
  have b1 := HB1.out.gr hg8
  have b2 := HB2.out.gr hg8
  have HSRC := Lib.hid fun j u hj => hg8.cell (HSR.out j u hj)
  have c0 := b0.cell (i := 0) rfl
  have c1 := b0.cell (i := 1) rfl
  have c2 := b0.cell (i := 2) rfl
  have f1 := b0.free 1
  have p0 := b1.cell (i := 0) rfl
  have p1 := b1.cell (i := 1) rfl
  have p2 := b1.cell (i := 2) rfl
  have q0 := b2.cell (i := 0) rfl
  have q1 := b2.cell (i := 1) rfl
  have q2 := b2.cell (i := 2) rfl
  have d0 := b2.free 0
  have d1 := b2.free 1
  have d2 := b2.free 2
  clear hg8 b0 b1 b2
  have Hm1 := Lib.hid (World.ownsRow_made (base := W3.heap.size) (e := 50) (size := 3) W3.drew #[] 0 (Nat.le_refl _) (by unfold maxLen; omega) rfl)
  have Hm2 := Lib.hid (World.ownsRow_made (base := W3.heap.size) (e := 50) (size := 3) (W3.drew.alloc (.cells #[.int .i64 pA, .int .i64 pB, .string s] 50)) #[] 0 (by simp) (by unfold maxLen; omega) rfl)
  have Hb1 := Lib.hid (Blk.new (W3.drew.alloc (.cells #[] 50)) #[.int .i64 pA, .int .i64 pB, .string s] 50)
  have Hb2 := Lib.hid ((Blk.new W3.drew #[.int .i64 pA, .int .i64 pB, .string s] 50).gr ((Gr.refl _).alloc (.cells #[] 50)))
  simp at Hm1 Hm2 Hb1 Hb2
  go_wp2_with fail
  have HX : Hid (∀ w9 : World, Gr W3 w9 → (fun w9 => Gr W3 w9 ∧ w9.cell? ⟨w.heap.size, 1, none⟩ = some (.slice (some ⟨g, 0, none⟩) ln lc) ∧ w9.cell? ⟨w.heap.size + 1, 0, none⟩ = some (.int .i64 pA) ∧ w9.cell? ⟨w.heap.size + 1, 1, none⟩ = some (.int .i64 pB) ∧ w9.cell? ⟨w.heap.size + 1, 2, none⟩ = some (.string s)) w9) := Lib.hid fun w9 hg => ⟨hg, hg.cell c1, hg.cell p0, hg.cell p1, hg.cell p2⟩
  refine late_start (fun i => decide (8 ≤ i)) (fun w9 => Gr W3 w9 ∧ w9.cell? ⟨w.heap.size, 1, none⟩ = some (.slice (some ⟨g, 0, none⟩) ln lc) ∧ w9.cell? ⟨w.heap.size + 1, 0, none⟩ = some (.int .i64 pA) ∧ w9.cell? ⟨w.heap.size + 1, 1, none⟩ = some (.int .i64 pB) ∧ w9.cell? ⟨w.heap.size + 1, 2, none⟩ = some (.string s)) (by kernel_rfl) ?inva (fun h0 => ?_)
  case inva => ((try dsimp only); (exact HX.out _ (Gr.refl _).drew))
  refine late_take (i := 1) (oi := { dst := some 21, op := Go.Op.fieldAddr 29 (Go.Operand.tmp 2) 1, type := 0, pos := "ref.go:38", after := #[], guard := none }) (v := ?va1) rfl (by kernel_rfl) (by kernel_rfl) (by kernel_rfl) (by kernel_rfl) (by kernel_rfl) (fun _ _ _ h => h) (Or.inl ⟨by rfl, ?ra1⟩) (by assumption) ?_
  case ra1 => (intro w hSw; (try dsimp only at hSw); (go_simp <;> with_reducible rfl))
  try simp only [Act.put, List.setIfInBounds_toArray, List.set_cons_zero, List.set_cons_succ]
  refine late_take (i := 2) (oi := { dst := some 22, op := Go.Op.load 26 (Go.Operand.tmp 21), type := 26, pos := "ref.go:38", after := #[{ on := 1, ground := Go.Ground.data }], guard := none }) (v := ?va2) rfl (by kernel_rfl) (by kernel_rfl) (by kernel_rfl) (by kernel_rfl) (by kernel_rfl) (fun _ _ _ h => h) (Or.inl ⟨by rfl, ?ra2⟩) (by assumption) ?_
  case ra2 => (intro w hSw; (try dsimp only at hSw); (go_simp <;> with_reducible rfl))
  try simp only [Act.put, List.setIfInBounds_toArray, List.set_cons_zero, List.set_cons_succ]
  refine late_take (i := 4) (oi := { dst := some 24, op := Go.Op.load 50 (Go.Operand.tmp 3), type := 50, pos := "ref.go:38", after := #[], guard := none }) (v := ?va3) rfl (by kernel_rfl) (by kernel_rfl) (by kernel_rfl) (by kernel_rfl) (by kernel_rfl) (fun _ _ _ h => h) (Or.inl ⟨by rfl, ?ra3⟩) (by assumption) ?_
  case ra3 => (intro w hSw; (try dsimp only at hSw); (go_simp <;> with_reducible rfl))
  try simp only [Act.put, List.setIfInBounds_toArray, List.set_cons_zero, List.set_cons_succ]
  refine late_ready (rs := [0, 5]) (by kernel_rfl) (by simp) ?_
  refine LateAll.cons (o := { dst := some 20, op := Go.Op.buildSlice 26 0 #[], type := 26, pos := "ref.go:38", after := #[], guard := none }) rfl (fun K hK => ?_) (LateAll.cons (o := { dst := some 25, op := Go.Op.buildSlice 26 1 #[(0, Go.Operand.tmp 24)], type := 26, pos := "ref.go:38", after := #[{ on := 4, ground := Go.Ground.data }], guard := none }) rfl (fun K hK => ?_) LateAll.nil)
  · skip
    go_simp
    skip
    first | refine hK.out _ _ ?sa4 (fun h4 => ?_) | (go_wp2_with fail; refine hK.out _ _ ?sa4 (fun h4 => ?_))
    case sa4 => ((try dsimp only); (first | exact HX.out _ HG7.out | exact HX.out _ HG5.out | exact HX.out _ (h0.1.alloc _)))
    clear hK K h0
    try simp only [Act.put, List.setIfInBounds_toArray, List.set_cons_zero, List.set_cons_succ]
    refine late_ready (rs := [3, 5]) (by kernel_rfl) (by simp) ?_
    refine LateAll.cons (o := { dst := some 23, op := Go.Op.call { callee := Go.Callee.builtin Go.Builtin.append, args := #[Go.Operand.tmp 20, Go.Operand.tmp 22], argTypes := #[26, 26] }, type := 26, pos := "ref.go:38", after := #[{ on := 0, ground := Go.Ground.data }, { on := 2, ground := Go.Ground.data }], guard := none }) rfl (fun K hK => ?_) (LateAll.cons (o := { dst := some 25, op := Go.Op.buildSlice 26 1 #[(0, Go.Operand.tmp 24)], type := 26, pos := "ref.go:38", after := #[{ on := 4, ground := Go.Ground.data }], guard := none }) rfl (fun K hK => ?_) LateAll.nil)
    · skip
      refine step_append_lies _ (by rfl) (.tmp 20) (.tmp 22) 26 (by rfl) W3.heap.size 50 i0 (.agg #[.int .i64 0, .int .i64 0, .string ⟨#[]⟩]) 3 32 Try.underlying26 hi hz0 hz1 hz2 rfl (by decide) (.slice (some ⟨W3.heap.size, 0, none⟩) 0 0) 0 [] (by rfl) Hm1.out ⟨g, 0, none⟩ ln lc (pcells L) rfl (by rw [pcells_len, HLN.out]) (fun j u hj => by have h1 := h4.1.cell (HSRC.out j u hj); have hadd : (⟨g, 0, none⟩ : Addr).add j = ⟨g, j, none⟩ := (by unfold Addr.add; split <;> simp_all); rw [hadd]; exact h1) (pcells_one L) hlp (by unfold maxLen; omega) (by omega) h4.1.size _ rfl ?_
      intro g5 cap5 w5 hown5 hgrow5 hat5 hlt5
      simp only [Nat.zero_add, List.nil_append] at hown5 ⊢
      have HG5 := Lib.hid (h4.1.append Hm1.out hgrow5)
      
      first | refine hK.out _ _ ?sa5 (fun h5 => ?_) | (go_wp2_with fail; refine hK.out _ _ ?sa5 (fun h5 => ?_))
      case sa5 => ((try dsimp only); (first | exact HX.out _ HG7.out | exact HX.out _ HG5.out | exact HX.out _ (h4.1.alloc _)))
      clear hK K h4
      try simp only [Act.put, List.setIfInBounds_toArray, List.set_cons_zero, List.set_cons_succ]
      refine late_ready (rs := [5]) (by kernel_rfl) (by simp) ?_
      refine LateAll.cons (o := { dst := some 25, op := Go.Op.buildSlice 26 1 #[(0, Go.Operand.tmp 24)], type := 26, pos := "ref.go:38", after := #[{ on := 4, ground := Go.Ground.data }], guard := none }) rfl (fun K hK => ?_) LateAll.nil
      go_simp
      skip
      first | refine hK.out _ _ ?sa6 (fun h6 => ?_) | (go_wp2_with fail; refine hK.out _ _ ?sa6 (fun h6 => ?_))
      case sa6 => ((try dsimp only); (first | exact HX.out _ HG7.out | exact HX.out _ HG5.out | exact HX.out _ (h5.1.alloc _)))
      clear hK K h5
      try simp only [Act.put, List.setIfInBounds_toArray, List.set_cons_zero, List.set_cons_succ]
      refine late_ready (rs := [6]) (by kernel_rfl) (by simp) ?_
      refine LateAll.cons (o := { dst := some 26, op := Go.Op.call { callee := Go.Callee.builtin Go.Builtin.append, args := #[Go.Operand.tmp 23, Go.Operand.tmp 25], argTypes := #[26, 26] }, type := 26, pos := "ref.go:38", after := #[{ on := 3, ground := Go.Ground.data }, { on := 5, ground := Go.Ground.data }, { on := 3, ground := Go.Ground.chain }], guard := none }) rfl (fun K hK => ?_) LateAll.nil
      refine step_append_lies _ (by rfl) (.tmp 23) (.tmp 25) 26 (by rfl) W3.heap.size 50 i0 (.agg #[.int .i64 0, .int .i64 0, .string ⟨#[]⟩]) 3 32 Try.underlying26 hi hz0 hz1 hz2 rfl (by decide) _ ln _ rfl (hown5.alloc _) ⟨_, 0, none⟩ 1 1 [.int .i64 pA, .int .i64 pB, .string s] rfl rfl (World.news_of_block (cs := #[.int .i64 pA, .int .i64 pB, .string s]) (t := 50) (fr := (0, 0)) (heap_alloc_new w5 _)) (by intro u hu; simp at hu; rcases hu with rfl | rfl | rfl <;> rfl) (by omega) (by unfold maxLen; omega) (by omega) h6.1.size _ rfl ?_
      intro g7 cap7 w7 hown7 hgrow7 hat7 hlt7
      have HG7 := Lib.hid (h6.1.append (hown5.alloc _) hgrow7)
      first | refine hK.out _ _ ?sa7 (fun h7 => ?_) | (go_wp2_with fail; refine hK.out _ _ ?sa7 (fun h7 => ?_))
      case sa7 => ((try dsimp only); (first | exact HX.out _ HG7.out | exact HX.out _ HG5.out | exact HX.out _ (h6.1.alloc _)))
      clear hK K h6
      try simp only [Act.put, List.setIfInBounds_toArray, List.set_cons_zero, List.set_cons_succ]
      refine late_take (i := 7) (oi := { dst := some 27, op := Go.Op.fieldAddr 29 (Go.Operand.tmp 2) 1, type := 0, pos := "ref.go:38", after := #[{ on := 0, ground := Go.Ground.phase }, { on := 1, ground := Go.Ground.phase }, { on := 2, ground := Go.Ground.phase }, { on := 3, ground := Go.Ground.phase }, { on := 4, ground := Go.Ground.phase }, { on := 5, ground := Go.Ground.phase }, { on := 6, ground := Go.Ground.phase }], guard := none }) (v := ?va8) rfl (by kernel_rfl) (by kernel_rfl) (by kernel_rfl) (by kernel_rfl) (by kernel_rfl) (fun _ _ _ h => h) (Or.inl ⟨by rfl, ?ra8⟩) (by assumption) ?_
      case ra8 => (intro w hSw; (try dsimp only at hSw); (go_simp <;> with_reducible rfl))
      try simp only [Act.put, List.setIfInBounds_toArray, List.set_cons_zero, List.set_cons_succ]
      have HO7 := Lib.hid (show w7.ownsRow W3.heap.size 50 3 (.slice (some ⟨g7, 0, none⟩) (ln + 1) cap7) LL.length (pcells LL) by rw [QLN.out, QCS.out]; exact hown7)
      clear hown7 hgrow7 hat7 hlt7
      have m8 := (HG7.out.frozen (cell_lt c1) (o := 1)).trans f1
      have m0 := HG7.out.cell c0
      have m1 := HG7.out.cell c1
      have m2 := HG7.out.cell c2
      have n0 := HG7.out.cell q0
      have n1 := HG7.out.cell q1
      have n2 := HG7.out.cell q2
      have e0 := (HG7.out.frozen (cell_lt q0) (o := 0)).trans d0
      have e1 := (HG7.out.frozen (cell_lt q0) (o := 1)).trans d1
      have e2 := (HG7.out.frozen (cell_lt q0) (o := 2)).trans d2
      clear c0 c1 c2 q0 q1 q2 d0 d1 d2 f1 p0 p1 p2
      refine late_go (by kernel_rfl) ?_
      refine any_one (i := 8) (o := { dst := none, op := Go.Op.store 26 (Go.Operand.tmp 27) (Go.Operand.tmp 26), type := 0, pos := "ref.go:38", after := #[{ on := 7, ground := Go.Ground.data }, { on := 6, ground := Go.Ground.data }, { on := 6, ground := Go.Ground.chain }, { on := 0, ground := Go.Ground.phase }, { on := 1, ground := Go.Ground.phase }, { on := 2, ground := Go.Ground.phase }, { on := 3, ground := Go.Ground.phase }, { on := 4, ground := Go.Ground.phase }, { on := 5, ground := Go.Ground.phase }, { on := 6, ground := Go.Ground.phase }], guard := none }) (by kernel_rfl) rfl (fun K hK => ?_)
      go_simp
      refine hK.out _ _ ?_
      clear hK K
      try simp only [Act.put, List.setIfInBounds_toArray, List.set_cons_zero, List.set_cons_succ]
      refine any_done (by kernel_rfl) ?_
      have HFR : Hid (∀ m, (Value.slice (some ⟨g7, 0, none⟩) (ln + 1) cap7).ownBlock = some m → w.heap.size ≤ m ∧ m < w7.heap.size) := Lib.hid fun m e => by have := HO7.out.lt m e; have := HZ3.out; omega
      have HR := Lib.hid (CRow.of_owns HO7.out)
      have HQ := Lib.hid (HG3.out.trans HG7.out)
      have HB : Hid (∀ m, m < w.heap.size + 3 → (Value.slice (some ⟨g7, 0, none⟩) (ln + 1) cap7).ownBlock ≠ some m) := Lib.hid fun m hm e => by have := (HO7.out.lt m e).1; have := HZ3.out; omega
      go_wp2
      refine bodyPost_ret (v := .tuple #[.agg #[.int .i64 (n : Nat), .slice (some ⟨g7, 0, none⟩) (ln + 1) cap7, .slice ca cn cc], .bool true]) (by simp [results, Try.results15, go_sem, n0, n1, n2, e0, e1, e2]; try rfl) rfl ?_
      refine ⟨_, rfl, ?_, ?_, fun m e => by have := HFR.out m e; simpa [World.setCell] using this⟩
      · exact (((HR.out.set (HB.out w.heap.size (by omega)) (o := 1) _).set (HB.out (w.heap.size + 2) (by omega)) (o := 0) _).set (HB.out (w.heap.size + 2) (by omega)) (o := 1) _).set (HB.out (w.heap.size + 2) (by omega)) (o := 2) _
      · exact (((HQ.out.setCell (p := ⟨w.heap.size, 1, none⟩) (Nat.le_refl _) _).setCell (p := ⟨w.heap.size + 2, 0, none⟩) (by simp) _).setCell (p := ⟨w.heap.size + 2, 1, none⟩) (by simp) _).setCell (p := ⟨w.heap.size + 2, 2, none⟩) (by simp) _
    · skip
      go_simp
      skip
      first | refine hK.out _ _ ?sa9 (fun h9 => ?_) | (go_wp2_with fail; refine hK.out _ _ ?sa9 (fun h9 => ?_))
      case sa9 => ((try dsimp only); (first | exact HX.out _ HG7.out | exact HX.out _ HG5.out | exact HX.out _ (h4.1.alloc _)))
      clear hK K h4
      try simp only [Act.put, List.setIfInBounds_toArray, List.set_cons_zero, List.set_cons_succ]
      refine late_ready (rs := [3]) (by kernel_rfl) (by simp) ?_
      refine LateAll.cons (o := { dst := some 23, op := Go.Op.call { callee := Go.Callee.builtin Go.Builtin.append, args := #[Go.Operand.tmp 20, Go.Operand.tmp 22], argTypes := #[26, 26] }, type := 26, pos := "ref.go:38", after := #[{ on := 0, ground := Go.Ground.data }, { on := 2, ground := Go.Ground.data }], guard := none }) rfl (fun K hK => ?_) LateAll.nil
      refine step_append_lies _ (by rfl) (.tmp 20) (.tmp 22) 26 (by rfl) W3.heap.size 50 i0 (.agg #[.int .i64 0, .int .i64 0, .string ⟨#[]⟩]) 3 32 Try.underlying26 hi hz0 hz1 hz2 rfl (by decide) (.slice (some ⟨W3.heap.size, 0, none⟩) 0 0) 0 [] (by rfl) (Hm1.out.alloc _) ⟨g, 0, none⟩ ln lc (pcells L) rfl (by rw [pcells_len, HLN.out]) (fun j u hj => by have h1 := h9.1.cell (HSRC.out j u hj); have hadd : (⟨g, 0, none⟩ : Addr).add j = ⟨g, j, none⟩ := (by unfold Addr.add; split <;> simp_all); rw [hadd]; exact h1) (pcells_one L) hlp (by unfold maxLen; omega) (by omega) h9.1.size _ rfl ?_
      intro g5 cap5 w5 hown5 hgrow5 hat5 hlt5
      simp only [Nat.zero_add, List.nil_append] at hown5 ⊢
      have HG5 := Lib.hid (h9.1.append (Hm1.out.alloc _) hgrow5)
      have hn5 : Blk w5 (W3.heap.size + 1) #[.int .i64 pA, .int .i64 pB, .string s] 50 := (hgrow5.block _ (by simp) (by simp [Value.ownBlock])).trans Hb1.out
      first | refine hK.out _ _ ?sa10 (fun h10 => ?_) | (go_wp2_with fail; refine hK.out _ _ ?sa10 (fun h10 => ?_))
      case sa10 => ((try dsimp only); (first | exact HX.out _ HG7.out | exact HX.out _ HG5.out | exact HX.out _ (h9.1.alloc _)))
      clear hK K h9
      try simp only [Act.put, List.setIfInBounds_toArray, List.set_cons_zero, List.set_cons_succ]
      refine late_ready (rs := [6]) (by kernel_rfl) (by simp) ?_
      refine LateAll.cons (o := { dst := some 26, op := Go.Op.call { callee := Go.Callee.builtin Go.Builtin.append, args := #[Go.Operand.tmp 23, Go.Operand.tmp 25], argTypes := #[26, 26] }, type := 26, pos := "ref.go:38", after := #[{ on := 3, ground := Go.Ground.data }, { on := 5, ground := Go.Ground.data }, { on := 3, ground := Go.Ground.chain }], guard := none }) rfl (fun K hK => ?_) LateAll.nil
      refine step_append_lies _ (by rfl) (.tmp 23) (.tmp 25) 26 (by rfl) W3.heap.size 50 i0 (.agg #[.int .i64 0, .int .i64 0, .string ⟨#[]⟩]) 3 32 Try.underlying26 hi hz0 hz1 hz2 rfl (by decide) _ ln _ rfl hown5 ⟨_, 0, none⟩ 1 1 [.int .i64 pA, .int .i64 pB, .string s] rfl rfl (World.news_of_block (cs := #[.int .i64 pA, .int .i64 pB, .string s]) (t := 50) (fr := (0, 0)) hn5) (by intro u hu; simp at hu; rcases hu with rfl | rfl | rfl <;> rfl) (by omega) (by unfold maxLen; omega) (by omega) h10.1.size _ rfl ?_
      intro g7 cap7 w7 hown7 hgrow7 hat7 hlt7
      have HG7 := Lib.hid (h10.1.append hown5 hgrow7)
      first | refine hK.out _ _ ?sa11 (fun h11 => ?_) | (go_wp2_with fail; refine hK.out _ _ ?sa11 (fun h11 => ?_))
      case sa11 => ((try dsimp only); (first | exact HX.out _ HG7.out | exact HX.out _ HG5.out | exact HX.out _ (h10.1.alloc _)))
      clear hK K h10
      try simp only [Act.put, List.setIfInBounds_toArray, List.set_cons_zero, List.set_cons_succ]
      refine late_take (i := 7) (oi := { dst := some 27, op := Go.Op.fieldAddr 29 (Go.Operand.tmp 2) 1, type := 0, pos := "ref.go:38", after := #[{ on := 0, ground := Go.Ground.phase }, { on := 1, ground := Go.Ground.phase }, { on := 2, ground := Go.Ground.phase }, { on := 3, ground := Go.Ground.phase }, { on := 4, ground := Go.Ground.phase }, { on := 5, ground := Go.Ground.phase }, { on := 6, ground := Go.Ground.phase }], guard := none }) (v := ?va12) rfl (by kernel_rfl) (by kernel_rfl) (by kernel_rfl) (by kernel_rfl) (by kernel_rfl) (fun _ _ _ h => h) (Or.inl ⟨by rfl, ?ra12⟩) (by assumption) ?_
      case ra12 => (intro w hSw; (try dsimp only at hSw); (go_simp <;> with_reducible rfl))
      try simp only [Act.put, List.setIfInBounds_toArray, List.set_cons_zero, List.set_cons_succ]
      have HO7 := Lib.hid (show w7.ownsRow W3.heap.size 50 3 (.slice (some ⟨g7, 0, none⟩) (ln + 1) cap7) LL.length (pcells LL) by rw [QLN.out, QCS.out]; exact hown7)
      clear hown7 hgrow7 hat7 hlt7
      have m8 := (HG7.out.frozen (cell_lt c1) (o := 1)).trans f1
      have m0 := HG7.out.cell c0
      have m1 := HG7.out.cell c1
      have m2 := HG7.out.cell c2
      have n0 := HG7.out.cell q0
      have n1 := HG7.out.cell q1
      have n2 := HG7.out.cell q2
      have e0 := (HG7.out.frozen (cell_lt q0) (o := 0)).trans d0
      have e1 := (HG7.out.frozen (cell_lt q0) (o := 1)).trans d1
      have e2 := (HG7.out.frozen (cell_lt q0) (o := 2)).trans d2
      clear c0 c1 c2 q0 q1 q2 d0 d1 d2 f1 p0 p1 p2
      refine late_go (by kernel_rfl) ?_
      refine any_one (i := 8) (o := { dst := none, op := Go.Op.store 26 (Go.Operand.tmp 27) (Go.Operand.tmp 26), type := 0, pos := "ref.go:38", after := #[{ on := 7, ground := Go.Ground.data }, { on := 6, ground := Go.Ground.data }, { on := 6, ground := Go.Ground.chain }, { on := 0, ground := Go.Ground.phase }, { on := 1, ground := Go.Ground.phase }, { on := 2, ground := Go.Ground.phase }, { on := 3, ground := Go.Ground.phase }, { on := 4, ground := Go.Ground.phase }, { on := 5, ground := Go.Ground.phase }, { on := 6, ground := Go.Ground.phase }], guard := none }) (by kernel_rfl) rfl (fun K hK => ?_)
      go_simp
      refine hK.out _ _ ?_
      clear hK K
      try simp only [Act.put, List.setIfInBounds_toArray, List.set_cons_zero, List.set_cons_succ]
      refine any_done (by kernel_rfl) ?_
      have HFR : Hid (∀ m, (Value.slice (some ⟨g7, 0, none⟩) (ln + 1) cap7).ownBlock = some m → w.heap.size ≤ m ∧ m < w7.heap.size) := Lib.hid fun m e => by have := HO7.out.lt m e; have := HZ3.out; omega
      have HR := Lib.hid (CRow.of_owns HO7.out)
      have HQ := Lib.hid (HG3.out.trans HG7.out)
      have HB : Hid (∀ m, m < w.heap.size + 3 → (Value.slice (some ⟨g7, 0, none⟩) (ln + 1) cap7).ownBlock ≠ some m) := Lib.hid fun m hm e => by have := (HO7.out.lt m e).1; have := HZ3.out; omega
      go_wp2
      refine bodyPost_ret (v := .tuple #[.agg #[.int .i64 (n : Nat), .slice (some ⟨g7, 0, none⟩) (ln + 1) cap7, .slice ca cn cc], .bool true]) (by simp [results, Try.results15, go_sem, n0, n1, n2, e0, e1, e2]; try rfl) rfl ?_
      refine ⟨_, rfl, ?_, ?_, fun m e => by have := HFR.out m e; simpa [World.setCell] using this⟩
      · exact (((HR.out.set (HB.out w.heap.size (by omega)) (o := 1) _).set (HB.out (w.heap.size + 2) (by omega)) (o := 0) _).set (HB.out (w.heap.size + 2) (by omega)) (o := 1) _).set (HB.out (w.heap.size + 2) (by omega)) (o := 2) _
      · exact (((HQ.out.setCell (p := ⟨w.heap.size, 1, none⟩) (Nat.le_refl _) _).setCell (p := ⟨w.heap.size + 2, 0, none⟩) (by simp) _).setCell (p := ⟨w.heap.size + 2, 1, none⟩) (by simp) _).setCell (p := ⟨w.heap.size + 2, 2, none⟩) (by simp) _
  · skip
    go_simp
    skip
    first | refine hK.out _ _ ?sa13 (fun h13 => ?_) | (go_wp2_with fail; refine hK.out _ _ ?sa13 (fun h13 => ?_))
    case sa13 => ((try dsimp only); (first | exact HX.out _ HG7.out | exact HX.out _ HG5.out | exact HX.out _ (h0.1.alloc _)))
    clear hK K h0
    try simp only [Act.put, List.setIfInBounds_toArray, List.set_cons_zero, List.set_cons_succ]
    refine late_ready (rs := [0]) (by kernel_rfl) (by simp) ?_
    refine LateAll.cons (o := { dst := some 20, op := Go.Op.buildSlice 26 0 #[], type := 26, pos := "ref.go:38", after := #[], guard := none }) rfl (fun K hK => ?_) LateAll.nil
    go_simp
    skip
    first | refine hK.out _ _ ?sa14 (fun h14 => ?_) | (go_wp2_with fail; refine hK.out _ _ ?sa14 (fun h14 => ?_))
    case sa14 => ((try dsimp only); (first | exact HX.out _ HG7.out | exact HX.out _ HG5.out | exact HX.out _ (h13.1.alloc _)))
    clear hK K h13
    try simp only [Act.put, List.setIfInBounds_toArray, List.set_cons_zero, List.set_cons_succ]
    refine late_ready (rs := [3]) (by kernel_rfl) (by simp) ?_
    refine LateAll.cons (o := { dst := some 23, op := Go.Op.call { callee := Go.Callee.builtin Go.Builtin.append, args := #[Go.Operand.tmp 20, Go.Operand.tmp 22], argTypes := #[26, 26] }, type := 26, pos := "ref.go:38", after := #[{ on := 0, ground := Go.Ground.data }, { on := 2, ground := Go.Ground.data }], guard := none }) rfl (fun K hK => ?_) LateAll.nil
    refine step_append_lies _ (by rfl) (.tmp 20) (.tmp 22) 26 (by rfl) W3.heap.size 50 i0 (.agg #[.int .i64 0, .int .i64 0, .string ⟨#[]⟩]) 3 32 Try.underlying26 hi hz0 hz1 hz2 rfl (by decide) (.slice (some ⟨W3.heap.size + 1, 0, none⟩) 0 0) 0 [] (by rfl) Hm2.out ⟨g, 0, none⟩ ln lc (pcells L) rfl (by rw [pcells_len, HLN.out]) (fun j u hj => by have h1 := h14.1.cell (HSRC.out j u hj); have hadd : (⟨g, 0, none⟩ : Addr).add j = ⟨g, j, none⟩ := (by unfold Addr.add; split <;> simp_all); rw [hadd]; exact h1) (pcells_one L) hlp (by unfold maxLen; omega) (by omega) h14.1.size _ rfl ?_
    intro g5 cap5 w5 hown5 hgrow5 hat5 hlt5
    simp only [Nat.zero_add, List.nil_append] at hown5 ⊢
    have HG5 := Lib.hid (h14.1.append Hm2.out hgrow5)
    have hn5 : Blk w5 W3.heap.size #[.int .i64 pA, .int .i64 pB, .string s] 50 := (hgrow5.block _ (by simp; omega) (by simp [Value.ownBlock])).trans Hb2.out
    first | refine hK.out _ _ ?sa15 (fun h15 => ?_) | (go_wp2_with fail; refine hK.out _ _ ?sa15 (fun h15 => ?_))
    case sa15 => ((try dsimp only); (first | exact HX.out _ HG7.out | exact HX.out _ HG5.out | exact HX.out _ (h14.1.alloc _)))
    clear hK K h14
    try simp only [Act.put, List.setIfInBounds_toArray, List.set_cons_zero, List.set_cons_succ]
    refine late_ready (rs := [6]) (by kernel_rfl) (by simp) ?_
    refine LateAll.cons (o := { dst := some 26, op := Go.Op.call { callee := Go.Callee.builtin Go.Builtin.append, args := #[Go.Operand.tmp 23, Go.Operand.tmp 25], argTypes := #[26, 26] }, type := 26, pos := "ref.go:38", after := #[{ on := 3, ground := Go.Ground.data }, { on := 5, ground := Go.Ground.data }, { on := 3, ground := Go.Ground.chain }], guard := none }) rfl (fun K hK => ?_) LateAll.nil
    refine step_append_lies _ (by rfl) (.tmp 23) (.tmp 25) 26 (by rfl) W3.heap.size 50 i0 (.agg #[.int .i64 0, .int .i64 0, .string ⟨#[]⟩]) 3 32 Try.underlying26 hi hz0 hz1 hz2 rfl (by decide) _ ln _ rfl hown5 ⟨_, 0, none⟩ 1 1 [.int .i64 pA, .int .i64 pB, .string s] rfl rfl (World.news_of_block (cs := #[.int .i64 pA, .int .i64 pB, .string s]) (t := 50) (fr := (0, 0)) hn5) (by intro u hu; simp at hu; rcases hu with rfl | rfl | rfl <;> rfl) (by omega) (by unfold maxLen; omega) (by omega) h15.1.size _ rfl ?_
    intro g7 cap7 w7 hown7 hgrow7 hat7 hlt7
    have HG7 := Lib.hid (h15.1.append hown5 hgrow7)
    first | refine hK.out _ _ ?sa16 (fun h16 => ?_) | (go_wp2_with fail; refine hK.out _ _ ?sa16 (fun h16 => ?_))
    case sa16 => ((try dsimp only); (first | exact HX.out _ HG7.out | exact HX.out _ HG5.out | exact HX.out _ (h15.1.alloc _)))
    clear hK K h15
    try simp only [Act.put, List.setIfInBounds_toArray, List.set_cons_zero, List.set_cons_succ]
    refine late_take (i := 7) (oi := { dst := some 27, op := Go.Op.fieldAddr 29 (Go.Operand.tmp 2) 1, type := 0, pos := "ref.go:38", after := #[{ on := 0, ground := Go.Ground.phase }, { on := 1, ground := Go.Ground.phase }, { on := 2, ground := Go.Ground.phase }, { on := 3, ground := Go.Ground.phase }, { on := 4, ground := Go.Ground.phase }, { on := 5, ground := Go.Ground.phase }, { on := 6, ground := Go.Ground.phase }], guard := none }) (v := ?va17) rfl (by kernel_rfl) (by kernel_rfl) (by kernel_rfl) (by kernel_rfl) (by kernel_rfl) (fun _ _ _ h => h) (Or.inl ⟨by rfl, ?ra17⟩) (by assumption) ?_
    case ra17 => (intro w hSw; (try dsimp only at hSw); (go_simp <;> with_reducible rfl))
    try simp only [Act.put, List.setIfInBounds_toArray, List.set_cons_zero, List.set_cons_succ]
    have HO7 := Lib.hid (show w7.ownsRow W3.heap.size 50 3 (.slice (some ⟨g7, 0, none⟩) (ln + 1) cap7) LL.length (pcells LL) by rw [QLN.out, QCS.out]; exact hown7)
    clear hown7 hgrow7 hat7 hlt7
    have m8 := (HG7.out.frozen (cell_lt c1) (o := 1)).trans f1
    have m0 := HG7.out.cell c0
    have m1 := HG7.out.cell c1
    have m2 := HG7.out.cell c2
    have n0 := HG7.out.cell q0
    have n1 := HG7.out.cell q1
    have n2 := HG7.out.cell q2
    have e0 := (HG7.out.frozen (cell_lt q0) (o := 0)).trans d0
    have e1 := (HG7.out.frozen (cell_lt q0) (o := 1)).trans d1
    have e2 := (HG7.out.frozen (cell_lt q0) (o := 2)).trans d2
    clear c0 c1 c2 q0 q1 q2 d0 d1 d2 f1 p0 p1 p2
    refine late_go (by kernel_rfl) ?_
    refine any_one (i := 8) (o := { dst := none, op := Go.Op.store 26 (Go.Operand.tmp 27) (Go.Operand.tmp 26), type := 0, pos := "ref.go:38", after := #[{ on := 7, ground := Go.Ground.data }, { on := 6, ground := Go.Ground.data }, { on := 6, ground := Go.Ground.chain }, { on := 0, ground := Go.Ground.phase }, { on := 1, ground := Go.Ground.phase }, { on := 2, ground := Go.Ground.phase }, { on := 3, ground := Go.Ground.phase }, { on := 4, ground := Go.Ground.phase }, { on := 5, ground := Go.Ground.phase }, { on := 6, ground := Go.Ground.phase }], guard := none }) (by kernel_rfl) rfl (fun K hK => ?_)
    go_simp
    refine hK.out _ _ ?_
    clear hK K
    try simp only [Act.put, List.setIfInBounds_toArray, List.set_cons_zero, List.set_cons_succ]
    refine any_done (by kernel_rfl) ?_
    have HFR : Hid (∀ m, (Value.slice (some ⟨g7, 0, none⟩) (ln + 1) cap7).ownBlock = some m → w.heap.size ≤ m ∧ m < w7.heap.size) := Lib.hid fun m e => by have := HO7.out.lt m e; have := HZ3.out; omega
    have HR := Lib.hid (CRow.of_owns HO7.out)
    have HQ := Lib.hid (HG3.out.trans HG7.out)
    have HB : Hid (∀ m, m < w.heap.size + 3 → (Value.slice (some ⟨g7, 0, none⟩) (ln + 1) cap7).ownBlock ≠ some m) := Lib.hid fun m hm e => by have := (HO7.out.lt m e).1; have := HZ3.out; omega
    go_wp2
    refine bodyPost_ret (v := .tuple #[.agg #[.int .i64 (n : Nat), .slice (some ⟨g7, 0, none⟩) (ln + 1) cap7, .slice ca cn cc], .bool true]) (by simp [results, Try.results15, go_sem, n0, n1, n2, e0, e1, e2]; try rfl) rfl ?_
    refine ⟨_, rfl, ?_, ?_, fun m e => by have := HFR.out m e; simpa [World.setCell] using this⟩
    · exact (((HR.out.set (HB.out w.heap.size (by omega)) (o := 1) _).set (HB.out (w.heap.size + 2) (by omega)) (o := 0) _).set (HB.out (w.heap.size + 2) (by omega)) (o := 1) _).set (HB.out (w.heap.size + 2) (by omega)) (o := 2) _
    · exact (((HQ.out.setCell (p := ⟨w.heap.size, 1, none⟩) (Nat.le_refl _) _).setCell (p := ⟨w.heap.size + 2, 0, none⟩) (by simp) _).setCell (p := ⟨w.heap.size + 2, 1, none⟩) (by simp) _).setCell (p := ⟨w.heap.size + 2, 2, none⟩) (by simp) _
set_option maxRecDepth 100000 in
set_option maxHeartbeats 2000000 in
theorem refSend_first (n : Nat) (la ca : Option Addr) (lc cn cc : Nat) (p : P) (w : World) (hq : wayB n p.a p.b = true) :
    Calls Try.prog 15 #[.agg #[.int .i64 (n : Nat), .slice la 0 lc, .slice ca cn cc], p.val] w (fun e w' => ∃ v', e = .returned (.tuple #[.agg #[.int .i64 (n : Nat), v', .slice ca cn cc], .bool true]) ∧ CRow w' v' [p].length (pcells [p]) ∧ Gr w w' ∧ Fresh w w' v') := by
  obtain ⟨i0, hi, hz0, hz1, hz2⟩ := info_parts info_rpacket
  obtain ⟨pA, pB, s⟩ := p
  have QCS := Lib.hid (show pcells [(⟨pA, pB, s⟩ : P)] = [.int .i64 pA, .int .i64 pB, .string s] by simp [pcells, P.cells])
  have QLN := Lib.hid (show [(⟨pA, pB, s⟩ : P)].length = 1 by simp)
  generalize [(⟨pA, pB, s⟩ : P)] = LL at *
  simp only at hq
  have HI := Lib.hid (refIs_any n la ca 0 lc cn cc pA pB)
  rw [hq] at HI
  clear hq
  show Calls Try.prog 15 #[.agg #[.int .i64 (n : Nat), .slice la 0 lc, .slice ca cn cc], .agg #[.int .i64 pA, .int .i64 pB, .string s]] w _
  obtain ⟨W2, hW2⟩ : ∃ W2, ((w.alloc (.cells #[.int .i64 (n : Nat), .slice la 0 lc, .slice ca cn cc] 29)).alloc (.cells #[.int .i64 pA, .int .i64 pB, .string s] 50)).alloc (.cells #[.int .i64 0, .slice none 0 0, .slice none 0 0] 29) = W2 := ⟨_, rfl⟩
  have HG2 := Lib.hid (show Gr w W2 by rw [← hW2]; exact (((Gr.refl w).alloc _).alloc _).alloc _)
  have HZ2 := Lib.hid (show W2.heap.size = w.heap.size + 3 by rw [← hW2]; simp)
  have HB0 := Lib.hid (show Blk W2 w.heap.size #[.int .i64 (n : Nat), .slice la 0 lc, .slice ca cn cc] 29 by rw [← hW2]; exact (Blk.new w _ _).gr (((Gr.refl _).alloc _).alloc _))
  have HB1 := Lib.hid (show Blk W2 (w.heap.size + 1) #[.int .i64 pA, .int .i64 pB, .string s] 50 by
    rw [← hW2]
    have := (Blk.new (w.alloc (.cells #[.int .i64 (n : Nat), .slice la 0 lc, .slice ca cn cc] 29)) #[.int .i64 pA, .int .i64 pB, .string s] 50).gr ((Gr.refl _).alloc (.cells #[.int .i64 0, .slice none 0 0, .slice none 0 0] 29))
    rwa [show (w.alloc (.cells #[.int .i64 (n : Nat), .slice la 0 lc, .slice ca cn cc] 29)).heap.size = w.heap.size + 1 by simp] at this)
  have HB2 := Lib.hid (show Blk W2 (w.heap.size + 2) #[.int .i64 0, .slice none 0 0, .slice none 0 0] 29 by
    rw [← hW2]
    have := Blk.new ((w.alloc (.cells #[.int .i64 (n : Nat), .slice la 0 lc, .slice ca cn cc] 29)).alloc (.cells #[.int .i64 pA, .int .i64 pB, .string s] 50)) #[.int .i64 0, .slice none 0 0, .slice none 0 0] 29
    rwa [show ((w.alloc (.cells #[.int .i64 (n : Nat), .slice la 0 lc, .slice ca cn cc] 29)).alloc (.cells #[.int .i64 pA, .int .i64 pB, .string s] 50)).heap.size = w.heap.size + 2 by simp] at this)
  have HW2 := Lib.hid hW2
  clear hW2
  go_enter Try.func15, Try.ntmps15
  go_wp2_with fail
  refine (HI.out _).mono ?_
  rintro e W3 ⟨rfl, hg8⟩
  rw [HW2.out] at hg8
  have HG3 := Lib.hid (HG2.out.trans hg8)
  have HZ3 := Lib.hid (show w.heap.size + 3 ≤ W3.heap.size by have := hg8.size; have := HZ2.out; omega)
  have b0 := HB0.out.gr hg8
  have b1 := HB1.out.gr hg8
  have b2 := HB2.out.gr hg8
  have c0 := b0.cell (i := 0) rfl
  have c1 := b0.cell (i := 1) rfl
  have c2 := b0.cell (i := 2) rfl
  have f1 := b0.free 1
  have p0 := b1.cell (i := 0) rfl
  have p1 := b1.cell (i := 1) rfl
  have p2 := b1.cell (i := 2) rfl
  have q0 := b2.cell (i := 0) rfl
  have q1 := b2.cell (i := 1) rfl
  have q2 := b2.cell (i := 2) rfl
  have d0 := b2.free 0
  have d1 := b2.free 1
  have d2 := b2.free 2
  clear hg8 b0 b1 b2
  have Hm1 := Lib.hid (World.ownsRow_made (base := W3.heap.size) (e := 50) (size := 3) W3.drew #[] 0 (Nat.le_refl _) (by unfold maxLen; omega) rfl)
  have Hm2 := Lib.hid (World.ownsRow_made (base := W3.heap.size) (e := 50) (size := 3) (W3.drew.alloc (.cells #[.int .i64 pA, .int .i64 pB, .string s] 50)) #[] 0 (by simp) (by unfold maxLen; omega) rfl)
  have Hb1 := Lib.hid (Blk.new (W3.drew.alloc (.cells #[] 50)) #[.int .i64 pA, .int .i64 pB, .string s] 50)
  have Hb2 := Lib.hid ((Blk.new W3.drew #[.int .i64 pA, .int .i64 pB, .string s] 50).gr ((Gr.refl _).alloc (.cells #[] 50)))
  simp at Hm1 Hm2 Hb1 Hb2
  go_wp2_with fail
  have HX : Hid (∀ w9 : World, Gr W3 w9 → (fun w9 => Gr W3 w9 ∧ w9.cell? ⟨w.heap.size, 1, none⟩ = some (.slice la 0 lc) ∧ w9.cell? ⟨w.heap.size + 1, 0, none⟩ = some (.int .i64 pA) ∧ w9.cell? ⟨w.heap.size + 1, 1, none⟩ = some (.int .i64 pB) ∧ w9.cell? ⟨w.heap.size + 1, 2, none⟩ = some (.string s)) w9) := Lib.hid fun w9 hg => ⟨hg, hg.cell c1, hg.cell p0, hg.cell p1, hg.cell p2⟩
  refine late_start (fun i => decide (8 ≤ i)) (fun w9 => Gr W3 w9 ∧ w9.cell? ⟨w.heap.size, 1, none⟩ = some (.slice la 0 lc) ∧ w9.cell? ⟨w.heap.size + 1, 0, none⟩ = some (.int .i64 pA) ∧ w9.cell? ⟨w.heap.size + 1, 1, none⟩ = some (.int .i64 pB) ∧ w9.cell? ⟨w.heap.size + 1, 2, none⟩ = some (.string s)) (by kernel_rfl) ?inva (fun h0 => ?_)
  case inva => ((try dsimp only); (exact HX.out _ (Gr.refl _).drew))
  refine late_take (i := 1) (oi := { dst := some 21, op := Go.Op.fieldAddr 29 (Go.Operand.tmp 2) 1, type := 0, pos := "ref.go:38", after := #[], guard := none }) (v := ?va1) rfl (by kernel_rfl) (by kernel_rfl) (by kernel_rfl) (by kernel_rfl) (by kernel_rfl) (fun _ _ _ h => h) (Or.inl ⟨by rfl, ?ra1⟩) (by assumption) ?_
  case ra1 => (intro w hSw; (try dsimp only at hSw); (go_simp <;> with_reducible rfl))
  try simp only [Act.put, List.setIfInBounds_toArray, List.set_cons_zero, List.set_cons_succ]
  refine late_take (i := 2) (oi := { dst := some 22, op := Go.Op.load 26 (Go.Operand.tmp 21), type := 26, pos := "ref.go:38", after := #[{ on := 1, ground := Go.Ground.data }], guard := none }) (v := ?va2) rfl (by kernel_rfl) (by kernel_rfl) (by kernel_rfl) (by kernel_rfl) (by kernel_rfl) (fun _ _ _ h => h) (Or.inl ⟨by rfl, ?ra2⟩) (by assumption) ?_
  case ra2 => (intro w hSw; (try dsimp only at hSw); (go_simp <;> with_reducible rfl))
  try simp only [Act.put, List.setIfInBounds_toArray, List.set_cons_zero, List.set_cons_succ]
  refine late_take (i := 4) (oi := { dst := some 24, op := Go.Op.load 50 (Go.Operand.tmp 3), type := 50, pos := "ref.go:38", after := #[], guard := none }) (v := ?va3) rfl (by kernel_rfl) (by kernel_rfl) (by kernel_rfl) (by kernel_rfl) (by kernel_rfl) (fun _ _ _ h => h) (Or.inl ⟨by rfl, ?ra3⟩) (by assumption) ?_
  case ra3 => (intro w hSw; (try dsimp only at hSw); (go_simp <;> with_reducible rfl))
  try simp only [Act.put, List.setIfInBounds_toArray, List.set_cons_zero, List.set_cons_succ]
  refine late_ready (rs := [0, 5]) (by kernel_rfl) (by simp) ?_
  refine LateAll.cons (o := { dst := some 20, op := Go.Op.buildSlice 26 0 #[], type := 26, pos := "ref.go:38", after := #[], guard := none }) rfl (fun K hK => ?_) (LateAll.cons (o := { dst := some 25, op := Go.Op.buildSlice 26 1 #[(0, Go.Operand.tmp 24)], type := 26, pos := "ref.go:38", after := #[{ on := 4, ground := Go.Ground.data }], guard := none }) rfl (fun K hK => ?_) LateAll.nil)
  · skip
    go_simp
    skip
    first | refine hK.out _ _ ?sa4 (fun h4 => ?_) | (go_wp2_with fail; refine hK.out _ _ ?sa4 (fun h4 => ?_))
    case sa4 => ((try dsimp only); (first | exact HX.out _ HG7.out | exact HX.out _ (h0.1.alloc _) | exact HX.out _ h0.1))
    clear hK K h0
    try simp only [Act.put, List.setIfInBounds_toArray, List.set_cons_zero, List.set_cons_succ]
    refine late_ready (rs := [3, 5]) (by kernel_rfl) (by simp) ?_
    refine LateAll.cons (o := { dst := some 23, op := Go.Op.call { callee := Go.Callee.builtin Go.Builtin.append, args := #[Go.Operand.tmp 20, Go.Operand.tmp 22], argTypes := #[26, 26] }, type := 26, pos := "ref.go:38", after := #[{ on := 0, ground := Go.Ground.data }, { on := 2, ground := Go.Ground.data }], guard := none }) rfl (fun K hK => ?_) (LateAll.cons (o := { dst := some 25, op := Go.Op.buildSlice 26 1 #[(0, Go.Operand.tmp 24)], type := 26, pos := "ref.go:38", after := #[{ on := 4, ground := Go.Ground.data }], guard := none }) rfl (fun K hK => ?_) LateAll.nil)
    · skip
      refine step_append_zero _ (by rfl) (.tmp 20) (.tmp 22) 26 (by rfl) 50 i0 Try.underlying26 hi (W3.heap.size) 0 0 la lc (by rfl) (by rfl) (Nat.le_refl _) ?_
      first | refine hK.out _ _ ?sa5 (fun h5 => ?_) | (go_wp2_with fail; refine hK.out _ _ ?sa5 (fun h5 => ?_))
      case sa5 => ((try dsimp only); (first | exact HX.out _ HG7.out | exact HX.out _ (h4.1.alloc _) | exact HX.out _ h4.1))
      clear hK K h4
      try simp only [Act.put, List.setIfInBounds_toArray, List.set_cons_zero, List.set_cons_succ]
      refine late_ready (rs := [5]) (by kernel_rfl) (by simp) ?_
      refine LateAll.cons (o := { dst := some 25, op := Go.Op.buildSlice 26 1 #[(0, Go.Operand.tmp 24)], type := 26, pos := "ref.go:38", after := #[{ on := 4, ground := Go.Ground.data }], guard := none }) rfl (fun K hK => ?_) LateAll.nil
      go_simp
      skip
      first | refine hK.out _ _ ?sa6 (fun h6 => ?_) | (go_wp2_with fail; refine hK.out _ _ ?sa6 (fun h6 => ?_))
      case sa6 => ((try dsimp only); (first | exact HX.out _ HG7.out | exact HX.out _ (h5.1.alloc _) | exact HX.out _ h5.1))
      clear hK K h5
      try simp only [Act.put, List.setIfInBounds_toArray, List.set_cons_zero, List.set_cons_succ]
      refine late_ready (rs := [6]) (by kernel_rfl) (by simp) ?_
      refine LateAll.cons (o := { dst := some 26, op := Go.Op.call { callee := Go.Callee.builtin Go.Builtin.append, args := #[Go.Operand.tmp 23, Go.Operand.tmp 25], argTypes := #[26, 26] }, type := 26, pos := "ref.go:38", after := #[{ on := 3, ground := Go.Ground.data }, { on := 5, ground := Go.Ground.data }, { on := 3, ground := Go.Ground.chain }], guard := none }) rfl (fun K hK => ?_) LateAll.nil
      refine step_append_lies _ (by rfl) (.tmp 23) (.tmp 25) 26 (by rfl) W3.heap.size 50 i0 (.agg #[.int .i64 0, .int .i64 0, .string ⟨#[]⟩]) 3 32 Try.underlying26 hi hz0 hz1 hz2 rfl (by decide) (.slice (some ⟨W3.heap.size, 0, none⟩) 0 0) 0 [] (by rfl) (Hm1.out.alloc _) ⟨_, 0, none⟩ 1 1 [.int .i64 pA, .int .i64 pB, .string s] rfl rfl (World.news_of_block (cs := #[.int .i64 pA, .int .i64 pB, .string s]) (t := 50) (fr := (0, 0)) Hb1.out) (by intro u hu; simp at hu; rcases hu with rfl | rfl | rfl <;> rfl) (by omega) (by unfold maxLen; omega) (by omega) h6.1.size _ rfl ?_
      intro g7 cap7 w7 hown7 hgrow7 hat7 hlt7
      simp only [Nat.zero_add, List.nil_append] at hown7 ⊢
      have HG7 := Lib.hid (h6.1.append (Hm1.out.alloc _) hgrow7)
      first | refine hK.out _ _ ?sa7 (fun h7 => ?_) | (go_wp2_with fail; refine hK.out _ _ ?sa7 (fun h7 => ?_))
      case sa7 => ((try dsimp only); (first | exact HX.out _ HG7.out | exact HX.out _ (h6.1.alloc _) | exact HX.out _ h6.1))
      clear hK K h6
      try simp only [Act.put, List.setIfInBounds_toArray, List.set_cons_zero, List.set_cons_succ]
      refine late_take (i := 7) (oi := { dst := some 27, op := Go.Op.fieldAddr 29 (Go.Operand.tmp 2) 1, type := 0, pos := "ref.go:38", after := #[{ on := 0, ground := Go.Ground.phase }, { on := 1, ground := Go.Ground.phase }, { on := 2, ground := Go.Ground.phase }, { on := 3, ground := Go.Ground.phase }, { on := 4, ground := Go.Ground.phase }, { on := 5, ground := Go.Ground.phase }, { on := 6, ground := Go.Ground.phase }], guard := none }) (v := ?va8) rfl (by kernel_rfl) (by kernel_rfl) (by kernel_rfl) (by kernel_rfl) (by kernel_rfl) (fun _ _ _ h => h) (Or.inl ⟨by rfl, ?ra8⟩) (by assumption) ?_
      case ra8 => (intro w hSw; (try dsimp only at hSw); (go_simp <;> with_reducible rfl))
      try simp only [Act.put, List.setIfInBounds_toArray, List.set_cons_zero, List.set_cons_succ]
      have HO7 := Lib.hid (show w7.ownsRow W3.heap.size 50 3 (.slice (some ⟨g7, 0, none⟩) 1 cap7) LL.length (pcells LL) by rw [QLN.out, QCS.out]; exact hown7)
      clear hown7 hgrow7 hat7 hlt7
      have m8 := (HG7.out.frozen (cell_lt c1) (o := 1)).trans f1
      have m0 := HG7.out.cell c0
      have m1 := HG7.out.cell c1
      have m2 := HG7.out.cell c2
      have n0 := HG7.out.cell q0
      have n1 := HG7.out.cell q1
      have n2 := HG7.out.cell q2
      have e0 := (HG7.out.frozen (cell_lt q0) (o := 0)).trans d0
      have e1 := (HG7.out.frozen (cell_lt q0) (o := 1)).trans d1
      have e2 := (HG7.out.frozen (cell_lt q0) (o := 2)).trans d2
      clear c0 c1 c2 q0 q1 q2 d0 d1 d2 f1 p0 p1 p2
      refine late_go (by kernel_rfl) ?_
      refine any_one (i := 8) (o := { dst := none, op := Go.Op.store 26 (Go.Operand.tmp 27) (Go.Operand.tmp 26), type := 0, pos := "ref.go:38", after := #[{ on := 7, ground := Go.Ground.data }, { on := 6, ground := Go.Ground.data }, { on := 6, ground := Go.Ground.chain }, { on := 0, ground := Go.Ground.phase }, { on := 1, ground := Go.Ground.phase }, { on := 2, ground := Go.Ground.phase }, { on := 3, ground := Go.Ground.phase }, { on := 4, ground := Go.Ground.phase }, { on := 5, ground := Go.Ground.phase }, { on := 6, ground := Go.Ground.phase }], guard := none }) (by kernel_rfl) rfl (fun K hK => ?_)
      go_simp
      refine hK.out _ _ ?_
      clear hK K
      try simp only [Act.put, List.setIfInBounds_toArray, List.set_cons_zero, List.set_cons_succ]
      refine any_done (by kernel_rfl) ?_
      have HFR : Hid (∀ m, (Value.slice (some ⟨g7, 0, none⟩) 1 cap7).ownBlock = some m → w.heap.size ≤ m ∧ m < w7.heap.size) := Lib.hid fun m e => by have := HO7.out.lt m e; have := HZ3.out; omega
      have HR := Lib.hid (CRow.of_owns HO7.out)
      have HQ := Lib.hid (HG3.out.trans HG7.out)
      have HB : Hid (∀ m, m < w.heap.size + 3 → (Value.slice (some ⟨g7, 0, none⟩) 1 cap7).ownBlock ≠ some m) := Lib.hid fun m hm e => by have := (HO7.out.lt m e).1; have := HZ3.out; omega
      go_wp2
      refine bodyPost_ret (v := .tuple #[.agg #[.int .i64 (n : Nat), .slice (some ⟨g7, 0, none⟩) 1 cap7, .slice ca cn cc], .bool true]) (by simp [results, Try.results15, go_sem, n0, n1, n2, e0, e1, e2]; try rfl) rfl ?_
      refine ⟨_, rfl, ?_, ?_, fun m e => by have := HFR.out m e; simpa [World.setCell] using this⟩
      · exact (((HR.out.set (HB.out w.heap.size (by omega)) (o := 1) _).set (HB.out (w.heap.size + 2) (by omega)) (o := 0) _).set (HB.out (w.heap.size + 2) (by omega)) (o := 1) _).set (HB.out (w.heap.size + 2) (by omega)) (o := 2) _
      · exact (((HQ.out.setCell (p := ⟨w.heap.size, 1, none⟩) (Nat.le_refl _) _).setCell (p := ⟨w.heap.size + 2, 0, none⟩) (by simp) _).setCell (p := ⟨w.heap.size + 2, 1, none⟩) (by simp) _).setCell (p := ⟨w.heap.size + 2, 2, none⟩) (by simp) _
    · skip
      go_simp
      skip
      first | refine hK.out _ _ ?sa9 (fun h9 => ?_) | (go_wp2_with fail; refine hK.out _ _ ?sa9 (fun h9 => ?_))
      case sa9 => ((try dsimp only); (first | exact HX.out _ HG7.out | exact HX.out _ (h4.1.alloc _) | exact HX.out _ h4.1))
      clear hK K h4
      try simp only [Act.put, List.setIfInBounds_toArray, List.set_cons_zero, List.set_cons_succ]
      refine late_ready (rs := [3]) (by kernel_rfl) (by simp) ?_
      refine LateAll.cons (o := { dst := some 23, op := Go.Op.call { callee := Go.Callee.builtin Go.Builtin.append, args := #[Go.Operand.tmp 20, Go.Operand.tmp 22], argTypes := #[26, 26] }, type := 26, pos := "ref.go:38", after := #[{ on := 0, ground := Go.Ground.data }, { on := 2, ground := Go.Ground.data }], guard := none }) rfl (fun K hK => ?_) LateAll.nil
      refine step_append_zero _ (by rfl) (.tmp 20) (.tmp 22) 26 (by rfl) 50 i0 Try.underlying26 hi (W3.heap.size) 0 0 la lc (by rfl) (by rfl) (Nat.le_refl _) ?_
      first | refine hK.out _ _ ?sa10 (fun h10 => ?_) | (go_wp2_with fail; refine hK.out _ _ ?sa10 (fun h10 => ?_))
      case sa10 => ((try dsimp only); (first | exact HX.out _ HG7.out | exact HX.out _ (h9.1.alloc _) | exact HX.out _ h9.1))
      clear hK K h9
      try simp only [Act.put, List.setIfInBounds_toArray, List.set_cons_zero, List.set_cons_succ]
      refine late_ready (rs := [6]) (by kernel_rfl) (by simp) ?_
      refine LateAll.cons (o := { dst := some 26, op := Go.Op.call { callee := Go.Callee.builtin Go.Builtin.append, args := #[Go.Operand.tmp 23, Go.Operand.tmp 25], argTypes := #[26, 26] }, type := 26, pos := "ref.go:38", after := #[{ on := 3, ground := Go.Ground.data }, { on := 5, ground := Go.Ground.data }, { on := 3, ground := Go.Ground.chain }], guard := none }) rfl (fun K hK => ?_) LateAll.nil
      refine step_append_lies _ (by rfl) (.tmp 23) (.tmp 25) 26 (by rfl) W3.heap.size 50 i0 (.agg #[.int .i64 0, .int .i64 0, .string ⟨#[]⟩]) 3 32 Try.underlying26 hi hz0 hz1 hz2 rfl (by decide) (.slice (some ⟨W3.heap.size, 0, none⟩) 0 0) 0 [] (by rfl) (Hm1.out.alloc _) ⟨_, 0, none⟩ 1 1 [.int .i64 pA, .int .i64 pB, .string s] rfl rfl (World.news_of_block (cs := #[.int .i64 pA, .int .i64 pB, .string s]) (t := 50) (fr := (0, 0)) Hb1.out) (by intro u hu; simp at hu; rcases hu with rfl | rfl | rfl <;> rfl) (by omega) (by unfold maxLen; omega) (by omega) h10.1.size _ rfl ?_
      intro g7 cap7 w7 hown7 hgrow7 hat7 hlt7
      simp only [Nat.zero_add, List.nil_append] at hown7 ⊢
      have HG7 := Lib.hid (h10.1.append (Hm1.out.alloc _) hgrow7)
      first | refine hK.out _ _ ?sa11 (fun h11 => ?_) | (go_wp2_with fail; refine hK.out _ _ ?sa11 (fun h11 => ?_))
      case sa11 => ((try dsimp only); (first | exact HX.out _ HG7.out | exact HX.out _ (h10.1.alloc _) | exact HX.out _ h10.1))
      clear hK K h10
      try simp only [Act.put, List.setIfInBounds_toArray, List.set_cons_zero, List.set_cons_succ]
      refine late_take (i := 7) (oi := { dst := some 27, op := Go.Op.fieldAddr 29 (Go.Operand.tmp 2) 1, type := 0, pos := "ref.go:38", after := #[{ on := 0, ground := Go.Ground.phase }, { on := 1, ground := Go.Ground.phase }, { on := 2, ground := Go.Ground.phase }, { on := 3, ground := Go.Ground.phase }, { on := 4, ground := Go.Ground.phase }, { on := 5, ground := Go.Ground.phase }, { on := 6, ground := Go.Ground.phase }], guard := none }) (v := ?va12) rfl (by kernel_rfl) (by kernel_rfl) (by kernel_rfl) (by kernel_rfl) (by kernel_rfl) (fun _ _ _ h => h) (Or.inl ⟨by rfl, ?ra12⟩) (by assumption) ?_
      case ra12 => (intro w hSw; (try dsimp only at hSw); (go_simp <;> with_reducible rfl))
      try simp only [Act.put, List.setIfInBounds_toArray, List.set_cons_zero, List.set_cons_succ]
      have HO7 := Lib.hid (show w7.ownsRow W3.heap.size 50 3 (.slice (some ⟨g7, 0, none⟩) 1 cap7) LL.length (pcells LL) by rw [QLN.out, QCS.out]; exact hown7)
      clear hown7 hgrow7 hat7 hlt7
      have m8 := (HG7.out.frozen (cell_lt c1) (o := 1)).trans f1
      have m0 := HG7.out.cell c0
      have m1 := HG7.out.cell c1
      have m2 := HG7.out.cell c2
      have n0 := HG7.out.cell q0
      have n1 := HG7.out.cell q1
      have n2 := HG7.out.cell q2
      have e0 := (HG7.out.frozen (cell_lt q0) (o := 0)).trans d0
      have e1 := (HG7.out.frozen (cell_lt q0) (o := 1)).trans d1
      have e2 := (HG7.out.frozen (cell_lt q0) (o := 2)).trans d2
      clear c0 c1 c2 q0 q1 q2 d0 d1 d2 f1 p0 p1 p2
      refine late_go (by kernel_rfl) ?_
      refine any_one (i := 8) (o := { dst := none, op := Go.Op.store 26 (Go.Operand.tmp 27) (Go.Operand.tmp 26), type := 0, pos := "ref.go:38", after := #[{ on := 7, ground := Go.Ground.data }, { on := 6, ground := Go.Ground.data }, { on := 6, ground := Go.Ground.chain }, { on := 0, ground := Go.Ground.phase }, { on := 1, ground := Go.Ground.phase }, { on := 2, ground := Go.Ground.phase }, { on := 3, ground := Go.Ground.phase }, { on := 4, ground := Go.Ground.phase }, { on := 5, ground := Go.Ground.phase }, { on := 6, ground := Go.Ground.phase }], guard := none }) (by kernel_rfl) rfl (fun K hK => ?_)
      go_simp
      refine hK.out _ _ ?_
      clear hK K
      try simp only [Act.put, List.setIfInBounds_toArray, List.set_cons_zero, List.set_cons_succ]
      refine any_done (by kernel_rfl) ?_
      have HFR : Hid (∀ m, (Value.slice (some ⟨g7, 0, none⟩) 1 cap7).ownBlock = some m → w.heap.size ≤ m ∧ m < w7.heap.size) := Lib.hid fun m e => by have := HO7.out.lt m e; have := HZ3.out; omega
      have HR := Lib.hid (CRow.of_owns HO7.out)
      have HQ := Lib.hid (HG3.out.trans HG7.out)
      have HB : Hid (∀ m, m < w.heap.size + 3 → (Value.slice (some ⟨g7, 0, none⟩) 1 cap7).ownBlock ≠ some m) := Lib.hid fun m hm e => by have := (HO7.out.lt m e).1; have := HZ3.out; omega
      go_wp2
      refine bodyPost_ret (v := .tuple #[.agg #[.int .i64 (n : Nat), .slice (some ⟨g7, 0, none⟩) 1 cap7, .slice ca cn cc], .bool true]) (by simp [results, Try.results15, go_sem, n0, n1, n2, e0, e1, e2]; try rfl) rfl ?_
      refine ⟨_, rfl, ?_, ?_, fun m e => by have := HFR.out m e; simpa [World.setCell] using this⟩
      · exact (((HR.out.set (HB.out w.heap.size (by omega)) (o := 1) _).set (HB.out (w.heap.size + 2) (by omega)) (o := 0) _).set (HB.out (w.heap.size + 2) (by omega)) (o := 1) _).set (HB.out (w.heap.size + 2) (by omega)) (o := 2) _
      · exact (((HQ.out.setCell (p := ⟨w.heap.size, 1, none⟩) (Nat.le_refl _) _).setCell (p := ⟨w.heap.size + 2, 0, none⟩) (by simp) _).setCell (p := ⟨w.heap.size + 2, 1, none⟩) (by simp) _).setCell (p := ⟨w.heap.size + 2, 2, none⟩) (by simp) _
  · skip
    go_simp
    skip
    first | refine hK.out _ _ ?sa13 (fun h13 => ?_) | (go_wp2_with fail; refine hK.out _ _ ?sa13 (fun h13 => ?_))
    case sa13 => ((try dsimp only); (first | exact HX.out _ HG7.out | exact HX.out _ (h0.1.alloc _) | exact HX.out _ h0.1))
    clear hK K h0
    try simp only [Act.put, List.setIfInBounds_toArray, List.set_cons_zero, List.set_cons_succ]
    refine late_ready (rs := [0]) (by kernel_rfl) (by simp) ?_
    refine LateAll.cons (o := { dst := some 20, op := Go.Op.buildSlice 26 0 #[], type := 26, pos := "ref.go:38", after := #[], guard := none }) rfl (fun K hK => ?_) LateAll.nil
    go_simp
    skip
    first | refine hK.out _ _ ?sa14 (fun h14 => ?_) | (go_wp2_with fail; refine hK.out _ _ ?sa14 (fun h14 => ?_))
    case sa14 => ((try dsimp only); (first | exact HX.out _ HG7.out | exact HX.out _ (h13.1.alloc _) | exact HX.out _ h13.1))
    clear hK K h13
    try simp only [Act.put, List.setIfInBounds_toArray, List.set_cons_zero, List.set_cons_succ]
    refine late_ready (rs := [3]) (by kernel_rfl) (by simp) ?_
    refine LateAll.cons (o := { dst := some 23, op := Go.Op.call { callee := Go.Callee.builtin Go.Builtin.append, args := #[Go.Operand.tmp 20, Go.Operand.tmp 22], argTypes := #[26, 26] }, type := 26, pos := "ref.go:38", after := #[{ on := 0, ground := Go.Ground.data }, { on := 2, ground := Go.Ground.data }], guard := none }) rfl (fun K hK => ?_) LateAll.nil
    refine step_append_zero _ (by rfl) (.tmp 20) (.tmp 22) 26 (by rfl) 50 i0 Try.underlying26 hi (W3.heap.size + 1) 0 0 la lc (by rfl) (by rfl) (Nat.le_refl _) ?_
    first | refine hK.out _ _ ?sa15 (fun h15 => ?_) | (go_wp2_with fail; refine hK.out _ _ ?sa15 (fun h15 => ?_))
    case sa15 => ((try dsimp only); (first | exact HX.out _ HG7.out | exact HX.out _ (h14.1.alloc _) | exact HX.out _ h14.1))
    clear hK K h14
    try simp only [Act.put, List.setIfInBounds_toArray, List.set_cons_zero, List.set_cons_succ]
    refine late_ready (rs := [6]) (by kernel_rfl) (by simp) ?_
    refine LateAll.cons (o := { dst := some 26, op := Go.Op.call { callee := Go.Callee.builtin Go.Builtin.append, args := #[Go.Operand.tmp 23, Go.Operand.tmp 25], argTypes := #[26, 26] }, type := 26, pos := "ref.go:38", after := #[{ on := 3, ground := Go.Ground.data }, { on := 5, ground := Go.Ground.data }, { on := 3, ground := Go.Ground.chain }], guard := none }) rfl (fun K hK => ?_) LateAll.nil
    refine step_append_lies _ (by rfl) (.tmp 23) (.tmp 25) 26 (by rfl) W3.heap.size 50 i0 (.agg #[.int .i64 0, .int .i64 0, .string ⟨#[]⟩]) 3 32 Try.underlying26 hi hz0 hz1 hz2 rfl (by decide) (.slice (some ⟨W3.heap.size + 1, 0, none⟩) 0 0) 0 [] (by rfl) Hm2.out ⟨_, 0, none⟩ 1 1 [.int .i64 pA, .int .i64 pB, .string s] rfl rfl (World.news_of_block (cs := #[.int .i64 pA, .int .i64 pB, .string s]) (t := 50) (fr := (0, 0)) Hb2.out) (by intro u hu; simp at hu; rcases hu with rfl | rfl | rfl <;> rfl) (by omega) (by unfold maxLen; omega) (by omega) h15.1.size _ rfl ?_
    intro g7 cap7 w7 hown7 hgrow7 hat7 hlt7
    simp only [Nat.zero_add, List.nil_append] at hown7 ⊢
    have HG7 := Lib.hid (h15.1.append Hm2.out hgrow7)
    first | refine hK.out _ _ ?sa16 (fun h16 => ?_) | (go_wp2_with fail; refine hK.out _ _ ?sa16 (fun h16 => ?_))
    case sa16 => ((try dsimp only); (first | exact HX.out _ HG7.out | exact HX.out _ (h15.1.alloc _) | exact HX.out _ h15.1))
    clear hK K h15
    try simp only [Act.put, List.setIfInBounds_toArray, List.set_cons_zero, List.set_cons_succ]
    refine late_take (i := 7) (oi := { dst := some 27, op := Go.Op.fieldAddr 29 (Go.Operand.tmp 2) 1, type := 0, pos := "ref.go:38", after := #[{ on := 0, ground := Go.Ground.phase }, { on := 1, ground := Go.Ground.phase }, { on := 2, ground := Go.Ground.phase }, { on := 3, ground := Go.Ground.phase }, { on := 4, ground := Go.Ground.phase }, { on := 5, ground := Go.Ground.phase }, { on := 6, ground := Go.Ground.phase }], guard := none }) (v := ?va17) rfl (by kernel_rfl) (by kernel_rfl) (by kernel_rfl) (by kernel_rfl) (by kernel_rfl) (fun _ _ _ h => h) (Or.inl ⟨by rfl, ?ra17⟩) (by assumption) ?_
    case ra17 => (intro w hSw; (try dsimp only at hSw); (go_simp <;> with_reducible rfl))
    try simp only [Act.put, List.setIfInBounds_toArray, List.set_cons_zero, List.set_cons_succ]
    have HO7 := Lib.hid (show w7.ownsRow W3.heap.size 50 3 (.slice (some ⟨g7, 0, none⟩) 1 cap7) LL.length (pcells LL) by rw [QLN.out, QCS.out]; exact hown7)
    clear hown7 hgrow7 hat7 hlt7
    have m8 := (HG7.out.frozen (cell_lt c1) (o := 1)).trans f1
    have m0 := HG7.out.cell c0
    have m1 := HG7.out.cell c1
    have m2 := HG7.out.cell c2
    have n0 := HG7.out.cell q0
    have n1 := HG7.out.cell q1
    have n2 := HG7.out.cell q2
    have e0 := (HG7.out.frozen (cell_lt q0) (o := 0)).trans d0
    have e1 := (HG7.out.frozen (cell_lt q0) (o := 1)).trans d1
    have e2 := (HG7.out.frozen (cell_lt q0) (o := 2)).trans d2
    clear c0 c1 c2 q0 q1 q2 d0 d1 d2 f1 p0 p1 p2
    refine late_go (by kernel_rfl) ?_
    refine any_one (i := 8) (o := { dst := none, op := Go.Op.store 26 (Go.Operand.tmp 27) (Go.Operand.tmp 26), type := 0, pos := "ref.go:38", after := #[{ on := 7, ground := Go.Ground.data }, { on := 6, ground := Go.Ground.data }, { on := 6, ground := Go.Ground.chain }, { on := 0, ground := Go.Ground.phase }, { on := 1, ground := Go.Ground.phase }, { on := 2, ground := Go.Ground.phase }, { on := 3, ground := Go.Ground.phase }, { on := 4, ground := Go.Ground.phase }, { on := 5, ground := Go.Ground.phase }, { on := 6, ground := Go.Ground.phase }], guard := none }) (by kernel_rfl) rfl (fun K hK => ?_)
    go_simp
    refine hK.out _ _ ?_
    clear hK K
    try simp only [Act.put, List.setIfInBounds_toArray, List.set_cons_zero, List.set_cons_succ]
    refine any_done (by kernel_rfl) ?_
    have HFR : Hid (∀ m, (Value.slice (some ⟨g7, 0, none⟩) 1 cap7).ownBlock = some m → w.heap.size ≤ m ∧ m < w7.heap.size) := Lib.hid fun m e => by have := HO7.out.lt m e; have := HZ3.out; omega
    have HR := Lib.hid (CRow.of_owns HO7.out)
    have HQ := Lib.hid (HG3.out.trans HG7.out)
    have HB : Hid (∀ m, m < w.heap.size + 3 → (Value.slice (some ⟨g7, 0, none⟩) 1 cap7).ownBlock ≠ some m) := Lib.hid fun m hm e => by have := (HO7.out.lt m e).1; have := HZ3.out; omega
    go_wp2
    refine bodyPost_ret (v := .tuple #[.agg #[.int .i64 (n : Nat), .slice (some ⟨g7, 0, none⟩) 1 cap7, .slice ca cn cc], .bool true]) (by simp [results, Try.results15, go_sem, n0, n1, n2, e0, e1, e2]; try rfl) rfl ?_
    refine ⟨_, rfl, ?_, ?_, fun m e => by have := HFR.out m e; simpa [World.setCell] using this⟩
    · exact (((HR.out.set (HB.out w.heap.size (by omega)) (o := 1) _).set (HB.out (w.heap.size + 2) (by omega)) (o := 0) _).set (HB.out (w.heap.size + 2) (by omega)) (o := 1) _).set (HB.out (w.heap.size + 2) (by omega)) (o := 2) _
    · exact (((HQ.out.setCell (p := ⟨w.heap.size, 1, none⟩) (Nat.le_refl _) _).setCell (p := ⟨w.heap.size + 2, 0, none⟩) (by simp) _).setCell (p := ⟨w.heap.size + 2, 1, none⟩) (by simp) _).setCell (p := ⟨w.heap.size + 2, 2, none⟩) (by simp) _
/-- What the document's call sends back. -/
theorem refSend_any {c : Nat} {rv : Value} {x : N} (p : P) (w : World) (h : RfIs w c rv x) (hs : p.s.size ≤ 1000000) :
    Calls Try.prog 15 #[rv, p.val] w fun e w' => ∃ rv', e = .returned (.tuple #[rv', .bool (Nt.send x p).2]) ∧ RfIs w' c rv' (Nt.send x p).1 ∧ Gr w w' ∧ RfNew w rv w' rv' := by
  have hok := send_ok h.ok (p := p) hs
  obtain ⟨⟨lv, cv, M, rfl, h2, h3, h4, h5⟩, ok⟩ := h
  have h2' := h2
  have h3' := h3
  obtain ⟨la, lc, rfl, _⟩ := h2
  obtain ⟨ca, cc, rfl, _⟩ := h3
  have hl := ok.l
  cases hq : (wayB x.n p.a p.b && decide (x.L.length < 4000))
  · have e1 : Nt.send x p = (x, false) := by
      unfold Nt.send Nt.add
      split
      · rename_i hw
        rw [hw] at hq
        rw [if_neg (by simpa using hq)]
      · rfl
    rw [e1] at hok ⊢
    refine (refSend_no _ la ca lc _ cc x.L p w hl hq).mono ?_
    rintro e w' ⟨rfl, hg⟩
    exact ⟨_, rfl, ⟨⟨_, _, M, rfl, h2'.gr hg, h3'.gr hg, h4, h5⟩, hok⟩, hg, RfNew.refl _ _ _⟩
  · simp only [Bool.and_eq_true, decide_eq_true_eq] at hq
    have e1 : Nt.send x p = (put x (x.L ++ [p]), true) := by
      unfold Nt.send Nt.add
      rw [if_pos hq.1, if_pos hq.2]
    rw [e1] at hok ⊢
    have key : Calls Try.prog 15 #[.agg #[.int .i64 (x.n : Nat), .slice la x.L.length lc, .slice ca M.length cc], p.val] w (fun e w' => ∃ v', e = .returned (.tuple #[.agg #[.int .i64 (x.n : Nat), v', .slice ca M.length cc], .bool true]) ∧ CRow w' v' (x.L ++ [p]).length (pcells (x.L ++ [p])) ∧ Gr w w' ∧ Fresh w w' v') := by
      rcases Nat.eq_zero_or_pos x.L.length with h0 | h0
      · rw [h0, List.length_eq_zero_iff.1 h0]
        exact refSend_first _ la ca lc _ cc p w hq.1
      · exact refSend_yes _ la ca lc _ cc x.L p w h2' hq.2 h0 hq.1
    refine key.mono ?_
    rintro e w' ⟨v', rfl, hr, hg, hfr⟩
    exact ⟨_, rfl, ⟨⟨v', _, M, rfl, hr, h3'.gr hg, h4, h5⟩, hok⟩, hg, fun Q hQ hF => by obtain ⟨n', lv', cv', e, q1, q2⟩ := hQ; simp only [Value.agg.injEq, Array.mk.injEq, List.cons.injEq, and_true] at e; obtain ⟨rfl, rfl, rfl⟩ := e; exact ⟨_, _, _, rfl, hF _ hfr, q2⟩⟩
theorem refWithout_any {c : Nat} {rv : Value} {x : N} (k : Int) (w : World) (h : RfIs w c rv x) (hb : Nt.hasB x k = true) :
    Calls Try.prog 17 #[rv, .int .i64 k] w fun e w' => ∃ rv', e = .returned rv' ∧ RfIs w' c rv' (Nt.drop x k) ∧ Gr w w' ∧ RfNew w rv w' rv' := by
  have hok := drop_ok h.ok k
  obtain ⟨⟨lv, cv, M, rfl, h2, h3, h4, h5⟩, ok⟩ := h
  have h2' := h2
  have h3' := h3
  obtain ⟨la, lc, rfl, _⟩ := h2
  obtain ⟨ca, cc, rfl, _⟩ := h3
  obtain ⟨j, rfl, hj⟩ := hasB_nat hb
  have e1 : Nt.drop x (j : Int) = put x (x.L.eraseIdx j) := by unfold Nt.drop; rw [if_pos hb]; rfl
  rw [e1] at hok ⊢
  refine (refWithout_row _ la ca lc _ cc x.L j w h2' ok.l hj).mono ?_
  rintro e w' ⟨v', rfl, hr, hg, hfr⟩
  exact ⟨_, rfl, ⟨⟨v', _, M, rfl, hr, h3'.gr hg, h4, h5⟩, hok⟩, hg, fun Q hQ hF => by obtain ⟨n', lv', cv', e, q1, q2⟩ := hQ; simp only [Value.agg.injEq, Array.mk.injEq, List.cons.injEq, and_true] at e; obtain ⟨rfl, rfl, rfl⟩ := e; exact ⟨_, _, _, rfl, hF _ hfr, q2⟩⟩
theorem refSetCut_any {c : Nat} {rv : Value} {x : N} (a b : Int) (is : Bool) (w : World) (h : RfIs w c rv x) (hc : c ≤ 1000000) :
    Calls Try.prog 21 #[rv, .int .i64 a, .int .i64 b, .bool is] w fun e w' => ∃ rv', e = .returned rv' ∧ RfIs w' (c + 1) rv' (Nt.setCut x a b is) ∧ Gr w w' ∧ RfNew w rv w' rv' := by
  have hok := setCut_ok h.ok a b is
  obtain ⟨⟨lv, cv, M, rfl, h2, h3, h4, h5⟩, ok⟩ := h
  have h2' := h2
  have h3' := h3
  obtain ⟨la, lc, rfl, _⟩ := h2
  obtain ⟨ca, cc, rfl, _⟩ := h3
  refine (refSetCut_row _ la ca _ lc cc M a b is w h3' (by omega)).mono ?_
  rintro e w' ⟨v', rfl, hr, hg, hfr⟩
  have hn : (Nt.setCut x a b is).n = x.n ∧ (Nt.setCut x a b is).L = x.L := by unfold Nt.setCut; split <;> exact ⟨rfl, rfl⟩
  refine ⟨_, rfl, ⟨⟨_, v', wf a b M ++ wg x.n a b is, by rw [hn.1], by rw [hn.2]; exact h2'.gr hg, hr, ?_, setCut_mem h5 a b is⟩, hok⟩, hg, fun Q hQ hF => by obtain ⟨n', lv', cv', e, q1, q2⟩ := hQ; simp only [Value.agg.injEq, Array.mk.injEq, List.cons.injEq, and_true] at e; obtain ⟨rfl, rfl, rfl⟩ := e; exact ⟨_, _, _, rfl, q1, hF _ hfr⟩⟩
  have h6 : (wf a b M).length ≤ M.length := List.length_filter_le _ _
  have h7 : (wg x.n a b is).length ≤ 1 := by unfold wg; split <;> simp
  rw [List.length_append]; omega
end Go.Proofs.Ytahohgnkichibab
