import Derived.Test.YtahohgnkichibabF14l
import Derived.WalkKit
import Derived.ProofKit
import Derived.LoopTactic
import Derived.Outline
import Derived.WalkSpells
import Derived.WalkLawsBesides
import Derived.Lib.Hide
import Derived.Deep.LoopGhost
import Derived.Deep.QuietTactic
import Derived.BigQuiet
import Derived.ShutString
import Derived.IntWalk
import Derived.Lib.MinMax
import Derived.BigQuiet
import Derived.Deep.AppendLies
import Derived.Deep.RegionWith
import Derived.Deep.RegionHeld3
namespace Go.Proofs.Ytahohgnkichibab
open Go.ChangeShapes Go.WideShapes Go.ChangeAt Go.RowKit
set_option linter.unusedVariables false
set_option linter.unusedSimpArgs false
open Nt
theorem Own.put3 {w0 w : World} {n b m : Nat} {v rv : Value} (h : Own w0 w n b v rv) (u0 u1 u2 : Value) : Own w0 (((w.setCell ⟨m, 0, none⟩ u0).setCell ⟨m, 1, none⟩ u1).setCell ⟨m, 2, none⟩ u2) n b v rv := ⟨h.lo, by simpa [World.setCell] using h.lt, h.sd, h.rows⟩
theorem Blk.apart3 {w : World} {b c : Nat} {cs : Array Value} {t : TypeId} (h : Blk w b cs t) (hc : b ≠ c) (u0 u1 u2 : Value) : Blk (((w.setCell ⟨c, 0, none⟩ u0).setCell ⟨c, 1, none⟩ u1).setCell ⟨c, 2, none⟩ u2) b cs t := ((h.other hc 0 u0).other hc 1 u1).other hc 2 u2
theorem drop_out {x : N} {k : Int} (h : Nt.hasB x k = false) : Nt.drop x k = x := by unfold Nt.drop; rw [if_neg (by rw [h]; decide)]
set_option maxRecDepth 100000 in
set_option maxHeartbeats 2000000 in
theorem lawDo_drop {b c : Nat} {v rv : Value} {x : N} (K A B : Int) (s : ByteArray) (w : World) (h : NtIs w b v x) (hr : RfIs w c rv x) (ho : RfOff w rv b v) (hc : c ≤ 1000000) (hs : s.size ≤ 9223372036854775807) :
    Calls Try.prog 7 #[.pointer (some ⟨b, 0, none⟩), rv, .agg #[.int .i64 2, .int .i64 A, .int .i64 B, .string s]] w (DoIs b c v w (Nt.drop x A)) := by
  have HP0 := Lib.hid (Pair.mk (w0 := w) (v0 := v) h hr (Far.refl _ _ _) (From.refl _ _) ho)
  obtain ⟨⟨lv, cv, M, rfl, h2, h3, h4, h5⟩, ok⟩ := hr
  obtain ⟨la, lc, rfl, h2⟩ := h2
  obtain ⟨ca, cc, rfl, h3⟩ := h3
  have HLV := Lib.hid h2
  clear h2 h3 h4 h5 ho h ok
  generalize M.length = cm at *
  have HTH : Hid (Nt.hasB x A = decide (0 ≤ A ∧ A < (x.L.length : Int))) := Lib.hid rfl
  generalize hln : x.L.length = ln at *
  have HLN := Lib.hid hln
  clear hln
  generalize hxn : x.n = n at *
  have HXN := Lib.hid hxn
  clear hxn
  by_cases hth : 0 ≤ A ∧ A < (ln : Int)
  · obtain ⟨hA, hA2⟩ := hth
    have HT := Lib.hid (HTH.out.trans (decide_eq_true ⟨hA, hA2⟩))
    clear HTH
    obtain ⟨k, rfl⟩ : ∃ k : Nat, A = (k : Int) := ⟨A.toNat, by omega⟩
    have hkx : k < x.L.length := by rw [HLN.out]; omega
    rcases HLV.out with h1 | ⟨g, rfl, hcl⟩
    · omega
    have HG4 := Lib.hid (((((Gr.refl w).alloc (.cells #[.int .i64 (n : Nat), .slice (some ⟨g, 0, none⟩) ln lc, .slice ca cm cc] 29)).alloc (.cells #[.int .i64 2, .int .i64 (k : Nat), .int .i64 B, .string s] 34)).alloc (.cells #[.int .i64 0, .slice none 0 0, .slice none 0 0] 29)).alloc (.cells #[.int .i64 0, .int .i64 0, .string ⟨#[]⟩] 50))
    have e0 := HG4.out.cell (hcl _ _ (pcells_at x.L k hkx).1)
    have e1 := HG4.out.cell (hcl _ _ (pcells_at x.L k hkx).2.1)
    have e2 := HG4.out.cell (hcl _ _ (pcells_at x.L k hkx).2.2)
    have HA := Lib.hid (look_at hkx)
    clear hcl
    generalize x.L[k] = pp at *
    obtain ⟨pA, pB, ps⟩ := pp
    simp only at e0 e1 e2
    have CF := Lib.hid (chain_facts HP0.out #[.int .i64 (n : Nat), .slice (some ⟨g, 0, none⟩) ln lc, .slice ca cm cc] #[.int .i64 2, .int .i64 (k : Nat), .int .i64 B, .string s] #[.int .i64 0, .slice none 0 0, .slice none 0 0] #[.int .i64 pA, .int .i64 pB, .string ps] 29 34 29 50)
    obtain ⟨hp4, o0, o1, o2, o3, b0, b1, b2, b3⟩ := CF.out
    have HP4 := Lib.hid hp4
    have O40 := Lib.hid o0
    have B40 := Lib.hid b0
    have O41 := Lib.hid o1
    have B41 := Lib.hid b1
    have O42 := Lib.hid o2
    have B42 := Lib.hid b2
    have O43 := Lib.hid o3
    have B43 := Lib.hid b3
    clear CF hp4 o0 o1 o2 o3 b0 b1 b2 b3
    go_enter Try.func7, Try.ntmps7
    go_wp2_with fail
    refine (refWithout_any ((k : Nat)) _ HP4.out.rf HT.out).mono ?_
    rintro e w5 ⟨rv5, rfl, hr5, hg5, hn5⟩
    have HP5 := Lib.hid (HP4.out.ref hr5 hg5 hn5)
    have O50 := Lib.hid (O40.out.ref hg5 hn5)
    have B50 := Lib.hid (B40.out.gr hg5)
    have O51 := Lib.hid (O41.out.ref hg5 hn5)
    have B51 := Lib.hid (B41.out.gr hg5)
    have O52 := Lib.hid (O42.out.ref hg5 hn5)
    have B52 := Lib.hid (B42.out.gr hg5)
    have O53 := Lib.hid (O43.out.ref hg5 hn5)
    have B53 := Lib.hid (B43.out.gr hg5)
    clear hr5 hg5 hn5
    have hform := HP5.out.rf
    obtain ⟨⟨l7, c7, M7, hrv, g2, g3, _, _⟩, _⟩ := hform
    obtain ⟨la7, lc7, rfl, _⟩ := g2
    obtain ⟨ca7, cc7, rfl, _⟩ := g3
    subst hrv
    generalize hZ : Nt.drop x ((k : Nat)) = Z at *
    have HZ := Lib.hid hZ
    clear hZ
    have x00 := B50.out.cell (i := 0) rfl
    have x01 := B50.out.cell (i := 1) rfl
    have x02 := B50.out.cell (i := 2) rfl
    have x10 := B51.out.cell (i := 0) rfl
    have x11 := B51.out.cell (i := 1) rfl
    have x12 := B51.out.cell (i := 2) rfl
    have x13 := B51.out.cell (i := 3) rfl
    have y00 := B50.out.free 0
    have y01 := B50.out.free 1
    have y02 := B50.out.free 2
    go_wp2_with fail
    have HP6 := Lib.hid (HP5.out.put3 O50.out (.int .i64 (Z.n : Nat)) (.slice la7 Z.L.length lc7) (.slice ca7 M7.length cc7))
    have O60 := Lib.hid (O50.out.put3 (m := w.heap.size) (.int .i64 (Z.n : Nat)) (.slice la7 Z.L.length lc7) (.slice ca7 M7.length cc7))
    have O61 := Lib.hid (O51.out.put3 (m := w.heap.size) (.int .i64 (Z.n : Nat)) (.slice la7 Z.L.length lc7) (.slice ca7 M7.length cc7))
    have O62 := Lib.hid (O52.out.put3 (m := w.heap.size) (.int .i64 (Z.n : Nat)) (.slice la7 Z.L.length lc7) (.slice ca7 M7.length cc7))
    have O63 := Lib.hid (O53.out.put3 (m := w.heap.size) (.int .i64 (Z.n : Nat)) (.slice la7 Z.L.length lc7) (.slice ca7 M7.length cc7))
    have B60 := Lib.hid (B50.out.store3 (.int .i64 (Z.n : Nat)) (.slice la7 Z.L.length lc7) (.slice ca7 M7.length cc7))
    have B61 := Lib.hid (B51.out.apart3 (c := w.heap.size) (by omega) (.int .i64 (Z.n : Nat)) (.slice la7 Z.L.length lc7) (.slice ca7 M7.length cc7))
    have B62 := Lib.hid (B52.out.apart3 (c := w.heap.size) (by omega) (.int .i64 (Z.n : Nat)) (.slice la7 Z.L.length lc7) (.slice ca7 M7.length cc7))
    have B63 := Lib.hid (B53.out.apart3 (c := w.heap.size) (by omega) (.int .i64 (Z.n : Nat)) (.slice la7 Z.L.length lc7) (.slice ca7 M7.length cc7))
    generalize ((w5.setCell ⟨w.heap.size, 0, none⟩ (.int .i64 (Z.n : Nat))).setCell ⟨w.heap.size, 1, none⟩ (.slice la7 Z.L.length lc7)).setCell ⟨w.heap.size, 2, none⟩ (.slice ca7 M7.length cc7) = w6 at *
    clear x00 x01 x02 x10 x11 x12 x13 y00 y01 y02
    have HP8 := Lib.hid (HP6.out.gr (Gr.refl _).drew)
    have O80 := Lib.hid (O60.out.gr (Gr.refl _).drew)
    have B80 := Lib.hid (B60.out.gr (Gr.refl _).drew)
    have O81 := Lib.hid (O61.out.gr (Gr.refl _).drew)
    have B81 := Lib.hid (B61.out.gr (Gr.refl _).drew)
    have O82 := Lib.hid (O62.out.gr (Gr.refl _).drew)
    have B82 := Lib.hid (B62.out.gr (Gr.refl _).drew)
    have O83 := Lib.hid (O63.out.gr (Gr.refl _).drew)
    have B83 := Lib.hid (B63.out.gr (Gr.refl _).drew)
    have QP8 := HP8
    refine wp_region_held_drew (S := (fun w9 => w9.cell? ⟨w.heap.size, 0, none⟩ = some (.int .i64 (Z.n : Nat)) ∧ w9.cell? ⟨w.heap.size, 1, none⟩ = some (.slice la7 Z.L.length lc7) ∧ w9.cell? ⟨w.heap.size, 2, none⟩ = some (.slice ca7 M7.length cc7) ∧ w9.cell? ⟨w.heap.size + 1, 1, none⟩ = some (.int .i64 ((k : Nat))))) (by kernel_rfl) ?inva (fun h0 => ?_)
    case inva => ((try dsimp only); (exact ⟨B80.out.cell rfl, B80.out.cell rfl, B80.out.cell rfl, B81.out.cell rfl⟩))
    refine wpAnyH_take (i := 0) (oi := { dst := some 109, op := Go.Op.load 29 (Go.Operand.tmp 4), type := 29, pos := "law.go:52", after := #[], guard := none }) (v := ?va1) rfl (by kernel_rfl) (by kernel_rfl) (by kernel_rfl) (fun _ _ _ h => h) (Or.inl ⟨by rfl, ?ra1⟩) (by assumption) ?_
    case ra1 => (intro w hSw; (try dsimp only at hSw); (go_simp <;> with_reducible rfl))
    try simp only [Act.put, List.setIfInBounds_toArray, List.set_cons_zero, List.set_cons_succ]
    refine wpAnyH_take (i := 1) (oi := { dst := some 110, op := Go.Op.move (Go.Operand.tmp 0), type := 24, pos := "law.go:52", after := #[], guard := none }) (v := ?va2) rfl (by kernel_rfl) (by kernel_rfl) (by kernel_rfl) (fun _ _ _ h => h) (Or.inl ⟨by rfl, ?ra2⟩) (by assumption) ?_
    case ra2 => (intro w hSw; (try dsimp only at hSw); (go_simp <;> with_reducible rfl))
    try simp only [Act.put, List.setIfInBounds_toArray, List.set_cons_zero, List.set_cons_succ]
    refine wpAnyH_take (i := 2) (oi := { dst := some 111, op := Go.Op.fieldAddr 34 (Go.Operand.tmp 5) 1, type := 0, pos := "law.go:52", after := #[], guard := none }) (v := ?va3) rfl (by kernel_rfl) (by kernel_rfl) (by kernel_rfl) (fun _ _ _ h => h) (Or.inl ⟨by rfl, ?ra3⟩) (by assumption) ?_
    case ra3 => (intro w hSw; (try dsimp only at hSw); (go_simp <;> with_reducible rfl))
    try simp only [Act.put, List.setIfInBounds_toArray, List.set_cons_zero, List.set_cons_succ]
    refine wpAnyH_take (i := 3) (oi := { dst := some 112, op := Go.Op.load 3 (Go.Operand.tmp 111), type := 3, pos := "law.go:52", after := #[{ on := 2, ground := Go.Ground.data }], guard := none }) (v := ?va4) rfl (by kernel_rfl) (by kernel_rfl) (by kernel_rfl) (fun _ _ _ h => h) (Or.inl ⟨by rfl, ?ra4⟩) (by assumption) ?_
    case ra4 => (intro w hSw; (try dsimp only at hSw); (go_simp <;> with_reducible rfl))
    try simp only [Act.put, List.setIfInBounds_toArray, List.set_cons_zero, List.set_cons_succ]
    refine wpAnyH_take (i := 5) (oi := { dst := some 114, op := Go.Op.move (Go.Operand.tmp 8), type := 4, pos := "law.go:52", after := #[{ on := 7, ground := Go.Ground.gcOnly Go.Departure.lateStores }], guard := none }) (v := ?va5) rfl (by kernel_rfl) (by kernel_rfl) (by kernel_rfl) (fun _ _ _ h => h) (Or.inl ⟨by rfl, ?ra5⟩) (by assumption) ?_
    case ra5 => (intro w hSw; (try dsimp only at hSw); (go_simp <;> with_reducible rfl))
    try simp only [Act.put, List.setIfInBounds_toArray, List.set_cons_zero, List.set_cons_succ]
    refine wpAnyH_ready (rs := [4]) (by kernel_rfl) (by simp) ?_
    refine AllReadyH.cons (o := { dst := some 113, op := Go.Op.call { callee := Go.Callee.value (Go.Operand.func 18), args := #[Go.Operand.tmp 110, Go.Operand.tmp 112], argTypes := #[24, 3] }, type := 4, pos := "law.go:52", after := #[{ on := 1, ground := Go.Ground.data }, { on := 3, ground := Go.Ground.data }], guard := none }) rfl (fun K hK => ?_) AllReadyH.nil
    go_simp
    (go_at_call 18; refine (ndrop_any ((k : Nat)) _ QP8.out.is).mono ?_; rintro e w9 ⟨rfl, v9, h9, hf9, hv9⟩; rw [HT.out]; rw [HZ.out] at h9; have QP9 := Lib.hid (QP8.out.net h9 hf9 hv9); have O90 := Lib.hid (O80.out.net hf9 hv9); have B90 := Lib.hid (B80.out.far hf9 O80.out.sd.1 O80.out.sd.2); have O91 := Lib.hid (O81.out.net hf9 hv9); have B91 := Lib.hid (B81.out.far hf9 O81.out.sd.1 O81.out.sd.2); have O92 := Lib.hid (O82.out.net hf9 hv9); have B92 := Lib.hid (B82.out.far hf9 O82.out.sd.1 O82.out.sd.2); have O93 := Lib.hid (O83.out.net hf9 hv9); have B93 := Lib.hid (B83.out.far hf9 O83.out.sd.1 O83.out.sd.2); have x20 := B92.out.cell (i := 0) rfl; have x21 := B92.out.cell (i := 1) rfl; have x22 := B92.out.cell (i := 2) rfl; have y20 := B92.out.free 0; have y21 := B92.out.free 1; have y22 := B92.out.free 2)
    first | refine hK.out _ _ ?sa6 (fun h6 => ?_) | (go_wp2_with fail; refine hK.out _ _ ?sa6 (fun h6 => ?_))
    case sa6 => ((try dsimp only); (first | exact ⟨B90.out.cell rfl, B90.out.cell rfl, B90.out.cell rfl, B91.out.cell rfl⟩ | exact ⟨(B90.out.apart3 (by omega) _ _ _).cell rfl, (B90.out.apart3 (by omega) _ _ _).cell rfl, (B90.out.apart3 (by omega) _ _ _).cell rfl, (B91.out.apart3 (by omega) _ _ _).cell rfl⟩))
    clear hK K h0
    try simp only [Act.put, List.setIfInBounds_toArray, List.set_cons_zero, List.set_cons_succ]
    refine wpAnyH_take (i := 6) (oi := { dst := some 115, op := Go.Op.binOp Go.BinOp.eql 4 (Go.Operand.tmp 113) (Go.Operand.tmp 114) 4, type := 4, pos := "law.go:52", after := #[{ on := 4, ground := Go.Ground.data }, { on := 5, ground := Go.Ground.data }, { on := 7, ground := Go.Ground.gcOnly Go.Departure.lateStores }], guard := none }) (v := ?va7) rfl (by kernel_rfl) (by kernel_rfl) (by kernel_rfl) (fun _ _ _ h => h) (Or.inl ⟨by rfl, ?ra7⟩) (by assumption) ?_
    case ra7 => (intro w hSw; (try dsimp only at hSw); (go_simp <;> with_reducible rfl))
    try simp only [Act.put, List.setIfInBounds_toArray, List.set_cons_zero, List.set_cons_succ]
    refine wpAnyH_ready (rs := [7]) (by kernel_rfl) (by simp) ?_
    refine AllReadyH.cons (o := { dst := none, op := Go.Op.store 29 (Go.Operand.tmp 6) (Go.Operand.tmp 109), type := 0, pos := "law.go:52", after := #[{ on := 0, ground := Go.Ground.data }, { on := 4, ground := Go.Ground.chain }, { on := 0, ground := Go.Ground.phase }, { on := 1, ground := Go.Ground.textOnly Go.Departure.lateStores }, { on := 2, ground := Go.Ground.textOnly Go.Departure.lateStores }, { on := 3, ground := Go.Ground.textOnly Go.Departure.lateStores }, { on := 4, ground := Go.Ground.textOnly Go.Departure.lateStoresUnsure }, { on := 5, ground := Go.Ground.textOnly Go.Departure.lateStores }, { on := 6, ground := Go.Ground.textOnly Go.Departure.lateStores }], guard := none }) rfl (fun K hK => ?_) AllReadyH.nil
    go_simp
    skip
    first | refine hK.out _ _ ?sa8 (fun h8 => ?_) | (go_wp2_with fail; refine hK.out _ _ ?sa8 (fun h8 => ?_))
    case sa8 => ((try dsimp only); (first | exact ⟨B90.out.cell rfl, B90.out.cell rfl, B90.out.cell rfl, B91.out.cell rfl⟩ | exact ⟨(B90.out.apart3 (by omega) _ _ _).cell rfl, (B90.out.apart3 (by omega) _ _ _).cell rfl, (B90.out.apart3 (by omega) _ _ _).cell rfl, (B91.out.apart3 (by omega) _ _ _).cell rfl⟩))
    clear hK K h6
    try simp only [Act.put, List.setIfInBounds_toArray, List.set_cons_zero, List.set_cons_succ]
    refine wpAnyH_take (i := 8) (oi := { dst := some 7, op := Go.Op.assign (Go.Operand.tmp 115), type := 4, pos := "law.go:52", after := #[{ on := 6, ground := Go.Ground.data }, { on := 7, ground := Go.Ground.chain }, { on := 0, ground := Go.Ground.phase }, { on := 1, ground := Go.Ground.phase }, { on := 2, ground := Go.Ground.phase }, { on := 3, ground := Go.Ground.phase }, { on := 4, ground := Go.Ground.phase }, { on := 5, ground := Go.Ground.phase }, { on := 6, ground := Go.Ground.phase }, { on := 7, ground := Go.Ground.phase }], guard := none }) (v := ?va9) rfl (by kernel_rfl) (by kernel_rfl) (by kernel_rfl) (fun _ _ _ h => h) (Or.inl ⟨by rfl, ?ra9⟩) (by assumption) ?_
    case ra9 => (intro w hSw; (try dsimp only at hSw); (go_simp <;> with_reducible rfl))
    try simp only [Act.put, List.setIfInBounds_toArray, List.set_cons_zero, List.set_cons_succ]
    refine wpAnyH_done (by kernel_rfl) ?_ _
    clear h8
    go_wp2
    refine bodyPost_ret (v := .tuple #[.agg #[.int .i64 (Z.n : Nat), .slice la7 Z.L.length lc7, .slice ca7 M7.length cc7], .bool true]) (by simp [results, Try.results7, go_sem, x20, x21, x22, y20, y21, y22]; try rfl) rfl ?_
    exact ((QP9.out.put3 O92.out _ _ _).most (by omega)).does
  · have HT := Lib.hid (HTH.out.trans (decide_eq_false hth))
    clear HTH
    by_cases hA : 0 ≤ A
    · have hA2 : ¬ A < (ln : Int) := fun e => hth ⟨hA, e⟩
      clear hth
      have CF := Lib.hid (chain_facts HP0.out #[.int .i64 (n : Nat), .slice la ln lc, .slice ca cm cc] #[.int .i64 2, .int .i64 A, .int .i64 B, .string s] #[.int .i64 0, .slice none 0 0, .slice none 0 0] #[.int .i64 0, .int .i64 0, .string ⟨#[]⟩] 29 34 29 50)
      obtain ⟨hp4, o0, o1, o2, o3, b0, b1, b2, b3⟩ := CF.out
      have HP4 := Lib.hid hp4
      have O40 := Lib.hid o0
      have B40 := Lib.hid b0
      have O41 := Lib.hid o1
      have B41 := Lib.hid b1
      have O42 := Lib.hid o2
      have B42 := Lib.hid b2
      have O43 := Lib.hid o3
      have B43 := Lib.hid b3
      clear CF hp4 o0 o1 o2 o3 b0 b1 b2 b3
      have HZ := Lib.hid (drop_out HT.out)
      rw [HZ.out]
      go_enter Try.func7, Try.ntmps7
      go_wp2_with fail
      generalize (((w.alloc (.cells #[.int .i64 (n : Nat), .slice la ln lc, .slice ca cm cc] 29)).alloc (.cells #[.int .i64 2, .int .i64 A, .int .i64 B, .string s] 34)).alloc (.cells #[.int .i64 0, .slice none 0 0, .slice none 0 0] 29)).alloc (.cells #[.int .i64 0, .int .i64 0, .string ⟨#[]⟩] 50) = w4 at *
      have HP8 := Lib.hid (HP4.out.gr (Gr.refl _).drew)
      have O80 := Lib.hid (O40.out.gr (Gr.refl _).drew)
      have B80 := Lib.hid (B40.out.gr (Gr.refl _).drew)
      have O81 := Lib.hid (O41.out.gr (Gr.refl _).drew)
      have B81 := Lib.hid (B41.out.gr (Gr.refl _).drew)
      have O82 := Lib.hid (O42.out.gr (Gr.refl _).drew)
      have B82 := Lib.hid (B42.out.gr (Gr.refl _).drew)
      have O83 := Lib.hid (O43.out.gr (Gr.refl _).drew)
      have B83 := Lib.hid (B43.out.gr (Gr.refl _).drew)
      have QP8 := HP8
      refine wp_region_held_drew (S := (fun w9 => w9.cell? ⟨w.heap.size, 0, none⟩ = some (.int .i64 (n : Nat)) ∧ w9.cell? ⟨w.heap.size, 1, none⟩ = some (.slice la ln lc) ∧ w9.cell? ⟨w.heap.size, 2, none⟩ = some (.slice ca cm cc) ∧ w9.cell? ⟨w.heap.size + 1, 1, none⟩ = some (.int .i64 (A)))) (by kernel_rfl) ?invb (fun h0 => ?_)
      case invb => ((try dsimp only); (exact ⟨B80.out.cell rfl, B80.out.cell rfl, B80.out.cell rfl, B81.out.cell rfl⟩))
      refine wpAnyH_take (i := 0) (oi := { dst := some 109, op := Go.Op.load 29 (Go.Operand.tmp 4), type := 29, pos := "law.go:52", after := #[], guard := none }) (v := ?vb1) rfl (by kernel_rfl) (by kernel_rfl) (by kernel_rfl) (fun _ _ _ h => h) (Or.inl ⟨by rfl, ?rb1⟩) (by assumption) ?_
      case rb1 => (intro w hSw; (try dsimp only at hSw); (go_simp <;> with_reducible rfl))
      try simp only [Act.put, List.setIfInBounds_toArray, List.set_cons_zero, List.set_cons_succ]
      refine wpAnyH_take (i := 1) (oi := { dst := some 110, op := Go.Op.move (Go.Operand.tmp 0), type := 24, pos := "law.go:52", after := #[], guard := none }) (v := ?vb2) rfl (by kernel_rfl) (by kernel_rfl) (by kernel_rfl) (fun _ _ _ h => h) (Or.inl ⟨by rfl, ?rb2⟩) (by assumption) ?_
      case rb2 => (intro w hSw; (try dsimp only at hSw); (go_simp <;> with_reducible rfl))
      try simp only [Act.put, List.setIfInBounds_toArray, List.set_cons_zero, List.set_cons_succ]
      refine wpAnyH_take (i := 2) (oi := { dst := some 111, op := Go.Op.fieldAddr 34 (Go.Operand.tmp 5) 1, type := 0, pos := "law.go:52", after := #[], guard := none }) (v := ?vb3) rfl (by kernel_rfl) (by kernel_rfl) (by kernel_rfl) (fun _ _ _ h => h) (Or.inl ⟨by rfl, ?rb3⟩) (by assumption) ?_
      case rb3 => (intro w hSw; (try dsimp only at hSw); (go_simp <;> with_reducible rfl))
      try simp only [Act.put, List.setIfInBounds_toArray, List.set_cons_zero, List.set_cons_succ]
      refine wpAnyH_take (i := 3) (oi := { dst := some 112, op := Go.Op.load 3 (Go.Operand.tmp 111), type := 3, pos := "law.go:52", after := #[{ on := 2, ground := Go.Ground.data }], guard := none }) (v := ?vb4) rfl (by kernel_rfl) (by kernel_rfl) (by kernel_rfl) (fun _ _ _ h => h) (Or.inl ⟨by rfl, ?rb4⟩) (by assumption) ?_
      case rb4 => (intro w hSw; (try dsimp only at hSw); (go_simp <;> with_reducible rfl))
      try simp only [Act.put, List.setIfInBounds_toArray, List.set_cons_zero, List.set_cons_succ]
      refine wpAnyH_take (i := 5) (oi := { dst := some 114, op := Go.Op.move (Go.Operand.tmp 8), type := 4, pos := "law.go:52", after := #[{ on := 7, ground := Go.Ground.gcOnly Go.Departure.lateStores }], guard := none }) (v := ?vb5) rfl (by kernel_rfl) (by kernel_rfl) (by kernel_rfl) (fun _ _ _ h => h) (Or.inl ⟨by rfl, ?rb5⟩) (by assumption) ?_
      case rb5 => (intro w hSw; (try dsimp only at hSw); (go_simp <;> with_reducible rfl))
      try simp only [Act.put, List.setIfInBounds_toArray, List.set_cons_zero, List.set_cons_succ]
      refine wpAnyH_ready (rs := [4]) (by kernel_rfl) (by simp) ?_
      refine AllReadyH.cons (o := { dst := some 113, op := Go.Op.call { callee := Go.Callee.value (Go.Operand.func 18), args := #[Go.Operand.tmp 110, Go.Operand.tmp 112], argTypes := #[24, 3] }, type := 4, pos := "law.go:52", after := #[{ on := 1, ground := Go.Ground.data }, { on := 3, ground := Go.Ground.data }], guard := none }) rfl (fun K hK => ?_) AllReadyH.nil
      go_simp
      (go_at_call 18; refine (ndrop_any (A) _ QP8.out.is).mono ?_; rintro e w9 ⟨rfl, v9, h9, hf9, hv9⟩; rw [HT.out]; rw [HZ.out] at h9; have QP9 := Lib.hid (QP8.out.net h9 hf9 hv9); have O90 := Lib.hid (O80.out.net hf9 hv9); have B90 := Lib.hid (B80.out.far hf9 O80.out.sd.1 O80.out.sd.2); have O91 := Lib.hid (O81.out.net hf9 hv9); have B91 := Lib.hid (B81.out.far hf9 O81.out.sd.1 O81.out.sd.2); have O92 := Lib.hid (O82.out.net hf9 hv9); have B92 := Lib.hid (B82.out.far hf9 O82.out.sd.1 O82.out.sd.2); have O93 := Lib.hid (O83.out.net hf9 hv9); have B93 := Lib.hid (B83.out.far hf9 O83.out.sd.1 O83.out.sd.2); have x20 := B92.out.cell (i := 0) rfl; have x21 := B92.out.cell (i := 1) rfl; have x22 := B92.out.cell (i := 2) rfl; have y20 := B92.out.free 0; have y21 := B92.out.free 1; have y22 := B92.out.free 2)
      first | refine hK.out _ _ ?sb6 (fun h6 => ?_) | (go_wp2_with fail; refine hK.out _ _ ?sb6 (fun h6 => ?_))
      case sb6 => ((try dsimp only); (first | exact ⟨B90.out.cell rfl, B90.out.cell rfl, B90.out.cell rfl, B91.out.cell rfl⟩ | exact ⟨(B90.out.apart3 (by omega) _ _ _).cell rfl, (B90.out.apart3 (by omega) _ _ _).cell rfl, (B90.out.apart3 (by omega) _ _ _).cell rfl, (B91.out.apart3 (by omega) _ _ _).cell rfl⟩))
      clear hK K h0
      try simp only [Act.put, List.setIfInBounds_toArray, List.set_cons_zero, List.set_cons_succ]
      refine wpAnyH_take (i := 6) (oi := { dst := some 115, op := Go.Op.binOp Go.BinOp.eql 4 (Go.Operand.tmp 113) (Go.Operand.tmp 114) 4, type := 4, pos := "law.go:52", after := #[{ on := 4, ground := Go.Ground.data }, { on := 5, ground := Go.Ground.data }, { on := 7, ground := Go.Ground.gcOnly Go.Departure.lateStores }], guard := none }) (v := ?vb7) rfl (by kernel_rfl) (by kernel_rfl) (by kernel_rfl) (fun _ _ _ h => h) (Or.inl ⟨by rfl, ?rb7⟩) (by assumption) ?_
      case rb7 => (intro w hSw; (try dsimp only at hSw); (go_simp <;> with_reducible rfl))
      try simp only [Act.put, List.setIfInBounds_toArray, List.set_cons_zero, List.set_cons_succ]
      refine wpAnyH_ready (rs := [7]) (by kernel_rfl) (by simp) ?_
      refine AllReadyH.cons (o := { dst := none, op := Go.Op.store 29 (Go.Operand.tmp 6) (Go.Operand.tmp 109), type := 0, pos := "law.go:52", after := #[{ on := 0, ground := Go.Ground.data }, { on := 4, ground := Go.Ground.chain }, { on := 0, ground := Go.Ground.phase }, { on := 1, ground := Go.Ground.textOnly Go.Departure.lateStores }, { on := 2, ground := Go.Ground.textOnly Go.Departure.lateStores }, { on := 3, ground := Go.Ground.textOnly Go.Departure.lateStores }, { on := 4, ground := Go.Ground.textOnly Go.Departure.lateStoresUnsure }, { on := 5, ground := Go.Ground.textOnly Go.Departure.lateStores }, { on := 6, ground := Go.Ground.textOnly Go.Departure.lateStores }], guard := none }) rfl (fun K hK => ?_) AllReadyH.nil
      go_simp
      skip
      first | refine hK.out _ _ ?sb8 (fun h8 => ?_) | (go_wp2_with fail; refine hK.out _ _ ?sb8 (fun h8 => ?_))
      case sb8 => ((try dsimp only); (first | exact ⟨B90.out.cell rfl, B90.out.cell rfl, B90.out.cell rfl, B91.out.cell rfl⟩ | exact ⟨(B90.out.apart3 (by omega) _ _ _).cell rfl, (B90.out.apart3 (by omega) _ _ _).cell rfl, (B90.out.apart3 (by omega) _ _ _).cell rfl, (B91.out.apart3 (by omega) _ _ _).cell rfl⟩))
      clear hK K h6
      try simp only [Act.put, List.setIfInBounds_toArray, List.set_cons_zero, List.set_cons_succ]
      refine wpAnyH_take (i := 8) (oi := { dst := some 7, op := Go.Op.assign (Go.Operand.tmp 115), type := 4, pos := "law.go:52", after := #[{ on := 6, ground := Go.Ground.data }, { on := 7, ground := Go.Ground.chain }, { on := 0, ground := Go.Ground.phase }, { on := 1, ground := Go.Ground.phase }, { on := 2, ground := Go.Ground.phase }, { on := 3, ground := Go.Ground.phase }, { on := 4, ground := Go.Ground.phase }, { on := 5, ground := Go.Ground.phase }, { on := 6, ground := Go.Ground.phase }, { on := 7, ground := Go.Ground.phase }], guard := none }) (v := ?vb9) rfl (by kernel_rfl) (by kernel_rfl) (by kernel_rfl) (fun _ _ _ h => h) (Or.inl ⟨by rfl, ?rb9⟩) (by assumption) ?_
      case rb9 => (intro w hSw; (try dsimp only at hSw); (go_simp <;> with_reducible rfl))
      try simp only [Act.put, List.setIfInBounds_toArray, List.set_cons_zero, List.set_cons_succ]
      refine wpAnyH_done (by kernel_rfl) ?_ _
      clear h8
      go_wp2
      refine bodyPost_ret (v := .tuple #[.agg #[.int .i64 (n : Nat), .slice la ln lc, .slice ca cm cc], .bool true]) (by simp [results, Try.results7, go_sem, x20, x21, x22, y20, y21, y22]; try rfl) rfl ?_
      exact ((QP9.out.put3 O92.out _ _ _).most (by omega)).does
    · clear hth
      have CF := Lib.hid (chain_facts HP0.out #[.int .i64 (n : Nat), .slice la ln lc, .slice ca cm cc] #[.int .i64 2, .int .i64 A, .int .i64 B, .string s] #[.int .i64 0, .slice none 0 0, .slice none 0 0] #[.int .i64 0, .int .i64 0, .string ⟨#[]⟩] 29 34 29 50)
      obtain ⟨hp4, o0, o1, o2, o3, b0, b1, b2, b3⟩ := CF.out
      have HP4 := Lib.hid hp4
      have O40 := Lib.hid o0
      have B40 := Lib.hid b0
      have O41 := Lib.hid o1
      have B41 := Lib.hid b1
      have O42 := Lib.hid o2
      have B42 := Lib.hid b2
      have O43 := Lib.hid o3
      have B43 := Lib.hid b3
      clear CF hp4 o0 o1 o2 o3 b0 b1 b2 b3
      have HZ := Lib.hid (drop_out HT.out)
      rw [HZ.out]
      go_enter Try.func7, Try.ntmps7
      go_wp2_with fail
      generalize (((w.alloc (.cells #[.int .i64 (n : Nat), .slice la ln lc, .slice ca cm cc] 29)).alloc (.cells #[.int .i64 2, .int .i64 A, .int .i64 B, .string s] 34)).alloc (.cells #[.int .i64 0, .slice none 0 0, .slice none 0 0] 29)).alloc (.cells #[.int .i64 0, .int .i64 0, .string ⟨#[]⟩] 50) = w4 at *
      have HP8 := Lib.hid (HP4.out.gr (Gr.refl _).drew)
      have O80 := Lib.hid (O40.out.gr (Gr.refl _).drew)
      have B80 := Lib.hid (B40.out.gr (Gr.refl _).drew)
      have O81 := Lib.hid (O41.out.gr (Gr.refl _).drew)
      have B81 := Lib.hid (B41.out.gr (Gr.refl _).drew)
      have O82 := Lib.hid (O42.out.gr (Gr.refl _).drew)
      have B82 := Lib.hid (B42.out.gr (Gr.refl _).drew)
      have O83 := Lib.hid (O43.out.gr (Gr.refl _).drew)
      have B83 := Lib.hid (B43.out.gr (Gr.refl _).drew)
      have QP8 := HP8
      refine wp_region_held_drew (S := (fun w9 => w9.cell? ⟨w.heap.size, 0, none⟩ = some (.int .i64 (n : Nat)) ∧ w9.cell? ⟨w.heap.size, 1, none⟩ = some (.slice la ln lc) ∧ w9.cell? ⟨w.heap.size, 2, none⟩ = some (.slice ca cm cc) ∧ w9.cell? ⟨w.heap.size + 1, 1, none⟩ = some (.int .i64 (A)))) (by kernel_rfl) ?invb (fun h0 => ?_)
      case invb => ((try dsimp only); (exact ⟨B80.out.cell rfl, B80.out.cell rfl, B80.out.cell rfl, B81.out.cell rfl⟩))
      refine wpAnyH_take (i := 0) (oi := { dst := some 109, op := Go.Op.load 29 (Go.Operand.tmp 4), type := 29, pos := "law.go:52", after := #[], guard := none }) (v := ?vb1) rfl (by kernel_rfl) (by kernel_rfl) (by kernel_rfl) (fun _ _ _ h => h) (Or.inl ⟨by rfl, ?rb1⟩) (by assumption) ?_
      case rb1 => (intro w hSw; (try dsimp only at hSw); (go_simp <;> with_reducible rfl))
      try simp only [Act.put, List.setIfInBounds_toArray, List.set_cons_zero, List.set_cons_succ]
      refine wpAnyH_take (i := 1) (oi := { dst := some 110, op := Go.Op.move (Go.Operand.tmp 0), type := 24, pos := "law.go:52", after := #[], guard := none }) (v := ?vb2) rfl (by kernel_rfl) (by kernel_rfl) (by kernel_rfl) (fun _ _ _ h => h) (Or.inl ⟨by rfl, ?rb2⟩) (by assumption) ?_
      case rb2 => (intro w hSw; (try dsimp only at hSw); (go_simp <;> with_reducible rfl))
      try simp only [Act.put, List.setIfInBounds_toArray, List.set_cons_zero, List.set_cons_succ]
      refine wpAnyH_take (i := 2) (oi := { dst := some 111, op := Go.Op.fieldAddr 34 (Go.Operand.tmp 5) 1, type := 0, pos := "law.go:52", after := #[], guard := none }) (v := ?vb3) rfl (by kernel_rfl) (by kernel_rfl) (by kernel_rfl) (fun _ _ _ h => h) (Or.inl ⟨by rfl, ?rb3⟩) (by assumption) ?_
      case rb3 => (intro w hSw; (try dsimp only at hSw); (go_simp <;> with_reducible rfl))
      try simp only [Act.put, List.setIfInBounds_toArray, List.set_cons_zero, List.set_cons_succ]
      refine wpAnyH_take (i := 3) (oi := { dst := some 112, op := Go.Op.load 3 (Go.Operand.tmp 111), type := 3, pos := "law.go:52", after := #[{ on := 2, ground := Go.Ground.data }], guard := none }) (v := ?vb4) rfl (by kernel_rfl) (by kernel_rfl) (by kernel_rfl) (fun _ _ _ h => h) (Or.inl ⟨by rfl, ?rb4⟩) (by assumption) ?_
      case rb4 => (intro w hSw; (try dsimp only at hSw); (go_simp <;> with_reducible rfl))
      try simp only [Act.put, List.setIfInBounds_toArray, List.set_cons_zero, List.set_cons_succ]
      refine wpAnyH_take (i := 5) (oi := { dst := some 114, op := Go.Op.move (Go.Operand.tmp 8), type := 4, pos := "law.go:52", after := #[{ on := 7, ground := Go.Ground.gcOnly Go.Departure.lateStores }], guard := none }) (v := ?vb5) rfl (by kernel_rfl) (by kernel_rfl) (by kernel_rfl) (fun _ _ _ h => h) (Or.inl ⟨by rfl, ?rb5⟩) (by assumption) ?_
      case rb5 => (intro w hSw; (try dsimp only at hSw); (go_simp <;> with_reducible rfl))
      try simp only [Act.put, List.setIfInBounds_toArray, List.set_cons_zero, List.set_cons_succ]
      refine wpAnyH_ready (rs := [4]) (by kernel_rfl) (by simp) ?_
      refine AllReadyH.cons (o := { dst := some 113, op := Go.Op.call { callee := Go.Callee.value (Go.Operand.func 18), args := #[Go.Operand.tmp 110, Go.Operand.tmp 112], argTypes := #[24, 3] }, type := 4, pos := "law.go:52", after := #[{ on := 1, ground := Go.Ground.data }, { on := 3, ground := Go.Ground.data }], guard := none }) rfl (fun K hK => ?_) AllReadyH.nil
      go_simp
      (go_at_call 18; refine (ndrop_any (A) _ QP8.out.is).mono ?_; rintro e w9 ⟨rfl, v9, h9, hf9, hv9⟩; rw [HT.out]; rw [HZ.out] at h9; have QP9 := Lib.hid (QP8.out.net h9 hf9 hv9); have O90 := Lib.hid (O80.out.net hf9 hv9); have B90 := Lib.hid (B80.out.far hf9 O80.out.sd.1 O80.out.sd.2); have O91 := Lib.hid (O81.out.net hf9 hv9); have B91 := Lib.hid (B81.out.far hf9 O81.out.sd.1 O81.out.sd.2); have O92 := Lib.hid (O82.out.net hf9 hv9); have B92 := Lib.hid (B82.out.far hf9 O82.out.sd.1 O82.out.sd.2); have O93 := Lib.hid (O83.out.net hf9 hv9); have B93 := Lib.hid (B83.out.far hf9 O83.out.sd.1 O83.out.sd.2); have x20 := B92.out.cell (i := 0) rfl; have x21 := B92.out.cell (i := 1) rfl; have x22 := B92.out.cell (i := 2) rfl; have y20 := B92.out.free 0; have y21 := B92.out.free 1; have y22 := B92.out.free 2)
      first | refine hK.out _ _ ?sb6 (fun h6 => ?_) | (go_wp2_with fail; refine hK.out _ _ ?sb6 (fun h6 => ?_))
      case sb6 => ((try dsimp only); (first | exact ⟨B90.out.cell rfl, B90.out.cell rfl, B90.out.cell rfl, B91.out.cell rfl⟩ | exact ⟨(B90.out.apart3 (by omega) _ _ _).cell rfl, (B90.out.apart3 (by omega) _ _ _).cell rfl, (B90.out.apart3 (by omega) _ _ _).cell rfl, (B91.out.apart3 (by omega) _ _ _).cell rfl⟩))
      clear hK K h0
      try simp only [Act.put, List.setIfInBounds_toArray, List.set_cons_zero, List.set_cons_succ]
      refine wpAnyH_take (i := 6) (oi := { dst := some 115, op := Go.Op.binOp Go.BinOp.eql 4 (Go.Operand.tmp 113) (Go.Operand.tmp 114) 4, type := 4, pos := "law.go:52", after := #[{ on := 4, ground := Go.Ground.data }, { on := 5, ground := Go.Ground.data }, { on := 7, ground := Go.Ground.gcOnly Go.Departure.lateStores }], guard := none }) (v := ?vb7) rfl (by kernel_rfl) (by kernel_rfl) (by kernel_rfl) (fun _ _ _ h => h) (Or.inl ⟨by rfl, ?rb7⟩) (by assumption) ?_
      case rb7 => (intro w hSw; (try dsimp only at hSw); (go_simp <;> with_reducible rfl))
      try simp only [Act.put, List.setIfInBounds_toArray, List.set_cons_zero, List.set_cons_succ]
      refine wpAnyH_ready (rs := [7]) (by kernel_rfl) (by simp) ?_
      refine AllReadyH.cons (o := { dst := none, op := Go.Op.store 29 (Go.Operand.tmp 6) (Go.Operand.tmp 109), type := 0, pos := "law.go:52", after := #[{ on := 0, ground := Go.Ground.data }, { on := 4, ground := Go.Ground.chain }, { on := 0, ground := Go.Ground.phase }, { on := 1, ground := Go.Ground.textOnly Go.Departure.lateStores }, { on := 2, ground := Go.Ground.textOnly Go.Departure.lateStores }, { on := 3, ground := Go.Ground.textOnly Go.Departure.lateStores }, { on := 4, ground := Go.Ground.textOnly Go.Departure.lateStoresUnsure }, { on := 5, ground := Go.Ground.textOnly Go.Departure.lateStores }, { on := 6, ground := Go.Ground.textOnly Go.Departure.lateStores }], guard := none }) rfl (fun K hK => ?_) AllReadyH.nil
      go_simp
      skip
      first | refine hK.out _ _ ?sb8 (fun h8 => ?_) | (go_wp2_with fail; refine hK.out _ _ ?sb8 (fun h8 => ?_))
      case sb8 => ((try dsimp only); (first | exact ⟨B90.out.cell rfl, B90.out.cell rfl, B90.out.cell rfl, B91.out.cell rfl⟩ | exact ⟨(B90.out.apart3 (by omega) _ _ _).cell rfl, (B90.out.apart3 (by omega) _ _ _).cell rfl, (B90.out.apart3 (by omega) _ _ _).cell rfl, (B91.out.apart3 (by omega) _ _ _).cell rfl⟩))
      clear hK K h6
      try simp only [Act.put, List.setIfInBounds_toArray, List.set_cons_zero, List.set_cons_succ]
      refine wpAnyH_take (i := 8) (oi := { dst := some 7, op := Go.Op.assign (Go.Operand.tmp 115), type := 4, pos := "law.go:52", after := #[{ on := 6, ground := Go.Ground.data }, { on := 7, ground := Go.Ground.chain }, { on := 0, ground := Go.Ground.phase }, { on := 1, ground := Go.Ground.phase }, { on := 2, ground := Go.Ground.phase }, { on := 3, ground := Go.Ground.phase }, { on := 4, ground := Go.Ground.phase }, { on := 5, ground := Go.Ground.phase }, { on := 6, ground := Go.Ground.phase }, { on := 7, ground := Go.Ground.phase }], guard := none }) (v := ?vb9) rfl (by kernel_rfl) (by kernel_rfl) (by kernel_rfl) (fun _ _ _ h => h) (Or.inl ⟨by rfl, ?rb9⟩) (by assumption) ?_
      case rb9 => (intro w hSw; (try dsimp only at hSw); (go_simp <;> with_reducible rfl))
      try simp only [Act.put, List.setIfInBounds_toArray, List.set_cons_zero, List.set_cons_succ]
      refine wpAnyH_done (by kernel_rfl) ?_ _
      clear h8
      go_wp2
      refine bodyPost_ret (v := .tuple #[.agg #[.int .i64 (n : Nat), .slice la ln lc, .slice ca cm cc], .bool true]) (by simp [results, Try.results7, go_sem, x20, x21, x22, y20, y21, y22]; try rfl) rfl ?_
      exact ((QP9.out.put3 O92.out _ _ _).most (by omega)).does
end Go.Proofs.Ytahohgnkichibab
