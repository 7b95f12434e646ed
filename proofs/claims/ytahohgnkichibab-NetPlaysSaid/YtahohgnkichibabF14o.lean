import Derived.Test.YtahohgnkichibabF14n
import Derived.Test.YtahohgnkichibabC12
import Derived.WalkKit
import Derived.ProofKit
import Derived.LoopTactic
import Derived.Outline
import Derived.WalkSpells
import Derived.WalkLawsBesides
import Derived.Lib.Hide
import Derived.Deep.LoopGhost
import Derived.Deep.QuietTactic
import Derived.BigQuiet
import Derived.ShutString
import Derived.IntWalk
import Derived.Lib.MinMax
import Derived.BigQuiet
import Derived.Deep.AppendLies
import Derived.Deep.RegionWith
import Derived.Deep.RegionHeld3
namespace Go.Proofs.Ytahohgnkichibab
open Go.ChangeShapes Go.WideShapes Go.ChangeAt Go.RowKit
set_option linter.unusedVariables false
set_option linter.unusedSimpArgs false
open Nt
set_option maxRecDepth 100000 in
set_option maxHeartbeats 2000000 in
theorem lawDo_send {b c : Nat} {v rv : Value} {x : N} (K A B : Int) (s : ByteArray) (w : World) (h : NtIs w b v x) (hr : RfIs w c rv x) (ho : RfOff w rv b v) (hc : c ≤ 1000000) (hs : s.size ≤ 9223372036854775807) :
    Calls Try.prog 7 #[.pointer (some ⟨b, 0, none⟩), rv, .agg #[.int .i64 0, .int .i64 A, .int .i64 B, .string s]] w (DoIs b c v w (Nt.send x ⟨A, B, cutB s 30⟩).1) := by
  have HP0 := Lib.hid (Pair.mk (w0 := w) (v0 := v) h hr (Far.refl _ _ _) (From.refl _ _) ho)
  obtain ⟨⟨lv, cv, M, rfl, h2, h3, h4, h5⟩, ok⟩ := hr
  obtain ⟨la, lc, rfl, h2⟩ := h2
  obtain ⟨ca, cc, rfl, h3⟩ := h3
  have HLV := Lib.hid h2
  clear h2 h3 h4 h5 ho h ok
  generalize M.length = cm at *
  have HTH : Hid (Nt.hasB x A = decide (0 ≤ A ∧ A < (x.L.length : Int))) := Lib.hid rfl
  generalize hln : x.L.length = ln at *
  have HLN := Lib.hid hln
  clear hln
  generalize hxn : x.n = n at *
  have HXN := Lib.hid hxn
  clear hxn
  by_cases hth : 0 ≤ A ∧ A < (ln : Int)
  · obtain ⟨hA, hA2⟩ := hth
    have HT := Lib.hid (HTH.out.trans (decide_eq_true ⟨hA, hA2⟩))
    clear HTH
    obtain ⟨k, rfl⟩ : ∃ k : Nat, A = (k : Int) := ⟨A.toNat, by omega⟩
    have hkx : k < x.L.length := by rw [HLN.out]; omega
    rcases HLV.out with h1 | ⟨g, rfl, hcl⟩
    · omega
    have HG4 := Lib.hid (((((Gr.refl w).alloc (.cells #[.int .i64 (n : Nat), .slice (some ⟨g, 0, none⟩) ln lc, .slice ca cm cc] 29)).alloc (.cells #[.int .i64 0, .int .i64 (k : Nat), .int .i64 B, .string s] 34)).alloc (.cells #[.int .i64 0, .slice none 0 0, .slice none 0 0] 29)).alloc (.cells #[.int .i64 0, .int .i64 0, .string ⟨#[]⟩] 50))
    have e0 := HG4.out.cell (hcl _ _ (pcells_at x.L k hkx).1)
    have e1 := HG4.out.cell (hcl _ _ (pcells_at x.L k hkx).2.1)
    have e2 := HG4.out.cell (hcl _ _ (pcells_at x.L k hkx).2.2)
    have HA := Lib.hid (look_at hkx)
    clear hcl
    generalize x.L[k] = pp at *
    obtain ⟨pA, pB, ps⟩ := pp
    simp only at e0 e1 e2
    have CU := Lib.hid (fun w => cut_any s 30 w hs (by decide))
    have hzl := cutB_le s 30
    generalize hz : cutB s 30 = z at *
    clear hz
    have HZZ : Hid ((⟨((k : Nat)), B, z⟩ : P).s.size ≤ 1000000) := Lib.hid (show z.size ≤ 1000000 by omega)
    clear hzl
    go_enter Try.func7, Try.ntmps7
    go_wp2_with fail
    have CF := Lib.hid (chain_facts HP0.out #[.int .i64 (n : Nat), .slice (some ⟨g, 0, none⟩) ln lc, .slice ca cm cc] #[.int .i64 0, .int .i64 (k : Nat), .int .i64 B, .string s] #[.int .i64 0, .slice none 0 0, .slice none 0 0] #[.int .i64 pA, .int .i64 pB, .string ps] 29 34 29 50)
    obtain ⟨hp4, o0, o1, o2, o3, b0, b1, b2, b3⟩ := CF.out
    have HP4 := Lib.hid hp4
    have O40 := Lib.hid o0
    have B40 := Lib.hid b0
    have O41 := Lib.hid o1
    have B41 := Lib.hid b1
    have O42 := Lib.hid o2
    have B42 := Lib.hid b2
    have O43 := Lib.hid o3
    have B43 := Lib.hid b3
    clear CF hp4 o0 o1 o2 o3 b0 b1 b2 b3
    generalize ((((w.alloc (.cells #[.int .i64 (n : Nat), .slice (some ⟨g, 0, none⟩) ln lc, .slice ca cm cc] 29)).alloc (.cells #[.int .i64 0, .int .i64 (k : Nat), .int .i64 B, .string s] 34)).alloc (.cells #[.int .i64 0, .slice none 0 0, .slice none 0 0] 29)).alloc (.cells #[.int .i64 pA, .int .i64 pB, .string ps] 50)) = w4 at *
    have HP5 := Lib.hid (HP4.out.gr (((Gr.refl w4).alloc (.cells #[.int .i64 ((k : Nat)), .int .i64 B, .string z] 50)).drew))
    have O50 := Lib.hid (O40.out.gr (((Gr.refl w4).alloc (.cells #[.int .i64 ((k : Nat)), .int .i64 B, .string z] 50)).drew))
    have B50 := Lib.hid (B40.out.gr (((Gr.refl w4).alloc (.cells #[.int .i64 ((k : Nat)), .int .i64 B, .string z] 50)).drew))
    have O51 := Lib.hid (O41.out.gr (((Gr.refl w4).alloc (.cells #[.int .i64 ((k : Nat)), .int .i64 B, .string z] 50)).drew))
    have B51 := Lib.hid (B41.out.gr (((Gr.refl w4).alloc (.cells #[.int .i64 ((k : Nat)), .int .i64 B, .string z] 50)).drew))
    have O52 := Lib.hid (O42.out.gr (((Gr.refl w4).alloc (.cells #[.int .i64 ((k : Nat)), .int .i64 B, .string z] 50)).drew))
    have B52 := Lib.hid (B42.out.gr (((Gr.refl w4).alloc (.cells #[.int .i64 ((k : Nat)), .int .i64 B, .string z] 50)).drew))
    have O53 := Lib.hid (O43.out.gr (((Gr.refl w4).alloc (.cells #[.int .i64 ((k : Nat)), .int .i64 B, .string z] 50)).drew))
    have B53 := Lib.hid (B43.out.gr (((Gr.refl w4).alloc (.cells #[.int .i64 ((k : Nat)), .int .i64 B, .string z] 50)).drew))
    have o4 := (Own.new HP4.out (.cells #[.int .i64 ((k : Nat)), .int .i64 B, .string z] 50)).gr ((Gr.refl _).drew)
    have b4 := (Blk.new w4 #[.int .i64 ((k : Nat)), .int .i64 B, .string z] 50).gr ((Gr.refl _).drew)
    have O54 := Lib.hid o4
    have B54 := Lib.hid b4
    clear o4 b4
    have HX : Hid (∀ w0 w9 : World, Gr w0 w9 → (fun w9 => Gr w4 w9 ∧ w9.cell? ⟨w.heap.size + 1, 1, none⟩ = some (.int .i64 ((k : Nat))) ∧ w9.cell? ⟨w.heap.size + 1, 2, none⟩ = some (.int .i64 B) ∧ w9.cell? ⟨w.heap.size + 1, 3, none⟩ = some (.string s)) w0 → (fun w9 => Gr w4 w9 ∧ w9.cell? ⟨w.heap.size + 1, 1, none⟩ = some (.int .i64 ((k : Nat))) ∧ w9.cell? ⟨w.heap.size + 1, 2, none⟩ = some (.int .i64 B) ∧ w9.cell? ⟨w.heap.size + 1, 3, none⟩ = some (.string s)) w9) := Lib.hid fun w0 w9 hg ⟨h, q1, q2, q3⟩ => ⟨h.trans hg, hg.cell q1, hg.cell q2, hg.cell q3⟩
    have HS0 : (fun w9 => Gr w4 w9 ∧ w9.cell? ⟨w.heap.size + 1, 1, none⟩ = some (.int .i64 ((k : Nat))) ∧ w9.cell? ⟨w.heap.size + 1, 2, none⟩ = some (.int .i64 B) ∧ w9.cell? ⟨w.heap.size + 1, 3, none⟩ = some (.string s)) w4 := ⟨Gr.refl _, B41.out.cell rfl, B41.out.cell rfl, B41.out.cell rfl⟩
    apply cutS (fun w9 => w9 = (w4.alloc (.cells #[.int .i64 ((k : Nat)), .int .i64 B, .string z] 50)).drew)
    case main =>
      intro HL2
      refine wp_region_held_drew (S := (fun w9 => Gr w4 w9 ∧ w9.cell? ⟨w.heap.size + 1, 1, none⟩ = some (.int .i64 ((k : Nat))) ∧ w9.cell? ⟨w.heap.size + 1, 2, none⟩ = some (.int .i64 B) ∧ w9.cell? ⟨w.heap.size + 1, 3, none⟩ = some (.string s))) (by kernel_rfl) ?inva (fun h0 => ?_)
      case inva => ((try dsimp only); (exact HX.out _ _ ((Gr.refl _).drew) HS0))
      refine wpAnyH_take (i := 0) (oi := { dst := some 41, op := Go.Op.fieldAddr 34 (Go.Operand.tmp 5) 1, type := 0, pos := "law.go:35", after := #[], guard := none }) (v := ?va1) rfl (by kernel_rfl) (by kernel_rfl) (by kernel_rfl) (fun _ _ _ h => h) (Or.inl ⟨by rfl, ?ra1⟩) (by assumption) ?_
      case ra1 => (intro w hSw; (try dsimp only at hSw); (go_simp <;> with_reducible rfl))
      try simp only [Act.put, List.setIfInBounds_toArray, List.set_cons_zero, List.set_cons_succ]
      refine wpAnyH_take (i := 1) (oi := { dst := some 42, op := Go.Op.load 3 (Go.Operand.tmp 41), type := 3, pos := "law.go:35", after := #[{ on := 0, ground := Go.Ground.data }], guard := none }) (v := ?va2) rfl (by kernel_rfl) (by kernel_rfl) (by kernel_rfl) (fun _ _ _ h => h) (Or.inl ⟨by rfl, ?ra2⟩) (by assumption) ?_
      case ra2 => (intro w hSw; (try dsimp only at hSw); (go_simp <;> with_reducible rfl))
      try simp only [Act.put, List.setIfInBounds_toArray, List.set_cons_zero, List.set_cons_succ]
      refine wpAnyH_take (i := 2) (oi := { dst := some 43, op := Go.Op.fieldAddr 34 (Go.Operand.tmp 5) 2, type := 0, pos := "law.go:35", after := #[], guard := none }) (v := ?va3) rfl (by kernel_rfl) (by kernel_rfl) (by kernel_rfl) (fun _ _ _ h => h) (Or.inl ⟨by rfl, ?ra3⟩) (by assumption) ?_
      case ra3 => (intro w hSw; (try dsimp only at hSw); (go_simp <;> with_reducible rfl))
      try simp only [Act.put, List.setIfInBounds_toArray, List.set_cons_zero, List.set_cons_succ]
      refine wpAnyH_take (i := 3) (oi := { dst := some 44, op := Go.Op.load 3 (Go.Operand.tmp 43), type := 3, pos := "law.go:35", after := #[{ on := 2, ground := Go.Ground.data }], guard := none }) (v := ?va4) rfl (by kernel_rfl) (by kernel_rfl) (by kernel_rfl) (fun _ _ _ h => h) (Or.inl ⟨by rfl, ?ra4⟩) (by assumption) ?_
      case ra4 => (intro w hSw; (try dsimp only at hSw); (go_simp <;> with_reducible rfl))
      try simp only [Act.put, List.setIfInBounds_toArray, List.set_cons_zero, List.set_cons_succ]
      refine wpAnyH_take (i := 4) (oi := { dst := some 45, op := Go.Op.fieldAddr 34 (Go.Operand.tmp 5) 3, type := 0, pos := "law.go:35", after := #[], guard := none }) (v := ?va5) rfl (by kernel_rfl) (by kernel_rfl) (by kernel_rfl) (fun _ _ _ h => h) (Or.inl ⟨by rfl, ?ra5⟩) (by assumption) ?_
      case ra5 => (intro w hSw; (try dsimp only at hSw); (go_simp <;> with_reducible rfl))
      try simp only [Act.put, List.setIfInBounds_toArray, List.set_cons_zero, List.set_cons_succ]
      refine wpAnyH_take (i := 5) (oi := { dst := some 46, op := Go.Op.load 9 (Go.Operand.tmp 45), type := 9, pos := "law.go:35", after := #[{ on := 4, ground := Go.Ground.data }], guard := none }) (v := ?va6) rfl (by kernel_rfl) (by kernel_rfl) (by kernel_rfl) (fun _ _ _ h => h) (Or.inl ⟨by rfl, ?ra6⟩) (by assumption) ?_
      case ra6 => (intro w hSw; (try dsimp only at hSw); (go_simp <;> with_reducible rfl))
      try simp only [Act.put, List.setIfInBounds_toArray, List.set_cons_zero, List.set_cons_succ]
      refine wpAnyH_ready (rs := [6, 8]) (by kernel_rfl) (by simp) ?_
      refine AllReadyH.cons (o := { dst := some 47, op := Go.Op.call { callee := Go.Callee.value (Go.Operand.func 14), args := #[Go.Operand.tmp 46, Go.Operand.const (Go.Value.int Go.IntKind.i64 30)], argTypes := #[9, 3] }, type := 9, pos := "law.go:35", after := #[{ on := 5, ground := Go.Ground.data }], guard := none }) rfl (fun K hK => ?_) (AllReadyH.cons (o := { dst := some 10, op := Go.Op.alloc 50, type := 0, pos := "law.go:35", after := #[], guard := none }) rfl (fun K hK => ?_) AllReadyH.nil)
      · skip
        go_simp
        (go_at_call 14; refine (CU.out _).mono ?_; rintro e w9 ⟨rfl, rfl⟩)
        first | refine hK.out _ _ ?sa7 (fun h7 => ?_) | (go_wp2_with fail; refine hK.out _ _ ?sa7 (fun h7 => ?_))
        case sa7 => ((try dsimp only); (first | exact h0 | exact HX.out _ _ (((Gr.refl _).drew).alloc _) HS0 | exact HX.out _ _ (((Gr.refl _).alloc _).drew) HS0))
        clear hK K h0
        try simp only [Act.put, List.setIfInBounds_toArray, List.set_cons_zero, List.set_cons_succ]
        refine wpAnyH_take (i := 7) (oi := { dst := some 48, op := Go.Op.build 50 #[(0, Go.Operand.tmp 42), (1, Go.Operand.tmp 44), (2, Go.Operand.tmp 47)], type := 50, pos := "law.go:35", after := #[{ on := 1, ground := Go.Ground.data }, { on := 3, ground := Go.Ground.data }, { on := 6, ground := Go.Ground.data }], guard := none }) (v := ?va8) rfl (by kernel_rfl) (by kernel_rfl) (by kernel_rfl) (fun _ _ _ h => h) (Or.inl ⟨by rfl, ?ra8⟩) (by assumption) ?_
        case ra8 => (intro w hSw; (try dsimp only at hSw); (go_simp <;> with_reducible rfl))
        try simp only [Act.put, List.setIfInBounds_toArray, List.set_cons_zero, List.set_cons_succ]
        refine wpAnyH_ready (rs := [8]) (by kernel_rfl) (by simp) ?_
        refine AllReadyH.cons (o := { dst := some 10, op := Go.Op.alloc 50, type := 0, pos := "law.go:35", after := #[], guard := none }) rfl (fun K hK => ?_) AllReadyH.nil
        go_simp
        skip
        first | refine hK.out _ _ ?sa9 (fun h9 => ?_) | (go_wp2_with fail; refine hK.out _ _ ?sa9 (fun h9 => ?_))
        case sa9 => ((try dsimp only); (first | exact h7 | exact HX.out _ _ (((Gr.refl _).drew).alloc _) HS0 | exact HX.out _ _ (((Gr.refl _).alloc _).drew) HS0))
        clear hK K h7
        try simp only [Act.put, List.setIfInBounds_toArray, List.set_cons_zero, List.set_cons_succ]
        refine wpAnyH_ready (rs := [9]) (by kernel_rfl) (by simp) ?_
        refine AllReadyH.cons (o := { dst := none, op := Go.Op.store 50 (Go.Operand.tmp 10) (Go.Operand.tmp 48), type := 0, pos := "law.go:35", after := #[{ on := 8, ground := Go.Ground.data }, { on := 7, ground := Go.Ground.data }, { on := 6, ground := Go.Ground.chain }, { on := 0, ground := Go.Ground.phase }, { on := 1, ground := Go.Ground.phase }, { on := 2, ground := Go.Ground.phase }, { on := 3, ground := Go.Ground.phase }, { on := 4, ground := Go.Ground.phase }, { on := 5, ground := Go.Ground.phase }, { on := 6, ground := Go.Ground.phase }, { on := 7, ground := Go.Ground.phase }, { on := 8, ground := Go.Ground.phase }], guard := none }) rfl (fun K hK => ?_) AllReadyH.nil
        go_simp
        skip
        first | refine hK.out _ _ ?sa10 (fun h10 => ?_) | (go_wp2_with fail; refine hK.out _ _ ?sa10 (fun h10 => ?_))
        case sa10 => ((try dsimp only); (first | exact h9 | exact HX.out _ _ (((Gr.refl _).drew).alloc _) HS0 | exact HX.out _ _ (((Gr.refl _).alloc _).drew) HS0))
        clear hK K h9
        try simp only [Act.put, List.setIfInBounds_toArray, List.set_cons_zero, List.set_cons_succ]
        refine wpAnyH_done (by kernel_rfl) ?_ _
        exact HL2 _ rfl
      · skip
        go_simp
        skip
        first | refine hK.out _ _ ?sa11 (fun h11 => ?_) | (go_wp2_with fail; refine hK.out _ _ ?sa11 (fun h11 => ?_))
        case sa11 => ((try dsimp only); (first | exact h0 | exact HX.out _ _ (((Gr.refl _).drew).alloc _) HS0 | exact HX.out _ _ (((Gr.refl _).alloc _).drew) HS0))
        clear hK K h0
        try simp only [Act.put, List.setIfInBounds_toArray, List.set_cons_zero, List.set_cons_succ]
        refine wpAnyH_ready (rs := [6]) (by kernel_rfl) (by simp) ?_
        refine AllReadyH.cons (o := { dst := some 47, op := Go.Op.call { callee := Go.Callee.value (Go.Operand.func 14), args := #[Go.Operand.tmp 46, Go.Operand.const (Go.Value.int Go.IntKind.i64 30)], argTypes := #[9, 3] }, type := 9, pos := "law.go:35", after := #[{ on := 5, ground := Go.Ground.data }], guard := none }) rfl (fun K hK => ?_) AllReadyH.nil
        go_simp
        (go_at_call 14; refine (CU.out _).mono ?_; rintro e w9 ⟨rfl, rfl⟩)
        first | refine hK.out _ _ ?sa12 (fun h12 => ?_) | (go_wp2_with fail; refine hK.out _ _ ?sa12 (fun h12 => ?_))
        case sa12 => ((try dsimp only); (first | exact h11 | exact HX.out _ _ (((Gr.refl _).drew).alloc _) HS0 | exact HX.out _ _ (((Gr.refl _).alloc _).drew) HS0))
        clear hK K h11
        try simp only [Act.put, List.setIfInBounds_toArray, List.set_cons_zero, List.set_cons_succ]
        refine wpAnyH_take (i := 7) (oi := { dst := some 48, op := Go.Op.build 50 #[(0, Go.Operand.tmp 42), (1, Go.Operand.tmp 44), (2, Go.Operand.tmp 47)], type := 50, pos := "law.go:35", after := #[{ on := 1, ground := Go.Ground.data }, { on := 3, ground := Go.Ground.data }, { on := 6, ground := Go.Ground.data }], guard := none }) (v := ?va13) rfl (by kernel_rfl) (by kernel_rfl) (by kernel_rfl) (fun _ _ _ h => h) (Or.inl ⟨by rfl, ?ra13⟩) (by assumption) ?_
        case ra13 => (intro w hSw; (try dsimp only at hSw); (go_simp <;> with_reducible rfl))
        try simp only [Act.put, List.setIfInBounds_toArray, List.set_cons_zero, List.set_cons_succ]
        refine wpAnyH_ready (rs := [9]) (by kernel_rfl) (by simp) ?_
        refine AllReadyH.cons (o := { dst := none, op := Go.Op.store 50 (Go.Operand.tmp 10) (Go.Operand.tmp 48), type := 0, pos := "law.go:35", after := #[{ on := 8, ground := Go.Ground.data }, { on := 7, ground := Go.Ground.data }, { on := 6, ground := Go.Ground.chain }, { on := 0, ground := Go.Ground.phase }, { on := 1, ground := Go.Ground.phase }, { on := 2, ground := Go.Ground.phase }, { on := 3, ground := Go.Ground.phase }, { on := 4, ground := Go.Ground.phase }, { on := 5, ground := Go.Ground.phase }, { on := 6, ground := Go.Ground.phase }, { on := 7, ground := Go.Ground.phase }, { on := 8, ground := Go.Ground.phase }], guard := none }) rfl (fun K hK => ?_) AllReadyH.nil
        go_simp
        skip
        first | refine hK.out _ _ ?sa14 (fun h14 => ?_) | (go_wp2_with fail; refine hK.out _ _ ?sa14 (fun h14 => ?_))
        case sa14 => ((try dsimp only); (first | exact h12 | exact HX.out _ _ (((Gr.refl _).drew).alloc _) HS0 | exact HX.out _ _ (((Gr.refl _).alloc _).drew) HS0))
        clear hK K h12
        try simp only [Act.put, List.setIfInBounds_toArray, List.set_cons_zero, List.set_cons_succ]
        refine wpAnyH_done (by kernel_rfl) ?_ _
        exact HL2 _ rfl
    case rest =>
      intro wy hwy
      generalize (w4.alloc (.cells #[.int .i64 ((k : Nat)), .int .i64 B, .string z] 50)).drew = w5 at *
      subst hwy
      clear HX HS0
      have x00 := B50.out.cell (i := 0) rfl
      have x01 := B50.out.cell (i := 1) rfl
      have x02 := B50.out.cell (i := 2) rfl
      have z0 := B54.out.cell (i := 0) rfl
      have z1 := B54.out.cell (i := 1) rfl
      have z2 := B54.out.cell (i := 2) rfl
      go_wp2_with fail
      refine (refSend_any ⟨((k : Nat)), B, z⟩ _ HP5.out.rf HZZ.out).mono ?_
      rintro e w6 ⟨rv6, rfl, hr6, hg6, hn6⟩
      generalize hZ : Nt.send x ⟨((k : Nat)), B, z⟩ = ZQ at *
      obtain ⟨Z, q⟩ := ZQ
      have HZ := Lib.hid hZ
      clear hZ
      simp only at *
      have HP6 := Lib.hid (HP5.out.ref hr6 hg6 hn6)
      have O60 := Lib.hid (O50.out.ref hg6 hn6)
      have B60 := Lib.hid (B50.out.gr hg6)
      have O61 := Lib.hid (O51.out.ref hg6 hn6)
      have B61 := Lib.hid (B51.out.gr hg6)
      have O62 := Lib.hid (O52.out.ref hg6 hn6)
      have B62 := Lib.hid (B52.out.gr hg6)
      have O63 := Lib.hid (O53.out.ref hg6 hn6)
      have B63 := Lib.hid (B53.out.gr hg6)
      have O64 := Lib.hid (O54.out.ref hg6 hn6)
      have B64 := Lib.hid (B54.out.gr hg6)
      clear hr6 hg6 hn6 x00 x01 x02 z0 z1 z2
      have hform := HP6.out.rf
      obtain ⟨⟨l7, c7, M7, hrv, g2, g3, _, _⟩, _⟩ := hform
      obtain ⟨la7, lc7, rfl, _⟩ := g2
      obtain ⟨ca7, cc7, rfl, _⟩ := g3
      subst hrv
      have HP7 := Lib.hid (HP6.out.gr ((Gr.refl w6).alloc (.cells #[.int .i64 (Z.n : Nat), .slice la7 Z.L.length lc7, .slice ca7 M7.length cc7] 29)))
      have O70 := Lib.hid (O60.out.gr ((Gr.refl w6).alloc (.cells #[.int .i64 (Z.n : Nat), .slice la7 Z.L.length lc7, .slice ca7 M7.length cc7] 29)))
      have B70 := Lib.hid (B60.out.gr ((Gr.refl w6).alloc (.cells #[.int .i64 (Z.n : Nat), .slice la7 Z.L.length lc7, .slice ca7 M7.length cc7] 29)))
      have O71 := Lib.hid (O61.out.gr ((Gr.refl w6).alloc (.cells #[.int .i64 (Z.n : Nat), .slice la7 Z.L.length lc7, .slice ca7 M7.length cc7] 29)))
      have B71 := Lib.hid (B61.out.gr ((Gr.refl w6).alloc (.cells #[.int .i64 (Z.n : Nat), .slice la7 Z.L.length lc7, .slice ca7 M7.length cc7] 29)))
      have O72 := Lib.hid (O62.out.gr ((Gr.refl w6).alloc (.cells #[.int .i64 (Z.n : Nat), .slice la7 Z.L.length lc7, .slice ca7 M7.length cc7] 29)))
      have B72 := Lib.hid (B62.out.gr ((Gr.refl w6).alloc (.cells #[.int .i64 (Z.n : Nat), .slice la7 Z.L.length lc7, .slice ca7 M7.length cc7] 29)))
      have O73 := Lib.hid (O63.out.gr ((Gr.refl w6).alloc (.cells #[.int .i64 (Z.n : Nat), .slice la7 Z.L.length lc7, .slice ca7 M7.length cc7] 29)))
      have B73 := Lib.hid (B63.out.gr ((Gr.refl w6).alloc (.cells #[.int .i64 (Z.n : Nat), .slice la7 Z.L.length lc7, .slice ca7 M7.length cc7] 29)))
      have O74 := Lib.hid (O64.out.gr ((Gr.refl w6).alloc (.cells #[.int .i64 (Z.n : Nat), .slice la7 Z.L.length lc7, .slice ca7 M7.length cc7] 29)))
      have B74 := Lib.hid (B64.out.gr ((Gr.refl w6).alloc (.cells #[.int .i64 (Z.n : Nat), .slice la7 Z.L.length lc7, .slice ca7 M7.length cc7] 29)))
      have O75 := Lib.hid (Own.new HP6.out (.cells #[.int .i64 (Z.n : Nat), .slice la7 Z.L.length lc7, .slice ca7 M7.length cc7] 29))
      have B75 := Lib.hid (Blk.new w6 #[.int .i64 (Z.n : Nat), .slice la7 Z.L.length lc7, .slice ca7 M7.length cc7] 29)
      go_wp2_with fail
      generalize hn5 : w6.heap.size = n5 at *
      generalize w6.alloc (.cells #[.int .i64 (Z.n : Nat), .slice la7 Z.L.length lc7, .slice ca7 M7.length cc7] 29) = w7 at *
      have HP8 := Lib.hid (HP7.out.gr (Gr.refl _).drew)
      have O80 := Lib.hid (O70.out.gr (Gr.refl _).drew)
      have B80 := Lib.hid (B70.out.gr (Gr.refl _).drew)
      have O81 := Lib.hid (O71.out.gr (Gr.refl _).drew)
      have B81 := Lib.hid (B71.out.gr (Gr.refl _).drew)
      have O82 := Lib.hid (O72.out.gr (Gr.refl _).drew)
      have B82 := Lib.hid (B72.out.gr (Gr.refl _).drew)
      have O83 := Lib.hid (O73.out.gr (Gr.refl _).drew)
      have B83 := Lib.hid (B73.out.gr (Gr.refl _).drew)
      have O84 := Lib.hid (O74.out.gr (Gr.refl _).drew)
      have B84 := Lib.hid (B74.out.gr (Gr.refl _).drew)
      have O85 := Lib.hid (O75.out.gr (Gr.refl _).drew)
      have B85 := Lib.hid (B75.out.gr (Gr.refl _).drew)
      have QP8 := HP8
      have hlt4 := O84.out.lo
      have hlt5 := O85.out.lo
      have hl4 := O42.out.lt
      have hl6 := O62.out.lt
      have hne4 : w4.heap.size ≠ w.heap.size + 1 + 1 := fun e => by omega
      have hne5 : n5 ≠ w.heap.size + 1 + 1 := fun e => by omega
      refine wp_region_held_drew (S := (fun w9 => w9.cell? ⟨n5, 0, none⟩ = some (.int .i64 (Z.n : Nat)) ∧ w9.cell? ⟨n5, 1, none⟩ = some (.slice la7 Z.L.length lc7) ∧ w9.cell? ⟨n5, 2, none⟩ = some (.slice ca7 M7.length cc7) ∧ w9.cell? ⟨w4.heap.size, 0, none⟩ = some (.int .i64 ((k : Nat))) ∧ w9.cell? ⟨w4.heap.size, 1, none⟩ = some (.int .i64 B) ∧ w9.cell? ⟨w4.heap.size, 2, none⟩ = some (.string z))) (by kernel_rfl) ?invb (fun h0 => ?_)
      case invb => ((try dsimp only); (exact ⟨B85.out.cell rfl, B85.out.cell rfl, B85.out.cell rfl, B84.out.cell rfl, B84.out.cell rfl, B84.out.cell rfl⟩))
      refine wpAnyH_take (i := 0) (oi := { dst := some 55, op := Go.Op.load 29 (Go.Operand.tmp 11), type := 29, pos := "law.go:37", after := #[], guard := none }) (v := ?vb1) rfl (by kernel_rfl) (by kernel_rfl) (by kernel_rfl) (fun _ _ _ h => h) (Or.inl ⟨by rfl, ?rb1⟩) (by assumption) ?_
      case rb1 => (intro w hSw; (try dsimp only at hSw); (go_simp <;> with_reducible rfl))
      try simp only [Act.put, List.setIfInBounds_toArray, List.set_cons_zero, List.set_cons_succ]
      refine wpAnyH_take (i := 1) (oi := { dst := some 56, op := Go.Op.move (Go.Operand.tmp 0), type := 24, pos := "law.go:37", after := #[], guard := none }) (v := ?vb2) rfl (by kernel_rfl) (by kernel_rfl) (by kernel_rfl) (fun _ _ _ h => h) (Or.inl ⟨by rfl, ?rb2⟩) (by assumption) ?_
      case rb2 => (intro w hSw; (try dsimp only at hSw); (go_simp <;> with_reducible rfl))
      try simp only [Act.put, List.setIfInBounds_toArray, List.set_cons_zero, List.set_cons_succ]
      refine wpAnyH_take (i := 2) (oi := { dst := some 57, op := Go.Op.load 50 (Go.Operand.tmp 10), type := 50, pos := "law.go:37", after := #[], guard := none }) (v := ?vb3) rfl (by kernel_rfl) (by kernel_rfl) (by kernel_rfl) (fun _ _ _ h => h) (Or.inl ⟨by rfl, ?rb3⟩) (by assumption) ?_
      case rb3 => (intro w hSw; (try dsimp only at hSw); (go_simp <;> with_reducible rfl))
      try simp only [Act.put, List.setIfInBounds_toArray, List.set_cons_zero, List.set_cons_succ]
      refine wpAnyH_take (i := 4) (oi := { dst := some 59, op := Go.Op.move (Go.Operand.tmp 12), type := 4, pos := "law.go:37", after := #[{ on := 6, ground := Go.Ground.gcOnly Go.Departure.lateStores }], guard := none }) (v := ?vb4) rfl (by kernel_rfl) (by kernel_rfl) (by kernel_rfl) (fun _ _ _ h => h) (Or.inl ⟨by rfl, ?rb4⟩) (by assumption) ?_
      case rb4 => (intro w hSw; (try dsimp only at hSw); (go_simp <;> with_reducible rfl))
      try simp only [Act.put, List.setIfInBounds_toArray, List.set_cons_zero, List.set_cons_succ]
      refine wpAnyH_ready (rs := [3]) (by kernel_rfl) (by simp) ?_
      refine AllReadyH.cons (o := { dst := some 58, op := Go.Op.call { callee := Go.Callee.value (Go.Operand.func 9), args := #[Go.Operand.tmp 56, Go.Operand.tmp 57], argTypes := #[24, 39] }, type := 4, pos := "law.go:37", after := #[{ on := 1, ground := Go.Ground.data }, { on := 2, ground := Go.Ground.data }], guard := none }) rfl (fun K hK => ?_) AllReadyH.nil
      go_simp
      (go_at_call 9; refine (nsend_any ⟨((k : Nat)), B, z⟩ _ QP8.out.is HZZ.out).mono ?_; rintro e w9 ⟨rfl, v9, h9, hf9, hv9⟩; rw [HZ.out] at h9 ⊢; simp only at h9; have QP9 := Lib.hid (QP8.out.net h9 hf9 hv9); have O90 := Lib.hid (O80.out.net hf9 hv9); have B90 := Lib.hid (B80.out.far hf9 O80.out.sd.1 O80.out.sd.2); have O91 := Lib.hid (O81.out.net hf9 hv9); have B91 := Lib.hid (B81.out.far hf9 O81.out.sd.1 O81.out.sd.2); have O92 := Lib.hid (O82.out.net hf9 hv9); have B92 := Lib.hid (B82.out.far hf9 O82.out.sd.1 O82.out.sd.2); have O93 := Lib.hid (O83.out.net hf9 hv9); have B93 := Lib.hid (B83.out.far hf9 O83.out.sd.1 O83.out.sd.2); have O94 := Lib.hid (O84.out.net hf9 hv9); have B94 := Lib.hid (B84.out.far hf9 O84.out.sd.1 O84.out.sd.2); have O95 := Lib.hid (O85.out.net hf9 hv9); have B95 := Lib.hid (B85.out.far hf9 O85.out.sd.1 O85.out.sd.2); have x20 := B92.out.cell (i := 0) rfl; have x21 := B92.out.cell (i := 1) rfl; have x22 := B92.out.cell (i := 2) rfl; have y20 := B92.out.free 0; have y21 := B92.out.free 1; have y22 := B92.out.free 2)
      first | refine hK.out _ _ ?sb5 (fun h5 => ?_) | (go_wp2_with fail; refine hK.out _ _ ?sb5 (fun h5 => ?_))
      case sb5 => ((try dsimp only); (first | exact ⟨(B95.out).cell rfl, (B95.out).cell rfl, (B95.out).cell rfl, (B94.out).cell rfl, (B94.out).cell rfl, (B94.out).cell rfl⟩ | exact ⟨(B95.out.apart3 (by omega) _ _ _).cell rfl, (B95.out.apart3 (by omega) _ _ _).cell rfl, (B95.out.apart3 (by omega) _ _ _).cell rfl, (B94.out.apart3 (by omega) _ _ _).cell rfl, (B94.out.apart3 (by omega) _ _ _).cell rfl, (B94.out.apart3 (by omega) _ _ _).cell rfl⟩))
      clear hK K h0
      try simp only [Act.put, List.setIfInBounds_toArray, List.set_cons_zero, List.set_cons_succ]
      refine wpAnyH_take (i := 5) (oi := { dst := some 60, op := Go.Op.binOp Go.BinOp.eql 4 (Go.Operand.tmp 58) (Go.Operand.tmp 59) 4, type := 4, pos := "law.go:37", after := #[{ on := 3, ground := Go.Ground.data }, { on := 4, ground := Go.Ground.data }, { on := 6, ground := Go.Ground.gcOnly Go.Departure.lateStores }], guard := none }) (v := ?vb6) rfl (by kernel_rfl) (by kernel_rfl) (by kernel_rfl) (fun _ _ _ h => h) (Or.inl ⟨by rfl, ?rb6⟩) (by assumption) ?_
      case rb6 => (intro w hSw; (try dsimp only at hSw); (go_simp <;> with_reducible rfl))
      try simp only [Act.put, List.setIfInBounds_toArray, List.set_cons_zero, List.set_cons_succ]
      refine wpAnyH_ready (rs := [6]) (by kernel_rfl) (by simp) ?_
      refine AllReadyH.cons (o := { dst := none, op := Go.Op.store 29 (Go.Operand.tmp 6) (Go.Operand.tmp 55), type := 0, pos := "law.go:37", after := #[{ on := 0, ground := Go.Ground.data }, { on := 3, ground := Go.Ground.chain }, { on := 0, ground := Go.Ground.phase }, { on := 1, ground := Go.Ground.textOnly Go.Departure.lateStores }, { on := 2, ground := Go.Ground.textOnly Go.Departure.lateStores }, { on := 3, ground := Go.Ground.textOnly Go.Departure.lateStoresUnsure }, { on := 4, ground := Go.Ground.textOnly Go.Departure.lateStores }, { on := 5, ground := Go.Ground.textOnly Go.Departure.lateStores }], guard := none }) rfl (fun K hK => ?_) AllReadyH.nil
      go_simp
      skip
      first | refine hK.out _ _ ?sb7 (fun h7 => ?_) | (go_wp2_with fail; refine hK.out _ _ ?sb7 (fun h7 => ?_))
      case sb7 => ((try dsimp only); (first | exact ⟨(B95.out).cell rfl, (B95.out).cell rfl, (B95.out).cell rfl, (B94.out).cell rfl, (B94.out).cell rfl, (B94.out).cell rfl⟩ | exact ⟨(B95.out.apart3 (by omega) _ _ _).cell rfl, (B95.out.apart3 (by omega) _ _ _).cell rfl, (B95.out.apart3 (by omega) _ _ _).cell rfl, (B94.out.apart3 (by omega) _ _ _).cell rfl, (B94.out.apart3 (by omega) _ _ _).cell rfl, (B94.out.apart3 (by omega) _ _ _).cell rfl⟩))
      clear hK K h5
      try simp only [Act.put, List.setIfInBounds_toArray, List.set_cons_zero, List.set_cons_succ]
      refine wpAnyH_take (i := 7) (oi := { dst := some 7, op := Go.Op.assign (Go.Operand.tmp 60), type := 4, pos := "law.go:37", after := #[{ on := 5, ground := Go.Ground.data }, { on := 6, ground := Go.Ground.chain }, { on := 0, ground := Go.Ground.phase }, { on := 1, ground := Go.Ground.phase }, { on := 2, ground := Go.Ground.phase }, { on := 3, ground := Go.Ground.phase }, { on := 4, ground := Go.Ground.phase }, { on := 5, ground := Go.Ground.phase }, { on := 6, ground := Go.Ground.phase }], guard := none }) (v := ?vb8) rfl (by kernel_rfl) (by kernel_rfl) (by kernel_rfl) (fun _ _ _ h => h) (Or.inl ⟨by rfl, ?rb8⟩) (by assumption) ?_
      case rb8 => (intro w hSw; (try dsimp only at hSw); (go_simp <;> with_reducible rfl))
      try simp only [Act.put, List.setIfInBounds_toArray, List.set_cons_zero, List.set_cons_succ]
      refine wpAnyH_done (by kernel_rfl) ?_ _
      clear h7
      go_wp2
      refine bodyPost_ret (v := .tuple #[.agg #[.int .i64 (Z.n : Nat), .slice la7 Z.L.length lc7, .slice ca7 M7.length cc7], .bool true]) (by simp [results, Try.results7, go_sem, x20, x21, x22, y20, y21, y22]; try rfl) rfl ?_
      exact ((QP9.out.put3 O92.out _ _ _).most (by omega)).does
  · have HT := Lib.hid (HTH.out.trans (decide_eq_false hth))
    clear HTH
    by_cases hA : 0 ≤ A
    · have hA2 : ¬ A < (ln : Int) := fun e => hth ⟨hA, e⟩
      clear hth
      have CU := Lib.hid (fun w => cut_any s 30 w hs (by decide))
      have hzl := cutB_le s 30
      generalize hz : cutB s 30 = z at *
      clear hz
      have HZZ : Hid ((⟨(A), B, z⟩ : P).s.size ≤ 1000000) := Lib.hid (show z.size ≤ 1000000 by omega)
      clear hzl
      go_enter Try.func7, Try.ntmps7
      go_wp2_with fail
      have CF := Lib.hid (chain_facts HP0.out #[.int .i64 (n : Nat), .slice la ln lc, .slice ca cm cc] #[.int .i64 0, .int .i64 A, .int .i64 B, .string s] #[.int .i64 0, .slice none 0 0, .slice none 0 0] #[.int .i64 0, .int .i64 0, .string ⟨#[]⟩] 29 34 29 50)
      obtain ⟨hp4, o0, o1, o2, o3, b0, b1, b2, b3⟩ := CF.out
      have HP4 := Lib.hid hp4
      have O40 := Lib.hid o0
      have B40 := Lib.hid b0
      have O41 := Lib.hid o1
      have B41 := Lib.hid b1
      have O42 := Lib.hid o2
      have B42 := Lib.hid b2
      have O43 := Lib.hid o3
      have B43 := Lib.hid b3
      clear CF hp4 o0 o1 o2 o3 b0 b1 b2 b3
      generalize ((((w.alloc (.cells #[.int .i64 (n : Nat), .slice la ln lc, .slice ca cm cc] 29)).alloc (.cells #[.int .i64 0, .int .i64 A, .int .i64 B, .string s] 34)).alloc (.cells #[.int .i64 0, .slice none 0 0, .slice none 0 0] 29)).alloc (.cells #[.int .i64 0, .int .i64 0, .string ⟨#[]⟩] 50)) = w4 at *
      have HP5 := Lib.hid (HP4.out.gr (((Gr.refl w4).alloc (.cells #[.int .i64 (A), .int .i64 B, .string z] 50)).drew))
      have O50 := Lib.hid (O40.out.gr (((Gr.refl w4).alloc (.cells #[.int .i64 (A), .int .i64 B, .string z] 50)).drew))
      have B50 := Lib.hid (B40.out.gr (((Gr.refl w4).alloc (.cells #[.int .i64 (A), .int .i64 B, .string z] 50)).drew))
      have O51 := Lib.hid (O41.out.gr (((Gr.refl w4).alloc (.cells #[.int .i64 (A), .int .i64 B, .string z] 50)).drew))
      have B51 := Lib.hid (B41.out.gr (((Gr.refl w4).alloc (.cells #[.int .i64 (A), .int .i64 B, .string z] 50)).drew))
      have O52 := Lib.hid (O42.out.gr (((Gr.refl w4).alloc (.cells #[.int .i64 (A), .int .i64 B, .string z] 50)).drew))
      have B52 := Lib.hid (B42.out.gr (((Gr.refl w4).alloc (.cells #[.int .i64 (A), .int .i64 B, .string z] 50)).drew))
      have O53 := Lib.hid (O43.out.gr (((Gr.refl w4).alloc (.cells #[.int .i64 (A), .int .i64 B, .string z] 50)).drew))
      have B53 := Lib.hid (B43.out.gr (((Gr.refl w4).alloc (.cells #[.int .i64 (A), .int .i64 B, .string z] 50)).drew))
      have o4 := (Own.new HP4.out (.cells #[.int .i64 (A), .int .i64 B, .string z] 50)).gr ((Gr.refl _).drew)
      have b4 := (Blk.new w4 #[.int .i64 (A), .int .i64 B, .string z] 50).gr ((Gr.refl _).drew)
      have O54 := Lib.hid o4
      have B54 := Lib.hid b4
      clear o4 b4
      have HX : Hid (∀ w0 w9 : World, Gr w0 w9 → (fun w9 => Gr w4 w9 ∧ w9.cell? ⟨w.heap.size + 1, 1, none⟩ = some (.int .i64 (A)) ∧ w9.cell? ⟨w.heap.size + 1, 2, none⟩ = some (.int .i64 B) ∧ w9.cell? ⟨w.heap.size + 1, 3, none⟩ = some (.string s)) w0 → (fun w9 => Gr w4 w9 ∧ w9.cell? ⟨w.heap.size + 1, 1, none⟩ = some (.int .i64 (A)) ∧ w9.cell? ⟨w.heap.size + 1, 2, none⟩ = some (.int .i64 B) ∧ w9.cell? ⟨w.heap.size + 1, 3, none⟩ = some (.string s)) w9) := Lib.hid fun w0 w9 hg ⟨h, q1, q2, q3⟩ => ⟨h.trans hg, hg.cell q1, hg.cell q2, hg.cell q3⟩
      have HS0 : (fun w9 => Gr w4 w9 ∧ w9.cell? ⟨w.heap.size + 1, 1, none⟩ = some (.int .i64 (A)) ∧ w9.cell? ⟨w.heap.size + 1, 2, none⟩ = some (.int .i64 B) ∧ w9.cell? ⟨w.heap.size + 1, 3, none⟩ = some (.string s)) w4 := ⟨Gr.refl _, B41.out.cell rfl, B41.out.cell rfl, B41.out.cell rfl⟩
      apply cutS (fun w9 => w9 = (w4.alloc (.cells #[.int .i64 (A), .int .i64 B, .string z] 50)).drew)
      case main =>
        intro HL2
        refine wp_region_held_drew (S := (fun w9 => Gr w4 w9 ∧ w9.cell? ⟨w.heap.size + 1, 1, none⟩ = some (.int .i64 (A)) ∧ w9.cell? ⟨w.heap.size + 1, 2, none⟩ = some (.int .i64 B) ∧ w9.cell? ⟨w.heap.size + 1, 3, none⟩ = some (.string s))) (by kernel_rfl) ?invc (fun h0 => ?_)
        case invc => ((try dsimp only); (exact HX.out _ _ ((Gr.refl _).drew) HS0))
        refine wpAnyH_take (i := 0) (oi := { dst := some 41, op := Go.Op.fieldAddr 34 (Go.Operand.tmp 5) 1, type := 0, pos := "law.go:35", after := #[], guard := none }) (v := ?vc1) rfl (by kernel_rfl) (by kernel_rfl) (by kernel_rfl) (fun _ _ _ h => h) (Or.inl ⟨by rfl, ?rc1⟩) (by assumption) ?_
        case rc1 => (intro w hSw; (try dsimp only at hSw); (go_simp <;> with_reducible rfl))
        try simp only [Act.put, List.setIfInBounds_toArray, List.set_cons_zero, List.set_cons_succ]
        refine wpAnyH_take (i := 1) (oi := { dst := some 42, op := Go.Op.load 3 (Go.Operand.tmp 41), type := 3, pos := "law.go:35", after := #[{ on := 0, ground := Go.Ground.data }], guard := none }) (v := ?vc2) rfl (by kernel_rfl) (by kernel_rfl) (by kernel_rfl) (fun _ _ _ h => h) (Or.inl ⟨by rfl, ?rc2⟩) (by assumption) ?_
        case rc2 => (intro w hSw; (try dsimp only at hSw); (go_simp <;> with_reducible rfl))
        try simp only [Act.put, List.setIfInBounds_toArray, List.set_cons_zero, List.set_cons_succ]
        refine wpAnyH_take (i := 2) (oi := { dst := some 43, op := Go.Op.fieldAddr 34 (Go.Operand.tmp 5) 2, type := 0, pos := "law.go:35", after := #[], guard := none }) (v := ?vc3) rfl (by kernel_rfl) (by kernel_rfl) (by kernel_rfl) (fun _ _ _ h => h) (Or.inl ⟨by rfl, ?rc3⟩) (by assumption) ?_
        case rc3 => (intro w hSw; (try dsimp only at hSw); (go_simp <;> with_reducible rfl))
        try simp only [Act.put, List.setIfInBounds_toArray, List.set_cons_zero, List.set_cons_succ]
        refine wpAnyH_take (i := 3) (oi := { dst := some 44, op := Go.Op.load 3 (Go.Operand.tmp 43), type := 3, pos := "law.go:35", after := #[{ on := 2, ground := Go.Ground.data }], guard := none }) (v := ?vc4) rfl (by kernel_rfl) (by kernel_rfl) (by kernel_rfl) (fun _ _ _ h => h) (Or.inl ⟨by rfl, ?rc4⟩) (by assumption) ?_
        case rc4 => (intro w hSw; (try dsimp only at hSw); (go_simp <;> with_reducible rfl))
        try simp only [Act.put, List.setIfInBounds_toArray, List.set_cons_zero, List.set_cons_succ]
        refine wpAnyH_take (i := 4) (oi := { dst := some 45, op := Go.Op.fieldAddr 34 (Go.Operand.tmp 5) 3, type := 0, pos := "law.go:35", after := #[], guard := none }) (v := ?vc5) rfl (by kernel_rfl) (by kernel_rfl) (by kernel_rfl) (fun _ _ _ h => h) (Or.inl ⟨by rfl, ?rc5⟩) (by assumption) ?_
        case rc5 => (intro w hSw; (try dsimp only at hSw); (go_simp <;> with_reducible rfl))
        try simp only [Act.put, List.setIfInBounds_toArray, List.set_cons_zero, List.set_cons_succ]
        refine wpAnyH_take (i := 5) (oi := { dst := some 46, op := Go.Op.load 9 (Go.Operand.tmp 45), type := 9, pos := "law.go:35", after := #[{ on := 4, ground := Go.Ground.data }], guard := none }) (v := ?vc6) rfl (by kernel_rfl) (by kernel_rfl) (by kernel_rfl) (fun _ _ _ h => h) (Or.inl ⟨by rfl, ?rc6⟩) (by assumption) ?_
        case rc6 => (intro w hSw; (try dsimp only at hSw); (go_simp <;> with_reducible rfl))
        try simp only [Act.put, List.setIfInBounds_toArray, List.set_cons_zero, List.set_cons_succ]
        refine wpAnyH_ready (rs := [6, 8]) (by kernel_rfl) (by simp) ?_
        refine AllReadyH.cons (o := { dst := some 47, op := Go.Op.call { callee := Go.Callee.value (Go.Operand.func 14), args := #[Go.Operand.tmp 46, Go.Operand.const (Go.Value.int Go.IntKind.i64 30)], argTypes := #[9, 3] }, type := 9, pos := "law.go:35", after := #[{ on := 5, ground := Go.Ground.data }], guard := none }) rfl (fun K hK => ?_) (AllReadyH.cons (o := { dst := some 10, op := Go.Op.alloc 50, type := 0, pos := "law.go:35", after := #[], guard := none }) rfl (fun K hK => ?_) AllReadyH.nil)
        · skip
          go_simp
          (go_at_call 14; refine (CU.out _).mono ?_; rintro e w9 ⟨rfl, rfl⟩)
          first | refine hK.out _ _ ?sc7 (fun h7 => ?_) | (go_wp2_with fail; refine hK.out _ _ ?sc7 (fun h7 => ?_))
          case sc7 => ((try dsimp only); (first | exact h0 | exact HX.out _ _ (((Gr.refl _).drew).alloc _) HS0 | exact HX.out _ _ (((Gr.refl _).alloc _).drew) HS0))
          clear hK K h0
          try simp only [Act.put, List.setIfInBounds_toArray, List.set_cons_zero, List.set_cons_succ]
          refine wpAnyH_take (i := 7) (oi := { dst := some 48, op := Go.Op.build 50 #[(0, Go.Operand.tmp 42), (1, Go.Operand.tmp 44), (2, Go.Operand.tmp 47)], type := 50, pos := "law.go:35", after := #[{ on := 1, ground := Go.Ground.data }, { on := 3, ground := Go.Ground.data }, { on := 6, ground := Go.Ground.data }], guard := none }) (v := ?vc8) rfl (by kernel_rfl) (by kernel_rfl) (by kernel_rfl) (fun _ _ _ h => h) (Or.inl ⟨by rfl, ?rc8⟩) (by assumption) ?_
          case rc8 => (intro w hSw; (try dsimp only at hSw); (go_simp <;> with_reducible rfl))
          try simp only [Act.put, List.setIfInBounds_toArray, List.set_cons_zero, List.set_cons_succ]
          refine wpAnyH_ready (rs := [8]) (by kernel_rfl) (by simp) ?_
          refine AllReadyH.cons (o := { dst := some 10, op := Go.Op.alloc 50, type := 0, pos := "law.go:35", after := #[], guard := none }) rfl (fun K hK => ?_) AllReadyH.nil
          go_simp
          skip
          first | refine hK.out _ _ ?sc9 (fun h9 => ?_) | (go_wp2_with fail; refine hK.out _ _ ?sc9 (fun h9 => ?_))
          case sc9 => ((try dsimp only); (first | exact h7 | exact HX.out _ _ (((Gr.refl _).drew).alloc _) HS0 | exact HX.out _ _ (((Gr.refl _).alloc _).drew) HS0))
          clear hK K h7
          try simp only [Act.put, List.setIfInBounds_toArray, List.set_cons_zero, List.set_cons_succ]
          refine wpAnyH_ready (rs := [9]) (by kernel_rfl) (by simp) ?_
          refine AllReadyH.cons (o := { dst := none, op := Go.Op.store 50 (Go.Operand.tmp 10) (Go.Operand.tmp 48), type := 0, pos := "law.go:35", after := #[{ on := 8, ground := Go.Ground.data }, { on := 7, ground := Go.Ground.data }, { on := 6, ground := Go.Ground.chain }, { on := 0, ground := Go.Ground.phase }, { on := 1, ground := Go.Ground.phase }, { on := 2, ground := Go.Ground.phase }, { on := 3, ground := Go.Ground.phase }, { on := 4, ground := Go.Ground.phase }, { on := 5, ground := Go.Ground.phase }, { on := 6, ground := Go.Ground.phase }, { on := 7, ground := Go.Ground.phase }, { on := 8, ground := Go.Ground.phase }], guard := none }) rfl (fun K hK => ?_) AllReadyH.nil
          go_simp
          skip
          first | refine hK.out _ _ ?sc10 (fun h10 => ?_) | (go_wp2_with fail; refine hK.out _ _ ?sc10 (fun h10 => ?_))
          case sc10 => ((try dsimp only); (first | exact h9 | exact HX.out _ _ (((Gr.refl _).drew).alloc _) HS0 | exact HX.out _ _ (((Gr.refl _).alloc _).drew) HS0))
          clear hK K h9
          try simp only [Act.put, List.setIfInBounds_toArray, List.set_cons_zero, List.set_cons_succ]
          refine wpAnyH_done (by kernel_rfl) ?_ _
          exact HL2 _ rfl
        · skip
          go_simp
          skip
          first | refine hK.out _ _ ?sc11 (fun h11 => ?_) | (go_wp2_with fail; refine hK.out _ _ ?sc11 (fun h11 => ?_))
          case sc11 => ((try dsimp only); (first | exact h0 | exact HX.out _ _ (((Gr.refl _).drew).alloc _) HS0 | exact HX.out _ _ (((Gr.refl _).alloc _).drew) HS0))
          clear hK K h0
          try simp only [Act.put, List.setIfInBounds_toArray, List.set_cons_zero, List.set_cons_succ]
          refine wpAnyH_ready (rs := [6]) (by kernel_rfl) (by simp) ?_
          refine AllReadyH.cons (o := { dst := some 47, op := Go.Op.call { callee := Go.Callee.value (Go.Operand.func 14), args := #[Go.Operand.tmp 46, Go.Operand.const (Go.Value.int Go.IntKind.i64 30)], argTypes := #[9, 3] }, type := 9, pos := "law.go:35", after := #[{ on := 5, ground := Go.Ground.data }], guard := none }) rfl (fun K hK => ?_) AllReadyH.nil
          go_simp
          (go_at_call 14; refine (CU.out _).mono ?_; rintro e w9 ⟨rfl, rfl⟩)
          first | refine hK.out _ _ ?sc12 (fun h12 => ?_) | (go_wp2_with fail; refine hK.out _ _ ?sc12 (fun h12 => ?_))
          case sc12 => ((try dsimp only); (first | exact h11 | exact HX.out _ _ (((Gr.refl _).drew).alloc _) HS0 | exact HX.out _ _ (((Gr.refl _).alloc _).drew) HS0))
          clear hK K h11
          try simp only [Act.put, List.setIfInBounds_toArray, List.set_cons_zero, List.set_cons_succ]
          refine wpAnyH_take (i := 7) (oi := { dst := some 48, op := Go.Op.build 50 #[(0, Go.Operand.tmp 42), (1, Go.Operand.tmp 44), (2, Go.Operand.tmp 47)], type := 50, pos := "law.go:35", after := #[{ on := 1, ground := Go.Ground.data }, { on := 3, ground := Go.Ground.data }, { on := 6, ground := Go.Ground.data }], guard := none }) (v := ?vc13) rfl (by kernel_rfl) (by kernel_rfl) (by kernel_rfl) (fun _ _ _ h => h) (Or.inl ⟨by rfl, ?rc13⟩) (by assumption) ?_
          case rc13 => (intro w hSw; (try dsimp only at hSw); (go_simp <;> with_reducible rfl))
          try simp only [Act.put, List.setIfInBounds_toArray, List.set_cons_zero, List.set_cons_succ]
          refine wpAnyH_ready (rs := [9]) (by kernel_rfl) (by simp) ?_
          refine AllReadyH.cons (o := { dst := none, op := Go.Op.store 50 (Go.Operand.tmp 10) (Go.Operand.tmp 48), type := 0, pos := "law.go:35", after := #[{ on := 8, ground := Go.Ground.data }, { on := 7, ground := Go.Ground.data }, { on := 6, ground := Go.Ground.chain }, { on := 0, ground := Go.Ground.phase }, { on := 1, ground := Go.Ground.phase }, { on := 2, ground := Go.Ground.phase }, { on := 3, ground := Go.Ground.phase }, { on := 4, ground := Go.Ground.phase }, { on := 5, ground := Go.Ground.phase }, { on := 6, ground := Go.Ground.phase }, { on := 7, ground := Go.Ground.phase }, { on := 8, ground := Go.Ground.phase }], guard := none }) rfl (fun K hK => ?_) AllReadyH.nil
          go_simp
          skip
          first | refine hK.out _ _ ?sc14 (fun h14 => ?_) | (go_wp2_with fail; refine hK.out _ _ ?sc14 (fun h14 => ?_))
          case sc14 => ((try dsimp only); (first | exact h12 | exact HX.out _ _ (((Gr.refl _).drew).alloc _) HS0 | exact HX.out _ _ (((Gr.refl _).alloc _).drew) HS0))
          clear hK K h12
          try simp only [Act.put, List.setIfInBounds_toArray, List.set_cons_zero, List.set_cons_succ]
          refine wpAnyH_done (by kernel_rfl) ?_ _
          exact HL2 _ rfl
      case rest =>
        intro wy hwy
        generalize (w4.alloc (.cells #[.int .i64 (A), .int .i64 B, .string z] 50)).drew = w5 at *
        subst hwy
        clear HX HS0
        have x00 := B50.out.cell (i := 0) rfl
        have x01 := B50.out.cell (i := 1) rfl
        have x02 := B50.out.cell (i := 2) rfl
        have z0 := B54.out.cell (i := 0) rfl
        have z1 := B54.out.cell (i := 1) rfl
        have z2 := B54.out.cell (i := 2) rfl
        go_wp2_with fail
        refine (refSend_any ⟨(A), B, z⟩ _ HP5.out.rf HZZ.out).mono ?_
        rintro e w6 ⟨rv6, rfl, hr6, hg6, hn6⟩
        generalize hZ : Nt.send x ⟨(A), B, z⟩ = ZQ at *
        obtain ⟨Z, q⟩ := ZQ
        have HZ := Lib.hid hZ
        clear hZ
        simp only at *
        have HP6 := Lib.hid (HP5.out.ref hr6 hg6 hn6)
        have O60 := Lib.hid (O50.out.ref hg6 hn6)
        have B60 := Lib.hid (B50.out.gr hg6)
        have O61 := Lib.hid (O51.out.ref hg6 hn6)
        have B61 := Lib.hid (B51.out.gr hg6)
        have O62 := Lib.hid (O52.out.ref hg6 hn6)
        have B62 := Lib.hid (B52.out.gr hg6)
        have O63 := Lib.hid (O53.out.ref hg6 hn6)
        have B63 := Lib.hid (B53.out.gr hg6)
        have O64 := Lib.hid (O54.out.ref hg6 hn6)
        have B64 := Lib.hid (B54.out.gr hg6)
        clear hr6 hg6 hn6 x00 x01 x02 z0 z1 z2
        have hform := HP6.out.rf
        obtain ⟨⟨l7, c7, M7, hrv, g2, g3, _, _⟩, _⟩ := hform
        obtain ⟨la7, lc7, rfl, _⟩ := g2
        obtain ⟨ca7, cc7, rfl, _⟩ := g3
        subst hrv
        have HP7 := Lib.hid (HP6.out.gr ((Gr.refl w6).alloc (.cells #[.int .i64 (Z.n : Nat), .slice la7 Z.L.length lc7, .slice ca7 M7.length cc7] 29)))
        have O70 := Lib.hid (O60.out.gr ((Gr.refl w6).alloc (.cells #[.int .i64 (Z.n : Nat), .slice la7 Z.L.length lc7, .slice ca7 M7.length cc7] 29)))
        have B70 := Lib.hid (B60.out.gr ((Gr.refl w6).alloc (.cells #[.int .i64 (Z.n : Nat), .slice la7 Z.L.length lc7, .slice ca7 M7.length cc7] 29)))
        have O71 := Lib.hid (O61.out.gr ((Gr.refl w6).alloc (.cells #[.int .i64 (Z.n : Nat), .slice la7 Z.L.length lc7, .slice ca7 M7.length cc7] 29)))
        have B71 := Lib.hid (B61.out.gr ((Gr.refl w6).alloc (.cells #[.int .i64 (Z.n : Nat), .slice la7 Z.L.length lc7, .slice ca7 M7.length cc7] 29)))
        have O72 := Lib.hid (O62.out.gr ((Gr.refl w6).alloc (.cells #[.int .i64 (Z.n : Nat), .slice la7 Z.L.length lc7, .slice ca7 M7.length cc7] 29)))
        have B72 := Lib.hid (B62.out.gr ((Gr.refl w6).alloc (.cells #[.int .i64 (Z.n : Nat), .slice la7 Z.L.length lc7, .slice ca7 M7.length cc7] 29)))
        have O73 := Lib.hid (O63.out.gr ((Gr.refl w6).alloc (.cells #[.int .i64 (Z.n : Nat), .slice la7 Z.L.length lc7, .slice ca7 M7.length cc7] 29)))
        have B73 := Lib.hid (B63.out.gr ((Gr.refl w6).alloc (.cells #[.int .i64 (Z.n : Nat), .slice la7 Z.L.length lc7, .slice ca7 M7.length cc7] 29)))
        have O74 := Lib.hid (O64.out.gr ((Gr.refl w6).alloc (.cells #[.int .i64 (Z.n : Nat), .slice la7 Z.L.length lc7, .slice ca7 M7.length cc7] 29)))
        have B74 := Lib.hid (B64.out.gr ((Gr.refl w6).alloc (.cells #[.int .i64 (Z.n : Nat), .slice la7 Z.L.length lc7, .slice ca7 M7.length cc7] 29)))
        have O75 := Lib.hid (Own.new HP6.out (.cells #[.int .i64 (Z.n : Nat), .slice la7 Z.L.length lc7, .slice ca7 M7.length cc7] 29))
        have B75 := Lib.hid (Blk.new w6 #[.int .i64 (Z.n : Nat), .slice la7 Z.L.length lc7, .slice ca7 M7.length cc7] 29)
        go_wp2_with fail
        generalize hn5 : w6.heap.size = n5 at *
        generalize w6.alloc (.cells #[.int .i64 (Z.n : Nat), .slice la7 Z.L.length lc7, .slice ca7 M7.length cc7] 29) = w7 at *
        have HP8 := Lib.hid (HP7.out.gr (Gr.refl _).drew)
        have O80 := Lib.hid (O70.out.gr (Gr.refl _).drew)
        have B80 := Lib.hid (B70.out.gr (Gr.refl _).drew)
        have O81 := Lib.hid (O71.out.gr (Gr.refl _).drew)
        have B81 := Lib.hid (B71.out.gr (Gr.refl _).drew)
        have O82 := Lib.hid (O72.out.gr (Gr.refl _).drew)
        have B82 := Lib.hid (B72.out.gr (Gr.refl _).drew)
        have O83 := Lib.hid (O73.out.gr (Gr.refl _).drew)
        have B83 := Lib.hid (B73.out.gr (Gr.refl _).drew)
        have O84 := Lib.hid (O74.out.gr (Gr.refl _).drew)
        have B84 := Lib.hid (B74.out.gr (Gr.refl _).drew)
        have O85 := Lib.hid (O75.out.gr (Gr.refl _).drew)
        have B85 := Lib.hid (B75.out.gr (Gr.refl _).drew)
        have QP8 := HP8
        have hlt4 := O84.out.lo
        have hlt5 := O85.out.lo
        have hl4 := O42.out.lt
        have hl6 := O62.out.lt
        have hne4 : w4.heap.size ≠ w.heap.size + 1 + 1 := fun e => by omega
        have hne5 : n5 ≠ w.heap.size + 1 + 1 := fun e => by omega
        refine wp_region_held_drew (S := (fun w9 => w9.cell? ⟨n5, 0, none⟩ = some (.int .i64 (Z.n : Nat)) ∧ w9.cell? ⟨n5, 1, none⟩ = some (.slice la7 Z.L.length lc7) ∧ w9.cell? ⟨n5, 2, none⟩ = some (.slice ca7 M7.length cc7) ∧ w9.cell? ⟨w4.heap.size, 0, none⟩ = some (.int .i64 (A)) ∧ w9.cell? ⟨w4.heap.size, 1, none⟩ = some (.int .i64 B) ∧ w9.cell? ⟨w4.heap.size, 2, none⟩ = some (.string z))) (by kernel_rfl) ?invd (fun h0 => ?_)
        case invd => ((try dsimp only); (exact ⟨B85.out.cell rfl, B85.out.cell rfl, B85.out.cell rfl, B84.out.cell rfl, B84.out.cell rfl, B84.out.cell rfl⟩))
        refine wpAnyH_take (i := 0) (oi := { dst := some 55, op := Go.Op.load 29 (Go.Operand.tmp 11), type := 29, pos := "law.go:37", after := #[], guard := none }) (v := ?vd1) rfl (by kernel_rfl) (by kernel_rfl) (by kernel_rfl) (fun _ _ _ h => h) (Or.inl ⟨by rfl, ?rd1⟩) (by assumption) ?_
        case rd1 => (intro w hSw; (try dsimp only at hSw); (go_simp <;> with_reducible rfl))
        try simp only [Act.put, List.setIfInBounds_toArray, List.set_cons_zero, List.set_cons_succ]
        refine wpAnyH_take (i := 1) (oi := { dst := some 56, op := Go.Op.move (Go.Operand.tmp 0), type := 24, pos := "law.go:37", after := #[], guard := none }) (v := ?vd2) rfl (by kernel_rfl) (by kernel_rfl) (by kernel_rfl) (fun _ _ _ h => h) (Or.inl ⟨by rfl, ?rd2⟩) (by assumption) ?_
        case rd2 => (intro w hSw; (try dsimp only at hSw); (go_simp <;> with_reducible rfl))
        try simp only [Act.put, List.setIfInBounds_toArray, List.set_cons_zero, List.set_cons_succ]
        refine wpAnyH_take (i := 2) (oi := { dst := some 57, op := Go.Op.load 50 (Go.Operand.tmp 10), type := 50, pos := "law.go:37", after := #[], guard := none }) (v := ?vd3) rfl (by kernel_rfl) (by kernel_rfl) (by kernel_rfl) (fun _ _ _ h => h) (Or.inl ⟨by rfl, ?rd3⟩) (by assumption) ?_
        case rd3 => (intro w hSw; (try dsimp only at hSw); (go_simp <;> with_reducible rfl))
        try simp only [Act.put, List.setIfInBounds_toArray, List.set_cons_zero, List.set_cons_succ]
        refine wpAnyH_take (i := 4) (oi := { dst := some 59, op := Go.Op.move (Go.Operand.tmp 12), type := 4, pos := "law.go:37", after := #[{ on := 6, ground := Go.Ground.gcOnly Go.Departure.lateStores }], guard := none }) (v := ?vd4) rfl (by kernel_rfl) (by kernel_rfl) (by kernel_rfl) (fun _ _ _ h => h) (Or.inl ⟨by rfl, ?rd4⟩) (by assumption) ?_
        case rd4 => (intro w hSw; (try dsimp only at hSw); (go_simp <;> with_reducible rfl))
        try simp only [Act.put, List.setIfInBounds_toArray, List.set_cons_zero, List.set_cons_succ]
        refine wpAnyH_ready (rs := [3]) (by kernel_rfl) (by simp) ?_
        refine AllReadyH.cons (o := { dst := some 58, op := Go.Op.call { callee := Go.Callee.value (Go.Operand.func 9), args := #[Go.Operand.tmp 56, Go.Operand.tmp 57], argTypes := #[24, 39] }, type := 4, pos := "law.go:37", after := #[{ on := 1, ground := Go.Ground.data }, { on := 2, ground := Go.Ground.data }], guard := none }) rfl (fun K hK => ?_) AllReadyH.nil
        go_simp
        (go_at_call 9; refine (nsend_any ⟨(A), B, z⟩ _ QP8.out.is HZZ.out).mono ?_; rintro e w9 ⟨rfl, v9, h9, hf9, hv9⟩; rw [HZ.out] at h9 ⊢; simp only at h9; have QP9 := Lib.hid (QP8.out.net h9 hf9 hv9); have O90 := Lib.hid (O80.out.net hf9 hv9); have B90 := Lib.hid (B80.out.far hf9 O80.out.sd.1 O80.out.sd.2); have O91 := Lib.hid (O81.out.net hf9 hv9); have B91 := Lib.hid (B81.out.far hf9 O81.out.sd.1 O81.out.sd.2); have O92 := Lib.hid (O82.out.net hf9 hv9); have B92 := Lib.hid (B82.out.far hf9 O82.out.sd.1 O82.out.sd.2); have O93 := Lib.hid (O83.out.net hf9 hv9); have B93 := Lib.hid (B83.out.far hf9 O83.out.sd.1 O83.out.sd.2); have O94 := Lib.hid (O84.out.net hf9 hv9); have B94 := Lib.hid (B84.out.far hf9 O84.out.sd.1 O84.out.sd.2); have O95 := Lib.hid (O85.out.net hf9 hv9); have B95 := Lib.hid (B85.out.far hf9 O85.out.sd.1 O85.out.sd.2); have x20 := B92.out.cell (i := 0) rfl; have x21 := B92.out.cell (i := 1) rfl; have x22 := B92.out.cell (i := 2) rfl; have y20 := B92.out.free 0; have y21 := B92.out.free 1; have y22 := B92.out.free 2)
        first | refine hK.out _ _ ?sd5 (fun h5 => ?_) | (go_wp2_with fail; refine hK.out _ _ ?sd5 (fun h5 => ?_))
        case sd5 => ((try dsimp only); (first | exact ⟨(B95.out).cell rfl, (B95.out).cell rfl, (B95.out).cell rfl, (B94.out).cell rfl, (B94.out).cell rfl, (B94.out).cell rfl⟩ | exact ⟨(B95.out.apart3 (by omega) _ _ _).cell rfl, (B95.out.apart3 (by omega) _ _ _).cell rfl, (B95.out.apart3 (by omega) _ _ _).cell rfl, (B94.out.apart3 (by omega) _ _ _).cell rfl, (B94.out.apart3 (by omega) _ _ _).cell rfl, (B94.out.apart3 (by omega) _ _ _).cell rfl⟩))
        clear hK K h0
        try simp only [Act.put, List.setIfInBounds_toArray, List.set_cons_zero, List.set_cons_succ]
        refine wpAnyH_take (i := 5) (oi := { dst := some 60, op := Go.Op.binOp Go.BinOp.eql 4 (Go.Operand.tmp 58) (Go.Operand.tmp 59) 4, type := 4, pos := "law.go:37", after := #[{ on := 3, ground := Go.Ground.data }, { on := 4, ground := Go.Ground.data }, { on := 6, ground := Go.Ground.gcOnly Go.Departure.lateStores }], guard := none }) (v := ?vd6) rfl (by kernel_rfl) (by kernel_rfl) (by kernel_rfl) (fun _ _ _ h => h) (Or.inl ⟨by rfl, ?rd6⟩) (by assumption) ?_
        case rd6 => (intro w hSw; (try dsimp only at hSw); (go_simp <;> with_reducible rfl))
        try simp only [Act.put, List.setIfInBounds_toArray, List.set_cons_zero, List.set_cons_succ]
        refine wpAnyH_ready (rs := [6]) (by kernel_rfl) (by simp) ?_
        refine AllReadyH.cons (o := { dst := none, op := Go.Op.store 29 (Go.Operand.tmp 6) (Go.Operand.tmp 55), type := 0, pos := "law.go:37", after := #[{ on := 0, ground := Go.Ground.data }, { on := 3, ground := Go.Ground.chain }, { on := 0, ground := Go.Ground.phase }, { on := 1, ground := Go.Ground.textOnly Go.Departure.lateStores }, { on := 2, ground := Go.Ground.textOnly Go.Departure.lateStores }, { on := 3, ground := Go.Ground.textOnly Go.Departure.lateStoresUnsure }, { on := 4, ground := Go.Ground.textOnly Go.Departure.lateStores }, { on := 5, ground := Go.Ground.textOnly Go.Departure.lateStores }], guard := none }) rfl (fun K hK => ?_) AllReadyH.nil
        go_simp
        skip
        first | refine hK.out _ _ ?sd7 (fun h7 => ?_) | (go_wp2_with fail; refine hK.out _ _ ?sd7 (fun h7 => ?_))
        case sd7 => ((try dsimp only); (first | exact ⟨(B95.out).cell rfl, (B95.out).cell rfl, (B95.out).cell rfl, (B94.out).cell rfl, (B94.out).cell rfl, (B94.out).cell rfl⟩ | exact ⟨(B95.out.apart3 (by omega) _ _ _).cell rfl, (B95.out.apart3 (by omega) _ _ _).cell rfl, (B95.out.apart3 (by omega) _ _ _).cell rfl, (B94.out.apart3 (by omega) _ _ _).cell rfl, (B94.out.apart3 (by omega) _ _ _).cell rfl, (B94.out.apart3 (by omega) _ _ _).cell rfl⟩))
        clear hK K h5
        try simp only [Act.put, List.setIfInBounds_toArray, List.set_cons_zero, List.set_cons_succ]
        refine wpAnyH_take (i := 7) (oi := { dst := some 7, op := Go.Op.assign (Go.Operand.tmp 60), type := 4, pos := "law.go:37", after := #[{ on := 5, ground := Go.Ground.data }, { on := 6, ground := Go.Ground.chain }, { on := 0, ground := Go.Ground.phase }, { on := 1, ground := Go.Ground.phase }, { on := 2, ground := Go.Ground.phase }, { on := 3, ground := Go.Ground.phase }, { on := 4, ground := Go.Ground.phase }, { on := 5, ground := Go.Ground.phase }, { on := 6, ground := Go.Ground.phase }], guard := none }) (v := ?vd8) rfl (by kernel_rfl) (by kernel_rfl) (by kernel_rfl) (fun _ _ _ h => h) (Or.inl ⟨by rfl, ?rd8⟩) (by assumption) ?_
        case rd8 => (intro w hSw; (try dsimp only at hSw); (go_simp <;> with_reducible rfl))
        try simp only [Act.put, List.setIfInBounds_toArray, List.set_cons_zero, List.set_cons_succ]
        refine wpAnyH_done (by kernel_rfl) ?_ _
        clear h7
        go_wp2
        refine bodyPost_ret (v := .tuple #[.agg #[.int .i64 (Z.n : Nat), .slice la7 Z.L.length lc7, .slice ca7 M7.length cc7], .bool true]) (by simp [results, Try.results7, go_sem, x20, x21, x22, y20, y21, y22]; try rfl) rfl ?_
        exact ((QP9.out.put3 O92.out _ _ _).most (by omega)).does
    · clear hth
      have CU := Lib.hid (fun w => cut_any s 30 w hs (by decide))
      have hzl := cutB_le s 30
      generalize hz : cutB s 30 = z at *
      clear hz
      have HZZ : Hid ((⟨(A), B, z⟩ : P).s.size ≤ 1000000) := Lib.hid (show z.size ≤ 1000000 by omega)
      clear hzl
      go_enter Try.func7, Try.ntmps7
      go_wp2_with fail
      have CF := Lib.hid (chain_facts HP0.out #[.int .i64 (n : Nat), .slice la ln lc, .slice ca cm cc] #[.int .i64 0, .int .i64 A, .int .i64 B, .string s] #[.int .i64 0, .slice none 0 0, .slice none 0 0] #[.int .i64 0, .int .i64 0, .string ⟨#[]⟩] 29 34 29 50)
      obtain ⟨hp4, o0, o1, o2, o3, b0, b1, b2, b3⟩ := CF.out
      have HP4 := Lib.hid hp4
      have O40 := Lib.hid o0
      have B40 := Lib.hid b0
      have O41 := Lib.hid o1
      have B41 := Lib.hid b1
      have O42 := Lib.hid o2
      have B42 := Lib.hid b2
      have O43 := Lib.hid o3
      have B43 := Lib.hid b3
      clear CF hp4 o0 o1 o2 o3 b0 b1 b2 b3
      generalize ((((w.alloc (.cells #[.int .i64 (n : Nat), .slice la ln lc, .slice ca cm cc] 29)).alloc (.cells #[.int .i64 0, .int .i64 A, .int .i64 B, .string s] 34)).alloc (.cells #[.int .i64 0, .slice none 0 0, .slice none 0 0] 29)).alloc (.cells #[.int .i64 0, .int .i64 0, .string ⟨#[]⟩] 50)) = w4 at *
      have HP5 := Lib.hid (HP4.out.gr (((Gr.refl w4).alloc (.cells #[.int .i64 (A), .int .i64 B, .string z] 50)).drew))
      have O50 := Lib.hid (O40.out.gr (((Gr.refl w4).alloc (.cells #[.int .i64 (A), .int .i64 B, .string z] 50)).drew))
      have B50 := Lib.hid (B40.out.gr (((Gr.refl w4).alloc (.cells #[.int .i64 (A), .int .i64 B, .string z] 50)).drew))
      have O51 := Lib.hid (O41.out.gr (((Gr.refl w4).alloc (.cells #[.int .i64 (A), .int .i64 B, .string z] 50)).drew))
      have B51 := Lib.hid (B41.out.gr (((Gr.refl w4).alloc (.cells #[.int .i64 (A), .int .i64 B, .string z] 50)).drew))
      have O52 := Lib.hid (O42.out.gr (((Gr.refl w4).alloc (.cells #[.int .i64 (A), .int .i64 B, .string z] 50)).drew))
      have B52 := Lib.hid (B42.out.gr (((Gr.refl w4).alloc (.cells #[.int .i64 (A), .int .i64 B, .string z] 50)).drew))
      have O53 := Lib.hid (O43.out.gr (((Gr.refl w4).alloc (.cells #[.int .i64 (A), .int .i64 B, .string z] 50)).drew))
      have B53 := Lib.hid (B43.out.gr (((Gr.refl w4).alloc (.cells #[.int .i64 (A), .int .i64 B, .string z] 50)).drew))
      have o4 := (Own.new HP4.out (.cells #[.int .i64 (A), .int .i64 B, .string z] 50)).gr ((Gr.refl _).drew)
      have b4 := (Blk.new w4 #[.int .i64 (A), .int .i64 B, .string z] 50).gr ((Gr.refl _).drew)
      have O54 := Lib.hid o4
      have B54 := Lib.hid b4
      clear o4 b4
      have HX : Hid (∀ w0 w9 : World, Gr w0 w9 → (fun w9 => Gr w4 w9 ∧ w9.cell? ⟨w.heap.size + 1, 1, none⟩ = some (.int .i64 (A)) ∧ w9.cell? ⟨w.heap.size + 1, 2, none⟩ = some (.int .i64 B) ∧ w9.cell? ⟨w.heap.size + 1, 3, none⟩ = some (.string s)) w0 → (fun w9 => Gr w4 w9 ∧ w9.cell? ⟨w.heap.size + 1, 1, none⟩ = some (.int .i64 (A)) ∧ w9.cell? ⟨w.heap.size + 1, 2, none⟩ = some (.int .i64 B) ∧ w9.cell? ⟨w.heap.size + 1, 3, none⟩ = some (.string s)) w9) := Lib.hid fun w0 w9 hg ⟨h, q1, q2, q3⟩ => ⟨h.trans hg, hg.cell q1, hg.cell q2, hg.cell q3⟩
      have HS0 : (fun w9 => Gr w4 w9 ∧ w9.cell? ⟨w.heap.size + 1, 1, none⟩ = some (.int .i64 (A)) ∧ w9.cell? ⟨w.heap.size + 1, 2, none⟩ = some (.int .i64 B) ∧ w9.cell? ⟨w.heap.size + 1, 3, none⟩ = some (.string s)) w4 := ⟨Gr.refl _, B41.out.cell rfl, B41.out.cell rfl, B41.out.cell rfl⟩
      apply cutS (fun w9 => w9 = (w4.alloc (.cells #[.int .i64 (A), .int .i64 B, .string z] 50)).drew)
      case main =>
        intro HL2
        refine wp_region_held_drew (S := (fun w9 => Gr w4 w9 ∧ w9.cell? ⟨w.heap.size + 1, 1, none⟩ = some (.int .i64 (A)) ∧ w9.cell? ⟨w.heap.size + 1, 2, none⟩ = some (.int .i64 B) ∧ w9.cell? ⟨w.heap.size + 1, 3, none⟩ = some (.string s))) (by kernel_rfl) ?inve (fun h0 => ?_)
        case inve => ((try dsimp only); (exact HX.out _ _ ((Gr.refl _).drew) HS0))
        refine wpAnyH_take (i := 0) (oi := { dst := some 41, op := Go.Op.fieldAddr 34 (Go.Operand.tmp 5) 1, type := 0, pos := "law.go:35", after := #[], guard := none }) (v := ?ve1) rfl (by kernel_rfl) (by kernel_rfl) (by kernel_rfl) (fun _ _ _ h => h) (Or.inl ⟨by rfl, ?re1⟩) (by assumption) ?_
        case re1 => (intro w hSw; (try dsimp only at hSw); (go_simp <;> with_reducible rfl))
        try simp only [Act.put, List.setIfInBounds_toArray, List.set_cons_zero, List.set_cons_succ]
        refine wpAnyH_take (i := 1) (oi := { dst := some 42, op := Go.Op.load 3 (Go.Operand.tmp 41), type := 3, pos := "law.go:35", after := #[{ on := 0, ground := Go.Ground.data }], guard := none }) (v := ?ve2) rfl (by kernel_rfl) (by kernel_rfl) (by kernel_rfl) (fun _ _ _ h => h) (Or.inl ⟨by rfl, ?re2⟩) (by assumption) ?_
        case re2 => (intro w hSw; (try dsimp only at hSw); (go_simp <;> with_reducible rfl))
        try simp only [Act.put, List.setIfInBounds_toArray, List.set_cons_zero, List.set_cons_succ]
        refine wpAnyH_take (i := 2) (oi := { dst := some 43, op := Go.Op.fieldAddr 34 (Go.Operand.tmp 5) 2, type := 0, pos := "law.go:35", after := #[], guard := none }) (v := ?ve3) rfl (by kernel_rfl) (by kernel_rfl) (by kernel_rfl) (fun _ _ _ h => h) (Or.inl ⟨by rfl, ?re3⟩) (by assumption) ?_
        case re3 => (intro w hSw; (try dsimp only at hSw); (go_simp <;> with_reducible rfl))
        try simp only [Act.put, List.setIfInBounds_toArray, List.set_cons_zero, List.set_cons_succ]
        refine wpAnyH_take (i := 3) (oi := { dst := some 44, op := Go.Op.load 3 (Go.Operand.tmp 43), type := 3, pos := "law.go:35", after := #[{ on := 2, ground := Go.Ground.data }], guard := none }) (v := ?ve4) rfl (by kernel_rfl) (by kernel_rfl) (by kernel_rfl) (fun _ _ _ h => h) (Or.inl ⟨by rfl, ?re4⟩) (by assumption) ?_
        case re4 => (intro w hSw; (try dsimp only at hSw); (go_simp <;> with_reducible rfl))
        try simp only [Act.put, List.setIfInBounds_toArray, List.set_cons_zero, List.set_cons_succ]
        refine wpAnyH_take (i := 4) (oi := { dst := some 45, op := Go.Op.fieldAddr 34 (Go.Operand.tmp 5) 3, type := 0, pos := "law.go:35", after := #[], guard := none }) (v := ?ve5) rfl (by kernel_rfl) (by kernel_rfl) (by kernel_rfl) (fun _ _ _ h => h) (Or.inl ⟨by rfl, ?re5⟩) (by assumption) ?_
        case re5 => (intro w hSw; (try dsimp only at hSw); (go_simp <;> with_reducible rfl))
        try simp only [Act.put, List.setIfInBounds_toArray, List.set_cons_zero, List.set_cons_succ]
        refine wpAnyH_take (i := 5) (oi := { dst := some 46, op := Go.Op.load 9 (Go.Operand.tmp 45), type := 9, pos := "law.go:35", after := #[{ on := 4, ground := Go.Ground.data }], guard := none }) (v := ?ve6) rfl (by kernel_rfl) (by kernel_rfl) (by kernel_rfl) (fun _ _ _ h => h) (Or.inl ⟨by rfl, ?re6⟩) (by assumption) ?_
        case re6 => (intro w hSw; (try dsimp only at hSw); (go_simp <;> with_reducible rfl))
        try simp only [Act.put, List.setIfInBounds_toArray, List.set_cons_zero, List.set_cons_succ]
        refine wpAnyH_ready (rs := [6, 8]) (by kernel_rfl) (by simp) ?_
        refine AllReadyH.cons (o := { dst := some 47, op := Go.Op.call { callee := Go.Callee.value (Go.Operand.func 14), args := #[Go.Operand.tmp 46, Go.Operand.const (Go.Value.int Go.IntKind.i64 30)], argTypes := #[9, 3] }, type := 9, pos := "law.go:35", after := #[{ on := 5, ground := Go.Ground.data }], guard := none }) rfl (fun K hK => ?_) (AllReadyH.cons (o := { dst := some 10, op := Go.Op.alloc 50, type := 0, pos := "law.go:35", after := #[], guard := none }) rfl (fun K hK => ?_) AllReadyH.nil)
        · skip
          go_simp
          (go_at_call 14; refine (CU.out _).mono ?_; rintro e w9 ⟨rfl, rfl⟩)
          first | refine hK.out _ _ ?se7 (fun h7 => ?_) | (go_wp2_with fail; refine hK.out _ _ ?se7 (fun h7 => ?_))
          case se7 => ((try dsimp only); (first | exact h0 | exact HX.out _ _ (((Gr.refl _).drew).alloc _) HS0 | exact HX.out _ _ (((Gr.refl _).alloc _).drew) HS0))
          clear hK K h0
          try simp only [Act.put, List.setIfInBounds_toArray, List.set_cons_zero, List.set_cons_succ]
          refine wpAnyH_take (i := 7) (oi := { dst := some 48, op := Go.Op.build 50 #[(0, Go.Operand.tmp 42), (1, Go.Operand.tmp 44), (2, Go.Operand.tmp 47)], type := 50, pos := "law.go:35", after := #[{ on := 1, ground := Go.Ground.data }, { on := 3, ground := Go.Ground.data }, { on := 6, ground := Go.Ground.data }], guard := none }) (v := ?ve8) rfl (by kernel_rfl) (by kernel_rfl) (by kernel_rfl) (fun _ _ _ h => h) (Or.inl ⟨by rfl, ?re8⟩) (by assumption) ?_
          case re8 => (intro w hSw; (try dsimp only at hSw); (go_simp <;> with_reducible rfl))
          try simp only [Act.put, List.setIfInBounds_toArray, List.set_cons_zero, List.set_cons_succ]
          refine wpAnyH_ready (rs := [8]) (by kernel_rfl) (by simp) ?_
          refine AllReadyH.cons (o := { dst := some 10, op := Go.Op.alloc 50, type := 0, pos := "law.go:35", after := #[], guard := none }) rfl (fun K hK => ?_) AllReadyH.nil
          go_simp
          skip
          first | refine hK.out _ _ ?se9 (fun h9 => ?_) | (go_wp2_with fail; refine hK.out _ _ ?se9 (fun h9 => ?_))
          case se9 => ((try dsimp only); (first | exact h7 | exact HX.out _ _ (((Gr.refl _).drew).alloc _) HS0 | exact HX.out _ _ (((Gr.refl _).alloc _).drew) HS0))
          clear hK K h7
          try simp only [Act.put, List.setIfInBounds_toArray, List.set_cons_zero, List.set_cons_succ]
          refine wpAnyH_ready (rs := [9]) (by kernel_rfl) (by simp) ?_
          refine AllReadyH.cons (o := { dst := none, op := Go.Op.store 50 (Go.Operand.tmp 10) (Go.Operand.tmp 48), type := 0, pos := "law.go:35", after := #[{ on := 8, ground := Go.Ground.data }, { on := 7, ground := Go.Ground.data }, { on := 6, ground := Go.Ground.chain }, { on := 0, ground := Go.Ground.phase }, { on := 1, ground := Go.Ground.phase }, { on := 2, ground := Go.Ground.phase }, { on := 3, ground := Go.Ground.phase }, { on := 4, ground := Go.Ground.phase }, { on := 5, ground := Go.Ground.phase }, { on := 6, ground := Go.Ground.phase }, { on := 7, ground := Go.Ground.phase }, { on := 8, ground := Go.Ground.phase }], guard := none }) rfl (fun K hK => ?_) AllReadyH.nil
          go_simp
          skip
          first | refine hK.out _ _ ?se10 (fun h10 => ?_) | (go_wp2_with fail; refine hK.out _ _ ?se10 (fun h10 => ?_))
          case se10 => ((try dsimp only); (first | exact h9 | exact HX.out _ _ (((Gr.refl _).drew).alloc _) HS0 | exact HX.out _ _ (((Gr.refl _).alloc _).drew) HS0))
          clear hK K h9
          try simp only [Act.put, List.setIfInBounds_toArray, List.set_cons_zero, List.set_cons_succ]
          refine wpAnyH_done (by kernel_rfl) ?_ _
          exact HL2 _ rfl
        · skip
          go_simp
          skip
          first | refine hK.out _ _ ?se11 (fun h11 => ?_) | (go_wp2_with fail; refine hK.out _ _ ?se11 (fun h11 => ?_))
          case se11 => ((try dsimp only); (first | exact h0 | exact HX.out _ _ (((Gr.refl _).drew).alloc _) HS0 | exact HX.out _ _ (((Gr.refl _).alloc _).drew) HS0))
          clear hK K h0
          try simp only [Act.put, List.setIfInBounds_toArray, List.set_cons_zero, List.set_cons_succ]
          refine wpAnyH_ready (rs := [6]) (by kernel_rfl) (by simp) ?_
          refine AllReadyH.cons (o := { dst := some 47, op := Go.Op.call { callee := Go.Callee.value (Go.Operand.func 14), args := #[Go.Operand.tmp 46, Go.Operand.const (Go.Value.int Go.IntKind.i64 30)], argTypes := #[9, 3] }, type := 9, pos := "law.go:35", after := #[{ on := 5, ground := Go.Ground.data }], guard := none }) rfl (fun K hK => ?_) AllReadyH.nil
          go_simp
          (go_at_call 14; refine (CU.out _).mono ?_; rintro e w9 ⟨rfl, rfl⟩)
          first | refine hK.out _ _ ?se12 (fun h12 => ?_) | (go_wp2_with fail; refine hK.out _ _ ?se12 (fun h12 => ?_))
          case se12 => ((try dsimp only); (first | exact h11 | exact HX.out _ _ (((Gr.refl _).drew).alloc _) HS0 | exact HX.out _ _ (((Gr.refl _).alloc _).drew) HS0))
          clear hK K h11
          try simp only [Act.put, List.setIfInBounds_toArray, List.set_cons_zero, List.set_cons_succ]
          refine wpAnyH_take (i := 7) (oi := { dst := some 48, op := Go.Op.build 50 #[(0, Go.Operand.tmp 42), (1, Go.Operand.tmp 44), (2, Go.Operand.tmp 47)], type := 50, pos := "law.go:35", after := #[{ on := 1, ground := Go.Ground.data }, { on := 3, ground := Go.Ground.data }, { on := 6, ground := Go.Ground.data }], guard := none }) (v := ?ve13) rfl (by kernel_rfl) (by kernel_rfl) (by kernel_rfl) (fun _ _ _ h => h) (Or.inl ⟨by rfl, ?re13⟩) (by assumption) ?_
          case re13 => (intro w hSw; (try dsimp only at hSw); (go_simp <;> with_reducible rfl))
          try simp only [Act.put, List.setIfInBounds_toArray, List.set_cons_zero, List.set_cons_succ]
          refine wpAnyH_ready (rs := [9]) (by kernel_rfl) (by simp) ?_
          refine AllReadyH.cons (o := { dst := none, op := Go.Op.store 50 (Go.Operand.tmp 10) (Go.Operand.tmp 48), type := 0, pos := "law.go:35", after := #[{ on := 8, ground := Go.Ground.data }, { on := 7, ground := Go.Ground.data }, { on := 6, ground := Go.Ground.chain }, { on := 0, ground := Go.Ground.phase }, { on := 1, ground := Go.Ground.phase }, { on := 2, ground := Go.Ground.phase }, { on := 3, ground := Go.Ground.phase }, { on := 4, ground := Go.Ground.phase }, { on := 5, ground := Go.Ground.phase }, { on := 6, ground := Go.Ground.phase }, { on := 7, ground := Go.Ground.phase }, { on := 8, ground := Go.Ground.phase }], guard := none }) rfl (fun K hK => ?_) AllReadyH.nil
          go_simp
          skip
          first | refine hK.out _ _ ?se14 (fun h14 => ?_) | (go_wp2_with fail; refine hK.out _ _ ?se14 (fun h14 => ?_))
          case se14 => ((try dsimp only); (first | exact h12 | exact HX.out _ _ (((Gr.refl _).drew).alloc _) HS0 | exact HX.out _ _ (((Gr.refl _).alloc _).drew) HS0))
          clear hK K h12
          try simp only [Act.put, List.setIfInBounds_toArray, List.set_cons_zero, List.set_cons_succ]
          refine wpAnyH_done (by kernel_rfl) ?_ _
          exact HL2 _ rfl
      case rest =>
        intro wy hwy
        generalize (w4.alloc (.cells #[.int .i64 (A), .int .i64 B, .string z] 50)).drew = w5 at *
        subst hwy
        clear HX HS0
        have x00 := B50.out.cell (i := 0) rfl
        have x01 := B50.out.cell (i := 1) rfl
        have x02 := B50.out.cell (i := 2) rfl
        have z0 := B54.out.cell (i := 0) rfl
        have z1 := B54.out.cell (i := 1) rfl
        have z2 := B54.out.cell (i := 2) rfl
        go_wp2_with fail
        refine (refSend_any ⟨(A), B, z⟩ _ HP5.out.rf HZZ.out).mono ?_
        rintro e w6 ⟨rv6, rfl, hr6, hg6, hn6⟩
        generalize hZ : Nt.send x ⟨(A), B, z⟩ = ZQ at *
        obtain ⟨Z, q⟩ := ZQ
        have HZ := Lib.hid hZ
        clear hZ
        simp only at *
        have HP6 := Lib.hid (HP5.out.ref hr6 hg6 hn6)
        have O60 := Lib.hid (O50.out.ref hg6 hn6)
        have B60 := Lib.hid (B50.out.gr hg6)
        have O61 := Lib.hid (O51.out.ref hg6 hn6)
        have B61 := Lib.hid (B51.out.gr hg6)
        have O62 := Lib.hid (O52.out.ref hg6 hn6)
        have B62 := Lib.hid (B52.out.gr hg6)
        have O63 := Lib.hid (O53.out.ref hg6 hn6)
        have B63 := Lib.hid (B53.out.gr hg6)
        have O64 := Lib.hid (O54.out.ref hg6 hn6)
        have B64 := Lib.hid (B54.out.gr hg6)
        clear hr6 hg6 hn6 x00 x01 x02 z0 z1 z2
        have hform := HP6.out.rf
        obtain ⟨⟨l7, c7, M7, hrv, g2, g3, _, _⟩, _⟩ := hform
        obtain ⟨la7, lc7, rfl, _⟩ := g2
        obtain ⟨ca7, cc7, rfl, _⟩ := g3
        subst hrv
        have HP7 := Lib.hid (HP6.out.gr ((Gr.refl w6).alloc (.cells #[.int .i64 (Z.n : Nat), .slice la7 Z.L.length lc7, .slice ca7 M7.length cc7] 29)))
        have O70 := Lib.hid (O60.out.gr ((Gr.refl w6).alloc (.cells #[.int .i64 (Z.n : Nat), .slice la7 Z.L.length lc7, .slice ca7 M7.length cc7] 29)))
        have B70 := Lib.hid (B60.out.gr ((Gr.refl w6).alloc (.cells #[.int .i64 (Z.n : Nat), .slice la7 Z.L.length lc7, .slice ca7 M7.length cc7] 29)))
        have O71 := Lib.hid (O61.out.gr ((Gr.refl w6).alloc (.cells #[.int .i64 (Z.n : Nat), .slice la7 Z.L.length lc7, .slice ca7 M7.length cc7] 29)))
        have B71 := Lib.hid (B61.out.gr ((Gr.refl w6).alloc (.cells #[.int .i64 (Z.n : Nat), .slice la7 Z.L.length lc7, .slice ca7 M7.length cc7] 29)))
        have O72 := Lib.hid (O62.out.gr ((Gr.refl w6).alloc (.cells #[.int .i64 (Z.n : Nat), .slice la7 Z.L.length lc7, .slice ca7 M7.length cc7] 29)))
        have B72 := Lib.hid (B62.out.gr ((Gr.refl w6).alloc (.cells #[.int .i64 (Z.n : Nat), .slice la7 Z.L.length lc7, .slice ca7 M7.length cc7] 29)))
        have O73 := Lib.hid (O63.out.gr ((Gr.refl w6).alloc (.cells #[.int .i64 (Z.n : Nat), .slice la7 Z.L.length lc7, .slice ca7 M7.length cc7] 29)))
        have B73 := Lib.hid (B63.out.gr ((Gr.refl w6).alloc (.cells #[.int .i64 (Z.n : Nat), .slice la7 Z.L.length lc7, .slice ca7 M7.length cc7] 29)))
        have O74 := Lib.hid (O64.out.gr ((Gr.refl w6).alloc (.cells #[.int .i64 (Z.n : Nat), .slice la7 Z.L.length lc7, .slice ca7 M7.length cc7] 29)))
        have B74 := Lib.hid (B64.out.gr ((Gr.refl w6).alloc (.cells #[.int .i64 (Z.n : Nat), .slice la7 Z.L.length lc7, .slice ca7 M7.length cc7] 29)))
        have O75 := Lib.hid (Own.new HP6.out (.cells #[.int .i64 (Z.n : Nat), .slice la7 Z.L.length lc7, .slice ca7 M7.length cc7] 29))
        have B75 := Lib.hid (Blk.new w6 #[.int .i64 (Z.n : Nat), .slice la7 Z.L.length lc7, .slice ca7 M7.length cc7] 29)
        go_wp2_with fail
        generalize hn5 : w6.heap.size = n5 at *
        generalize w6.alloc (.cells #[.int .i64 (Z.n : Nat), .slice la7 Z.L.length lc7, .slice ca7 M7.length cc7] 29) = w7 at *
        have HP8 := Lib.hid (HP7.out.gr (Gr.refl _).drew)
        have O80 := Lib.hid (O70.out.gr (Gr.refl _).drew)
        have B80 := Lib.hid (B70.out.gr (Gr.refl _).drew)
        have O81 := Lib.hid (O71.out.gr (Gr.refl _).drew)
        have B81 := Lib.hid (B71.out.gr (Gr.refl _).drew)
        have O82 := Lib.hid (O72.out.gr (Gr.refl _).drew)
        have B82 := Lib.hid (B72.out.gr (Gr.refl _).drew)
        have O83 := Lib.hid (O73.out.gr (Gr.refl _).drew)
        have B83 := Lib.hid (B73.out.gr (Gr.refl _).drew)
        have O84 := Lib.hid (O74.out.gr (Gr.refl _).drew)
        have B84 := Lib.hid (B74.out.gr (Gr.refl _).drew)
        have O85 := Lib.hid (O75.out.gr (Gr.refl _).drew)
        have B85 := Lib.hid (B75.out.gr (Gr.refl _).drew)
        have QP8 := HP8
        have hlt4 := O84.out.lo
        have hlt5 := O85.out.lo
        have hl4 := O42.out.lt
        have hl6 := O62.out.lt
        have hne4 : w4.heap.size ≠ w.heap.size + 1 + 1 := fun e => by omega
        have hne5 : n5 ≠ w.heap.size + 1 + 1 := fun e => by omega
        refine wp_region_held_drew (S := (fun w9 => w9.cell? ⟨n5, 0, none⟩ = some (.int .i64 (Z.n : Nat)) ∧ w9.cell? ⟨n5, 1, none⟩ = some (.slice la7 Z.L.length lc7) ∧ w9.cell? ⟨n5, 2, none⟩ = some (.slice ca7 M7.length cc7) ∧ w9.cell? ⟨w4.heap.size, 0, none⟩ = some (.int .i64 (A)) ∧ w9.cell? ⟨w4.heap.size, 1, none⟩ = some (.int .i64 B) ∧ w9.cell? ⟨w4.heap.size, 2, none⟩ = some (.string z))) (by kernel_rfl) ?invf (fun h0 => ?_)
        case invf => ((try dsimp only); (exact ⟨B85.out.cell rfl, B85.out.cell rfl, B85.out.cell rfl, B84.out.cell rfl, B84.out.cell rfl, B84.out.cell rfl⟩))
        refine wpAnyH_take (i := 0) (oi := { dst := some 55, op := Go.Op.load 29 (Go.Operand.tmp 11), type := 29, pos := "law.go:37", after := #[], guard := none }) (v := ?vf1) rfl (by kernel_rfl) (by kernel_rfl) (by kernel_rfl) (fun _ _ _ h => h) (Or.inl ⟨by rfl, ?rf1⟩) (by assumption) ?_
        case rf1 => (intro w hSw; (try dsimp only at hSw); (go_simp <;> with_reducible rfl))
        try simp only [Act.put, List.setIfInBounds_toArray, List.set_cons_zero, List.set_cons_succ]
        refine wpAnyH_take (i := 1) (oi := { dst := some 56, op := Go.Op.move (Go.Operand.tmp 0), type := 24, pos := "law.go:37", after := #[], guard := none }) (v := ?vf2) rfl (by kernel_rfl) (by kernel_rfl) (by kernel_rfl) (fun _ _ _ h => h) (Or.inl ⟨by rfl, ?rf2⟩) (by assumption) ?_
        case rf2 => (intro w hSw; (try dsimp only at hSw); (go_simp <;> with_reducible rfl))
        try simp only [Act.put, List.setIfInBounds_toArray, List.set_cons_zero, List.set_cons_succ]
        refine wpAnyH_take (i := 2) (oi := { dst := some 57, op := Go.Op.load 50 (Go.Operand.tmp 10), type := 50, pos := "law.go:37", after := #[], guard := none }) (v := ?vf3) rfl (by kernel_rfl) (by kernel_rfl) (by kernel_rfl) (fun _ _ _ h => h) (Or.inl ⟨by rfl, ?rf3⟩) (by assumption) ?_
        case rf3 => (intro w hSw; (try dsimp only at hSw); (go_simp <;> with_reducible rfl))
        try simp only [Act.put, List.setIfInBounds_toArray, List.set_cons_zero, List.set_cons_succ]
        refine wpAnyH_take (i := 4) (oi := { dst := some 59, op := Go.Op.move (Go.Operand.tmp 12), type := 4, pos := "law.go:37", after := #[{ on := 6, ground := Go.Ground.gcOnly Go.Departure.lateStores }], guard := none }) (v := ?vf4) rfl (by kernel_rfl) (by kernel_rfl) (by kernel_rfl) (fun _ _ _ h => h) (Or.inl ⟨by rfl, ?rf4⟩) (by assumption) ?_
        case rf4 => (intro w hSw; (try dsimp only at hSw); (go_simp <;> with_reducible rfl))
        try simp only [Act.put, List.setIfInBounds_toArray, List.set_cons_zero, List.set_cons_succ]
        refine wpAnyH_ready (rs := [3]) (by kernel_rfl) (by simp) ?_
        refine AllReadyH.cons (o := { dst := some 58, op := Go.Op.call { callee := Go.Callee.value (Go.Operand.func 9), args := #[Go.Operand.tmp 56, Go.Operand.tmp 57], argTypes := #[24, 39] }, type := 4, pos := "law.go:37", after := #[{ on := 1, ground := Go.Ground.data }, { on := 2, ground := Go.Ground.data }], guard := none }) rfl (fun K hK => ?_) AllReadyH.nil
        go_simp
        (go_at_call 9; refine (nsend_any ⟨(A), B, z⟩ _ QP8.out.is HZZ.out).mono ?_; rintro e w9 ⟨rfl, v9, h9, hf9, hv9⟩; rw [HZ.out] at h9 ⊢; simp only at h9; have QP9 := Lib.hid (QP8.out.net h9 hf9 hv9); have O90 := Lib.hid (O80.out.net hf9 hv9); have B90 := Lib.hid (B80.out.far hf9 O80.out.sd.1 O80.out.sd.2); have O91 := Lib.hid (O81.out.net hf9 hv9); have B91 := Lib.hid (B81.out.far hf9 O81.out.sd.1 O81.out.sd.2); have O92 := Lib.hid (O82.out.net hf9 hv9); have B92 := Lib.hid (B82.out.far hf9 O82.out.sd.1 O82.out.sd.2); have O93 := Lib.hid (O83.out.net hf9 hv9); have B93 := Lib.hid (B83.out.far hf9 O83.out.sd.1 O83.out.sd.2); have O94 := Lib.hid (O84.out.net hf9 hv9); have B94 := Lib.hid (B84.out.far hf9 O84.out.sd.1 O84.out.sd.2); have O95 := Lib.hid (O85.out.net hf9 hv9); have B95 := Lib.hid (B85.out.far hf9 O85.out.sd.1 O85.out.sd.2); have x20 := B92.out.cell (i := 0) rfl; have x21 := B92.out.cell (i := 1) rfl; have x22 := B92.out.cell (i := 2) rfl; have y20 := B92.out.free 0; have y21 := B92.out.free 1; have y22 := B92.out.free 2)
        first | refine hK.out _ _ ?sf5 (fun h5 => ?_) | (go_wp2_with fail; refine hK.out _ _ ?sf5 (fun h5 => ?_))
        case sf5 => ((try dsimp only); (first | exact ⟨(B95.out).cell rfl, (B95.out).cell rfl, (B95.out).cell rfl, (B94.out).cell rfl, (B94.out).cell rfl, (B94.out).cell rfl⟩ | exact ⟨(B95.out.apart3 (by omega) _ _ _).cell rfl, (B95.out.apart3 (by omega) _ _ _).cell rfl, (B95.out.apart3 (by omega) _ _ _).cell rfl, (B94.out.apart3 (by omega) _ _ _).cell rfl, (B94.out.apart3 (by omega) _ _ _).cell rfl, (B94.out.apart3 (by omega) _ _ _).cell rfl⟩))
        clear hK K h0
        try simp only [Act.put, List.setIfInBounds_toArray, List.set_cons_zero, List.set_cons_succ]
        refine wpAnyH_take (i := 5) (oi := { dst := some 60, op := Go.Op.binOp Go.BinOp.eql 4 (Go.Operand.tmp 58) (Go.Operand.tmp 59) 4, type := 4, pos := "law.go:37", after := #[{ on := 3, ground := Go.Ground.data }, { on := 4, ground := Go.Ground.data }, { on := 6, ground := Go.Ground.gcOnly Go.Departure.lateStores }], guard := none }) (v := ?vf6) rfl (by kernel_rfl) (by kernel_rfl) (by kernel_rfl) (fun _ _ _ h => h) (Or.inl ⟨by rfl, ?rf6⟩) (by assumption) ?_
        case rf6 => (intro w hSw; (try dsimp only at hSw); (go_simp <;> with_reducible rfl))
        try simp only [Act.put, List.setIfInBounds_toArray, List.set_cons_zero, List.set_cons_succ]
        refine wpAnyH_ready (rs := [6]) (by kernel_rfl) (by simp) ?_
        refine AllReadyH.cons (o := { dst := none, op := Go.Op.store 29 (Go.Operand.tmp 6) (Go.Operand.tmp 55), type := 0, pos := "law.go:37", after := #[{ on := 0, ground := Go.Ground.data }, { on := 3, ground := Go.Ground.chain }, { on := 0, ground := Go.Ground.phase }, { on := 1, ground := Go.Ground.textOnly Go.Departure.lateStores }, { on := 2, ground := Go.Ground.textOnly Go.Departure.lateStores }, { on := 3, ground := Go.Ground.textOnly Go.Departure.lateStoresUnsure }, { on := 4, ground := Go.Ground.textOnly Go.Departure.lateStores }, { on := 5, ground := Go.Ground.textOnly Go.Departure.lateStores }], guard := none }) rfl (fun K hK => ?_) AllReadyH.nil
        go_simp
        skip
        first | refine hK.out _ _ ?sf7 (fun h7 => ?_) | (go_wp2_with fail; refine hK.out _ _ ?sf7 (fun h7 => ?_))
        case sf7 => ((try dsimp only); (first | exact ⟨(B95.out).cell rfl, (B95.out).cell rfl, (B95.out).cell rfl, (B94.out).cell rfl, (B94.out).cell rfl, (B94.out).cell rfl⟩ | exact ⟨(B95.out.apart3 (by omega) _ _ _).cell rfl, (B95.out.apart3 (by omega) _ _ _).cell rfl, (B95.out.apart3 (by omega) _ _ _).cell rfl, (B94.out.apart3 (by omega) _ _ _).cell rfl, (B94.out.apart3 (by omega) _ _ _).cell rfl, (B94.out.apart3 (by omega) _ _ _).cell rfl⟩))
        clear hK K h5
        try simp only [Act.put, List.setIfInBounds_toArray, List.set_cons_zero, List.set_cons_succ]
        refine wpAnyH_take (i := 7) (oi := { dst := some 7, op := Go.Op.assign (Go.Operand.tmp 60), type := 4, pos := "law.go:37", after := #[{ on := 5, ground := Go.Ground.data }, { on := 6, ground := Go.Ground.chain }, { on := 0, ground := Go.Ground.phase }, { on := 1, ground := Go.Ground.phase }, { on := 2, ground := Go.Ground.phase }, { on := 3, ground := Go.Ground.phase }, { on := 4, ground := Go.Ground.phase }, { on := 5, ground := Go.Ground.phase }, { on := 6, ground := Go.Ground.phase }], guard := none }) (v := ?vf8) rfl (by kernel_rfl) (by kernel_rfl) (by kernel_rfl) (fun _ _ _ h => h) (Or.inl ⟨by rfl, ?rf8⟩) (by assumption) ?_
        case rf8 => (intro w hSw; (try dsimp only at hSw); (go_simp <;> with_reducible rfl))
        try simp only [Act.put, List.setIfInBounds_toArray, List.set_cons_zero, List.set_cons_succ]
        refine wpAnyH_done (by kernel_rfl) ?_ _
        clear h7
        go_wp2
        refine bodyPost_ret (v := .tuple #[.agg #[.int .i64 (Z.n : Nat), .slice la7 Z.L.length lc7, .slice ca7 M7.length cc7], .bool true]) (by simp [results, Try.results7, go_sem, x20, x21, x22, y20, y21, y22]; try rfl) rfl ?_
        exact ((QP9.out.put3 O92.out _ _ _).most (by omega)).does
end Go.Proofs.Ytahohgnkichibab
