import Derived.Test.YtahohgnkichibabF14p
import Derived.WalkKit
import Derived.ProofKit
import Derived.LoopTactic
import Derived.Outline
import Derived.WalkSpells
import Derived.WalkLawsBesides
import Derived.Lib.Hide
import Derived.Deep.LoopGhost
import Derived.Deep.QuietTactic
import Derived.BigQuiet
import Derived.ShutString
import Derived.IntWalk
import Derived.Lib.MinMax
import Derived.BigQuiet
import Derived.Deep.AppendLies
import Derived.Deep.RegionWith
import Derived.Deep.RegionHeld3
namespace Go.Proofs.Ytahohgnkichibab
open Go.ChangeShapes Go.WideShapes Go.ChangeAt Go.RowKit
set_option linter.unusedVariables false
set_option linter.unusedSimpArgs false
open Nt
set_option maxRecDepth 100000 in
set_option maxHeartbeats 2000000 in
theorem lawDo_take {b c : Nat} {v rv : Value} {x : N} (K A B : Int) (s : ByteArray) (w : World) (h : NtIs w b v x) (hr : RfIs w c rv x) (ho : RfOff w rv b v) (hc : c ≤ 1000000) (hs : s.size ≤ 9223372036854775807) :
    Calls Try.prog 7 #[.pointer (some ⟨b, 0, none⟩), rv, .agg #[.int .i64 1, .int .i64 A, .int .i64 B, .string s]] w (DoIs b c v w (Nt.drop x A)) := by
  have HP0 := Lib.hid (Pair.mk (w0 := w) (v0 := v) h hr (Far.refl _ _ _) (From.refl _ _) ho)
  obtain ⟨⟨lv, cv, M, rfl, h2, h3, h4, h5⟩, ok⟩ := hr
  obtain ⟨la, lc, rfl, h2⟩ := h2
  obtain ⟨ca, cc, rfl, h3⟩ := h3
  have HLV := Lib.hid h2
  clear h2 h3 h4 h5 ho h ok
  generalize M.length = cm at *
  have HTH : Hid (Nt.hasB x A = decide (0 ≤ A ∧ A < (x.L.length : Int))) := Lib.hid rfl
  generalize hln : x.L.length = ln at *
  have HLN := Lib.hid hln
  clear hln
  generalize hxn : x.n = n at *
  have HXN := Lib.hid hxn
  clear hxn
  by_cases hth : 0 ≤ A ∧ A < (ln : Int)
  · obtain ⟨hA, hA2⟩ := hth
    have HT := Lib.hid (HTH.out.trans (decide_eq_true ⟨hA, hA2⟩))
    clear HTH
    obtain ⟨k, rfl⟩ : ∃ k : Nat, A = (k : Int) := ⟨A.toNat, by omega⟩
    have hkx : k < x.L.length := by rw [HLN.out]; omega
    rcases HLV.out with h1 | ⟨g, rfl, hcl⟩
    · omega
    have HG4 := Lib.hid (((((Gr.refl w).alloc (.cells #[.int .i64 (n : Nat), .slice (some ⟨g, 0, none⟩) ln lc, .slice ca cm cc] 29)).alloc (.cells #[.int .i64 1, .int .i64 (k : Nat), .int .i64 B, .string s] 34)).alloc (.cells #[.int .i64 0, .slice none 0 0, .slice none 0 0] 29)).alloc (.cells #[.int .i64 0, .int .i64 0, .string ⟨#[]⟩] 50))
    have e0 := HG4.out.cell (hcl _ _ (pcells_at x.L k hkx).1)
    have e1 := HG4.out.cell (hcl _ _ (pcells_at x.L k hkx).2.1)
    have e2 := HG4.out.cell (hcl _ _ (pcells_at x.L k hkx).2.2)
    have HA := Lib.hid (look_at hkx)
    clear hcl
    generalize x.L[k] = pp at *
    obtain ⟨pA, pB, ps⟩ := pp
    simp only at e0 e1 e2
    have CF := Lib.hid (chain_facts HP0.out #[.int .i64 (n : Nat), .slice (some ⟨g, 0, none⟩) ln lc, .slice ca cm cc] #[.int .i64 1, .int .i64 (k : Nat), .int .i64 B, .string s] #[.int .i64 0, .slice none 0 0, .slice none 0 0] #[.int .i64 pA, .int .i64 pB, .string ps] 29 34 29 50)
    obtain ⟨hp4, o0, o1, o2, o3, b0, b1, b2, b3⟩ := CF.out
    have HP4 := Lib.hid hp4
    have O40 := Lib.hid o0
    have B40 := Lib.hid b0
    have O41 := Lib.hid o1
    have B41 := Lib.hid b1
    have O42 := Lib.hid o2
    have B42 := Lib.hid b2
    have O43 := Lib.hid o3
    have B43 := Lib.hid b3
    clear CF hp4 o0 o1 o2 o3 b0 b1 b2 b3
    have hbt := HT.out
    have htk := take_eq x ((k : Nat))
    rw [isCut_drop, hbt, HA.out] at htk
    simp only [if_true] at htk
    obtain ⟨Z, hZ⟩ : ∃ Z, Nt.drop x ((k : Nat)) = Z := ⟨_, rfl⟩
    have HZ := Lib.hid hZ
    rw [HZ.out]
    clear hZ hbt
    cases hic : Nt.isCut x pA pB
    · have HIC := Lib.hid hic
      rw [hic] at htk
      have HTK := Lib.hid (htk.trans (if_neg (by decide)))
      clear hic htk
      go_enter Try.func7, Try.ntmps7
      go_wp2_with fail
      refine (take_any14 ((k : Nat)) _ HP4.out.is).mono ?_
      rintro e w5 ⟨rfl, v5, h5, hf5, hv5⟩
      rw [HTK.out]
      rw [HZ.out] at h5
      simp only [P.val, pzero]
      have HP5 := Lib.hid (HP4.out.net h5 hf5 hv5)
      have O50 := Lib.hid (O40.out.net hf5 hv5)
      have B50 := Lib.hid (B40.out.far hf5 O40.out.sd.1 O40.out.sd.2)
      have O51 := Lib.hid (O41.out.net hf5 hv5)
      have B51 := Lib.hid (B41.out.far hf5 O41.out.sd.1 O41.out.sd.2)
      have O52 := Lib.hid (O42.out.net hf5 hv5)
      have B52 := Lib.hid (B42.out.far hf5 O42.out.sd.1 O42.out.sd.2)
      have O53 := Lib.hid (O43.out.net hf5 hv5)
      have B53 := Lib.hid (B43.out.far hf5 O43.out.sd.1 O43.out.sd.2)
      clear h5 hf5 hv5
      have HP6 := Lib.hid (HP5.out.gr ((Gr.refl w5).alloc (.cells #[.int .i64 pA, .int .i64 pB, .string ps] 39)))
      have O60 := Lib.hid (O50.out.gr ((Gr.refl w5).alloc (.cells #[.int .i64 pA, .int .i64 pB, .string ps] 39)))
      have B60 := Lib.hid (B50.out.gr ((Gr.refl w5).alloc (.cells #[.int .i64 pA, .int .i64 pB, .string ps] 39)))
      have O61 := Lib.hid (O51.out.gr ((Gr.refl w5).alloc (.cells #[.int .i64 pA, .int .i64 pB, .string ps] 39)))
      have B61 := Lib.hid (B51.out.gr ((Gr.refl w5).alloc (.cells #[.int .i64 pA, .int .i64 pB, .string ps] 39)))
      have O62 := Lib.hid (O52.out.gr ((Gr.refl w5).alloc (.cells #[.int .i64 pA, .int .i64 pB, .string ps] 39)))
      have B62 := Lib.hid (B52.out.gr ((Gr.refl w5).alloc (.cells #[.int .i64 pA, .int .i64 pB, .string ps] 39)))
      have O63 := Lib.hid (O53.out.gr ((Gr.refl w5).alloc (.cells #[.int .i64 pA, .int .i64 pB, .string ps] 39)))
      have B63 := Lib.hid (B53.out.gr ((Gr.refl w5).alloc (.cells #[.int .i64 pA, .int .i64 pB, .string ps] 39)))
      have O64 := Lib.hid (Own.new HP5.out (.cells #[.int .i64 pA, .int .i64 pB, .string ps] 39))
      have B64 := Lib.hid (Blk.new w5 #[.int .i64 pA, .int .i64 pB, .string ps] 39)
      have hlt0 := O50.out.lt
      have hlt1 := O51.out.lt
      have hlt2 := O52.out.lt
      have hlt3 := O53.out.lt
      have x00 := B50.out.cell (i := 0) rfl
      have x01 := B50.out.cell (i := 1) rfl
      have x02 := B50.out.cell (i := 2) rfl
      have x10 := B51.out.cell (i := 0) rfl
      have x11 := B51.out.cell (i := 1) rfl
      have x12 := B51.out.cell (i := 2) rfl
      have x13 := B51.out.cell (i := 3) rfl
      have y00 := B50.out.free 0
      have y01 := B50.out.free 1
      have y02 := B50.out.free 2
      have x30 := B53.out.cell (i := 0) rfl
      have x31 := B53.out.cell (i := 1) rfl
      have x32 := B53.out.cell (i := 2) rfl
      go_wp2_with fail
      refine (refHas_any pA pB _ HP6.out.rf hc).mono ?_
      rintro e w7 ⟨rfl, hg7⟩
      rw [HIC.out]
      generalize hn5 : w5.heap.size = n5 at *
      clear x00 x01 x02 x10 x11 x12 x13 x30 x31 x32 y00 y01 y02
      have HP7 := Lib.hid (HP6.out.gr hg7)
      have O70 := Lib.hid (O60.out.gr hg7)
      have B70 := Lib.hid (B60.out.gr hg7)
      have O71 := Lib.hid (O61.out.gr hg7)
      have B71 := Lib.hid (B61.out.gr hg7)
      have O72 := Lib.hid (O62.out.gr hg7)
      have B72 := Lib.hid (B62.out.gr hg7)
      have O73 := Lib.hid (O63.out.gr hg7)
      have B73 := Lib.hid (B63.out.gr hg7)
      have O74 := Lib.hid (O64.out.gr hg7)
      have B74 := Lib.hid (B64.out.gr hg7)
      clear hg7
      have x00 := B70.out.cell (i := 0) rfl
      have x01 := B70.out.cell (i := 1) rfl
      have x02 := B70.out.cell (i := 2) rfl
      have x10 := B71.out.cell (i := 0) rfl
      have x11 := B71.out.cell (i := 1) rfl
      have x12 := B71.out.cell (i := 2) rfl
      have x13 := B71.out.cell (i := 3) rfl
      have y00 := B70.out.free 0
      have y01 := B70.out.free 1
      have y02 := B70.out.free 2
      go_wp2_with fail
      refine (refWithout_any ((k : Nat)) _ HP7.out.rf HT.out).mono ?_
      rintro e w8 ⟨rv8, rfl, hr8, hg8, hn8⟩
      rw [HZ.out] at hr8
      have HP2 := Lib.hid (HP7.out.ref hr8 hg8 hn8)
      have O20 := Lib.hid (O70.out.ref hg8 hn8)
      have B20 := Lib.hid (B70.out.gr hg8)
      have O21 := Lib.hid (O71.out.ref hg8 hn8)
      have B21 := Lib.hid (B71.out.gr hg8)
      have O22 := Lib.hid (O72.out.ref hg8 hn8)
      have B22 := Lib.hid (B72.out.gr hg8)
      have O23 := Lib.hid (O73.out.ref hg8 hn8)
      have B23 := Lib.hid (B73.out.gr hg8)
      have O24 := Lib.hid (O74.out.ref hg8 hn8)
      have B24 := Lib.hid (B74.out.gr hg8)
      clear hr8 hg8 hn8 x00 x01 x02 x10 x11 x12 x13 y00 y01 y02
      have hform := HP2.out.rf
      obtain ⟨⟨l7, c7, M7, hrv, g2, g3, _, _⟩, _⟩ := hform
      obtain ⟨la7, lc7, rfl, _⟩ := g2
      obtain ⟨ca7, cc7, rfl, _⟩ := g3
      subst hrv
      have x00 := B20.out.cell (i := 0) rfl
      have x01 := B20.out.cell (i := 1) rfl
      have x02 := B20.out.cell (i := 2) rfl
      have y00 := B20.out.free 0
      have y01 := B20.out.free 1
      have y02 := B20.out.free 2
      go_wp2_with fail
      have HP3 := Lib.hid (HP2.out.put3 O20.out (.int .i64 (Z.n : Nat)) (.slice la7 Z.L.length lc7) (.slice ca7 M7.length cc7))
      have O30 := Lib.hid (O20.out.put3 (m := w.heap.size) (.int .i64 (Z.n : Nat)) (.slice la7 Z.L.length lc7) (.slice ca7 M7.length cc7))
      have O31 := Lib.hid (O21.out.put3 (m := w.heap.size) (.int .i64 (Z.n : Nat)) (.slice la7 Z.L.length lc7) (.slice ca7 M7.length cc7))
      have O32 := Lib.hid (O22.out.put3 (m := w.heap.size) (.int .i64 (Z.n : Nat)) (.slice la7 Z.L.length lc7) (.slice ca7 M7.length cc7))
      have O33 := Lib.hid (O23.out.put3 (m := w.heap.size) (.int .i64 (Z.n : Nat)) (.slice la7 Z.L.length lc7) (.slice ca7 M7.length cc7))
      have O34 := Lib.hid (O24.out.put3 (m := w.heap.size) (.int .i64 (Z.n : Nat)) (.slice la7 Z.L.length lc7) (.slice ca7 M7.length cc7))
      have B30 := Lib.hid (B20.out.store3 (.int .i64 (Z.n : Nat)) (.slice la7 Z.L.length lc7) (.slice ca7 M7.length cc7))
      have B31 := Lib.hid (B21.out.apart3 (c := w.heap.size) (by omega) (.int .i64 (Z.n : Nat)) (.slice la7 Z.L.length lc7) (.slice ca7 M7.length cc7))
      have B32 := Lib.hid (B22.out.apart3 (c := w.heap.size) (by omega) (.int .i64 (Z.n : Nat)) (.slice la7 Z.L.length lc7) (.slice ca7 M7.length cc7))
      have B33 := Lib.hid (B23.out.apart3 (c := w.heap.size) (by omega) (.int .i64 (Z.n : Nat)) (.slice la7 Z.L.length lc7) (.slice ca7 M7.length cc7))
      have B34 := Lib.hid (B24.out.apart3 (c := w.heap.size) (by omega) (.int .i64 (Z.n : Nat)) (.slice la7 Z.L.length lc7) (.slice ca7 M7.length cc7))
      generalize ((w8.setCell ⟨w.heap.size, 0, none⟩ (.int .i64 (Z.n : Nat))).setCell ⟨w.heap.size, 1, none⟩ (.slice la7 Z.L.length lc7)).setCell ⟨w.heap.size, 2, none⟩ (.slice ca7 M7.length cc7) = w6 at *
      clear x00 x01 x02 y00 y01 y02
      have HP8 := Lib.hid (HP3.out.gr (Gr.refl _).drew)
      have O80 := Lib.hid (O30.out.gr (Gr.refl _).drew)
      have B80 := Lib.hid (B30.out.gr (Gr.refl _).drew)
      have O81 := Lib.hid (O31.out.gr (Gr.refl _).drew)
      have B81 := Lib.hid (B31.out.gr (Gr.refl _).drew)
      have O82 := Lib.hid (O32.out.gr (Gr.refl _).drew)
      have B82 := Lib.hid (B32.out.gr (Gr.refl _).drew)
      have O83 := Lib.hid (O33.out.gr (Gr.refl _).drew)
      have B83 := Lib.hid (B33.out.gr (Gr.refl _).drew)
      have O84 := Lib.hid (O34.out.gr (Gr.refl _).drew)
      have B84 := Lib.hid (B34.out.gr (Gr.refl _).drew)
      have QP8 := HP8
      have x20 := B32.out.cell (i := 0) rfl
      have x21 := B32.out.cell (i := 1) rfl
      have x22 := B32.out.cell (i := 2) rfl
      have y20 := B32.out.free 0
      have y21 := B32.out.free 1
      have y22 := B32.out.free 2
      refine wp_region_held_drew (S := (fun w9 => w9.cell? ⟨w.heap.size, 0, none⟩ = some (.int .i64 (Z.n : Nat)) ∧ w9.cell? ⟨w.heap.size, 1, none⟩ = some (.slice la7 Z.L.length lc7) ∧ w9.cell? ⟨w.heap.size, 2, none⟩ = some (.slice ca7 M7.length cc7) ∧ w9.cell? ⟨n5, 0, none⟩ = some (.int .i64 pA) ∧ w9.cell? ⟨n5, 1, none⟩ = some (.int .i64 pB) ∧ w9.cell? ⟨n5, 2, none⟩ = some (.string ps) ∧ w9.cell? ⟨w.heap.size + 1 + 1 + 1, 0, none⟩ = some (.int .i64 pA) ∧ w9.cell? ⟨w.heap.size + 1 + 1 + 1, 1, none⟩ = some (.int .i64 pB) ∧ w9.cell? ⟨w.heap.size + 1 + 1 + 1, 2, none⟩ = some (.string ps))) (by kernel_rfl) ?inva (fun h0 => ?_)
      case inva => ((try dsimp only); (exact ⟨B80.out.cell rfl, B80.out.cell rfl, B80.out.cell rfl, B84.out.cell rfl, B84.out.cell rfl, B84.out.cell rfl, B83.out.cell rfl, B83.out.cell rfl, B83.out.cell rfl⟩))
      refine wpAnyH_take (i := 0) (oi := { dst := some 95, op := Go.Op.load 29 (Go.Operand.tmp 4), type := 29, pos := "law.go:47", after := #[], guard := none }) (v := ?va1) rfl (by kernel_rfl) (by kernel_rfl) (by kernel_rfl) (fun _ _ _ h => h) (Or.inl ⟨by rfl, ?ra1⟩) (by assumption) ?_
      case ra1 => (intro w hSw; (try dsimp only at hSw); (go_simp <;> with_reducible rfl))
      try simp only [Act.put, List.setIfInBounds_toArray, List.set_cons_zero, List.set_cons_succ]
      refine wpAnyH_take (i := 1) (oi := { dst := some 96, op := Go.Op.move (Go.Operand.tmp 14), type := 4, pos := "law.go:47", after := #[], guard := none }) (v := ?va2) rfl (by kernel_rfl) (by kernel_rfl) (by kernel_rfl) (fun _ _ _ h => h) (Or.inl ⟨by rfl, ?ra2⟩) (by assumption) ?_
      case ra2 => (intro w hSw; (try dsimp only at hSw); (go_simp <;> with_reducible rfl))
      try simp only [Act.put, List.setIfInBounds_toArray, List.set_cons_zero, List.set_cons_succ]
      refine wpAnyH_take (i := 2) (oi := { dst := some 97, op := Go.Op.move (Go.Operand.tmp 96), type := 4, pos := "law.go:47", after := #[{ on := 1, ground := Go.Ground.data }], guard := none }) (v := ?va3) rfl (by kernel_rfl) (by kernel_rfl) (by kernel_rfl) (fun _ _ _ h => h) (Or.inl ⟨by rfl, ?ra3⟩) (by assumption) ?_
      case ra3 => (intro w hSw; (try dsimp only at hSw); (go_simp <;> with_reducible rfl))
      try simp only [Act.put, List.setIfInBounds_toArray, List.set_cons_zero, List.set_cons_succ]
      refine wpAnyH_take (i := 3) (oi := { dst := some 98, op := Go.Op.load 39 (Go.Operand.tmp 13), type := 39, pos := "law.go:47", after := #[{ on := 2, ground := Go.Ground.guard }, { on := 7, ground := Go.Ground.gcOnly Go.Departure.lateStores }], guard := some (2, true) }) (v := ?va4) rfl (by kernel_rfl) (by kernel_rfl) (by kernel_rfl) (fun _ _ _ h => h) (Or.inl ⟨by rfl, ?ra4⟩) (by assumption) ?_
      case ra4 => (intro w hSw; (try dsimp only at hSw); (go_simp <;> with_reducible rfl))
      try simp only [Act.put, List.setIfInBounds_toArray, List.set_cons_zero, List.set_cons_succ]
      refine wpAnyH_take (i := 4) (oi := { dst := some 99, op := Go.Op.load 50 (Go.Operand.tmp 9), type := 50, pos := "law.go:47", after := #[{ on := 2, ground := Go.Ground.guard }, { on := 7, ground := Go.Ground.gcOnly Go.Departure.lateStores }], guard := some (2, true) }) (v := ?va5) rfl (by kernel_rfl) (by kernel_rfl) (by kernel_rfl) (fun _ _ _ h => h) (Or.inl ⟨by rfl, ?ra5⟩) (by assumption) ?_
      case ra5 => (intro w hSw; (try dsimp only at hSw); (go_simp <;> with_reducible rfl))
      try simp only [Act.put, List.setIfInBounds_toArray, List.set_cons_zero, List.set_cons_succ]
      refine wpAnyH_take (i := 5) (oi := { dst := some 100, op := Go.Op.binOp Go.BinOp.eql 39 (Go.Operand.tmp 98) (Go.Operand.tmp 99) 39, type := 4, pos := "law.go:47", after := #[{ on := 3, ground := Go.Ground.data }, { on := 4, ground := Go.Ground.data }, { on := 2, ground := Go.Ground.guard }, { on := 7, ground := Go.Ground.gcOnly Go.Departure.lateStores }], guard := some (2, true) }) (v := ?va6) rfl (by kernel_rfl) (by kernel_rfl) (by kernel_rfl) (fun _ _ _ h => h) (Or.inl ⟨by rfl, ?ra6⟩) (by assumption) ?_
      case ra6 => (intro w hSw; (try dsimp only at hSw); (go_simp <;> with_reducible rfl))
      try simp only [Act.put, List.setIfInBounds_toArray, List.set_cons_zero, List.set_cons_succ]
      refine wpAnyH_take (i := 6) (oi := { dst := some 101, op := Go.Op.pick (Go.Operand.tmp 97) (Go.Operand.tmp 100) (Go.Operand.const (Go.Value.bool false)), type := 4, pos := "law.go:47", after := #[{ on := 2, ground := Go.Ground.data }, { on := 5, ground := Go.Ground.data }, { on := 7, ground := Go.Ground.gcOnly Go.Departure.lateStores }], guard := none }) (v := ?va7) rfl (by kernel_rfl) (by kernel_rfl) (by kernel_rfl) (fun _ _ _ h => h) (Or.inl ⟨by rfl, ?ra7⟩) (by assumption) ?_
      case ra7 => (intro w hSw; (try dsimp only at hSw); (go_simp <;> with_reducible rfl))
      try simp only [Act.put, List.setIfInBounds_toArray, List.set_cons_zero, List.set_cons_succ]
      refine wpAnyH_ready (rs := [7]) (by kernel_rfl) (by simp) ?_
      refine AllReadyH.cons (o := { dst := none, op := Go.Op.store 29 (Go.Operand.tmp 6) (Go.Operand.tmp 95), type := 0, pos := "law.go:47", after := #[{ on := 0, ground := Go.Ground.data }, { on := 2, ground := Go.Ground.chain }, { on := 0, ground := Go.Ground.phase }, { on := 1, ground := Go.Ground.textOnly Go.Departure.lateStores }, { on := 2, ground := Go.Ground.textOnly Go.Departure.lateStores }, { on := 3, ground := Go.Ground.textOnly Go.Departure.lateStores }, { on := 4, ground := Go.Ground.textOnly Go.Departure.lateStores }, { on := 5, ground := Go.Ground.textOnly Go.Departure.lateStores }, { on := 6, ground := Go.Ground.textOnly Go.Departure.lateStores }], guard := none }) rfl (fun K hK => ?_) AllReadyH.nil
      go_simp
      skip
      first | refine hK.out _ _ ?sa8 (fun h8 => ?_) | (go_wp2_with fail; refine hK.out _ _ ?sa8 (fun h8 => ?_))
      case sa8 => ((try dsimp only); (first | exact ⟨B80.out.cell rfl, B80.out.cell rfl, B80.out.cell rfl, B84.out.cell rfl, B84.out.cell rfl, B84.out.cell rfl, B83.out.cell rfl, B83.out.cell rfl, B83.out.cell rfl⟩ | exact ⟨(B80.out.apart3 (by omega) _ _ _).cell rfl, (B80.out.apart3 (by omega) _ _ _).cell rfl, (B80.out.apart3 (by omega) _ _ _).cell rfl, (B84.out.apart3 (by omega) _ _ _).cell rfl, (B84.out.apart3 (by omega) _ _ _).cell rfl, (B84.out.apart3 (by omega) _ _ _).cell rfl, (B83.out.apart3 (by omega) _ _ _).cell rfl, (B83.out.apart3 (by omega) _ _ _).cell rfl, (B83.out.apart3 (by omega) _ _ _).cell rfl⟩))
      clear hK K h0
      try simp only [Act.put, List.setIfInBounds_toArray, List.set_cons_zero, List.set_cons_succ]
      refine wpAnyH_take (i := 8) (oi := { dst := some 7, op := Go.Op.assign (Go.Operand.tmp 101), type := 4, pos := "law.go:47", after := #[{ on := 6, ground := Go.Ground.data }, { on := 7, ground := Go.Ground.chain }, { on := 0, ground := Go.Ground.phase }, { on := 1, ground := Go.Ground.phase }, { on := 2, ground := Go.Ground.phase }, { on := 3, ground := Go.Ground.phase }, { on := 4, ground := Go.Ground.phase }, { on := 5, ground := Go.Ground.phase }, { on := 6, ground := Go.Ground.phase }, { on := 7, ground := Go.Ground.phase }], guard := none }) (v := ?va9) rfl (by kernel_rfl) (by kernel_rfl) (by kernel_rfl) (fun _ _ _ h => h) (Or.inl ⟨by rfl, ?ra9⟩) (by assumption) ?_
      case ra9 => (intro w hSw; (try dsimp only at hSw); (go_simp <;> with_reducible rfl))
      try simp only [Act.put, List.setIfInBounds_toArray, List.set_cons_zero, List.set_cons_succ]
      refine wpAnyH_done (by kernel_rfl) ?_ _
      clear h8
      go_wp2
      refine bodyPost_ret (v := .tuple #[.agg #[.int .i64 (Z.n : Nat), .slice la7 Z.L.length lc7, .slice ca7 M7.length cc7], .bool true]) (by simp [results, Try.results7, go_sem, x20, x21, x22, y20, y21, y22]; try rfl) rfl ?_
      exact ((QP8.out.put3 O82.out _ _ _).most (by omega)).does
    · have HIC := Lib.hid hic
      rw [hic] at htk
      have HTK := Lib.hid (htk.trans (if_pos rfl))
      clear hic htk
      go_enter Try.func7, Try.ntmps7
      go_wp2_with fail
      refine (take_any14 ((k : Nat)) _ HP4.out.is).mono ?_
      rintro e w5 ⟨rfl, v5, h5, hf5, hv5⟩
      rw [HTK.out]
      rw [HZ.out] at h5
      simp only [P.val, pzero]
      have HP5 := Lib.hid (HP4.out.net h5 hf5 hv5)
      have O50 := Lib.hid (O40.out.net hf5 hv5)
      have B50 := Lib.hid (B40.out.far hf5 O40.out.sd.1 O40.out.sd.2)
      have O51 := Lib.hid (O41.out.net hf5 hv5)
      have B51 := Lib.hid (B41.out.far hf5 O41.out.sd.1 O41.out.sd.2)
      have O52 := Lib.hid (O42.out.net hf5 hv5)
      have B52 := Lib.hid (B42.out.far hf5 O42.out.sd.1 O42.out.sd.2)
      have O53 := Lib.hid (O43.out.net hf5 hv5)
      have B53 := Lib.hid (B43.out.far hf5 O43.out.sd.1 O43.out.sd.2)
      clear h5 hf5 hv5
      have HP6 := Lib.hid (HP5.out.gr ((Gr.refl w5).alloc (.cells #[.int .i64 0, .int .i64 0, .string ⟨#[]⟩] 39)))
      have O60 := Lib.hid (O50.out.gr ((Gr.refl w5).alloc (.cells #[.int .i64 0, .int .i64 0, .string ⟨#[]⟩] 39)))
      have B60 := Lib.hid (B50.out.gr ((Gr.refl w5).alloc (.cells #[.int .i64 0, .int .i64 0, .string ⟨#[]⟩] 39)))
      have O61 := Lib.hid (O51.out.gr ((Gr.refl w5).alloc (.cells #[.int .i64 0, .int .i64 0, .string ⟨#[]⟩] 39)))
      have B61 := Lib.hid (B51.out.gr ((Gr.refl w5).alloc (.cells #[.int .i64 0, .int .i64 0, .string ⟨#[]⟩] 39)))
      have O62 := Lib.hid (O52.out.gr ((Gr.refl w5).alloc (.cells #[.int .i64 0, .int .i64 0, .string ⟨#[]⟩] 39)))
      have B62 := Lib.hid (B52.out.gr ((Gr.refl w5).alloc (.cells #[.int .i64 0, .int .i64 0, .string ⟨#[]⟩] 39)))
      have O63 := Lib.hid (O53.out.gr ((Gr.refl w5).alloc (.cells #[.int .i64 0, .int .i64 0, .string ⟨#[]⟩] 39)))
      have B63 := Lib.hid (B53.out.gr ((Gr.refl w5).alloc (.cells #[.int .i64 0, .int .i64 0, .string ⟨#[]⟩] 39)))
      have O64 := Lib.hid (Own.new HP5.out (.cells #[.int .i64 0, .int .i64 0, .string ⟨#[]⟩] 39))
      have B64 := Lib.hid (Blk.new w5 #[.int .i64 0, .int .i64 0, .string ⟨#[]⟩] 39)
      have hlt0 := O50.out.lt
      have hlt1 := O51.out.lt
      have hlt2 := O52.out.lt
      have hlt3 := O53.out.lt
      have x00 := B50.out.cell (i := 0) rfl
      have x01 := B50.out.cell (i := 1) rfl
      have x02 := B50.out.cell (i := 2) rfl
      have x10 := B51.out.cell (i := 0) rfl
      have x11 := B51.out.cell (i := 1) rfl
      have x12 := B51.out.cell (i := 2) rfl
      have x13 := B51.out.cell (i := 3) rfl
      have y00 := B50.out.free 0
      have y01 := B50.out.free 1
      have y02 := B50.out.free 2
      have x30 := B53.out.cell (i := 0) rfl
      have x31 := B53.out.cell (i := 1) rfl
      have x32 := B53.out.cell (i := 2) rfl
      go_wp2_with fail
      refine (refHas_any pA pB _ HP6.out.rf hc).mono ?_
      rintro e w7 ⟨rfl, hg7⟩
      rw [HIC.out]
      generalize hn5 : w5.heap.size = n5 at *
      clear x00 x01 x02 x10 x11 x12 x13 x30 x31 x32 y00 y01 y02
      have HP7 := Lib.hid (HP6.out.gr hg7)
      have O70 := Lib.hid (O60.out.gr hg7)
      have B70 := Lib.hid (B60.out.gr hg7)
      have O71 := Lib.hid (O61.out.gr hg7)
      have B71 := Lib.hid (B61.out.gr hg7)
      have O72 := Lib.hid (O62.out.gr hg7)
      have B72 := Lib.hid (B62.out.gr hg7)
      have O73 := Lib.hid (O63.out.gr hg7)
      have B73 := Lib.hid (B63.out.gr hg7)
      have O74 := Lib.hid (O64.out.gr hg7)
      have B74 := Lib.hid (B64.out.gr hg7)
      clear hg7
      have x00 := B70.out.cell (i := 0) rfl
      have x01 := B70.out.cell (i := 1) rfl
      have x02 := B70.out.cell (i := 2) rfl
      have x10 := B71.out.cell (i := 0) rfl
      have x11 := B71.out.cell (i := 1) rfl
      have x12 := B71.out.cell (i := 2) rfl
      have x13 := B71.out.cell (i := 3) rfl
      have y00 := B70.out.free 0
      have y01 := B70.out.free 1
      have y02 := B70.out.free 2
      go_wp2_with fail
      refine (refWithout_any ((k : Nat)) _ HP7.out.rf HT.out).mono ?_
      rintro e w8 ⟨rv8, rfl, hr8, hg8, hn8⟩
      rw [HZ.out] at hr8
      have HP2 := Lib.hid (HP7.out.ref hr8 hg8 hn8)
      have O20 := Lib.hid (O70.out.ref hg8 hn8)
      have B20 := Lib.hid (B70.out.gr hg8)
      have O21 := Lib.hid (O71.out.ref hg8 hn8)
      have B21 := Lib.hid (B71.out.gr hg8)
      have O22 := Lib.hid (O72.out.ref hg8 hn8)
      have B22 := Lib.hid (B72.out.gr hg8)
      have O23 := Lib.hid (O73.out.ref hg8 hn8)
      have B23 := Lib.hid (B73.out.gr hg8)
      have O24 := Lib.hid (O74.out.ref hg8 hn8)
      have B24 := Lib.hid (B74.out.gr hg8)
      clear hr8 hg8 hn8 x00 x01 x02 x10 x11 x12 x13 y00 y01 y02
      have hform := HP2.out.rf
      obtain ⟨⟨l7, c7, M7, hrv, g2, g3, _, _⟩, _⟩ := hform
      obtain ⟨la7, lc7, rfl, _⟩ := g2
      obtain ⟨ca7, cc7, rfl, _⟩ := g3
      subst hrv
      have x00 := B20.out.cell (i := 0) rfl
      have x01 := B20.out.cell (i := 1) rfl
      have x02 := B20.out.cell (i := 2) rfl
      have y00 := B20.out.free 0
      have y01 := B20.out.free 1
      have y02 := B20.out.free 2
      go_wp2_with fail
      have HP3 := Lib.hid (HP2.out.put3 O20.out (.int .i64 (Z.n : Nat)) (.slice la7 Z.L.length lc7) (.slice ca7 M7.length cc7))
      have O30 := Lib.hid (O20.out.put3 (m := w.heap.size) (.int .i64 (Z.n : Nat)) (.slice la7 Z.L.length lc7) (.slice ca7 M7.length cc7))
      have O31 := Lib.hid (O21.out.put3 (m := w.heap.size) (.int .i64 (Z.n : Nat)) (.slice la7 Z.L.length lc7) (.slice ca7 M7.length cc7))
      have O32 := Lib.hid (O22.out.put3 (m := w.heap.size) (.int .i64 (Z.n : Nat)) (.slice la7 Z.L.length lc7) (.slice ca7 M7.length cc7))
      have O33 := Lib.hid (O23.out.put3 (m := w.heap.size) (.int .i64 (Z.n : Nat)) (.slice la7 Z.L.length lc7) (.slice ca7 M7.length cc7))
      have O34 := Lib.hid (O24.out.put3 (m := w.heap.size) (.int .i64 (Z.n : Nat)) (.slice la7 Z.L.length lc7) (.slice ca7 M7.length cc7))
      have B30 := Lib.hid (B20.out.store3 (.int .i64 (Z.n : Nat)) (.slice la7 Z.L.length lc7) (.slice ca7 M7.length cc7))
      have B31 := Lib.hid (B21.out.apart3 (c := w.heap.size) (by omega) (.int .i64 (Z.n : Nat)) (.slice la7 Z.L.length lc7) (.slice ca7 M7.length cc7))
      have B32 := Lib.hid (B22.out.apart3 (c := w.heap.size) (by omega) (.int .i64 (Z.n : Nat)) (.slice la7 Z.L.length lc7) (.slice ca7 M7.length cc7))
      have B33 := Lib.hid (B23.out.apart3 (c := w.heap.size) (by omega) (.int .i64 (Z.n : Nat)) (.slice la7 Z.L.length lc7) (.slice ca7 M7.length cc7))
      have B34 := Lib.hid (B24.out.apart3 (c := w.heap.size) (by omega) (.int .i64 (Z.n : Nat)) (.slice la7 Z.L.length lc7) (.slice ca7 M7.length cc7))
      generalize ((w8.setCell ⟨w.heap.size, 0, none⟩ (.int .i64 (Z.n : Nat))).setCell ⟨w.heap.size, 1, none⟩ (.slice la7 Z.L.length lc7)).setCell ⟨w.heap.size, 2, none⟩ (.slice ca7 M7.length cc7) = w6 at *
      clear x00 x01 x02 y00 y01 y02
      have HP8 := Lib.hid (HP3.out.gr (Gr.refl _).drew)
      have O80 := Lib.hid (O30.out.gr (Gr.refl _).drew)
      have B80 := Lib.hid (B30.out.gr (Gr.refl _).drew)
      have O81 := Lib.hid (O31.out.gr (Gr.refl _).drew)
      have B81 := Lib.hid (B31.out.gr (Gr.refl _).drew)
      have O82 := Lib.hid (O32.out.gr (Gr.refl _).drew)
      have B82 := Lib.hid (B32.out.gr (Gr.refl _).drew)
      have O83 := Lib.hid (O33.out.gr (Gr.refl _).drew)
      have B83 := Lib.hid (B33.out.gr (Gr.refl _).drew)
      have O84 := Lib.hid (O34.out.gr (Gr.refl _).drew)
      have B84 := Lib.hid (B34.out.gr (Gr.refl _).drew)
      have QP8 := HP8
      have x20 := B32.out.cell (i := 0) rfl
      have x21 := B32.out.cell (i := 1) rfl
      have x22 := B32.out.cell (i := 2) rfl
      have y20 := B32.out.free 0
      have y21 := B32.out.free 1
      have y22 := B32.out.free 2
      refine wp_region_held_drew (S := (fun w9 => w9.cell? ⟨w.heap.size, 0, none⟩ = some (.int .i64 (Z.n : Nat)) ∧ w9.cell? ⟨w.heap.size, 1, none⟩ = some (.slice la7 Z.L.length lc7) ∧ w9.cell? ⟨w.heap.size, 2, none⟩ = some (.slice ca7 M7.length cc7) ∧ w9.cell? ⟨n5, 0, none⟩ = some (.int .i64 0) ∧ w9.cell? ⟨n5, 1, none⟩ = some (.int .i64 0) ∧ w9.cell? ⟨n5, 2, none⟩ = some (.string ⟨#[]⟩))) (by kernel_rfl) ?invb (fun h0 => ?_)
      case invb => ((try dsimp only); (exact ⟨B80.out.cell rfl, B80.out.cell rfl, B80.out.cell rfl, B84.out.cell rfl, B84.out.cell rfl, B84.out.cell rfl⟩))
      refine wpAnyH_take (i := 0) (oi := { dst := some 87, op := Go.Op.load 29 (Go.Operand.tmp 4), type := 29, pos := "law.go:45", after := #[], guard := none }) (v := ?vb1) rfl (by kernel_rfl) (by kernel_rfl) (by kernel_rfl) (fun _ _ _ h => h) (Or.inl ⟨by rfl, ?rb1⟩) (by assumption) ?_
      case rb1 => (intro w hSw; (try dsimp only at hSw); (go_simp <;> with_reducible rfl))
      try simp only [Act.put, List.setIfInBounds_toArray, List.set_cons_zero, List.set_cons_succ]
      refine wpAnyH_take (i := 1) (oi := { dst := some 88, op := Go.Op.move (Go.Operand.tmp 14), type := 4, pos := "law.go:45", after := #[], guard := none }) (v := ?vb2) rfl (by kernel_rfl) (by kernel_rfl) (by kernel_rfl) (fun _ _ _ h => h) (Or.inl ⟨by rfl, ?rb2⟩) (by assumption) ?_
      case rb2 => (intro w hSw; (try dsimp only at hSw); (go_simp <;> with_reducible rfl))
      try simp only [Act.put, List.setIfInBounds_toArray, List.set_cons_zero, List.set_cons_succ]
      refine wpAnyH_take (i := 2) (oi := { dst := some 89, op := Go.Op.unOp Go.UnOp.not 4 (Go.Operand.tmp 88), type := 4, pos := "law.go:45", after := #[{ on := 1, ground := Go.Ground.data }], guard := none }) (v := ?vb3) rfl (by kernel_rfl) (by kernel_rfl) (by kernel_rfl) (fun _ _ _ h => h) (Or.inl ⟨by rfl, ?rb3⟩) (by assumption) ?_
      case rb3 => (intro w hSw; (try dsimp only at hSw); (go_simp <;> with_reducible rfl))
      try simp only [Act.put, List.setIfInBounds_toArray, List.set_cons_zero, List.set_cons_succ]
      refine wpAnyH_take (i := 3) (oi := { dst := some 90, op := Go.Op.move (Go.Operand.tmp 89), type := 4, pos := "law.go:45", after := #[{ on := 2, ground := Go.Ground.data }], guard := none }) (v := ?vb4) rfl (by kernel_rfl) (by kernel_rfl) (by kernel_rfl) (fun _ _ _ h => h) (Or.inl ⟨by rfl, ?rb4⟩) (by assumption) ?_
      case rb4 => (intro w hSw; (try dsimp only at hSw); (go_simp <;> with_reducible rfl))
      try simp only [Act.put, List.setIfInBounds_toArray, List.set_cons_zero, List.set_cons_succ]
      refine wpAnyH_take (i := 4) (oi := { dst := some 91, op := Go.Op.load 39 (Go.Operand.tmp 13), type := 39, pos := "law.go:45", after := #[{ on := 3, ground := Go.Ground.guard }, { on := 8, ground := Go.Ground.gcOnly Go.Departure.lateStores }], guard := some (3, true) }) (v := ?vb5) rfl (by kernel_rfl) (by kernel_rfl) (by kernel_rfl) (fun _ _ _ h => h) (Or.inl ⟨by rfl, ?rb5⟩) (by assumption) ?_
      case rb5 => (intro w hSw; (try dsimp only at hSw); (go_simp <;> with_reducible rfl))
      try simp only [Act.put, List.setIfInBounds_toArray, List.set_cons_zero, List.set_cons_succ]
      refine wpAnyH_take (i := 5) (oi := { dst := some 92, op := Go.Op.build 39 #[], type := 39, pos := "law.go:45", after := #[{ on := 3, ground := Go.Ground.guard }, { on := 8, ground := Go.Ground.gcOnly Go.Departure.lateStores }], guard := some (3, true) }) (v := ?vb6) rfl (by kernel_rfl) (by kernel_rfl) (by kernel_rfl) (fun _ _ _ h => h) (Or.inl ⟨by rfl, ?rb6⟩) (by assumption) ?_
      case rb6 => (intro w hSw; (try dsimp only at hSw); (go_simp <;> with_reducible rfl))
      try simp only [Act.put, List.setIfInBounds_toArray, List.set_cons_zero, List.set_cons_succ]
      refine wpAnyH_take (i := 6) (oi := { dst := some 93, op := Go.Op.binOp Go.BinOp.eql 39 (Go.Operand.tmp 91) (Go.Operand.tmp 92) 39, type := 4, pos := "law.go:45", after := #[{ on := 4, ground := Go.Ground.data }, { on := 5, ground := Go.Ground.data }, { on := 3, ground := Go.Ground.guard }, { on := 8, ground := Go.Ground.gcOnly Go.Departure.lateStores }], guard := some (3, true) }) (v := ?vb7) rfl (by kernel_rfl) (by kernel_rfl) (by kernel_rfl) (fun _ _ _ h => h) (Or.inl ⟨by rfl, ?rb7⟩) (by assumption) ?_
      case rb7 => (intro w hSw; (try dsimp only at hSw); (go_simp <;> with_reducible rfl))
      try simp only [Act.put, List.setIfInBounds_toArray, List.set_cons_zero, List.set_cons_succ]
      refine wpAnyH_take (i := 7) (oi := { dst := some 94, op := Go.Op.pick (Go.Operand.tmp 90) (Go.Operand.tmp 93) (Go.Operand.const (Go.Value.bool false)), type := 4, pos := "law.go:45", after := #[{ on := 3, ground := Go.Ground.data }, { on := 6, ground := Go.Ground.data }, { on := 8, ground := Go.Ground.gcOnly Go.Departure.lateStores }], guard := none }) (v := ?vb8) rfl (by kernel_rfl) (by kernel_rfl) (by kernel_rfl) (fun _ _ _ h => h) (Or.inl ⟨by rfl, ?rb8⟩) (by assumption) ?_
      case rb8 => (intro w hSw; (try dsimp only at hSw); (go_simp <;> with_reducible rfl))
      try simp only [Act.put, List.setIfInBounds_toArray, List.set_cons_zero, List.set_cons_succ]
      refine wpAnyH_ready (rs := [8]) (by kernel_rfl) (by simp) ?_
      refine AllReadyH.cons (o := { dst := none, op := Go.Op.store 29 (Go.Operand.tmp 6) (Go.Operand.tmp 87), type := 0, pos := "law.go:45", after := #[{ on := 0, ground := Go.Ground.data }, { on := 3, ground := Go.Ground.chain }, { on := 0, ground := Go.Ground.phase }, { on := 1, ground := Go.Ground.textOnly Go.Departure.lateStores }, { on := 2, ground := Go.Ground.textOnly Go.Departure.lateStores }, { on := 3, ground := Go.Ground.textOnly Go.Departure.lateStores }, { on := 4, ground := Go.Ground.textOnly Go.Departure.lateStores }, { on := 5, ground := Go.Ground.textOnly Go.Departure.lateStores }, { on := 6, ground := Go.Ground.textOnly Go.Departure.lateStores }, { on := 7, ground := Go.Ground.textOnly Go.Departure.lateStores }], guard := none }) rfl (fun K hK => ?_) AllReadyH.nil
      go_simp
      skip
      first | refine hK.out _ _ ?sb9 (fun h9 => ?_) | (go_wp2_with fail; refine hK.out _ _ ?sb9 (fun h9 => ?_))
      case sb9 => ((try dsimp only); (first | exact ⟨B80.out.cell rfl, B80.out.cell rfl, B80.out.cell rfl, B84.out.cell rfl, B84.out.cell rfl, B84.out.cell rfl⟩ | exact ⟨(B80.out.apart3 (by omega) _ _ _).cell rfl, (B80.out.apart3 (by omega) _ _ _).cell rfl, (B80.out.apart3 (by omega) _ _ _).cell rfl, (B84.out.apart3 (by omega) _ _ _).cell rfl, (B84.out.apart3 (by omega) _ _ _).cell rfl, (B84.out.apart3 (by omega) _ _ _).cell rfl⟩))
      clear hK K h0
      try simp only [Act.put, List.setIfInBounds_toArray, List.set_cons_zero, List.set_cons_succ]
      refine wpAnyH_take (i := 9) (oi := { dst := some 7, op := Go.Op.assign (Go.Operand.tmp 94), type := 4, pos := "law.go:45", after := #[{ on := 7, ground := Go.Ground.data }, { on := 8, ground := Go.Ground.chain }, { on := 0, ground := Go.Ground.phase }, { on := 1, ground := Go.Ground.phase }, { on := 2, ground := Go.Ground.phase }, { on := 3, ground := Go.Ground.phase }, { on := 4, ground := Go.Ground.phase }, { on := 5, ground := Go.Ground.phase }, { on := 6, ground := Go.Ground.phase }, { on := 7, ground := Go.Ground.phase }, { on := 8, ground := Go.Ground.phase }], guard := none }) (v := ?vb10) rfl (by kernel_rfl) (by kernel_rfl) (by kernel_rfl) (fun _ _ _ h => h) (Or.inl ⟨by rfl, ?rb10⟩) (by assumption) ?_
      case rb10 => (intro w hSw; (try dsimp only at hSw); (go_simp <;> with_reducible rfl))
      try simp only [Act.put, List.setIfInBounds_toArray, List.set_cons_zero, List.set_cons_succ]
      refine wpAnyH_done (by kernel_rfl) ?_ _
      clear h9
      go_wp2
      refine bodyPost_ret (v := .tuple #[.agg #[.int .i64 (Z.n : Nat), .slice la7 Z.L.length lc7, .slice ca7 M7.length cc7], .bool true]) (by simp [results, Try.results7, go_sem, x20, x21, x22, y20, y21, y22]; try rfl) rfl ?_
      exact ((QP8.out.put3 O82.out _ _ _).most (by omega)).does
  · have HT := Lib.hid (HTH.out.trans (decide_eq_false hth))
    clear HTH
    by_cases hA : 0 ≤ A
    · have hA2 : ¬ A < (ln : Int) := fun e => hth ⟨hA, e⟩
      clear hth
      have CF := Lib.hid (chain_facts HP0.out #[.int .i64 (n : Nat), .slice la ln lc, .slice ca cm cc] #[.int .i64 1, .int .i64 A, .int .i64 B, .string s] #[.int .i64 0, .slice none 0 0, .slice none 0 0] #[.int .i64 0, .int .i64 0, .string ⟨#[]⟩] 29 34 29 50)
      obtain ⟨hp4, o0, o1, o2, o3, b0, b1, b2, b3⟩ := CF.out
      have HP4 := Lib.hid hp4
      have O40 := Lib.hid o0
      have B40 := Lib.hid b0
      have O41 := Lib.hid o1
      have B41 := Lib.hid b1
      have O42 := Lib.hid o2
      have B42 := Lib.hid b2
      have O43 := Lib.hid o3
      have B43 := Lib.hid b3
      clear CF hp4 o0 o1 o2 o3 b0 b1 b2 b3
      have hbt := HT.out
      have htk := take_eq x (A)
      rw [hbt] at htk
      have HTK := Lib.hid (htk.trans (if_neg (by decide)))
      have HZ : Hid (Nt.drop x (A) = x) := Lib.hid (by unfold Nt.drop; rw [if_neg (by rw [hbt]; decide)])
      rw [HZ.out]
      clear hbt htk
      go_enter Try.func7, Try.ntmps7
      go_wp2_with fail
      refine (take_any14 (A) _ HP4.out.is).mono ?_
      rintro e w5 ⟨rfl, v5, h5, hf5, hv5⟩
      rw [HTK.out]
      rw [HZ.out] at h5
      simp only [P.val, pzero]
      have HP5 := Lib.hid (HP4.out.net h5 hf5 hv5)
      have O50 := Lib.hid (O40.out.net hf5 hv5)
      have B50 := Lib.hid (B40.out.far hf5 O40.out.sd.1 O40.out.sd.2)
      have O51 := Lib.hid (O41.out.net hf5 hv5)
      have B51 := Lib.hid (B41.out.far hf5 O41.out.sd.1 O41.out.sd.2)
      have O52 := Lib.hid (O42.out.net hf5 hv5)
      have B52 := Lib.hid (B42.out.far hf5 O42.out.sd.1 O42.out.sd.2)
      have O53 := Lib.hid (O43.out.net hf5 hv5)
      have B53 := Lib.hid (B43.out.far hf5 O43.out.sd.1 O43.out.sd.2)
      clear h5 hf5 hv5
      have HP6 := Lib.hid (HP5.out.gr ((Gr.refl w5).alloc (.cells #[.int .i64 0, .int .i64 0, .string ⟨#[]⟩] 39)))
      have O60 := Lib.hid (O50.out.gr ((Gr.refl w5).alloc (.cells #[.int .i64 0, .int .i64 0, .string ⟨#[]⟩] 39)))
      have B60 := Lib.hid (B50.out.gr ((Gr.refl w5).alloc (.cells #[.int .i64 0, .int .i64 0, .string ⟨#[]⟩] 39)))
      have O61 := Lib.hid (O51.out.gr ((Gr.refl w5).alloc (.cells #[.int .i64 0, .int .i64 0, .string ⟨#[]⟩] 39)))
      have B61 := Lib.hid (B51.out.gr ((Gr.refl w5).alloc (.cells #[.int .i64 0, .int .i64 0, .string ⟨#[]⟩] 39)))
      have O62 := Lib.hid (O52.out.gr ((Gr.refl w5).alloc (.cells #[.int .i64 0, .int .i64 0, .string ⟨#[]⟩] 39)))
      have B62 := Lib.hid (B52.out.gr ((Gr.refl w5).alloc (.cells #[.int .i64 0, .int .i64 0, .string ⟨#[]⟩] 39)))
      have O63 := Lib.hid (O53.out.gr ((Gr.refl w5).alloc (.cells #[.int .i64 0, .int .i64 0, .string ⟨#[]⟩] 39)))
      have B63 := Lib.hid (B53.out.gr ((Gr.refl w5).alloc (.cells #[.int .i64 0, .int .i64 0, .string ⟨#[]⟩] 39)))
      have O64 := Lib.hid (Own.new HP5.out (.cells #[.int .i64 0, .int .i64 0, .string ⟨#[]⟩] 39))
      have B64 := Lib.hid (Blk.new w5 #[.int .i64 0, .int .i64 0, .string ⟨#[]⟩] 39)
      have hlt0 := O50.out.lt
      have hlt1 := O51.out.lt
      have hlt2 := O52.out.lt
      have hlt3 := O53.out.lt
      have x00 := B50.out.cell (i := 0) rfl
      have x01 := B50.out.cell (i := 1) rfl
      have x02 := B50.out.cell (i := 2) rfl
      have x10 := B51.out.cell (i := 0) rfl
      have x11 := B51.out.cell (i := 1) rfl
      have x12 := B51.out.cell (i := 2) rfl
      have x13 := B51.out.cell (i := 3) rfl
      have y00 := B50.out.free 0
      have y01 := B50.out.free 1
      have y02 := B50.out.free 2
      go_wp2_with fail
      generalize hn5 : w5.heap.size = n5 at *
      generalize w5.alloc (.cells #[.int .i64 0, .int .i64 0, .string ⟨#[]⟩] 39) = w6 at *
      clear x00 x01 x02 x10 x11 x12 x13 y00 y01 y02
      have HP8 := Lib.hid (HP6.out.gr (Gr.refl _).drew)
      have O80 := Lib.hid (O60.out.gr (Gr.refl _).drew)
      have B80 := Lib.hid (B60.out.gr (Gr.refl _).drew)
      have O81 := Lib.hid (O61.out.gr (Gr.refl _).drew)
      have B81 := Lib.hid (B61.out.gr (Gr.refl _).drew)
      have O82 := Lib.hid (O62.out.gr (Gr.refl _).drew)
      have B82 := Lib.hid (B62.out.gr (Gr.refl _).drew)
      have O83 := Lib.hid (O63.out.gr (Gr.refl _).drew)
      have B83 := Lib.hid (B63.out.gr (Gr.refl _).drew)
      have O84 := Lib.hid (O64.out.gr (Gr.refl _).drew)
      have B84 := Lib.hid (B64.out.gr (Gr.refl _).drew)
      have QP8 := HP8
      have x20 := B62.out.cell (i := 0) rfl
      have x21 := B62.out.cell (i := 1) rfl
      have x22 := B62.out.cell (i := 2) rfl
      have y20 := B62.out.free 0
      have y21 := B62.out.free 1
      have y22 := B62.out.free 2
      refine wp_region_held_drew (S := (fun w9 => w9.cell? ⟨w.heap.size, 0, none⟩ = some (.int .i64 (n : Nat)) ∧ w9.cell? ⟨w.heap.size, 1, none⟩ = some (.slice la ln lc) ∧ w9.cell? ⟨w.heap.size, 2, none⟩ = some (.slice ca cm cc) ∧ w9.cell? ⟨n5, 0, none⟩ = some (.int .i64 0) ∧ w9.cell? ⟨n5, 1, none⟩ = some (.int .i64 0) ∧ w9.cell? ⟨n5, 2, none⟩ = some (.string ⟨#[]⟩))) (by kernel_rfl) ?invc (fun h0 => ?_)
      case invc => ((try dsimp only); (exact ⟨B80.out.cell rfl, B80.out.cell rfl, B80.out.cell rfl, B84.out.cell rfl, B84.out.cell rfl, B84.out.cell rfl⟩))
      refine wpAnyH_take (i := 0) (oi := { dst := some 87, op := Go.Op.load 29 (Go.Operand.tmp 4), type := 29, pos := "law.go:45", after := #[], guard := none }) (v := ?vc1) rfl (by kernel_rfl) (by kernel_rfl) (by kernel_rfl) (fun _ _ _ h => h) (Or.inl ⟨by rfl, ?rc1⟩) (by assumption) ?_
      case rc1 => (intro w hSw; (try dsimp only at hSw); (go_simp <;> with_reducible rfl))
      try simp only [Act.put, List.setIfInBounds_toArray, List.set_cons_zero, List.set_cons_succ]
      refine wpAnyH_take (i := 1) (oi := { dst := some 88, op := Go.Op.move (Go.Operand.tmp 14), type := 4, pos := "law.go:45", after := #[], guard := none }) (v := ?vc2) rfl (by kernel_rfl) (by kernel_rfl) (by kernel_rfl) (fun _ _ _ h => h) (Or.inl ⟨by rfl, ?rc2⟩) (by assumption) ?_
      case rc2 => (intro w hSw; (try dsimp only at hSw); (go_simp <;> with_reducible rfl))
      try simp only [Act.put, List.setIfInBounds_toArray, List.set_cons_zero, List.set_cons_succ]
      refine wpAnyH_take (i := 2) (oi := { dst := some 89, op := Go.Op.unOp Go.UnOp.not 4 (Go.Operand.tmp 88), type := 4, pos := "law.go:45", after := #[{ on := 1, ground := Go.Ground.data }], guard := none }) (v := ?vc3) rfl (by kernel_rfl) (by kernel_rfl) (by kernel_rfl) (fun _ _ _ h => h) (Or.inl ⟨by rfl, ?rc3⟩) (by assumption) ?_
      case rc3 => (intro w hSw; (try dsimp only at hSw); (go_simp <;> with_reducible rfl))
      try simp only [Act.put, List.setIfInBounds_toArray, List.set_cons_zero, List.set_cons_succ]
      refine wpAnyH_take (i := 3) (oi := { dst := some 90, op := Go.Op.move (Go.Operand.tmp 89), type := 4, pos := "law.go:45", after := #[{ on := 2, ground := Go.Ground.data }], guard := none }) (v := ?vc4) rfl (by kernel_rfl) (by kernel_rfl) (by kernel_rfl) (fun _ _ _ h => h) (Or.inl ⟨by rfl, ?rc4⟩) (by assumption) ?_
      case rc4 => (intro w hSw; (try dsimp only at hSw); (go_simp <;> with_reducible rfl))
      try simp only [Act.put, List.setIfInBounds_toArray, List.set_cons_zero, List.set_cons_succ]
      refine wpAnyH_take (i := 4) (oi := { dst := some 91, op := Go.Op.load 39 (Go.Operand.tmp 13), type := 39, pos := "law.go:45", after := #[{ on := 3, ground := Go.Ground.guard }, { on := 8, ground := Go.Ground.gcOnly Go.Departure.lateStores }], guard := some (3, true) }) (v := ?vc5) rfl (by kernel_rfl) (by kernel_rfl) (by kernel_rfl) (fun _ _ _ h => h) (Or.inl ⟨by rfl, ?rc5⟩) (by assumption) ?_
      case rc5 => (intro w hSw; (try dsimp only at hSw); (go_simp <;> with_reducible rfl))
      try simp only [Act.put, List.setIfInBounds_toArray, List.set_cons_zero, List.set_cons_succ]
      refine wpAnyH_take (i := 5) (oi := { dst := some 92, op := Go.Op.build 39 #[], type := 39, pos := "law.go:45", after := #[{ on := 3, ground := Go.Ground.guard }, { on := 8, ground := Go.Ground.gcOnly Go.Departure.lateStores }], guard := some (3, true) }) (v := ?vc6) rfl (by kernel_rfl) (by kernel_rfl) (by kernel_rfl) (fun _ _ _ h => h) (Or.inl ⟨by rfl, ?rc6⟩) (by assumption) ?_
      case rc6 => (intro w hSw; (try dsimp only at hSw); (go_simp <;> with_reducible rfl))
      try simp only [Act.put, List.setIfInBounds_toArray, List.set_cons_zero, List.set_cons_succ]
      refine wpAnyH_take (i := 6) (oi := { dst := some 93, op := Go.Op.binOp Go.BinOp.eql 39 (Go.Operand.tmp 91) (Go.Operand.tmp 92) 39, type := 4, pos := "law.go:45", after := #[{ on := 4, ground := Go.Ground.data }, { on := 5, ground := Go.Ground.data }, { on := 3, ground := Go.Ground.guard }, { on := 8, ground := Go.Ground.gcOnly Go.Departure.lateStores }], guard := some (3, true) }) (v := ?vc7) rfl (by kernel_rfl) (by kernel_rfl) (by kernel_rfl) (fun _ _ _ h => h) (Or.inl ⟨by rfl, ?rc7⟩) (by assumption) ?_
      case rc7 => (intro w hSw; (try dsimp only at hSw); (go_simp <;> with_reducible rfl))
      try simp only [Act.put, List.setIfInBounds_toArray, List.set_cons_zero, List.set_cons_succ]
      refine wpAnyH_take (i := 7) (oi := { dst := some 94, op := Go.Op.pick (Go.Operand.tmp 90) (Go.Operand.tmp 93) (Go.Operand.const (Go.Value.bool false)), type := 4, pos := "law.go:45", after := #[{ on := 3, ground := Go.Ground.data }, { on := 6, ground := Go.Ground.data }, { on := 8, ground := Go.Ground.gcOnly Go.Departure.lateStores }], guard := none }) (v := ?vc8) rfl (by kernel_rfl) (by kernel_rfl) (by kernel_rfl) (fun _ _ _ h => h) (Or.inl ⟨by rfl, ?rc8⟩) (by assumption) ?_
      case rc8 => (intro w hSw; (try dsimp only at hSw); (go_simp <;> with_reducible rfl))
      try simp only [Act.put, List.setIfInBounds_toArray, List.set_cons_zero, List.set_cons_succ]
      refine wpAnyH_ready (rs := [8]) (by kernel_rfl) (by simp) ?_
      refine AllReadyH.cons (o := { dst := none, op := Go.Op.store 29 (Go.Operand.tmp 6) (Go.Operand.tmp 87), type := 0, pos := "law.go:45", after := #[{ on := 0, ground := Go.Ground.data }, { on := 3, ground := Go.Ground.chain }, { on := 0, ground := Go.Ground.phase }, { on := 1, ground := Go.Ground.textOnly Go.Departure.lateStores }, { on := 2, ground := Go.Ground.textOnly Go.Departure.lateStores }, { on := 3, ground := Go.Ground.textOnly Go.Departure.lateStores }, { on := 4, ground := Go.Ground.textOnly Go.Departure.lateStores }, { on := 5, ground := Go.Ground.textOnly Go.Departure.lateStores }, { on := 6, ground := Go.Ground.textOnly Go.Departure.lateStores }, { on := 7, ground := Go.Ground.textOnly Go.Departure.lateStores }], guard := none }) rfl (fun K hK => ?_) AllReadyH.nil
      go_simp
      skip
      first | refine hK.out _ _ ?sc9 (fun h9 => ?_) | (go_wp2_with fail; refine hK.out _ _ ?sc9 (fun h9 => ?_))
      case sc9 => ((try dsimp only); (first | exact ⟨B80.out.cell rfl, B80.out.cell rfl, B80.out.cell rfl, B84.out.cell rfl, B84.out.cell rfl, B84.out.cell rfl⟩ | exact ⟨(B80.out.apart3 (by omega) _ _ _).cell rfl, (B80.out.apart3 (by omega) _ _ _).cell rfl, (B80.out.apart3 (by omega) _ _ _).cell rfl, (B84.out.apart3 (by omega) _ _ _).cell rfl, (B84.out.apart3 (by omega) _ _ _).cell rfl, (B84.out.apart3 (by omega) _ _ _).cell rfl⟩))
      clear hK K h0
      try simp only [Act.put, List.setIfInBounds_toArray, List.set_cons_zero, List.set_cons_succ]
      refine wpAnyH_take (i := 9) (oi := { dst := some 7, op := Go.Op.assign (Go.Operand.tmp 94), type := 4, pos := "law.go:45", after := #[{ on := 7, ground := Go.Ground.data }, { on := 8, ground := Go.Ground.chain }, { on := 0, ground := Go.Ground.phase }, { on := 1, ground := Go.Ground.phase }, { on := 2, ground := Go.Ground.phase }, { on := 3, ground := Go.Ground.phase }, { on := 4, ground := Go.Ground.phase }, { on := 5, ground := Go.Ground.phase }, { on := 6, ground := Go.Ground.phase }, { on := 7, ground := Go.Ground.phase }, { on := 8, ground := Go.Ground.phase }], guard := none }) (v := ?vc10) rfl (by kernel_rfl) (by kernel_rfl) (by kernel_rfl) (fun _ _ _ h => h) (Or.inl ⟨by rfl, ?rc10⟩) (by assumption) ?_
      case rc10 => (intro w hSw; (try dsimp only at hSw); (go_simp <;> with_reducible rfl))
      try simp only [Act.put, List.setIfInBounds_toArray, List.set_cons_zero, List.set_cons_succ]
      refine wpAnyH_done (by kernel_rfl) ?_ _
      clear h9
      go_wp2
      refine bodyPost_ret (v := .tuple #[.agg #[.int .i64 (n : Nat), .slice la ln lc, .slice ca cm cc], .bool true]) (by simp [results, Try.results7, go_sem, x20, x21, x22, y20, y21, y22]; try rfl) rfl ?_
      exact ((QP8.out.put3 O82.out _ _ _).most (by omega)).does
    · clear hth
      have CF := Lib.hid (chain_facts HP0.out #[.int .i64 (n : Nat), .slice la ln lc, .slice ca cm cc] #[.int .i64 1, .int .i64 A, .int .i64 B, .string s] #[.int .i64 0, .slice none 0 0, .slice none 0 0] #[.int .i64 0, .int .i64 0, .string ⟨#[]⟩] 29 34 29 50)
      obtain ⟨hp4, o0, o1, o2, o3, b0, b1, b2, b3⟩ := CF.out
      have HP4 := Lib.hid hp4
      have O40 := Lib.hid o0
      have B40 := Lib.hid b0
      have O41 := Lib.hid o1
      have B41 := Lib.hid b1
      have O42 := Lib.hid o2
      have B42 := Lib.hid b2
      have O43 := Lib.hid o3
      have B43 := Lib.hid b3
      clear CF hp4 o0 o1 o2 o3 b0 b1 b2 b3
      have hbt := HT.out
      have htk := take_eq x (A)
      rw [hbt] at htk
      have HTK := Lib.hid (htk.trans (if_neg (by decide)))
      have HZ : Hid (Nt.drop x (A) = x) := Lib.hid (by unfold Nt.drop; rw [if_neg (by rw [hbt]; decide)])
      rw [HZ.out]
      clear hbt htk
      go_enter Try.func7, Try.ntmps7
      go_wp2_with fail
      refine (take_any14 (A) _ HP4.out.is).mono ?_
      rintro e w5 ⟨rfl, v5, h5, hf5, hv5⟩
      rw [HTK.out]
      rw [HZ.out] at h5
      simp only [P.val, pzero]
      have HP5 := Lib.hid (HP4.out.net h5 hf5 hv5)
      have O50 := Lib.hid (O40.out.net hf5 hv5)
      have B50 := Lib.hid (B40.out.far hf5 O40.out.sd.1 O40.out.sd.2)
      have O51 := Lib.hid (O41.out.net hf5 hv5)
      have B51 := Lib.hid (B41.out.far hf5 O41.out.sd.1 O41.out.sd.2)
      have O52 := Lib.hid (O42.out.net hf5 hv5)
      have B52 := Lib.hid (B42.out.far hf5 O42.out.sd.1 O42.out.sd.2)
      have O53 := Lib.hid (O43.out.net hf5 hv5)
      have B53 := Lib.hid (B43.out.far hf5 O43.out.sd.1 O43.out.sd.2)
      clear h5 hf5 hv5
      have HP6 := Lib.hid (HP5.out.gr ((Gr.refl w5).alloc (.cells #[.int .i64 0, .int .i64 0, .string ⟨#[]⟩] 39)))
      have O60 := Lib.hid (O50.out.gr ((Gr.refl w5).alloc (.cells #[.int .i64 0, .int .i64 0, .string ⟨#[]⟩] 39)))
      have B60 := Lib.hid (B50.out.gr ((Gr.refl w5).alloc (.cells #[.int .i64 0, .int .i64 0, .string ⟨#[]⟩] 39)))
      have O61 := Lib.hid (O51.out.gr ((Gr.refl w5).alloc (.cells #[.int .i64 0, .int .i64 0, .string ⟨#[]⟩] 39)))
      have B61 := Lib.hid (B51.out.gr ((Gr.refl w5).alloc (.cells #[.int .i64 0, .int .i64 0, .string ⟨#[]⟩] 39)))
      have O62 := Lib.hid (O52.out.gr ((Gr.refl w5).alloc (.cells #[.int .i64 0, .int .i64 0, .string ⟨#[]⟩] 39)))
      have B62 := Lib.hid (B52.out.gr ((Gr.refl w5).alloc (.cells #[.int .i64 0, .int .i64 0, .string ⟨#[]⟩] 39)))
      have O63 := Lib.hid (O53.out.gr ((Gr.refl w5).alloc (.cells #[.int .i64 0, .int .i64 0, .string ⟨#[]⟩] 39)))
      have B63 := Lib.hid (B53.out.gr ((Gr.refl w5).alloc (.cells #[.int .i64 0, .int .i64 0, .string ⟨#[]⟩] 39)))
      have O64 := Lib.hid (Own.new HP5.out (.cells #[.int .i64 0, .int .i64 0, .string ⟨#[]⟩] 39))
      have B64 := Lib.hid (Blk.new w5 #[.int .i64 0, .int .i64 0, .string ⟨#[]⟩] 39)
      have hlt0 := O50.out.lt
      have hlt1 := O51.out.lt
      have hlt2 := O52.out.lt
      have hlt3 := O53.out.lt
      have x00 := B50.out.cell (i := 0) rfl
      have x01 := B50.out.cell (i := 1) rfl
      have x02 := B50.out.cell (i := 2) rfl
      have x10 := B51.out.cell (i := 0) rfl
      have x11 := B51.out.cell (i := 1) rfl
      have x12 := B51.out.cell (i := 2) rfl
      have x13 := B51.out.cell (i := 3) rfl
      have y00 := B50.out.free 0
      have y01 := B50.out.free 1
      have y02 := B50.out.free 2
      go_wp2_with fail
      generalize hn5 : w5.heap.size = n5 at *
      generalize w5.alloc (.cells #[.int .i64 0, .int .i64 0, .string ⟨#[]⟩] 39) = w6 at *
      clear x00 x01 x02 x10 x11 x12 x13 y00 y01 y02
      have HP8 := Lib.hid (HP6.out.gr (Gr.refl _).drew)
      have O80 := Lib.hid (O60.out.gr (Gr.refl _).drew)
      have B80 := Lib.hid (B60.out.gr (Gr.refl _).drew)
      have O81 := Lib.hid (O61.out.gr (Gr.refl _).drew)
      have B81 := Lib.hid (B61.out.gr (Gr.refl _).drew)
      have O82 := Lib.hid (O62.out.gr (Gr.refl _).drew)
      have B82 := Lib.hid (B62.out.gr (Gr.refl _).drew)
      have O83 := Lib.hid (O63.out.gr (Gr.refl _).drew)
      have B83 := Lib.hid (B63.out.gr (Gr.refl _).drew)
      have O84 := Lib.hid (O64.out.gr (Gr.refl _).drew)
      have B84 := Lib.hid (B64.out.gr (Gr.refl _).drew)
      have QP8 := HP8
      have x20 := B62.out.cell (i := 0) rfl
      have x21 := B62.out.cell (i := 1) rfl
      have x22 := B62.out.cell (i := 2) rfl
      have y20 := B62.out.free 0
      have y21 := B62.out.free 1
      have y22 := B62.out.free 2
      refine wp_region_held_drew (S := (fun w9 => w9.cell? ⟨w.heap.size, 0, none⟩ = some (.int .i64 (n : Nat)) ∧ w9.cell? ⟨w.heap.size, 1, none⟩ = some (.slice la ln lc) ∧ w9.cell? ⟨w.heap.size, 2, none⟩ = some (.slice ca cm cc) ∧ w9.cell? ⟨n5, 0, none⟩ = some (.int .i64 0) ∧ w9.cell? ⟨n5, 1, none⟩ = some (.int .i64 0) ∧ w9.cell? ⟨n5, 2, none⟩ = some (.string ⟨#[]⟩))) (by kernel_rfl) ?invc (fun h0 => ?_)
      case invc => ((try dsimp only); (exact ⟨B80.out.cell rfl, B80.out.cell rfl, B80.out.cell rfl, B84.out.cell rfl, B84.out.cell rfl, B84.out.cell rfl⟩))
      refine wpAnyH_take (i := 0) (oi := { dst := some 87, op := Go.Op.load 29 (Go.Operand.tmp 4), type := 29, pos := "law.go:45", after := #[], guard := none }) (v := ?vc1) rfl (by kernel_rfl) (by kernel_rfl) (by kernel_rfl) (fun _ _ _ h => h) (Or.inl ⟨by rfl, ?rc1⟩) (by assumption) ?_
      case rc1 => (intro w hSw; (try dsimp only at hSw); (go_simp <;> with_reducible rfl))
      try simp only [Act.put, List.setIfInBounds_toArray, List.set_cons_zero, List.set_cons_succ]
      refine wpAnyH_take (i := 1) (oi := { dst := some 88, op := Go.Op.move (Go.Operand.tmp 14), type := 4, pos := "law.go:45", after := #[], guard := none }) (v := ?vc2) rfl (by kernel_rfl) (by kernel_rfl) (by kernel_rfl) (fun _ _ _ h => h) (Or.inl ⟨by rfl, ?rc2⟩) (by assumption) ?_
      case rc2 => (intro w hSw; (try dsimp only at hSw); (go_simp <;> with_reducible rfl))
      try simp only [Act.put, List.setIfInBounds_toArray, List.set_cons_zero, List.set_cons_succ]
      refine wpAnyH_take (i := 2) (oi := { dst := some 89, op := Go.Op.unOp Go.UnOp.not 4 (Go.Operand.tmp 88), type := 4, pos := "law.go:45", after := #[{ on := 1, ground := Go.Ground.data }], guard := none }) (v := ?vc3) rfl (by kernel_rfl) (by kernel_rfl) (by kernel_rfl) (fun _ _ _ h => h) (Or.inl ⟨by rfl, ?rc3⟩) (by assumption) ?_
      case rc3 => (intro w hSw; (try dsimp only at hSw); (go_simp <;> with_reducible rfl))
      try simp only [Act.put, List.setIfInBounds_toArray, List.set_cons_zero, List.set_cons_succ]
      refine wpAnyH_take (i := 3) (oi := { dst := some 90, op := Go.Op.move (Go.Operand.tmp 89), type := 4, pos := "law.go:45", after := #[{ on := 2, ground := Go.Ground.data }], guard := none }) (v := ?vc4) rfl (by kernel_rfl) (by kernel_rfl) (by kernel_rfl) (fun _ _ _ h => h) (Or.inl ⟨by rfl, ?rc4⟩) (by assumption) ?_
      case rc4 => (intro w hSw; (try dsimp only at hSw); (go_simp <;> with_reducible rfl))
      try simp only [Act.put, List.setIfInBounds_toArray, List.set_cons_zero, List.set_cons_succ]
      refine wpAnyH_take (i := 4) (oi := { dst := some 91, op := Go.Op.load 39 (Go.Operand.tmp 13), type := 39, pos := "law.go:45", after := #[{ on := 3, ground := Go.Ground.guard }, { on := 8, ground := Go.Ground.gcOnly Go.Departure.lateStores }], guard := some (3, true) }) (v := ?vc5) rfl (by kernel_rfl) (by kernel_rfl) (by kernel_rfl) (fun _ _ _ h => h) (Or.inl ⟨by rfl, ?rc5⟩) (by assumption) ?_
      case rc5 => (intro w hSw; (try dsimp only at hSw); (go_simp <;> with_reducible rfl))
      try simp only [Act.put, List.setIfInBounds_toArray, List.set_cons_zero, List.set_cons_succ]
      refine wpAnyH_take (i := 5) (oi := { dst := some 92, op := Go.Op.build 39 #[], type := 39, pos := "law.go:45", after := #[{ on := 3, ground := Go.Ground.guard }, { on := 8, ground := Go.Ground.gcOnly Go.Departure.lateStores }], guard := some (3, true) }) (v := ?vc6) rfl (by kernel_rfl) (by kernel_rfl) (by kernel_rfl) (fun _ _ _ h => h) (Or.inl ⟨by rfl, ?rc6⟩) (by assumption) ?_
      case rc6 => (intro w hSw; (try dsimp only at hSw); (go_simp <;> with_reducible rfl))
      try simp only [Act.put, List.setIfInBounds_toArray, List.set_cons_zero, List.set_cons_succ]
      refine wpAnyH_take (i := 6) (oi := { dst := some 93, op := Go.Op.binOp Go.BinOp.eql 39 (Go.Operand.tmp 91) (Go.Operand.tmp 92) 39, type := 4, pos := "law.go:45", after := #[{ on := 4, ground := Go.Ground.data }, { on := 5, ground := Go.Ground.data }, { on := 3, ground := Go.Ground.guard }, { on := 8, ground := Go.Ground.gcOnly Go.Departure.lateStores }], guard := some (3, true) }) (v := ?vc7) rfl (by kernel_rfl) (by kernel_rfl) (by kernel_rfl) (fun _ _ _ h => h) (Or.inl ⟨by rfl, ?rc7⟩) (by assumption) ?_
      case rc7 => (intro w hSw; (try dsimp only at hSw); (go_simp <;> with_reducible rfl))
      try simp only [Act.put, List.setIfInBounds_toArray, List.set_cons_zero, List.set_cons_succ]
      refine wpAnyH_take (i := 7) (oi := { dst := some 94, op := Go.Op.pick (Go.Operand.tmp 90) (Go.Operand.tmp 93) (Go.Operand.const (Go.Value.bool false)), type := 4, pos := "law.go:45", after := #[{ on := 3, ground := Go.Ground.data }, { on := 6, ground := Go.Ground.data }, { on := 8, ground := Go.Ground.gcOnly Go.Departure.lateStores }], guard := none }) (v := ?vc8) rfl (by kernel_rfl) (by kernel_rfl) (by kernel_rfl) (fun _ _ _ h => h) (Or.inl ⟨by rfl, ?rc8⟩) (by assumption) ?_
      case rc8 => (intro w hSw; (try dsimp only at hSw); (go_simp <;> with_reducible rfl))
      try simp only [Act.put, List.setIfInBounds_toArray, List.set_cons_zero, List.set_cons_succ]
      refine wpAnyH_ready (rs := [8]) (by kernel_rfl) (by simp) ?_
      refine AllReadyH.cons (o := { dst := none, op := Go.Op.store 29 (Go.Operand.tmp 6) (Go.Operand.tmp 87), type := 0, pos := "law.go:45", after := #[{ on := 0, ground := Go.Ground.data }, { on := 3, ground := Go.Ground.chain }, { on := 0, ground := Go.Ground.phase }, { on := 1, ground := Go.Ground.textOnly Go.Departure.lateStores }, { on := 2, ground := Go.Ground.textOnly Go.Departure.lateStores }, { on := 3, ground := Go.Ground.textOnly Go.Departure.lateStores }, { on := 4, ground := Go.Ground.textOnly Go.Departure.lateStores }, { on := 5, ground := Go.Ground.textOnly Go.Departure.lateStores }, { on := 6, ground := Go.Ground.textOnly Go.Departure.lateStores }, { on := 7, ground := Go.Ground.textOnly Go.Departure.lateStores }], guard := none }) rfl (fun K hK => ?_) AllReadyH.nil
      go_simp
      skip
      first | refine hK.out _ _ ?sc9 (fun h9 => ?_) | (go_wp2_with fail; refine hK.out _ _ ?sc9 (fun h9 => ?_))
      case sc9 => ((try dsimp only); (first | exact ⟨B80.out.cell rfl, B80.out.cell rfl, B80.out.cell rfl, B84.out.cell rfl, B84.out.cell rfl, B84.out.cell rfl⟩ | exact ⟨(B80.out.apart3 (by omega) _ _ _).cell rfl, (B80.out.apart3 (by omega) _ _ _).cell rfl, (B80.out.apart3 (by omega) _ _ _).cell rfl, (B84.out.apart3 (by omega) _ _ _).cell rfl, (B84.out.apart3 (by omega) _ _ _).cell rfl, (B84.out.apart3 (by omega) _ _ _).cell rfl⟩))
      clear hK K h0
      try simp only [Act.put, List.setIfInBounds_toArray, List.set_cons_zero, List.set_cons_succ]
      refine wpAnyH_take (i := 9) (oi := { dst := some 7, op := Go.Op.assign (Go.Operand.tmp 94), type := 4, pos := "law.go:45", after := #[{ on := 7, ground := Go.Ground.data }, { on := 8, ground := Go.Ground.chain }, { on := 0, ground := Go.Ground.phase }, { on := 1, ground := Go.Ground.phase }, { on := 2, ground := Go.Ground.phase }, { on := 3, ground := Go.Ground.phase }, { on := 4, ground := Go.Ground.phase }, { on := 5, ground := Go.Ground.phase }, { on := 6, ground := Go.Ground.phase }, { on := 7, ground := Go.Ground.phase }, { on := 8, ground := Go.Ground.phase }], guard := none }) (v := ?vc10) rfl (by kernel_rfl) (by kernel_rfl) (by kernel_rfl) (fun _ _ _ h => h) (Or.inl ⟨by rfl, ?rc10⟩) (by assumption) ?_
      case rc10 => (intro w hSw; (try dsimp only at hSw); (go_simp <;> with_reducible rfl))
      try simp only [Act.put, List.setIfInBounds_toArray, List.set_cons_zero, List.set_cons_succ]
      refine wpAnyH_done (by kernel_rfl) ?_ _
      clear h9
      go_wp2
      refine bodyPost_ret (v := .tuple #[.agg #[.int .i64 (n : Nat), .slice la ln lc, .slice ca cm cc], .bool true]) (by simp [results, Try.results7, go_sem, x20, x21, x22, y20, y21, y22]; try rfl) rfl ?_
      exact ((QP8.out.put3 O82.out _ _ _).most (by omega)).does
end Go.Proofs.Ytahohgnkichibab
