import Derived.Test.YtnanclgnjchpeaaF07f
import Derived.WalkKit
import Derived.ProofKit
import Derived.LoopTactic
import Derived.Outline
import Derived.WalkSpells
import Derived.WalkLawsBesides
import Derived.Lib.Hide
import Derived.Deep.LoopGhost
import Derived.Deep.QuietTactic
import Derived.BigQuiet
import Derived.ShutString
import Derived.IntWalk
import Derived.Deep.RegionHeld3
namespace Go.Proofs.Ytnanclgnjchpeaa
open Go.ChangeShapes Go.WideShapes Go.ChangeAt Go.RowKit
open Grids
set_option linter.unusedVariables false
set_option linter.unusedSimpArgs false
set_option maxRecDepth 100000 in
theorem isQuorum_bad (R P W z1 n1 z2 n2 z n s : Int) (w : World) (h : ChkIs R P W z1 n1 z2 n2 12) :
    Calls Try.prog 198 #[.agg #[.int .i64 R, .int .i64 P, .int .u32 W, .int .i64 z1, .int .i64 n1, .int .i64 z2, .int .i64 n2], .agg #[.int .i64 z, .int .i64 n], .int .u32 s] w fun e w' => e = .returned (.bool false) ∧ Gr w w' := by
  have c1 := Lib.hid h
  clear h
  go_enter Try.func198, Try.ntmps198
  go_wp2_with fail
  refine (c1.out _).mono ?_
  rintro e w1 ⟨rfl, hg⟩
  go_wp2
  go_ret
  exact ⟨rfl, (((Gr.refl _).alloc _).alloc _).trans hg⟩
set_option maxRecDepth 100000 in
set_option maxHeartbeats 2000000 in
theorem isQuorum_any (r p W z1 n1 z2 n2 z n s : Nat) (w : World) (hr : 1 ≤ r ∧ r ≤ 4) (hp : 1 ≤ p ∧ p ≤ 4) (hn : r * p ≤ 12) (hs : s < 4294967296) (hz : z ≤ 4) (hn' : n ≤ 4) (hC : ChkIs r p W z1 n1 z2 n2 0) :
    Calls Try.prog 198 #[.agg #[.int .i64 r, .int .i64 p, .int .u32 W, .int .i64 z1, .int .i64 n1, .int .i64 z2, .int .i64 n2], .agg #[.int .i64 z, .int .i64 n], .int .u32 s] w fun e w' => e = .returned (.bool (isQ r p z n s)) ∧ Gr w w' := by
  have c1 := Lib.hid hC
  clear hC
  have HM := Lib.hid (show isQ r p z n s = decide (z ≤ cnt (fun i => decide (n ≤ regC p s i)) r) from rfl)
  rw [HM.out]; clear HM
  have HL := Lib.hid (fun k => show (fun i => decide (n ≤ regC p s i)) k = decide (n ≤ regC p s k) from rfl)
  generalize (fun i => decide (n ≤ regC p s i)) = Lo at *
  have HC := Lib.hid (fun k => cnt_le Lo k)
  have HK := Lib.hid (fun k => show cnt Lo (k + 1) = cnt Lo k + (if Lo k then 1 else 0) from rfl)
  have HC0 := Lib.hid (show cnt Lo 0 = 0 from rfl)
  generalize cnt Lo = C at *
  go_enter Try.func198, Try.ntmps198
  go_wp2_with fail
  refine (c1.out _).mono ?_
  rintro e w1 ⟨rfl, hg⟩
  have HG0 := Lib.hid ((((Gr.refl w).alloc (.cells #[.int .i64 r, .int .i64 p, .int .u32 W, .int .i64 z1, .int .i64 n1, .int .i64 z2, .int .i64 n2] 188)).alloc (.cells #[.int .i64 z, .int .i64 n] 185)).trans hg)
  have hgA := ((Gr.refl (w.alloc (.cells #[.int .i64 r, .int .i64 p, .int .u32 W, .int .i64 z1, .int .i64 n1, .int .i64 z2, .int .i64 n2] 188))).alloc (.cells #[.int .i64 z, .int .i64 n] 185)).trans hg
  have k0 := hgA.own.1 0 _ rfl
  have k1 := hgA.own.1 1 _ rfl
  have k2 := hgA.own.1 2 _ rfl
  have k3 := hgA.own.1 3 _ rfl
  have k4 := hgA.own.1 4 _ rfl
  have k5 := hgA.own.1 5 _ rfl
  have k6 := hgA.own.1 6 _ rfl
  have j0 := hg.own.1 0 _ rfl
  have j1 := hg.own.1 1 _ rfl
  have hsz : (w.alloc (.cells #[.int .i64 r, .int .i64 p, .int .u32 W, .int .i64 z1, .int .i64 n1, .int .i64 z2, .int .i64 n2] 188)).heap.size = w.heap.size + 1 := by simp
  rw [hsz] at j0 j1
  clear hsz hg hgA c1
  generalize w.heap.size = b at *
  generalize w1 = wz at *
  have HX : Hid (∀ w0 w9 : World, Gr w0 w9 → (fun w9 => Gr wz w9 ∧ w9.cell? ⟨b, 0, none⟩ = some (.int .i64 (r : Nat)) ∧ w9.cell? ⟨b, 1, none⟩ = some (.int .i64 (p : Nat)) ∧ w9.cell? ⟨b, 2, none⟩ = some (.int .u32 (W : Nat)) ∧ w9.cell? ⟨b, 3, none⟩ = some (.int .i64 (z1 : Nat)) ∧ w9.cell? ⟨b, 4, none⟩ = some (.int .i64 (n1 : Nat)) ∧ w9.cell? ⟨b, 5, none⟩ = some (.int .i64 (z2 : Nat)) ∧ w9.cell? ⟨b, 6, none⟩ = some (.int .i64 (n2 : Nat)) ∧ w9.cell? ⟨b + 1, 0, none⟩ = some (.int .i64 (z : Nat)) ∧ w9.cell? ⟨b + 1, 1, none⟩ = some (.int .i64 (n : Nat))) w0 → (fun w9 => Gr wz w9 ∧ w9.cell? ⟨b, 0, none⟩ = some (.int .i64 (r : Nat)) ∧ w9.cell? ⟨b, 1, none⟩ = some (.int .i64 (p : Nat)) ∧ w9.cell? ⟨b, 2, none⟩ = some (.int .u32 (W : Nat)) ∧ w9.cell? ⟨b, 3, none⟩ = some (.int .i64 (z1 : Nat)) ∧ w9.cell? ⟨b, 4, none⟩ = some (.int .i64 (n1 : Nat)) ∧ w9.cell? ⟨b, 5, none⟩ = some (.int .i64 (z2 : Nat)) ∧ w9.cell? ⟨b, 6, none⟩ = some (.int .i64 (n2 : Nat)) ∧ w9.cell? ⟨b + 1, 0, none⟩ = some (.int .i64 (z : Nat)) ∧ w9.cell? ⟨b + 1, 1, none⟩ = some (.int .i64 (n : Nat))) w9) :=
    Lib.hid fun w0 w9 hg ⟨h0, h1, h2, h3, h4, h5, h6, h7, h8, h9⟩ => ⟨h0.trans hg, hg.cell h1, hg.cell h2, hg.cell h3, hg.cell h4, hg.cell h5, hg.cell h6, hg.cell h7, hg.cell h8, hg.cell h9⟩
  go_wp2
  go_loopw [7, 14] (fun l i wr => ∃ k : Nat, k ≤ r ∧ i = .int .i64 k ∧ l = .int .i64 (C k : Nat) ∧ Hid (Gr wz wr)) (fun _ i _ => r - (intOf i).toNat)
  case atStart => exact ⟨0, by omega, rfl, by rw [HC0.out]; rfl, Lib.hid (Gr.refl _)⟩
  case round =>
    obtain ⟨k, hk, rfl, rfl, hG⟩ := hrel
    have hck := HC.out k
    by_cases hlt : k < r
    · have HK' := Lib.hid (HK.out k)
      obtain ⟨mk, m, rc, e1, e2, e3, e4, e5, e6⟩ := region_facts hlt hr.2 hp hn hs
      have RG := Lib.hid (region_any r W z1 n1 z2 n2 p k)
      have RG := Lib.hid (fun w => RG.out w hp (by omega))
      rw [e1] at RG
      have ON := Lib.hid (fun w => ones_any m w e3)
      rw [e4] at ON
      have HL' := Lib.hid (HL.out k)
      rw [e5] at HL'
      have HA := Lib.hid e2
      clear e1 e2 e3 e4 e5
      generalize C k = c at *
      generalize Lo k = lk at *
      have HD : Hid (decide ((n : Int) ≤ (rc : Int)) = lk) := Lib.hid (by rw [HL'.out, Bool.eq_iff_iff, decide_eq_true_eq, decide_eq_true_eq]; omega)
      have HS0 := And.intro hG.out (And.intro (hG.out.cell k0) (And.intro (hG.out.cell k1) (And.intro (hG.out.cell k2) (And.intro (hG.out.cell k3) (And.intro (hG.out.cell k4) (And.intro (hG.out.cell k5) (And.intro (hG.out.cell k6) (And.intro (hG.out.cell j0) (hG.out.cell j1)))))))))
      have HP := Lib.hid hp
      have HZ := Lib.hid (And.intro k0 (And.intro k1 (And.intro k2 (And.intro k3 (And.intro k4 (And.intro k5 (And.intro k6 (And.intro j0 j1))))))))
      clear k0 k1 k2 k3 k4 k5 k6 j0 j1
      go_wp2
      refine wp_region_held_drew (S := (fun w9 => Gr wz w9 ∧ w9.cell? ⟨b, 0, none⟩ = some (.int .i64 (r : Nat)) ∧ w9.cell? ⟨b, 1, none⟩ = some (.int .i64 (p : Nat)) ∧ w9.cell? ⟨b, 2, none⟩ = some (.int .u32 (W : Nat)) ∧ w9.cell? ⟨b, 3, none⟩ = some (.int .i64 (z1 : Nat)) ∧ w9.cell? ⟨b, 4, none⟩ = some (.int .i64 (n1 : Nat)) ∧ w9.cell? ⟨b, 5, none⟩ = some (.int .i64 (z2 : Nat)) ∧ w9.cell? ⟨b, 6, none⟩ = some (.int .i64 (n2 : Nat)) ∧ w9.cell? ⟨b + 1, 0, none⟩ = some (.int .i64 (z : Nat)) ∧ w9.cell? ⟨b + 1, 1, none⟩ = some (.int .i64 (n : Nat)))) (by kernel_rfl) ?invb (fun h0 => ?_)
      case invb => ((try dsimp only); (first | exact HS0 | exact HX.out _ _ ((Gr.refl _).drew) HS0))
      refine wpAnyH_take (i := 0) (oi := { dst := some 17, op := Go.Op.move (Go.Operand.tmp 2), type := 186, pos := "grid.go:108", after := #[], guard := none }) (v := ?vb0) rfl (by kernel_rfl) (by kernel_rfl) (by kernel_rfl) (fun _ _ _ h => h) (Or.inl ⟨by rfl, ?rb0⟩) (by assumption) ?_
      case rb0 => (intro w hSw; (try dsimp only at hSw); (go_simp <;> with_reducible rfl))
      try simp only [Act.put, List.setIfInBounds_toArray, List.set_cons_zero, List.set_cons_succ]
      refine wpAnyH_take (i := 1) (oi := { dst := some 18, op := Go.Op.load 188 (Go.Operand.tmp 3), type := 188, pos := "grid.go:108", after := #[], guard := none }) (v := ?vb1) rfl (by kernel_rfl) (by kernel_rfl) (by kernel_rfl) (fun _ _ _ h => h) (Or.inl ⟨by rfl, ?rb1⟩) (by assumption) ?_
      case rb1 => (intro w hSw; (try dsimp only at hSw); (go_simp <;> with_reducible rfl))
      try simp only [Act.put, List.setIfInBounds_toArray, List.set_cons_zero, List.set_cons_succ]
      refine wpAnyH_take (i := 2) (oi := { dst := some 19, op := Go.Op.move (Go.Operand.tmp 8), type := 3, pos := "grid.go:108", after := #[], guard := none }) (v := ?vb2) rfl (by kernel_rfl) (by kernel_rfl) (by kernel_rfl) (fun _ _ _ h => h) (Or.inl ⟨by rfl, ?rb2⟩) (by assumption) ?_
      case rb2 => (intro w hSw; (try dsimp only at hSw); (go_simp <;> with_reducible rfl))
      try simp only [Act.put, List.setIfInBounds_toArray, List.set_cons_zero, List.set_cons_succ]
      refine wpAnyH_take (i := 6) (oi := { dst := some 23, op := Go.Op.fieldAddr 185 (Go.Operand.tmp 4) 1, type := 0, pos := "grid.go:108", after := #[], guard := none }) (v := ?vb6) rfl (by kernel_rfl) (by kernel_rfl) (by kernel_rfl) (fun _ _ _ h => h) (Or.inl ⟨by rfl, ?rb6⟩) (by assumption) ?_
      case rb6 => (intro w hSw; (try dsimp only at hSw); (go_simp <;> with_reducible rfl))
      try simp only [Act.put, List.setIfInBounds_toArray, List.set_cons_zero, List.set_cons_succ]
      refine wpAnyH_take (i := 7) (oi := { dst := some 24, op := Go.Op.load 3 (Go.Operand.tmp 23), type := 3, pos := "grid.go:108", after := #[{ on := 6, ground := Go.Ground.data }], guard := none }) (v := ?vb7) rfl (by kernel_rfl) (by kernel_rfl) (by kernel_rfl) (fun _ _ _ h => h) (Or.inl ⟨by rfl, ?rb7⟩) (by assumption) ?_
      case rb7 => (intro w hSw; (try dsimp only at hSw); (go_simp <;> with_reducible rfl))
      try simp only [Act.put, List.setIfInBounds_toArray, List.set_cons_zero, List.set_cons_succ]
      refine wpAnyH_ready (rs := [3]) (by kernel_rfl) (by simp) ?_
      refine AllReadyH.cons (o := { dst := some 20, op := Go.Op.call { callee := Go.Callee.value (Go.Operand.func 202), args := #[Go.Operand.tmp 18, Go.Operand.tmp 19], argTypes := #[188, 3] }, type := 186, pos := "grid.go:108", after := #[{ on := 1, ground := Go.Ground.data }, { on := 2, ground := Go.Ground.data }], guard := none }) rfl (fun K hK => ?_) AllReadyH.nil
      go_simp
      (go_at_call 202; refine (RG.out _).mono ?_; rintro e w9 ⟨rfl, hgN⟩)
      first | refine hK.out _ _ ?sb1 (fun h1 => ?_) | (go_wp2_with fail; refine hK.out _ _ ?sb1 (fun h1 => ?_))
      case sb1 => ((try dsimp only); exact HX.out _ _ hgN h0)
      clear hK K h0
      try simp only [Act.put, List.setIfInBounds_toArray, List.set_cons_zero, List.set_cons_succ]
      refine wpAnyH_take (i := 4) (oi := { dst := some 21, op := Go.Op.binOp Go.BinOp.and 186 (Go.Operand.tmp 17) (Go.Operand.tmp 20) 186, type := 186, pos := "grid.go:108", after := #[{ on := 0, ground := Go.Ground.data }, { on := 3, ground := Go.Ground.data }], guard := none }) (v := (.int .u32 (m : Nat))) rfl (by kernel_rfl) (by kernel_rfl) (by kernel_rfl) (fun _ _ _ h => h) (Or.inl ⟨by rfl, ?rb4⟩) (by assumption) ?_
      case rb4 => (intro w hSw; (try dsimp only at hSw); go_simp; simp [HA.out])
      try simp only [Act.put, List.setIfInBounds_toArray, List.set_cons_zero, List.set_cons_succ]
      refine wpAnyH_ready (rs := [5]) (by kernel_rfl) (by simp) ?_
      refine AllReadyH.cons (o := { dst := some 22, op := Go.Op.call { callee := Go.Callee.value (Go.Operand.func 201), args := #[Go.Operand.tmp 21], argTypes := #[186] }, type := 3, pos := "grid.go:108", after := #[{ on := 4, ground := Go.Ground.data }, { on := 3, ground := Go.Ground.chain }], guard := none }) rfl (fun K hK => ?_) AllReadyH.nil
      go_simp
      (go_at_call 201; refine (ON.out _).mono ?_; rintro e w9 ⟨rfl, hgN⟩)
      first | refine hK.out _ _ ?sb2 (fun h2 => ?_) | (go_wp2_with fail; refine hK.out _ _ ?sb2 (fun h2 => ?_))
      case sb2 => ((try dsimp only); exact HX.out _ _ hgN h1)
      clear hK K h1
      try simp only [Act.put, List.setIfInBounds_toArray, List.set_cons_zero, List.set_cons_succ]
      refine wpAnyH_take (i := 8) (oi := { dst := some 25, op := Go.Op.binOp Go.BinOp.geq 3 (Go.Operand.tmp 22) (Go.Operand.tmp 24) 3, type := 4, pos := "grid.go:108", after := #[{ on := 5, ground := Go.Ground.data }, { on := 7, ground := Go.Ground.data }], guard := none }) (v := (.bool lk)) rfl (by kernel_rfl) (by kernel_rfl) (by kernel_rfl) (fun _ _ _ h => h) (Or.inl ⟨by rfl, ?rb8⟩) (by assumption) ?_
      case rb8 => (intro w hSw; (try dsimp only at hSw); go_simp; (first | (simp [HD.out]; done) | (simp [HL'.out]; done) | (trace_state; sorry)))
      try simp only [Act.put, List.setIfInBounds_toArray, List.set_cons_zero, List.set_cons_succ]
      refine wpAnyH_done (by kernel_rfl) ?_ _
      obtain ⟨g9, d0, d1, d2, d3, d4, d5, d6, -, -⟩ := h2
      have G9 := Lib.hid g9
      clear g9 HS0
      cases lk
      all_goals
        go_wp2
        go_roundw
        case rel => exact ⟨k + 1, by omega, by go_num, by rw [HK'.out]; first | rfl | go_num, G9⟩
        case measure => simp [intOf]; omega
    · obtain rfl : k = r := by omega
      have d0 := hG.out.cell j0
      obtain ⟨q, hq⟩ : ∃ q, decide (z ≤ C k) = q := ⟨_, rfl⟩
      clear k0 k1 k2 k3 k4 k5 k6 j0 j1
      go_wp2
      go_ret
      exact ⟨by rw [hq]; rfl, HG0.out.trans hG.out⟩
end Go.Proofs.Ytnanclgnjchpeaa
