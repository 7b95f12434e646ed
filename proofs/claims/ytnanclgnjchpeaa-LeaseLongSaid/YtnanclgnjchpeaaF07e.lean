import Derived.Test.YtnanclgnjchpeaaF07d
import Derived.WalkKit
import Derived.ProofKit
import Derived.LoopTactic
import Derived.Outline
import Derived.WalkSpells
import Derived.WalkLawsBesides
import Derived.Lib.Hide
import Derived.Deep.LoopGhost
import Derived.Deep.QuietTactic
import Derived.BigQuiet
import Derived.ShutString
import Derived.IntWalk
import Derived.Deep.RegionHeld3
namespace Go.Proofs.Ytnanclgnjchpeaa
open Go.ChangeShapes Go.WideShapes Go.ChangeAt Go.RowKit
open Grids
set_option linter.unusedVariables false
set_option linter.unusedSimpArgs false
theorem region_bd {r p k : Nat} (hk : k < r) (hr : r ≤ 4) (hp : p ≤ 4) (hn : r * p ≤ 12) : k * p + p ≤ 12 := by
  have := Nat.mul_le_mul_right p (show k + 1 ≤ r by omega)
  rw [Nat.add_mul] at this; omega
/-- What a region's two calls give. -/
theorem region_facts {r p W k : Nat} (hk : k < r) (hr : r ≤ 4) (hp : 1 ≤ p ∧ p ≤ 4) (hn : r * p ≤ 12) (hW : W < 4294967296) :
    ∃ mk m rc : Nat, mask p k = mk ∧ bits .and .u32 (W : Int) (mk : Int) = (m : Int) ∧ m < 4294967296 ∧ cnt m.testBit 32 = rc ∧ regC p W k = rc ∧ rc ≤ p := by
  have hb := region_bd hk hr hp.2 hn
  have hm := mask_lt (p := p) (r := k) (by omega)
  exact ⟨_, _, _, rfl, w32_and _ _ hW (by omega), Nat.lt_of_le_of_lt Nat.and_le_left hW, rfl, (pop_region (by omega)).symm, by rw [pop_region (by omega)]; exact cnt_le _ _⟩
set_option maxRecDepth 100000 in
set_option maxHeartbeats 2000000 in
theorem meets_any (r p W z1 n1 z2 n2 : Nat) (w : World) (hr : 1 ≤ r ∧ r ≤ 4) (hp : 1 ≤ p ∧ p ≤ 4) (hn : r * p ≤ 12) (hW : W < 4294967296) (hz1 : z1 ≤ 4) (hz2 : z2 ≤ 4) (hn1 : n1 ≤ 4) (hn2 : n2 ≤ 4) :
    Calls Try.prog 200 #[.agg #[.int .i64 r, .int .i64 p, .int .u32 W, .int .i64 z1, .int .i64 n1, .int .i64 z2, .int .i64 n2]] w fun e w' => e = .returned (.bool (meetsB r p W z1 n1 z2 n2)) ∧ Gr w w' := by
  have HM := Lib.hid (show meetsB r p W z1 n1 z2 n2 = !decide (z1 + z2 ≤ r + cnt (loose p W n1 n2) r) from rfl)
  rw [HM.out]; clear HM
  have HC := Lib.hid (fun k => cnt_le (loose p W n1 n2) k)
  have HL := Lib.hid (fun k => show loose p W n1 n2 k = decide (n1 + n2 ≤ p + regC p W k) from rfl)
  have HK := Lib.hid (fun k => show cnt (loose p W n1 n2) (k + 1) = cnt (loose p W n1 n2) k + (if loose p W n1 n2 k then 1 else 0) from rfl)
  have HC0 := Lib.hid (show cnt (loose p W n1 n2) 0 = 0 from rfl)
  generalize cnt (loose p W n1 n2) = C at *
  generalize loose p W n1 n2 = Lo at *
  go_enter Try.func200, Try.ntmps200
  go_wp2
  have hg0 := Gr.refl (w.alloc (.cells #[.int .i64 r, .int .i64 p, .int .u32 W, .int .i64 z1, .int .i64 n1, .int .i64 z2, .int .i64 n2] 188))
  have HG0 := Lib.hid ((Gr.refl w).alloc (.cells #[.int .i64 r, .int .i64 p, .int .u32 W, .int .i64 z1, .int .i64 n1, .int .i64 z2, .int .i64 n2] 188))
  have k0 := hg0.own.1 0 _ rfl
  have k1 := hg0.own.1 1 _ rfl
  have k2 := hg0.own.1 2 _ rfl
  have k3 := hg0.own.1 3 _ rfl
  have k4 := hg0.own.1 4 _ rfl
  have k5 := hg0.own.1 5 _ rfl
  have k6 := hg0.own.1 6 _ rfl
  clear hg0
  generalize w.heap.size = b at *
  generalize w.alloc (.cells #[.int .i64 r, .int .i64 p, .int .u32 W, .int .i64 z1, .int .i64 n1, .int .i64 z2, .int .i64 n2] 188) = wz at *
  have HX : Hid (∀ w0 w9 : World, Gr w0 w9 → (fun w9 => Gr wz w9 ∧ w9.cell? ⟨b, 0, none⟩ = some (.int .i64 (r : Nat)) ∧ w9.cell? ⟨b, 1, none⟩ = some (.int .i64 (p : Nat)) ∧ w9.cell? ⟨b, 2, none⟩ = some (.int .u32 (W : Nat)) ∧ w9.cell? ⟨b, 3, none⟩ = some (.int .i64 (z1 : Nat)) ∧ w9.cell? ⟨b, 4, none⟩ = some (.int .i64 (n1 : Nat)) ∧ w9.cell? ⟨b, 5, none⟩ = some (.int .i64 (z2 : Nat)) ∧ w9.cell? ⟨b, 6, none⟩ = some (.int .i64 (n2 : Nat))) w0 → (fun w9 => Gr wz w9 ∧ w9.cell? ⟨b, 0, none⟩ = some (.int .i64 (r : Nat)) ∧ w9.cell? ⟨b, 1, none⟩ = some (.int .i64 (p : Nat)) ∧ w9.cell? ⟨b, 2, none⟩ = some (.int .u32 (W : Nat)) ∧ w9.cell? ⟨b, 3, none⟩ = some (.int .i64 (z1 : Nat)) ∧ w9.cell? ⟨b, 4, none⟩ = some (.int .i64 (n1 : Nat)) ∧ w9.cell? ⟨b, 5, none⟩ = some (.int .i64 (z2 : Nat)) ∧ w9.cell? ⟨b, 6, none⟩ = some (.int .i64 (n2 : Nat))) w9) :=
    Lib.hid fun w0 w9 hg ⟨h0, h1, h2, h3, h4, h5, h6, h7⟩ => ⟨h0.trans hg, hg.cell h1, hg.cell h2, hg.cell h3, hg.cell h4, hg.cell h5, hg.cell h6, hg.cell h7⟩
  go_loopw [3, 8] (fun l i wr => ∃ k : Nat, k ≤ r ∧ i = .int .i64 k ∧ l = .int .i64 (C k : Nat) ∧ Hid (Gr wz wr)) (fun _ i _ => r - (intOf i).toNat)
  case atStart => exact ⟨0, by omega, rfl, by rw [HC0.out]; rfl, Lib.hid (Gr.refl _)⟩
  case round =>
    obtain ⟨k, hk, rfl, rfl, hG⟩ := hrel
    have hck := HC.out k
    by_cases hlt : k < r
    · have HK' := Lib.hid (HK.out k)
      obtain ⟨mk, m, rc, e1, e2, e3, e4, e5, e6⟩ := region_facts hlt hr.2 hp hn hW
      have RG := Lib.hid (region_any r W z1 n1 z2 n2 p k)
      have RG := Lib.hid (fun w => RG.out w hp (by omega))
      rw [e1] at RG
      have ON := Lib.hid (fun w => ones_any m w e3)
      rw [e4] at ON
      have HL' := Lib.hid (HL.out k)
      rw [e5] at HL'
      have HA := Lib.hid e2
      clear e1 e2 e3 e4 e5
      generalize C k = c at *
      generalize Lo k = lk at *
      have HS0 := And.intro hG.out (And.intro (hG.out.cell k0) (And.intro (hG.out.cell k1) (And.intro (hG.out.cell k2) (And.intro (hG.out.cell k3) (And.intro (hG.out.cell k4) (And.intro (hG.out.cell k5) (hG.out.cell k6)))))))
      have HP := Lib.hid hp
      have HZ := Lib.hid (And.intro k0 (And.intro k1 (And.intro k2 (And.intro k3 (And.intro k4 (And.intro k5 k6))))))
      clear k0 k1 k2 k3 k4 k5 k6
      go_wp2
      refine wp_region_held_drew (S := (fun w9 => Gr wz w9 ∧ w9.cell? ⟨b, 0, none⟩ = some (.int .i64 (r : Nat)) ∧ w9.cell? ⟨b, 1, none⟩ = some (.int .i64 (p : Nat)) ∧ w9.cell? ⟨b, 2, none⟩ = some (.int .u32 (W : Nat)) ∧ w9.cell? ⟨b, 3, none⟩ = some (.int .i64 (z1 : Nat)) ∧ w9.cell? ⟨b, 4, none⟩ = some (.int .i64 (n1 : Nat)) ∧ w9.cell? ⟨b, 5, none⟩ = some (.int .i64 (z2 : Nat)) ∧ w9.cell? ⟨b, 6, none⟩ = some (.int .i64 (n2 : Nat)))) (by kernel_rfl) ?inva (fun h0 => ?_)
      case inva => ((try dsimp only); (first | exact HS0 | exact HX.out _ _ ((Gr.refl _).drew) HS0))
      refine wpAnyH_take (i := 0) (oi := { dst := some 11, op := Go.Op.fieldAddr 188 (Go.Operand.tmp 1) 2, type := 0, pos := "grid.go:54", after := #[], guard := none }) (v := ?va0) rfl (by kernel_rfl) (by kernel_rfl) (by kernel_rfl) (fun _ _ _ h => h) (Or.inl ⟨by rfl, ?ra0⟩) (by assumption) ?_
      case ra0 => (intro w hSw; (try dsimp only at hSw); (go_simp <;> with_reducible rfl))
      try simp only [Act.put, List.setIfInBounds_toArray, List.set_cons_zero, List.set_cons_succ]
      refine wpAnyH_take (i := 1) (oi := { dst := some 12, op := Go.Op.load 186 (Go.Operand.tmp 11), type := 186, pos := "grid.go:54", after := #[{ on := 0, ground := Go.Ground.data }], guard := none }) (v := ?va1) rfl (by kernel_rfl) (by kernel_rfl) (by kernel_rfl) (fun _ _ _ h => h) (Or.inl ⟨by rfl, ?ra1⟩) (by assumption) ?_
      case ra1 => (intro w hSw; (try dsimp only at hSw); (go_simp <;> with_reducible rfl))
      try simp only [Act.put, List.setIfInBounds_toArray, List.set_cons_zero, List.set_cons_succ]
      refine wpAnyH_take (i := 2) (oi := { dst := some 13, op := Go.Op.load 188 (Go.Operand.tmp 1), type := 188, pos := "grid.go:54", after := #[], guard := none }) (v := ?va2) rfl (by kernel_rfl) (by kernel_rfl) (by kernel_rfl) (fun _ _ _ h => h) (Or.inl ⟨by rfl, ?ra2⟩) (by assumption) ?_
      case ra2 => (intro w hSw; (try dsimp only at hSw); (go_simp <;> with_reducible rfl))
      try simp only [Act.put, List.setIfInBounds_toArray, List.set_cons_zero, List.set_cons_succ]
      refine wpAnyH_take (i := 3) (oi := { dst := some 14, op := Go.Op.move (Go.Operand.tmp 4), type := 3, pos := "grid.go:54", after := #[], guard := none }) (v := ?va3) rfl (by kernel_rfl) (by kernel_rfl) (by kernel_rfl) (fun _ _ _ h => h) (Or.inl ⟨by rfl, ?ra3⟩) (by assumption) ?_
      case ra3 => (intro w hSw; (try dsimp only at hSw); (go_simp <;> with_reducible rfl))
      try simp only [Act.put, List.setIfInBounds_toArray, List.set_cons_zero, List.set_cons_succ]
      refine wpAnyH_ready (rs := [4]) (by kernel_rfl) (by simp) ?_
      refine AllReadyH.cons (o := { dst := some 15, op := Go.Op.call { callee := Go.Callee.value (Go.Operand.func 202), args := #[Go.Operand.tmp 13, Go.Operand.tmp 14], argTypes := #[188, 3] }, type := 186, pos := "grid.go:54", after := #[{ on := 2, ground := Go.Ground.data }, { on := 3, ground := Go.Ground.data }], guard := none }) rfl (fun K hK => ?_) AllReadyH.nil
      go_simp
      (go_at_call 202; refine (RG.out _).mono ?_; rintro e w9 ⟨rfl, hgN⟩)
      first | refine hK.out _ _ ?sa1 (fun h1 => ?_) | (go_wp2_with fail; refine hK.out _ _ ?sa1 (fun h1 => ?_))
      case sa1 => ((try dsimp only); exact HX.out _ _ hgN h0)
      clear hK K h0
      try simp only [Act.put, List.setIfInBounds_toArray, List.set_cons_zero, List.set_cons_succ]
      refine wpAnyH_take (i := 5) (oi := { dst := some 16, op := Go.Op.binOp Go.BinOp.and 186 (Go.Operand.tmp 12) (Go.Operand.tmp 15) 186, type := 186, pos := "grid.go:54", after := #[{ on := 1, ground := Go.Ground.data }, { on := 4, ground := Go.Ground.data }], guard := none }) (v := (.int .u32 (m : Nat))) rfl (by kernel_rfl) (by kernel_rfl) (by kernel_rfl) (fun _ _ _ h => h) (Or.inl ⟨by rfl, ?ra5⟩) (by assumption) ?_
      case ra5 => (intro w hSw; (try dsimp only at hSw); go_simp; simp [HA.out])
      try simp only [Act.put, List.setIfInBounds_toArray, List.set_cons_zero, List.set_cons_succ]
      refine wpAnyH_ready (rs := [6]) (by kernel_rfl) (by simp) ?_
      refine AllReadyH.cons (o := { dst := some 17, op := Go.Op.call { callee := Go.Callee.value (Go.Operand.func 201), args := #[Go.Operand.tmp 16], argTypes := #[186] }, type := 3, pos := "grid.go:54", after := #[{ on := 5, ground := Go.Ground.data }, { on := 4, ground := Go.Ground.chain }], guard := none }) rfl (fun K hK => ?_) AllReadyH.nil
      go_simp
      (go_at_call 201; refine (ON.out _).mono ?_; rintro e w9 ⟨rfl, hgN⟩)
      first | refine hK.out _ _ ?sa2 (fun h2 => ?_) | (go_wp2_with fail; refine hK.out _ _ ?sa2 (fun h2 => ?_))
      case sa2 => ((try dsimp only); exact HX.out _ _ hgN h1)
      clear hK K h1
      try simp only [Act.put, List.setIfInBounds_toArray, List.set_cons_zero, List.set_cons_succ]
      refine wpAnyH_take (i := 7) (oi := { dst := some 5, op := Go.Op.assign (Go.Operand.tmp 17), type := 3, pos := "grid.go:54", after := #[{ on := 6, ground := Go.Ground.data }, { on := 6, ground := Go.Ground.chain }, { on := 0, ground := Go.Ground.phase }, { on := 1, ground := Go.Ground.phase }, { on := 2, ground := Go.Ground.phase }, { on := 3, ground := Go.Ground.phase }, { on := 4, ground := Go.Ground.phase }, { on := 5, ground := Go.Ground.phase }, { on := 6, ground := Go.Ground.phase }], guard := none }) (v := ?va7) rfl (by kernel_rfl) (by kernel_rfl) (by kernel_rfl) (fun _ _ _ h => h) (Or.inl ⟨by rfl, ?ra7⟩) (by assumption) ?_
      case ra7 => (intro w hSw; (try dsimp only at hSw); (go_simp <;> with_reducible rfl))
      try simp only [Act.put, List.setIfInBounds_toArray, List.set_cons_zero, List.set_cons_succ]
      refine wpAnyH_done (by kernel_rfl) ?_ _
      obtain ⟨g9, d0, d1, d2, d3, d4, d5, d6⟩ := h2
      have G9 := Lib.hid g9
      clear g9 HS0
      have AP := Lib.hid (fun w => apart_any n1 n2 p rc w (by omega) (by omega) (by omega) (by omega))
      rw [show decide ((n1 : Int) + n2 ≤ p + rc) = lk by rw [HL'.out, Bool.eq_iff_iff, decide_eq_true_eq, decide_eq_true_eq]; omega] at AP
      cases lk
      · go_wp2_with fail
        refine (AP.out _).mono ?_
        rintro e w9 ⟨rfl, rfl⟩
        go_wp2
        go_roundw
        case rel => exact ⟨k + 1, by omega, by go_num, by rw [HK'.out]; rfl, G9⟩
        case measure => simp [intOf]; omega
      · go_wp2_with fail
        refine (AP.out _).mono ?_
        rintro e w9 ⟨rfl, rfl⟩
        go_wp2
        go_roundw
        case rel => exact ⟨k + 1, by omega, by go_num, by rw [HK'.out]; go_num, G9⟩
        case measure => simp [intOf]; omega
    · obtain rfl : k = r := by omega
      have d0 := hG.out.cell k0
      have d3 := hG.out.cell k3
      have d5 := hG.out.cell k5
      have AP := Lib.hid (fun w => apart_any z1 z2 k (C k) w (by omega) (by omega) (by omega) (by omega))
      rw [show decide ((z1 : Int) + z2 ≤ k + (C k : Nat)) = decide (z1 + z2 ≤ k + C k) by rw [Bool.eq_iff_iff, decide_eq_true_eq, decide_eq_true_eq]; omega] at AP
      obtain ⟨q, hq⟩ : ∃ q, decide (z1 + z2 ≤ k + C k) = q := ⟨_, rfl⟩
      rw [hq] at AP
      have HQ := Lib.hid hq
      clear hq
      clear k0 k1 k2 k3 k4 k5 k6
      go_wp2_with fail
      refine (AP.out _).mono ?_
      rintro e w9 ⟨rfl, rfl⟩
      go_wp2
      go_ret
      exact ⟨by rw [HQ.out]; rfl, HG0.out.trans hG.out⟩
set_option maxRecDepth 100000 in
set_option maxHeartbeats 1000000 in
theorem check_form (R P : Int) (W : Nat) (z1 n1 z2 n2 : Int) (w : World) (h : decide (Form R P W z1 n1 z2 n2) = false) :
    Calls Try.prog 197 #[.agg #[.int .i64 R, .int .i64 P, .int .u32 W, .int .i64 z1, .int .i64 n1, .int .i64 z2, .int .i64 n2]] w fun e w' => e = .returned (.int .i64 12) ∧ Gr w w' := by
  have c1 := Lib.hid (hasForm_any R P W z1 n1 z2 n2)
  rw [h] at c1
  clear h
  go_enter Try.func197, Try.ntmps197
  go_wp2_with fail
  refine (c1.out _).mono ?_
  rintro e w1 ⟨rfl, hg⟩
  go_wp2
  go_ret
  exact ⟨rfl, ((Gr.refl _).alloc _).trans hg⟩
theorem form_mk {r p W z1 n1 z2 n2 : Nat} (hr : 1 ≤ r ∧ r ≤ 4) (hp : 1 ≤ p ∧ p ≤ 4) (hn : r * p ≤ 12) (hW : W < 2 ^ (r * p)) (hz1 : 1 ≤ z1 ∧ z1 ≤ r) (hn1 : 1 ≤ n1 ∧ n1 ≤ p) (hz2 : 1 ≤ z2 ∧ z2 ≤ r) (hn2 : 1 ≤ n2 ∧ n2 ≤ p) : Form r p W z1 n1 z2 n2 := by
  have e : (r : Int) * p = ((r * p : Nat) : Int) := by simp
  unfold Form
  rw [e, Int.toNat_natCast, Nat.div_eq_of_lt hW]
  omega
set_option maxRecDepth 100000 in
set_option maxHeartbeats 1000000 in
theorem check_any (r p W z1 n1 z2 n2 : Nat) (w : World) (hr : 1 ≤ r ∧ r ≤ 4) (hp : 1 ≤ p ∧ p ≤ 4) (hn : r * p ≤ 12) (hW : W < 2 ^ (r * p)) (hz1 : 1 ≤ z1 ∧ z1 ≤ r) (hn1 : 1 ≤ n1 ∧ n1 ≤ p) (hz2 : 1 ≤ z2 ∧ z2 ≤ r) (hn2 : 1 ≤ n2 ∧ n2 ≤ p) :
    Calls Try.prog 197 #[.agg #[.int .i64 r, .int .i64 p, .int .u32 W, .int .i64 z1, .int .i64 n1, .int .i64 z2, .int .i64 n2]] w fun e w' => e = .returned (.int .i64 (if meetsB r p W z1 n1 z2 n2 then 0 else 12)) ∧ Gr w w' := by
  have hW' : W < 4294967296 := Nat.lt_of_lt_of_le hW (Nat.le_trans (Nat.pow_le_pow_right (by decide) hn) (by decide))
  have c1 := Lib.hid (hasForm_any r p W z1 n1 z2 n2)
  rw [decide_eq_true (form_mk hr hp hn hW hz1 hn1 hz2 hn2)] at c1
  have c2 := Lib.hid (fun w => meets_any r p W z1 n1 z2 n2 w hr hp hn hW' (by omega) (by omega) (by omega) (by omega))
  clear hr hp hn hW hz1 hn1 hz2 hn2 hW'
  generalize meetsB r p W z1 n1 z2 n2 = M at *
  cases M
  all_goals
    go_enter Try.func197, Try.ntmps197
    go_wp2_with fail
    refine (c1.out _).mono ?_
    rintro e w1 ⟨rfl, hg⟩
    have HG := Lib.hid hg
    have k0 := hg.own.1 0 _ rfl
    have k1 := hg.own.1 1 _ rfl
    have k2 := hg.own.1 2 _ rfl
    have k3 := hg.own.1 3 _ rfl
    have k4 := hg.own.1 4 _ rfl
    have k5 := hg.own.1 5 _ rfl
    have k6 := hg.own.1 6 _ rfl
    clear hg
    go_wp2_with fail
    refine (c2.out _).mono ?_
    rintro e w2 ⟨rfl, hg2⟩
    go_wp2
    go_ret
    exact ⟨rfl, (((Gr.refl _).alloc _).trans HG.out).trans hg2⟩
end Go.Proofs.Ytnanclgnjchpeaa
