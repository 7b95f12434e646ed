import Derived.Test.YtfgkgpkaohkehaaGreatDoorK4
import Derived.WalkKit
import Derived.ProofKit
import Derived.LoopTactic
import Derived.Outline
import Derived.WalkSpells
import Derived.WalkLawsBesides
import Derived.Lib.Hide
import Derived.Deep.LoopGhost
import Derived.Deep.QuietTactic
import Derived.BigQuiet
import Derived.ShutString
import Derived.IntWalk
import Derived.Deep.RegionHeld3
import Derived.Test.YtfgkgpkaohkehaaGreatDoorK2
namespace Go.Proofs.YtfgkgpkaohkehaaGreatDoor
open Go.ChangeShapes Go.WideShapes Go.ChangeAt Go.RowKit
open Grids
set_option linter.unusedVariables false
set_option linter.unusedSimpArgs false
set_option maxRecDepth 100000 in
theorem isQuorum_bad (R P W z1 n1 z2 n2 z n s : Int) (w : World) (h : ChkIs R P W z1 n1 z2 n2 12) :
    Calls Tryz.prog 104 #[.agg #[.int .i64 R, .int .i64 P, .int .u32 W, .int .i64 z1, .int .i64 n1, .int .i64 z2, .int .i64 n2], .agg #[.int .i64 z, .int .i64 n], .int .u32 s] w fun e w' => e = .returned (.bool false) ∧ Gr w w' := by
  have c1 := Lib.hid h
  clear h
  go_enter Tryz.func104, Tryz.ntmps104
  go_wp2_with fail
  refine (c1.out _).mono ?_
  rintro e w1 ⟨rfl, hg⟩
  go_wp2
  go_ret
  exact ⟨rfl, (((Gr.refl _).alloc _).alloc _).trans hg⟩
set_option maxRecDepth 100000 in
set_option maxHeartbeats 2000000 in
theorem isQuorum_any (r p W z1 n1 z2 n2 z n s : Nat) (w : World) (hr : 1 ≤ r ∧ r ≤ 4) (hp : 1 ≤ p ∧ p ≤ 4) (hn : r * p ≤ 12) (hs : s < 4294967296) (hz : z ≤ 4) (hn' : n ≤ 4) (hC : ChkIs r p W z1 n1 z2 n2 0) :
    Calls Tryz.prog 104 #[.agg #[.int .i64 r, .int .i64 p, .int .u32 W, .int .i64 z1, .int .i64 n1, .int .i64 z2, .int .i64 n2], .agg #[.int .i64 z, .int .i64 n], .int .u32 s] w fun e w' => e = .returned (.bool (isQ r p z n s)) ∧ Gr w w' := by
  have c1 := Lib.hid hC
  clear hC
  have HM := Lib.hid (show isQ r p z n s = decide (z ≤ cnt (fun i => decide (n ≤ regC p s i)) r) from rfl)
  rw [HM.out]; clear HM
  have HL := Lib.hid (fun k => show (fun i => decide (n ≤ regC p s i)) k = decide (n ≤ regC p s k) from rfl)
  generalize (fun i => decide (n ≤ regC p s i)) = Lo at *
  have HC := Lib.hid (fun k => cnt_le Lo k)
  have HK := Lib.hid (fun k => show cnt Lo (k + 1) = cnt Lo k + (if Lo k then 1 else 0) from rfl)
  have HC0 := Lib.hid (show cnt Lo 0 = 0 from rfl)
  generalize cnt Lo = C at *
  go_enter Tryz.func104, Tryz.ntmps104
  go_wp2_with fail
  refine (c1.out _).mono ?_
  rintro e w1 ⟨rfl, hg⟩
  have HG0 := Lib.hid ((((Gr.refl w).alloc (.cells #[.int .i64 r, .int .i64 p, .int .u32 W, .int .i64 z1, .int .i64 n1, .int .i64 z2, .int .i64 n2] 30)).alloc (.cells #[.int .i64 z, .int .i64 n] 28)).trans hg)
  have hgA := ((Gr.refl (w.alloc (.cells #[.int .i64 r, .int .i64 p, .int .u32 W, .int .i64 z1, .int .i64 n1, .int .i64 z2, .int .i64 n2] 30))).alloc (.cells #[.int .i64 z, .int .i64 n] 28)).trans hg
  have k0 := hgA.own.1 0 _ rfl
  have k1 := hgA.own.1 1 _ rfl
  have k2 := hgA.own.1 2 _ rfl
  have k3 := hgA.own.1 3 _ rfl
  have k4 := hgA.own.1 4 _ rfl
  have k5 := hgA.own.1 5 _ rfl
  have k6 := hgA.own.1 6 _ rfl
  have j0 := hg.own.1 0 _ rfl
  have j1 := hg.own.1 1 _ rfl
  have hsz : (w.alloc (.cells #[.int .i64 r, .int .i64 p, .int .u32 W, .int .i64 z1, .int .i64 n1, .int .i64 z2, .int .i64 n2] 30)).heap.size = w.heap.size + 1 := by simp
  rw [hsz] at j0 j1
  clear hsz hg hgA c1
  generalize w.heap.size = b at *
  generalize w1 = wz at *
  have HX : Hid (∀ w0 w9 : World, Gr w0 w9 → (fun w9 => Gr wz w9 ∧ w9.cell? ⟨b, 0, none⟩ = some (.int .i64 (r : Nat)) ∧ w9.cell? ⟨b, 1, none⟩ = some (.int .i64 (p : Nat)) ∧ w9.cell? ⟨b, 2, none⟩ = some (.int .u32 (W : Nat)) ∧ w9.cell? ⟨b, 3, none⟩ = some (.int .i64 (z1 : Nat)) ∧ w9.cell? ⟨b, 4, none⟩ = some (.int .i64 (n1 : Nat)) ∧ w9.cell? ⟨b, 5, none⟩ = some (.int .i64 (z2 : Nat)) ∧ w9.cell? ⟨b, 6, none⟩ = some (.int .i64 (n2 : Nat)) ∧ w9.cell? ⟨b + 1, 0, none⟩ = some (.int .i64 (z : Nat)) ∧ w9.cell? ⟨b + 1, 1, none⟩ = some (.int .i64 (n : Nat))) w0 → (fun w9 => Gr wz w9 ∧ w9.cell? ⟨b, 0, none⟩ = some (.int .i64 (r : Nat)) ∧ w9.cell? ⟨b, 1, none⟩ = some (.int .i64 (p : Nat)) ∧ w9.cell? ⟨b, 2, none⟩ = some (.int .u32 (W : Nat)) ∧ w9.cell? ⟨b, 3, none⟩ = some (.int .i64 (z1 : Nat)) ∧ w9.cell? ⟨b, 4, none⟩ = some (.int .i64 (n1 : Nat)) ∧ w9.cell? ⟨b, 5, none⟩ = some (.int .i64 (z2 : Nat)) ∧ w9.cell? ⟨b, 6, none⟩ = some (.int .i64 (n2 : Nat)) ∧ w9.cell? ⟨b + 1, 0, none⟩ = some (.int .i64 (z : Nat)) ∧ w9.cell? ⟨b + 1, 1, none⟩ = some (.int .i64 (n : Nat))) w9) :=
    Lib.hid fun w0 w9 hg ⟨h0, h1, h2, h3, h4, h5, h6, h7, h8, h9⟩ => ⟨h0.trans hg, hg.cell h1, hg.cell h2, hg.cell h3, hg.cell h4, hg.cell h5, hg.cell h6, hg.cell h7, hg.cell h8, hg.cell h9⟩
  go_wp2
  go_loopw [7, 14] (fun l i wr => ∃ k : Nat, k ≤ r ∧ i = .int .i64 k ∧ l = .int .i64 (C k : Nat) ∧ Hid (Gr wz wr)) (fun _ i _ => r - (intOf i).toNat)
  case atStart => exact ⟨0, by omega, rfl, by rw [HC0.out]; rfl, Lib.hid (Gr.refl _)⟩
  case round =>
    obtain ⟨k, hk, rfl, rfl, hG⟩ := hrel
    have hck := HC.out k
    by_cases hlt : k < r
    · have HK' := Lib.hid (HK.out k)
      obtain ⟨mk, m, rc, e1, e2, e3, e4, e5, e6⟩ := region_facts hlt hr.2 hp hn hs
      have RG := Lib.hid (region_any r W z1 n1 z2 n2 p k)
      have RG := Lib.hid (fun w => RG.out w hp (by omega))
      rw [e1] at RG
      have ON := Lib.hid (fun w => ones_any m w e3)
      rw [e4] at ON
      have HL' := Lib.hid (HL.out k)
      rw [e5] at HL'
      have HA := Lib.hid e2
      clear e1 e2 e3 e4 e5
      generalize C k = c at *
      generalize Lo k = lk at *
      have HD : Hid (decide ((n : Int) ≤ (rc : Int)) = lk) := Lib.hid (by rw [HL'.out, Bool.eq_iff_iff, decide_eq_true_eq, decide_eq_true_eq]; omega)
      have HS0 := And.intro hG.out (And.intro (hG.out.cell k0) (And.intro (hG.out.cell k1) (And.intro (hG.out.cell k2) (And.intro (hG.out.cell k3) (And.intro (hG.out.cell k4) (And.intro (hG.out.cell k5) (And.intro (hG.out.cell k6) (And.intro (hG.out.cell j0) (hG.out.cell j1)))))))))
      have HP := Lib.hid hp
      have HZ := Lib.hid (And.intro k0 (And.intro k1 (And.intro k2 (And.intro k3 (And.intro k4 (And.intro k5 (And.intro k6 (And.intro j0 j1))))))))
      clear k0 k1 k2 k3 k4 k5 k6 j0 j1
      go_wp2
      refine wp_region_held_drew (S := (fun w9 => Gr wz w9 ∧ w9.cell? ⟨b, 0, none⟩ = some (.int .i64 (r : Nat)) ∧ w9.cell? ⟨b, 1, none⟩ = some (.int .i64 (p : Nat)) ∧ w9.cell? ⟨b, 2, none⟩ = some (.int .u32 (W : Nat)) ∧ w9.cell? ⟨b, 3, none⟩ = some (.int .i64 (z1 : Nat)) ∧ w9.cell? ⟨b, 4, none⟩ = some (.int .i64 (n1 : Nat)) ∧ w9.cell? ⟨b, 5, none⟩ = some (.int .i64 (z2 : Nat)) ∧ w9.cell? ⟨b, 6, none⟩ = some (.int .i64 (n2 : Nat)) ∧ w9.cell? ⟨b + 1, 0, none⟩ = some (.int .i64 (z : Nat)) ∧ w9.cell? ⟨b + 1, 1, none⟩ = some (.int .i64 (n : Nat)))) (by kernel_rfl) ?invb (fun h0 => ?_)
      case invb => ((try dsimp only); (first | exact HS0 | exact HX.out _ _ ((Gr.refl _).drew) HS0))
      refine wpAnyH_take (i := 0) (oi := { dst := some 17, op := Go.Op.move (Go.Operand.tmp 2), type := 22, pos := "grid.go:108", after := #[], guard := none }) (v := ?vb0) rfl (by kernel_rfl) (by kernel_rfl) (by kernel_rfl) (fun _ _ _ h => h) (Or.inl ⟨by rfl, ?rb0⟩) (by assumption) ?_
      case rb0 => (intro w hSw; (try dsimp only at hSw); (go_simp <;> with_reducible rfl))
      try simp only [Act.put, List.setIfInBounds_toArray, List.set_cons_zero, List.set_cons_succ]
      refine wpAnyH_take (i := 1) (oi := { dst := some 18, op := Go.Op.load 30 (Go.Operand.tmp 3), type := 30, pos := "grid.go:108", after := #[], guard := none }) (v := ?vb1) rfl (by kernel_rfl) (by kernel_rfl) (by kernel_rfl) (fun _ _ _ h => h) (Or.inl ⟨by rfl, ?rb1⟩) (by assumption) ?_
      case rb1 => (intro w hSw; (try dsimp only at hSw); (go_simp <;> with_reducible rfl))
      try simp only [Act.put, List.setIfInBounds_toArray, List.set_cons_zero, List.set_cons_succ]
      refine wpAnyH_take (i := 2) (oi := { dst := some 19, op := Go.Op.move (Go.Operand.tmp 8), type := 3, pos := "grid.go:108", after := #[], guard := none }) (v := ?vb2) rfl (by kernel_rfl) (by kernel_rfl) (by kernel_rfl) (fun _ _ _ h => h) (Or.inl ⟨by rfl, ?rb2⟩) (by assumption) ?_
      case rb2 => (intro w hSw; (try dsimp only at hSw); (go_simp <;> with_reducible rfl))
      try simp only [Act.put, List.setIfInBounds_toArray, List.set_cons_zero, List.set_cons_succ]
      refine wpAnyH_take (i := 6) (oi := { dst := some 23, op := Go.Op.fieldAddr 28 (Go.Operand.tmp 4) 1, type := 0, pos := "grid.go:108", after := #[], guard := none }) (v := ?vb6) rfl (by kernel_rfl) (by kernel_rfl) (by kernel_rfl) (fun _ _ _ h => h) (Or.inl ⟨by rfl, ?rb6⟩) (by assumption) ?_
      case rb6 => (intro w hSw; (try dsimp only at hSw); (go_simp <;> with_reducible rfl))
      try simp only [Act.put, List.setIfInBounds_toArray, List.set_cons_zero, List.set_cons_succ]
      refine wpAnyH_take (i := 7) (oi := { dst := some 24, op := Go.Op.load 3 (Go.Operand.tmp 23), type := 3, pos := "grid.go:108", after := #[{ on := 6, ground := Go.Ground.data }], guard := none }) (v := ?vb7) rfl (by kernel_rfl) (by kernel_rfl) (by kernel_rfl) (fun _ _ _ h => h) (Or.inl ⟨by rfl, ?rb7⟩) (by assumption) ?_
      case rb7 => (intro w hSw; (try dsimp only at hSw); (go_simp <;> with_reducible rfl))
      try simp only [Act.put, List.setIfInBounds_toArray, List.set_cons_zero, List.set_cons_succ]
      refine wpAnyH_ready (rs := [3]) (by kernel_rfl) (by simp) ?_
      refine AllReadyH.cons (o := { dst := some 20, op := Go.Op.call { callee := Go.Callee.value (Go.Operand.func 76), args := #[Go.Operand.tmp 18, Go.Operand.tmp 19], argTypes := #[30, 3] }, type := 22, pos := "grid.go:108", after := #[{ on := 1, ground := Go.Ground.data }, { on := 2, ground := Go.Ground.data }], guard := none }) rfl (fun K hK => ?_) AllReadyH.nil
      go_simp
      (go_at_call 76; refine (RG.out _).mono ?_; rintro e w9 ⟨rfl, hgN⟩)
      first | refine hK.out _ _ ?sb1 (fun h1 => ?_) | (go_wp2_with fail; refine hK.out _ _ ?sb1 (fun h1 => ?_))
      case sb1 => ((try dsimp only); exact HX.out _ _ hgN h0)
      clear hK K h0
      try simp only [Act.put, List.setIfInBounds_toArray, List.set_cons_zero, List.set_cons_succ]
      refine wpAnyH_take (i := 4) (oi := { dst := some 21, op := Go.Op.binOp Go.BinOp.and 22 (Go.Operand.tmp 17) (Go.Operand.tmp 20) 22, type := 22, pos := "grid.go:108", after := #[{ on := 0, ground := Go.Ground.data }, { on := 3, ground := Go.Ground.data }], guard := none }) (v := (.int .u32 (m : Nat))) rfl (by kernel_rfl) (by kernel_rfl) (by kernel_rfl) (fun _ _ _ h => h) (Or.inl ⟨by rfl, ?rb4⟩) (by assumption) ?_
      case rb4 => (intro w hSw; (try dsimp only at hSw); go_simp; simp [HA.out])
      try simp only [Act.put, List.setIfInBounds_toArray, List.set_cons_zero, List.set_cons_succ]
      refine wpAnyH_ready (rs := [5]) (by kernel_rfl) (by simp) ?_
      refine AllReadyH.cons (o := { dst := some 22, op := Go.Op.call { callee := Go.Callee.value (Go.Operand.func 75), args := #[Go.Operand.tmp 21], argTypes := #[22] }, type := 3, pos := "grid.go:108", after := #[{ on := 4, ground := Go.Ground.data }, { on := 3, ground := Go.Ground.chain }], guard := none }) rfl (fun K hK => ?_) AllReadyH.nil
      go_simp
      (go_at_call 75; refine (ON.out _).mono ?_; rintro e w9 ⟨rfl, hgN⟩)
      first | refine hK.out _ _ ?sb2 (fun h2 => ?_) | (go_wp2_with fail; refine hK.out _ _ ?sb2 (fun h2 => ?_))
      case sb2 => ((try dsimp only); exact HX.out _ _ hgN h1)
      clear hK K h1
      try simp only [Act.put, List.setIfInBounds_toArray, List.set_cons_zero, List.set_cons_succ]
      refine wpAnyH_take (i := 8) (oi := { dst := some 25, op := Go.Op.binOp Go.BinOp.geq 3 (Go.Operand.tmp 22) (Go.Operand.tmp 24) 3, type := 4, pos := "grid.go:108", after := #[{ on := 5, ground := Go.Ground.data }, { on := 7, ground := Go.Ground.data }], guard := none }) (v := (.bool lk)) rfl (by kernel_rfl) (by kernel_rfl) (by kernel_rfl) (fun _ _ _ h => h) (Or.inl ⟨by rfl, ?rb8⟩) (by assumption) ?_
      case rb8 => (intro w hSw; (try dsimp only at hSw); go_simp; (first | (simp [HD.out]; done) | (simp [HL'.out]; done) | (trace_state; sorry)))
      try simp only [Act.put, List.setIfInBounds_toArray, List.set_cons_zero, List.set_cons_succ]
      refine wpAnyH_done (by kernel_rfl) ?_ _
      obtain ⟨g9, d0, d1, d2, d3, d4, d5, d6, -, -⟩ := h2
      have G9 := Lib.hid g9
      clear g9 HS0
      cases lk
      all_goals
        go_wp2
        go_roundw
        case rel => exact ⟨k + 1, by omega, by go_num, by rw [HK'.out]; first | rfl | go_num, G9⟩
        case measure => simp [intOf]; omega
    · obtain rfl : k = r := by omega
      have d0 := hG.out.cell j0
      obtain ⟨q, hq⟩ : ∃ q, decide (z ≤ C k) = q := ⟨_, rfl⟩
      clear k0 k1 k2 k3 k4 k5 k6 j0 j1
      go_wp2
      go_ret
      exact ⟨by rw [hq]; rfl, HG0.out.trans hG.out⟩
end Go.Proofs.YtfgkgpkaohkehaaGreatDoor
namespace Go.Proofs.YtfgkgpkaohkehaaGreatDoor
open Go.ChangeShapes Go.WideShapes Go.ChangeAt Go.RowKit
open Grids
set_option linter.unusedVariables false
/-- What isQuorum answers. -/
def QuoIs (R P W z1 n1 z2 n2 z n s : Int) (q : Bool) : Prop := ∀ w : World, Calls Tryz.prog 104 #[.agg #[.int .i64 R, .int .i64 P, .int .u32 W, .int .i64 z1, .int .i64 n1, .int .i64 z2, .int .i64 n2], .agg #[.int .i64 z, .int .i64 n], .int .u32 s] w fun e w' => e = .returned (.bool q) ∧ Gr w w'
theorem isFirst_any {R P W z1 n1 z2 n2 s : Int} {q : Bool} (h : QuoIs R P W z1 n1 z2 n2 z1 n1 s q) (w : World) :
    Calls Tryz.prog 68 #[.agg #[.int .i64 R, .int .i64 P, .int .u32 W, .int .i64 z1, .int .i64 n1, .int .i64 z2, .int .i64 n2], .int .u32 s] w fun e w' => e = .returned (.bool q) ∧ Gr w w' := by
  have c1 := Lib.hid h
  clear h
  go_enter Tryz.func68, Tryz.ntmps68
  go_wp2_with fail
  refine (c1.out _).mono ?_
  rintro e w1 ⟨rfl, hg⟩
  go_wp2
  go_ret
  exact ⟨rfl, ((Gr.refl _).alloc _).trans hg⟩
theorem isSecond_any {R P W z1 n1 z2 n2 s : Int} {q : Bool} (h : QuoIs R P W z1 n1 z2 n2 z2 n2 s q) (w : World) :
    Calls Tryz.prog 69 #[.agg #[.int .i64 R, .int .i64 P, .int .u32 W, .int .i64 z1, .int .i64 n1, .int .i64 z2, .int .i64 n2], .int .u32 s] w fun e w' => e = .returned (.bool q) ∧ Gr w w' := by
  have c1 := Lib.hid h
  clear h
  go_enter Tryz.func69, Tryz.ntmps69
  go_wp2_with fail
  refine (c1.out _).mono ?_
  rintro e w1 ⟨rfl, hg⟩
  go_wp2
  go_ret
  exact ⟨rfl, ((Gr.refl _).alloc _).trans hg⟩
set_option maxRecDepth 100000 in
set_option maxHeartbeats 2000000 in
theorem refQuorum_any (r p z n s : Nat) (W z1 n1 z2 n2 : Int) (w : World) (hr : 1 ≤ r ∧ r ≤ 4) (hp : 1 ≤ p ∧ p ≤ 4) (hn : r * p ≤ 12) (hs : s < 4294967296) (hz : z ≤ 4) (hn' : n ≤ 4) :
    Calls Tryz.prog 44 #[.agg #[.int .i64 r, .int .i64 p, .int .u32 W, .int .i64 z1, .int .i64 n1, .int .i64 z2, .int .i64 n2], .int .u32 s, .agg #[.int .i64 z, .int .i64 n]] w fun e w' => e = .returned (.bool (isQ r p z n s)) ∧ Gr w w' := by
  have HM := Lib.hid (show isQ r p z n s = decide (z ≤ cnt (fun i => decide (n ≤ regC p s i)) r) from rfl)
  rw [HM.out]; clear HM
  have HL := Lib.hid (fun k => show (fun i => decide (n ≤ regC p s i)) k = decide (n ≤ cnt (fun i => s.testBit (k * p + i)) p) from rfl)
  generalize (fun i => decide (n ≤ regC p s i)) = Lo at *
  have HC := Lib.hid (fun k => cnt_le Lo k)
  have HK := Lib.hid (fun k => show cnt Lo (k + 1) = cnt Lo k + (if Lo k then 1 else 0) from rfl)
  have HC0 := Lib.hid (show cnt Lo 0 = 0 from rfl)
  generalize cnt Lo = C at *
  go_enter Tryz.func44, Tryz.ntmps44
  go_wp2
  go_loop [7, 8] (fun l i => ∃ k : Nat, k ≤ r ∧ i = .int .i64 k ∧ l = .int .i64 (C k : Nat)) (fun _ i => r - (intOf i).toNat)
  case atStart => exact ⟨0, by omega, rfl, by rw [HC0.out]; rfl⟩
  case round =>
    obtain ⟨k, hk, rfl, rfl⟩ := hrel
    have hck := HC.out k
    by_cases hlt : k < r
    · have HK' := Lib.hid (HK.out k)
      have HL' := Lib.hid (HL.out k)
      have hb := region_bd hlt hr.2 hp.2 hn
      have HI := Lib.hid (fun i => cnt_le (fun i => s.testBit (k * p + i)) i)
      have HJ := Lib.hid (fun j => show cnt (fun i => s.testBit (k * p + i)) (j + 1) = cnt (fun i => s.testBit (k * p + i)) j + (if s.testBit (k * p + j) then 1 else 0) from rfl)
      have HJ0 := Lib.hid (show cnt (fun i => s.testBit (k * p + i)) 0 = 0 from rfl)
      generalize cnt (fun i => s.testBit (k * p + i)) = D at *
      go_wp2
      go_loop [9, 10] (fun l i => ∃ j : Nat, j ≤ p ∧ i = .int .i64 j ∧ l = .int .i64 (D j : Nat)) (fun _ i => p - (intOf i).toNat)
      case atStart => exact ⟨0, by omega, rfl, by rw [HJ0.out]; rfl⟩
      case round =>
        obtain ⟨j, hj, rfl, rfl⟩ := hrel
        have hdj := HI.out j
        by_cases hlj : j < p
        · have HJ' := Lib.hid (HJ.out j)
          have m0 : (0 : Int) ≤ (k : Int) * (p : Int) := by rw [← Int.natCast_mul]; omega
          have m1 : (k : Int) * (p : Int) ≤ 12 := by rw [← Int.natCast_mul]; omega
          have HH := Lib.hid (fun w => has_any s (k * p + j) w hs (by omega))
          rw [show ((k * p + j : Nat) : Int) = (k : Int) * (p : Int) + (j : Int) by simp] at HH
          generalize s.testBit (k * p + j) = t at *
          cases t
          all_goals
            go_wp2_with fail
            refine (HH.out _).mono ?_
            rintro e w9 ⟨rfl, rfl⟩
            go_wp2
            go_round
            case rel => exact ⟨j + 1, by omega, by go_num, by rw [HJ'.out]; first | rfl | go_num⟩
            case measure => simp [intOf]; omega
        · obtain rfl : j = p := by omega
          obtain ⟨lk, hlk⟩ : ∃ lk, Lo k = lk := ⟨_, rfl⟩
          rw [hlk] at HL' HK'
          clear hlk
          cases lk
          · have hd : ¬ n ≤ D j := by simpa using HL'.out.symm
            have hd' : (D j : Int) < n := by omega
            clear HL' hd
            go_wp2
            go_round
            case rel => exact ⟨k + 1, by omega, by go_num, by rw [HK'.out]; first | rfl | go_num⟩
            case measure => simp [intOf]; omega
          · have hd : n ≤ D j := by simpa using HL'.out.symm
            clear HL'
            go_wp2
            go_round
            case rel => exact ⟨k + 1, by omega, by go_num, by rw [HK'.out]; first | rfl | go_num⟩
            case measure => simp [intOf]; omega
    · obtain rfl : k = r := by omega
      obtain ⟨q, hq⟩ : ∃ q, decide (z ≤ C k) = q := ⟨_, rfl⟩
      go_wp2
      go_ret
      exact ⟨by first | rfl | (rw [hq]; rfl) | (rw [← hq]; rfl), ((Gr.refl _).alloc _).alloc _⟩
end Go.Proofs.YtfgkgpkaohkehaaGreatDoor
/- Plain mathematics of what a set has not, of what two sets have, and of a shape's spare bits. No program is imported here. -/
namespace Go.Proofs.YtfgkgpkaohkehaaGreatDoor.Grids
def restB (n s : Nat) : Nat := ofB (fun i => !s.testBit i) n
def bothB (n a b : Nat) : Nat := ofB (fun i => a.testBit i && b.testBit i) n
theorem ofB_congr {f g : Nat → Bool} : ∀ n, (∀ i, i < n → f i = g i) → ofB f n = ofB g n
  | 0, _ => rfl
  | n + 1, h => by unfold ofB; rw [ofB_congr n fun i hi => h i (by omega), h n (by omega)]
theorem ofB_not (f : Nat → Bool) : ∀ n, ofB (fun i => !f i) n + ofB f n + 1 = 2 ^ n
  | 0 => rfl
  | n + 1 => by
    have := ofB_not f n
    unfold ofB
    rw [Nat.pow_succ]
    cases f n <;> simp <;> omega
/-- The next bit from the top, shifted in below. -/
theorem ofB_step (g : Nat → Bool) (n k : Nat) (h : k < n) : ofB (fun j => g (n - (k + 1) + j)) (k + 1) = 2 * ofB (fun j => g (n - k + j)) k + (if g (n - (k + 1)) then 1 else 0) := by
  rw [ofB_front]
  rw [show n - (k + 1) + 0 = n - (k + 1) from rfl, ofB_congr (f := fun i => g (n - (k + 1) + (i + 1))) (g := fun j => g (n - k + j)) k fun i _ => by rw [show n - (k + 1) + (i + 1) = n - k + i by omega]]
theorem with_eq (n a b w : Nat) (h : b = restB n a) : ofB (fun _ => true) n = bothB n (restB n b) (restB n w) + restOr n a w := by
  subst h
  have e : bothB n (restB n (restB n a)) (restB n w) = ofB (fun i => a.testBit i && !w.testBit i) n := by
    apply ofB_congr
    intro i hi
    unfold restB
    rw [ofB_bit, ofB_bit, ofB_bit, decide_eq_true hi]; simp
  rw [e]
  have h1 := ofB_not (fun i => a.testBit i && !w.testBit i) n
  have h2 := ofB_not (fun _ => true) n
  have h3 : ofB (fun i => !(a.testBit i && !w.testBit i)) n = restOr n a w := ofB_congr _ fun i _ => by simp
  have h4 : ofB (fun _ => !true) n = 0 := by
    clear h1 h2 h3 e
    induction n with
    | zero => rfl
    | succ n ih => unfold ofB; rw [ih]; rfl
  rw [h3] at h1
  rw [h4] at h2
  omega
theorem restB_zero (n : Nat) : restB n 0 = ofB (fun _ => true) n := ofB_congr _ fun i _ => by simp
theorem restB_all (n : Nat) : restB n 0 + 1 = 2 ^ n := by
  have h := ofB_not (fun i => (0 : Nat).testBit i) n
  have h2 : ofB (fun i => (0 : Nat).testBit i) n = 0 := by
    clear h
    induction n with
    | zero => rfl
    | succ n ih => unfold ofB; rw [ih]; simp
  unfold restB
  omega
theorem restB_lt (n s : Nat) : restB n s < 2 ^ n := ofB_lt _ _
theorem bothB_lt (n a b : Nat) : bothB n a b < 2 ^ n := ofB_lt _ _
theorem p12 {n k : Nat} (h : n ≤ 12) (hk : k < 2 ^ n) : k < 4096 := Nat.lt_of_lt_of_le hk (Nat.pow_le_pow_right (n := 2) (by decide) h)
/-- No bit from n on: below 2^n. -/
theorem high_none {W n : Nat} (hW : W < 4294967296) (h : ∀ j, n ≤ j → j < 32 → W.testBit j = false) : W / 2 ^ n = 0 := by
  apply Nat.eq_of_testBit_eq
  intro i
  rw [Nat.testBit_div_two_pow, Nat.zero_testBit]
  rcases Nat.lt_or_ge (i + n) 32 with h1 | h1
  · exact h _ (by omega) h1
  · exact Nat.testBit_lt_two_pow (Nat.lt_of_lt_of_le hW (Nat.pow_le_pow_right (n := 2) (by decide) h1))
theorem high_some {W n j : Nat} (h1 : n ≤ j) (h : W.testBit j = true) : ¬ W / 2 ^ n = 0 := by
  intro e
  have : (W / 2 ^ n).testBit (j - n) = W.testBit j := by rw [Nat.testBit_div_two_pow]; congr 1; omega
  rw [e, h] at this
  simp at this
end Go.Proofs.YtfgkgpkaohkehaaGreatDoor.Grids
namespace Go.Proofs.YtfgkgpkaohkehaaGreatDoor
open Go.ChangeShapes Go.WideShapes Go.ChangeAt Go.RowKit
open Grids
set_option linter.unusedVariables false
theorem mul_in {r p : Nat} (hn : r * p ≤ 12) : (0 : Int) ≤ (r : Int) * (p : Int) ∧ (r : Int) * (p : Int) ≤ 12 := by rw [← Int.natCast_mul]; omega
set_option maxRecDepth 100000 in
set_option maxHeartbeats 2000000 in
theorem rest_any (r p s : Nat) (W z1 n1 z2 n2 : Int) (w : World) (hn : r * p ≤ 12) (hs : s < 4294967296) :
    Calls Tryz.prog 43 #[.agg #[.int .i64 r, .int .i64 p, .int .u32 W, .int .i64 z1, .int .i64 n1, .int .i64 z2, .int .i64 n2], .int .u32 s] w fun e w' => e = .returned (.int .u32 (restB (r * p) s : Nat)) ∧ Gr w w' := by
  obtain ⟨m0, m1⟩ := mul_in hn
  have hNI : (r : Int) * (p : Int) = ((r * p : Nat) : Int) := by simp
  generalize r * p = N at *
  have HE := Lib.hid (show ofB (fun j => !s.testBit j) N = ofB (fun j => (fun j => !s.testBit j) (N - N + j)) N from ofB_congr _ fun i _ => by rw [Nat.sub_self, Nat.zero_add])
  obtain ⟨g, hg⟩ : ∃ g : Nat → Bool, (fun j => !s.testBit j) = g := ⟨_, rfl⟩
  have HG := Lib.hid (fun j => congrFun hg j)
  have HF := Lib.hid (show restB N s = ofB (fun j => !s.testBit j) N from rfl)
  rw [HF.out, HE.out, hg]
  clear HE HF hg
  have HS := Lib.hid (fun k hk => ofB_step g N k hk)
  have HZ := Lib.hid (show ofB (fun j => g (N - 0 + j)) 0 = 0 from rfl)
  have HB := Lib.hid (fun k hk => p12 (n := k) hk (ofB_lt (fun j => g (N - k + j)) k))
  go_enter Tryz.func43, Tryz.ntmps43
  go_wp2
  go_loop [5, 6] (fun o i => ∃ k : Nat, k ≤ N ∧ i = .int .i64 ((N : Int) - 1 - k) ∧ o = .int .u32 (ofB (fun j => g (N - k + j)) k : Nat)) (fun _ i => (intOf i + 1).toNat)
  case atStart => exact ⟨0, by omega, by simp, by rw [HZ.out]; rfl⟩
  case round =>
    obtain ⟨k, hk, rfl, rfl⟩ := hrel
    by_cases hlt : k < N
    · have hb := HB.out k (by omega)
      have HS' := Lib.hid (HS.out k hlt)
      have HG' := Lib.hid (HG.out (N - (k + 1)))
      have HH := Lib.hid (fun w => has_any s (N - (k + 1)) w hs (by omega))
      rw [show ((N - (k + 1) : Nat) : Int) = (N : Int) - 1 - k by omega] at HH
      rw [show s.testBit (N - (k + 1)) = !g (N - (k + 1)) by rw [← HG'.out]; simp] at HH
      generalize g (N - (k + 1)) = t at *
      generalize ofB (fun j => g (N - k + j)) k = o at *
      cases t
      all_goals
        go_wp2_with fail
        refine (HH.out _).mono ?_
        rintro e w9 ⟨rfl, rfl⟩
        go_wp2
        go_round
        case rel => exact ⟨k + 1, by omega, by go_num, by rw [HS'.out]; first | rfl | go_num⟩
        case measure => simp [intOf]; omega
    · obtain rfl : k = N := by omega
      obtain ⟨o, ho⟩ : ∃ o, ofB (fun j => g (k - k + j)) k = o := ⟨_, rfl⟩
      rw [ho]
      go_wp2
      go_ret
      exact ⟨ret_int (by rw [← ho]; simp), (Gr.refl _).alloc _⟩
set_option maxRecDepth 100000 in
set_option maxHeartbeats 2000000 in
theorem both_any (r p a b : Nat) (W z1 n1 z2 n2 : Int) (w : World) (hn : r * p ≤ 12) (ha : a < 4294967296) (hb' : b < 4294967296) :
    Calls Tryz.prog 72 #[.agg #[.int .i64 r, .int .i64 p, .int .u32 W, .int .i64 z1, .int .i64 n1, .int .i64 z2, .int .i64 n2], .int .u32 a, .int .u32 b] w fun e w' => e = .returned (.int .u32 (bothB (r * p) a b : Nat)) ∧ Gr w w' := by
  obtain ⟨m0, m1⟩ := mul_in hn
  have hNI : (r : Int) * (p : Int) = ((r * p : Nat) : Int) := by simp
  generalize r * p = N at *
  have HE := Lib.hid (show ofB (fun j => a.testBit j && b.testBit j) N = ofB (fun j => (fun j => a.testBit j && b.testBit j) (N - N + j)) N from ofB_congr _ fun i _ => by rw [Nat.sub_self, Nat.zero_add])
  obtain ⟨g, hg⟩ : ∃ g : Nat → Bool, (fun j => a.testBit j && b.testBit j) = g := ⟨_, rfl⟩
  have HG := Lib.hid (fun j => congrFun hg j)
  have HF := Lib.hid (show bothB N a b = ofB (fun j => a.testBit j && b.testBit j) N from rfl)
  rw [HF.out, HE.out, hg]
  clear HE HF hg
  have HS := Lib.hid (fun k hk => ofB_step g N k hk)
  have HZ := Lib.hid (show ofB (fun j => g (N - 0 + j)) 0 = 0 from rfl)
  have HB := Lib.hid (fun k hk => p12 (n := k) hk (ofB_lt (fun j => g (N - k + j)) k))
  go_enter Tryz.func72, Tryz.ntmps72
  go_wp2
  go_loop [7, 8] (fun o i => ∃ k : Nat, k ≤ N ∧ i = .int .i64 ((N : Int) - 1 - k) ∧ o = .int .u32 (ofB (fun j => g (N - k + j)) k : Nat)) (fun _ i => (intOf i + 1).toNat)
  case atStart => exact ⟨0, by omega, by simp, by rw [HZ.out]; rfl⟩
  case round =>
    obtain ⟨k, hk, rfl, rfl⟩ := hrel
    by_cases hlt : k < N
    · have hb := HB.out k (by omega)
      have HS' := Lib.hid (HS.out k hlt)
      have HG' := Lib.hid (HG.out (N - (k + 1)))
      have H1 := Lib.hid (fun w => has_any a (N - (k + 1)) w ha (by omega))
      have H2 := Lib.hid (fun w => has_any b (N - (k + 1)) w hb' (by omega))
      rw [show ((N - (k + 1) : Nat) : Int) = (N : Int) - 1 - k by omega] at H1 H2
      generalize a.testBit (N - (k + 1)) = ta at *
      generalize b.testBit (N - (k + 1)) = tb at *
      have HG' := HG'.out
      generalize g (N - (k + 1)) = t at *
      generalize ofB (fun j => g (N - k + j)) k = o at *
      cases ta
      · simp at HG'
        subst HG'
        go_wp2_with fail
        refine (H1.out _).mono ?_
        rintro e w9 ⟨rfl, rfl⟩
        go_wp2
        go_round
        case rel => exact ⟨k + 1, by omega, by go_num, by rw [HS'.out]; first | rfl | go_num⟩
        case measure => simp [intOf]; omega
      · simp at HG'
        subst HG'
        cases tb
        all_goals
          go_wp2_with fail
          refine (H1.out _).mono ?_
          rintro e w9 ⟨rfl, rfl⟩
          go_wp2_with fail
          refine (H2.out _).mono ?_
          rintro e w9 ⟨rfl, rfl⟩
          go_wp2
          go_round
          case rel => exact ⟨k + 1, by omega, by go_num, by rw [HS'.out]; first | rfl | go_num⟩
          case measure => simp [intOf]; omega
    · obtain rfl : k = N := by omega
      obtain ⟨o, ho⟩ : ∃ o, ofB (fun j => g (k - k + j)) k = o := ⟨_, rfl⟩
      rw [ho]
      go_wp2
      go_ret
      exact ⟨ret_int (by rw [← ho]; simp), (Gr.refl _).alloc _⟩
end Go.Proofs.YtfgkgpkaohkehaaGreatDoor
namespace Go.Proofs.YtfgkgpkaohkehaaGreatDoor
open Go.ChangeShapes Go.WideShapes Go.ChangeAt Go.RowKit
open Grids
set_option linter.unusedVariables false
set_option linter.unusedSimpArgs false
theorem lt12 {N k : Nat} (h : k < 4096) : k < 4294967296 := by omega
set_option maxRecDepth 100000 in
set_option maxHeartbeats 4000000 in
theorem with_any (r p x a v : Nat) (W z1 n1 z2 n2 : Int) (w : World) (hn : r * p ≤ 12) (ha : a = restB (r * p) x) (hv : v < 4294967296) :
    Calls Tryz.prog 45 #[.agg #[.int .i64 r, .int .i64 p, .int .u32 W, .int .i64 z1, .int .i64 n1, .int .i64 z2, .int .i64 n2], .int .u32 a, .int .u32 v] w fun e w' => e = .returned (.int .u32 (restOr (r * p) x v : Nat)) ∧ Gr w w' := by
  have ha' : a < 4096 := by rw [ha]; exact p12 hn (restB_lt _ _)
  have E := Lib.hid (with_eq (r * p) x a v ha)
  rw [← restB_zero] at E
  have h0 := p12 hn (restB_lt (r * p) 0)
  have R0 := Lib.hid (fun w => rest_any r p 0 W z1 n1 z2 n2 w hn (by decide))
  have RA := Lib.hid (fun w => rest_any r p a W z1 n1 z2 n2 w hn (by omega))
  have RV := Lib.hid (fun w => rest_any r p v W z1 n1 z2 n2 w hn hv)
  have B := Lib.hid (fun w => both_any r p (restB (r * p) a) (restB (r * p) v) W z1 n1 z2 n2 w hn (lt12 (N := 0) (p12 hn (restB_lt _ _))) (lt12 (N := 0) (p12 hn (restB_lt _ _))))
  clear ha hn
  generalize bothB (r * p) (restB (r * p) a) (restB (r * p) v) = o at *
  generalize restOr (r * p) x v = q at *
  generalize restB (r * p) 0 = c at *
  generalize restB (r * p) a = d at *
  generalize restB (r * p) v = e at *
  have e1 := E.out
  have e2 : c - o = q := by omega
  have e3 : o ≤ c := by omega
  have V : Hid (((c : Int) - (o : Int)) % 4294967296 = (q : Int)) := Lib.hid (by omega)
  clear e1 e2
  go_enter Tryz.func45, Tryz.ntmps45
  go_wp2
  have hg0 := Gr.refl (w.alloc (.cells #[.int .i64 r, .int .i64 p, .int .u32 W, .int .i64 z1, .int .i64 n1, .int .i64 z2, .int .i64 n2] 26))
  have HG0 := (Gr.refl w).alloc (.cells #[.int .i64 r, .int .i64 p, .int .u32 W, .int .i64 z1, .int .i64 n1, .int .i64 z2, .int .i64 n2] 26)
  have k0 := hg0.own.1 0 _ rfl
  have k1 := hg0.own.1 1 _ rfl
  have k2 := hg0.own.1 2 _ rfl
  have k3 := hg0.own.1 3 _ rfl
  have k4 := hg0.own.1 4 _ rfl
  have k5 := hg0.own.1 5 _ rfl
  have k6 := hg0.own.1 6 _ rfl
  clear hg0
  generalize w.heap.size = b at *
  generalize w.alloc (.cells #[.int .i64 r, .int .i64 p, .int .u32 W, .int .i64 z1, .int .i64 n1, .int .i64 z2, .int .i64 n2] 26) = wz at *
  have HX : Hid (∀ w0 w9 : World, Gr w0 w9 → (fun w9 => Gr wz w9 ∧ w9.cell? ⟨b, 0, none⟩ = some (.int .i64 (r : Nat)) ∧ w9.cell? ⟨b, 1, none⟩ = some (.int .i64 (p : Nat)) ∧ w9.cell? ⟨b, 2, none⟩ = some (.int .u32 W) ∧ w9.cell? ⟨b, 3, none⟩ = some (.int .i64 z1) ∧ w9.cell? ⟨b, 4, none⟩ = some (.int .i64 n1) ∧ w9.cell? ⟨b, 5, none⟩ = some (.int .i64 z2) ∧ w9.cell? ⟨b, 6, none⟩ = some (.int .i64 n2)) w0 → (fun w9 => Gr wz w9 ∧ w9.cell? ⟨b, 0, none⟩ = some (.int .i64 (r : Nat)) ∧ w9.cell? ⟨b, 1, none⟩ = some (.int .i64 (p : Nat)) ∧ w9.cell? ⟨b, 2, none⟩ = some (.int .u32 W) ∧ w9.cell? ⟨b, 3, none⟩ = some (.int .i64 z1) ∧ w9.cell? ⟨b, 4, none⟩ = some (.int .i64 n1) ∧ w9.cell? ⟨b, 5, none⟩ = some (.int .i64 z2) ∧ w9.cell? ⟨b, 6, none⟩ = some (.int .i64 n2)) w9) :=
    Lib.hid fun w0 w9 hg ⟨h0, h1, h2, h3, h4, h5, h6, h7⟩ => ⟨h0.trans hg, hg.cell h1, hg.cell h2, hg.cell h3, hg.cell h4, hg.cell h5, hg.cell h6, hg.cell h7⟩
  have HS0 := And.intro (Gr.refl wz) (And.intro k0 (And.intro k1 (And.intro k2 (And.intro k3 (And.intro k4 (And.intro k5 k6))))))
  clear k0 k1 k2 k3 k4 k5 k6
  refine wp_region_held_drew (S := (fun w9 => Gr wz w9 ∧ w9.cell? ⟨b, 0, none⟩ = some (.int .i64 (r : Nat)) ∧ w9.cell? ⟨b, 1, none⟩ = some (.int .i64 (p : Nat)) ∧ w9.cell? ⟨b, 2, none⟩ = some (.int .u32 W) ∧ w9.cell? ⟨b, 3, none⟩ = some (.int .i64 z1) ∧ w9.cell? ⟨b, 4, none⟩ = some (.int .i64 n1) ∧ w9.cell? ⟨b, 5, none⟩ = some (.int .i64 z2) ∧ w9.cell? ⟨b, 6, none⟩ = some (.int .i64 n2))) (by kernel_rfl) ?invw (fun h0 => ?_)
  case invw => ((try dsimp only); (first | exact HS0 | exact HX.out _ _ ((Gr.refl _).drew) HS0))
  refine wpAnyH_take (i := 0) (oi := { dst := some 7, op := Go.Op.load 26 (Go.Operand.tmp 3), type := 26, pos := "ref.go:72", after := #[], guard := none }) (v := ?vw1) rfl (by kernel_rfl) (by kernel_rfl) (by kernel_rfl) (fun _ _ _ h => h) (Or.inl ⟨by rfl, ?rw1⟩) (by assumption) ?_
  case rw1 => (intro w hSw; (try dsimp only at hSw); (go_simp <;> with_reducible rfl))
  try simp only [Act.put, List.setIfInBounds_toArray, List.set_cons_zero, List.set_cons_succ]
  refine wpAnyH_take (i := 2) (oi := { dst := some 9, op := Go.Op.load 26 (Go.Operand.tmp 3), type := 26, pos := "ref.go:72", after := #[], guard := none }) (v := ?vw2) rfl (by kernel_rfl) (by kernel_rfl) (by kernel_rfl) (fun _ _ _ h => h) (Or.inl ⟨by rfl, ?rw2⟩) (by assumption) ?_
  case rw2 => (intro w hSw; (try dsimp only at hSw); (go_simp <;> with_reducible rfl))
  try simp only [Act.put, List.setIfInBounds_toArray, List.set_cons_zero, List.set_cons_succ]
  refine wpAnyH_take (i := 3) (oi := { dst := some 10, op := Go.Op.load 26 (Go.Operand.tmp 3), type := 26, pos := "ref.go:72", after := #[], guard := none }) (v := ?vw3) rfl (by kernel_rfl) (by kernel_rfl) (by kernel_rfl) (fun _ _ _ h => h) (Or.inl ⟨by rfl, ?rw3⟩) (by assumption) ?_
  case rw3 => (intro w hSw; (try dsimp only at hSw); (go_simp <;> with_reducible rfl))
  try simp only [Act.put, List.setIfInBounds_toArray, List.set_cons_zero, List.set_cons_succ]
  refine wpAnyH_take (i := 4) (oi := { dst := some 11, op := Go.Op.move (Go.Operand.tmp 1), type := 22, pos := "ref.go:72", after := #[], guard := none }) (v := ?vw4) rfl (by kernel_rfl) (by kernel_rfl) (by kernel_rfl) (fun _ _ _ h => h) (Or.inl ⟨by rfl, ?rw4⟩) (by assumption) ?_
  case rw4 => (intro w hSw; (try dsimp only at hSw); (go_simp <;> with_reducible rfl))
  try simp only [Act.put, List.setIfInBounds_toArray, List.set_cons_zero, List.set_cons_succ]
  refine wpAnyH_take (i := 6) (oi := { dst := some 13, op := Go.Op.load 26 (Go.Operand.tmp 3), type := 26, pos := "ref.go:72", after := #[], guard := none }) (v := ?vw5) rfl (by kernel_rfl) (by kernel_rfl) (by kernel_rfl) (fun _ _ _ h => h) (Or.inl ⟨by rfl, ?rw5⟩) (by assumption) ?_
  case rw5 => (intro w hSw; (try dsimp only at hSw); (go_simp <;> with_reducible rfl))
  try simp only [Act.put, List.setIfInBounds_toArray, List.set_cons_zero, List.set_cons_succ]
  refine wpAnyH_take (i := 7) (oi := { dst := some 14, op := Go.Op.move (Go.Operand.tmp 2), type := 22, pos := "ref.go:72", after := #[], guard := none }) (v := ?vw6) rfl (by kernel_rfl) (by kernel_rfl) (by kernel_rfl) (fun _ _ _ h => h) (Or.inl ⟨by rfl, ?rw6⟩) (by assumption) ?_
  case rw6 => (intro w hSw; (try dsimp only at hSw); (go_simp <;> with_reducible rfl))
  try simp only [Act.put, List.setIfInBounds_toArray, List.set_cons_zero, List.set_cons_succ]
  refine wpAnyH_ready (rs := [1]) (by kernel_rfl) (by simp) ?_
  refine AllReadyH.cons (o := { dst := some 8, op := Go.Op.call { callee := Go.Callee.value (Go.Operand.func 43), args := #[Go.Operand.tmp 7, Go.Operand.const (Go.Value.int Go.IntKind.u32 0)], argTypes := #[26, 22] }, type := 22, pos := "ref.go:72", after := #[{ on := 0, ground := Go.Ground.data }], guard := none }) rfl (fun K hK => ?_) AllReadyH.nil
  go_simp
  (go_at_call 43; refine (R0.out _).mono ?_; rintro e w9 ⟨rfl, hgN⟩)
  first | refine hK.out _ _ ?sw7 (fun h7 => ?_) | (go_wp2_with fail; refine hK.out _ _ ?sw7 (fun h7 => ?_))
  case sw7 => ((try dsimp only); exact HX.out _ _ hgN h0)
  clear hK K h0
  try simp only [Act.put, List.setIfInBounds_toArray, List.set_cons_zero, List.set_cons_succ]
  refine wpAnyH_ready (rs := [5]) (by kernel_rfl) (by simp) ?_
  refine AllReadyH.cons (o := { dst := some 12, op := Go.Op.call { callee := Go.Callee.value (Go.Operand.func 43), args := #[Go.Operand.tmp 10, Go.Operand.tmp 11], argTypes := #[26, 22] }, type := 22, pos := "ref.go:72", after := #[{ on := 3, ground := Go.Ground.data }, { on := 4, ground := Go.Ground.data }, { on := 1, ground := Go.Ground.chain }], guard := none }) rfl (fun K hK => ?_) AllReadyH.nil
  go_simp
  (go_at_call 43; refine (RA.out _).mono ?_; rintro e w9 ⟨rfl, hgN⟩)
  first | refine hK.out _ _ ?sw8 (fun h8 => ?_) | (go_wp2_with fail; refine hK.out _ _ ?sw8 (fun h8 => ?_))
  case sw8 => ((try dsimp only); exact HX.out _ _ hgN h7)
  clear hK K h7
  try simp only [Act.put, List.setIfInBounds_toArray, List.set_cons_zero, List.set_cons_succ]
  refine wpAnyH_ready (rs := [8]) (by kernel_rfl) (by simp) ?_
  refine AllReadyH.cons (o := { dst := some 15, op := Go.Op.call { callee := Go.Callee.value (Go.Operand.func 43), args := #[Go.Operand.tmp 13, Go.Operand.tmp 14], argTypes := #[26, 22] }, type := 22, pos := "ref.go:72", after := #[{ on := 6, ground := Go.Ground.data }, { on := 7, ground := Go.Ground.data }, { on := 5, ground := Go.Ground.chain }], guard := none }) rfl (fun K hK => ?_) AllReadyH.nil
  go_simp
  (go_at_call 43; refine (RV.out _).mono ?_; rintro e w9 ⟨rfl, hgN⟩)
  first | refine hK.out _ _ ?sw9 (fun h9 => ?_) | (go_wp2_with fail; refine hK.out _ _ ?sw9 (fun h9 => ?_))
  case sw9 => ((try dsimp only); exact HX.out _ _ hgN h8)
  clear hK K h8
  try simp only [Act.put, List.setIfInBounds_toArray, List.set_cons_zero, List.set_cons_succ]
  refine wpAnyH_ready (rs := [9]) (by kernel_rfl) (by simp) ?_
  refine AllReadyH.cons (o := { dst := some 16, op := Go.Op.call { callee := Go.Callee.value (Go.Operand.func 72), args := #[Go.Operand.tmp 9, Go.Operand.tmp 12, Go.Operand.tmp 15], argTypes := #[26, 22, 22] }, type := 22, pos := "ref.go:72", after := #[{ on := 2, ground := Go.Ground.data }, { on := 5, ground := Go.Ground.data }, { on := 8, ground := Go.Ground.data }, { on := 8, ground := Go.Ground.chain }], guard := none }) rfl (fun K hK => ?_) AllReadyH.nil
  go_simp
  (go_at_call 72; refine (B.out _).mono ?_; rintro e w9 ⟨rfl, hgN⟩)
  first | refine hK.out _ _ ?sw10 (fun h10 => ?_) | (go_wp2_with fail; refine hK.out _ _ ?sw10 (fun h10 => ?_))
  case sw10 => ((try dsimp only); exact HX.out _ _ hgN h9)
  clear hK K h9
  try simp only [Act.put, List.setIfInBounds_toArray, List.set_cons_zero, List.set_cons_succ]
  refine wpAnyH_take (i := 10) (oi := { dst := some 17, op := Go.Op.binOp Go.BinOp.sub 22 (Go.Operand.tmp 8) (Go.Operand.tmp 16) 22, type := 22, pos := "ref.go:72", after := #[{ on := 1, ground := Go.Ground.data }, { on := 9, ground := Go.Ground.data }], guard := none }) (v := ?vw11) rfl (by kernel_rfl) (by kernel_rfl) (by kernel_rfl) (fun _ _ _ h => h) (Or.inl ⟨by rfl, ?rw11⟩) (by assumption) ?_
  case rw11 => (intro w hSw; (try dsimp only at hSw); (go_simp <;> with_reducible rfl))
  try simp only [Act.put, List.setIfInBounds_toArray, List.set_cons_zero, List.set_cons_succ]
  refine wpAnyH_take (i := 11) (oi := { dst := some 6, op := Go.Op.assign (Go.Operand.tmp 17), type := 22, pos := "ref.go:72", after := #[{ on := 10, ground := Go.Ground.data }, { on := 9, ground := Go.Ground.chain }, { on := 0, ground := Go.Ground.phase }, { on := 1, ground := Go.Ground.phase }, { on := 2, ground := Go.Ground.phase }, { on := 3, ground := Go.Ground.phase }, { on := 4, ground := Go.Ground.phase }, { on := 5, ground := Go.Ground.phase }, { on := 6, ground := Go.Ground.phase }, { on := 7, ground := Go.Ground.phase }, { on := 8, ground := Go.Ground.phase }, { on := 9, ground := Go.Ground.phase }, { on := 10, ground := Go.Ground.phase }], guard := none }) (v := ?vw12) rfl (by kernel_rfl) (by kernel_rfl) (by kernel_rfl) (fun _ _ _ h => h) (Or.inl ⟨by rfl, ?rw12⟩) (by assumption) ?_
  case rw12 => (intro w hSw; (try dsimp only at hSw); (go_simp <;> with_reducible rfl))
  try simp only [Act.put, List.setIfInBounds_toArray, List.set_cons_zero, List.set_cons_succ]
  refine wpAnyH_done (by kernel_rfl) ?_ _
  obtain ⟨g9, -⟩ := h10
  have G9 := Lib.hid g9
  clear g9
  go_wp2
  go_ret
  exact ⟨ret_int V.out, HG0.trans G9.out⟩
end Go.Proofs.YtfgkgpkaohkehaaGreatDoor
