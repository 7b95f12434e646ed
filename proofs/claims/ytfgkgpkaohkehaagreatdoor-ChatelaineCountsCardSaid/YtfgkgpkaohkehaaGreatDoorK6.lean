import Derived.Test.YtfgkgpkaohkehaaGreatDoorK5
import Derived.WalkKit
import Derived.ProofKit
import Derived.LoopTactic
import Derived.Outline
import Derived.WalkSpells
import Derived.WalkLawsBesides
import Derived.Lib.Hide
import Derived.Deep.LoopGhost
import Derived.Deep.QuietTactic
import Derived.BigQuiet
import Derived.ShutString
import Derived.IntWalk
import Derived.Deep.RegionHeld3
namespace Go.Proofs.YtfgkgpkaohkehaaGreatDoor
open Go.ChangeShapes Go.WideShapes Go.ChangeAt Go.RowKit
open Grids
set_option linter.unusedVariables false
theorem snoc_all {Q : Nat → Prop} {N k : Nat} (h : ∀ j, N ≤ j → j < k → Q j) (hk : Q k) : ∀ j, N ≤ j → j < k + 1 → Q j := by
  intro j h1 h2
  rcases Nat.lt_or_ge j k with h3 | h3
  · exact h j h1 h3
  · obtain rfl : j = k := by omega
    exact hk
theorem shape_cases (R P : Int) (W : Nat) (z1 n1 z2 n2 : Int) :
    ∃ f1 f2 f3 f4 g1 g2 g3 g4 : Bool, decide (1 ≤ R ∧ R ≤ 4) = f1 ∧ decide (1 ≤ P ∧ P ≤ 4) = f2 ∧ decide (R * P ≤ 12) = f3 ∧ decide (W / 2 ^ (R * P).toNat = 0) = f4 ∧
      decide (1 ≤ z1 ∧ z1 ≤ R) = g1 ∧ decide (1 ≤ z2 ∧ z2 ≤ R) = g2 ∧ decide (1 ≤ n1 ∧ n1 ≤ P) = g3 ∧ decide (1 ≤ n2 ∧ n2 ≤ P) = g4 ∧ decide (Form R P W z1 n1 z2 n2) = (f1 && (f2 && (f3 && (g1 && (g2 && (g3 && (g4 && f4))))))) := by
  refine ⟨_, _, _, _, _, _, _, _, rfl, rfl, rfl, rfl, rfl, rfl, rfl, rfl, ?_⟩
  rw [Bool.eq_iff_iff, decide_eq_true_eq]
  simp only [decide_eq_true_eq, Bool.and_eq_true]
  unfold Form
  constructor
  · rintro ⟨h1, h2, h3, h4, ⟨h5, h6⟩, h7, h8⟩; exact ⟨h1, h2, h3, h5, h7, h6, h8, h4⟩
  · rintro ⟨h1, h2, h3, h5, h7, h6, h8, h4⟩; exact ⟨h1, h2, h3, h4, ⟨h5, h6⟩, h7, h8⟩
set_option maxRecDepth 100000 in
set_option maxHeartbeats 2000000 in
theorem shaped_any (R P : Int) (W : Nat) (z1 n1 z2 n2 : Int) (w : World) (hW : W < 4294967296) :
    Calls Tryz.prog 42 #[.agg #[.int .i64 R, .int .i64 P, .int .u32 W, .int .i64 z1, .int .i64 n1, .int .i64 z2, .int .i64 n2]] w fun e w' => e = .returned (.bool (decide (Form R P W z1 n1 z2 n2))) ∧ Gr w w' := by
  obtain ⟨f1, f2, f3, f4, g1, g2, g3, g4, h1, h2, h3, h4, h5, h6, h7, h8, hF⟩ := shape_cases R P W z1 n1 z2 n2
  rw [hF]; clear hF
  have c1 := Lib.hid (between_any R 1 4)
  have c2 := Lib.hid (between_any P 1 4)
  have c5 := Lib.hid (between_any z1 1 R)
  have c6 := Lib.hid (between_any z2 1 R)
  have c7 := Lib.hid (between_any n1 1 P)
  have c8 := Lib.hid (between_any n2 1 P)
  rw [h1] at c1
  rw [h2] at c2
  rw [h5] at c5
  rw [h6] at c6
  rw [h7] at c7
  rw [h8] at c8
  clear h5 h6 h7 h8
  have H4 := Lib.hid h4
  clear h4
  cases f1
  · clear h1 h2 h3
    go_enter Tryz.func42, Tryz.ntmps42
    go_wp2_with fail
    refine (c1.out _).mono ?_
    rintro e w1 ⟨rfl, rfl⟩
    go_wp2
    go_ret
    exact ⟨rfl, (Gr.refl _).alloc _⟩
  cases f2
  · clear h1 h2 h3
    go_enter Tryz.func42, Tryz.ntmps42
    go_wp2_with fail
    refine (c1.out _).mono ?_
    rintro e w1 ⟨rfl, rfl⟩
    go_wp2_with fail
    refine (c2.out _).mono ?_
    rintro e w1 ⟨rfl, rfl⟩
    go_wp2
    go_ret
    exact ⟨rfl, (Gr.refl _).alloc _⟩
  obtain ⟨m1, m2⟩ := rp_bd (of_decide_eq_true h1) (of_decide_eq_true h2)
  clear h1 h2
  cases f3
  · have h3' := of_decide_eq_false h3
    clear h3
    go_enter Tryz.func42, Tryz.ntmps42
    go_wp2_with fail
    refine (c1.out _).mono ?_
    rintro e w1 ⟨rfl, rfl⟩
    go_wp2_with fail
    refine (c2.out _).mono ?_
    rintro e w1 ⟨rfl, rfl⟩
    go_wp2
    go_ret
    exact ⟨rfl, (Gr.refl _).alloc _⟩
  have h3' := of_decide_eq_true h3
  clear h3
  obtain ⟨N, hN⟩ : ∃ N : Nat, R * P = N := ⟨(R * P).toNat, by omega⟩
  have HT := Lib.hid (show (R * P).toNat = N by omega)
  rw [HT.out] at H4
  have hN12 : N ≤ 12 := by omega
  go_enter Tryz.func42, Tryz.ntmps42
  go_wp2_with fail
  refine (c1.out _).mono ?_
  rintro e w1 ⟨rfl, rfl⟩
  go_wp2_with fail
  refine (c2.out _).mono ?_
  rintro e w1 ⟨rfl, rfl⟩
  go_wp2_with fail
  refine (c5.out _).mono ?_
  rintro e w1 ⟨rfl, rfl⟩
  cases g1
  · go_wp2
    go_ret
    exact ⟨rfl, (Gr.refl _).alloc _⟩
  go_wp2_with fail
  refine (c6.out _).mono ?_
  rintro e w1 ⟨rfl, rfl⟩
  cases g2
  · go_wp2
    go_ret
    exact ⟨rfl, (Gr.refl _).alloc _⟩
  go_wp2_with fail
  refine (c7.out _).mono ?_
  rintro e w1 ⟨rfl, rfl⟩
  cases g3
  · go_wp2
    go_ret
    exact ⟨rfl, (Gr.refl _).alloc _⟩
  go_wp2_with fail
  refine (c8.out _).mono ?_
  rintro e w1 ⟨rfl, rfl⟩
  cases g4
  · go_wp2
    go_ret
    exact ⟨rfl, (Gr.refl _).alloc _⟩
  go_wp2
  go_loop [3] (fun i => ∃ k : Nat, N ≤ k ∧ k ≤ 32 ∧ i = .int .i64 k ∧ Hid (∀ j, N ≤ j → j < k → W.testBit j = false)) (fun i => 32 - (intOf i).toNat)
  case atStart => exact ⟨N, Nat.le_refl _, by omega, rfl, Lib.hid fun j h1 h2 => by omega⟩
  case round =>
    obtain ⟨k, hk1, hk2, rfl, hall⟩ := hrel
    by_cases hlt : k < 32
    · have HH := Lib.hid (fun w => has_any W k w hW (by omega))
      obtain ⟨t, ht⟩ : ∃ t, W.testBit k = t := ⟨_, rfl⟩
      rw [ht] at HH
      have HT' := Lib.hid ht
      clear ht
      cases t
      · go_wp2_with fail
        refine (HH.out _).mono ?_
        rintro e w9 ⟨rfl, rfl⟩
        go_wp2
        go_round
        case rel => exact ⟨k + 1, by omega, by omega, by go_num, Lib.hid (snoc_all hall.out HT'.out)⟩
        case measure => simp [intOf]; omega
      · go_wp2_with fail
        refine (HH.out _).mono ?_
        rintro e w9 ⟨rfl, rfl⟩
        go_wp2
        go_ret
        refine ⟨?_, (Gr.refl _).alloc _⟩
        have := high_some hk1 HT'.out
        have h5 := H4.out
        rw [decide_eq_false this] at h5
        subst h5; rfl
    · obtain rfl : k = 32 := by omega
      go_wp2
      go_ret
      refine ⟨?_, (Gr.refl _).alloc _⟩
      have := high_none hW hall.out
      have h5 := H4.out
      rw [decide_eq_true this] at h5
      subst h5; rfl
end Go.Proofs.YtfgkgpkaohkehaaGreatDoor
namespace Go.Proofs.YtfgkgpkaohkehaaGreatDoor
open Go.ChangeShapes Go.WideShapes Go.ChangeAt Go.RowKit
open Grids
set_option linter.unusedVariables false
set_option linter.unusedSimpArgs false
theorem good_bad {r p W z1 n1 z2 n2 a : Nat} (ha : a < 2 ^ (r * p)) (h1 : isQ r p z1 n1 a = true) (h2 : isQ r p z2 n2 (restOr (r * p) a W) = true) : meetsB r p W z1 n1 z2 n2 = false := by
  cases h : meetsB r p W z1 n1 z2 n2
  · rfl
  · have := good_of_meets (meets_of h) a ha h1
    rw [h2] at this; cases this
set_option maxRecDepth 100000 in
set_option maxHeartbeats 4000000 in
theorem good_any (r p W z1 n1 z2 n2 : Nat) (w : World) (hr : 1 ≤ r ∧ r ≤ 4) (hp : 1 ≤ p ∧ p ≤ 4) (hn : r * p ≤ 12) (hW : W < 2 ^ (r * p)) (hz1 : 1 ≤ z1 ∧ z1 ≤ r) (hn1 : 1 ≤ n1 ∧ n1 ≤ p) (hz2 : 1 ≤ z2 ∧ z2 ≤ r) (hn2 : 1 ≤ n2 ∧ n2 ≤ p) :
    Calls Tryz.prog 17 #[.agg #[.int .i64 r, .int .i64 p, .int .u32 W, .int .i64 z1, .int .i64 n1, .int .i64 z2, .int .i64 n2]] w fun e w' => e = .returned (.bool (meetsB r p W z1 n1 z2 n2)) ∧ Gr w w' := by
  have hW' : W < 4294967296 := Nat.lt_of_lt_of_le hW (Nat.le_trans (Nat.pow_le_pow_right (by decide) hn) (by decide))
  have SH := Lib.hid (fun w => shaped_any r p W z1 n1 z2 n2 w hW')
  rw [decide_eq_true (form_mk hr hp hn hW hz1 hn1 hz2 hn2)] at SH
  have R0 := Lib.hid (fun w => rest_any r p 0 W z1 n1 z2 n2 w hn (by decide))
  have hall := restB_all (r * p)
  have h12 := p12 hn (restB_lt (r * p) 0)
  have HYES := Lib.hid (fun h => (good_iff (regions := r) (per := p) (w := W) (z1 := z1) (n1 := n1) (z2 := z2) (n2 := n2) (by omega) hz1.2 hz2.2 hn1.2 hn2.2).2 h)
  have HNO := Lib.hid (fun a ha h1 h2 => @good_bad r p W z1 n1 z2 n2 a ha h1 h2)
  have HQA := Lib.hid (fun k (hk : k < 4096) w => refQuorum_any r p z1 n1 k W z1 n1 z2 n2 w hr hp hn (lt12 (N := 0) hk) (by omega) (by omega))
  have HQB := Lib.hid (fun k (hk : k < 4096) w => refQuorum_any r p z2 n2 k W z1 n1 z2 n2 w hr hp hn (lt12 (N := 0) hk) (by omega) (by omega))
  have HRK := Lib.hid (fun k (hk : k < 4096) w => rest_any r p k W z1 n1 z2 n2 w hn (lt12 (N := 0) hk))
  have HWI := Lib.hid (fun k w => with_any r p k (restB (r * p) k) W W z1 n1 z2 n2 w hn rfl hW')
  have HRL := Lib.hid (fun k => p12 hn (restB_lt (r * p) k))
  have HOL := Lib.hid (fun (k : Nat) => show restOr (r * p) k W < 4096 from p12 hn (ofB_lt _ _))
  have HP2 := Lib.hid (show restB (r * p) 0 + 1 = 2 ^ (r * p) from hall)
  clear hr hp hW hW' hz1 hn1 hz2 hn2 hall hn
  generalize restB (r * p) 0 = T at *
  have HT := Lib.hid h12
  go_enter Tryz.func17, Tryz.ntmps17
  go_wp2_with fail
  refine (SH.out _).mono ?_
  rintro e w1 ⟨rfl, hg1⟩
  have k0 := hg1.own.1 0 _ rfl
  have k1 := hg1.own.1 1 _ rfl
  have k2 := hg1.own.1 2 _ rfl
  have k3 := hg1.own.1 3 _ rfl
  have k4 := hg1.own.1 4 _ rfl
  have k5 := hg1.own.1 5 _ rfl
  have k6 := hg1.own.1 6 _ rfl
  have HG1 := Lib.hid (((Gr.refl _).alloc _).trans hg1)
  clear hg1
  go_wp2_with fail
  refine (R0.out _).mono ?_
  rintro e w2 ⟨rfl, hg2⟩
  replace k0 := hg2.cell k0
  replace k1 := hg2.cell k1
  replace k2 := hg2.cell k2
  replace k3 := hg2.cell k3
  replace k4 := hg2.cell k4
  replace k5 := hg2.cell k5
  replace k6 := hg2.cell k6
  have HG2 := Lib.hid (HG1.out.trans hg2)
  clear hg2
  generalize w.heap.size = b at *
  generalize w2 = wz at *
  have HX : Hid (∀ w0 w9 : World, Gr w0 w9 → (fun w9 => Gr wz w9 ∧ w9.cell? ⟨b, 0, none⟩ = some (.int .i64 (r : Nat)) ∧ w9.cell? ⟨b, 1, none⟩ = some (.int .i64 (p : Nat)) ∧ w9.cell? ⟨b, 2, none⟩ = some (.int .u32 (W : Nat)) ∧ w9.cell? ⟨b, 3, none⟩ = some (.int .i64 (z1 : Nat)) ∧ w9.cell? ⟨b, 4, none⟩ = some (.int .i64 (n1 : Nat)) ∧ w9.cell? ⟨b, 5, none⟩ = some (.int .i64 (z2 : Nat)) ∧ w9.cell? ⟨b, 6, none⟩ = some (.int .i64 (n2 : Nat))) w0 → (fun w9 => Gr wz w9 ∧ w9.cell? ⟨b, 0, none⟩ = some (.int .i64 (r : Nat)) ∧ w9.cell? ⟨b, 1, none⟩ = some (.int .i64 (p : Nat)) ∧ w9.cell? ⟨b, 2, none⟩ = some (.int .u32 (W : Nat)) ∧ w9.cell? ⟨b, 3, none⟩ = some (.int .i64 (z1 : Nat)) ∧ w9.cell? ⟨b, 4, none⟩ = some (.int .i64 (n1 : Nat)) ∧ w9.cell? ⟨b, 5, none⟩ = some (.int .i64 (z2 : Nat)) ∧ w9.cell? ⟨b, 6, none⟩ = some (.int .i64 (n2 : Nat))) w9) :=
    Lib.hid fun w0 w9 hg ⟨h0, h1, h2, h3, h4, h5, h6, h7⟩ => ⟨h0.trans hg, hg.cell h1, hg.cell h2, hg.cell h3, hg.cell h4, hg.cell h5, hg.cell h6, hg.cell h7⟩
  have HKS := Lib.hid (And.intro k0 (And.intro k1 (And.intro k2 (And.intro k3 (And.intro k4 (And.intro k5 k6))))))
  clear k0 k1 k2 k3 k4 k5 k6
  go_wp2
  go_loopw [4] (fun i wr => ∃ k : Nat, k ≤ T + 1 ∧ i = .int .u32 k ∧ Hid (∀ a, 0 ≤ a → a < k → isQ r p z1 n1 a = true → isQ r p z2 n2 (restOr (r * p) a W) = false) ∧ Hid (Gr wz wr)) (fun i _ => T + 1 - (intOf i).toNat)
  case atStart => exact ⟨0, by omega, rfl, Lib.hid (fun a _ h => by omega), Lib.hid (Gr.refl _)⟩
  case round =>
    obtain ⟨k, hk, rfl, hall, hG⟩ := hrel
    by_cases hlt : k ≤ T
    · have hk12 : k < 4096 := by omega
      have QA := Lib.hid (HQA.out k hk12)
      obtain ⟨q1, hq1⟩ : ∃ q1, isQ r p z1 n1 k = q1 := ⟨_, rfl⟩
      rw [hq1] at QA
      have HQ1 := Lib.hid hq1
      clear hq1
      obtain ⟨k0, k1, k2, k3, k4, k5, k6⟩ := HKS.out
      have HS0 := And.intro hG.out (And.intro (hG.out.cell k0) (And.intro (hG.out.cell k1) (And.intro (hG.out.cell k2) (And.intro (hG.out.cell k3) (And.intro (hG.out.cell k4) (And.intro (hG.out.cell k5) (hG.out.cell k6)))))))
      clear k0 k1 k2 k3 k4 k5 k6
      cases q1
      · go_wp2
        refine wp_region_held_drew (S := (fun w9 => Gr wz w9 ∧ w9.cell? ⟨b, 0, none⟩ = some (.int .i64 (r : Nat)) ∧ w9.cell? ⟨b, 1, none⟩ = some (.int .i64 (p : Nat)) ∧ w9.cell? ⟨b, 2, none⟩ = some (.int .u32 (W : Nat)) ∧ w9.cell? ⟨b, 3, none⟩ = some (.int .i64 (z1 : Nat)) ∧ w9.cell? ⟨b, 4, none⟩ = some (.int .i64 (n1 : Nat)) ∧ w9.cell? ⟨b, 5, none⟩ = some (.int .i64 (z2 : Nat)) ∧ w9.cell? ⟨b, 6, none⟩ = some (.int .i64 (n2 : Nat)))) (by kernel_rfl) ?invu (fun h0 => ?_)
        case invu => ((try dsimp only); (first | exact HS0 | exact HX.out _ _ ((Gr.refl _).drew) HS0))
        refine wpAnyH_take (i := 0) (oi := { dst := some 15, op := Go.Op.load 26 (Go.Operand.tmp 1), type := 26, pos := "ref.go:94", after := #[], guard := none }) (v := ?vu0) rfl (by kernel_rfl) (by kernel_rfl) (by kernel_rfl) (fun _ _ _ h => h) (Or.inl ⟨by rfl, ?ru0⟩) (by assumption) ?_
        case ru0 => (intro w hSw; (try dsimp only at hSw); (go_simp <;> with_reducible rfl))
        try simp only [Act.put, List.setIfInBounds_toArray, List.set_cons_zero, List.set_cons_succ]
        refine wpAnyH_take (i := 1) (oi := { dst := some 16, op := Go.Op.move (Go.Operand.tmp 4), type := 22, pos := "ref.go:94", after := #[], guard := none }) (v := ?vu1) rfl (by kernel_rfl) (by kernel_rfl) (by kernel_rfl) (fun _ _ _ h => h) (Or.inl ⟨by rfl, ?ru1⟩) (by assumption) ?_
        case ru1 => (intro w hSw; (try dsimp only at hSw); (go_simp <;> with_reducible rfl))
        try simp only [Act.put, List.setIfInBounds_toArray, List.set_cons_zero, List.set_cons_succ]
        refine wpAnyH_take (i := 2) (oi := { dst := some 17, op := Go.Op.fieldAddr 26 (Go.Operand.tmp 1) 3, type := 0, pos := "ref.go:94", after := #[], guard := none }) (v := ?vu2) rfl (by kernel_rfl) (by kernel_rfl) (by kernel_rfl) (fun _ _ _ h => h) (Or.inl ⟨by rfl, ?ru2⟩) (by assumption) ?_
        case ru2 => (intro w hSw; (try dsimp only at hSw); (go_simp <;> with_reducible rfl))
        try simp only [Act.put, List.setIfInBounds_toArray, List.set_cons_zero, List.set_cons_succ]
        refine wpAnyH_take (i := 3) (oi := { dst := some 18, op := Go.Op.load 24 (Go.Operand.tmp 17), type := 24, pos := "ref.go:94", after := #[{ on := 2, ground := Go.Ground.data }], guard := none }) (v := ?vu3) rfl (by kernel_rfl) (by kernel_rfl) (by kernel_rfl) (fun _ _ _ h => h) (Or.inl ⟨by rfl, ?ru3⟩) (by assumption) ?_
        case ru3 => (intro w hSw; (try dsimp only at hSw); (go_simp <;> with_reducible rfl))
        try simp only [Act.put, List.setIfInBounds_toArray, List.set_cons_zero, List.set_cons_succ]
        refine wpAnyH_ready (rs := [4]) (by kernel_rfl) (by simp) ?_
        refine AllReadyH.cons (o := { dst := some 19, op := Go.Op.call { callee := Go.Callee.value (Go.Operand.func 44), args := #[Go.Operand.tmp 15, Go.Operand.tmp 16, Go.Operand.tmp 18], argTypes := #[26, 22, 24] }, type := 4, pos := "ref.go:94", after := #[{ on := 0, ground := Go.Ground.data }, { on := 1, ground := Go.Ground.data }, { on := 3, ground := Go.Ground.data }], guard := none }) rfl (fun K hK => ?_) AllReadyH.nil
        go_simp
        (go_at_call 44; refine (QA.out _).mono ?_; rintro e w9 ⟨rfl, hgN⟩)
        first | refine hK.out _ _ ?su1 (fun h1 => ?_) | (go_wp2_with fail; refine hK.out _ _ ?su1 (fun h1 => ?_))
        case su1 => ((try dsimp only); exact HX.out _ _ hgN h0)
        clear hK K h0
        try simp only [Act.put, List.setIfInBounds_toArray, List.set_cons_zero, List.set_cons_succ]
        refine wpAnyH_take (i := 5) (oi := { dst := some 20, op := Go.Op.move (Go.Operand.tmp 19), type := 4, pos := "ref.go:94", after := #[{ on := 4, ground := Go.Ground.data }, { on := 4, ground := Go.Ground.chain }], guard := none }) (v := ?vu5) rfl (by kernel_rfl) (by kernel_rfl) (by kernel_rfl) (fun _ _ _ h => h) (Or.inl ⟨by rfl, ?ru5⟩) (by assumption) ?_
        case ru5 => (intro w hSw; (try dsimp only at hSw); (go_simp <;> with_reducible rfl))
        try simp only [Act.put, List.setIfInBounds_toArray, List.set_cons_zero, List.set_cons_succ]
        refine wpAnyH_take (i := 6) (oi := { dst := some 21, op := Go.Op.load 26 (Go.Operand.tmp 1), type := 26, pos := "ref.go:94", after := #[{ on := 5, ground := Go.Ground.guard }], guard := some (5, true) }) (v := undef) rfl (by kernel_rfl) (by kernel_rfl) (by kernel_rfl) (fun _ _ _ h => h) (Or.inr ⟨by rfl, rfl⟩) (by assumption) ?_
        try simp only [Act.put, List.setIfInBounds_toArray, List.set_cons_zero, List.set_cons_succ]
        refine wpAnyH_take (i := 7) (oi := { dst := some 22, op := Go.Op.load 26 (Go.Operand.tmp 1), type := 26, pos := "ref.go:94", after := #[{ on := 5, ground := Go.Ground.guard }], guard := some (5, true) }) (v := undef) rfl (by kernel_rfl) (by kernel_rfl) (by kernel_rfl) (fun _ _ _ h => h) (Or.inr ⟨by rfl, rfl⟩) (by assumption) ?_
        try simp only [Act.put, List.setIfInBounds_toArray, List.set_cons_zero, List.set_cons_succ]
        refine wpAnyH_take (i := 8) (oi := { dst := some 23, op := Go.Op.load 26 (Go.Operand.tmp 1), type := 26, pos := "ref.go:94", after := #[{ on := 5, ground := Go.Ground.guard }], guard := some (5, true) }) (v := undef) rfl (by kernel_rfl) (by kernel_rfl) (by kernel_rfl) (fun _ _ _ h => h) (Or.inr ⟨by rfl, rfl⟩) (by assumption) ?_
        try simp only [Act.put, List.setIfInBounds_toArray, List.set_cons_zero, List.set_cons_succ]
        refine wpAnyH_take (i := 9) (oi := { dst := some 24, op := Go.Op.move (Go.Operand.tmp 4), type := 22, pos := "ref.go:94", after := #[{ on := 5, ground := Go.Ground.guard }], guard := some (5, true) }) (v := undef) rfl (by kernel_rfl) (by kernel_rfl) (by kernel_rfl) (fun _ _ _ h => h) (Or.inr ⟨by rfl, rfl⟩) (by assumption) ?_
        try simp only [Act.put, List.setIfInBounds_toArray, List.set_cons_zero, List.set_cons_succ]
        refine wpAnyH_take (i := 10) (oi := { dst := some 25, op := Go.Op.call { callee := Go.Callee.value (Go.Operand.func 43), args := #[Go.Operand.tmp 23, Go.Operand.tmp 24], argTypes := #[26, 22] }, type := 22, pos := "ref.go:94", after := #[{ on := 8, ground := Go.Ground.data }, { on := 9, ground := Go.Ground.data }, { on := 5, ground := Go.Ground.chain }, { on := 5, ground := Go.Ground.guard }], guard := some (5, true) }) (v := undef) rfl (by kernel_rfl) (by kernel_rfl) (by kernel_rfl) (fun _ _ _ h => h) (Or.inr ⟨by rfl, rfl⟩) (by assumption) ?_
        try simp only [Act.put, List.setIfInBounds_toArray, List.set_cons_zero, List.set_cons_succ]
        refine wpAnyH_take (i := 11) (oi := { dst := some 26, op := Go.Op.fieldAddr 26 (Go.Operand.tmp 1) 2, type := 0, pos := "ref.go:94", after := #[{ on := 5, ground := Go.Ground.guard }], guard := some (5, true) }) (v := undef) rfl (by kernel_rfl) (by kernel_rfl) (by kernel_rfl) (fun _ _ _ h => h) (Or.inr ⟨by rfl, rfl⟩) (by assumption) ?_
        try simp only [Act.put, List.setIfInBounds_toArray, List.set_cons_zero, List.set_cons_succ]
        refine wpAnyH_take (i := 12) (oi := { dst := some 27, op := Go.Op.load 22 (Go.Operand.tmp 26), type := 22, pos := "ref.go:94", after := #[{ on := 11, ground := Go.Ground.data }, { on := 5, ground := Go.Ground.guard }], guard := some (5, true) }) (v := undef) rfl (by kernel_rfl) (by kernel_rfl) (by kernel_rfl) (fun _ _ _ h => h) (Or.inr ⟨by rfl, rfl⟩) (by assumption) ?_
        try simp only [Act.put, List.setIfInBounds_toArray, List.set_cons_zero, List.set_cons_succ]
        refine wpAnyH_take (i := 13) (oi := { dst := some 28, op := Go.Op.call { callee := Go.Callee.value (Go.Operand.func 45), args := #[Go.Operand.tmp 22, Go.Operand.tmp 25, Go.Operand.tmp 27], argTypes := #[26, 22, 22] }, type := 22, pos := "ref.go:94", after := #[{ on := 7, ground := Go.Ground.data }, { on := 10, ground := Go.Ground.data }, { on := 12, ground := Go.Ground.data }, { on := 10, ground := Go.Ground.chain }, { on := 5, ground := Go.Ground.guard }], guard := some (5, true) }) (v := undef) rfl (by kernel_rfl) (by kernel_rfl) (by kernel_rfl) (fun _ _ _ h => h) (Or.inr ⟨by rfl, rfl⟩) (by assumption) ?_
        try simp only [Act.put, List.setIfInBounds_toArray, List.set_cons_zero, List.set_cons_succ]
        refine wpAnyH_take (i := 14) (oi := { dst := some 29, op := Go.Op.fieldAddr 26 (Go.Operand.tmp 1) 4, type := 0, pos := "ref.go:94", after := #[{ on := 5, ground := Go.Ground.guard }], guard := some (5, true) }) (v := undef) rfl (by kernel_rfl) (by kernel_rfl) (by kernel_rfl) (fun _ _ _ h => h) (Or.inr ⟨by rfl, rfl⟩) (by assumption) ?_
        try simp only [Act.put, List.setIfInBounds_toArray, List.set_cons_zero, List.set_cons_succ]
        refine wpAnyH_take (i := 15) (oi := { dst := some 30, op := Go.Op.load 24 (Go.Operand.tmp 29), type := 24, pos := "ref.go:94", after := #[{ on := 14, ground := Go.Ground.data }, { on := 5, ground := Go.Ground.guard }], guard := some (5, true) }) (v := undef) rfl (by kernel_rfl) (by kernel_rfl) (by kernel_rfl) (fun _ _ _ h => h) (Or.inr ⟨by rfl, rfl⟩) (by assumption) ?_
        try simp only [Act.put, List.setIfInBounds_toArray, List.set_cons_zero, List.set_cons_succ]
        refine wpAnyH_take (i := 16) (oi := { dst := some 31, op := Go.Op.call { callee := Go.Callee.value (Go.Operand.func 44), args := #[Go.Operand.tmp 21, Go.Operand.tmp 28, Go.Operand.tmp 30], argTypes := #[26, 22, 24] }, type := 4, pos := "ref.go:94", after := #[{ on := 6, ground := Go.Ground.data }, { on := 13, ground := Go.Ground.data }, { on := 15, ground := Go.Ground.data }, { on := 13, ground := Go.Ground.chain }, { on := 5, ground := Go.Ground.guard }], guard := some (5, true) }) (v := undef) rfl (by kernel_rfl) (by kernel_rfl) (by kernel_rfl) (fun _ _ _ h => h) (Or.inr ⟨by rfl, rfl⟩) (by assumption) ?_
        try simp only [Act.put, List.setIfInBounds_toArray, List.set_cons_zero, List.set_cons_succ]
        refine wpAnyH_take (i := 17) (oi := { dst := some 32, op := Go.Op.pick (Go.Operand.tmp 20) (Go.Operand.tmp 31) (Go.Operand.const (Go.Value.bool false)), type := 4, pos := "ref.go:94", after := #[{ on := 5, ground := Go.Ground.data }, { on := 16, ground := Go.Ground.data }], guard := none }) (v := ?vu17) rfl (by kernel_rfl) (by kernel_rfl) (by kernel_rfl) (fun _ _ _ h => h) (Or.inl ⟨by rfl, ?ru17⟩) (by assumption) ?_
        case ru17 => (intro w hSw; (try dsimp only at hSw); (go_simp <;> with_reducible rfl))
        try simp only [Act.put, List.setIfInBounds_toArray, List.set_cons_zero, List.set_cons_succ]
        refine wpAnyH_done (by kernel_rfl) ?_ _
        obtain ⟨g9, -⟩ := h1
        have G9 := Lib.hid g9
        clear g9 HS0
        go_wp2
        go_roundw
        case rel => exact ⟨k + 1, by omega, by go_num, Lib.hid (snoc_all hall.out (fun h => by rw [HQ1.out] at h; cases h)), G9⟩
        case measure => simp [intOf]; omega
      · have RK := Lib.hid (HRK.out k hk12)
        have WI := Lib.hid (HWI.out k)
        have hrl := HRL.out k
        obtain ⟨v, hv⟩ : ∃ v, restOr (r * p) k W = v := ⟨_, rfl⟩
        have hol : v < 4096 := by rw [← hv]; exact HOL.out k
        have QB := Lib.hid (HQB.out v hol)
        rw [hv] at WI
        have HV := Lib.hid hv
        clear hv
        generalize restB (r * p) k = rk at *
        obtain ⟨q2, hq2⟩ : ∃ q2, isQ r p z2 n2 v = q2 := ⟨_, rfl⟩
        rw [hq2] at QB
        have HQ2 := Lib.hid hq2
        clear hq2
        go_wp2
        refine wp_region_held_drew (S := (fun w9 => Gr wz w9 ∧ w9.cell? ⟨b, 0, none⟩ = some (.int .i64 (r : Nat)) ∧ w9.cell? ⟨b, 1, none⟩ = some (.int .i64 (p : Nat)) ∧ w9.cell? ⟨b, 2, none⟩ = some (.int .u32 (W : Nat)) ∧ w9.cell? ⟨b, 3, none⟩ = some (.int .i64 (z1 : Nat)) ∧ w9.cell? ⟨b, 4, none⟩ = some (.int .i64 (n1 : Nat)) ∧ w9.cell? ⟨b, 5, none⟩ = some (.int .i64 (z2 : Nat)) ∧ w9.cell? ⟨b, 6, none⟩ = some (.int .i64 (n2 : Nat)))) (by kernel_rfl) ?invt (fun h0 => ?_)
        case invt => ((try dsimp only); (first | exact HS0 | exact HX.out _ _ ((Gr.refl _).drew) HS0))
        refine wpAnyH_take (i := 0) (oi := { dst := some 15, op := Go.Op.load 26 (Go.Operand.tmp 1), type := 26, pos := "ref.go:94", after := #[], guard := none }) (v := ?vt0) rfl (by kernel_rfl) (by kernel_rfl) (by kernel_rfl) (fun _ _ _ h => h) (Or.inl ⟨by rfl, ?rt0⟩) (by assumption) ?_
        case rt0 => (intro w hSw; (try dsimp only at hSw); (go_simp <;> with_reducible rfl))
        try simp only [Act.put, List.setIfInBounds_toArray, List.set_cons_zero, List.set_cons_succ]
        refine wpAnyH_take (i := 1) (oi := { dst := some 16, op := Go.Op.move (Go.Operand.tmp 4), type := 22, pos := "ref.go:94", after := #[], guard := none }) (v := ?vt1) rfl (by kernel_rfl) (by kernel_rfl) (by kernel_rfl) (fun _ _ _ h => h) (Or.inl ⟨by rfl, ?rt1⟩) (by assumption) ?_
        case rt1 => (intro w hSw; (try dsimp only at hSw); (go_simp <;> with_reducible rfl))
        try simp only [Act.put, List.setIfInBounds_toArray, List.set_cons_zero, List.set_cons_succ]
        refine wpAnyH_take (i := 2) (oi := { dst := some 17, op := Go.Op.fieldAddr 26 (Go.Operand.tmp 1) 3, type := 0, pos := "ref.go:94", after := #[], guard := none }) (v := ?vt2) rfl (by kernel_rfl) (by kernel_rfl) (by kernel_rfl) (fun _ _ _ h => h) (Or.inl ⟨by rfl, ?rt2⟩) (by assumption) ?_
        case rt2 => (intro w hSw; (try dsimp only at hSw); (go_simp <;> with_reducible rfl))
        try simp only [Act.put, List.setIfInBounds_toArray, List.set_cons_zero, List.set_cons_succ]
        refine wpAnyH_take (i := 3) (oi := { dst := some 18, op := Go.Op.load 24 (Go.Operand.tmp 17), type := 24, pos := "ref.go:94", after := #[{ on := 2, ground := Go.Ground.data }], guard := none }) (v := ?vt3) rfl (by kernel_rfl) (by kernel_rfl) (by kernel_rfl) (fun _ _ _ h => h) (Or.inl ⟨by rfl, ?rt3⟩) (by assumption) ?_
        case rt3 => (intro w hSw; (try dsimp only at hSw); (go_simp <;> with_reducible rfl))
        try simp only [Act.put, List.setIfInBounds_toArray, List.set_cons_zero, List.set_cons_succ]
        refine wpAnyH_ready (rs := [4]) (by kernel_rfl) (by simp) ?_
        refine AllReadyH.cons (o := { dst := some 19, op := Go.Op.call { callee := Go.Callee.value (Go.Operand.func 44), args := #[Go.Operand.tmp 15, Go.Operand.tmp 16, Go.Operand.tmp 18], argTypes := #[26, 22, 24] }, type := 4, pos := "ref.go:94", after := #[{ on := 0, ground := Go.Ground.data }, { on := 1, ground := Go.Ground.data }, { on := 3, ground := Go.Ground.data }], guard := none }) rfl (fun K hK => ?_) AllReadyH.nil
        go_simp
        (go_at_call 44; refine (QA.out _).mono ?_; rintro e w9 ⟨rfl, hgN⟩)
        first | refine hK.out _ _ ?st1 (fun h1 => ?_) | (go_wp2_with fail; refine hK.out _ _ ?st1 (fun h1 => ?_))
        case st1 => ((try dsimp only); exact HX.out _ _ hgN h0)
        clear hK K h0
        try simp only [Act.put, List.setIfInBounds_toArray, List.set_cons_zero, List.set_cons_succ]
        refine wpAnyH_take (i := 5) (oi := { dst := some 20, op := Go.Op.move (Go.Operand.tmp 19), type := 4, pos := "ref.go:94", after := #[{ on := 4, ground := Go.Ground.data }, { on := 4, ground := Go.Ground.chain }], guard := none }) (v := ?vt5) rfl (by kernel_rfl) (by kernel_rfl) (by kernel_rfl) (fun _ _ _ h => h) (Or.inl ⟨by rfl, ?rt5⟩) (by assumption) ?_
        case rt5 => (intro w hSw; (try dsimp only at hSw); (go_simp <;> with_reducible rfl))
        try simp only [Act.put, List.setIfInBounds_toArray, List.set_cons_zero, List.set_cons_succ]
        refine wpAnyH_take (i := 6) (oi := { dst := some 21, op := Go.Op.load 26 (Go.Operand.tmp 1), type := 26, pos := "ref.go:94", after := #[{ on := 5, ground := Go.Ground.guard }], guard := some (5, true) }) (v := ?vt6) rfl (by kernel_rfl) (by kernel_rfl) (by kernel_rfl) (fun _ _ _ h => h) (Or.inl ⟨by rfl, ?rt6⟩) (by assumption) ?_
        case rt6 => (intro w hSw; (try dsimp only at hSw); (go_simp <;> with_reducible rfl))
        try simp only [Act.put, List.setIfInBounds_toArray, List.set_cons_zero, List.set_cons_succ]
        refine wpAnyH_take (i := 7) (oi := { dst := some 22, op := Go.Op.load 26 (Go.Operand.tmp 1), type := 26, pos := "ref.go:94", after := #[{ on := 5, ground := Go.Ground.guard }], guard := some (5, true) }) (v := ?vt7) rfl (by kernel_rfl) (by kernel_rfl) (by kernel_rfl) (fun _ _ _ h => h) (Or.inl ⟨by rfl, ?rt7⟩) (by assumption) ?_
        case rt7 => (intro w hSw; (try dsimp only at hSw); (go_simp <;> with_reducible rfl))
        try simp only [Act.put, List.setIfInBounds_toArray, List.set_cons_zero, List.set_cons_succ]
        refine wpAnyH_take (i := 8) (oi := { dst := some 23, op := Go.Op.load 26 (Go.Operand.tmp 1), type := 26, pos := "ref.go:94", after := #[{ on := 5, ground := Go.Ground.guard }], guard := some (5, true) }) (v := ?vt8) rfl (by kernel_rfl) (by kernel_rfl) (by kernel_rfl) (fun _ _ _ h => h) (Or.inl ⟨by rfl, ?rt8⟩) (by assumption) ?_
        case rt8 => (intro w hSw; (try dsimp only at hSw); (go_simp <;> with_reducible rfl))
        try simp only [Act.put, List.setIfInBounds_toArray, List.set_cons_zero, List.set_cons_succ]
        refine wpAnyH_take (i := 9) (oi := { dst := some 24, op := Go.Op.move (Go.Operand.tmp 4), type := 22, pos := "ref.go:94", after := #[{ on := 5, ground := Go.Ground.guard }], guard := some (5, true) }) (v := ?vt9) rfl (by kernel_rfl) (by kernel_rfl) (by kernel_rfl) (fun _ _ _ h => h) (Or.inl ⟨by rfl, ?rt9⟩) (by assumption) ?_
        case rt9 => (intro w hSw; (try dsimp only at hSw); (go_simp <;> with_reducible rfl))
        try simp only [Act.put, List.setIfInBounds_toArray, List.set_cons_zero, List.set_cons_succ]
        refine wpAnyH_take (i := 11) (oi := { dst := some 26, op := Go.Op.fieldAddr 26 (Go.Operand.tmp 1) 2, type := 0, pos := "ref.go:94", after := #[{ on := 5, ground := Go.Ground.guard }], guard := some (5, true) }) (v := ?vt11) rfl (by kernel_rfl) (by kernel_rfl) (by kernel_rfl) (fun _ _ _ h => h) (Or.inl ⟨by rfl, ?rt11⟩) (by assumption) ?_
        case rt11 => (intro w hSw; (try dsimp only at hSw); (go_simp <;> with_reducible rfl))
        try simp only [Act.put, List.setIfInBounds_toArray, List.set_cons_zero, List.set_cons_succ]
        refine wpAnyH_take (i := 12) (oi := { dst := some 27, op := Go.Op.load 22 (Go.Operand.tmp 26), type := 22, pos := "ref.go:94", after := #[{ on := 11, ground := Go.Ground.data }, { on := 5, ground := Go.Ground.guard }], guard := some (5, true) }) (v := ?vt12) rfl (by kernel_rfl) (by kernel_rfl) (by kernel_rfl) (fun _ _ _ h => h) (Or.inl ⟨by rfl, ?rt12⟩) (by assumption) ?_
        case rt12 => (intro w hSw; (try dsimp only at hSw); (go_simp <;> with_reducible rfl))
        try simp only [Act.put, List.setIfInBounds_toArray, List.set_cons_zero, List.set_cons_succ]
        refine wpAnyH_take (i := 14) (oi := { dst := some 29, op := Go.Op.fieldAddr 26 (Go.Operand.tmp 1) 4, type := 0, pos := "ref.go:94", after := #[{ on := 5, ground := Go.Ground.guard }], guard := some (5, true) }) (v := ?vt14) rfl (by kernel_rfl) (by kernel_rfl) (by kernel_rfl) (fun _ _ _ h => h) (Or.inl ⟨by rfl, ?rt14⟩) (by assumption) ?_
        case rt14 => (intro w hSw; (try dsimp only at hSw); (go_simp <;> with_reducible rfl))
        try simp only [Act.put, List.setIfInBounds_toArray, List.set_cons_zero, List.set_cons_succ]
        refine wpAnyH_take (i := 15) (oi := { dst := some 30, op := Go.Op.load 24 (Go.Operand.tmp 29), type := 24, pos := "ref.go:94", after := #[{ on := 14, ground := Go.Ground.data }, { on := 5, ground := Go.Ground.guard }], guard := some (5, true) }) (v := ?vt15) rfl (by kernel_rfl) (by kernel_rfl) (by kernel_rfl) (fun _ _ _ h => h) (Or.inl ⟨by rfl, ?rt15⟩) (by assumption) ?_
        case rt15 => (intro w hSw; (try dsimp only at hSw); (go_simp <;> with_reducible rfl))
        try simp only [Act.put, List.setIfInBounds_toArray, List.set_cons_zero, List.set_cons_succ]
        refine wpAnyH_ready (rs := [10]) (by kernel_rfl) (by simp) ?_
        refine AllReadyH.cons (o := { dst := some 25, op := Go.Op.call { callee := Go.Callee.value (Go.Operand.func 43), args := #[Go.Operand.tmp 23, Go.Operand.tmp 24], argTypes := #[26, 22] }, type := 22, pos := "ref.go:94", after := #[{ on := 8, ground := Go.Ground.data }, { on := 9, ground := Go.Ground.data }, { on := 5, ground := Go.Ground.chain }, { on := 5, ground := Go.Ground.guard }], guard := some (5, true) }) rfl (fun K hK => ?_) AllReadyH.nil
        go_simp
        (go_at_call 43; refine (RK.out _).mono ?_; rintro e w9 ⟨rfl, hgN⟩)
        first | refine hK.out _ _ ?st2 (fun h2 => ?_) | (go_wp2_with fail; refine hK.out _ _ ?st2 (fun h2 => ?_))
        case st2 => ((try dsimp only); exact HX.out _ _ hgN h1)
        clear hK K h1
        try simp only [Act.put, List.setIfInBounds_toArray, List.set_cons_zero, List.set_cons_succ]
        refine wpAnyH_ready (rs := [13]) (by kernel_rfl) (by simp) ?_
        refine AllReadyH.cons (o := { dst := some 28, op := Go.Op.call { callee := Go.Callee.value (Go.Operand.func 45), args := #[Go.Operand.tmp 22, Go.Operand.tmp 25, Go.Operand.tmp 27], argTypes := #[26, 22, 22] }, type := 22, pos := "ref.go:94", after := #[{ on := 7, ground := Go.Ground.data }, { on := 10, ground := Go.Ground.data }, { on := 12, ground := Go.Ground.data }, { on := 10, ground := Go.Ground.chain }, { on := 5, ground := Go.Ground.guard }], guard := some (5, true) }) rfl (fun K hK => ?_) AllReadyH.nil
        go_simp
        (go_at_call 45; refine (WI.out _).mono ?_; rintro e w9 ⟨rfl, hgN⟩)
        first | refine hK.out _ _ ?st3 (fun h3 => ?_) | (go_wp2_with fail; refine hK.out _ _ ?st3 (fun h3 => ?_))
        case st3 => ((try dsimp only); exact HX.out _ _ hgN h2)
        clear hK K h2
        try simp only [Act.put, List.setIfInBounds_toArray, List.set_cons_zero, List.set_cons_succ]
        refine wpAnyH_ready (rs := [16]) (by kernel_rfl) (by simp) ?_
        refine AllReadyH.cons (o := { dst := some 31, op := Go.Op.call { callee := Go.Callee.value (Go.Operand.func 44), args := #[Go.Operand.tmp 21, Go.Operand.tmp 28, Go.Operand.tmp 30], argTypes := #[26, 22, 24] }, type := 4, pos := "ref.go:94", after := #[{ on := 6, ground := Go.Ground.data }, { on := 13, ground := Go.Ground.data }, { on := 15, ground := Go.Ground.data }, { on := 13, ground := Go.Ground.chain }, { on := 5, ground := Go.Ground.guard }], guard := some (5, true) }) rfl (fun K hK => ?_) AllReadyH.nil
        go_simp
        (go_at_call 44; refine (QB.out _).mono ?_; rintro e w9 ⟨rfl, hgN⟩)
        first | refine hK.out _ _ ?st4 (fun h4 => ?_) | (go_wp2_with fail; refine hK.out _ _ ?st4 (fun h4 => ?_))
        case st4 => ((try dsimp only); exact HX.out _ _ hgN h3)
        clear hK K h3
        try simp only [Act.put, List.setIfInBounds_toArray, List.set_cons_zero, List.set_cons_succ]
        refine wpAnyH_take (i := 17) (oi := { dst := some 32, op := Go.Op.pick (Go.Operand.tmp 20) (Go.Operand.tmp 31) (Go.Operand.const (Go.Value.bool false)), type := 4, pos := "ref.go:94", after := #[{ on := 5, ground := Go.Ground.data }, { on := 16, ground := Go.Ground.data }], guard := none }) (v := ?vt17) rfl (by kernel_rfl) (by kernel_rfl) (by kernel_rfl) (fun _ _ _ h => h) (Or.inl ⟨by rfl, ?rt17⟩) (by assumption) ?_
        case rt17 => (intro w hSw; (try dsimp only at hSw); (go_simp <;> with_reducible rfl))
        try simp only [Act.put, List.setIfInBounds_toArray, List.set_cons_zero, List.set_cons_succ]
        refine wpAnyH_done (by kernel_rfl) ?_ _
        obtain ⟨g9, -⟩ := h4
        have G9 := Lib.hid g9
        clear g9 HS0
        cases q2
        · go_wp2
          go_roundw
          case rel => exact ⟨k + 1, by omega, by go_num, Lib.hid (snoc_all hall.out (fun _ => by rw [HV.out]; exact HQ2.out)), G9⟩
          case measure => simp [intOf]; omega
        · go_wp2
          go_ret
          refine ⟨?_, HG2.out.trans G9.out⟩
          rw [HNO.out k (by rw [← HP2.out]; omega) HQ1.out (by rw [HV.out]; exact HQ2.out)]; rfl
    · obtain rfl : k = T + 1 := by omega
      have hk' : ¬ ((T : Int) + 1 ≤ T) := by omega
      go_wp2
      go_ret
      refine ⟨?_, HG2.out.trans hG.out⟩
      rw [HYES.out (fun a ha => hall.out a (Nat.zero_le _) (by rw [HP2.out]; exact ha))]; rfl
end Go.Proofs.YtfgkgpkaohkehaaGreatDoor
namespace Go.Proofs.YtfgkgpkaohkehaaGreatDoor
open Go.ChangeShapes Go.WideShapes Go.ChangeAt Go.RowKit
open Grids
set_option linter.unusedVariables false
theorem and15 (a : Int) : ∃ m : Nat, m ≤ 15 ∧ bits .and .i64 a 15 = (m : Int) := by
  have e : (BitVec.ofInt 64 ((15 : Nat) : Int)).toNat = 15 := by decide
  have hx : (BitVec.ofInt 64 a &&& BitVec.ofInt 64 ((15 : Nat) : Int)).toNat ≤ 15 := by
    rw [BitVec.toNat_and, e]; exact Nat.and_le_right
  have e3 := IntWalk.i64_in ((BitVec.ofInt 64 a &&& BitVec.ofInt 64 ((15 : Nat) : Int)).toNat : Int) ⟨by omega, by omega⟩
  exact ⟨_, hx, e3⟩
theorem mask_and {W n : Nat} (hW : W < 4294967296) (hn : n ≤ 16) : ∃ v : Nat, bits .and .u32 (W : Int) (((2 : Int) ^ n - 1) % 4294967296) = (v : Int) ∧ v < 2 ^ n := by
  have key : ∀ i : Fin 17, ((2 : Int) ^ i.val - 1) % 4294967296 = ((2 ^ i.val - 1 : Nat) : Int) := by decide +kernel
  have hp : 2 ^ n ≤ 2 ^ 16 := Nat.pow_le_pow_right (by decide) hn
  have h0 : 0 < 2 ^ n := Nat.pow_pos (by decide)
  rw [show ((2 : Int) ^ n - 1) % 4294967296 = ((2 ^ n - 1 : Nat) : Int) from key ⟨n, by omega⟩, w32_and _ _ hW (by omega), Nat.and_two_pow_sub_one_eq_mod]
  exact ⟨_, rfl, Nat.mod_lt _ h0⟩
theorem w64 {r : Nat} (y : Nat) (h : 1 ≤ y ∧ y ≤ r) (hr : r ≤ 3) : wrap64 (y : Int) = y := by
  unfold wrap64; omega
theorem step_bd {a r y : Nat} (h : 1 ≤ r) (e : 1 + (a : Int) % r = y) : 1 ≤ y ∧ y ≤ r := by
  have : 1 + a % r = y := by omega
  have := Nat.mod_lt a (show 0 < r by omega)
  omega
/-- A configuration of at most nine nodes that has its form. -/
structure Shp (r p W z1 n1 z2 n2 : Nat) : Prop where
  hr : 1 ≤ r ∧ r ≤ 3
  hp : 1 ≤ p ∧ p ≤ 3
  hW : W < 2 ^ (r * p)
  hz1 : 1 ≤ z1 ∧ z1 ≤ r
  hn1 : 1 ≤ n1 ∧ n1 ≤ p
  hz2 : 1 ≤ z2 ∧ z2 ≤ r
  hn2 : 1 ≤ n2 ∧ n2 ≤ p
set_option maxRecDepth 100000 in
set_option maxHeartbeats 2000000 in
theorem small_any (R P z1 n1 z2 n2 : Int) (W : Nat) (w : World) (hW : W < 4294967296) :
    Calls Tryz.prog 16 #[.agg #[.int .i64 R, .int .i64 P, .int .u32 W, .int .i64 z1, .int .i64 n1, .int .i64 z2, .int .i64 n2]] w fun e w' => ∃ r p W z1 n1 z2 n2 : Nat, Shp r p W z1 n1 z2 n2 ∧ e = .returned (.agg #[.int .i64 r, .int .i64 p, .int .u32 W, .int .i64 z1, .int .i64 n1, .int .i64 z2, .int .i64 n2]) ∧ Gr w w' := by
  obtain ⟨a0, b0, e0⟩ := and15 R
  obtain ⟨a1, b1, e1⟩ := and15 P
  obtain ⟨a2, b2, e2⟩ := and15 z1
  obtain ⟨a3, b3, e3⟩ := and15 n1
  obtain ⟨a4, b4, e4⟩ := and15 z2
  obtain ⟨a5, b5, e5⟩ := and15 n2
  go_enter Tryz.func16, Tryz.ntmps16
  go_wp2
  obtain ⟨r, hr⟩ : ∃ r : Nat, 1 + (a0 : Int) % 3 = r := ⟨1 + a0 % 3, by simp⟩
  obtain ⟨p, hp⟩ : ∃ p : Nat, 1 + (a1 : Int) % 3 = p := ⟨1 + a1 % 3, by simp⟩
  rw [hr, hp]
  have r1 : 1 ≤ r := by omega
  have r3 : r ≤ 3 := by omega
  have p1 : 1 ≤ p := by omega
  have p3 : p ≤ 3 := by omega
  clear hr hp e0 e1 b0 b1
  have h9 : r * p ≤ 9 := Nat.mul_le_mul r3 p3
  obtain ⟨m0, m1⟩ := mul_in (r := r) (p := p) (by omega)
  go_region
  obtain ⟨v, hv, hvl⟩ := mask_and (W := W) (n := r * p) hW (by omega)
  rw [hv]
  clear hv m0 m1 h9
  have r0 : ((r : Int) == 0) = false := by simp; omega
  have p0 : ((p : Int) == 0) = false := by simp; omega
  go_wp2
  go_region
  obtain ⟨y1, hy1⟩ : ∃ y : Nat, 1 + (a2 : Int) % r = y := ⟨1 + a2 % r, by simp⟩
  obtain ⟨y2, hy2⟩ : ∃ y : Nat, 1 + (a3 : Int) % p = y := ⟨1 + a3 % p, by simp⟩
  rw [hy1, hy2]
  have f1 := step_bd r1 hy1
  have f2 := step_bd p1 hy2
  rw [w64 y1 f1 r3, w64 y2 f2 p3]
  clear hy1 hy2 e2 e3 b2 b3
  go_wp2
  go_region
  obtain ⟨y3, hy3⟩ : ∃ y : Nat, 1 + (a4 : Int) % r = y := ⟨1 + a4 % r, by simp⟩
  obtain ⟨y4, hy4⟩ : ∃ y : Nat, 1 + (a5 : Int) % p = y := ⟨1 + a5 % p, by simp⟩
  rw [hy3, hy4]
  have f3 := step_bd r1 hy3
  have f4 := step_bd p1 hy4
  rw [w64 y3 f3 r3, w64 y4 f4 p3]
  clear hy3 hy4 e4 e5 b4 b5 r0 p0
  go_wp2
  exact bodyPost_ret (v := .agg #[.int .i64 r, .int .i64 p, .int .u32 v, .int .i64 y1, .int .i64 y2, .int .i64 y3, .int .i64 y4]) (by simp [results, Tryz.results16, go_sem]) rfl ⟨r, p, v, y1, y2, y3, y4, ⟨⟨r1, r3⟩, ⟨p1, p3⟩, hvl, f1, f2, f3, f4⟩, rfl, (((((Gr.refl _).alloc _).alloc _).drew).drew).drew⟩
end Go.Proofs.YtfgkgpkaohkehaaGreatDoor
