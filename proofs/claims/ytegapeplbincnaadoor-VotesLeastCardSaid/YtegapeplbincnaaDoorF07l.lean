import Derived.Test.YtegapeplbincnaaDoorF07k
import Derived.WalkKit
import Derived.ProofKit
import Derived.LoopTactic
import Derived.Outline
import Derived.WalkSpells
import Derived.WalkLawsBesides
import Derived.Lib.Hide
import Derived.Deep.LoopGhost
import Derived.Deep.QuietTactic
import Derived.BigQuiet
import Derived.ShutString
import Derived.IntWalk
import Derived.Deep.RegionHeld3
namespace Go.Proofs.YtegapeplbincnaaDoor
open Go.ChangeShapes Go.WideShapes Go.ChangeAt Go.RowKit
open Grids
set_option linter.unusedVariables false
set_option linter.unusedSimpArgs false
theorem good_bad {r p W z1 n1 z2 n2 a : Nat} (ha : a < 2 ^ (r * p)) (h1 : isQ r p z1 n1 a = true) (h2 : isQ r p z2 n2 (restOr (r * p) a W) = true) : meetsB r p W z1 n1 z2 n2 = false := by
  cases h : meetsB r p W z1 n1 z2 n2
  · rfl
  · have := good_of_meets (meets_of h) a ha h1
    rw [h2] at this; cases this
set_option maxRecDepth 100000 in
set_option maxHeartbeats 4000000 in
theorem good_any (r p W z1 n1 z2 n2 : Nat) (w : World) (hr : 1 ≤ r ∧ r ≤ 4) (hp : 1 ≤ p ∧ p ≤ 4) (hn : r * p ≤ 12) (hW : W < 2 ^ (r * p)) (hz1 : 1 ≤ z1 ∧ z1 ≤ r) (hn1 : 1 ≤ n1 ∧ n1 ≤ p) (hz2 : 1 ≤ z2 ∧ z2 ≤ r) (hn2 : 1 ≤ n2 ∧ n2 ≤ p) :
    Calls Tryd.prog 27 #[.agg #[.int .i64 r, .int .i64 p, .int .u32 W, .int .i64 z1, .int .i64 n1, .int .i64 z2, .int .i64 n2]] w fun e w' => e = .returned (.bool (meetsB r p W z1 n1 z2 n2)) ∧ Gr w w' := by
  have hW' : W < 4294967296 := Nat.lt_of_lt_of_le hW (Nat.le_trans (Nat.pow_le_pow_right (by decide) hn) (by decide))
  have SH := Lib.hid (fun w => shaped_any r p W z1 n1 z2 n2 w hW')
  rw [decide_eq_true (form_mk hr hp hn hW hz1 hn1 hz2 hn2)] at SH
  have R0 := Lib.hid (fun w => rest_any r p 0 W z1 n1 z2 n2 w hn (by decide))
  have hall := restB_all (r * p)
  have h12 := p12 hn (restB_lt (r * p) 0)
  have HYES := Lib.hid (fun h => (good_iff (regions := r) (per := p) (w := W) (z1 := z1) (n1 := n1) (z2 := z2) (n2 := n2) (by omega) hz1.2 hz2.2 hn1.2 hn2.2).2 h)
  have HNO := Lib.hid (fun a ha h1 h2 => @good_bad r p W z1 n1 z2 n2 a ha h1 h2)
  have HQA := Lib.hid (fun k (hk : k < 4096) w => refQuorum_any r p z1 n1 k W z1 n1 z2 n2 w hr hp hn (lt12 (N := 0) hk) (by omega) (by omega))
  have HQB := Lib.hid (fun k (hk : k < 4096) w => refQuorum_any r p z2 n2 k W z1 n1 z2 n2 w hr hp hn (lt12 (N := 0) hk) (by omega) (by omega))
  have HRK := Lib.hid (fun k (hk : k < 4096) w => rest_any r p k W z1 n1 z2 n2 w hn (lt12 (N := 0) hk))
  have HWI := Lib.hid (fun k w => with_any r p k (restB (r * p) k) W W z1 n1 z2 n2 w hn rfl hW')
  have HRL := Lib.hid (fun k => p12 hn (restB_lt (r * p) k))
  have HOL := Lib.hid (fun (k : Nat) => show restOr (r * p) k W < 4096 from p12 hn (ofB_lt _ _))
  have HP2 := Lib.hid (show restB (r * p) 0 + 1 = 2 ^ (r * p) from hall)
  clear hr hp hW hW' hz1 hn1 hz2 hn2 hall hn
  generalize restB (r * p) 0 = T at *
  have HT := Lib.hid h12
  go_enter Tryd.func27, Tryd.ntmps27
  go_wp2_with fail
  refine (SH.out _).mono ?_
  rintro e w1 ⟨rfl, hg1⟩
  have k0 := hg1.own.1 0 _ rfl
  have k1 := hg1.own.1 1 _ rfl
  have k2 := hg1.own.1 2 _ rfl
  have k3 := hg1.own.1 3 _ rfl
  have k4 := hg1.own.1 4 _ rfl
  have k5 := hg1.own.1 5 _ rfl
  have k6 := hg1.own.1 6 _ rfl
  have HG1 := Lib.hid (((Gr.refl _).alloc _).trans hg1)
  clear hg1
  go_wp2_with fail
  refine (R0.out _).mono ?_
  rintro e w2 ⟨rfl, hg2⟩
  replace k0 := hg2.cell k0
  replace k1 := hg2.cell k1
  replace k2 := hg2.cell k2
  replace k3 := hg2.cell k3
  replace k4 := hg2.cell k4
  replace k5 := hg2.cell k5
  replace k6 := hg2.cell k6
  have HG2 := Lib.hid (HG1.out.trans hg2)
  clear hg2
  generalize w.heap.size = b at *
  generalize w2 = wz at *
  have HX : Hid (∀ w0 w9 : World, Gr w0 w9 → (fun w9 => Gr wz w9 ∧ w9.cell? ⟨b, 0, none⟩ = some (.int .i64 (r : Nat)) ∧ w9.cell? ⟨b, 1, none⟩ = some (.int .i64 (p : Nat)) ∧ w9.cell? ⟨b, 2, none⟩ = some (.int .u32 (W : Nat)) ∧ w9.cell? ⟨b, 3, none⟩ = some (.int .i64 (z1 : Nat)) ∧ w9.cell? ⟨b, 4, none⟩ = some (.int .i64 (n1 : Nat)) ∧ w9.cell? ⟨b, 5, none⟩ = some (.int .i64 (z2 : Nat)) ∧ w9.cell? ⟨b, 6, none⟩ = some (.int .i64 (n2 : Nat))) w0 → (fun w9 => Gr wz w9 ∧ w9.cell? ⟨b, 0, none⟩ = some (.int .i64 (r : Nat)) ∧ w9.cell? ⟨b, 1, none⟩ = some (.int .i64 (p : Nat)) ∧ w9.cell? ⟨b, 2, none⟩ = some (.int .u32 (W : Nat)) ∧ w9.cell? ⟨b, 3, none⟩ = some (.int .i64 (z1 : Nat)) ∧ w9.cell? ⟨b, 4, none⟩ = some (.int .i64 (n1 : Nat)) ∧ w9.cell? ⟨b, 5, none⟩ = some (.int .i64 (z2 : Nat)) ∧ w9.cell? ⟨b, 6, none⟩ = some (.int .i64 (n2 : Nat))) w9) :=
    Lib.hid fun w0 w9 hg ⟨h0, h1, h2, h3, h4, h5, h6, h7⟩ => ⟨h0.trans hg, hg.cell h1, hg.cell h2, hg.cell h3, hg.cell h4, hg.cell h5, hg.cell h6, hg.cell h7⟩
  have HKS := Lib.hid (And.intro k0 (And.intro k1 (And.intro k2 (And.intro k3 (And.intro k4 (And.intro k5 k6))))))
  clear k0 k1 k2 k3 k4 k5 k6
  go_wp2
  go_loopw [4] (fun i wr => ∃ k : Nat, k ≤ T + 1 ∧ i = .int .u32 k ∧ Hid (∀ a, 0 ≤ a → a < k → isQ r p z1 n1 a = true → isQ r p z2 n2 (restOr (r * p) a W) = false) ∧ Hid (Gr wz wr)) (fun i _ => T + 1 - (intOf i).toNat)
  case atStart => exact ⟨0, by omega, rfl, Lib.hid (fun a _ h => by omega), Lib.hid (Gr.refl _)⟩
  case round =>
    obtain ⟨k, hk, rfl, hall, hG⟩ := hrel
    by_cases hlt : k ≤ T
    · have hk12 : k < 4096 := by omega
      have QA := Lib.hid (HQA.out k hk12)
      obtain ⟨q1, hq1⟩ : ∃ q1, isQ r p z1 n1 k = q1 := ⟨_, rfl⟩
      rw [hq1] at QA
      have HQ1 := Lib.hid hq1
      clear hq1
      obtain ⟨k0, k1, k2, k3, k4, k5, k6⟩ := HKS.out
      have HS0 := And.intro hG.out (And.intro (hG.out.cell k0) (And.intro (hG.out.cell k1) (And.intro (hG.out.cell k2) (And.intro (hG.out.cell k3) (And.intro (hG.out.cell k4) (And.intro (hG.out.cell k5) (hG.out.cell k6)))))))
      clear k0 k1 k2 k3 k4 k5 k6
      cases q1
      · go_wp2
        refine wp_region_held_drew (S := (fun w9 => Gr wz w9 ∧ w9.cell? ⟨b, 0, none⟩ = some (.int .i64 (r : Nat)) ∧ w9.cell? ⟨b, 1, none⟩ = some (.int .i64 (p : Nat)) ∧ w9.cell? ⟨b, 2, none⟩ = some (.int .u32 (W : Nat)) ∧ w9.cell? ⟨b, 3, none⟩ = some (.int .i64 (z1 : Nat)) ∧ w9.cell? ⟨b, 4, none⟩ = some (.int .i64 (n1 : Nat)) ∧ w9.cell? ⟨b, 5, none⟩ = some (.int .i64 (z2 : Nat)) ∧ w9.cell? ⟨b, 6, none⟩ = some (.int .i64 (n2 : Nat)))) (by kernel_rfl) ?invu (fun h0 => ?_)
        case invu => ((try dsimp only); (first | exact HS0 | exact HX.out _ _ ((Gr.refl _).drew) HS0))
        refine wpAnyH_take (i := 0) (oi := { dst := some 15, op := Go.Op.load 32 (Go.Operand.tmp 1), type := 32, pos := "ref.go:94", after := #[], guard := none }) (v := ?vu0) rfl (by kernel_rfl) (by kernel_rfl) (by kernel_rfl) (fun _ _ _ h => h) (Or.inl ⟨by rfl, ?ru0⟩) (by assumption) ?_
        case ru0 => (intro w hSw; (try dsimp only at hSw); (go_simp <;> with_reducible rfl))
        try simp only [Act.put, List.setIfInBounds_toArray, List.set_cons_zero, List.set_cons_succ]
        refine wpAnyH_take (i := 1) (oi := { dst := some 16, op := Go.Op.move (Go.Operand.tmp 4), type := 23, pos := "ref.go:94", after := #[], guard := none }) (v := ?vu1) rfl (by kernel_rfl) (by kernel_rfl) (by kernel_rfl) (fun _ _ _ h => h) (Or.inl ⟨by rfl, ?ru1⟩) (by assumption) ?_
        case ru1 => (intro w hSw; (try dsimp only at hSw); (go_simp <;> with_reducible rfl))
        try simp only [Act.put, List.setIfInBounds_toArray, List.set_cons_zero, List.set_cons_succ]
        refine wpAnyH_take (i := 2) (oi := { dst := some 17, op := Go.Op.fieldAddr 32 (Go.Operand.tmp 1) 3, type := 0, pos := "ref.go:94", after := #[], guard := none }) (v := ?vu2) rfl (by kernel_rfl) (by kernel_rfl) (by kernel_rfl) (fun _ _ _ h => h) (Or.inl ⟨by rfl, ?ru2⟩) (by assumption) ?_
        case ru2 => (intro w hSw; (try dsimp only at hSw); (go_simp <;> with_reducible rfl))
        try simp only [Act.put, List.setIfInBounds_toArray, List.set_cons_zero, List.set_cons_succ]
        refine wpAnyH_take (i := 3) (oi := { dst := some 18, op := Go.Op.load 30 (Go.Operand.tmp 17), type := 30, pos := "ref.go:94", after := #[{ on := 2, ground := Go.Ground.data }], guard := none }) (v := ?vu3) rfl (by kernel_rfl) (by kernel_rfl) (by kernel_rfl) (fun _ _ _ h => h) (Or.inl ⟨by rfl, ?ru3⟩) (by assumption) ?_
        case ru3 => (intro w hSw; (try dsimp only at hSw); (go_simp <;> with_reducible rfl))
        try simp only [Act.put, List.setIfInBounds_toArray, List.set_cons_zero, List.set_cons_succ]
        refine wpAnyH_ready (rs := [4]) (by kernel_rfl) (by simp) ?_
        refine AllReadyH.cons (o := { dst := some 19, op := Go.Op.call { callee := Go.Callee.value (Go.Operand.func 17), args := #[Go.Operand.tmp 15, Go.Operand.tmp 16, Go.Operand.tmp 18], argTypes := #[32, 23, 30] }, type := 4, pos := "ref.go:94", after := #[{ on := 0, ground := Go.Ground.data }, { on := 1, ground := Go.Ground.data }, { on := 3, ground := Go.Ground.data }], guard := none }) rfl (fun K hK => ?_) AllReadyH.nil
        go_simp
        (go_at_call 17; refine (QA.out _).mono ?_; rintro e w9 ⟨rfl, hgN⟩)
        first | refine hK.out _ _ ?su1 (fun h1 => ?_) | (go_wp2_with fail; refine hK.out _ _ ?su1 (fun h1 => ?_))
        case su1 => ((try dsimp only); exact HX.out _ _ hgN h0)
        clear hK K h0
        try simp only [Act.put, List.setIfInBounds_toArray, List.set_cons_zero, List.set_cons_succ]
        refine wpAnyH_take (i := 5) (oi := { dst := some 20, op := Go.Op.move (Go.Operand.tmp 19), type := 4, pos := "ref.go:94", after := #[{ on := 4, ground := Go.Ground.data }, { on := 4, ground := Go.Ground.chain }], guard := none }) (v := ?vu5) rfl (by kernel_rfl) (by kernel_rfl) (by kernel_rfl) (fun _ _ _ h => h) (Or.inl ⟨by rfl, ?ru5⟩) (by assumption) ?_
        case ru5 => (intro w hSw; (try dsimp only at hSw); (go_simp <;> with_reducible rfl))
        try simp only [Act.put, List.setIfInBounds_toArray, List.set_cons_zero, List.set_cons_succ]
        refine wpAnyH_take (i := 6) (oi := { dst := some 21, op := Go.Op.load 32 (Go.Operand.tmp 1), type := 32, pos := "ref.go:94", after := #[{ on := 5, ground := Go.Ground.guard }], guard := some (5, true) }) (v := undef) rfl (by kernel_rfl) (by kernel_rfl) (by kernel_rfl) (fun _ _ _ h => h) (Or.inr ⟨by rfl, rfl⟩) (by assumption) ?_
        try simp only [Act.put, List.setIfInBounds_toArray, List.set_cons_zero, List.set_cons_succ]
        refine wpAnyH_take (i := 7) (oi := { dst := some 22, op := Go.Op.load 32 (Go.Operand.tmp 1), type := 32, pos := "ref.go:94", after := #[{ on := 5, ground := Go.Ground.guard }], guard := some (5, true) }) (v := undef) rfl (by kernel_rfl) (by kernel_rfl) (by kernel_rfl) (fun _ _ _ h => h) (Or.inr ⟨by rfl, rfl⟩) (by assumption) ?_
        try simp only [Act.put, List.setIfInBounds_toArray, List.set_cons_zero, List.set_cons_succ]
        refine wpAnyH_take (i := 8) (oi := { dst := some 23, op := Go.Op.load 32 (Go.Operand.tmp 1), type := 32, pos := "ref.go:94", after := #[{ on := 5, ground := Go.Ground.guard }], guard := some (5, true) }) (v := undef) rfl (by kernel_rfl) (by kernel_rfl) (by kernel_rfl) (fun _ _ _ h => h) (Or.inr ⟨by rfl, rfl⟩) (by assumption) ?_
        try simp only [Act.put, List.setIfInBounds_toArray, List.set_cons_zero, List.set_cons_succ]
        refine wpAnyH_take (i := 9) (oi := { dst := some 24, op := Go.Op.move (Go.Operand.tmp 4), type := 23, pos := "ref.go:94", after := #[{ on := 5, ground := Go.Ground.guard }], guard := some (5, true) }) (v := undef) rfl (by kernel_rfl) (by kernel_rfl) (by kernel_rfl) (fun _ _ _ h => h) (Or.inr ⟨by rfl, rfl⟩) (by assumption) ?_
        try simp only [Act.put, List.setIfInBounds_toArray, List.set_cons_zero, List.set_cons_succ]
        refine wpAnyH_take (i := 10) (oi := { dst := some 25, op := Go.Op.call { callee := Go.Callee.value (Go.Operand.func 40), args := #[Go.Operand.tmp 23, Go.Operand.tmp 24], argTypes := #[32, 23] }, type := 23, pos := "ref.go:94", after := #[{ on := 8, ground := Go.Ground.data }, { on := 9, ground := Go.Ground.data }, { on := 5, ground := Go.Ground.chain }, { on := 5, ground := Go.Ground.guard }], guard := some (5, true) }) (v := undef) rfl (by kernel_rfl) (by kernel_rfl) (by kernel_rfl) (fun _ _ _ h => h) (Or.inr ⟨by rfl, rfl⟩) (by assumption) ?_
        try simp only [Act.put, List.setIfInBounds_toArray, List.set_cons_zero, List.set_cons_succ]
        refine wpAnyH_take (i := 11) (oi := { dst := some 26, op := Go.Op.fieldAddr 32 (Go.Operand.tmp 1) 2, type := 0, pos := "ref.go:94", after := #[{ on := 5, ground := Go.Ground.guard }], guard := some (5, true) }) (v := undef) rfl (by kernel_rfl) (by kernel_rfl) (by kernel_rfl) (fun _ _ _ h => h) (Or.inr ⟨by rfl, rfl⟩) (by assumption) ?_
        try simp only [Act.put, List.setIfInBounds_toArray, List.set_cons_zero, List.set_cons_succ]
        refine wpAnyH_take (i := 12) (oi := { dst := some 27, op := Go.Op.load 23 (Go.Operand.tmp 26), type := 23, pos := "ref.go:94", after := #[{ on := 11, ground := Go.Ground.data }, { on := 5, ground := Go.Ground.guard }], guard := some (5, true) }) (v := undef) rfl (by kernel_rfl) (by kernel_rfl) (by kernel_rfl) (fun _ _ _ h => h) (Or.inr ⟨by rfl, rfl⟩) (by assumption) ?_
        try simp only [Act.put, List.setIfInBounds_toArray, List.set_cons_zero, List.set_cons_succ]
        refine wpAnyH_take (i := 13) (oi := { dst := some 28, op := Go.Op.call { callee := Go.Callee.value (Go.Operand.func 41), args := #[Go.Operand.tmp 22, Go.Operand.tmp 25, Go.Operand.tmp 27], argTypes := #[32, 23, 23] }, type := 23, pos := "ref.go:94", after := #[{ on := 7, ground := Go.Ground.data }, { on := 10, ground := Go.Ground.data }, { on := 12, ground := Go.Ground.data }, { on := 10, ground := Go.Ground.chain }, { on := 5, ground := Go.Ground.guard }], guard := some (5, true) }) (v := undef) rfl (by kernel_rfl) (by kernel_rfl) (by kernel_rfl) (fun _ _ _ h => h) (Or.inr ⟨by rfl, rfl⟩) (by assumption) ?_
        try simp only [Act.put, List.setIfInBounds_toArray, List.set_cons_zero, List.set_cons_succ]
        refine wpAnyH_take (i := 14) (oi := { dst := some 29, op := Go.Op.fieldAddr 32 (Go.Operand.tmp 1) 4, type := 0, pos := "ref.go:94", after := #[{ on := 5, ground := Go.Ground.guard }], guard := some (5, true) }) (v := undef) rfl (by kernel_rfl) (by kernel_rfl) (by kernel_rfl) (fun _ _ _ h => h) (Or.inr ⟨by rfl, rfl⟩) (by assumption) ?_
        try simp only [Act.put, List.setIfInBounds_toArray, List.set_cons_zero, List.set_cons_succ]
        refine wpAnyH_take (i := 15) (oi := { dst := some 30, op := Go.Op.load 30 (Go.Operand.tmp 29), type := 30, pos := "ref.go:94", after := #[{ on := 14, ground := Go.Ground.data }, { on := 5, ground := Go.Ground.guard }], guard := some (5, true) }) (v := undef) rfl (by kernel_rfl) (by kernel_rfl) (by kernel_rfl) (fun _ _ _ h => h) (Or.inr ⟨by rfl, rfl⟩) (by assumption) ?_
        try simp only [Act.put, List.setIfInBounds_toArray, List.set_cons_zero, List.set_cons_succ]
        refine wpAnyH_take (i := 16) (oi := { dst := some 31, op := Go.Op.call { callee := Go.Callee.value (Go.Operand.func 17), args := #[Go.Operand.tmp 21, Go.Operand.tmp 28, Go.Operand.tmp 30], argTypes := #[32, 23, 30] }, type := 4, pos := "ref.go:94", after := #[{ on := 6, ground := Go.Ground.data }, { on := 13, ground := Go.Ground.data }, { on := 15, ground := Go.Ground.data }, { on := 13, ground := Go.Ground.chain }, { on := 5, ground := Go.Ground.guard }], guard := some (5, true) }) (v := undef) rfl (by kernel_rfl) (by kernel_rfl) (by kernel_rfl) (fun _ _ _ h => h) (Or.inr ⟨by rfl, rfl⟩) (by assumption) ?_
        try simp only [Act.put, List.setIfInBounds_toArray, List.set_cons_zero, List.set_cons_succ]
        refine wpAnyH_take (i := 17) (oi := { dst := some 32, op := Go.Op.pick (Go.Operand.tmp 20) (Go.Operand.tmp 31) (Go.Operand.const (Go.Value.bool false)), type := 4, pos := "ref.go:94", after := #[{ on := 5, ground := Go.Ground.data }, { on := 16, ground := Go.Ground.data }], guard := none }) (v := ?vu17) rfl (by kernel_rfl) (by kernel_rfl) (by kernel_rfl) (fun _ _ _ h => h) (Or.inl ⟨by rfl, ?ru17⟩) (by assumption) ?_
        case ru17 => (intro w hSw; (try dsimp only at hSw); (go_simp <;> with_reducible rfl))
        try simp only [Act.put, List.setIfInBounds_toArray, List.set_cons_zero, List.set_cons_succ]
        refine wpAnyH_done (by kernel_rfl) ?_ _
        obtain ⟨g9, -⟩ := h1
        have G9 := Lib.hid g9
        clear g9 HS0
        go_wp2
        go_roundw
        case rel => exact ⟨k + 1, by omega, by go_num, Lib.hid (snoc_all hall.out (fun h => by rw [HQ1.out] at h; cases h)), G9⟩
        case measure => simp [intOf]; omega
      · have RK := Lib.hid (HRK.out k hk12)
        have WI := Lib.hid (HWI.out k)
        have hrl := HRL.out k
        obtain ⟨v, hv⟩ : ∃ v, restOr (r * p) k W = v := ⟨_, rfl⟩
        have hol : v < 4096 := by rw [← hv]; exact HOL.out k
        have QB := Lib.hid (HQB.out v hol)
        rw [hv] at WI
        have HV := Lib.hid hv
        clear hv
        generalize restB (r * p) k = rk at *
        obtain ⟨q2, hq2⟩ : ∃ q2, isQ r p z2 n2 v = q2 := ⟨_, rfl⟩
        rw [hq2] at QB
        have HQ2 := Lib.hid hq2
        clear hq2
        go_wp2
        refine wp_region_held_drew (S := (fun w9 => Gr wz w9 ∧ w9.cell? ⟨b, 0, none⟩ = some (.int .i64 (r : Nat)) ∧ w9.cell? ⟨b, 1, none⟩ = some (.int .i64 (p : Nat)) ∧ w9.cell? ⟨b, 2, none⟩ = some (.int .u32 (W : Nat)) ∧ w9.cell? ⟨b, 3, none⟩ = some (.int .i64 (z1 : Nat)) ∧ w9.cell? ⟨b, 4, none⟩ = some (.int .i64 (n1 : Nat)) ∧ w9.cell? ⟨b, 5, none⟩ = some (.int .i64 (z2 : Nat)) ∧ w9.cell? ⟨b, 6, none⟩ = some (.int .i64 (n2 : Nat)))) (by kernel_rfl) ?invt (fun h0 => ?_)
        case invt => ((try dsimp only); (first | exact HS0 | exact HX.out _ _ ((Gr.refl _).drew) HS0))
        refine wpAnyH_take (i := 0) (oi := { dst := some 15, op := Go.Op.load 32 (Go.Operand.tmp 1), type := 32, pos := "ref.go:94", after := #[], guard := none }) (v := ?vt0) rfl (by kernel_rfl) (by kernel_rfl) (by kernel_rfl) (fun _ _ _ h => h) (Or.inl ⟨by rfl, ?rt0⟩) (by assumption) ?_
        case rt0 => (intro w hSw; (try dsimp only at hSw); (go_simp <;> with_reducible rfl))
        try simp only [Act.put, List.setIfInBounds_toArray, List.set_cons_zero, List.set_cons_succ]
        refine wpAnyH_take (i := 1) (oi := { dst := some 16, op := Go.Op.move (Go.Operand.tmp 4), type := 23, pos := "ref.go:94", after := #[], guard := none }) (v := ?vt1) rfl (by kernel_rfl) (by kernel_rfl) (by kernel_rfl) (fun _ _ _ h => h) (Or.inl ⟨by rfl, ?rt1⟩) (by assumption) ?_
        case rt1 => (intro w hSw; (try dsimp only at hSw); (go_simp <;> with_reducible rfl))
        try simp only [Act.put, List.setIfInBounds_toArray, List.set_cons_zero, List.set_cons_succ]
        refine wpAnyH_take (i := 2) (oi := { dst := some 17, op := Go.Op.fieldAddr 32 (Go.Operand.tmp 1) 3, type := 0, pos := "ref.go:94", after := #[], guard := none }) (v := ?vt2) rfl (by kernel_rfl) (by kernel_rfl) (by kernel_rfl) (fun _ _ _ h => h) (Or.inl ⟨by rfl, ?rt2⟩) (by assumption) ?_
        case rt2 => (intro w hSw; (try dsimp only at hSw); (go_simp <;> with_reducible rfl))
        try simp only [Act.put, List.setIfInBounds_toArray, List.set_cons_zero, List.set_cons_succ]
        refine wpAnyH_take (i := 3) (oi := { dst := some 18, op := Go.Op.load 30 (Go.Operand.tmp 17), type := 30, pos := "ref.go:94", after := #[{ on := 2, ground := Go.Ground.data }], guard := none }) (v := ?vt3) rfl (by kernel_rfl) (by kernel_rfl) (by kernel_rfl) (fun _ _ _ h => h) (Or.inl ⟨by rfl, ?rt3⟩) (by assumption) ?_
        case rt3 => (intro w hSw; (try dsimp only at hSw); (go_simp <;> with_reducible rfl))
        try simp only [Act.put, List.setIfInBounds_toArray, List.set_cons_zero, List.set_cons_succ]
        refine wpAnyH_ready (rs := [4]) (by kernel_rfl) (by simp) ?_
        refine AllReadyH.cons (o := { dst := some 19, op := Go.Op.call { callee := Go.Callee.value (Go.Operand.func 17), args := #[Go.Operand.tmp 15, Go.Operand.tmp 16, Go.Operand.tmp 18], argTypes := #[32, 23, 30] }, type := 4, pos := "ref.go:94", after := #[{ on := 0, ground := Go.Ground.data }, { on := 1, ground := Go.Ground.data }, { on := 3, ground := Go.Ground.data }], guard := none }) rfl (fun K hK => ?_) AllReadyH.nil
        go_simp
        (go_at_call 17; refine (QA.out _).mono ?_; rintro e w9 ⟨rfl, hgN⟩)
        first | refine hK.out _ _ ?st1 (fun h1 => ?_) | (go_wp2_with fail; refine hK.out _ _ ?st1 (fun h1 => ?_))
        case st1 => ((try dsimp only); exact HX.out _ _ hgN h0)
        clear hK K h0
        try simp only [Act.put, List.setIfInBounds_toArray, List.set_cons_zero, List.set_cons_succ]
        refine wpAnyH_take (i := 5) (oi := { dst := some 20, op := Go.Op.move (Go.Operand.tmp 19), type := 4, pos := "ref.go:94", after := #[{ on := 4, ground := Go.Ground.data }, { on := 4, ground := Go.Ground.chain }], guard := none }) (v := ?vt5) rfl (by kernel_rfl) (by kernel_rfl) (by kernel_rfl) (fun _ _ _ h => h) (Or.inl ⟨by rfl, ?rt5⟩) (by assumption) ?_
        case rt5 => (intro w hSw; (try dsimp only at hSw); (go_simp <;> with_reducible rfl))
        try simp only [Act.put, List.setIfInBounds_toArray, List.set_cons_zero, List.set_cons_succ]
        refine wpAnyH_take (i := 6) (oi := { dst := some 21, op := Go.Op.load 32 (Go.Operand.tmp 1), type := 32, pos := "ref.go:94", after := #[{ on := 5, ground := Go.Ground.guard }], guard := some (5, true) }) (v := ?vt6) rfl (by kernel_rfl) (by kernel_rfl) (by kernel_rfl) (fun _ _ _ h => h) (Or.inl ⟨by rfl, ?rt6⟩) (by assumption) ?_
        case rt6 => (intro w hSw; (try dsimp only at hSw); (go_simp <;> with_reducible rfl))
        try simp only [Act.put, List.setIfInBounds_toArray, List.set_cons_zero, List.set_cons_succ]
        refine wpAnyH_take (i := 7) (oi := { dst := some 22, op := Go.Op.load 32 (Go.Operand.tmp 1), type := 32, pos := "ref.go:94", after := #[{ on := 5, ground := Go.Ground.guard }], guard := some (5, true) }) (v := ?vt7) rfl (by kernel_rfl) (by kernel_rfl) (by kernel_rfl) (fun _ _ _ h => h) (Or.inl ⟨by rfl, ?rt7⟩) (by assumption) ?_
        case rt7 => (intro w hSw; (try dsimp only at hSw); (go_simp <;> with_reducible rfl))
        try simp only [Act.put, List.setIfInBounds_toArray, List.set_cons_zero, List.set_cons_succ]
        refine wpAnyH_take (i := 8) (oi := { dst := some 23, op := Go.Op.load 32 (Go.Operand.tmp 1), type := 32, pos := "ref.go:94", after := #[{ on := 5, ground := Go.Ground.guard }], guard := some (5, true) }) (v := ?vt8) rfl (by kernel_rfl) (by kernel_rfl) (by kernel_rfl) (fun _ _ _ h => h) (Or.inl ⟨by rfl, ?rt8⟩) (by assumption) ?_
        case rt8 => (intro w hSw; (try dsimp only at hSw); (go_simp <;> with_reducible rfl))
        try simp only [Act.put, List.setIfInBounds_toArray, List.set_cons_zero, List.set_cons_succ]
        refine wpAnyH_take (i := 9) (oi := { dst := some 24, op := Go.Op.move (Go.Operand.tmp 4), type := 23, pos := "ref.go:94", after := #[{ on := 5, ground := Go.Ground.guard }], guard := some (5, true) }) (v := ?vt9) rfl (by kernel_rfl) (by kernel_rfl) (by kernel_rfl) (fun _ _ _ h => h) (Or.inl ⟨by rfl, ?rt9⟩) (by assumption) ?_
        case rt9 => (intro w hSw; (try dsimp only at hSw); (go_simp <;> with_reducible rfl))
        try simp only [Act.put, List.setIfInBounds_toArray, List.set_cons_zero, List.set_cons_succ]
        refine wpAnyH_take (i := 11) (oi := { dst := some 26, op := Go.Op.fieldAddr 32 (Go.Operand.tmp 1) 2, type := 0, pos := "ref.go:94", after := #[{ on := 5, ground := Go.Ground.guard }], guard := some (5, true) }) (v := ?vt11) rfl (by kernel_rfl) (by kernel_rfl) (by kernel_rfl) (fun _ _ _ h => h) (Or.inl ⟨by rfl, ?rt11⟩) (by assumption) ?_
        case rt11 => (intro w hSw; (try dsimp only at hSw); (go_simp <;> with_reducible rfl))
        try simp only [Act.put, List.setIfInBounds_toArray, List.set_cons_zero, List.set_cons_succ]
        refine wpAnyH_take (i := 12) (oi := { dst := some 27, op := Go.Op.load 23 (Go.Operand.tmp 26), type := 23, pos := "ref.go:94", after := #[{ on := 11, ground := Go.Ground.data }, { on := 5, ground := Go.Ground.guard }], guard := some (5, true) }) (v := ?vt12) rfl (by kernel_rfl) (by kernel_rfl) (by kernel_rfl) (fun _ _ _ h => h) (Or.inl ⟨by rfl, ?rt12⟩) (by assumption) ?_
        case rt12 => (intro w hSw; (try dsimp only at hSw); (go_simp <;> with_reducible rfl))
        try simp only [Act.put, List.setIfInBounds_toArray, List.set_cons_zero, List.set_cons_succ]
        refine wpAnyH_take (i := 14) (oi := { dst := some 29, op := Go.Op.fieldAddr 32 (Go.Operand.tmp 1) 4, type := 0, pos := "ref.go:94", after := #[{ on := 5, ground := Go.Ground.guard }], guard := some (5, true) }) (v := ?vt14) rfl (by kernel_rfl) (by kernel_rfl) (by kernel_rfl) (fun _ _ _ h => h) (Or.inl ⟨by rfl, ?rt14⟩) (by assumption) ?_
        case rt14 => (intro w hSw; (try dsimp only at hSw); (go_simp <;> with_reducible rfl))
        try simp only [Act.put, List.setIfInBounds_toArray, List.set_cons_zero, List.set_cons_succ]
        refine wpAnyH_take (i := 15) (oi := { dst := some 30, op := Go.Op.load 30 (Go.Operand.tmp 29), type := 30, pos := "ref.go:94", after := #[{ on := 14, ground := Go.Ground.data }, { on := 5, ground := Go.Ground.guard }], guard := some (5, true) }) (v := ?vt15) rfl (by kernel_rfl) (by kernel_rfl) (by kernel_rfl) (fun _ _ _ h => h) (Or.inl ⟨by rfl, ?rt15⟩) (by assumption) ?_
        case rt15 => (intro w hSw; (try dsimp only at hSw); (go_simp <;> with_reducible rfl))
        try simp only [Act.put, List.setIfInBounds_toArray, List.set_cons_zero, List.set_cons_succ]
        refine wpAnyH_ready (rs := [10]) (by kernel_rfl) (by simp) ?_
        refine AllReadyH.cons (o := { dst := some 25, op := Go.Op.call { callee := Go.Callee.value (Go.Operand.func 40), args := #[Go.Operand.tmp 23, Go.Operand.tmp 24], argTypes := #[32, 23] }, type := 23, pos := "ref.go:94", after := #[{ on := 8, ground := Go.Ground.data }, { on := 9, ground := Go.Ground.data }, { on := 5, ground := Go.Ground.chain }, { on := 5, ground := Go.Ground.guard }], guard := some (5, true) }) rfl (fun K hK => ?_) AllReadyH.nil
        go_simp
        (go_at_call 40; refine (RK.out _).mono ?_; rintro e w9 ⟨rfl, hgN⟩)
        first | refine hK.out _ _ ?st2 (fun h2 => ?_) | (go_wp2_with fail; refine hK.out _ _ ?st2 (fun h2 => ?_))
        case st2 => ((try dsimp only); exact HX.out _ _ hgN h1)
        clear hK K h1
        try simp only [Act.put, List.setIfInBounds_toArray, List.set_cons_zero, List.set_cons_succ]
        refine wpAnyH_ready (rs := [13]) (by kernel_rfl) (by simp) ?_
        refine AllReadyH.cons (o := { dst := some 28, op := Go.Op.call { callee := Go.Callee.value (Go.Operand.func 41), args := #[Go.Operand.tmp 22, Go.Operand.tmp 25, Go.Operand.tmp 27], argTypes := #[32, 23, 23] }, type := 23, pos := "ref.go:94", after := #[{ on := 7, ground := Go.Ground.data }, { on := 10, ground := Go.Ground.data }, { on := 12, ground := Go.Ground.data }, { on := 10, ground := Go.Ground.chain }, { on := 5, ground := Go.Ground.guard }], guard := some (5, true) }) rfl (fun K hK => ?_) AllReadyH.nil
        go_simp
        (go_at_call 41; refine (WI.out _).mono ?_; rintro e w9 ⟨rfl, hgN⟩)
        first | refine hK.out _ _ ?st3 (fun h3 => ?_) | (go_wp2_with fail; refine hK.out _ _ ?st3 (fun h3 => ?_))
        case st3 => ((try dsimp only); exact HX.out _ _ hgN h2)
        clear hK K h2
        try simp only [Act.put, List.setIfInBounds_toArray, List.set_cons_zero, List.set_cons_succ]
        refine wpAnyH_ready (rs := [16]) (by kernel_rfl) (by simp) ?_
        refine AllReadyH.cons (o := { dst := some 31, op := Go.Op.call { callee := Go.Callee.value (Go.Operand.func 17), args := #[Go.Operand.tmp 21, Go.Operand.tmp 28, Go.Operand.tmp 30], argTypes := #[32, 23, 30] }, type := 4, pos := "ref.go:94", after := #[{ on := 6, ground := Go.Ground.data }, { on := 13, ground := Go.Ground.data }, { on := 15, ground := Go.Ground.data }, { on := 13, ground := Go.Ground.chain }, { on := 5, ground := Go.Ground.guard }], guard := some (5, true) }) rfl (fun K hK => ?_) AllReadyH.nil
        go_simp
        (go_at_call 17; refine (QB.out _).mono ?_; rintro e w9 ⟨rfl, hgN⟩)
        first | refine hK.out _ _ ?st4 (fun h4 => ?_) | (go_wp2_with fail; refine hK.out _ _ ?st4 (fun h4 => ?_))
        case st4 => ((try dsimp only); exact HX.out _ _ hgN h3)
        clear hK K h3
        try simp only [Act.put, List.setIfInBounds_toArray, List.set_cons_zero, List.set_cons_succ]
        refine wpAnyH_take (i := 17) (oi := { dst := some 32, op := Go.Op.pick (Go.Operand.tmp 20) (Go.Operand.tmp 31) (Go.Operand.const (Go.Value.bool false)), type := 4, pos := "ref.go:94", after := #[{ on := 5, ground := Go.Ground.data }, { on := 16, ground := Go.Ground.data }], guard := none }) (v := ?vt17) rfl (by kernel_rfl) (by kernel_rfl) (by kernel_rfl) (fun _ _ _ h => h) (Or.inl ⟨by rfl, ?rt17⟩) (by assumption) ?_
        case rt17 => (intro w hSw; (try dsimp only at hSw); (go_simp <;> with_reducible rfl))
        try simp only [Act.put, List.setIfInBounds_toArray, List.set_cons_zero, List.set_cons_succ]
        refine wpAnyH_done (by kernel_rfl) ?_ _
        obtain ⟨g9, -⟩ := h4
        have G9 := Lib.hid g9
        clear g9 HS0
        cases q2
        · go_wp2
          go_roundw
          case rel => exact ⟨k + 1, by omega, by go_num, Lib.hid (snoc_all hall.out (fun _ => by rw [HV.out]; exact HQ2.out)), G9⟩
          case measure => simp [intOf]; omega
        · go_wp2
          go_ret
          refine ⟨?_, HG2.out.trans G9.out⟩
          rw [HNO.out k (by rw [← HP2.out]; omega) HQ1.out (by rw [HV.out]; exact HQ2.out)]; rfl
    · obtain rfl : k = T + 1 := by omega
      have hk' : ¬ ((T : Int) + 1 ≤ T) := by omega
      go_wp2
      go_ret
      refine ⟨?_, HG2.out.trans hG.out⟩
      rw [HYES.out (fun a ha => hall.out a (Nat.zero_le _) (by rw [HP2.out]; exact ha))]; rfl
end Go.Proofs.YtegapeplbincnaaDoor
