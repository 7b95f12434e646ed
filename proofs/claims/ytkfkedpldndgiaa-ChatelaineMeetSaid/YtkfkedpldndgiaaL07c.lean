import Derived.Test.YtkfkedpldndgiaaF07o
import Derived.Test.YtkfkedpldndgiaaM07d
import Derived.OpenShut
import Derived.WalkKit
import Derived.ProofKit
import Derived.LoopTactic
import Derived.Outline
import Derived.WalkSpells
import Derived.WalkLawsBesides
import Derived.Lib.Hide
import Derived.Deep.LoopGhost
import Derived.Deep.QuietTactic
import Derived.BigQuiet
import Derived.ShutString
import Derived.IntWalk
import Derived.Deep.RegionHeld3
namespace Go.Proofs.Ytkfkedpldndgiaa
open Go.ChangeShapes Go.WideShapes Go.ChangeAt Go.RowKit
open Grids
set_option linter.unusedVariables false
set_option linter.unusedSimpArgs false
set_option maxRecDepth 100000 in
set_option maxHeartbeats 4000000 in
theorem chatelaineMeet_walk (R P : Int) (W : Nat) (z1 n1 z2 n2 : Int) (w : World) (hW : W < 4294967296) :
    Calls Try.prog 12 #[.agg #[.int .i64 R, .int .i64 P, .int .u32 W, .int .i64 z1, .int .i64 n1, .int .i64 z2, .int .i64 n2]] w fun e w' => e = .returned (.bool true) ∧ Gr w w' := by
  have RI := Lib.hid (fun w => right_any R P z1 n1 z2 n2 W w hW)
  clear hW
  go_enter Try.func12, Try.ntmps12
  go_wp2_with fail
  refine (RI.out _).mono ?_
  rintro e w2 ⟨r, p, W', y1, y2, y3, y4, hR, rfl, hg2⟩
  have HR := Lib.hid hR
  have HG2 := Lib.hid (((Gr.refl w).alloc (.cells #[.int .i64 R, .int .i64 P, .int .u32 W, .int .i64 z1, .int .i64 n1, .int .i64 z2, .int .i64 n2] 53)).trans hg2)
  clear hg2 hR
  go_wp2_with fail
  refine (own_any _ _ _ _ _ _ _ _).mono ?_
  rintro e w4 ⟨rfl, hg4⟩
  have HG4 := Lib.hid (HG2.out.trans hg4)
  clear hg4
  have CH := Lib.hid (check_shp HR.out.shp true HR.out.good 0 rfl)
  have LN := Lib.hid (len_shp HR.out)
  have h9 := pow9 HR.out.shp
  have hN := shp12 HR.out.shp
  have hWl := HR.out.shp.hW
  have hpos : 0 < 2 ^ (r * p) := Nat.pow_pos (by decide)
  have hN0 : (((r * p : Nat) : Int) == 0) = false := by
    have h1 := HR.out.shp.hr
    have h2 := HR.out.shp.hp
    have h3 : 0 < r * p := Nat.mul_pos (by omega) (by omega)
    simp only [beq_eq_false_iff_ne, ne_eq]; omega
  have AL := Lib.hid (all_shp HR.out)
  have WI := Lib.hid (witnesses_any (W := W') (A := 2 ^ (r * p) - 1) (by omega) (by omega) (all_shp HR.out))
  rw [and_all hWl] at WI
  have RF := Lib.hid (fun s hs => rest_facts (n := r * p) (s := s) (W := W') hN hs (by omega))
  have hal : 2 ^ (r * p) - 1 < 512 := by omega
  generalize 2 ^ (r * p) - 1 = al at *
  clear h9 hWl hpos
  obtain ⟨N, HNN⟩ : ∃ N, Hid (r * p = N) := ⟨_, Lib.hid rfl⟩
  rw [HNN.out] at hN0 LN RF hN
  go_wp2_with fail
  refine (CH.out _).mono ?_
  rintro e w5 ⟨rfl, hg5⟩
  have x0 := hg5.own.1 0 _ rfl
  have x1 := hg5.own.1 1 _ rfl
  have x2 := hg5.own.1 2 _ rfl
  have x3 := hg5.own.1 3 _ rfl
  have x4 := hg5.own.1 4 _ rfl
  have x5 := hg5.own.1 5 _ rfl
  have x6 := hg5.own.1 6 _ rfl
  have HG5 := Lib.hid ((HG4.out.alloc (.cells #[.int .i64 r, .int .i64 p, .int .u32 W', .int .i64 y1, .int .i64 y2, .int .i64 y3, .int .i64 y4] 57)).trans hg5)
  clear hg5
  go_wp2_with fail
  refine (LN.out _).mono ?_
  rintro e w6 ⟨rfl, hg6⟩
  replace x0 := hg6.cell x0
  replace x1 := hg6.cell x1
  replace x2 := hg6.cell x2
  replace x3 := hg6.cell x3
  replace x4 := hg6.cell x4
  replace x5 := hg6.cell x5
  replace x6 := hg6.cell x6
  have HZ := Lib.hid (HG5.out.trans hg6)
  clear hg6 HG5 HG4 HG2
  generalize w4.heap.size = c at *
  generalize w6 = wz at *
  have HX : Hid (∀ w0 w9 : World, Gr w0 w9 → (fun w9 => Gr wz w9 ∧ w9.cell? ⟨c, 0, none⟩ = some (.int .i64 (r : Nat)) ∧ w9.cell? ⟨c, 1, none⟩ = some (.int .i64 (p : Nat)) ∧ w9.cell? ⟨c, 2, none⟩ = some (.int .u32 (W' : Nat)) ∧ w9.cell? ⟨c, 3, none⟩ = some (.int .i64 (y1 : Nat)) ∧ w9.cell? ⟨c, 4, none⟩ = some (.int .i64 (y2 : Nat)) ∧ w9.cell? ⟨c, 5, none⟩ = some (.int .i64 (y3 : Nat)) ∧ w9.cell? ⟨c, 6, none⟩ = some (.int .i64 (y4 : Nat))) w0 → (fun w9 => Gr wz w9 ∧ w9.cell? ⟨c, 0, none⟩ = some (.int .i64 (r : Nat)) ∧ w9.cell? ⟨c, 1, none⟩ = some (.int .i64 (p : Nat)) ∧ w9.cell? ⟨c, 2, none⟩ = some (.int .u32 (W' : Nat)) ∧ w9.cell? ⟨c, 3, none⟩ = some (.int .i64 (y1 : Nat)) ∧ w9.cell? ⟨c, 4, none⟩ = some (.int .i64 (y2 : Nat)) ∧ w9.cell? ⟨c, 5, none⟩ = some (.int .i64 (y3 : Nat)) ∧ w9.cell? ⟨c, 6, none⟩ = some (.int .i64 (y4 : Nat))) w9) := Lib.hid fun w0 w9 hg ⟨h, q0, q1, q2, q3, q4, q5, q6⟩ => ⟨h.trans hg, hg.cell q0, hg.cell q1, hg.cell q2, hg.cell q3, hg.cell q4, hg.cell q5, hg.cell q6⟩
  have HK := Lib.hid (And.intro (Gr.refl wz) (And.intro (x0) (And.intro (x1) (And.intro (x2) (And.intro (x3) (And.intro (x4) (And.intro (x5) (x6))))))))
  clear x0 x1 x2 x3 x4 x5 x6
  go_wp2
  go_loopw [4] (fun i wr => ∃ k : Nat, k ≤ al + 1 ∧ i = .int .u32 k ∧ Hid (Gr wz wr)) (fun i _ => al + 1 - (intOf i).toNat)
  case atStart => exact ⟨0, by omega, rfl, Lib.hid (Gr.refl _)⟩
  case round =>
    obtain ⟨k, hk, rfl, hG⟩ := hrel
    obtain ⟨-, x0, x1, x2, x3, x4, x5, x6⟩ := HK.out
    replace x0 := hG.out.cell x0
    replace x1 := hG.out.cell x1
    replace x2 := hG.out.cell x2
    replace x3 := hG.out.cell x3
    replace x4 := hG.out.cell x4
    replace x5 := hG.out.cell x5
    replace x6 := hG.out.cell x6
    go_wp2_with fail
    refine (AL.out _).mono ?_
    rintro e w8 ⟨rfl, hg8⟩
    replace x0 := hg8.cell x0
    replace x1 := hg8.cell x1
    replace x2 := hg8.cell x2
    replace x3 := hg8.cell x3
    replace x4 := hg8.cell x4
    replace x5 := hg8.cell x5
    replace x6 := hg8.cell x6
    have G8 := Lib.hid (hG.out.trans hg8)
    clear hg8 hG
    by_cases hlt : k ≤ al
    · obtain ⟨d, m, e1, e2, e3, e4⟩ := RF.out k (by omega)
      have X1 := Lib.hid e1
      have X2 := Lib.hid e2
      have X3 := Lib.hid e3
      have X4 := Lib.hid e4
      clear e1 e2 e3 e4
      obtain ⟨qa, hqa⟩ : ∃ q, isQ r p y1 y2 k = q := ⟨_, rfl⟩
      obtain ⟨qc, hqc⟩ : ∃ q, isQ r p y3 y4 k = q := ⟨_, rfl⟩
      have QA := Lib.hid (isFirst_any (first_shp HR.out k (by omega) qa hqa))
      have QC := Lib.hid (isSecond_any (second_shp HR.out k (by omega) qc hqc))
      have HQA := Lib.hid hqa
      have HQC := Lib.hid hqc
      clear hqa hqc
      have MF := Lib.hid (fun h => meet_first (s := k) (m := m) HR.out.good (fun i hi => X4.out i (HNN.out ▸ hi)) h)
      have MS := Lib.hid (fun h => meet_second (s := k) (m := m) HR.out.good (fun i hi => X4.out i (HNN.out ▸ hi)) h)
      have HS0 := And.intro (G8.out) (And.intro (x0) (And.intro (x1) (And.intro (x2) (And.intro (x3) (And.intro (x4) (And.intro (x5) (x6)))))))
      clear x0 x1 x2 x3 x4 x5 x6
      go_wp2
      refine wp_region_held_drew (S := (fun w9 => Gr wz w9 ∧ w9.cell? ⟨c, 0, none⟩ = some (.int .i64 (r : Nat)) ∧ w9.cell? ⟨c, 1, none⟩ = some (.int .i64 (p : Nat)) ∧ w9.cell? ⟨c, 2, none⟩ = some (.int .u32 (W' : Nat)) ∧ w9.cell? ⟨c, 3, none⟩ = some (.int .i64 (y1 : Nat)) ∧ w9.cell? ⟨c, 4, none⟩ = some (.int .i64 (y2 : Nat)) ∧ w9.cell? ⟨c, 5, none⟩ = some (.int .i64 (y3 : Nat)) ∧ w9.cell? ⟨c, 6, none⟩ = some (.int .i64 (y4 : Nat)))) (by kernel_rfl) ?invm (fun h0 => ?_)
      case invm => ((try dsimp only); (first | exact HS0 | exact HX.out _ _ ((Gr.refl _).drew) HS0))
      refine wpAnyH_take (i := 0) (oi := { dst := some 23, op := Go.Op.load 57 (Go.Operand.tmp 3), type := 57, pos := "top04.go:17", after := #[], guard := none }) (v := ?vm1) rfl (by kernel_rfl) (by kernel_rfl) (by kernel_rfl) (fun _ _ _ h => h) (Or.inl ⟨by rfl, ?rm1⟩) (by assumption) ?_
      case rm1 => (intro w hSw; (try dsimp only at hSw); (go_simp <;> with_reducible rfl))
      try simp only [Act.put, List.setIfInBounds_toArray, List.set_cons_zero, List.set_cons_succ]
      refine wpAnyH_take (i := 2) (oi := { dst := some 25, op := Go.Op.move (Go.Operand.tmp 4), type := 49, pos := "top04.go:17", after := #[], guard := none }) (v := ?vm2) rfl (by kernel_rfl) (by kernel_rfl) (by kernel_rfl) (fun _ _ _ h => h) (Or.inl ⟨by rfl, ?rm2⟩) (by assumption) ?_
      case rm2 => (intro w hSw; (try dsimp only at hSw); (go_simp <;> with_reducible rfl))
      try simp only [Act.put, List.setIfInBounds_toArray, List.set_cons_zero, List.set_cons_succ]
      refine wpAnyH_take (i := 4) (oi := { dst := some 27, op := Go.Op.load 57 (Go.Operand.tmp 3), type := 57, pos := "top04.go:17", after := #[], guard := none }) (v := ?vm3) rfl (by kernel_rfl) (by kernel_rfl) (by kernel_rfl) (fun _ _ _ h => h) (Or.inl ⟨by rfl, ?rm3⟩) (by assumption) ?_
      case rm3 => (intro w hSw; (try dsimp only at hSw); (go_simp <;> with_reducible rfl))
      try simp only [Act.put, List.setIfInBounds_toArray, List.set_cons_zero, List.set_cons_succ]
      refine wpAnyH_ready (rs := [1]) (by kernel_rfl) (by simp) ?_
      refine AllReadyH.cons (o := { dst := some 24, op := Go.Op.call { callee := Go.Callee.value (Go.Operand.func 39), args := #[Go.Operand.tmp 23], argTypes := #[57] }, type := 49, pos := "top04.go:17", after := #[{ on := 0, ground := Go.Ground.data }], guard := none }) rfl (fun K hK => ?_) AllReadyH.nil
      go_simp
      (go_at_call 39; refine (AL.out _).mono ?_; rintro e w9 ⟨rfl, hgN⟩)
      first | refine hK.out _ _ ?sm4 (fun h4 => ?_) | (go_wp2_with fail; refine hK.out _ _ ?sm4 (fun h4 => ?_))
      case sm4 => ((try dsimp only); exact HX.out _ _ hgN h0)
      clear hK K h0
      try simp only [Act.put, List.setIfInBounds_toArray, List.set_cons_zero, List.set_cons_succ]
      refine wpAnyH_take (i := 3) (oi := { dst := some 26, op := Go.Op.binOp Go.BinOp.andNot 49 (Go.Operand.tmp 24) (Go.Operand.tmp 25) 49, type := 49, pos := "top04.go:17", after := #[{ on := 1, ground := Go.Ground.data }, { on := 2, ground := Go.Ground.data }], guard := none }) (v := (.int .u32 (d : Nat))) rfl (by kernel_rfl) (by kernel_rfl) (by kernel_rfl) (fun _ _ _ h => h) (Or.inl ⟨by rfl, ?rm5⟩) (by assumption) ?_
      case rm5 => (intro w hSw; (try dsimp only at hSw); go_simp; simp [X1.out])
      try simp only [Act.put, List.setIfInBounds_toArray, List.set_cons_zero, List.set_cons_succ]
      refine wpAnyH_ready (rs := [5]) (by kernel_rfl) (by simp) ?_
      refine AllReadyH.cons (o := { dst := some 28, op := Go.Op.call { callee := Go.Callee.value (Go.Operand.func 40), args := #[Go.Operand.tmp 27], argTypes := #[57] }, type := 49, pos := "top04.go:17", after := #[{ on := 4, ground := Go.Ground.data }, { on := 1, ground := Go.Ground.chain }], guard := none }) rfl (fun K hK => ?_) AllReadyH.nil
      go_simp
      (go_at_call 40; refine (WI.out _).mono ?_; rintro e w9 ⟨rfl, hgN⟩)
      first | refine hK.out _ _ ?sm6 (fun h6 => ?_) | (go_wp2_with fail; refine hK.out _ _ ?sm6 (fun h6 => ?_))
      case sm6 => ((try dsimp only); exact HX.out _ _ hgN h4)
      clear hK K h4
      try simp only [Act.put, List.setIfInBounds_toArray, List.set_cons_zero, List.set_cons_succ]
      refine wpAnyH_take (i := 6) (oi := { dst := some 29, op := Go.Op.binOp Go.BinOp.or 49 (Go.Operand.tmp 26) (Go.Operand.tmp 28) 49, type := 49, pos := "top04.go:17", after := #[{ on := 3, ground := Go.Ground.data }, { on := 5, ground := Go.Ground.data }], guard := none }) (v := (.int .u32 (m : Nat))) rfl (by kernel_rfl) (by kernel_rfl) (by kernel_rfl) (fun _ _ _ h => h) (Or.inl ⟨by rfl, ?rm7⟩) (by assumption) ?_
      case rm7 => (intro w hSw; (try dsimp only at hSw); go_simp; simp [X2.out])
      try simp only [Act.put, List.setIfInBounds_toArray, List.set_cons_zero, List.set_cons_succ]
      refine wpAnyH_take (i := 7) (oi := { dst := some 5, op := Go.Op.assign (Go.Operand.tmp 29), type := 49, pos := "top04.go:17", after := #[{ on := 6, ground := Go.Ground.data }, { on := 5, ground := Go.Ground.chain }, { on := 0, ground := Go.Ground.phase }, { on := 1, ground := Go.Ground.phase }, { on := 2, ground := Go.Ground.phase }, { on := 3, ground := Go.Ground.phase }, { on := 4, ground := Go.Ground.phase }, { on := 5, ground := Go.Ground.phase }, { on := 6, ground := Go.Ground.phase }], guard := none }) (v := ?vm8) rfl (by kernel_rfl) (by kernel_rfl) (by kernel_rfl) (fun _ _ _ h => h) (Or.inl ⟨by rfl, ?rm8⟩) (by assumption) ?_
      case rm8 => (intro w hSw; (try dsimp only at hSw); (go_simp <;> with_reducible rfl))
      try simp only [Act.put, List.setIfInBounds_toArray, List.set_cons_zero, List.set_cons_succ]
      refine wpAnyH_done (by kernel_rfl) ?_ _
      obtain ⟨g9, x0, x1, x2, x3, x4, x5, x6⟩ := h6
      have G9 := Lib.hid g9
      clear g9
      cases qa
      · cases qc
        · go_wp2_with fail
          refine (QA.out _).mono ?_
          rintro e w10 ⟨rfl, hg10⟩
          replace x0 := hg10.cell x0
          replace x1 := hg10.cell x1
          replace x2 := hg10.cell x2
          replace x3 := hg10.cell x3
          replace x4 := hg10.cell x4
          replace x5 := hg10.cell x5
          replace x6 := hg10.cell x6
          have G10 := Lib.hid (G9.out.trans hg10)
          clear hg10
          go_wp2_with fail
          refine (QC.out _).mono ?_
          rintro e w11 ⟨rfl, hg11⟩
          replace x0 := hg11.cell x0
          replace x1 := hg11.cell x1
          replace x2 := hg11.cell x2
          replace x3 := hg11.cell x3
          replace x4 := hg11.cell x4
          replace x5 := hg11.cell x5
          replace x6 := hg11.cell x6
          have G11 := Lib.hid (G10.out.trans hg11)
          clear hg11
          go_wp2
          go_roundw
          case rel => exact ⟨k + 1, by omega, by go_num, G11⟩
          case measure => simp [intOf]; omega
        · have QD := Lib.hid (isFirst_any (first_shp HR.out m X3.out false (MS.out HQC.out)))
          go_wp2_with fail
          refine (QA.out _).mono ?_
          rintro e w10 ⟨rfl, hg10⟩
          replace x0 := hg10.cell x0
          replace x1 := hg10.cell x1
          replace x2 := hg10.cell x2
          replace x3 := hg10.cell x3
          replace x4 := hg10.cell x4
          replace x5 := hg10.cell x5
          replace x6 := hg10.cell x6
          have G10 := Lib.hid (G9.out.trans hg10)
          clear hg10
          go_wp2_with fail
          refine (QC.out _).mono ?_
          rintro e w11 ⟨rfl, hg11⟩
          replace x0 := hg11.cell x0
          replace x1 := hg11.cell x1
          replace x2 := hg11.cell x2
          replace x3 := hg11.cell x3
          replace x4 := hg11.cell x4
          replace x5 := hg11.cell x5
          replace x6 := hg11.cell x6
          have G11 := Lib.hid (G10.out.trans hg11)
          clear hg11
          go_wp2_with fail
          refine (QD.out _).mono ?_
          rintro e w12 ⟨rfl, hg12⟩
          replace x0 := hg12.cell x0
          replace x1 := hg12.cell x1
          replace x2 := hg12.cell x2
          replace x3 := hg12.cell x3
          replace x4 := hg12.cell x4
          replace x5 := hg12.cell x5
          replace x6 := hg12.cell x6
          have G12 := Lib.hid (G11.out.trans hg12)
          clear hg12
          go_wp2
          go_roundw
          case rel => exact ⟨k + 1, by omega, by go_num, G12⟩
          case measure => simp [intOf]; omega
      · have QB := Lib.hid (isSecond_any (second_shp HR.out m X3.out false (MF.out HQA.out)))
        cases qc
        · go_wp2_with fail
          refine (QA.out _).mono ?_
          rintro e w10 ⟨rfl, hg10⟩
          replace x0 := hg10.cell x0
          replace x1 := hg10.cell x1
          replace x2 := hg10.cell x2
          replace x3 := hg10.cell x3
          replace x4 := hg10.cell x4
          replace x5 := hg10.cell x5
          replace x6 := hg10.cell x6
          have G10 := Lib.hid (G9.out.trans hg10)
          clear hg10
          go_wp2_with fail
          refine (QB.out _).mono ?_
          rintro e w11 ⟨rfl, hg11⟩
          replace x0 := hg11.cell x0
          replace x1 := hg11.cell x1
          replace x2 := hg11.cell x2
          replace x3 := hg11.cell x3
          replace x4 := hg11.cell x4
          replace x5 := hg11.cell x5
          replace x6 := hg11.cell x6
          have G11 := Lib.hid (G10.out.trans hg11)
          clear hg11
          go_wp2_with fail
          refine (QC.out _).mono ?_
          rintro e w12 ⟨rfl, hg12⟩
          replace x0 := hg12.cell x0
          replace x1 := hg12.cell x1
          replace x2 := hg12.cell x2
          replace x3 := hg12.cell x3
          replace x4 := hg12.cell x4
          replace x5 := hg12.cell x5
          replace x6 := hg12.cell x6
          have G12 := Lib.hid (G11.out.trans hg12)
          clear hg12
          go_wp2
          go_roundw
          case rel => exact ⟨k + 1, by omega, by go_num, G12⟩
          case measure => simp [intOf]; omega
        · have QD := Lib.hid (isFirst_any (first_shp HR.out m X3.out false (MS.out HQC.out)))
          go_wp2_with fail
          refine (QA.out _).mono ?_
          rintro e w10 ⟨rfl, hg10⟩
          replace x0 := hg10.cell x0
          replace x1 := hg10.cell x1
          replace x2 := hg10.cell x2
          replace x3 := hg10.cell x3
          replace x4 := hg10.cell x4
          replace x5 := hg10.cell x5
          replace x6 := hg10.cell x6
          have G10 := Lib.hid (G9.out.trans hg10)
          clear hg10
          go_wp2_with fail
          refine (QB.out _).mono ?_
          rintro e w11 ⟨rfl, hg11⟩
          replace x0 := hg11.cell x0
          replace x1 := hg11.cell x1
          replace x2 := hg11.cell x2
          replace x3 := hg11.cell x3
          replace x4 := hg11.cell x4
          replace x5 := hg11.cell x5
          replace x6 := hg11.cell x6
          have G11 := Lib.hid (G10.out.trans hg11)
          clear hg11
          go_wp2_with fail
          refine (QC.out _).mono ?_
          rintro e w12 ⟨rfl, hg12⟩
          replace x0 := hg12.cell x0
          replace x1 := hg12.cell x1
          replace x2 := hg12.cell x2
          replace x3 := hg12.cell x3
          replace x4 := hg12.cell x4
          replace x5 := hg12.cell x5
          replace x6 := hg12.cell x6
          have G12 := Lib.hid (G11.out.trans hg12)
          clear hg12
          go_wp2_with fail
          refine (QD.out _).mono ?_
          rintro e w13 ⟨rfl, hg13⟩
          replace x0 := hg13.cell x0
          replace x1 := hg13.cell x1
          replace x2 := hg13.cell x2
          replace x3 := hg13.cell x3
          replace x4 := hg13.cell x4
          replace x5 := hg13.cell x5
          replace x6 := hg13.cell x6
          have G13 := Lib.hid (G12.out.trans hg13)
          clear hg13
          go_wp2
          go_roundw
          case rel => exact ⟨k + 1, by omega, by go_num, G13⟩
          case measure => simp [intOf]; omega
    · go_wp2
      go_ret
      exact ⟨rfl, HZ.out.trans G8.out⟩
end Go.Proofs.Ytkfkedpldndgiaa
