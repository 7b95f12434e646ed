import Derived.Test.YtgbicckclepplaaL04b
import Derived.WalkKit
import Derived.ProofKit
import Derived.LoopTactic
import Derived.Outline
import Derived.WalkSpells
import Derived.WalkLawsBesides
import Derived.Lib.Hide
import Derived.Deep.LoopGhost
import Derived.Deep.QuietTactic
import Derived.BigQuiet
import Derived.ShutString
import Derived.IntWalk
import Derived.Lib.MinMax
import Derived.Deep.RegionWith
import Derived.Deep.RegionHeld3
namespace Go.Proofs.Ytgbicckclepplaa
open Go.ChangeShapes Go.WideShapes Go.ChangeAt Go.RowKit
open Rates
set_option linter.unusedVariables false
set_option maxHeartbeats 6000000 in
set_option maxRecDepth 100000 in
theorem driftRises_true (P Q T A B : Int) (w : World) (hz : (max 0 (min T 274877906944) == 0) = true) :
    Calls Try.prog 6 #[.agg #[.int .i64 P, .int .i64 Q, .int .i64 T, .int .i64 A, .int .i64 B]] w fun e w' => e = .returned (.bool true) ∧ Gr w w' := by
  go_enter Try.func6, Try.ntmps6
  go_wp2_with fail
  refine (awake4 _).mono ?_
  rintro e w1 ⟨rfl, hg1⟩
  have z0 : w1.cell? ⟨w.heap.size, 0, none⟩ = some (.int .i64 P) := hg1.own.1 0 _ rfl
  have z1 : w1.cell? ⟨w.heap.size, 1, none⟩ = some (.int .i64 Q) := hg1.own.1 1 _ rfl
  have z2 : w1.cell? ⟨w.heap.size, 2, none⟩ = some (.int .i64 T) := hg1.own.1 2 _ rfl
  have z3 : w1.cell? ⟨w.heap.size, 3, none⟩ = some (.int .i64 A) := hg1.own.1 3 _ rfl
  have zl := hg1.own.2.2
  have hgw : Gr w w1 := ((Gr.refl w).alloc _).trans hg1
  go_wp2_with fail
  refine (near_any P Q _).mono ?_
  rintro e w2 ⟨p, q, rfl, hgood, hg2⟩
  have y2 := hg2.cell z2
  have y3 := hg2.cell z3
  have yl : w.heap.size < w2.heap.size := Nat.lt_of_lt_of_le zl hg2.size
  have hgw2 := hgw.trans hg2
  clear z0 z1 z2 z3 zl hg1 hg2 hgw
  obtain ⟨t0, t1⟩ := rng_bd T 274877906944 (by decide)
  obtain ⟨d0, d1⟩ := rng_bd A 274877906944 (by decide)
  go_wp2_with fail
  generalize max 0 (min T 274877906944) = t at *
  generalize max 0 (min A 274877906944) = d at *
  obtain ⟨i0, i1, i2, i3, i4, i5, i6, i7, i8, i9⟩ := risesF hgood t0 t1 d0 d1
  obtain ⟨g1, g2, g3, g4⟩ := good_of hgood
  obtain ⟨m1, m2⟩ := mul_bd (x := 1099511627776) (y := 1000) t0 (show 0 ≤ p by omega) (by omega) g3
  have m3 : -1000 ≤ (longer p q t - 1) * q := by
    have h := Int.mul_le_mul_of_nonneg_right (show -1 ≤ longer p q t - 1 by omega) (show 0 ≤ q by omega); omega
  have k0 := (RateIs.new (Gr.refl (w2.alloc (.cells #[.int .i64 p, .int .i64 q] 24))) rfl).1
  have k1 := (RateIs.new (Gr.refl (w2.alloc (.cells #[.int .i64 p, .int .i64 q] 24))) rfl).2
  have x1 : IntKind.i64.wrap (t + d) = t + d := IntWalk.i64_in _ (by omega)
  have x2 : IntKind.i64.wrap (longer p q t - 1) = longer p q t - 1 := IntWalk.i64_in _ (by omega)
  have x3 : IntKind.i64.wrap ((longer p q t - 1) * q) = (longer p q t - 1) * q := IntWalk.i64_in _ (by omega)
  have x4 : IntKind.i64.wrap (t * p) = t * p := IntWalk.i64_in _ (by omega)
  have HG := Lib.hid (hgw2.alloc (.cells #[.int .i64 p, .int .i64 q] 24))
  generalize w2.heap.size = b at *
  generalize w2.alloc (.cells #[.int .i64 p, .int .i64 q] 24) = W at *
  clear y2 y3 yl hgw2 hgood m1 m2 m3 g1 g2 g3 g4
  have ht : t = 0 := by simpa using hz
  subst ht
  simp only [Int.zero_add] at i7 i8 x1
  clear hz
  simp only [List.append]
  refine wp_region_held_drew (S := (fun w' => Gr W w' ∧ w'.cell? ⟨b, 0, none⟩ = some (.int .i64 p) ∧ w'.cell? ⟨b, 1, none⟩ = some (.int .i64 q))) (by kernel_rfl) ?inv (fun h0 => ?_)
  case inv => ((try dsimp only); (first | exact ⟨Gr.refl _, k0, k1⟩ | exact ⟨(Gr.refl _).drew, k0, k1⟩ | (go_split_ands; refine ⟨Gr.trans ?_ hgc, hgc.cell ?_, hgc.cell ?_⟩ <;> assumption)))
  refine wpAnyH_take (i := 0) (oi := { dst := some 21, op := Op.load 24 (Operand.tmp 3), type := 24, pos := "law.go:83", after := #[], guard := none }) (v := ?v0) rfl (by kernel_rfl) (by kernel_rfl) (by kernel_rfl) (fun _ _ _ h => h) (Or.inl ⟨by rfl, ?r0⟩) (by assumption) ?_
  case r0 => (intro w hSw; (try dsimp only at hSw); (go_simp <;> with_reducible rfl))
  try simp only [Act.put, List.setIfInBounds_toArray, List.set_cons_zero, List.set_cons_succ]
  refine wpAnyH_take (i := 1) (oi := { dst := some 22, op := Op.move (Operand.tmp 4), type := 3, pos := "law.go:83", after := #[], guard := none }) (v := ?v1) rfl (by kernel_rfl) (by kernel_rfl) (by kernel_rfl) (fun _ _ _ h => h) (Or.inl ⟨by rfl, ?r1⟩) (by assumption) ?_
  case r1 => (intro w hSw; (try dsimp only at hSw); (go_simp <;> with_reducible rfl))
  try simp only [Act.put, List.setIfInBounds_toArray, List.set_cons_zero, List.set_cons_succ]
  refine wpAnyH_take (i := 3) (oi := { dst := some 24, op := Op.move (Operand.tmp 4), type := 3, pos := "law.go:83", after := #[], guard := none }) (v := ?v3) rfl (by kernel_rfl) (by kernel_rfl) (by kernel_rfl) (fun _ _ _ h => h) (Or.inl ⟨by rfl, ?r3⟩) (by assumption) ?_
  case r3 => (intro w hSw; (try dsimp only at hSw); (go_simp <;> with_reducible rfl))
  try simp only [Act.put, List.setIfInBounds_toArray, List.set_cons_zero, List.set_cons_succ]
  refine wpAnyH_ready (rs := [2]) (by kernel_rfl) (by simp) ?_
  refine AllReadyH.cons (o := { dst := some 23, op := Op.call { callee := Callee.value (Operand.func 11), args := #[Operand.tmp 21, Operand.tmp 22], argTypes := #[24, 3] }, type := 3, pos := "law.go:83", after := #[{ on := 0, ground := Ground.data }, { on := 1, ground := Ground.data }], guard := none }) rfl (fun K hK => ?_) AllReadyH.nil
  go_simp
  (first | (go_at_call 11; ((with_reducible refine (longer_any p q _ _).mono ?_); rintro e v ⟨rfl, hgc⟩)) | (go_at_call 13; ((with_reducible refine (shorter_any p q _ _).mono ?_); rintro e v ⟨rfl, hgc⟩)) | (go_at_call 16; ((with_reducible refine (fits_any p q _ _ _).mono ?_); rintro e v ⟨rfl, hgc⟩)))
  first | refine hK.out _ _ ?s1 (fun h1 => ?_) | (go_wp2_with fail; refine hK.out _ _ ?s1 (fun h1 => ?_))
  case s1 => ((try dsimp only); (first | exact ⟨Gr.refl _, k0, k1⟩ | exact ⟨(Gr.refl _).drew, k0, k1⟩ | (go_split_ands; refine ⟨Gr.trans ?_ hgc, hgc.cell ?_, hgc.cell ?_⟩ <;> assumption)))
  clear hK K h0
  try simp only [Act.put, List.setIfInBounds_toArray, List.set_cons_zero, List.set_cons_succ]
  refine wpAnyH_take (i := 4) (oi := { dst := some 25, op := Op.binOp BinOp.geq 3 (Operand.tmp 23) (Operand.tmp 24) 3, type := 4, pos := "law.go:83", after := #[{ on := 2, ground := Ground.data }, { on := 3, ground := Ground.data }], guard := none }) (v := ?v4) rfl (by kernel_rfl) (by kernel_rfl) (by kernel_rfl) (fun _ _ _ h => h) (Or.inl ⟨by rfl, ?r4⟩) (by assumption) ?_
  case r4 => (intro w hSw; (try dsimp only at hSw); (go_simp <;> with_reducible rfl))
  try simp only [Act.put, List.setIfInBounds_toArray, List.set_cons_zero, List.set_cons_succ]
  refine wpAnyH_take (i := 5) (oi := { dst := some 26, op := Op.move (Operand.tmp 25), type := 4, pos := "law.go:83", after := #[{ on := 4, ground := Ground.data }, { on := 2, ground := Ground.chain }], guard := none }) (v := ?v5) rfl (by kernel_rfl) (by kernel_rfl) (by kernel_rfl) (fun _ _ _ h => h) (Or.inl ⟨by rfl, ?r5⟩) (by assumption) ?_
  case r5 => (intro w hSw; (try dsimp only at hSw); (go_simp <;> with_reducible rfl))
  try simp only [Act.put, List.setIfInBounds_toArray, List.set_cons_zero, List.set_cons_succ]
  refine wpAnyH_take (i := 6) (oi := { dst := some 27, op := Op.load 24 (Operand.tmp 3), type := 24, pos := "law.go:83", after := #[{ on := 5, ground := Ground.guard }], guard := some (5, true) }) (v := ?v6) rfl (by kernel_rfl) (by kernel_rfl) (by kernel_rfl) (fun _ _ _ h => h) (Or.inl ⟨by rfl, ?r6⟩) (by assumption) ?_
  case r6 => (intro w hSw; (try dsimp only at hSw); (go_simp <;> with_reducible rfl))
  try simp only [Act.put, List.setIfInBounds_toArray, List.set_cons_zero, List.set_cons_succ]
  refine wpAnyH_take (i := 7) (oi := { dst := some 28, op := Op.move (Operand.tmp 4), type := 3, pos := "law.go:83", after := #[{ on := 5, ground := Ground.guard }], guard := some (5, true) }) (v := ?v7) rfl (by kernel_rfl) (by kernel_rfl) (by kernel_rfl) (fun _ _ _ h => h) (Or.inl ⟨by rfl, ?r7⟩) (by assumption) ?_
  case r7 => (intro w hSw; (try dsimp only at hSw); (go_simp <;> with_reducible rfl))
  try simp only [Act.put, List.setIfInBounds_toArray, List.set_cons_zero, List.set_cons_succ]
  refine wpAnyH_take (i := 9) (oi := { dst := some 30, op := Op.move (Operand.tmp 4), type := 3, pos := "law.go:83", after := #[{ on := 5, ground := Ground.guard }], guard := some (5, true) }) (v := ?v9) rfl (by kernel_rfl) (by kernel_rfl) (by kernel_rfl) (fun _ _ _ h => h) (Or.inl ⟨by rfl, ?r9⟩) (by assumption) ?_
  case r9 => (intro w hSw; (try dsimp only at hSw); (go_simp <;> with_reducible rfl))
  try simp only [Act.put, List.setIfInBounds_toArray, List.set_cons_zero, List.set_cons_succ]
  refine wpAnyH_ready (rs := [8]) (by kernel_rfl) (by simp) ?_
  refine AllReadyH.cons (o := { dst := some 29, op := Op.call { callee := Callee.value (Operand.func 13), args := #[Operand.tmp 27, Operand.tmp 28], argTypes := #[24, 3] }, type := 3, pos := "law.go:83", after := #[{ on := 6, ground := Ground.data }, { on := 7, ground := Ground.data }, { on := 5, ground := Ground.chain }, { on := 5, ground := Ground.guard }], guard := some (5, true) }) rfl (fun K hK => ?_) AllReadyH.nil
  go_simp
  (first | (go_at_call 11; ((with_reducible refine (longer_any p q _ _).mono ?_); rintro e v ⟨rfl, hgc⟩)) | (go_at_call 13; ((with_reducible refine (shorter_any p q _ _).mono ?_); rintro e v ⟨rfl, hgc⟩)) | (go_at_call 16; ((with_reducible refine (fits_any p q _ _ _).mono ?_); rintro e v ⟨rfl, hgc⟩)))
  first | refine hK.out _ _ ?s2 (fun h2 => ?_) | (go_wp2_with fail; refine hK.out _ _ ?s2 (fun h2 => ?_))
  case s2 => ((try dsimp only); (first | exact ⟨Gr.refl _, k0, k1⟩ | exact ⟨(Gr.refl _).drew, k0, k1⟩ | (go_split_ands; refine ⟨Gr.trans ?_ hgc, hgc.cell ?_, hgc.cell ?_⟩ <;> assumption)))
  clear hK K h1
  try simp only [Act.put, List.setIfInBounds_toArray, List.set_cons_zero, List.set_cons_succ]
  refine wpAnyH_take (i := 10) (oi := { dst := some 31, op := Op.binOp BinOp.leq 3 (Operand.tmp 29) (Operand.tmp 30) 3, type := 4, pos := "law.go:83", after := #[{ on := 8, ground := Ground.data }, { on := 9, ground := Ground.data }, { on := 5, ground := Ground.guard }], guard := some (5, true) }) (v := ?v10) rfl (by kernel_rfl) (by kernel_rfl) (by kernel_rfl) (fun _ _ _ h => h) (Or.inl ⟨by rfl, ?r10⟩) (by assumption) ?_
  case r10 => (intro w hSw; (try dsimp only at hSw); (go_simp <;> with_reducible rfl))
  try simp only [Act.put, List.setIfInBounds_toArray, List.set_cons_zero, List.set_cons_succ]
  refine wpAnyH_take (i := 11) (oi := { dst := some 32, op := Op.pick (Operand.tmp 26) (Operand.tmp 31) (Operand.const (Value.bool false)), type := 4, pos := "law.go:83", after := #[{ on := 5, ground := Ground.data }, { on := 10, ground := Ground.data }], guard := none }) (v := ?v11) rfl (by kernel_rfl) (by kernel_rfl) (by kernel_rfl) (fun _ _ _ h => h) (Or.inl ⟨by rfl, ?r11⟩) (by assumption) ?_
  case r11 => (intro w hSw; (try dsimp only at hSw); (go_simp <;> with_reducible rfl))
  try simp only [Act.put, List.setIfInBounds_toArray, List.set_cons_zero, List.set_cons_succ]
  refine wpAnyH_take (i := 12) (oi := { dst := some 33, op := Op.move (Operand.tmp 32), type := 4, pos := "law.go:83", after := #[{ on := 11, ground := Ground.data }, { on := 8, ground := Ground.chain }], guard := none }) (v := ?v12) rfl (by kernel_rfl) (by kernel_rfl) (by kernel_rfl) (fun _ _ _ h => h) (Or.inl ⟨by rfl, ?r12⟩) (by assumption) ?_
  case r12 => (intro w hSw; (try dsimp only at hSw); (go_simp <;> with_reducible rfl))
  try simp only [Act.put, List.setIfInBounds_toArray, List.set_cons_zero, List.set_cons_succ]
  refine wpAnyH_take (i := 13) (oi := { dst := some 34, op := Op.load 24 (Operand.tmp 3), type := 24, pos := "law.go:83", after := #[{ on := 12, ground := Ground.guard }], guard := some (12, true) }) (v := ?v13) rfl (by kernel_rfl) (by kernel_rfl) (by kernel_rfl) (fun _ _ _ h => h) (Or.inl ⟨by rfl, ?r13⟩) (by assumption) ?_
  case r13 => (intro w hSw; (try dsimp only at hSw); (go_simp <;> with_reducible rfl))
  try simp only [Act.put, List.setIfInBounds_toArray, List.set_cons_zero, List.set_cons_succ]
  refine wpAnyH_take (i := 14) (oi := { dst := some 35, op := Op.load 24 (Operand.tmp 3), type := 24, pos := "law.go:83", after := #[{ on := 12, ground := Ground.guard }], guard := some (12, true) }) (v := ?v14) rfl (by kernel_rfl) (by kernel_rfl) (by kernel_rfl) (fun _ _ _ h => h) (Or.inl ⟨by rfl, ?r14⟩) (by assumption) ?_
  case r14 => (intro w hSw; (try dsimp only at hSw); (go_simp <;> with_reducible rfl))
  try simp only [Act.put, List.setIfInBounds_toArray, List.set_cons_zero, List.set_cons_succ]
  refine wpAnyH_take (i := 15) (oi := { dst := some 36, op := Op.move (Operand.tmp 4), type := 3, pos := "law.go:83", after := #[{ on := 12, ground := Ground.guard }], guard := some (12, true) }) (v := ?v15) rfl (by kernel_rfl) (by kernel_rfl) (by kernel_rfl) (fun _ _ _ h => h) (Or.inl ⟨by rfl, ?r15⟩) (by assumption) ?_
  case r15 => (intro w hSw; (try dsimp only at hSw); (go_simp <;> with_reducible rfl))
  try simp only [Act.put, List.setIfInBounds_toArray, List.set_cons_zero, List.set_cons_succ]
  refine wpAnyH_take (i := 18) (oi := { dst := some 39, op := Op.move (Operand.tmp 4), type := 3, pos := "law.go:83", after := #[{ on := 12, ground := Ground.guard }], guard := some (12, true) }) (v := ?v18) rfl (by kernel_rfl) (by kernel_rfl) (by kernel_rfl) (fun _ _ _ h => h) (Or.inl ⟨by rfl, ?r18⟩) (by assumption) ?_
  case r18 => (intro w hSw; (try dsimp only at hSw); (go_simp <;> with_reducible rfl))
  try simp only [Act.put, List.setIfInBounds_toArray, List.set_cons_zero, List.set_cons_succ]
  refine wpAnyH_ready (rs := [16]) (by kernel_rfl) (by simp) ?_
  refine AllReadyH.cons (o := { dst := some 37, op := Op.call { callee := Callee.value (Operand.func 11), args := #[Operand.tmp 35, Operand.tmp 36], argTypes := #[24, 3] }, type := 3, pos := "law.go:83", after := #[{ on := 14, ground := Ground.data }, { on := 15, ground := Ground.data }, { on := 12, ground := Ground.chain }, { on := 12, ground := Ground.guard }], guard := some (12, true) }) rfl (fun K hK => ?_) AllReadyH.nil
  go_simp
  (first | (go_at_call 11; ((with_reducible refine (longer_any p q _ _).mono ?_); rintro e v ⟨rfl, hgc⟩)) | (go_at_call 13; ((with_reducible refine (shorter_any p q _ _).mono ?_); rintro e v ⟨rfl, hgc⟩)) | (go_at_call 16; ((with_reducible refine (fits_any p q _ _ _).mono ?_); rintro e v ⟨rfl, hgc⟩)))
  first | refine hK.out _ _ ?s3 (fun h3 => ?_) | (go_wp2_with fail; refine hK.out _ _ ?s3 (fun h3 => ?_))
  case s3 => ((try dsimp only); (first | exact ⟨Gr.refl _, k0, k1⟩ | exact ⟨(Gr.refl _).drew, k0, k1⟩ | (go_split_ands; refine ⟨Gr.trans ?_ hgc, hgc.cell ?_, hgc.cell ?_⟩ <;> assumption)))
  clear hK K h2
  try simp only [Act.put, List.setIfInBounds_toArray, List.set_cons_zero, List.set_cons_succ]
  refine wpAnyH_ready (rs := [17]) (by kernel_rfl) (by simp) ?_
  refine AllReadyH.cons (o := { dst := some 38, op := Op.call { callee := Callee.value (Operand.func 13), args := #[Operand.tmp 34, Operand.tmp 37], argTypes := #[24, 3] }, type := 3, pos := "law.go:83", after := #[{ on := 13, ground := Ground.data }, { on := 16, ground := Ground.data }, { on := 16, ground := Ground.chain }, { on := 12, ground := Ground.guard }], guard := some (12, true) }) rfl (fun K hK => ?_) AllReadyH.nil
  go_simp
  (first | (go_at_call 11; ((with_reducible refine (longer_any p q _ _).mono ?_); rintro e v ⟨rfl, hgc⟩)) | (go_at_call 13; ((with_reducible refine (shorter_any p q _ _).mono ?_); rintro e v ⟨rfl, hgc⟩)) | (go_at_call 16; ((with_reducible refine (fits_any p q _ _ _).mono ?_); rintro e v ⟨rfl, hgc⟩)))
  first | refine hK.out _ _ ?s4 (fun h4 => ?_) | (go_wp2_with fail; refine hK.out _ _ ?s4 (fun h4 => ?_))
  case s4 => ((try dsimp only); (first | exact ⟨Gr.refl _, k0, k1⟩ | exact ⟨(Gr.refl _).drew, k0, k1⟩ | (go_split_ands; refine ⟨Gr.trans ?_ hgc, hgc.cell ?_, hgc.cell ?_⟩ <;> assumption)))
  clear hK K h3
  try simp only [Act.put, List.setIfInBounds_toArray, List.set_cons_zero, List.set_cons_succ]
  refine wpAnyH_take (i := 19) (oi := { dst := some 40, op := Op.binOp BinOp.geq 3 (Operand.tmp 38) (Operand.tmp 39) 3, type := 4, pos := "law.go:83", after := #[{ on := 17, ground := Ground.data }, { on := 18, ground := Ground.data }, { on := 12, ground := Ground.guard }], guard := some (12, true) }) (v := ?v19) rfl (by kernel_rfl) (by kernel_rfl) (by kernel_rfl) (fun _ _ _ h => h) (Or.inl ⟨by rfl, ?r19⟩) (by assumption) ?_
  case r19 => (intro w hSw; (try dsimp only at hSw); (go_simp <;> with_reducible rfl))
  try simp only [Act.put, List.setIfInBounds_toArray, List.set_cons_zero, List.set_cons_succ]
  refine wpAnyH_take (i := 20) (oi := { dst := some 41, op := Op.pick (Operand.tmp 33) (Operand.tmp 40) (Operand.const (Value.bool false)), type := 4, pos := "law.go:83", after := #[{ on := 12, ground := Ground.data }, { on := 19, ground := Ground.data }], guard := none }) (v := ?v20) rfl (by kernel_rfl) (by kernel_rfl) (by kernel_rfl) (fun _ _ _ h => h) (Or.inl ⟨by rfl, ?r20⟩) (by assumption) ?_
  case r20 => (intro w hSw; (try dsimp only at hSw); (go_simp <;> with_reducible rfl))
  try simp only [Act.put, List.setIfInBounds_toArray, List.set_cons_zero, List.set_cons_succ]
  refine wpAnyH_take (i := 21) (oi := { dst := some 42, op := Op.move (Operand.tmp 41), type := 4, pos := "law.go:83", after := #[{ on := 20, ground := Ground.data }, { on := 17, ground := Ground.chain }], guard := none }) (v := ?v21) rfl (by kernel_rfl) (by kernel_rfl) (by kernel_rfl) (fun _ _ _ h => h) (Or.inl ⟨by rfl, ?r21⟩) (by assumption) ?_
  case r21 => (intro w hSw; (try dsimp only at hSw); (go_simp <;> with_reducible rfl))
  try simp only [Act.put, List.setIfInBounds_toArray, List.set_cons_zero, List.set_cons_succ]
  refine wpAnyH_take (i := 22) (oi := { dst := some 43, op := Op.load 24 (Operand.tmp 3), type := 24, pos := "law.go:83", after := #[{ on := 21, ground := Ground.guard }], guard := some (21, true) }) (v := ?v22) rfl (by kernel_rfl) (by kernel_rfl) (by kernel_rfl) (fun _ _ _ h => h) (Or.inl ⟨by rfl, ?r22⟩) (by assumption) ?_
  case r22 => (intro w hSw; (try dsimp only at hSw); (go_simp <;> with_reducible rfl))
  try simp only [Act.put, List.setIfInBounds_toArray, List.set_cons_zero, List.set_cons_succ]
  refine wpAnyH_take (i := 23) (oi := { dst := some 44, op := Op.load 24 (Operand.tmp 3), type := 24, pos := "law.go:83", after := #[{ on := 21, ground := Ground.guard }], guard := some (21, true) }) (v := ?v23) rfl (by kernel_rfl) (by kernel_rfl) (by kernel_rfl) (fun _ _ _ h => h) (Or.inl ⟨by rfl, ?r23⟩) (by assumption) ?_
  case r23 => (intro w hSw; (try dsimp only at hSw); (go_simp <;> with_reducible rfl))
  try simp only [Act.put, List.setIfInBounds_toArray, List.set_cons_zero, List.set_cons_succ]
  refine wpAnyH_take (i := 24) (oi := { dst := some 45, op := Op.move (Operand.tmp 4), type := 3, pos := "law.go:83", after := #[{ on := 21, ground := Ground.guard }], guard := some (21, true) }) (v := ?v24) rfl (by kernel_rfl) (by kernel_rfl) (by kernel_rfl) (fun _ _ _ h => h) (Or.inl ⟨by rfl, ?r24⟩) (by assumption) ?_
  case r24 => (intro w hSw; (try dsimp only at hSw); (go_simp <;> with_reducible rfl))
  try simp only [Act.put, List.setIfInBounds_toArray, List.set_cons_zero, List.set_cons_succ]
  refine wpAnyH_take (i := 27) (oi := { dst := some 48, op := Op.move (Operand.tmp 4), type := 3, pos := "law.go:83", after := #[{ on := 21, ground := Ground.guard }], guard := some (21, true) }) (v := ?v27) rfl (by kernel_rfl) (by kernel_rfl) (by kernel_rfl) (fun _ _ _ h => h) (Or.inl ⟨by rfl, ?r27⟩) (by assumption) ?_
  case r27 => (intro w hSw; (try dsimp only at hSw); (go_simp <;> with_reducible rfl))
  try simp only [Act.put, List.setIfInBounds_toArray, List.set_cons_zero, List.set_cons_succ]
  refine wpAnyH_ready (rs := [25]) (by kernel_rfl) (by simp) ?_
  refine AllReadyH.cons (o := { dst := some 46, op := Op.call { callee := Callee.value (Operand.func 13), args := #[Operand.tmp 44, Operand.tmp 45], argTypes := #[24, 3] }, type := 3, pos := "law.go:83", after := #[{ on := 23, ground := Ground.data }, { on := 24, ground := Ground.data }, { on := 21, ground := Ground.chain }, { on := 21, ground := Ground.guard }], guard := some (21, true) }) rfl (fun K hK => ?_) AllReadyH.nil
  go_simp
  (first | (go_at_call 11; ((with_reducible refine (longer_any p q _ _).mono ?_); rintro e v ⟨rfl, hgc⟩)) | (go_at_call 13; ((with_reducible refine (shorter_any p q _ _).mono ?_); rintro e v ⟨rfl, hgc⟩)) | (go_at_call 16; ((with_reducible refine (fits_any p q _ _ _).mono ?_); rintro e v ⟨rfl, hgc⟩)))
  first | refine hK.out _ _ ?s5 (fun h5 => ?_) | (go_wp2_with fail; refine hK.out _ _ ?s5 (fun h5 => ?_))
  case s5 => ((try dsimp only); (first | exact ⟨Gr.refl _, k0, k1⟩ | exact ⟨(Gr.refl _).drew, k0, k1⟩ | (go_split_ands; refine ⟨Gr.trans ?_ hgc, hgc.cell ?_, hgc.cell ?_⟩ <;> assumption)))
  clear hK K h4
  try simp only [Act.put, List.setIfInBounds_toArray, List.set_cons_zero, List.set_cons_succ]
  refine wpAnyH_ready (rs := [26]) (by kernel_rfl) (by simp) ?_
  refine AllReadyH.cons (o := { dst := some 47, op := Op.call { callee := Callee.value (Operand.func 11), args := #[Operand.tmp 43, Operand.tmp 46], argTypes := #[24, 3] }, type := 3, pos := "law.go:83", after := #[{ on := 22, ground := Ground.data }, { on := 25, ground := Ground.data }, { on := 25, ground := Ground.chain }, { on := 21, ground := Ground.guard }], guard := some (21, true) }) rfl (fun K hK => ?_) AllReadyH.nil
  go_simp
  (first | (go_at_call 11; ((with_reducible refine (longer_any p q _ _).mono ?_); rintro e v ⟨rfl, hgc⟩)) | (go_at_call 13; ((with_reducible refine (shorter_any p q _ _).mono ?_); rintro e v ⟨rfl, hgc⟩)) | (go_at_call 16; ((with_reducible refine (fits_any p q _ _ _).mono ?_); rintro e v ⟨rfl, hgc⟩)))
  first | refine hK.out _ _ ?s6 (fun h6 => ?_) | (go_wp2_with fail; refine hK.out _ _ ?s6 (fun h6 => ?_))
  case s6 => ((try dsimp only); (first | exact ⟨Gr.refl _, k0, k1⟩ | exact ⟨(Gr.refl _).drew, k0, k1⟩ | (go_split_ands; refine ⟨Gr.trans ?_ hgc, hgc.cell ?_, hgc.cell ?_⟩ <;> assumption)))
  clear hK K h5
  try simp only [Act.put, List.setIfInBounds_toArray, List.set_cons_zero, List.set_cons_succ]
  refine wpAnyH_take (i := 28) (oi := { dst := some 49, op := Op.binOp BinOp.leq 3 (Operand.tmp 47) (Operand.tmp 48) 3, type := 4, pos := "law.go:83", after := #[{ on := 26, ground := Ground.data }, { on := 27, ground := Ground.data }, { on := 21, ground := Ground.guard }], guard := some (21, true) }) (v := ?v28) rfl (by kernel_rfl) (by kernel_rfl) (by kernel_rfl) (fun _ _ _ h => h) (Or.inl ⟨by rfl, ?r28⟩) (by assumption) ?_
  case r28 => (intro w hSw; (try dsimp only at hSw); (go_simp <;> with_reducible rfl))
  try simp only [Act.put, List.setIfInBounds_toArray, List.set_cons_zero, List.set_cons_succ]
  refine wpAnyH_take (i := 29) (oi := { dst := some 50, op := Op.pick (Operand.tmp 42) (Operand.tmp 49) (Operand.const (Value.bool false)), type := 4, pos := "law.go:83", after := #[{ on := 21, ground := Ground.data }, { on := 28, ground := Ground.data }], guard := none }) (v := ?v29) rfl (by kernel_rfl) (by kernel_rfl) (by kernel_rfl) (fun _ _ _ h => h) (Or.inl ⟨by rfl, ?r29⟩) (by assumption) ?_
  case r29 => (intro w hSw; (try dsimp only at hSw); (go_simp <;> with_reducible rfl))
  try simp only [Act.put, List.setIfInBounds_toArray, List.set_cons_zero, List.set_cons_succ]
  refine wpAnyH_take (i := 30) (oi := { dst := some 51, op := Op.move (Operand.tmp 50), type := 4, pos := "law.go:83", after := #[{ on := 29, ground := Ground.data }, { on := 26, ground := Ground.chain }], guard := none }) (v := ?v30) rfl (by kernel_rfl) (by kernel_rfl) (by kernel_rfl) (fun _ _ _ h => h) (Or.inl ⟨by rfl, ?r30⟩) (by assumption) ?_
  case r30 => (intro w hSw; (try dsimp only at hSw); (go_simp <;> with_reducible rfl))
  try simp only [Act.put, List.setIfInBounds_toArray, List.set_cons_zero, List.set_cons_succ]
  refine wpAnyH_take (i := 31) (oi := { dst := some 52, op := Op.load 24 (Operand.tmp 3), type := 24, pos := "law.go:83", after := #[{ on := 30, ground := Ground.guard }], guard := some (30, true) }) (v := ?v31) rfl (by kernel_rfl) (by kernel_rfl) (by kernel_rfl) (fun _ _ _ h => h) (Or.inl ⟨by rfl, ?r31⟩) (by assumption) ?_
  case r31 => (intro w hSw; (try dsimp only at hSw); (go_simp <;> with_reducible rfl))
  try simp only [Act.put, List.setIfInBounds_toArray, List.set_cons_zero, List.set_cons_succ]
  refine wpAnyH_take (i := 32) (oi := { dst := some 53, op := Op.move (Operand.tmp 4), type := 3, pos := "law.go:83", after := #[{ on := 30, ground := Ground.guard }], guard := some (30, true) }) (v := ?v32) rfl (by kernel_rfl) (by kernel_rfl) (by kernel_rfl) (fun _ _ _ h => h) (Or.inl ⟨by rfl, ?r32⟩) (by assumption) ?_
  case r32 => (intro w hSw; (try dsimp only at hSw); (go_simp <;> with_reducible rfl))
  try simp only [Act.put, List.setIfInBounds_toArray, List.set_cons_zero, List.set_cons_succ]
  refine wpAnyH_take (i := 33) (oi := { dst := some 54, op := Op.move (Operand.tmp 5), type := 3, pos := "law.go:83", after := #[{ on := 30, ground := Ground.guard }], guard := some (30, true) }) (v := ?v33) rfl (by kernel_rfl) (by kernel_rfl) (by kernel_rfl) (fun _ _ _ h => h) (Or.inl ⟨by rfl, ?r33⟩) (by assumption) ?_
  case r33 => (intro w hSw; (try dsimp only at hSw); (go_simp <;> with_reducible rfl))
  try simp only [Act.put, List.setIfInBounds_toArray, List.set_cons_zero, List.set_cons_succ]
  refine wpAnyH_take (i := 34) (oi := { dst := some 55, op := Op.binOp BinOp.add 3 (Operand.tmp 53) (Operand.tmp 54) 3, type := 3, pos := "law.go:83", after := #[{ on := 32, ground := Ground.data }, { on := 33, ground := Ground.data }, { on := 30, ground := Ground.guard }], guard := some (30, true) }) (v := ?v34) rfl (by kernel_rfl) (by kernel_rfl) (by kernel_rfl) (fun _ _ _ h => h) (Or.inl ⟨by rfl, ?r34⟩) (by assumption) ?_
  case r34 => (intro w hSw; (try dsimp only at hSw); (go_simp <;> with_reducible rfl))
  try simp only [Act.put, List.setIfInBounds_toArray, List.set_cons_zero, List.set_cons_succ]
  refine wpAnyH_take (i := 36) (oi := { dst := some 57, op := Op.load 24 (Operand.tmp 3), type := 24, pos := "law.go:83", after := #[{ on := 30, ground := Ground.guard }], guard := some (30, true) }) (v := ?v36) rfl (by kernel_rfl) (by kernel_rfl) (by kernel_rfl) (fun _ _ _ h => h) (Or.inl ⟨by rfl, ?r36⟩) (by assumption) ?_
  case r36 => (intro w hSw; (try dsimp only at hSw); (go_simp <;> with_reducible rfl))
  try simp only [Act.put, List.setIfInBounds_toArray, List.set_cons_zero, List.set_cons_succ]
  refine wpAnyH_take (i := 37) (oi := { dst := some 58, op := Op.move (Operand.tmp 4), type := 3, pos := "law.go:83", after := #[{ on := 30, ground := Ground.guard }], guard := some (30, true) }) (v := ?v37) rfl (by kernel_rfl) (by kernel_rfl) (by kernel_rfl) (fun _ _ _ h => h) (Or.inl ⟨by rfl, ?r37⟩) (by assumption) ?_
  case r37 => (intro w hSw; (try dsimp only at hSw); (go_simp <;> with_reducible rfl))
  try simp only [Act.put, List.setIfInBounds_toArray, List.set_cons_zero, List.set_cons_succ]
  refine wpAnyH_ready (rs := [35]) (by kernel_rfl) (by simp) ?_
  refine AllReadyH.cons (o := { dst := some 56, op := Op.call { callee := Callee.value (Operand.func 11), args := #[Operand.tmp 52, Operand.tmp 55], argTypes := #[24, 3] }, type := 3, pos := "law.go:83", after := #[{ on := 31, ground := Ground.data }, { on := 34, ground := Ground.data }, { on := 30, ground := Ground.chain }, { on := 30, ground := Ground.guard }], guard := some (30, true) }) rfl (fun K hK => ?_) AllReadyH.nil
  go_simp
  (first | (go_at_call 11; ((with_reducible refine (longer_any p q _ _).mono ?_); rintro e v ⟨rfl, hgc⟩)) | (go_at_call 13; ((with_reducible refine (shorter_any p q _ _).mono ?_); rintro e v ⟨rfl, hgc⟩)) | (go_at_call 16; ((with_reducible refine (fits_any p q _ _ _).mono ?_); rintro e v ⟨rfl, hgc⟩)))
  first | refine hK.out _ _ ?s7 (fun h7 => ?_) | (go_wp2_with fail; refine hK.out _ _ ?s7 (fun h7 => ?_))
  case s7 => ((try dsimp only); (first | exact ⟨Gr.refl _, k0, k1⟩ | exact ⟨(Gr.refl _).drew, k0, k1⟩ | (go_split_ands; refine ⟨Gr.trans ?_ hgc, hgc.cell ?_, hgc.cell ?_⟩ <;> assumption)))
  clear hK K h6
  try simp only [Act.put, List.setIfInBounds_toArray, List.set_cons_zero, List.set_cons_succ]
  refine wpAnyH_ready (rs := [38]) (by kernel_rfl) (by simp) ?_
  refine AllReadyH.cons (o := { dst := some 59, op := Op.call { callee := Callee.value (Operand.func 11), args := #[Operand.tmp 57, Operand.tmp 58], argTypes := #[24, 3] }, type := 3, pos := "law.go:83", after := #[{ on := 36, ground := Ground.data }, { on := 37, ground := Ground.data }, { on := 35, ground := Ground.chain }, { on := 30, ground := Ground.guard }], guard := some (30, true) }) rfl (fun K hK => ?_) AllReadyH.nil
  go_simp
  (first | (go_at_call 11; ((with_reducible refine (longer_any p q _ _).mono ?_); rintro e v ⟨rfl, hgc⟩)) | (go_at_call 13; ((with_reducible refine (shorter_any p q _ _).mono ?_); rintro e v ⟨rfl, hgc⟩)) | (go_at_call 16; ((with_reducible refine (fits_any p q _ _ _).mono ?_); rintro e v ⟨rfl, hgc⟩)))
  first | refine hK.out _ _ ?s8 (fun h8 => ?_) | (go_wp2_with fail; refine hK.out _ _ ?s8 (fun h8 => ?_))
  case s8 => ((try dsimp only); (first | exact ⟨Gr.refl _, k0, k1⟩ | exact ⟨(Gr.refl _).drew, k0, k1⟩ | (go_split_ands; refine ⟨Gr.trans ?_ hgc, hgc.cell ?_, hgc.cell ?_⟩ <;> assumption)))
  clear hK K h7
  try simp only [Act.put, List.setIfInBounds_toArray, List.set_cons_zero, List.set_cons_succ]
  refine wpAnyH_take (i := 39) (oi := { dst := some 60, op := Op.binOp BinOp.geq 3 (Operand.tmp 56) (Operand.tmp 59) 3, type := 4, pos := "law.go:83", after := #[{ on := 35, ground := Ground.data }, { on := 38, ground := Ground.data }, { on := 30, ground := Ground.guard }], guard := some (30, true) }) (v := ?v39) rfl (by kernel_rfl) (by kernel_rfl) (by kernel_rfl) (fun _ _ _ h => h) (Or.inl ⟨by rfl, ?r39⟩) (by assumption) ?_
  case r39 => (intro w hSw; (try dsimp only at hSw); (go_simp <;> with_reducible rfl))
  try simp only [Act.put, List.setIfInBounds_toArray, List.set_cons_zero, List.set_cons_succ]
  refine wpAnyH_take (i := 40) (oi := { dst := some 61, op := Op.pick (Operand.tmp 51) (Operand.tmp 60) (Operand.const (Value.bool false)), type := 4, pos := "law.go:83", after := #[{ on := 30, ground := Ground.data }, { on := 39, ground := Ground.data }], guard := none }) (v := ?v40) rfl (by kernel_rfl) (by kernel_rfl) (by kernel_rfl) (fun _ _ _ h => h) (Or.inl ⟨by rfl, ?r40⟩) (by assumption) ?_
  case r40 => (intro w hSw; (try dsimp only at hSw); (go_simp <;> with_reducible rfl))
  try simp only [Act.put, List.setIfInBounds_toArray, List.set_cons_zero, List.set_cons_succ]
  refine wpAnyH_take (i := 41) (oi := { dst := some 62, op := Op.move (Operand.tmp 61), type := 4, pos := "law.go:83", after := #[{ on := 40, ground := Ground.data }, { on := 38, ground := Ground.chain }], guard := none }) (v := ?v41) rfl (by kernel_rfl) (by kernel_rfl) (by kernel_rfl) (fun _ _ _ h => h) (Or.inl ⟨by rfl, ?r41⟩) (by assumption) ?_
  case r41 => (intro w hSw; (try dsimp only at hSw); (go_simp <;> with_reducible rfl))
  try simp only [Act.put, List.setIfInBounds_toArray, List.set_cons_zero, List.set_cons_succ]
  refine wpAnyH_take (i := 42) (oi := { dst := some 63, op := Op.load 24 (Operand.tmp 3), type := 24, pos := "law.go:83", after := #[{ on := 41, ground := Ground.guard }], guard := some (41, true) }) (v := ?v42) rfl (by kernel_rfl) (by kernel_rfl) (by kernel_rfl) (fun _ _ _ h => h) (Or.inl ⟨by rfl, ?r42⟩) (by assumption) ?_
  case r42 => (intro w hSw; (try dsimp only at hSw); (go_simp <;> with_reducible rfl))
  try simp only [Act.put, List.setIfInBounds_toArray, List.set_cons_zero, List.set_cons_succ]
  refine wpAnyH_take (i := 43) (oi := { dst := some 64, op := Op.move (Operand.tmp 4), type := 3, pos := "law.go:83", after := #[{ on := 41, ground := Ground.guard }], guard := some (41, true) }) (v := ?v43) rfl (by kernel_rfl) (by kernel_rfl) (by kernel_rfl) (fun _ _ _ h => h) (Or.inl ⟨by rfl, ?r43⟩) (by assumption) ?_
  case r43 => (intro w hSw; (try dsimp only at hSw); (go_simp <;> with_reducible rfl))
  try simp only [Act.put, List.setIfInBounds_toArray, List.set_cons_zero, List.set_cons_succ]
  refine wpAnyH_take (i := 44) (oi := { dst := some 65, op := Op.move (Operand.tmp 5), type := 3, pos := "law.go:83", after := #[{ on := 41, ground := Ground.guard }], guard := some (41, true) }) (v := ?v44) rfl (by kernel_rfl) (by kernel_rfl) (by kernel_rfl) (fun _ _ _ h => h) (Or.inl ⟨by rfl, ?r44⟩) (by assumption) ?_
  case r44 => (intro w hSw; (try dsimp only at hSw); (go_simp <;> with_reducible rfl))
  try simp only [Act.put, List.setIfInBounds_toArray, List.set_cons_zero, List.set_cons_succ]
  refine wpAnyH_take (i := 45) (oi := { dst := some 66, op := Op.binOp BinOp.add 3 (Operand.tmp 64) (Operand.tmp 65) 3, type := 3, pos := "law.go:83", after := #[{ on := 43, ground := Ground.data }, { on := 44, ground := Ground.data }, { on := 41, ground := Ground.guard }], guard := some (41, true) }) (v := ?v45) rfl (by kernel_rfl) (by kernel_rfl) (by kernel_rfl) (fun _ _ _ h => h) (Or.inl ⟨by rfl, ?r45⟩) (by assumption) ?_
  case r45 => (intro w hSw; (try dsimp only at hSw); (go_simp <;> with_reducible rfl))
  try simp only [Act.put, List.setIfInBounds_toArray, List.set_cons_zero, List.set_cons_succ]
  refine wpAnyH_take (i := 47) (oi := { dst := some 68, op := Op.load 24 (Operand.tmp 3), type := 24, pos := "law.go:83", after := #[{ on := 41, ground := Ground.guard }], guard := some (41, true) }) (v := ?v47) rfl (by kernel_rfl) (by kernel_rfl) (by kernel_rfl) (fun _ _ _ h => h) (Or.inl ⟨by rfl, ?r47⟩) (by assumption) ?_
  case r47 => (intro w hSw; (try dsimp only at hSw); (go_simp <;> with_reducible rfl))
  try simp only [Act.put, List.setIfInBounds_toArray, List.set_cons_zero, List.set_cons_succ]
  refine wpAnyH_take (i := 48) (oi := { dst := some 69, op := Op.move (Operand.tmp 4), type := 3, pos := "law.go:83", after := #[{ on := 41, ground := Ground.guard }], guard := some (41, true) }) (v := ?v48) rfl (by kernel_rfl) (by kernel_rfl) (by kernel_rfl) (fun _ _ _ h => h) (Or.inl ⟨by rfl, ?r48⟩) (by assumption) ?_
  case r48 => (intro w hSw; (try dsimp only at hSw); (go_simp <;> with_reducible rfl))
  try simp only [Act.put, List.setIfInBounds_toArray, List.set_cons_zero, List.set_cons_succ]
  refine wpAnyH_ready (rs := [46]) (by kernel_rfl) (by simp) ?_
  refine AllReadyH.cons (o := { dst := some 67, op := Op.call { callee := Callee.value (Operand.func 13), args := #[Operand.tmp 63, Operand.tmp 66], argTypes := #[24, 3] }, type := 3, pos := "law.go:83", after := #[{ on := 42, ground := Ground.data }, { on := 45, ground := Ground.data }, { on := 41, ground := Ground.chain }, { on := 41, ground := Ground.guard }], guard := some (41, true) }) rfl (fun K hK => ?_) AllReadyH.nil
  go_simp
  (first | (go_at_call 11; ((with_reducible refine (longer_any p q _ _).mono ?_); rintro e v ⟨rfl, hgc⟩)) | (go_at_call 13; ((with_reducible refine (shorter_any p q _ _).mono ?_); rintro e v ⟨rfl, hgc⟩)) | (go_at_call 16; ((with_reducible refine (fits_any p q _ _ _).mono ?_); rintro e v ⟨rfl, hgc⟩)))
  first | refine hK.out _ _ ?s9 (fun h9 => ?_) | (go_wp2_with fail; refine hK.out _ _ ?s9 (fun h9 => ?_))
  case s9 => ((try dsimp only); (first | exact ⟨Gr.refl _, k0, k1⟩ | exact ⟨(Gr.refl _).drew, k0, k1⟩ | (go_split_ands; refine ⟨Gr.trans ?_ hgc, hgc.cell ?_, hgc.cell ?_⟩ <;> assumption)))
  clear hK K h8
  try simp only [Act.put, List.setIfInBounds_toArray, List.set_cons_zero, List.set_cons_succ]
  refine wpAnyH_ready (rs := [49]) (by kernel_rfl) (by simp) ?_
  refine AllReadyH.cons (o := { dst := some 70, op := Op.call { callee := Callee.value (Operand.func 13), args := #[Operand.tmp 68, Operand.tmp 69], argTypes := #[24, 3] }, type := 3, pos := "law.go:83", after := #[{ on := 47, ground := Ground.data }, { on := 48, ground := Ground.data }, { on := 46, ground := Ground.chain }, { on := 41, ground := Ground.guard }], guard := some (41, true) }) rfl (fun K hK => ?_) AllReadyH.nil
  go_simp
  (first | (go_at_call 11; ((with_reducible refine (longer_any p q _ _).mono ?_); rintro e v ⟨rfl, hgc⟩)) | (go_at_call 13; ((with_reducible refine (shorter_any p q _ _).mono ?_); rintro e v ⟨rfl, hgc⟩)) | (go_at_call 16; ((with_reducible refine (fits_any p q _ _ _).mono ?_); rintro e v ⟨rfl, hgc⟩)))
  first | refine hK.out _ _ ?s10 (fun h10 => ?_) | (go_wp2_with fail; refine hK.out _ _ ?s10 (fun h10 => ?_))
  case s10 => ((try dsimp only); (first | exact ⟨Gr.refl _, k0, k1⟩ | exact ⟨(Gr.refl _).drew, k0, k1⟩ | (go_split_ands; refine ⟨Gr.trans ?_ hgc, hgc.cell ?_, hgc.cell ?_⟩ <;> assumption)))
  clear hK K h9
  try simp only [Act.put, List.setIfInBounds_toArray, List.set_cons_zero, List.set_cons_succ]
  refine wpAnyH_take (i := 50) (oi := { dst := some 71, op := Op.binOp BinOp.geq 3 (Operand.tmp 67) (Operand.tmp 70) 3, type := 4, pos := "law.go:83", after := #[{ on := 46, ground := Ground.data }, { on := 49, ground := Ground.data }, { on := 41, ground := Ground.guard }], guard := some (41, true) }) (v := ?v50) rfl (by kernel_rfl) (by kernel_rfl) (by kernel_rfl) (fun _ _ _ h => h) (Or.inl ⟨by rfl, ?r50⟩) (by assumption) ?_
  case r50 => (intro w hSw; (try dsimp only at hSw); (go_simp <;> with_reducible rfl))
  try simp only [Act.put, List.setIfInBounds_toArray, List.set_cons_zero, List.set_cons_succ]
  refine wpAnyH_take (i := 51) (oi := { dst := some 72, op := Op.pick (Operand.tmp 62) (Operand.tmp 71) (Operand.const (Value.bool false)), type := 4, pos := "law.go:83", after := #[{ on := 41, ground := Ground.data }, { on := 50, ground := Ground.data }], guard := none }) (v := ?v51) rfl (by kernel_rfl) (by kernel_rfl) (by kernel_rfl) (fun _ _ _ h => h) (Or.inl ⟨by rfl, ?r51⟩) (by assumption) ?_
  case r51 => (intro w hSw; (try dsimp only at hSw); (go_simp <;> with_reducible rfl))
  try simp only [Act.put, List.setIfInBounds_toArray, List.set_cons_zero, List.set_cons_succ]
  refine wpAnyH_take (i := 52) (oi := { dst := some 73, op := Op.move (Operand.tmp 72), type := 4, pos := "law.go:83", after := #[{ on := 51, ground := Ground.data }, { on := 49, ground := Ground.chain }], guard := none }) (v := ?v52) rfl (by kernel_rfl) (by kernel_rfl) (by kernel_rfl) (fun _ _ _ h => h) (Or.inl ⟨by rfl, ?r52⟩) (by assumption) ?_
  case r52 => (intro w hSw; (try dsimp only at hSw); (go_simp <;> with_reducible rfl))
  try simp only [Act.put, List.setIfInBounds_toArray, List.set_cons_zero, List.set_cons_succ]
  refine wpAnyH_take (i := 53) (oi := { dst := some 74, op := Op.load 24 (Operand.tmp 3), type := 24, pos := "law.go:83", after := #[{ on := 52, ground := Ground.guard }], guard := some (52, true) }) (v := ?v53) rfl (by kernel_rfl) (by kernel_rfl) (by kernel_rfl) (fun _ _ _ h => h) (Or.inl ⟨by rfl, ?r53⟩) (by assumption) ?_
  case r53 => (intro w hSw; (try dsimp only at hSw); (go_simp <;> with_reducible rfl))
  try simp only [Act.put, List.setIfInBounds_toArray, List.set_cons_zero, List.set_cons_succ]
  refine wpAnyH_take (i := 54) (oi := { dst := some 75, op := Op.move (Operand.tmp 4), type := 3, pos := "law.go:83", after := #[{ on := 52, ground := Ground.guard }], guard := some (52, true) }) (v := ?v54) rfl (by kernel_rfl) (by kernel_rfl) (by kernel_rfl) (fun _ _ _ h => h) (Or.inl ⟨by rfl, ?r54⟩) (by assumption) ?_
  case r54 => (intro w hSw; (try dsimp only at hSw); (go_simp <;> with_reducible rfl))
  try simp only [Act.put, List.setIfInBounds_toArray, List.set_cons_zero, List.set_cons_succ]
  refine wpAnyH_take (i := 55) (oi := { dst := some 76, op := Op.move (Operand.tmp 4), type := 3, pos := "law.go:83", after := #[{ on := 52, ground := Ground.guard }], guard := some (52, true) }) (v := ?v55) rfl (by kernel_rfl) (by kernel_rfl) (by kernel_rfl) (fun _ _ _ h => h) (Or.inl ⟨by rfl, ?r55⟩) (by assumption) ?_
  case r55 => (intro w hSw; (try dsimp only at hSw); (go_simp <;> with_reducible rfl))
  try simp only [Act.put, List.setIfInBounds_toArray, List.set_cons_zero, List.set_cons_succ]
  refine wpAnyH_ready (rs := [56]) (by kernel_rfl) (by simp) ?_
  refine AllReadyH.cons (o := { dst := some 77, op := Op.call { callee := Callee.value (Operand.func 16), args := #[Operand.tmp 74, Operand.tmp 75, Operand.tmp 76], argTypes := #[24, 3, 3] }, type := 4, pos := "law.go:83", after := #[{ on := 53, ground := Ground.data }, { on := 54, ground := Ground.data }, { on := 55, ground := Ground.data }, { on := 52, ground := Ground.chain }, { on := 52, ground := Ground.guard }], guard := some (52, true) }) rfl (fun K hK => ?_) AllReadyH.nil
  go_simp
  (first | (go_at_call 11; ((with_reducible refine (longer_any p q _ _).mono ?_); rintro e v ⟨rfl, hgc⟩)) | (go_at_call 13; ((with_reducible refine (shorter_any p q _ _).mono ?_); rintro e v ⟨rfl, hgc⟩)) | (go_at_call 16; ((with_reducible refine (fits_any p q _ _ _).mono ?_); rintro e v ⟨rfl, hgc⟩)))
  first | refine hK.out _ _ ?s11 (fun h11 => ?_) | (go_wp2_with fail; refine hK.out _ _ ?s11 (fun h11 => ?_))
  case s11 => ((try dsimp only); (first | exact ⟨Gr.refl _, k0, k1⟩ | exact ⟨(Gr.refl _).drew, k0, k1⟩ | (go_split_ands; refine ⟨Gr.trans ?_ hgc, hgc.cell ?_, hgc.cell ?_⟩ <;> assumption)))
  clear hK K h10
  try simp only [Act.put, List.setIfInBounds_toArray, List.set_cons_zero, List.set_cons_succ]
  refine wpAnyH_take (i := 57) (oi := { dst := some 78, op := Op.pick (Operand.tmp 73) (Operand.tmp 77) (Operand.const (Value.bool false)), type := 4, pos := "law.go:83", after := #[{ on := 52, ground := Ground.data }, { on := 56, ground := Ground.data }], guard := none }) (v := ?v57) rfl (by kernel_rfl) (by kernel_rfl) (by kernel_rfl) (fun _ _ _ h => h) (Or.inl ⟨by rfl, ?r57⟩) (by assumption) ?_
  case r57 => (intro w hSw; (try dsimp only at hSw); (go_simp <;> with_reducible rfl))
  try simp only [Act.put, List.setIfInBounds_toArray, List.set_cons_zero, List.set_cons_succ]
  refine wpAnyH_take (i := 58) (oi := { dst := some 79, op := Op.move (Operand.tmp 78), type := 4, pos := "law.go:83", after := #[{ on := 57, ground := Ground.data }, { on := 56, ground := Ground.chain }], guard := none }) (v := ?v58) rfl (by kernel_rfl) (by kernel_rfl) (by kernel_rfl) (fun _ _ _ h => h) (Or.inl ⟨by rfl, ?r58⟩) (by assumption) ?_
  case r58 => (intro w hSw; (try dsimp only at hSw); (go_simp <;> with_reducible rfl))
  try simp only [Act.put, List.setIfInBounds_toArray, List.set_cons_zero, List.set_cons_succ]
  refine wpAnyH_take (i := 59) (oi := { dst := some 80, op := Op.move (Operand.tmp 4), type := 3, pos := "law.go:83", after := #[{ on := 58, ground := Ground.guard }], guard := some (58, true) }) (v := ?v59) rfl (by kernel_rfl) (by kernel_rfl) (by kernel_rfl) (fun _ _ _ h => h) (Or.inl ⟨by rfl, ?r59⟩) (by assumption) ?_
  case r59 => (intro w hSw; (try dsimp only at hSw); (go_simp <;> with_reducible rfl))
  try simp only [Act.put, List.setIfInBounds_toArray, List.set_cons_zero, List.set_cons_succ]
  refine wpAnyH_take (i := 60) (oi := { dst := some 81, op := Op.binOp BinOp.eql 3 (Operand.tmp 80) (Operand.const (Value.int IntKind.i64 0)) 3, type := 4, pos := "law.go:83", after := #[{ on := 59, ground := Ground.data }, { on := 58, ground := Ground.guard }], guard := some (58, true) }) (v := ?v60) rfl (by kernel_rfl) (by kernel_rfl) (by kernel_rfl) (fun _ _ _ h => h) (Or.inl ⟨by rfl, ?r60⟩) (by assumption) ?_
  case r60 => (intro w hSw; (try dsimp only at hSw); (go_simp <;> with_reducible rfl))
  try simp only [Act.put, List.setIfInBounds_toArray, List.set_cons_zero, List.set_cons_succ]
  refine wpAnyH_take (i := 61) (oi := { dst := some 82, op := Op.move (Operand.tmp 81), type := 4, pos := "law.go:83", after := #[{ on := 60, ground := Ground.data }, { on := 58, ground := Ground.chain }, { on := 58, ground := Ground.guard }], guard := some (58, true) }) (v := ?v61) rfl (by kernel_rfl) (by kernel_rfl) (by kernel_rfl) (fun _ _ _ h => h) (Or.inl ⟨by rfl, ?r61⟩) (by assumption) ?_
  case r61 => (intro w hSw; (try dsimp only at hSw); (go_simp <;> with_reducible rfl))
  try simp only [Act.put, List.setIfInBounds_toArray, List.set_cons_zero, List.set_cons_succ]
  refine wpAnyH_take (i := 62) (oi := { dst := some 83, op := Op.load 24 (Operand.tmp 3), type := 24, pos := "law.go:83", after := #[{ on := 61, ground := Ground.guard }], guard := some (61, false) }) (v := undef) rfl (by kernel_rfl) (by kernel_rfl) (by kernel_rfl) (fun _ _ _ h => h) (Or.inr ⟨by rfl, rfl⟩) (by assumption) ?_
  try simp only [Act.put, List.setIfInBounds_toArray, List.set_cons_zero, List.set_cons_succ]
  refine wpAnyH_take (i := 63) (oi := { dst := some 84, op := Op.move (Operand.tmp 4), type := 3, pos := "law.go:83", after := #[{ on := 61, ground := Ground.guard }], guard := some (61, false) }) (v := undef) rfl (by kernel_rfl) (by kernel_rfl) (by kernel_rfl) (fun _ _ _ h => h) (Or.inr ⟨by rfl, rfl⟩) (by assumption) ?_
  try simp only [Act.put, List.setIfInBounds_toArray, List.set_cons_zero, List.set_cons_succ]
  refine wpAnyH_take (i := 64) (oi := { dst := some 85, op := Op.call { callee := Callee.value (Operand.func 11), args := #[Operand.tmp 83, Operand.tmp 84], argTypes := #[24, 3] }, type := 3, pos := "law.go:83", after := #[{ on := 62, ground := Ground.data }, { on := 63, ground := Ground.data }, { on := 61, ground := Ground.chain }, { on := 61, ground := Ground.guard }], guard := some (61, false) }) (v := undef) rfl (by kernel_rfl) (by kernel_rfl) (by kernel_rfl) (fun _ _ _ h => h) (Or.inr ⟨by rfl, rfl⟩) (by assumption) ?_
  try simp only [Act.put, List.setIfInBounds_toArray, List.set_cons_zero, List.set_cons_succ]
  refine wpAnyH_take (i := 65) (oi := { dst := some 86, op := Op.binOp BinOp.sub 3 (Operand.tmp 85) (Operand.const (Value.int IntKind.i64 1)) 3, type := 3, pos := "law.go:83", after := #[{ on := 64, ground := Ground.data }, { on := 61, ground := Ground.guard }], guard := some (61, false) }) (v := undef) rfl (by kernel_rfl) (by kernel_rfl) (by kernel_rfl) (fun _ _ _ h => h) (Or.inr ⟨by rfl, rfl⟩) (by assumption) ?_
  try simp only [Act.put, List.setIfInBounds_toArray, List.set_cons_zero, List.set_cons_succ]
  refine wpAnyH_take (i := 66) (oi := { dst := some 87, op := Op.fieldAddr 24 (Operand.tmp 3) 1, type := 0, pos := "law.go:83", after := #[{ on := 61, ground := Ground.guard }], guard := some (61, false) }) (v := undef) rfl (by kernel_rfl) (by kernel_rfl) (by kernel_rfl) (fun _ _ _ h => h) (Or.inr ⟨by rfl, rfl⟩) (by assumption) ?_
  try simp only [Act.put, List.setIfInBounds_toArray, List.set_cons_zero, List.set_cons_succ]
  refine wpAnyH_take (i := 67) (oi := { dst := some 88, op := Op.load 3 (Operand.tmp 87), type := 3, pos := "law.go:83", after := #[{ on := 66, ground := Ground.data }, { on := 61, ground := Ground.guard }], guard := some (61, false) }) (v := undef) rfl (by kernel_rfl) (by kernel_rfl) (by kernel_rfl) (fun _ _ _ h => h) (Or.inr ⟨by rfl, rfl⟩) (by assumption) ?_
  try simp only [Act.put, List.setIfInBounds_toArray, List.set_cons_zero, List.set_cons_succ]
  refine wpAnyH_take (i := 68) (oi := { dst := some 89, op := Op.binOp BinOp.mul 3 (Operand.tmp 86) (Operand.tmp 88) 3, type := 3, pos := "law.go:83", after := #[{ on := 65, ground := Ground.data }, { on := 67, ground := Ground.data }, { on := 61, ground := Ground.guard }], guard := some (61, false) }) (v := undef) rfl (by kernel_rfl) (by kernel_rfl) (by kernel_rfl) (fun _ _ _ h => h) (Or.inr ⟨by rfl, rfl⟩) (by assumption) ?_
  try simp only [Act.put, List.setIfInBounds_toArray, List.set_cons_zero, List.set_cons_succ]
  refine wpAnyH_take (i := 69) (oi := { dst := some 90, op := Op.move (Operand.tmp 4), type := 3, pos := "law.go:83", after := #[{ on := 61, ground := Ground.guard }], guard := some (61, false) }) (v := undef) rfl (by kernel_rfl) (by kernel_rfl) (by kernel_rfl) (fun _ _ _ h => h) (Or.inr ⟨by rfl, rfl⟩) (by assumption) ?_
  try simp only [Act.put, List.setIfInBounds_toArray, List.set_cons_zero, List.set_cons_succ]
  refine wpAnyH_take (i := 70) (oi := { dst := some 91, op := Op.fieldAddr 24 (Operand.tmp 3) 0, type := 0, pos := "law.go:83", after := #[{ on := 61, ground := Ground.guard }], guard := some (61, false) }) (v := undef) rfl (by kernel_rfl) (by kernel_rfl) (by kernel_rfl) (fun _ _ _ h => h) (Or.inr ⟨by rfl, rfl⟩) (by assumption) ?_
  try simp only [Act.put, List.setIfInBounds_toArray, List.set_cons_zero, List.set_cons_succ]
  refine wpAnyH_take (i := 71) (oi := { dst := some 92, op := Op.load 3 (Operand.tmp 91), type := 3, pos := "law.go:83", after := #[{ on := 70, ground := Ground.data }, { on := 61, ground := Ground.guard }], guard := some (61, false) }) (v := undef) rfl (by kernel_rfl) (by kernel_rfl) (by kernel_rfl) (fun _ _ _ h => h) (Or.inr ⟨by rfl, rfl⟩) (by assumption) ?_
  try simp only [Act.put, List.setIfInBounds_toArray, List.set_cons_zero, List.set_cons_succ]
  refine wpAnyH_take (i := 72) (oi := { dst := some 93, op := Op.binOp BinOp.mul 3 (Operand.tmp 90) (Operand.tmp 92) 3, type := 3, pos := "law.go:83", after := #[{ on := 69, ground := Ground.data }, { on := 71, ground := Ground.data }, { on := 61, ground := Ground.guard }], guard := some (61, false) }) (v := undef) rfl (by kernel_rfl) (by kernel_rfl) (by kernel_rfl) (fun _ _ _ h => h) (Or.inr ⟨by rfl, rfl⟩) (by assumption) ?_
  try simp only [Act.put, List.setIfInBounds_toArray, List.set_cons_zero, List.set_cons_succ]
  refine wpAnyH_take (i := 73) (oi := { dst := some 94, op := Op.binOp BinOp.lss 3 (Operand.tmp 89) (Operand.tmp 93) 3, type := 4, pos := "law.go:83", after := #[{ on := 68, ground := Ground.data }, { on := 72, ground := Ground.data }, { on := 61, ground := Ground.guard }], guard := some (61, false) }) (v := undef) rfl (by kernel_rfl) (by kernel_rfl) (by kernel_rfl) (fun _ _ _ h => h) (Or.inr ⟨by rfl, rfl⟩) (by assumption) ?_
  try simp only [Act.put, List.setIfInBounds_toArray, List.set_cons_zero, List.set_cons_succ]
  refine wpAnyH_take (i := 74) (oi := { dst := some 95, op := Op.pick (Operand.tmp 82) (Operand.const (Value.bool true)) (Operand.tmp 94), type := 4, pos := "law.go:83", after := #[{ on := 61, ground := Ground.data }, { on := 73, ground := Ground.data }, { on := 58, ground := Ground.guard }], guard := some (58, true) }) (v := ?v74) rfl (by kernel_rfl) (by kernel_rfl) (by kernel_rfl) (fun _ _ _ h => h) (Or.inl ⟨by rfl, ?r74⟩) (by assumption) ?_
  case r74 => (intro w hSw; (try dsimp only at hSw); (go_simp <;> with_reducible rfl))
  try simp only [Act.put, List.setIfInBounds_toArray, List.set_cons_zero, List.set_cons_succ]
  refine wpAnyH_take (i := 75) (oi := { dst := some 96, op := Op.pick (Operand.tmp 79) (Operand.tmp 95) (Operand.const (Value.bool false)), type := 4, pos := "law.go:83", after := #[{ on := 58, ground := Ground.data }, { on := 74, ground := Ground.data }], guard := none }) (v := ?v75) rfl (by kernel_rfl) (by kernel_rfl) (by kernel_rfl) (fun _ _ _ h => h) (Or.inl ⟨by rfl, ?r75⟩) (by assumption) ?_
  case r75 => (intro w hSw; (try dsimp only at hSw); (go_simp <;> with_reducible rfl))
  try simp only [Act.put, List.setIfInBounds_toArray, List.set_cons_zero, List.set_cons_succ]
  refine wpAnyH_take (i := 76) (oi := { dst := some 2, op := Op.assign (Operand.tmp 96), type := 4, pos := "law.go:83", after := #[{ on := 75, ground := Ground.data }, { on := 64, ground := Ground.chain }, { on := 0, ground := Ground.phase }, { on := 1, ground := Ground.phase }, { on := 2, ground := Ground.phase }, { on := 3, ground := Ground.phase }, { on := 4, ground := Ground.phase }, { on := 5, ground := Ground.phase }, { on := 6, ground := Ground.phase }, { on := 7, ground := Ground.phase }, { on := 8, ground := Ground.phase }, { on := 9, ground := Ground.phase }, { on := 10, ground := Ground.phase }, { on := 11, ground := Ground.phase }, { on := 12, ground := Ground.phase }, { on := 13, ground := Ground.phase }, { on := 14, ground := Ground.phase }, { on := 15, ground := Ground.phase }, { on := 16, ground := Ground.phase }, { on := 17, ground := Ground.phase }, { on := 18, ground := Ground.phase }, { on := 19, ground := Ground.phase }, { on := 20, ground := Ground.phase }, { on := 21, ground := Ground.phase }, { on := 22, ground := Ground.phase }, { on := 23, ground := Ground.phase }, { on := 24, ground := Ground.phase }, { on := 25, ground := Ground.phase }, { on := 26, ground := Ground.phase }, { on := 27, ground := Ground.phase }, { on := 28, ground := Ground.phase }, { on := 29, ground := Ground.phase }, { on := 30, ground := Ground.phase }, { on := 31, ground := Ground.phase }, { on := 32, ground := Ground.phase }, { on := 33, ground := Ground.phase }, { on := 34, ground := Ground.phase }, { on := 35, ground := Ground.phase }, { on := 36, ground := Ground.phase }, { on := 37, ground := Ground.phase }, { on := 38, ground := Ground.phase }, { on := 39, ground := Ground.phase }, { on := 40, ground := Ground.phase }, { on := 41, ground := Ground.phase }, { on := 42, ground := Ground.phase }, { on := 43, ground := Ground.phase }, { on := 44, ground := Ground.phase }, { on := 45, ground := Ground.phase }, { on := 46, ground := Ground.phase }, { on := 47, ground := Ground.phase }, { on := 48, ground := Ground.phase }, { on := 49, ground := Ground.phase }, { on := 50, ground := Ground.phase }, { on := 51, ground := Ground.phase }, { on := 52, ground := Ground.phase }, { on := 53, ground := Ground.phase }, { on := 54, ground := Ground.phase }, { on := 55, ground := Ground.phase }, { on := 56, ground := Ground.phase }, { on := 57, ground := Ground.phase }, { on := 58, ground := Ground.phase }, { on := 59, ground := Ground.phase }, { on := 60, ground := Ground.phase }, { on := 61, ground := Ground.phase }, { on := 62, ground := Ground.phase }, { on := 63, ground := Ground.phase }, { on := 64, ground := Ground.phase }, { on := 65, ground := Ground.phase }, { on := 66, ground := Ground.phase }, { on := 67, ground := Ground.phase }, { on := 68, ground := Ground.phase }, { on := 69, ground := Ground.phase }, { on := 70, ground := Ground.phase }, { on := 71, ground := Ground.phase }, { on := 72, ground := Ground.phase }, { on := 73, ground := Ground.phase }, { on := 74, ground := Ground.phase }, { on := 75, ground := Ground.phase }], guard := none }) (v := ?v76) rfl (by kernel_rfl) (by kernel_rfl) (by kernel_rfl) (fun _ _ _ h => h) (Or.inl ⟨by rfl, ?r76⟩) (by assumption) ?_
  case r76 => (intro w hSw; (try dsimp only at hSw); (go_simp <;> with_reducible rfl))
  try simp only [Act.put, List.setIfInBounds_toArray, List.set_cons_zero, List.set_cons_succ]
  refine wpAnyH_done (by kernel_rfl) ?_ _
  go_split_ands
  have hgn : Gr W v := by assumption
  go_wp2
  go_ret
  exact ⟨by first | rfl | (simp; done) | (simp; omega), HG.out.trans hgn⟩
end Go.Proofs.Ytgbicckclepplaa
