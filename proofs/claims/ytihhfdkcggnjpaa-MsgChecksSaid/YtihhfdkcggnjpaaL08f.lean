import Derived.Test.YtihhfdkcggnjpaaL08e
import Derived.Test.YtihhfdkcggnjpaaK2
import Derived.WalkKit
import Derived.ProofKit
import Derived.LoopTactic
import Derived.Outline
import Derived.WalkSpells
import Derived.WalkLawsBesides
import Derived.Lib.Hide
import Derived.Deep.LoopGhost
import Derived.Deep.QuietTactic
import Derived.BigQuiet
import Derived.ShutString
import Derived.IntWalk
import Derived.Deep.RegionHeld3
namespace Go.Proofs.Ytihhfdkcggnjpaa
open Go.ChangeShapes Go.WideShapes Go.ChangeAt Go.RowKit
open Enc Bal
set_option linter.unusedVariables false
set_option linter.unusedSimpArgs false
theorem nat_wf {n : Nat} (h : n ≤ 11) : (Lit.int .i64 (n : Int)).wf = true := by
  simp [Lit.wf, IntKind.min, IntKind.max, IntKind.signed, IntKind.bits]
  omega
set_option maxRecDepth 100000 in
set_option maxHeartbeats 1000000 in
theorem refPut_any (c n : Nat) (w : World) (hc : c < 18446744073709551616) (hn : n ≤ 11) :
    Calls Try.prog 133 #[.agg #[.int .u64 c, .int .i64 n]] w fun e w' => e = .returned (.string (ofL (encU c ++ encN n))) ∧ Gr w w' := by
  have HV := Lib.hid (ofL_app (encU c) (encN (n : Int))).symm
  have CU := Lib.hid (fun w => refU_any c w hc)
  have CN := Lib.hid (fun w => refN_any (n : Int) w (nat_wf hn))
  have s1 : (ofL (encU c)).size ≤ 9 := by rw [ofL_size]; exact encU_le c
  have s2 : (ofL (encN (n : Int))).size ≤ 9 := by rw [ofL_size]; exact encU_le _
  generalize ofL (encU c) = X at *
  generalize ofL (encN (n : Int)) = Y at *
  go_enter Try.func133, Try.ntmps133
  go_wp2
  have hz := Gr.refl (w.alloc (.cells #[.int .u64 (c : Nat), .int .i64 (n : Nat)] 78))
  have k0 := hz.own.1 0 _ rfl
  have k1 := hz.own.1 1 _ rfl
  have HG0 := Lib.hid ((Gr.refl w).alloc (.cells #[.int .u64 (c : Nat), .int .i64 (n : Nat)] 78))
  clear hz
  generalize w.heap.size = b at *
  generalize w.alloc (.cells #[.int .u64 (c : Nat), .int .i64 (n : Nat)] 78) = wz at *
  have HX : Hid (∀ w0 w9 : World, Gr w0 w9 → (fun w9 => Gr wz w9 ∧ w9.cell? ⟨b, 0, none⟩ = some (.int .u64 (c : Nat)) ∧ w9.cell? ⟨b, 1, none⟩ = some (.int .i64 (n : Nat))) w0 → (fun w9 => Gr wz w9 ∧ w9.cell? ⟨b, 0, none⟩ = some (.int .u64 (c : Nat)) ∧ w9.cell? ⟨b, 1, none⟩ = some (.int .i64 (n : Nat))) w9) := Lib.hid fun w0 w9 hg ⟨h, q0, q1⟩ => ⟨h.trans hg, hg.cell q0, hg.cell q1⟩
  have HS0 := And.intro (Gr.refl wz) (And.intro (k0) (k1))
  clear k0 k1
  refine wp_region_held_drew (S := (fun w9 => Gr wz w9 ∧ w9.cell? ⟨b, 0, none⟩ = some (.int .u64 (c : Nat)) ∧ w9.cell? ⟨b, 1, none⟩ = some (.int .i64 (n : Nat)))) (by kernel_rfl) ?inva (fun h0 => ?_)
  case inva => ((try dsimp only); (first | exact HS0 | exact HX.out _ _ ((Gr.refl _).drew) HS0))
  refine wpAnyH_take (i := 0) (oi := { dst := some 3, op := Go.Op.fieldAddr 78 (Go.Operand.tmp 1) 0, type := 0, pos := "ref.go:31", after := #[], guard := none }) (v := ?va1) rfl (by kernel_rfl) (by kernel_rfl) (by kernel_rfl) (fun _ _ _ h => h) (Or.inl ⟨by rfl, ?ra1⟩) (by assumption) ?_
  case ra1 => (intro w hSw; (try dsimp only at hSw); (go_simp <;> with_reducible rfl))
  try simp only [Act.put, List.setIfInBounds_toArray, List.set_cons_zero, List.set_cons_succ]
  refine wpAnyH_take (i := 1) (oi := { dst := some 4, op := Go.Op.load 48 (Go.Operand.tmp 3), type := 48, pos := "ref.go:31", after := #[{ on := 0, ground := Go.Ground.data }], guard := none }) (v := ?va2) rfl (by kernel_rfl) (by kernel_rfl) (by kernel_rfl) (fun _ _ _ h => h) (Or.inl ⟨by rfl, ?ra2⟩) (by assumption) ?_
  case ra2 => (intro w hSw; (try dsimp only at hSw); (go_simp <;> with_reducible rfl))
  try simp only [Act.put, List.setIfInBounds_toArray, List.set_cons_zero, List.set_cons_succ]
  refine wpAnyH_take (i := 3) (oi := { dst := some 6, op := Go.Op.fieldAddr 78 (Go.Operand.tmp 1) 1, type := 0, pos := "ref.go:31", after := #[], guard := none }) (v := ?va3) rfl (by kernel_rfl) (by kernel_rfl) (by kernel_rfl) (fun _ _ _ h => h) (Or.inl ⟨by rfl, ?ra3⟩) (by assumption) ?_
  case ra3 => (intro w hSw; (try dsimp only at hSw); (go_simp <;> with_reducible rfl))
  try simp only [Act.put, List.setIfInBounds_toArray, List.set_cons_zero, List.set_cons_succ]
  refine wpAnyH_take (i := 4) (oi := { dst := some 7, op := Go.Op.load 3 (Go.Operand.tmp 6), type := 3, pos := "ref.go:31", after := #[{ on := 3, ground := Go.Ground.data }], guard := none }) (v := ?va4) rfl (by kernel_rfl) (by kernel_rfl) (by kernel_rfl) (fun _ _ _ h => h) (Or.inl ⟨by rfl, ?ra4⟩) (by assumption) ?_
  case ra4 => (intro w hSw; (try dsimp only at hSw); (go_simp <;> with_reducible rfl))
  try simp only [Act.put, List.setIfInBounds_toArray, List.set_cons_zero, List.set_cons_succ]
  refine wpAnyH_ready (rs := [2]) (by kernel_rfl) (by simp) ?_
  refine AllReadyH.cons (o := { dst := some 5, op := Go.Op.call { callee := Go.Callee.value (Go.Operand.func 190), args := #[Go.Operand.tmp 4], argTypes := #[48] }, type := 9, pos := "ref.go:31", after := #[{ on := 1, ground := Go.Ground.data }], guard := none }) rfl (fun K hK => ?_) AllReadyH.nil
  go_simp
  (go_at_call 190; refine (CU.out _).mono ?_; rintro e w9 ⟨rfl, hgN⟩)
  first | refine hK.out _ _ ?sa5 (fun h5 => ?_) | (go_wp2_with fail; refine hK.out _ _ ?sa5 (fun h5 => ?_))
  case sa5 => ((try dsimp only); exact HX.out _ _ hgN h0)
  clear hK K h0
  try simp only [Act.put, List.setIfInBounds_toArray, List.set_cons_zero, List.set_cons_succ]
  refine wpAnyH_ready (rs := [5]) (by kernel_rfl) (by simp) ?_
  refine AllReadyH.cons (o := { dst := some 8, op := Go.Op.call { callee := Go.Callee.value (Go.Operand.func 134), args := #[Go.Operand.tmp 7], argTypes := #[3] }, type := 9, pos := "ref.go:31", after := #[{ on := 4, ground := Go.Ground.data }, { on := 2, ground := Go.Ground.chain }], guard := none }) rfl (fun K hK => ?_) AllReadyH.nil
  go_simp
  (go_at_call 134; refine (CN.out _).mono ?_; rintro e w9 ⟨rfl, hgN⟩)
  first | refine hK.out _ _ ?sa6 (fun h6 => ?_) | (go_wp2_with fail; refine hK.out _ _ ?sa6 (fun h6 => ?_))
  case sa6 => ((try dsimp only); exact HX.out _ _ hgN h5)
  clear hK K h5
  try simp only [Act.put, List.setIfInBounds_toArray, List.set_cons_zero, List.set_cons_succ]
  refine wpAnyH_take (i := 6) (oi := { dst := some 9, op := Go.Op.binOp Go.BinOp.add 9 (Go.Operand.tmp 5) (Go.Operand.tmp 8) 9, type := 9, pos := "ref.go:31", after := #[{ on := 2, ground := Go.Ground.data }, { on := 5, ground := Go.Ground.data }], guard := none }) (v := (.string (X ++ Y))) rfl (by kernel_rfl) (by kernel_rfl) (by kernel_rfl) (fun _ _ _ h => h) (Or.inl ⟨by rfl, ?ra7⟩) (by assumption) ?_
  case ra7 => (intro w hSw; (try dsimp only at hSw); go_simp; omega)
  try simp only [Act.put, List.setIfInBounds_toArray, List.set_cons_zero, List.set_cons_succ]
  refine wpAnyH_take (i := 7) (oi := { dst := some 2, op := Go.Op.assign (Go.Operand.tmp 9), type := 9, pos := "ref.go:31", after := #[{ on := 6, ground := Go.Ground.data }, { on := 5, ground := Go.Ground.chain }, { on := 0, ground := Go.Ground.phase }, { on := 1, ground := Go.Ground.phase }, { on := 2, ground := Go.Ground.phase }, { on := 3, ground := Go.Ground.phase }, { on := 4, ground := Go.Ground.phase }, { on := 5, ground := Go.Ground.phase }, { on := 6, ground := Go.Ground.phase }], guard := none }) (v := ?va8) rfl (by kernel_rfl) (by kernel_rfl) (by kernel_rfl) (fun _ _ _ h => h) (Or.inl ⟨by rfl, ?ra8⟩) (by assumption) ?_
  case ra8 => (intro w hSw; (try dsimp only at hSw); (go_simp <;> with_reducible rfl))
  try simp only [Act.put, List.setIfInBounds_toArray, List.set_cons_zero, List.set_cons_succ]
  refine wpAnyH_done (by kernel_rfl) ?_ _
  have G9 := Lib.hid (h6).1
  clear h6
  go_wp2
  go_ret
  exact ⟨by rw [HV.out]; rfl, HG0.out.trans G9.out⟩
theorem wrLt {w : World} {p : Nat} {l : List UInt8} (h : WrIs w p l) : p < w.heap.size := by obtain ⟨_, _, _, _, hp, _⟩ := h; exact hp
theorem wN_1 (p v b : Nat) (l : List UInt8) (w : World) (h : WrIs w p l) (hb : b ≠ p) (hfr : Free w p b) (hc : w.cell? ⟨b, 0, none⟩ = some (.int .i64 (v : Int))) (hl : l.length ≤ 1000000) (hv : v ≤ 1000) :
    Calls Try.prog 109 #[.pointer (some ⟨p, 0, none⟩), .slice (some ⟨b, 0, none⟩) 1 1] w fun e w' => e = .returned (.pointer (some ⟨p, 0, none⟩)) ∧ WrIs w' p (l ++ encN (v : Int)) ∧ Below p w w' ∧ Keeps p w w' := by
  have := wN_any p b 0 [(v : Int)] l w h hb hfr (by intro i hi; match i, hi with | 0, _ => exact hc) hl (by simp) (by intro x hx; simp at hx; omega)
  have e1 : encNs [(v : Int)] = encN (v : Int) := by simp [encNs]
  rwa [e1] at this
theorem free_gr {w w' : World} {p b : Nat} {l : List UInt8} (hW : WrIs w p l) (hg : Gr w w') (hf : Free w p b) : Free w' p b := by
  obtain ⟨a, cap, hc, _⟩ := hW
  intro v hv
  have := hg.cell hc
  rw [this] at hv
  cases hv
  exact hf _ hc
set_option maxRecDepth 100000 in
set_option maxHeartbeats 2000000 in
theorem bPut_any (p c n : Nat) (l : List UInt8) (w : World) (h : WrIs w p l) (hl : l.length ≤ 100000) (hn : n ≤ 11) :
    Calls Try.prog 108 #[.agg #[.int .u64 c, .int .i64 n], .pointer (some ⟨p, 0, none⟩)] w fun e w' => e = .returned (.tuple #[]) ∧ WrIs w' p (l ++ encU c ++ encN n) ∧ Below p w w' := by
  have hul := encU_le c
  have hp := wrLt h
  go_enter Try.func108, Try.ntmps108
  go_wp2
  have hg := (Gr.refl w).alloc (.cells #[.int .u64 (c : Nat), .int .i64 (n : Nat)] 50)
  have hz := Gr.refl (w.alloc (.cells #[.int .u64 (c : Nat), .int .i64 (n : Nat)] 50))
  have k0 := hz.own.1 0 _ rfl
  have k1 := hz.own.1 1 _ rfl
  have hFb := free_new h (.cells #[.int .u64 (c : Nat), .int .i64 (n : Nat)] 50)
  have hW := h.gr hg
  have HW0 := Lib.hid hW
  have HB0 := Lib.hid ((hg.below).mono (Nat.le_of_lt hp))
  have hbp : w.heap.size ≠ p := by omega
  clear hg hz h
  generalize w.heap.size = b at *
  generalize w.alloc (.cells #[.int .u64 (c : Nat), .int .i64 (n : Nat)] 50) = wz at *
  refine wp_region_held_drew (S := (fun w9 => w9.cell? ⟨b, 0, none⟩ = some (.int .u64 (c : Nat)) ∧ w9.cell? ⟨b, 1, none⟩ = some (.int .i64 (n : Nat)))) (by kernel_rfl) ?invp (fun h0 => ?_)
  case invp => exact ⟨k0, k1⟩
  have gd := (Gr.refl wz).drew
  replace hW := hW.gr gd
  replace hFb := free_gr HW0.out gd hFb
  have HB := Lib.hid (HB0.out.trans ((gd.below).mono (Nat.le_of_lt (wrLt HW0.out))))
  clear gd
  generalize wz.drew = wd at *
  refine wpAnyH_take (i := 0) (oi := { dst := some 4, op := Go.Op.move (Go.Operand.tmp 1), type := 113, pos := "ballot.go:54", after := #[], guard := none }) (v := ?vp0) rfl (by kernel_rfl) (by kernel_rfl) (by kernel_rfl) (fun _ _ _ h => h) (Or.inl ⟨by rfl, ?rp0⟩) (by assumption) ?_
  case rp0 => (intro w hSw; (try dsimp only at hSw); (go_simp <;> with_reducible rfl))
  try simp only [Act.put, List.setIfInBounds_toArray, List.set_cons_zero, List.set_cons_succ]
  refine wpAnyH_take (i := 1) (oi := { dst := some 5, op := Go.Op.fieldAddr 50 (Go.Operand.tmp 2) 0, type := 0, pos := "ballot.go:54", after := #[], guard := none }) (v := ?vp1) rfl (by kernel_rfl) (by kernel_rfl) (by kernel_rfl) (fun _ _ _ h => h) (Or.inl ⟨by rfl, ?rp1⟩) (by assumption) ?_
  case rp1 => (intro w hSw; (try dsimp only at hSw); (go_simp <;> with_reducible rfl))
  try simp only [Act.put, List.setIfInBounds_toArray, List.set_cons_zero, List.set_cons_succ]
  refine wpAnyH_take (i := 2) (oi := { dst := some 6, op := Go.Op.load 48 (Go.Operand.tmp 5), type := 48, pos := "ballot.go:54", after := #[{ on := 1, ground := Go.Ground.data }], guard := none }) (v := ?vp2) rfl (by kernel_rfl) (by kernel_rfl) (by kernel_rfl) (fun _ _ _ h => h) (Or.inl ⟨by rfl, ?rp2⟩) (by assumption) ?_
  case rp2 => (intro w hSw; (try dsimp only at hSw); (go_simp <;> with_reducible rfl))
  try simp only [Act.put, List.setIfInBounds_toArray, List.set_cons_zero, List.set_cons_succ]
  refine wpAnyH_take (i := 5) (oi := { dst := some 9, op := Go.Op.fieldAddr 50 (Go.Operand.tmp 2) 1, type := 0, pos := "ballot.go:54", after := #[], guard := none }) (v := ?vp5) rfl (by kernel_rfl) (by kernel_rfl) (by kernel_rfl) (fun _ _ _ h => h) (Or.inl ⟨by rfl, ?rp5⟩) (by assumption) ?_
  case rp5 => (intro w hSw; (try dsimp only at hSw); (go_simp <;> with_reducible rfl))
  try simp only [Act.put, List.setIfInBounds_toArray, List.set_cons_zero, List.set_cons_succ]
  refine wpAnyH_take (i := 6) (oi := { dst := some 10, op := Go.Op.load 3 (Go.Operand.tmp 9), type := 3, pos := "ballot.go:54", after := #[{ on := 5, ground := Go.Ground.data }], guard := none }) (v := ?vp6) rfl (by kernel_rfl) (by kernel_rfl) (by kernel_rfl) (fun _ _ _ h => h) (Or.inl ⟨by rfl, ?rp6⟩) (by assumption) ?_
  case rp6 => (intro w hSw; (try dsimp only at hSw); (go_simp <;> with_reducible rfl))
  try simp only [Act.put, List.setIfInBounds_toArray, List.set_cons_zero, List.set_cons_succ]
  refine wpAnyH_ready (rs := [3, 7]) (by kernel_rfl) (by simp) ?_
  refine AllReadyH.cons (o := { dst := some 7, op := Go.Op.buildSlice 252 1 #[(0, Go.Operand.tmp 6)], type := 252, pos := "ballot.go:54", after := #[{ on := 2, ground := Go.Ground.data }], guard := none }) rfl (fun K hK => ?_) (AllReadyH.cons (o := { dst := some 11, op := Go.Op.buildSlice 135 1 #[(0, Go.Operand.tmp 10)], type := 135, pos := "ballot.go:54", after := #[{ on := 6, ground := Go.Ground.data }], guard := none }) rfl (fun K hK => ?_) AllReadyH.nil)
  · skip
    go_simp
    obtain ⟨s3, hs3⟩ : ∃ s, s = wd.heap.size := ⟨_, rfl⟩
    rw [← hs3]
    obtain ⟨wp1, hw⟩ : ∃ wn, wn = wd.alloc (.cells #[.int .u64 (c : Nat)] 48) := ⟨_, rfl⟩
    rw [← hw]
    have gx : Gr wd wp1 := by rw [hw]; exact (Gr.refl _).alloc _
    have F3 : Free wp1 p s3 := by rw [hw, hs3]; exact free_new hW _
    have c3 : wp1.cell? ⟨s3, 0, none⟩ = some (.int .u64 (c : Nat)) := by rw [hw, hs3]; exact new_cell rfl rfl
    have d3 : s3 ≠ p := by have := (wrLt hW); omega
    have hFb := free_gr hW gx hFb
    have hk0 := gx.cell h0.1
    have hk1 := gx.cell h0.2
    have HB := Lib.hid (HB.out.trans ((gx.below).mono (Nat.le_of_lt (wrLt hW))))
    have hW := hW.gr gx
    clear gx hw hs3
    first | refine hK.out _ _ ?sp1 (fun hp1 => ?_) | (go_wp2_with fail; refine hK.out _ _ ?sp1 (fun hp1 => ?_))
    case sp1 => exact ⟨hk0, hk1⟩
    clear hK K
    try simp only [Act.put, List.setIfInBounds_toArray, List.set_cons_zero, List.set_cons_succ]
    refine wpAnyH_ready (rs := [4, 7]) (by kernel_rfl) (by simp) ?_
    refine AllReadyH.cons (o := { dst := some 8, op := Go.Op.call { callee := Go.Callee.value (Go.Operand.func 169), args := #[Go.Operand.tmp 4, Go.Operand.tmp 7], argTypes := #[113, 252] }, type := 113, pos := "ballot.go:54", after := #[{ on := 0, ground := Go.Ground.data }, { on := 3, ground := Go.Ground.data }], guard := none }) rfl (fun K hK => ?_) (AllReadyH.cons (o := { dst := some 11, op := Go.Op.buildSlice 135 1 #[(0, Go.Operand.tmp 10)], type := 135, pos := "ballot.go:54", after := #[{ on := 6, ground := Go.Ground.data }], guard := none }) rfl (fun K hK => ?_) AllReadyH.nil)
    · skip
      go_simp
      go_at_call 169
      refine (wU_1 p c s3 l _ hW d3 F3 (cell_lt c3) c3 (by omega)).mono ?_
      rintro e wp2 ⟨rfl, hW2, hB2, hK2⟩
      have hk0 := hK2.cell hbp hFb hp1.1
      have hk1 := hK2.cell hbp hFb hp1.2
      have hFb := (hK2.2 b (cell_lt hp1.1) hbp hFb).2
      have HB := Lib.hid (HB.out.trans hB2)
      have hW := hW2
      clear hW2 hB2 hK2
      first | refine hK.out _ _ ?sp2 (fun hp2 => ?_) | (go_wp2_with fail; refine hK.out _ _ ?sp2 (fun hp2 => ?_))
      case sp2 => exact ⟨hk0, hk1⟩
      clear hK K
      try simp only [Act.put, List.setIfInBounds_toArray, List.set_cons_zero, List.set_cons_succ]
      refine wpAnyH_ready (rs := [7]) (by kernel_rfl) (by simp) ?_
      refine AllReadyH.cons (o := { dst := some 11, op := Go.Op.buildSlice 135 1 #[(0, Go.Operand.tmp 10)], type := 135, pos := "ballot.go:54", after := #[{ on := 6, ground := Go.Ground.data }], guard := none }) rfl (fun K hK => ?_) AllReadyH.nil
      go_simp
      obtain ⟨s7, hs7⟩ : ∃ s, s = wp2.heap.size := ⟨_, rfl⟩
      rw [← hs7]
      obtain ⟨wp3, hw⟩ : ∃ wn, wn = wp2.alloc (.cells #[.int .i64 (n : Nat)] 3) := ⟨_, rfl⟩
      rw [← hw]
      have gx : Gr wp2 wp3 := by rw [hw]; exact (Gr.refl _).alloc _
      have F7 : Free wp3 p s7 := by rw [hw, hs7]; exact free_new hW _
      have c7 : wp3.cell? ⟨s7, 0, none⟩ = some (.int .i64 (n : Nat)) := by rw [hw, hs7]; exact new_cell rfl rfl
      have d7 : s7 ≠ p := by have := (wrLt hW); omega
      have hFb := free_gr hW gx hFb
      have hk0 := gx.cell hp2.1
      have hk1 := gx.cell hp2.2
      have HB := Lib.hid (HB.out.trans ((gx.below).mono (Nat.le_of_lt (wrLt hW))))
      have hW := hW.gr gx
      clear gx hw hs7
      first | refine hK.out _ _ ?sp3 (fun hp3 => ?_) | (go_wp2_with fail; refine hK.out _ _ ?sp3 (fun hp3 => ?_))
      case sp3 => exact ⟨hk0, hk1⟩
      clear hK K
      try simp only [Act.put, List.setIfInBounds_toArray, List.set_cons_zero, List.set_cons_succ]
      refine wpAnyH_ready (rs := [8]) (by kernel_rfl) (by simp) ?_
      refine AllReadyH.cons (o := { dst := some 12, op := Go.Op.call { callee := Go.Callee.value (Go.Operand.func 109), args := #[Go.Operand.tmp 8, Go.Operand.tmp 11], argTypes := #[113, 135] }, type := 113, pos := "ballot.go:54", after := #[{ on := 4, ground := Go.Ground.data }, { on := 7, ground := Go.Ground.data }, { on := 4, ground := Go.Ground.chain }], guard := none }) rfl (fun K hK => ?_) AllReadyH.nil
      go_simp
      go_at_call 109
      refine (wN_1 p n s7 (l ++ encU c) _ hW d7 F7 c7 (by rw [List.length_append]; omega) (by omega)).mono ?_
      rintro e wp4 ⟨rfl, hW2, hB2, hK2⟩
      have hk0 := hK2.cell hbp hFb hp3.1
      have hk1 := hK2.cell hbp hFb hp3.2
      have HBf := Lib.hid (HB.out.trans hB2)
      have hW := hW2
      clear hW2 hB2 hK2
      first | refine hK.out _ _ ?sp4 (fun hp4 => ?_) | (go_wp2_with fail; refine hK.out _ _ ?sp4 (fun hp4 => ?_))
      case sp4 => exact ⟨hk0, hk1⟩
      clear hK K
      try simp only [Act.put, List.setIfInBounds_toArray, List.set_cons_zero, List.set_cons_succ]
      refine wpAnyH_done (by kernel_rfl) ?_ _
      go_wp2
      first | go_end0 | go_ret
      exact ⟨rfl, hW, HBf.out⟩
    · skip
      go_simp
      obtain ⟨s7, hs7⟩ : ∃ s, s = wp1.heap.size := ⟨_, rfl⟩
      rw [← hs7]
      obtain ⟨wp5, hw⟩ : ∃ wn, wn = wp1.alloc (.cells #[.int .i64 (n : Nat)] 3) := ⟨_, rfl⟩
      rw [← hw]
      have gx : Gr wp1 wp5 := by rw [hw]; exact (Gr.refl _).alloc _
      have c3 := gx.cell c3
      have F3 := free_gr hW gx F3
      have F7 : Free wp5 p s7 := by rw [hw, hs7]; exact free_new hW _
      have c7 : wp5.cell? ⟨s7, 0, none⟩ = some (.int .i64 (n : Nat)) := by rw [hw, hs7]; exact new_cell rfl rfl
      have d7 : s7 ≠ p := by have := (wrLt hW); omega
      have hFb := free_gr hW gx hFb
      have hk0 := gx.cell hp1.1
      have hk1 := gx.cell hp1.2
      have HB := Lib.hid (HB.out.trans ((gx.below).mono (Nat.le_of_lt (wrLt hW))))
      have hW := hW.gr gx
      clear gx hw hs7
      first | refine hK.out _ _ ?sp5 (fun hp5 => ?_) | (go_wp2_with fail; refine hK.out _ _ ?sp5 (fun hp5 => ?_))
      case sp5 => exact ⟨hk0, hk1⟩
      clear hK K
      try simp only [Act.put, List.setIfInBounds_toArray, List.set_cons_zero, List.set_cons_succ]
      refine wpAnyH_ready (rs := [4]) (by kernel_rfl) (by simp) ?_
      refine AllReadyH.cons (o := { dst := some 8, op := Go.Op.call { callee := Go.Callee.value (Go.Operand.func 169), args := #[Go.Operand.tmp 4, Go.Operand.tmp 7], argTypes := #[113, 252] }, type := 113, pos := "ballot.go:54", after := #[{ on := 0, ground := Go.Ground.data }, { on := 3, ground := Go.Ground.data }], guard := none }) rfl (fun K hK => ?_) AllReadyH.nil
      go_simp
      go_at_call 169
      refine (wU_1 p c s3 l _ hW d3 F3 (cell_lt c3) c3 (by omega)).mono ?_
      rintro e wp6 ⟨rfl, hW2, hB2, hK2⟩
      have hl7 := cell_lt c7
      have c7 := hK2.cell d7 F7 c7
      have F7 := (hK2.2 s7 hl7 d7 F7).2
      have hk0 := hK2.cell hbp hFb hp5.1
      have hk1 := hK2.cell hbp hFb hp5.2
      have hFb := (hK2.2 b (cell_lt hp5.1) hbp hFb).2
      have HB := Lib.hid (HB.out.trans hB2)
      have hW := hW2
      clear hW2 hB2 hK2
      first | refine hK.out _ _ ?sp6 (fun hp6 => ?_) | (go_wp2_with fail; refine hK.out _ _ ?sp6 (fun hp6 => ?_))
      case sp6 => exact ⟨hk0, hk1⟩
      clear hK K
      try simp only [Act.put, List.setIfInBounds_toArray, List.set_cons_zero, List.set_cons_succ]
      refine wpAnyH_ready (rs := [8]) (by kernel_rfl) (by simp) ?_
      refine AllReadyH.cons (o := { dst := some 12, op := Go.Op.call { callee := Go.Callee.value (Go.Operand.func 109), args := #[Go.Operand.tmp 8, Go.Operand.tmp 11], argTypes := #[113, 135] }, type := 113, pos := "ballot.go:54", after := #[{ on := 4, ground := Go.Ground.data }, { on := 7, ground := Go.Ground.data }, { on := 4, ground := Go.Ground.chain }], guard := none }) rfl (fun K hK => ?_) AllReadyH.nil
      go_simp
      go_at_call 109
      refine (wN_1 p n s7 (l ++ encU c) _ hW d7 F7 c7 (by rw [List.length_append]; omega) (by omega)).mono ?_
      rintro e wp7 ⟨rfl, hW2, hB2, hK2⟩
      have hk0 := hK2.cell hbp hFb hp6.1
      have hk1 := hK2.cell hbp hFb hp6.2
      have HBf := Lib.hid (HB.out.trans hB2)
      have hW := hW2
      clear hW2 hB2 hK2
      first | refine hK.out _ _ ?sp7 (fun hp7 => ?_) | (go_wp2_with fail; refine hK.out _ _ ?sp7 (fun hp7 => ?_))
      case sp7 => exact ⟨hk0, hk1⟩
      clear hK K
      try simp only [Act.put, List.setIfInBounds_toArray, List.set_cons_zero, List.set_cons_succ]
      refine wpAnyH_done (by kernel_rfl) ?_ _
      go_wp2
      first | go_end0 | go_ret
      exact ⟨rfl, hW, HBf.out⟩
  · skip
    go_simp
    obtain ⟨s7, hs7⟩ : ∃ s, s = wd.heap.size := ⟨_, rfl⟩
    rw [← hs7]
    obtain ⟨wp8, hw⟩ : ∃ wn, wn = wd.alloc (.cells #[.int .i64 (n : Nat)] 3) := ⟨_, rfl⟩
    rw [← hw]
    have gx : Gr wd wp8 := by rw [hw]; exact (Gr.refl _).alloc _
    have F7 : Free wp8 p s7 := by rw [hw, hs7]; exact free_new hW _
    have c7 : wp8.cell? ⟨s7, 0, none⟩ = some (.int .i64 (n : Nat)) := by rw [hw, hs7]; exact new_cell rfl rfl
    have d7 : s7 ≠ p := by have := (wrLt hW); omega
    have hFb := free_gr hW gx hFb
    have hk0 := gx.cell h0.1
    have hk1 := gx.cell h0.2
    have HB := Lib.hid (HB.out.trans ((gx.below).mono (Nat.le_of_lt (wrLt hW))))
    have hW := hW.gr gx
    clear gx hw hs7
    first | refine hK.out _ _ ?sp8 (fun hp8 => ?_) | (go_wp2_with fail; refine hK.out _ _ ?sp8 (fun hp8 => ?_))
    case sp8 => exact ⟨hk0, hk1⟩
    clear hK K
    try simp only [Act.put, List.setIfInBounds_toArray, List.set_cons_zero, List.set_cons_succ]
    refine wpAnyH_ready (rs := [3]) (by kernel_rfl) (by simp) ?_
    refine AllReadyH.cons (o := { dst := some 7, op := Go.Op.buildSlice 252 1 #[(0, Go.Operand.tmp 6)], type := 252, pos := "ballot.go:54", after := #[{ on := 2, ground := Go.Ground.data }], guard := none }) rfl (fun K hK => ?_) AllReadyH.nil
    go_simp
    obtain ⟨s3, hs3⟩ : ∃ s, s = wp8.heap.size := ⟨_, rfl⟩
    rw [← hs3]
    obtain ⟨wp9, hw⟩ : ∃ wn, wn = wp8.alloc (.cells #[.int .u64 (c : Nat)] 48) := ⟨_, rfl⟩
    rw [← hw]
    have gx : Gr wp8 wp9 := by rw [hw]; exact (Gr.refl _).alloc _
    have c7 := gx.cell c7
    have F7 := free_gr hW gx F7
    have F3 : Free wp9 p s3 := by rw [hw, hs3]; exact free_new hW _
    have c3 : wp9.cell? ⟨s3, 0, none⟩ = some (.int .u64 (c : Nat)) := by rw [hw, hs3]; exact new_cell rfl rfl
    have d3 : s3 ≠ p := by have := (wrLt hW); omega
    have hFb := free_gr hW gx hFb
    have hk0 := gx.cell hp8.1
    have hk1 := gx.cell hp8.2
    have HB := Lib.hid (HB.out.trans ((gx.below).mono (Nat.le_of_lt (wrLt hW))))
    have hW := hW.gr gx
    clear gx hw hs3
    first | refine hK.out _ _ ?sp9 (fun hp9 => ?_) | (go_wp2_with fail; refine hK.out _ _ ?sp9 (fun hp9 => ?_))
    case sp9 => exact ⟨hk0, hk1⟩
    clear hK K
    try simp only [Act.put, List.setIfInBounds_toArray, List.set_cons_zero, List.set_cons_succ]
    refine wpAnyH_ready (rs := [4]) (by kernel_rfl) (by simp) ?_
    refine AllReadyH.cons (o := { dst := some 8, op := Go.Op.call { callee := Go.Callee.value (Go.Operand.func 169), args := #[Go.Operand.tmp 4, Go.Operand.tmp 7], argTypes := #[113, 252] }, type := 113, pos := "ballot.go:54", after := #[{ on := 0, ground := Go.Ground.data }, { on := 3, ground := Go.Ground.data }], guard := none }) rfl (fun K hK => ?_) AllReadyH.nil
    go_simp
    go_at_call 169
    refine (wU_1 p c s3 l _ hW d3 F3 (cell_lt c3) c3 (by omega)).mono ?_
    rintro e wp10 ⟨rfl, hW2, hB2, hK2⟩
    have hl7 := cell_lt c7
    have c7 := hK2.cell d7 F7 c7
    have F7 := (hK2.2 s7 hl7 d7 F7).2
    have hk0 := hK2.cell hbp hFb hp9.1
    have hk1 := hK2.cell hbp hFb hp9.2
    have hFb := (hK2.2 b (cell_lt hp9.1) hbp hFb).2
    have HB := Lib.hid (HB.out.trans hB2)
    have hW := hW2
    clear hW2 hB2 hK2
    first | refine hK.out _ _ ?sp10 (fun hp10 => ?_) | (go_wp2_with fail; refine hK.out _ _ ?sp10 (fun hp10 => ?_))
    case sp10 => exact ⟨hk0, hk1⟩
    clear hK K
    try simp only [Act.put, List.setIfInBounds_toArray, List.set_cons_zero, List.set_cons_succ]
    refine wpAnyH_ready (rs := [8]) (by kernel_rfl) (by simp) ?_
    refine AllReadyH.cons (o := { dst := some 12, op := Go.Op.call { callee := Go.Callee.value (Go.Operand.func 109), args := #[Go.Operand.tmp 8, Go.Operand.tmp 11], argTypes := #[113, 135] }, type := 113, pos := "ballot.go:54", after := #[{ on := 4, ground := Go.Ground.data }, { on := 7, ground := Go.Ground.data }, { on := 4, ground := Go.Ground.chain }], guard := none }) rfl (fun K hK => ?_) AllReadyH.nil
    go_simp
    go_at_call 109
    refine (wN_1 p n s7 (l ++ encU c) _ hW d7 F7 c7 (by rw [List.length_append]; omega) (by omega)).mono ?_
    rintro e wp11 ⟨rfl, hW2, hB2, hK2⟩
    have hk0 := hK2.cell hbp hFb hp10.1
    have hk1 := hK2.cell hbp hFb hp10.2
    have HBf := Lib.hid (HB.out.trans hB2)
    have hW := hW2
    clear hW2 hB2 hK2
    first | refine hK.out _ _ ?sp11 (fun hp11 => ?_) | (go_wp2_with fail; refine hK.out _ _ ?sp11 (fun hp11 => ?_))
    case sp11 => exact ⟨hk0, hk1⟩
    clear hK K
    try simp only [Act.put, List.setIfInBounds_toArray, List.set_cons_zero, List.set_cons_succ]
    refine wpAnyH_done (by kernel_rfl) ?_ _
    go_wp2
    first | go_end0 | go_ret
    exact ⟨rfl, hW, HBf.out⟩
end Go.Proofs.Ytihhfdkcggnjpaa
