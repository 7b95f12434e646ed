import Derived.Test.YtmgpnpmdmelnkaaGreatDoorK6
import Derived.Test.YtmgpnpmdmelnkaaGreatDoorF22g
import Derived.WalkKit
import Derived.ProofKit
import Derived.LoopTactic
import Derived.Outline
import Derived.WalkSpells
import Derived.WalkLawsBesides
import Derived.Lib.Hide
import Derived.Deep.LoopGhost
import Derived.Deep.QuietTactic
import Derived.BigQuiet
import Derived.ShutString
import Derived.IntWalk
import Derived.Lib.MinMax
import Derived.Deep.RegionWith
import Derived.Deep.RegionHeld3
namespace Go.Proofs.YtmgpnpmdmelnkaaGreatDoor
open Go.ChangeShapes Go.WideShapes Go.ChangeAt Go.RowKit
set_option linter.unusedVariables false
set_option linter.unusedSimpArgs false
/-- Two neighbours of those held: in the order of Held, and not twice. -/
theorem held_order {t0 : Int} {B : Bk} (h : Pre t0 B) (j : Nat) (hj : j + 1 < B.H.length) : ¬ 0 < cmpP (pof B.H[j].txt) (pof B.H[j + 1].txt) ∧ (cmpP (pof B.H[j].txt) (pof B.H[j + 1].txt) = 0 → ¬ B.H[j + 1].ses ≤ B.H[j].ses) := by
  have h1 : cmpK B.H[j] B.H[j + 1] ≤ 0 := (List.pairwise_iff_getElem.1 h.srt) j (j + 1) (by omega) hj (by omega)
  have hA : B.H.Pairwise Apart := List.Pairwise.sublist (List.sublist_append_left B.H B.W) h.keys
  have h2 : Apart B.H[j] B.H[j + 1] := (List.pairwise_iff_getElem.1 hA) j (j + 1) (by omega) hj (by omega)
  unfold cmpK at h1
  by_cases e : cmpP (pof B.H[j].txt) (pof B.H[j + 1].txt) = 0
  · refine ⟨by omega, fun _ hle => ?_⟩
    rw [if_neg (by simpa using e)] at h1
    have e2 : B.H[j].txt = B.H[j + 1].txt := pof_inj (h.path _ (List.mem_append.2 (.inl (List.getElem_mem _)))) (h.path _ (List.mem_append.2 (.inl (List.getElem_mem _)))) (cmpP_zero.1 e)
    rcases cmpI_range B.H[j].ses B.H[j + 1].ses with ⟨_, c⟩ | ⟨c, _⟩ | ⟨_, c⟩
    · omega
    · omega
    · exact h2 ⟨c, e2⟩
  · rw [if_pos e] at h1
    exact ⟨by omega, fun h9 => absurd h9 e⟩
theorem any_here22 {x : Lok} {L : List Lok} {M : List RL} (h : (L.map keyK).Perm (M.map keyR)) (hx : x ∈ L) : M.any (sameX x) = true := by
  have h1 : keyK x ∈ M.map keyR := h.mem_iff.1 (List.mem_map_of_mem hx)
  obtain ⟨y, hy, e⟩ := List.mem_map.1 h1
  exact List.any_eq_true.2 ⟨y, hy, sameX_true e.symm⟩
set_option maxRecDepth 100000 in
set_option maxHeartbeats 8000000 in
theorem isX_any {w0 : World} {b n bH bW : Nat} {v1 v2 vH vW : Value} {t0 : Int} {B : Bk} (H W : List RL) (w : World) (h : BkIs w0 w b v1 v2 B) (hr : Rel22 t0 n B H W) (hH : RRow22 w bH vH H) (hW : RRow22 w bW vW W) (hn : n ≤ 400) (hM : ML w0) :
    Calls Tryz.prog 11 #[.pointer (some ⟨b, 0, none⟩), .agg #[vH, vW, .int .u64 B.last]] w fun e w' => e = .returned (.bool true) ∧ Gr w w' := by
  obtain ⟨aH, cH, rfl, _⟩ := ownsRow_slice hH.1
  obtain ⟨aW, cW, rfl, _⟩ := ownsRow_slice hW.1
  have hlen := hr.lenH
  have hll := hr.len
  have e1 : ((B.H.length : Int) == (H.length : Int)) = true := by simp [hlen]
  have e2 : ((B.H.length : Int) != (H.length : Int)) = false := by simp [hlen]
  have HRL := Lib.hid hr
  have HB := Lib.hid h
  have HRH := Lib.hid hH
  have HML := Lib.hid (show ∀ w', Gr w w' → ML w' from fun w' hg => hM.gr (h.grown.trans hg))
  have HG1 := Lib.hid ((Gr.refl w).alloc (.cells #[.slice aH H.length cH, .slice aW W.length cW, .int .u64 B.last] 29))
  have HBX := Lib.hid (Blk.new w #[.slice aH H.length cH, .slice aW W.length cW, .int .u64 B.last] 29)
  have HWA0 := Lib.hid (fun w' (hg : Gr w w') => waits_any w' (h.gr hg) (by omega))
  have HAL0 := Lib.hid (fun w' a c (hg : Gr w w') (hv : w'.ownsRow 0 42 4 (.slice a B.W.length c) B.W.length (rcells encLok B.W)) => allX_any B.W W w' hv (hW.gr hg) hr.w hr.pathW (hM.gr (h.grown.trans hg)) (by omega))
  have HLA0 := Lib.hid (fun w' (hg : Gr w w') => last_any w' (h.gr hg))
  have HLEN := Lib.hid hlen
  have hlB : B.H.length ≤ 400 := by omega
  have hlH : H.length ≤ 400 := by omega
  clear h hr hH hW hM hlen hll
  go_enter Tryz.func11, Tryz.ntmps11
  go_upto_region 1 with fail
  generalize w.alloc (.cells #[.slice aH H.length cH, .slice aW W.length cW, .int .u64 B.last] 29) = w1 at *
  generalize hn0 : w.heap.size = n0 at *
  clear hn0
  go_wp2_with fail
  refine (held_any w1 (HB.out.gr HG1.out) (by omega)).mono ?_
  rintro e w2 ⟨vv, rfl, hrv, hg2⟩
  obtain ⟨av, cv, rfl, _⟩ := ownsRow_slice hrv
  have HRV2 := Lib.hid hrv
  have HG2 := Lib.hid (HG1.out.trans hg2)
  have HBX2 := Lib.hid (HBX.out.gr hg2)
  have HWA := Lib.hid (fun w' (hg : Gr w2 w') => HWA0.out w' (HG2.out.trans hg))
  have HAL := Lib.hid (fun w' a c (hg : Gr w2 w') {base : Nat} (hv : w'.ownsRow base 42 4 (.slice a B.W.length c) B.W.length (rcells encLok B.W)) => HAL0.out w' a c (HG2.out.trans hg) (ownsRow_lower hv (Nat.zero_le _)))
  have HLA := Lib.hid (fun w' (hg : Gr w2 w') => HLA0.out w' (HG2.out.trans hg))
  have c0 := HBX2.out.cell (i := 0) rfl
  have c1 := HBX2.out.cell (i := 1) rfl
  have c2 := HBX2.out.cell (i := 2) rfl
  have HX2 : Hid (∀ w0 : World, Gr w2 w0 → (fun w0 => Gr w2 w0 ∧ w0.cell? ⟨n0, 0, none⟩ = some (.slice aH H.length cH) ∧ w0.cell? ⟨n0, 1, none⟩ = some (.slice aW W.length cW) ∧ w0.cell? ⟨n0, 2, none⟩ = some (.int .u64 B.last)) w0) := Lib.hid fun w0 hg => ⟨hg, hg.cell c0, hg.cell c1, hg.cell c2⟩
  clear hrv hg2 HWA0 HAL0 HLA0 HG1 HBX c0 c1 c2
  go_upto_region 2 with fail
  go_wp2_with fail
  refine wp_region_held_drew (S := (fun w0 => Gr w2 w0 ∧ w0.cell? ⟨n0, 0, none⟩ = some (.slice aH H.length cH) ∧ w0.cell? ⟨n0, 1, none⟩ = some (.slice aW W.length cW) ∧ w0.cell? ⟨n0, 2, none⟩ = some (.int .u64 B.last))) (by kernel_rfl) ?inva (fun h0 => ?_)
  case inva => ((try dsimp only); (exact HX2.out _ (Gr.refl _).drew))
  refine wpAnyH_take (i := 0) (oi := { dst := some 14, op := Go.Op.move (Go.Operand.tmp 5), type := 37, pos := "law.go:67", after := #[], guard := none }) (v := ?va1) rfl (by kernel_rfl) (by kernel_rfl) (by kernel_rfl) (fun _ _ _ h => h) (Or.inl ⟨by rfl, ?ra1⟩) (by assumption) ?_
  case ra1 => (intro w hSw; (try dsimp only at hSw); (go_simp <;> with_reducible rfl))
  try simp only [Act.put, List.setIfInBounds_toArray, List.set_cons_zero, List.set_cons_succ]
  refine wpAnyH_take (i := 1) (oi := { dst := some 15, op := Go.Op.call { callee := Go.Callee.builtin Go.Builtin.len, args := #[Go.Operand.tmp 14], argTypes := #[37] }, type := 3, pos := "law.go:67", after := #[⟨0, .data⟩], guard := none }) (v := ?va2) rfl (by kernel_rfl) (by kernel_rfl) (by kernel_rfl) (fun _ _ _ h => h) (Or.inl ⟨by rfl, ?ra2⟩) (by assumption) ?_
  case ra2 => (intro w hSw; (try dsimp only at hSw); (go_simp <;> with_reducible rfl))
  try simp only [Act.put, List.setIfInBounds_toArray, List.set_cons_zero, List.set_cons_succ]
  refine wpAnyH_take (i := 2) (oi := { dst := some 16, op := Go.Op.fieldAddr 29 (Go.Operand.tmp 3) 0, type := 0, pos := "law.go:67", after := #[], guard := none }) (v := ?va3) rfl (by kernel_rfl) (by kernel_rfl) (by kernel_rfl) (fun _ _ _ h => h) (Or.inl ⟨by rfl, ?ra3⟩) (by assumption) ?_
  case ra3 => (intro w hSw; (try dsimp only at hSw); (go_simp <;> with_reducible rfl))
  try simp only [Act.put, List.setIfInBounds_toArray, List.set_cons_zero, List.set_cons_succ]
  refine wpAnyH_take (i := 3) (oi := { dst := some 17, op := Go.Op.load 27 (Go.Operand.tmp 16), type := 27, pos := "law.go:67", after := #[⟨2, .data⟩], guard := none }) (v := ?va4) rfl (by kernel_rfl) (by kernel_rfl) (by kernel_rfl) (fun _ _ _ h => h) (Or.inl ⟨by rfl, ?ra4⟩) (by assumption) ?_
  case ra4 => (intro w hSw; (try dsimp only at hSw); (go_simp <;> with_reducible rfl))
  try simp only [Act.put, List.setIfInBounds_toArray, List.set_cons_zero, List.set_cons_succ]
  refine wpAnyH_take (i := 4) (oi := { dst := some 18, op := Go.Op.call { callee := Go.Callee.builtin Go.Builtin.len, args := #[Go.Operand.tmp 17], argTypes := #[27] }, type := 3, pos := "law.go:67", after := #[⟨3, .data⟩], guard := none }) (v := ?va5) rfl (by kernel_rfl) (by kernel_rfl) (by kernel_rfl) (fun _ _ _ h => h) (Or.inl ⟨by rfl, ?ra5⟩) (by assumption) ?_
  case ra5 => (intro w hSw; (try dsimp only at hSw); (go_simp <;> with_reducible rfl))
  try simp only [Act.put, List.setIfInBounds_toArray, List.set_cons_zero, List.set_cons_succ]
  refine wpAnyH_take (i := 5) (oi := { dst := some 19, op := Go.Op.binOp Go.BinOp.neq 3 (Go.Operand.tmp 15) (Go.Operand.tmp 18) 3, type := 4, pos := "law.go:67", after := #[⟨1, .data⟩, ⟨4, .data⟩], guard := none }) (v := ?va6) rfl (by kernel_rfl) (by kernel_rfl) (by kernel_rfl) (fun _ _ _ h => h) (Or.inl ⟨by rfl, ?ra6⟩) (by assumption) ?_
  case ra6 => (intro w hSw; (try dsimp only at hSw); (go_simp <;> with_reducible rfl))
  try simp only [Act.put, List.setIfInBounds_toArray, List.set_cons_zero, List.set_cons_succ]
  refine wpAnyH_take (i := 6) (oi := { dst := some 20, op := Go.Op.move (Go.Operand.tmp 19), type := 4, pos := "law.go:67", after := #[⟨5, .data⟩], guard := none }) (v := ?va7) rfl (by kernel_rfl) (by kernel_rfl) (by kernel_rfl) (fun _ _ _ h => h) (Or.inl ⟨by rfl, ?ra7⟩) (by assumption) ?_
  case ra7 => (intro w hSw; (try dsimp only at hSw); (go_simp <;> with_reducible rfl))
  try simp only [Act.put, List.setIfInBounds_toArray, List.set_cons_zero, List.set_cons_succ]
  refine wpAnyH_take (i := 7) (oi := { dst := some 21, op := Go.Op.move (Go.Operand.tmp 0), type := 25, pos := "law.go:67", after := #[⟨6, .guard⟩], guard := some (6, false) }) (v := ?va8) rfl (by kernel_rfl) (by kernel_rfl) (by kernel_rfl) (fun _ _ _ h => h) (Or.inl ⟨by rfl, ?ra8⟩) (by assumption) ?_
  case ra8 => (intro w hSw; (try dsimp only at hSw); (go_simp <;> with_reducible rfl))
  try simp only [Act.put, List.setIfInBounds_toArray, List.set_cons_zero, List.set_cons_succ]
  refine wpAnyH_take (i := 9) (oi := { dst := some 23, op := Go.Op.fieldAddr 29 (Go.Operand.tmp 3) 1, type := 0, pos := "law.go:67", after := #[⟨6, .guard⟩], guard := some (6, false) }) (v := ?va9) rfl (by kernel_rfl) (by kernel_rfl) (by kernel_rfl) (fun _ _ _ h => h) (Or.inl ⟨by rfl, ?ra9⟩) (by assumption) ?_
  case ra9 => (intro w hSw; (try dsimp only at hSw); (go_simp <;> with_reducible rfl))
  try simp only [Act.put, List.setIfInBounds_toArray, List.set_cons_zero, List.set_cons_succ]
  refine wpAnyH_take (i := 10) (oi := { dst := some 24, op := Go.Op.load 27 (Go.Operand.tmp 23), type := 27, pos := "law.go:67", after := #[⟨9, .data⟩, ⟨6, .guard⟩], guard := some (6, false) }) (v := ?va10) rfl (by kernel_rfl) (by kernel_rfl) (by kernel_rfl) (fun _ _ _ h => h) (Or.inl ⟨by rfl, ?ra10⟩) (by assumption) ?_
  case ra10 => (intro w hSw; (try dsimp only at hSw); (go_simp <;> with_reducible rfl))
  try simp only [Act.put, List.setIfInBounds_toArray, List.set_cons_zero, List.set_cons_succ]
  refine wpAnyH_ready (rs := [8]) (by kernel_rfl) (by simp) ?_
  refine AllReadyH.cons (o := { dst := some 22, op := Go.Op.call { callee := Go.Callee.value (Go.Operand.func 14), args := #[Go.Operand.tmp 21], argTypes := #[25] }, type := 37, pos := "law.go:67", after := #[⟨7, .data⟩, ⟨6, .chain⟩, ⟨6, .guard⟩], guard := some (6, false) }) rfl (fun K hK => ?_) AllReadyH.nil
  go_simp
  go_at_call 14
  refine (HWA.out _ h0.1).mono ?_
  rintro e w3 ⟨vw, rfl, hrw, hg3⟩
  obtain ⟨aw, cw, rfl, _⟩ := ownsRow_slice hrw
  have HRV := Lib.hid hrw
  have HG3 := Lib.hid (h0.1.trans hg3)
  first | refine hK.out _ _ ?sa11 (fun h11 => ?_) | (go_wp2_with fail; refine hK.out _ _ ?sa11 (fun h11 => ?_))
  case sa11 => ((try dsimp only); (exact HX2.out _ HG3.out))
  clear hK K h0
  try simp only [Act.put, List.setIfInBounds_toArray, List.set_cons_zero, List.set_cons_succ]
  refine wpAnyH_ready (rs := [11]) (by kernel_rfl) (by simp) ?_
  refine AllReadyH.cons (o := { dst := some 25, op := Go.Op.call { callee := Go.Callee.value (Go.Operand.func 27), args := #[Go.Operand.tmp 22, Go.Operand.tmp 24], argTypes := #[37, 27] }, type := 4, pos := "law.go:67", after := #[⟨8, .data⟩, ⟨10, .data⟩, ⟨8, .chain⟩, ⟨6, .guard⟩], guard := some (6, false) }) rfl (fun K hK => ?_) AllReadyH.nil
  go_simp
  go_at_call 27
  refine (HAL.out _ _ _ h11.1 HRV.out).mono ?_
  rintro e w4 ⟨rfl, hg4⟩
  have HG4 := Lib.hid (h11.1.trans hg4)
  first | refine hK.out _ _ ?sa12 (fun h12 => ?_) | (go_wp2_with fail; refine hK.out _ _ ?sa12 (fun h12 => ?_))
  case sa12 => ((try dsimp only); (exact HX2.out _ HG4.out))
  clear hK K h11
  try simp only [Act.put, List.setIfInBounds_toArray, List.set_cons_zero, List.set_cons_succ]
  refine wpAnyH_take (i := 12) (oi := { dst := some 26, op := Go.Op.unOp Go.UnOp.not 4 (Go.Operand.tmp 25), type := 4, pos := "law.go:67", after := #[⟨11, .data⟩, ⟨6, .guard⟩], guard := some (6, false) }) (v := ?va13) rfl (by kernel_rfl) (by kernel_rfl) (by kernel_rfl) (fun _ _ _ h => h) (Or.inl ⟨by rfl, ?ra13⟩) (by assumption) ?_
  case ra13 => (intro w hSw; (try dsimp only at hSw); (go_simp <;> with_reducible rfl))
  try simp only [Act.put, List.setIfInBounds_toArray, List.set_cons_zero, List.set_cons_succ]
  refine wpAnyH_take (i := 13) (oi := { dst := some 27, op := Go.Op.pick (Go.Operand.tmp 20) (Go.Operand.const (Go.Value.bool true)) (Go.Operand.tmp 26), type := 4, pos := "law.go:67", after := #[⟨6, .data⟩, ⟨12, .data⟩], guard := none }) (v := ?va14) rfl (by kernel_rfl) (by kernel_rfl) (by kernel_rfl) (fun _ _ _ h => h) (Or.inl ⟨by rfl, ?ra14⟩) (by assumption) ?_
  case ra14 => (intro w hSw; (try dsimp only at hSw); (go_simp <;> with_reducible rfl))
  try simp only [Act.put, List.setIfInBounds_toArray, List.set_cons_zero, List.set_cons_succ]
  refine wpAnyH_take (i := 14) (oi := { dst := some 28, op := Go.Op.move (Go.Operand.tmp 27), type := 4, pos := "law.go:67", after := #[⟨13, .data⟩, ⟨11, .chain⟩], guard := none }) (v := ?va15) rfl (by kernel_rfl) (by kernel_rfl) (by kernel_rfl) (fun _ _ _ h => h) (Or.inl ⟨by rfl, ?ra15⟩) (by assumption) ?_
  case ra15 => (intro w hSw; (try dsimp only at hSw); (go_simp <;> with_reducible rfl))
  try simp only [Act.put, List.setIfInBounds_toArray, List.set_cons_zero, List.set_cons_succ]
  refine wpAnyH_take (i := 15) (oi := { dst := some 29, op := Go.Op.move (Go.Operand.tmp 0), type := 25, pos := "law.go:67", after := #[⟨14, .guard⟩], guard := some (14, false) }) (v := ?va16) rfl (by kernel_rfl) (by kernel_rfl) (by kernel_rfl) (fun _ _ _ h => h) (Or.inl ⟨by rfl, ?ra16⟩) (by assumption) ?_
  case ra16 => (intro w hSw; (try dsimp only at hSw); (go_simp <;> with_reducible rfl))
  try simp only [Act.put, List.setIfInBounds_toArray, List.set_cons_zero, List.set_cons_succ]
  refine wpAnyH_take (i := 17) (oi := { dst := some 31, op := Go.Op.fieldAddr 29 (Go.Operand.tmp 3) 2, type := 0, pos := "law.go:67", after := #[⟨14, .guard⟩], guard := some (14, false) }) (v := ?va17) rfl (by kernel_rfl) (by kernel_rfl) (by kernel_rfl) (fun _ _ _ h => h) (Or.inl ⟨by rfl, ?ra17⟩) (by assumption) ?_
  case ra17 => (intro w hSw; (try dsimp only at hSw); (go_simp <;> with_reducible rfl))
  try simp only [Act.put, List.setIfInBounds_toArray, List.set_cons_zero, List.set_cons_succ]
  refine wpAnyH_take (i := 18) (oi := { dst := some 32, op := Go.Op.load 22 (Go.Operand.tmp 31), type := 22, pos := "law.go:67", after := #[⟨17, .data⟩, ⟨14, .guard⟩], guard := some (14, false) }) (v := ?va18) rfl (by kernel_rfl) (by kernel_rfl) (by kernel_rfl) (fun _ _ _ h => h) (Or.inl ⟨by rfl, ?ra18⟩) (by assumption) ?_
  case ra18 => (intro w hSw; (try dsimp only at hSw); (go_simp <;> with_reducible rfl))
  try simp only [Act.put, List.setIfInBounds_toArray, List.set_cons_zero, List.set_cons_succ]
  refine wpAnyH_ready (rs := [16]) (by kernel_rfl) (by simp) ?_
  refine AllReadyH.cons (o := { dst := some 30, op := Go.Op.call { callee := Go.Callee.value (Go.Operand.func 16), args := #[Go.Operand.tmp 29], argTypes := #[25] }, type := 22, pos := "law.go:67", after := #[⟨15, .data⟩, ⟨14, .chain⟩, ⟨14, .guard⟩], guard := some (14, false) }) rfl (fun K hK => ?_) AllReadyH.nil
  go_simp
  go_at_call 16
  refine (HLA.out _ h12.1).mono ?_
  rintro e w5 ⟨rfl, hg5⟩
  have HG5 := Lib.hid (h12.1.trans hg5)
  first | refine hK.out _ _ ?sa19 (fun h19 => ?_) | (go_wp2_with fail; refine hK.out _ _ ?sa19 (fun h19 => ?_))
  case sa19 => ((try dsimp only); (exact HX2.out _ HG5.out))
  clear hK K h12
  try simp only [Act.put, List.setIfInBounds_toArray, List.set_cons_zero, List.set_cons_succ]
  refine wpAnyH_take (i := 19) (oi := { dst := some 33, op := Go.Op.binOp Go.BinOp.neq 22 (Go.Operand.tmp 30) (Go.Operand.tmp 32) 22, type := 4, pos := "law.go:67", after := #[⟨16, .data⟩, ⟨18, .data⟩, ⟨14, .guard⟩], guard := some (14, false) }) (v := ?va20) rfl (by kernel_rfl) (by kernel_rfl) (by kernel_rfl) (fun _ _ _ h => h) (Or.inl ⟨by rfl, ?ra20⟩) (by assumption) ?_
  case ra20 => (intro w hSw; (try dsimp only at hSw); (go_simp <;> with_reducible rfl))
  try simp only [Act.put, List.setIfInBounds_toArray, List.set_cons_zero, List.set_cons_succ]
  refine wpAnyH_take (i := 20) (oi := { dst := some 34, op := Go.Op.pick (Go.Operand.tmp 28) (Go.Operand.const (Go.Value.bool true)) (Go.Operand.tmp 33), type := 4, pos := "law.go:67", after := #[⟨14, .data⟩, ⟨19, .data⟩], guard := none }) (v := ?va21) rfl (by kernel_rfl) (by kernel_rfl) (by kernel_rfl) (fun _ _ _ h => h) (Or.inl ⟨by rfl, ?ra21⟩) (by assumption) ?_
  case ra21 => (intro w hSw; (try dsimp only at hSw); (go_simp <;> with_reducible rfl))
  try simp only [Act.put, List.setIfInBounds_toArray, List.set_cons_zero, List.set_cons_succ]
  refine wpAnyH_done (by kernel_rfl) ?_ _
  have GW := Lib.hid HG5.out
  clear HG3 HG4 HG5 HRV HX2 HWA HAL HLA h19
  generalize w5 = wy at *
  go_wp2_with fail
  go_loopw [37] (fun i wr => ∃ k : Nat, k ≤ B.H.length ∧ i = .int .i64 k ∧ Hid (Gr w2 wr)) (fun i _ => B.H.length - (intOf i).toNat)
  case atStart => exact ⟨0, by omega, rfl, GW⟩
  case round =>
    clear GW
    obtain ⟨k, hk, rfl, hG⟩ := hrel
    by_cases hlt : k < B.H.length
    · obtain ⟨g, cap, hv, d0, d1, d2, d3⟩ := lokrow_at (ownsRow_gr hG.out HRV2.out) k hlt
      simp only [Value.slice.injEq] at hv
      obtain ⟨rfl, hnn, rfl⟩ := hv
      clear hnn
      have HPX := Lib.hid (HRL.out.pathH _ (List.getElem_mem hlt))
      have HAN := Lib.hid (any_here22 HRL.out.h (List.getElem_mem hlt))
      have HXB := Lib.hid (Blk.new wr #[.int .i64 B.H[k].ses, .string B.H[k].txt, .bool B.H[k].ex, .int .u64 B.H[k].tok] 42)
      have HGX := Lib.hid (hG.out.alloc (.cells #[.int .i64 B.H[k].ses, .string B.H[k].txt, .bool B.H[k].ex, .int .u64 B.H[k].tok] 42))
      have HORD := Lib.hid (fun j (e : k = j + 1) => show ∃ pv : Lok, IsPath pv.txt ∧ wr.cell? ⟨g, j * 4 + 1, none⟩ = some (.string pv.txt) ∧ wr.cell? ⟨g, j * 4, none⟩ = some (.int .i64 pv.ses) ∧ ¬ 0 < cmpP (pof pv.txt) (pof B.H[k].txt) ∧ (cmpP (pof pv.txt) (pof B.H[k].txt) = 0 → ¬ B.H[k].ses ≤ pv.ses) from by
        subst e
        obtain ⟨g', cap', hv', q0, q1, _, _⟩ := lokrow_at (ownsRow_gr hG.out HRV2.out) j (by omega)
        simp only [Value.slice.injEq, Option.some.injEq, Addr.mk.injEq, and_true] at hv'
        obtain ⟨rfl, _⟩ := hv'
        exact ⟨B.H[j], HRL.out.pathH _ (List.getElem_mem _), q1, q0, held_order HRL.out.pre j hlt⟩)
      generalize B.H[k] = x at *
      go_upto_region 7 with fail
      generalize hgx : wr.alloc (.cells #[.int .i64 x.ses, .string x.txt, .bool x.ex, .int .u64 x.tok] 42) = wx at *
      generalize hcx : wr.heap.size = cx at *
      have hgrx : Gr wr wx := by rw [← hgx]; exact (Gr.refl wr).alloc _
      have HGRX := Lib.hid hgrx
      clear hgx hcx hgrx d0 d1 d2 d3
      have inner : ∀ (K : Nat), True := fun _ => trivial
      clear inner
      rcases Nat.eq_zero_or_pos k with hk0 | hk0
      · subst hk0
        have hW0 := Lib.hid (Gr.refl wx)
        go_upto_region 12 with fail
        have HWS : Hid (Gr wx wx) := Lib.hid (Gr.refl _)
        have HGS := Lib.hid (HGX.out.trans HWS.out)
        have b0 := (HBX2.out.gr HGS.out).cell (i := 0) rfl
        go_wp2_with fail
        go_loopw [9, 73] (fun fd i wr => ∃ m : Nat, m ≤ H.length ∧ i = .int .i64 m ∧ fd = .bool ((H.take m).any (sameX x)) ∧ Hid (Gr wx wr)) (fun _ i _ => H.length - (intOf i).toNat)
        case atStart => exact ⟨0, by omega, rfl, rfl, Lib.hid (by first | exact Gr.refl _ | exact (Gr.refl _).drewN _)⟩
        case round =>
          clear b0
          obtain ⟨m, hm, rfl, rfl, hV⟩ := hrel
          by_cases hml : m < H.length
          · obtain ⟨g2, cap2, hv2, f0, f1, f2, f3, hlies⟩ := rlrow_at (HRH.out.gr (HG2.out.trans (HGS.out.trans hV.out))) m hml
            simp only [Value.slice.injEq] at hv2
            obtain ⟨rfl, hnn, rfl⟩ := hv2
            clear hnn
            have HSN := Lib.hid (any_snoc (sameX x) H m hml)
            have HLY := Lib.hid (hlies.gr ((Gr.refl wr).alloc (.cells #[.int .i64 H[m].ses, .slice H[m].a H[m].l.length H[m].c, .bool H[m].ex, .int .u64 H[m].tok] 71)))
            have HYB := Lib.hid (Blk.new wr #[.int .i64 H[m].ses, .slice H[m].a H[m].l.length H[m].c, .bool H[m].ex, .int .u64 H[m].tok] 71)
            have HGV := Lib.hid (hV.out.alloc (.cells #[.int .i64 H[m].ses, .slice H[m].a H[m].l.length H[m].c, .bool H[m].ex, .int .u64 H[m].tok] 71))
            clear hlies
            generalize H[m] = y at *
            go_upto_region 15 with fail
            generalize wr.alloc (.cells #[.int .i64 y.ses, .slice y.a y.l.length y.c, .bool y.ex, .int .u64 y.tok] 71) = wy at *
            generalize wr.heap.size = cy at *
            clear f0 f1 f2 f3
            have x0 := (HXB.out.gr (HWS.out.trans HGV.out)).cell (i := 0) rfl
            have x1 := (HXB.out.gr (HWS.out.trans HGV.out)).cell (i := 1) rfl
            have x2 := (HXB.out.gr (HWS.out.trans HGV.out)).cell (i := 2) rfl
            have x3 := (HXB.out.gr (HWS.out.trans HGV.out)).cell (i := 3) rfl
            have y0 := HYB.out.cell (i := 0) rfl
            have y1 := HYB.out.cell (i := 1) rfl
            have y2 := HYB.out.cell (i := 2) rfl
            have y3 := HYB.out.cell (i := 3) rfl
            cases hf : (H.take m).any (sameX x)
            · rw [hf, Bool.false_or] at HSN
              have HSM := Lib.hid (sameX_any x y wy HPX.out HLY.out (HML.out wy (HG2.out.trans (HGS.out.trans HGV.out))))
              clear hf
              go_wp2_with fail
              refine HSM.out.mono ?_
              rintro e wz ⟨rfl, hgz⟩
              have HGZ := Lib.hid (HGV.out.trans hgz)
              clear hgz HSM x0 x1 x2 x3 y0 y1 y2 y3
              go_wp2
              exact ⟨⟨m + 1, hml, by simp, by rw [HSN.out], HGZ⟩, by simp [intOf]; omega⟩
            · rw [hf, Bool.true_or] at HSN
              clear hf
              go_wp2
              exact ⟨⟨m + 1, hml, by simp, by rw [HSN.out], HGV⟩, by simp [intOf]; omega⟩
          · obtain rfl : m = H.length := by omega
            rw [List.take_length, HAN.out]
            have HGE := Lib.hid (HGS.out.trans hV.out)
            go_wp2
            exact ⟨⟨0 + 1, hlt, by simp, HGE⟩, by simp [intOf]; omega⟩
      · obtain ⟨j, rfl⟩ : ∃ j, k = j + 1 := ⟨k - 1, by omega⟩
        obtain ⟨pv, hpv, q1, q0, ho1, ho2⟩ := HORD.out j rfl
        have q1 := HGRX.out.cell q1
        have q0 := HGRX.out.cell q0
        have x1 := HXB.out.cell (i := 1) rfl
        have HQ0 := Lib.hid q0
        have hwj : IntKind.i64.wrap (j : Int) = (j : Int) := IntWalk.i64_in _ (by omega)
        have hjl : j < B.H.length := by omega
        have hgt : decide (0 < ((j : Int) + 1)) = true := decide_eq_true (by omega)
        have HCM : Hid (∀ w', Gr wx w' → Calls Tryz.prog 29 #[.agg #[.string pv.txt], .agg #[.string x.txt]] w' fun e w'' => e = .returned (.int .i64 (cmpP (pof pv.txt) (pof x.txt))) ∧ Gr w' w'') := Lib.hid fun w' hg => by
          obtain ⟨o1, t1⟩ := pof_ok hpv
          obtain ⟨o2, t2⟩ := pof_ok HPX.out
          have h9 := compare_any (pof pv.txt) (pof x.txt) w' o1 o2 (HML.out w' (HG2.out.trans (HGX.out.trans hg)))
          rwa [t1, t2] at h9
        have HX8 : Hid (∀ w0 : World, Gr wx w0 → (fun w0 => Gr wx w0 ∧ w0.cell? ⟨g, j * 4 + 1, none⟩ = some (.string pv.txt) ∧ w0.cell? ⟨cx, 1, none⟩ = some (.string x.txt)) w0) := Lib.hid fun w0 hg => ⟨hg, hg.cell q1, hg.cell x1⟩
        clear q1 q0 x1 hpv
        generalize cmpP (pof pv.txt) (pof x.txt) = cc at *
        go_upto_region 8 with fail
        go_wp2_with fail
        refine wp_region_held_drew (S := (fun w0 => Gr wx w0 ∧ w0.cell? ⟨g, j * 4 + 1, none⟩ = some (.string pv.txt) ∧ w0.cell? ⟨cx, 1, none⟩ = some (.string x.txt))) (by kernel_rfl) ?invb (fun h0 => ?_)
        case invb => ((try dsimp only); (exact HX8.out _ (Gr.refl _).drew))
        refine wpAnyH_take (i := 0) (oi := { dst := some 44, op := Go.Op.move (Go.Operand.tmp 5), type := 37, pos := "law.go:72", after := #[], guard := none }) (v := ?vb1) rfl (by kernel_rfl) (by kernel_rfl) (by kernel_rfl) (fun _ _ _ h => h) (Or.inl ⟨by rfl, ?rb1⟩) (by assumption) ?_
        case rb1 => (intro w hSw; (try dsimp only at hSw); (go_simp <;> with_reducible rfl))
        try simp only [Act.put, List.setIfInBounds_toArray, List.set_cons_zero, List.set_cons_succ]
        refine wpAnyH_take (i := 1) (oi := { dst := some 45, op := Go.Op.move (Go.Operand.tmp 6), type := 3, pos := "law.go:72", after := #[], guard := none }) (v := ?vb2) rfl (by kernel_rfl) (by kernel_rfl) (by kernel_rfl) (fun _ _ _ h => h) (Or.inl ⟨by rfl, ?rb2⟩) (by assumption) ?_
        case rb2 => (intro w hSw; (try dsimp only at hSw); (go_simp <;> with_reducible rfl))
        try simp only [Act.put, List.setIfInBounds_toArray, List.set_cons_zero, List.set_cons_succ]
        refine wpAnyH_take (i := 2) (oi := { dst := some 46, op := Go.Op.binOp Go.BinOp.sub 3 (Go.Operand.tmp 45) (Go.Operand.const (Go.Value.int Go.IntKind.i64 1)) 3, type := 3, pos := "law.go:72", after := #[⟨1, .data⟩], guard := none }) (v := ?vb3) rfl (by kernel_rfl) (by kernel_rfl) (by kernel_rfl) (fun _ _ _ h => h) (Or.inl ⟨by rfl, ?rb3⟩) (by assumption) ?_
        case rb3 => (intro w hSw; (try dsimp only at hSw); (go_simp <;> with_reducible rfl))
        try simp only [Act.put, List.setIfInBounds_toArray, List.set_cons_zero, List.set_cons_succ]
        refine wpAnyH_take (i := 3) (oi := { dst := some 47, op := Go.Op.indexAddr 37 (Go.Operand.tmp 44) (Go.Operand.tmp 46), type := 0, pos := "law.go:72", after := #[⟨0, .data⟩, ⟨2, .data⟩], guard := none }) (v := ?vb4) rfl (by kernel_rfl) (by kernel_rfl) (by kernel_rfl) (fun _ _ _ h => h) (Or.inl ⟨by rfl, ?rb4⟩) (by assumption) ?_
        case rb4 => (intro w hSw; (try dsimp only at hSw); (go_simp <;> with_reducible rfl))
        try simp only [Act.put, List.setIfInBounds_toArray, List.set_cons_zero, List.set_cons_succ]
        refine wpAnyH_take (i := 4) (oi := { dst := some 48, op := Go.Op.fieldAddr 42 (Go.Operand.tmp 47) 1, type := 0, pos := "law.go:72", after := #[⟨3, .data⟩], guard := none }) (v := ?vb5) rfl (by kernel_rfl) (by kernel_rfl) (by kernel_rfl) (fun _ _ _ h => h) (Or.inl ⟨by rfl, ?rb5⟩) (by assumption) ?_
        case rb5 => (intro w hSw; (try dsimp only at hSw); (go_simp <;> with_reducible rfl))
        try simp only [Act.put, List.setIfInBounds_toArray, List.set_cons_zero, List.set_cons_succ]
        refine wpAnyH_take (i := 5) (oi := { dst := some 49, op := Go.Op.load 40 (Go.Operand.tmp 48), type := 40, pos := "law.go:72", after := #[⟨4, .data⟩], guard := none }) (v := ?vb6) rfl (by kernel_rfl) (by kernel_rfl) (by kernel_rfl) (fun _ _ _ h => h) (Or.inl ⟨by rfl, ?rb6⟩) (by assumption) ?_
        case rb6 => (intro w hSw; (try dsimp only at hSw); (go_simp <;> with_reducible rfl))
        try simp only [Act.put, List.setIfInBounds_toArray, List.set_cons_zero, List.set_cons_succ]
        refine wpAnyH_take (i := 6) (oi := { dst := some 50, op := Go.Op.fieldAddr 42 (Go.Operand.tmp 7) 1, type := 0, pos := "law.go:72", after := #[], guard := none }) (v := ?vb7) rfl (by kernel_rfl) (by kernel_rfl) (by kernel_rfl) (fun _ _ _ h => h) (Or.inl ⟨by rfl, ?rb7⟩) (by assumption) ?_
        case rb7 => (intro w hSw; (try dsimp only at hSw); (go_simp <;> with_reducible rfl))
        try simp only [Act.put, List.setIfInBounds_toArray, List.set_cons_zero, List.set_cons_succ]
        refine wpAnyH_take (i := 7) (oi := { dst := some 51, op := Go.Op.load 40 (Go.Operand.tmp 50), type := 40, pos := "law.go:72", after := #[⟨6, .data⟩], guard := none }) (v := ?vb8) rfl (by kernel_rfl) (by kernel_rfl) (by kernel_rfl) (fun _ _ _ h => h) (Or.inl ⟨by rfl, ?rb8⟩) (by assumption) ?_
        case rb8 => (intro w hSw; (try dsimp only at hSw); (go_simp <;> with_reducible rfl))
        try simp only [Act.put, List.setIfInBounds_toArray, List.set_cons_zero, List.set_cons_succ]
        refine wpAnyH_ready (rs := [8]) (by kernel_rfl) (by simp) ?_
        refine AllReadyH.cons (o := { dst := some 52, op := Go.Op.call { callee := Go.Callee.value (Go.Operand.func 29), args := #[Go.Operand.tmp 49, Go.Operand.tmp 51], argTypes := #[40, 40] }, type := 3, pos := "law.go:72", after := #[⟨5, .data⟩, ⟨7, .data⟩], guard := none }) rfl (fun K hK => ?_) AllReadyH.nil
        go_simp
        go_at_call 29
        refine (HCM.out _ h0.1).mono ?_
        rintro e w6 ⟨rfl, hg6⟩
        have HG6 := Lib.hid (h0.1.trans hg6)
        first | refine hK.out _ _ ?sb9 (fun h9 => ?_) | (go_wp2_with fail; refine hK.out _ _ ?sb9 (fun h9 => ?_))
        case sb9 => ((try dsimp only); (exact HX8.out _ HG6.out))
        clear hK K h0
        try simp only [Act.put, List.setIfInBounds_toArray, List.set_cons_zero, List.set_cons_succ]
        refine wpAnyH_take (i := 9) (oi := { dst := some 8, op := Go.Op.assign (Go.Operand.tmp 52), type := 3, pos := "law.go:72", after := #[⟨8, .data⟩, ⟨8, .chain⟩, ⟨0, .phase⟩, ⟨1, .phase⟩, ⟨2, .phase⟩, ⟨3, .phase⟩, ⟨4, .phase⟩, ⟨5, .phase⟩, ⟨6, .phase⟩, ⟨7, .phase⟩, ⟨8, .phase⟩], guard := none }) (v := ?vb10) rfl (by kernel_rfl) (by kernel_rfl) (by kernel_rfl) (fun _ _ _ h => h) (Or.inl ⟨by rfl, ?rb10⟩) (by assumption) ?_
        case rb10 => (intro w hSw; (try dsimp only at hSw); (go_simp <;> with_reducible rfl))
        try simp only [Act.put, List.setIfInBounds_toArray, List.set_cons_zero, List.set_cons_succ]
        refine wpAnyH_done (by kernel_rfl) ?_ _
        have HW0 := Lib.hid HG6.out
        clear HX8 HG6 HCM
        have q0 := HW0.out.cell HQ0.out
        have x0 := (HXB.out.gr HW0.out).cell (i := 0) rfl
        have hc1 : decide (0 < cc) = false := decide_eq_false (by omega)
        clear HQ0
        by_cases hcc : cc = 0
        · have hc2 : (cc == 0) = true := by simpa using hcc
          have hc3 : decide (x.ses ≤ pv.ses) = false := decide_eq_false (by have := ho2 hcc; omega)
          clear ho1 ho2 hcc
          go_upto_region 9 with fail
          go_quiet (fail)
          go_upto_region 12 with fail
          have HWS : Hid (Gr wx w6) := Lib.hid (HW0.out)
          have HGS := Lib.hid (HGX.out.trans HWS.out)
          have b0 := (HBX2.out.gr HGS.out).cell (i := 0) rfl
          go_wp2_with fail
          go_loopw [9, 73] (fun fd i wr => ∃ m : Nat, m ≤ H.length ∧ i = .int .i64 m ∧ fd = .bool ((H.take m).any (sameX x)) ∧ Hid (Gr w6 wr)) (fun _ i _ => H.length - (intOf i).toNat)
          case atStart => exact ⟨0, by omega, rfl, rfl, Lib.hid (by first | exact Gr.refl _ | exact (Gr.refl _).drewN _)⟩
          case round =>
            clear b0
            obtain ⟨m, hm, rfl, rfl, hV⟩ := hrel
            by_cases hml : m < H.length
            · obtain ⟨g2, cap2, hv2, f0, f1, f2, f3, hlies⟩ := rlrow_at (HRH.out.gr (HG2.out.trans (HGS.out.trans hV.out))) m hml
              simp only [Value.slice.injEq] at hv2
              obtain ⟨rfl, hnn, rfl⟩ := hv2
              clear hnn
              have HSN := Lib.hid (any_snoc (sameX x) H m hml)
              have HLY := Lib.hid (hlies.gr ((Gr.refl wr).alloc (.cells #[.int .i64 H[m].ses, .slice H[m].a H[m].l.length H[m].c, .bool H[m].ex, .int .u64 H[m].tok] 71)))
              have HYB := Lib.hid (Blk.new wr #[.int .i64 H[m].ses, .slice H[m].a H[m].l.length H[m].c, .bool H[m].ex, .int .u64 H[m].tok] 71)
              have HGV := Lib.hid (hV.out.alloc (.cells #[.int .i64 H[m].ses, .slice H[m].a H[m].l.length H[m].c, .bool H[m].ex, .int .u64 H[m].tok] 71))
              clear hlies
              generalize H[m] = y at *
              go_upto_region 15 with fail
              generalize wr.alloc (.cells #[.int .i64 y.ses, .slice y.a y.l.length y.c, .bool y.ex, .int .u64 y.tok] 71) = wy at *
              generalize wr.heap.size = cy at *
              clear f0 f1 f2 f3
              have x0 := (HXB.out.gr (HWS.out.trans HGV.out)).cell (i := 0) rfl
              have x1 := (HXB.out.gr (HWS.out.trans HGV.out)).cell (i := 1) rfl
              have x2 := (HXB.out.gr (HWS.out.trans HGV.out)).cell (i := 2) rfl
              have x3 := (HXB.out.gr (HWS.out.trans HGV.out)).cell (i := 3) rfl
              have y0 := HYB.out.cell (i := 0) rfl
              have y1 := HYB.out.cell (i := 1) rfl
              have y2 := HYB.out.cell (i := 2) rfl
              have y3 := HYB.out.cell (i := 3) rfl
              cases hf : (H.take m).any (sameX x)
              · rw [hf, Bool.false_or] at HSN
                have HSM := Lib.hid (sameX_any x y wy HPX.out HLY.out (HML.out wy (HG2.out.trans (HGS.out.trans HGV.out))))
                clear hf
                go_wp2_with fail
                refine HSM.out.mono ?_
                rintro e wz ⟨rfl, hgz⟩
                have HGZ := Lib.hid (HGV.out.trans hgz)
                clear hgz HSM x0 x1 x2 x3 y0 y1 y2 y3
                go_wp2
                exact ⟨⟨m + 1, hml, by simp, by rw [HSN.out], HGZ⟩, by simp [intOf]; omega⟩
              · rw [hf, Bool.true_or] at HSN
                clear hf
                go_wp2
                exact ⟨⟨m + 1, hml, by simp, by rw [HSN.out], HGV⟩, by simp [intOf]; omega⟩
            · obtain rfl : m = H.length := by omega
              rw [List.take_length, HAN.out]
              have HGE := Lib.hid (HGS.out.trans hV.out)
              go_wp2
              exact ⟨⟨j + 1 + 1, hlt, by simp, HGE⟩, by simp [intOf]; omega⟩
        · have hc2 : (cc == 0) = false := by simpa using hcc
          clear ho1 ho2 hcc
          go_upto_region 9 with fail
          go_quiet (fail)
          go_upto_region 12 with fail
          have HWS : Hid (Gr wx w6) := Lib.hid (HW0.out)
          have HGS := Lib.hid (HGX.out.trans HWS.out)
          have b0 := (HBX2.out.gr HGS.out).cell (i := 0) rfl
          go_wp2_with fail
          go_loopw [9, 73] (fun fd i wr => ∃ m : Nat, m ≤ H.length ∧ i = .int .i64 m ∧ fd = .bool ((H.take m).any (sameX x)) ∧ Hid (Gr w6 wr)) (fun _ i _ => H.length - (intOf i).toNat)
          case atStart => exact ⟨0, by omega, rfl, rfl, Lib.hid (by first | exact Gr.refl _ | exact (Gr.refl _).drewN _)⟩
          case round =>
            clear b0
            obtain ⟨m, hm, rfl, rfl, hV⟩ := hrel
            by_cases hml : m < H.length
            · obtain ⟨g2, cap2, hv2, f0, f1, f2, f3, hlies⟩ := rlrow_at (HRH.out.gr (HG2.out.trans (HGS.out.trans hV.out))) m hml
              simp only [Value.slice.injEq] at hv2
              obtain ⟨rfl, hnn, rfl⟩ := hv2
              clear hnn
              have HSN := Lib.hid (any_snoc (sameX x) H m hml)
              have HLY := Lib.hid (hlies.gr ((Gr.refl wr).alloc (.cells #[.int .i64 H[m].ses, .slice H[m].a H[m].l.length H[m].c, .bool H[m].ex, .int .u64 H[m].tok] 71)))
              have HYB := Lib.hid (Blk.new wr #[.int .i64 H[m].ses, .slice H[m].a H[m].l.length H[m].c, .bool H[m].ex, .int .u64 H[m].tok] 71)
              have HGV := Lib.hid (hV.out.alloc (.cells #[.int .i64 H[m].ses, .slice H[m].a H[m].l.length H[m].c, .bool H[m].ex, .int .u64 H[m].tok] 71))
              clear hlies
              generalize H[m] = y at *
              go_upto_region 15 with fail
              generalize wr.alloc (.cells #[.int .i64 y.ses, .slice y.a y.l.length y.c, .bool y.ex, .int .u64 y.tok] 71) = wy at *
              generalize wr.heap.size = cy at *
              clear f0 f1 f2 f3
              have x0 := (HXB.out.gr (HWS.out.trans HGV.out)).cell (i := 0) rfl
              have x1 := (HXB.out.gr (HWS.out.trans HGV.out)).cell (i := 1) rfl
              have x2 := (HXB.out.gr (HWS.out.trans HGV.out)).cell (i := 2) rfl
              have x3 := (HXB.out.gr (HWS.out.trans HGV.out)).cell (i := 3) rfl
              have y0 := HYB.out.cell (i := 0) rfl
              have y1 := HYB.out.cell (i := 1) rfl
              have y2 := HYB.out.cell (i := 2) rfl
              have y3 := HYB.out.cell (i := 3) rfl
              cases hf : (H.take m).any (sameX x)
              · rw [hf, Bool.false_or] at HSN
                have HSM := Lib.hid (sameX_any x y wy HPX.out HLY.out (HML.out wy (HG2.out.trans (HGS.out.trans HGV.out))))
                clear hf
                go_wp2_with fail
                refine HSM.out.mono ?_
                rintro e wz ⟨rfl, hgz⟩
                have HGZ := Lib.hid (HGV.out.trans hgz)
                clear hgz HSM x0 x1 x2 x3 y0 y1 y2 y3
                go_wp2
                exact ⟨⟨m + 1, hml, by simp, by rw [HSN.out], HGZ⟩, by simp [intOf]; omega⟩
              · rw [hf, Bool.true_or] at HSN
                clear hf
                go_wp2
                exact ⟨⟨m + 1, hml, by simp, by rw [HSN.out], HGV⟩, by simp [intOf]; omega⟩
            · obtain rfl : m = H.length := by omega
              rw [List.take_length, HAN.out]
              have HGE := Lib.hid (HGS.out.trans hV.out)
              go_wp2
              exact ⟨⟨j + 1 + 1, hlt, by simp, HGE⟩, by simp [intOf]; omega⟩
    · obtain rfl : k = B.H.length := by omega
      go_wp2
      go_ret
      exact ⟨rfl, HG2.out.trans hG.out⟩
end Go.Proofs.YtmgpnpmdmelnkaaGreatDoor
