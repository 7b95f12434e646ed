import Derived.Test.YtfpnglomemjniaaDoorF05h
import Derived.Test.YtfpnglomemjniaaDoorF05i
import Derived.Test.YtfpnglomemjniaaDoorF05j
import Derived.Test.YtfpnglomemjniaaDoorF05l
import Derived.WalkKit
import Derived.ProofKit
import Derived.LoopTactic
import Derived.Outline
import Derived.WalkSpells
import Derived.WalkLawsBesides
import Derived.Lib.Hide
import Derived.Deep.LoopGhost
import Derived.Deep.QuietTactic
import Derived.BigQuiet
import Derived.ShutString
import Derived.Deep.RegionHeld3
namespace Go.Proofs.YtfpnglomemjniaaDoor
open Go.ChangeShapes Go.WideShapes Go.ChangeAt Go.RowKit
set_option linter.unusedVariables false
set_option linter.unusedSimpArgs false
theorem sameP_text (l m : List ByteArray) (hl : okParts l = true) (hm : okParts m = true) : ((ptext l).toList == (ptext m).toList) = sameP l m := by
  rw [str_ne, Bool.eq_iff_iff]
  simp only [decide_eq_true_eq, sameP]
  constructor
  · intro h
    have h1 : shown l = shown m := by
      unfold shown
      by_cases h2 : l = []
      · subst h2
        have : m = [] := (ptext_nil_iff m).1 (h.symm.trans rfl)
        rw [this]
      · have h3 : m ≠ [] := fun e => h2 ((ptext_nil_iff l).1 (h.trans (by rw [e]; rfl)))
        rw [if_neg h2, if_neg h3, h]
    have := parseOf_shown hl
    rw [h1, parseOf_shown hm] at this
    exact (Option.some.inj this).symm
  · rintro rfl; rfl
set_option maxRecDepth 100000 in
set_option maxHeartbeats 8000000 in
theorem pathLines_walk (ss : List ByteArray) (a : Option Addr) (c : Nat) (tt : List ByteArray) (a' : Option Addr) (c' : Nat) (w : World) (h : Strs w a ss) (h' : Strs w a' tt) (he : ET w) (hm : ML w) :
    Calls Tryd.prog 5 #[.slice a ss.length c, .slice a' tt.length c'] w fun e w' => e = .returned (.bool true) ∧ Gr w w' := by
  have HS := Lib.hid h
  have HS' := Lib.hid h'
  have HE := Lib.hid he
  have HM := Lib.hid hm
  clear h h' he hm
  go_enter Tryd.func5, Tryd.ntmps5
  go_wp2_with fail
  refine (awake_any _ HE.out HM.out).mono ?_
  rintro e w1 ⟨rfl, hg1⟩
  have HG1 := Lib.hid hg1
  clear hg1
  go_wp2_with fail
  refine (lawMade_any a ss c _ (HS.out.gr HG1.out) (HE.out.gr HG1.out)).mono ?_
  rintro e w2 ⟨ao, co, rfl, hst, hg2⟩
  have hok := madeL_ok ss
  generalize madeL ss = l at *
  have HG2 := Lib.hid ((HG1.out.trans hg2).alloc (.cells #[.string (ptext l)] 24))
  have HL2 := Lib.hid (hst.gr ((Gr.refl w2).alloc (.cells #[.string (ptext l)] 24)))
  have c0 : (w2.alloc (.cells #[.string (ptext l)] 24)).cell? ⟨w2.heap.size, 0, none⟩ = some (.string (ptext l)) := new_cell rfl rfl
  have C0 := Lib.hid c0
  clear hst hg2 c0
  go_wp2_with fail
  refine (lawMade_any a' tt c' _ (HS'.out.gr HG2.out) (HE.out.gr HG2.out)).mono ?_
  rintro e w3 ⟨bo, co', rfl, hst, hg3⟩
  have hok' := madeL_ok tt
  generalize madeL tt = m at *
  have hG := (HG2.out.trans hg3).alloc (.cells #[.string (ptext m)] 24)
  have hL := HL2.out.gr (hg3.alloc (.cells #[.string (ptext m)] 24))
  have hM := hst.gr ((Gr.refl w3).alloc (.cells #[.string (ptext m)] 24))
  have c1 := (hg3.alloc (.cells #[.string (ptext m)] 24)).cell C0.out
  have c2 : (w3.alloc (.cells #[.string (ptext m)] 24)).cell? ⟨w3.heap.size, 0, none⟩ = some (.string (ptext m)) := new_cell rfl rfl
  clear hst hg3 C0 HL2 HG2
  have O1 := Lib.hid (fun w => over_any l m w hok hok')
  have O2 := Lib.hid (fun w => over_any m l w hok' hok)
  have I := Lib.hid (fun w => inLine_any l m w hok hok')
  have KC := Lib.hid (fun w h => compare_any l m w hok hok' h)
  have R1 := Lib.hid (fun a b c d w h1 h2 => refOver_any l m a b c d w h1 h2)
  have R2 := Lib.hid (fun a b c d w h1 h2 => refOver_any m l a b c d w h1 h2)
  have RK := Lib.hid (fun a b c d w h1 h2 => refCompare_any l m a b c d w h1 h2)
  have RS := Lib.hid (fun a b c d w h1 h2 => same_any l m a b c d w h1 h2)
  have heq := sameP_text l m hok hok'
  go_wp2
  generalize (w3.alloc (.cells #[.string (ptext m)] 24)) = wr at *
  generalize w3.heap.size = p2 at *
  generalize w2.heap.size = p1 at *
  generalize ptext l = t at *
  generalize ptext m = u at *
  generalize cmpP l m = k at *
  generalize sameP l m = z at *
  generalize overP l m = x at *
  generalize overP m l = y at *
  clear hok hok'
  have hX : Hid (∀ w0 w9 : World, Gr w0 w9 → Gr w w0 ∧ w0.cell? ⟨p1, 0, none⟩ = some (.string t) ∧ w0.cell? ⟨p2, 0, none⟩ = some (.string u) ∧ Strs w0 ao l ∧ Strs w0 bo m → Gr w w9 ∧ w9.cell? ⟨p1, 0, none⟩ = some (.string t) ∧ w9.cell? ⟨p2, 0, none⟩ = some (.string u) ∧ Strs w9 ao l ∧ Strs w9 bo m) :=
    Lib.hid fun w0 w9 hg ⟨h1, h2, h3, h4, h5⟩ => ⟨h1.trans hg, hg.cell h2, hg.cell h3, h4.gr hg, h5.gr hg⟩
  have hD : Hid (∀ w0 : World, Gr w w0 ∧ w0.cell? ⟨p1, 0, none⟩ = some (.string t) ∧ w0.cell? ⟨p2, 0, none⟩ = some (.string u) ∧ Strs w0 ao l ∧ Strs w0 bo m → Gr w w0.drew ∧ w0.drew.cell? ⟨p1, 0, none⟩ = some (.string t) ∧ w0.drew.cell? ⟨p2, 0, none⟩ = some (.string u) ∧ Strs w0.drew ao l ∧ Strs w0.drew bo m) :=
    Lib.hid fun w0 h => hX.out _ _ ((Gr.refl _).drew) h
  have HS0 := And.intro hG (And.intro c1 (And.intro c2 (And.intro hL hM)))
  clear hG c1 c2 hL hM
  cases z
  all_goals cases x
  · skip
    refine wp_region_held_drew (S := (fun w' => Gr w w' ∧ w'.cell? ⟨p1, 0, none⟩ = some (.string t) ∧ w'.cell? ⟨p2, 0, none⟩ = some (.string u) ∧ Strs w' ao l ∧ Strs w' bo m)) (by kernel_rfl) ?inva (fun h0 => ?_)
    case inva => ((try dsimp only); (first | exact HS0 | exact hD.out _ HS0))
    refine wpAnyH_take (i := 0) (oi := { dst := some 21, op := Go.Op.load 24 (Go.Operand.tmp 5), type := 24, pos := "law.go:83", after := #[], guard := none }) (v := ?va0) rfl (by kernel_rfl) (by kernel_rfl) (by kernel_rfl) (fun _ _ _ h => h) (Or.inl ⟨by rfl, ?ra0⟩) (by assumption) ?_
    case ra0 => (intro w hSw; (try dsimp only at hSw); (go_simp <;> with_reducible rfl))
    try simp only [Act.put, List.setIfInBounds_toArray, List.set_cons_zero, List.set_cons_succ]
    refine wpAnyH_take (i := 1) (oi := { dst := some 22, op := Go.Op.load 24 (Go.Operand.tmp 7), type := 24, pos := "law.go:83", after := #[], guard := none }) (v := ?va1) rfl (by kernel_rfl) (by kernel_rfl) (by kernel_rfl) (fun _ _ _ h => h) (Or.inl ⟨by rfl, ?ra1⟩) (by assumption) ?_
    case ra1 => (intro w hSw; (try dsimp only at hSw); (go_simp <;> with_reducible rfl))
    try simp only [Act.put, List.setIfInBounds_toArray, List.set_cons_zero, List.set_cons_succ]
    refine wpAnyH_take (i := 3) (oi := { dst := some 24, op := Go.Op.move (Go.Operand.tmp 6), type := 29, pos := "law.go:83", after := #[], guard := none }) (v := ?va3) rfl (by kernel_rfl) (by kernel_rfl) (by kernel_rfl) (fun _ _ _ h => h) (Or.inl ⟨by rfl, ?ra3⟩) (by assumption) ?_
    case ra3 => (intro w hSw; (try dsimp only at hSw); (go_simp <;> with_reducible rfl))
    try simp only [Act.put, List.setIfInBounds_toArray, List.set_cons_zero, List.set_cons_succ]
    refine wpAnyH_take (i := 4) (oi := { dst := some 25, op := Go.Op.move (Go.Operand.tmp 8), type := 29, pos := "law.go:83", after := #[], guard := none }) (v := ?va4) rfl (by kernel_rfl) (by kernel_rfl) (by kernel_rfl) (fun _ _ _ h => h) (Or.inl ⟨by rfl, ?ra4⟩) (by assumption) ?_
    case ra4 => (intro w hSw; (try dsimp only at hSw); (go_simp <;> with_reducible rfl))
    try simp only [Act.put, List.setIfInBounds_toArray, List.set_cons_zero, List.set_cons_succ]
    refine wpAnyH_ready (rs := [2]) (by kernel_rfl) (by simp) ?_
    refine AllReadyH.cons (o := { dst := some 23, op := Go.Op.call { callee := Go.Callee.value (Go.Operand.func 24), args := #[Go.Operand.tmp 21, Go.Operand.tmp 22], argTypes := #[24, 24] }, type := 4, pos := "law.go:83", after := #[{ on := 0, ground := Go.Ground.data }, { on := 1, ground := Go.Ground.data }], guard := none }) rfl (fun K hK => ?_) AllReadyH.nil
    go_simp
    (go_at_call 24; refine (O1.out _).mono ?_; rintro e w9 ⟨rfl, hgN⟩)
    first | refine hK.out _ _ ?sa1 (fun h1 => ?_) | (go_wp2_with fail; refine hK.out _ _ ?sa1 (fun h1 => ?_))
    case sa1 => ((try dsimp only); exact hX.out _ _ hgN h0)
    clear hK K h0
    try simp only [Act.put, List.setIfInBounds_toArray, List.set_cons_zero, List.set_cons_succ]
    refine wpAnyH_ready (rs := [5]) (by kernel_rfl) (by simp) ?_
    refine AllReadyH.cons (o := { dst := some 26, op := Go.Op.call { callee := Go.Callee.value (Go.Operand.func 26), args := #[Go.Operand.tmp 24, Go.Operand.tmp 25], argTypes := #[29, 29] }, type := 4, pos := "law.go:83", after := #[{ on := 3, ground := Go.Ground.data }, { on := 4, ground := Go.Ground.data }, { on := 2, ground := Go.Ground.chain }], guard := none }) rfl (fun K hK => ?_) AllReadyH.nil
    go_simp
    (go_at_call 26; refine (R1.out _ _ _ _ _ h1.2.2.2.1 h1.2.2.2.2).mono ?_; rintro e w9 ⟨rfl, hgN⟩)
    first | refine hK.out _ _ ?sa2 (fun h2 => ?_) | (go_wp2_with fail; refine hK.out _ _ ?sa2 (fun h2 => ?_))
    case sa2 => ((try dsimp only); exact hX.out _ _ hgN h1)
    clear hK K h1
    try simp only [Act.put, List.setIfInBounds_toArray, List.set_cons_zero, List.set_cons_succ]
    refine wpAnyH_take (i := 6) (oi := { dst := some 27, op := Go.Op.binOp Go.BinOp.eql 4 (Go.Operand.tmp 23) (Go.Operand.tmp 26) 4, type := 4, pos := "law.go:83", after := #[{ on := 2, ground := Go.Ground.data }, { on := 5, ground := Go.Ground.data }], guard := none }) (v := ?va6) rfl (by kernel_rfl) (by kernel_rfl) (by kernel_rfl) (fun _ _ _ h => h) (Or.inl ⟨by rfl, ?ra6⟩) (by assumption) ?_
    case ra6 => (intro w hSw; (try dsimp only at hSw); (go_simp <;> with_reducible rfl))
    try simp only [Act.put, List.setIfInBounds_toArray, List.set_cons_zero, List.set_cons_succ]
    refine wpAnyH_take (i := 7) (oi := { dst := some 28, op := Go.Op.move (Go.Operand.tmp 27), type := 4, pos := "law.go:83", after := #[{ on := 6, ground := Go.Ground.data }, { on := 5, ground := Go.Ground.chain }], guard := none }) (v := ?va7) rfl (by kernel_rfl) (by kernel_rfl) (by kernel_rfl) (fun _ _ _ h => h) (Or.inl ⟨by rfl, ?ra7⟩) (by assumption) ?_
    case ra7 => (intro w hSw; (try dsimp only at hSw); (go_simp <;> with_reducible rfl))
    try simp only [Act.put, List.setIfInBounds_toArray, List.set_cons_zero, List.set_cons_succ]
    refine wpAnyH_take (i := 8) (oi := { dst := some 29, op := Go.Op.load 24 (Go.Operand.tmp 7), type := 24, pos := "law.go:83", after := #[{ on := 7, ground := Go.Ground.guard }], guard := some (7, true) }) (v := ?va8) rfl (by kernel_rfl) (by kernel_rfl) (by kernel_rfl) (fun _ _ _ h => h) (Or.inl ⟨by rfl, ?ra8⟩) (by assumption) ?_
    case ra8 => (intro w hSw; (try dsimp only at hSw); (go_simp <;> with_reducible rfl))
    try simp only [Act.put, List.setIfInBounds_toArray, List.set_cons_zero, List.set_cons_succ]
    refine wpAnyH_take (i := 9) (oi := { dst := some 30, op := Go.Op.load 24 (Go.Operand.tmp 5), type := 24, pos := "law.go:83", after := #[{ on := 7, ground := Go.Ground.guard }], guard := some (7, true) }) (v := ?va9) rfl (by kernel_rfl) (by kernel_rfl) (by kernel_rfl) (fun _ _ _ h => h) (Or.inl ⟨by rfl, ?ra9⟩) (by assumption) ?_
    case ra9 => (intro w hSw; (try dsimp only at hSw); (go_simp <;> with_reducible rfl))
    try simp only [Act.put, List.setIfInBounds_toArray, List.set_cons_zero, List.set_cons_succ]
    refine wpAnyH_take (i := 11) (oi := { dst := some 32, op := Go.Op.move (Go.Operand.tmp 8), type := 29, pos := "law.go:83", after := #[{ on := 7, ground := Go.Ground.guard }], guard := some (7, true) }) (v := ?va11) rfl (by kernel_rfl) (by kernel_rfl) (by kernel_rfl) (fun _ _ _ h => h) (Or.inl ⟨by rfl, ?ra11⟩) (by assumption) ?_
    case ra11 => (intro w hSw; (try dsimp only at hSw); (go_simp <;> with_reducible rfl))
    try simp only [Act.put, List.setIfInBounds_toArray, List.set_cons_zero, List.set_cons_succ]
    refine wpAnyH_take (i := 12) (oi := { dst := some 33, op := Go.Op.move (Go.Operand.tmp 6), type := 29, pos := "law.go:83", after := #[{ on := 7, ground := Go.Ground.guard }], guard := some (7, true) }) (v := ?va12) rfl (by kernel_rfl) (by kernel_rfl) (by kernel_rfl) (fun _ _ _ h => h) (Or.inl ⟨by rfl, ?ra12⟩) (by assumption) ?_
    case ra12 => (intro w hSw; (try dsimp only at hSw); (go_simp <;> with_reducible rfl))
    try simp only [Act.put, List.setIfInBounds_toArray, List.set_cons_zero, List.set_cons_succ]
    refine wpAnyH_ready (rs := [10]) (by kernel_rfl) (by simp) ?_
    refine AllReadyH.cons (o := { dst := some 31, op := Go.Op.call { callee := Go.Callee.value (Go.Operand.func 24), args := #[Go.Operand.tmp 29, Go.Operand.tmp 30], argTypes := #[24, 24] }, type := 4, pos := "law.go:83", after := #[{ on := 8, ground := Go.Ground.data }, { on := 9, ground := Go.Ground.data }, { on := 7, ground := Go.Ground.chain }, { on := 7, ground := Go.Ground.guard }], guard := some (7, true) }) rfl (fun K hK => ?_) AllReadyH.nil
    go_simp
    (go_at_call 24; refine (O2.out _).mono ?_; rintro e w9 ⟨rfl, hgN⟩)
    first | refine hK.out _ _ ?sa3 (fun h3 => ?_) | (go_wp2_with fail; refine hK.out _ _ ?sa3 (fun h3 => ?_))
    case sa3 => ((try dsimp only); exact hX.out _ _ hgN h2)
    clear hK K h2
    try simp only [Act.put, List.setIfInBounds_toArray, List.set_cons_zero, List.set_cons_succ]
    refine wpAnyH_ready (rs := [13]) (by kernel_rfl) (by simp) ?_
    refine AllReadyH.cons (o := { dst := some 34, op := Go.Op.call { callee := Go.Callee.value (Go.Operand.func 26), args := #[Go.Operand.tmp 32, Go.Operand.tmp 33], argTypes := #[29, 29] }, type := 4, pos := "law.go:83", after := #[{ on := 11, ground := Go.Ground.data }, { on := 12, ground := Go.Ground.data }, { on := 10, ground := Go.Ground.chain }, { on := 7, ground := Go.Ground.guard }], guard := some (7, true) }) rfl (fun K hK => ?_) AllReadyH.nil
    go_simp
    (go_at_call 26; refine (R2.out _ _ _ _ _ h3.2.2.2.2 h3.2.2.2.1).mono ?_; rintro e w9 ⟨rfl, hgN⟩)
    first | refine hK.out _ _ ?sa4 (fun h4 => ?_) | (go_wp2_with fail; refine hK.out _ _ ?sa4 (fun h4 => ?_))
    case sa4 => ((try dsimp only); exact hX.out _ _ hgN h3)
    clear hK K h3
    try simp only [Act.put, List.setIfInBounds_toArray, List.set_cons_zero, List.set_cons_succ]
    refine wpAnyH_take (i := 14) (oi := { dst := some 35, op := Go.Op.binOp Go.BinOp.eql 4 (Go.Operand.tmp 31) (Go.Operand.tmp 34) 4, type := 4, pos := "law.go:83", after := #[{ on := 10, ground := Go.Ground.data }, { on := 13, ground := Go.Ground.data }, { on := 7, ground := Go.Ground.guard }], guard := some (7, true) }) (v := ?va14) rfl (by kernel_rfl) (by kernel_rfl) (by kernel_rfl) (fun _ _ _ h => h) (Or.inl ⟨by rfl, ?ra14⟩) (by assumption) ?_
    case ra14 => (intro w hSw; (try dsimp only at hSw); (go_simp <;> with_reducible rfl))
    try simp only [Act.put, List.setIfInBounds_toArray, List.set_cons_zero, List.set_cons_succ]
    refine wpAnyH_take (i := 15) (oi := { dst := some 36, op := Go.Op.pick (Go.Operand.tmp 28) (Go.Operand.tmp 35) (Go.Operand.const (Go.Value.bool false)), type := 4, pos := "law.go:83", after := #[{ on := 7, ground := Go.Ground.data }, { on := 14, ground := Go.Ground.data }], guard := none }) (v := ?va15) rfl (by kernel_rfl) (by kernel_rfl) (by kernel_rfl) (fun _ _ _ h => h) (Or.inl ⟨by rfl, ?ra15⟩) (by assumption) ?_
    case ra15 => (intro w hSw; (try dsimp only at hSw); (go_simp <;> with_reducible rfl))
    try simp only [Act.put, List.setIfInBounds_toArray, List.set_cons_zero, List.set_cons_succ]
    refine wpAnyH_take (i := 16) (oi := { dst := some 37, op := Go.Op.move (Go.Operand.tmp 36), type := 4, pos := "law.go:83", after := #[{ on := 15, ground := Go.Ground.data }, { on := 13, ground := Go.Ground.chain }], guard := none }) (v := ?va16) rfl (by kernel_rfl) (by kernel_rfl) (by kernel_rfl) (fun _ _ _ h => h) (Or.inl ⟨by rfl, ?ra16⟩) (by assumption) ?_
    case ra16 => (intro w hSw; (try dsimp only at hSw); (go_simp <;> with_reducible rfl))
    try simp only [Act.put, List.setIfInBounds_toArray, List.set_cons_zero, List.set_cons_succ]
    refine wpAnyH_take (i := 17) (oi := { dst := some 38, op := Go.Op.load 24 (Go.Operand.tmp 5), type := 24, pos := "law.go:83", after := #[{ on := 16, ground := Go.Ground.guard }], guard := some (16, true) }) (v := ?va17) rfl (by kernel_rfl) (by kernel_rfl) (by kernel_rfl) (fun _ _ _ h => h) (Or.inl ⟨by rfl, ?ra17⟩) (by assumption) ?_
    case ra17 => (intro w hSw; (try dsimp only at hSw); (go_simp <;> with_reducible rfl))
    try simp only [Act.put, List.setIfInBounds_toArray, List.set_cons_zero, List.set_cons_succ]
    refine wpAnyH_take (i := 18) (oi := { dst := some 39, op := Go.Op.load 24 (Go.Operand.tmp 7), type := 24, pos := "law.go:83", after := #[{ on := 16, ground := Go.Ground.guard }], guard := some (16, true) }) (v := ?va18) rfl (by kernel_rfl) (by kernel_rfl) (by kernel_rfl) (fun _ _ _ h => h) (Or.inl ⟨by rfl, ?ra18⟩) (by assumption) ?_
    case ra18 => (intro w hSw; (try dsimp only at hSw); (go_simp <;> with_reducible rfl))
    try simp only [Act.put, List.setIfInBounds_toArray, List.set_cons_zero, List.set_cons_succ]
    refine wpAnyH_take (i := 20) (oi := { dst := some 41, op := Go.Op.move (Go.Operand.tmp 6), type := 29, pos := "law.go:83", after := #[{ on := 16, ground := Go.Ground.guard }], guard := some (16, true) }) (v := ?va20) rfl (by kernel_rfl) (by kernel_rfl) (by kernel_rfl) (fun _ _ _ h => h) (Or.inl ⟨by rfl, ?ra20⟩) (by assumption) ?_
    case ra20 => (intro w hSw; (try dsimp only at hSw); (go_simp <;> with_reducible rfl))
    try simp only [Act.put, List.setIfInBounds_toArray, List.set_cons_zero, List.set_cons_succ]
    refine wpAnyH_take (i := 21) (oi := { dst := some 42, op := Go.Op.move (Go.Operand.tmp 8), type := 29, pos := "law.go:83", after := #[{ on := 16, ground := Go.Ground.guard }], guard := some (16, true) }) (v := ?va21) rfl (by kernel_rfl) (by kernel_rfl) (by kernel_rfl) (fun _ _ _ h => h) (Or.inl ⟨by rfl, ?ra21⟩) (by assumption) ?_
    case ra21 => (intro w hSw; (try dsimp only at hSw); (go_simp <;> with_reducible rfl))
    try simp only [Act.put, List.setIfInBounds_toArray, List.set_cons_zero, List.set_cons_succ]
    refine wpAnyH_ready (rs := [19]) (by kernel_rfl) (by simp) ?_
    refine AllReadyH.cons (o := { dst := some 40, op := Go.Op.call { callee := Go.Callee.value (Go.Operand.func 27), args := #[Go.Operand.tmp 38, Go.Operand.tmp 39], argTypes := #[24, 24] }, type := 4, pos := "law.go:83", after := #[{ on := 17, ground := Go.Ground.data }, { on := 18, ground := Go.Ground.data }, { on := 16, ground := Go.Ground.chain }, { on := 16, ground := Go.Ground.guard }], guard := some (16, true) }) rfl (fun K hK => ?_) AllReadyH.nil
    go_simp
    (go_at_call 27; refine (I.out _).mono ?_; rintro e w9 ⟨rfl, hgN⟩)
    first | refine hK.out _ _ ?sa5 (fun h5 => ?_) | (go_wp2_with fail; refine hK.out _ _ ?sa5 (fun h5 => ?_))
    case sa5 => ((try dsimp only); exact hX.out _ _ hgN h4)
    clear hK K h4
    try simp only [Act.put, List.setIfInBounds_toArray, List.set_cons_zero, List.set_cons_succ]
    refine wpAnyH_ready (rs := [22]) (by kernel_rfl) (by simp) ?_
    refine AllReadyH.cons (o := { dst := some 43, op := Go.Op.call { callee := Go.Callee.value (Go.Operand.func 26), args := #[Go.Operand.tmp 41, Go.Operand.tmp 42], argTypes := #[29, 29] }, type := 4, pos := "law.go:83", after := #[{ on := 20, ground := Go.Ground.data }, { on := 21, ground := Go.Ground.data }, { on := 19, ground := Go.Ground.chain }, { on := 16, ground := Go.Ground.guard }], guard := some (16, true) }) rfl (fun K hK => ?_) AllReadyH.nil
    go_simp
    (go_at_call 26; refine (R1.out _ _ _ _ _ h5.2.2.2.1 h5.2.2.2.2).mono ?_; rintro e w9 ⟨rfl, hgN⟩)
    first | refine hK.out _ _ ?sa6 (fun h6 => ?_) | (go_wp2_with fail; refine hK.out _ _ ?sa6 (fun h6 => ?_))
    case sa6 => ((try dsimp only); exact hX.out _ _ hgN h5)
    clear hK K h5
    try simp only [Act.put, List.setIfInBounds_toArray, List.set_cons_zero, List.set_cons_succ]
    refine wpAnyH_take (i := 23) (oi := { dst := some 44, op := Go.Op.move (Go.Operand.tmp 43), type := 4, pos := "law.go:83", after := #[{ on := 22, ground := Go.Ground.data }, { on := 22, ground := Go.Ground.chain }, { on := 16, ground := Go.Ground.guard }], guard := some (16, true) }) (v := ?va23) rfl (by kernel_rfl) (by kernel_rfl) (by kernel_rfl) (fun _ _ _ h => h) (Or.inl ⟨by rfl, ?ra23⟩) (by assumption) ?_
    case ra23 => (intro w hSw; (try dsimp only at hSw); (go_simp <;> with_reducible rfl))
    try simp only [Act.put, List.setIfInBounds_toArray, List.set_cons_zero, List.set_cons_succ]
    refine wpAnyH_take (i := 24) (oi := { dst := some 45, op := Go.Op.move (Go.Operand.tmp 8), type := 29, pos := "law.go:83", after := #[{ on := 23, ground := Go.Ground.guard }], guard := some (23, false) }) (v := ?va24) rfl (by kernel_rfl) (by kernel_rfl) (by kernel_rfl) (fun _ _ _ h => h) (Or.inl ⟨by rfl, ?ra24⟩) (by assumption) ?_
    case ra24 => (intro w hSw; (try dsimp only at hSw); (go_simp <;> with_reducible rfl))
    try simp only [Act.put, List.setIfInBounds_toArray, List.set_cons_zero, List.set_cons_succ]
    refine wpAnyH_take (i := 25) (oi := { dst := some 46, op := Go.Op.move (Go.Operand.tmp 6), type := 29, pos := "law.go:83", after := #[{ on := 23, ground := Go.Ground.guard }], guard := some (23, false) }) (v := ?va25) rfl (by kernel_rfl) (by kernel_rfl) (by kernel_rfl) (fun _ _ _ h => h) (Or.inl ⟨by rfl, ?ra25⟩) (by assumption) ?_
    case ra25 => (intro w hSw; (try dsimp only at hSw); (go_simp <;> with_reducible rfl))
    try simp only [Act.put, List.setIfInBounds_toArray, List.set_cons_zero, List.set_cons_succ]
    refine wpAnyH_ready (rs := [26]) (by kernel_rfl) (by simp) ?_
    refine AllReadyH.cons (o := { dst := some 47, op := Go.Op.call { callee := Go.Callee.value (Go.Operand.func 26), args := #[Go.Operand.tmp 45, Go.Operand.tmp 46], argTypes := #[29, 29] }, type := 4, pos := "law.go:83", after := #[{ on := 24, ground := Go.Ground.data }, { on := 25, ground := Go.Ground.data }, { on := 23, ground := Go.Ground.chain }, { on := 23, ground := Go.Ground.guard }], guard := some (23, false) }) rfl (fun K hK => ?_) AllReadyH.nil
    go_simp
    (go_at_call 26; refine (R2.out _ _ _ _ _ h6.2.2.2.2 h6.2.2.2.1).mono ?_; rintro e w9 ⟨rfl, hgN⟩)
    first | refine hK.out _ _ ?sa7 (fun h7 => ?_) | (go_wp2_with fail; refine hK.out _ _ ?sa7 (fun h7 => ?_))
    case sa7 => ((try dsimp only); exact hX.out _ _ hgN h6)
    clear hK K h6
    try simp only [Act.put, List.setIfInBounds_toArray, List.set_cons_zero, List.set_cons_succ]
    refine wpAnyH_take (i := 27) (oi := { dst := some 48, op := Go.Op.pick (Go.Operand.tmp 44) (Go.Operand.const (Go.Value.bool true)) (Go.Operand.tmp 47), type := 4, pos := "law.go:83", after := #[{ on := 23, ground := Go.Ground.data }, { on := 26, ground := Go.Ground.data }, { on := 16, ground := Go.Ground.guard }], guard := some (16, true) }) (v := ?va27) rfl (by kernel_rfl) (by kernel_rfl) (by kernel_rfl) (fun _ _ _ h => h) (Or.inl ⟨by rfl, ?ra27⟩) (by assumption) ?_
    case ra27 => (intro w hSw; (try dsimp only at hSw); (go_simp <;> with_reducible rfl))
    try simp only [Act.put, List.setIfInBounds_toArray, List.set_cons_zero, List.set_cons_succ]
    refine wpAnyH_take (i := 28) (oi := { dst := some 49, op := Go.Op.binOp Go.BinOp.eql 4 (Go.Operand.tmp 40) (Go.Operand.tmp 48) 4, type := 4, pos := "law.go:83", after := #[{ on := 19, ground := Go.Ground.data }, { on := 27, ground := Go.Ground.data }, { on := 16, ground := Go.Ground.guard }], guard := some (16, true) }) (v := ?va28) rfl (by kernel_rfl) (by kernel_rfl) (by kernel_rfl) (fun _ _ _ h => h) (Or.inl ⟨by rfl, ?ra28⟩) (by assumption) ?_
    case ra28 => (intro w hSw; (try dsimp only at hSw); (go_simp <;> with_reducible rfl))
    try simp only [Act.put, List.setIfInBounds_toArray, List.set_cons_zero, List.set_cons_succ]
    refine wpAnyH_take (i := 29) (oi := { dst := some 50, op := Go.Op.pick (Go.Operand.tmp 37) (Go.Operand.tmp 49) (Go.Operand.const (Go.Value.bool false)), type := 4, pos := "law.go:83", after := #[{ on := 16, ground := Go.Ground.data }, { on := 28, ground := Go.Ground.data }], guard := none }) (v := ?va29) rfl (by kernel_rfl) (by kernel_rfl) (by kernel_rfl) (fun _ _ _ h => h) (Or.inl ⟨by rfl, ?ra29⟩) (by assumption) ?_
    case ra29 => (intro w hSw; (try dsimp only at hSw); (go_simp <;> with_reducible rfl))
    try simp only [Act.put, List.setIfInBounds_toArray, List.set_cons_zero, List.set_cons_succ]
    refine wpAnyH_take (i := 30) (oi := { dst := some 51, op := Go.Op.move (Go.Operand.tmp 50), type := 4, pos := "law.go:83", after := #[{ on := 29, ground := Go.Ground.data }, { on := 26, ground := Go.Ground.chain }], guard := none }) (v := ?va30) rfl (by kernel_rfl) (by kernel_rfl) (by kernel_rfl) (fun _ _ _ h => h) (Or.inl ⟨by rfl, ?ra30⟩) (by assumption) ?_
    case ra30 => (intro w hSw; (try dsimp only at hSw); (go_simp <;> with_reducible rfl))
    try simp only [Act.put, List.setIfInBounds_toArray, List.set_cons_zero, List.set_cons_succ]
    refine wpAnyH_take (i := 31) (oi := { dst := some 52, op := Go.Op.load 24 (Go.Operand.tmp 5), type := 24, pos := "law.go:83", after := #[{ on := 30, ground := Go.Ground.guard }], guard := some (30, true) }) (v := ?va31) rfl (by kernel_rfl) (by kernel_rfl) (by kernel_rfl) (fun _ _ _ h => h) (Or.inl ⟨by rfl, ?ra31⟩) (by assumption) ?_
    case ra31 => (intro w hSw; (try dsimp only at hSw); (go_simp <;> with_reducible rfl))
    try simp only [Act.put, List.setIfInBounds_toArray, List.set_cons_zero, List.set_cons_succ]
    refine wpAnyH_take (i := 32) (oi := { dst := some 53, op := Go.Op.load 24 (Go.Operand.tmp 7), type := 24, pos := "law.go:83", after := #[{ on := 30, ground := Go.Ground.guard }], guard := some (30, true) }) (v := ?va32) rfl (by kernel_rfl) (by kernel_rfl) (by kernel_rfl) (fun _ _ _ h => h) (Or.inl ⟨by rfl, ?ra32⟩) (by assumption) ?_
    case ra32 => (intro w hSw; (try dsimp only at hSw); (go_simp <;> with_reducible rfl))
    try simp only [Act.put, List.setIfInBounds_toArray, List.set_cons_zero, List.set_cons_succ]
    refine wpAnyH_take (i := 34) (oi := { dst := some 55, op := Go.Op.move (Go.Operand.tmp 6), type := 29, pos := "law.go:83", after := #[{ on := 30, ground := Go.Ground.guard }], guard := some (30, true) }) (v := ?va34) rfl (by kernel_rfl) (by kernel_rfl) (by kernel_rfl) (fun _ _ _ h => h) (Or.inl ⟨by rfl, ?ra34⟩) (by assumption) ?_
    case ra34 => (intro w hSw; (try dsimp only at hSw); (go_simp <;> with_reducible rfl))
    try simp only [Act.put, List.setIfInBounds_toArray, List.set_cons_zero, List.set_cons_succ]
    refine wpAnyH_take (i := 35) (oi := { dst := some 56, op := Go.Op.move (Go.Operand.tmp 8), type := 29, pos := "law.go:83", after := #[{ on := 30, ground := Go.Ground.guard }], guard := some (30, true) }) (v := ?va35) rfl (by kernel_rfl) (by kernel_rfl) (by kernel_rfl) (fun _ _ _ h => h) (Or.inl ⟨by rfl, ?ra35⟩) (by assumption) ?_
    case ra35 => (intro w hSw; (try dsimp only at hSw); (go_simp <;> with_reducible rfl))
    try simp only [Act.put, List.setIfInBounds_toArray, List.set_cons_zero, List.set_cons_succ]
    refine wpAnyH_ready (rs := [33]) (by kernel_rfl) (by simp) ?_
    refine AllReadyH.cons (o := { dst := some 54, op := Go.Op.call { callee := Go.Callee.value (Go.Operand.func 28), args := #[Go.Operand.tmp 52, Go.Operand.tmp 53], argTypes := #[24, 24] }, type := 3, pos := "law.go:83", after := #[{ on := 31, ground := Go.Ground.data }, { on := 32, ground := Go.Ground.data }, { on := 30, ground := Go.Ground.chain }, { on := 30, ground := Go.Ground.guard }], guard := some (30, true) }) rfl (fun K hK => ?_) AllReadyH.nil
    go_simp
    (go_at_call 28; refine (KC.out _ (HM.out.gr h7.1)).mono ?_; rintro e w9 ⟨rfl, hgN⟩)
    first | refine hK.out _ _ ?sa8 (fun h8 => ?_) | (go_wp2_with fail; refine hK.out _ _ ?sa8 (fun h8 => ?_))
    case sa8 => ((try dsimp only); exact hX.out _ _ hgN h7)
    clear hK K h7
    try simp only [Act.put, List.setIfInBounds_toArray, List.set_cons_zero, List.set_cons_succ]
    refine wpAnyH_ready (rs := [36]) (by kernel_rfl) (by simp) ?_
    refine AllReadyH.cons (o := { dst := some 57, op := Go.Op.call { callee := Go.Callee.value (Go.Operand.func 29), args := #[Go.Operand.tmp 55, Go.Operand.tmp 56], argTypes := #[29, 29] }, type := 3, pos := "law.go:83", after := #[{ on := 34, ground := Go.Ground.data }, { on := 35, ground := Go.Ground.data }, { on := 33, ground := Go.Ground.chain }, { on := 30, ground := Go.Ground.guard }], guard := some (30, true) }) rfl (fun K hK => ?_) AllReadyH.nil
    go_simp
    (go_at_call 29; refine (RK.out _ _ _ _ _ h8.2.2.2.1 h8.2.2.2.2).mono ?_; rintro e w9 ⟨rfl, hgN⟩)
    first | refine hK.out _ _ ?sa9 (fun h9 => ?_) | (go_wp2_with fail; refine hK.out _ _ ?sa9 (fun h9 => ?_))
    case sa9 => ((try dsimp only); exact hX.out _ _ hgN h8)
    clear hK K h8
    try simp only [Act.put, List.setIfInBounds_toArray, List.set_cons_zero, List.set_cons_succ]
    refine wpAnyH_take (i := 37) (oi := { dst := some 58, op := Go.Op.binOp Go.BinOp.eql 3 (Go.Operand.tmp 54) (Go.Operand.tmp 57) 3, type := 4, pos := "law.go:83", after := #[{ on := 33, ground := Go.Ground.data }, { on := 36, ground := Go.Ground.data }, { on := 30, ground := Go.Ground.guard }], guard := some (30, true) }) (v := ?va37) rfl (by kernel_rfl) (by kernel_rfl) (by kernel_rfl) (fun _ _ _ h => h) (Or.inl ⟨by rfl, ?ra37⟩) (by assumption) ?_
    case ra37 => (intro w hSw; (try dsimp only at hSw); (go_simp <;> with_reducible rfl))
    try simp only [Act.put, List.setIfInBounds_toArray, List.set_cons_zero, List.set_cons_succ]
    refine wpAnyH_take (i := 38) (oi := { dst := some 59, op := Go.Op.pick (Go.Operand.tmp 51) (Go.Operand.tmp 58) (Go.Operand.const (Go.Value.bool false)), type := 4, pos := "law.go:83", after := #[{ on := 30, ground := Go.Ground.data }, { on := 37, ground := Go.Ground.data }], guard := none }) (v := ?va38) rfl (by kernel_rfl) (by kernel_rfl) (by kernel_rfl) (fun _ _ _ h => h) (Or.inl ⟨by rfl, ?ra38⟩) (by assumption) ?_
    case ra38 => (intro w hSw; (try dsimp only at hSw); (go_simp <;> with_reducible rfl))
    try simp only [Act.put, List.setIfInBounds_toArray, List.set_cons_zero, List.set_cons_succ]
    refine wpAnyH_take (i := 39) (oi := { dst := some 60, op := Go.Op.move (Go.Operand.tmp 59), type := 4, pos := "law.go:83", after := #[{ on := 38, ground := Go.Ground.data }, { on := 36, ground := Go.Ground.chain }], guard := none }) (v := ?va39) rfl (by kernel_rfl) (by kernel_rfl) (by kernel_rfl) (fun _ _ _ h => h) (Or.inl ⟨by rfl, ?ra39⟩) (by assumption) ?_
    case ra39 => (intro w hSw; (try dsimp only at hSw); (go_simp <;> with_reducible rfl))
    try simp only [Act.put, List.setIfInBounds_toArray, List.set_cons_zero, List.set_cons_succ]
    refine wpAnyH_take (i := 40) (oi := { dst := some 61, op := Go.Op.load 24 (Go.Operand.tmp 5), type := 24, pos := "law.go:83", after := #[{ on := 39, ground := Go.Ground.guard }], guard := some (39, true) }) (v := ?va40) rfl (by kernel_rfl) (by kernel_rfl) (by kernel_rfl) (fun _ _ _ h => h) (Or.inl ⟨by rfl, ?ra40⟩) (by assumption) ?_
    case ra40 => (intro w hSw; (try dsimp only at hSw); (go_simp <;> with_reducible rfl))
    try simp only [Act.put, List.setIfInBounds_toArray, List.set_cons_zero, List.set_cons_succ]
    refine wpAnyH_take (i := 41) (oi := { dst := some 62, op := Go.Op.load 24 (Go.Operand.tmp 7), type := 24, pos := "law.go:83", after := #[{ on := 39, ground := Go.Ground.guard }], guard := some (39, true) }) (v := ?va41) rfl (by kernel_rfl) (by kernel_rfl) (by kernel_rfl) (fun _ _ _ h => h) (Or.inl ⟨by rfl, ?ra41⟩) (by assumption) ?_
    case ra41 => (intro w hSw; (try dsimp only at hSw); (go_simp <;> with_reducible rfl))
    try simp only [Act.put, List.setIfInBounds_toArray, List.set_cons_zero, List.set_cons_succ]
    refine wpAnyH_take (i := 42) (oi := { dst := some 63, op := Go.Op.binOp Go.BinOp.eql 24 (Go.Operand.tmp 61) (Go.Operand.tmp 62) 24, type := 4, pos := "law.go:83", after := #[{ on := 40, ground := Go.Ground.data }, { on := 41, ground := Go.Ground.data }, { on := 39, ground := Go.Ground.guard }], guard := some (39, true) }) (v := ?va42) rfl (by kernel_rfl) (by kernel_rfl) (by kernel_rfl) (fun _ _ _ h => h) (Or.inl ⟨by rfl, ?ra42⟩) (by assumption) ?_
    case ra42 => (intro w hSw; (try dsimp only at hSw); (go_simp <;> with_reducible rfl))
    try simp only [Act.put, List.setIfInBounds_toArray, List.set_cons_zero, List.set_cons_succ]
    refine wpAnyH_take (i := 43) (oi := { dst := some 64, op := Go.Op.move (Go.Operand.tmp 6), type := 29, pos := "law.go:83", after := #[{ on := 39, ground := Go.Ground.guard }], guard := some (39, true) }) (v := ?va43) rfl (by kernel_rfl) (by kernel_rfl) (by kernel_rfl) (fun _ _ _ h => h) (Or.inl ⟨by rfl, ?ra43⟩) (by assumption) ?_
    case ra43 => (intro w hSw; (try dsimp only at hSw); (go_simp <;> with_reducible rfl))
    try simp only [Act.put, List.setIfInBounds_toArray, List.set_cons_zero, List.set_cons_succ]
    refine wpAnyH_take (i := 44) (oi := { dst := some 65, op := Go.Op.move (Go.Operand.tmp 8), type := 29, pos := "law.go:83", after := #[{ on := 39, ground := Go.Ground.guard }], guard := some (39, true) }) (v := ?va44) rfl (by kernel_rfl) (by kernel_rfl) (by kernel_rfl) (fun _ _ _ h => h) (Or.inl ⟨by rfl, ?ra44⟩) (by assumption) ?_
    case ra44 => (intro w hSw; (try dsimp only at hSw); (go_simp <;> with_reducible rfl))
    try simp only [Act.put, List.setIfInBounds_toArray, List.set_cons_zero, List.set_cons_succ]
    refine wpAnyH_ready (rs := [45]) (by kernel_rfl) (by simp) ?_
    refine AllReadyH.cons (o := { dst := some 66, op := Go.Op.call { callee := Go.Callee.value (Go.Operand.func 15), args := #[Go.Operand.tmp 64, Go.Operand.tmp 65], argTypes := #[29, 29] }, type := 4, pos := "law.go:83", after := #[{ on := 43, ground := Go.Ground.data }, { on := 44, ground := Go.Ground.data }, { on := 39, ground := Go.Ground.chain }, { on := 39, ground := Go.Ground.guard }], guard := some (39, true) }) rfl (fun K hK => ?_) AllReadyH.nil
    go_simp
    (go_at_call 15; refine (RS.out _ _ _ _ _ h9.2.2.2.1 h9.2.2.2.2).mono ?_; rintro e w9 ⟨rfl, hgN⟩)
    first | refine hK.out _ _ ?sa10 (fun h10 => ?_) | (go_wp2_with fail; refine hK.out _ _ ?sa10 (fun h10 => ?_))
    case sa10 => ((try dsimp only); exact hX.out _ _ hgN h9)
    clear hK K h9
    try simp only [Act.put, List.setIfInBounds_toArray, List.set_cons_zero, List.set_cons_succ]
    refine wpAnyH_take (i := 46) (oi := { dst := some 67, op := Go.Op.binOp Go.BinOp.eql 4 (Go.Operand.tmp 63) (Go.Operand.tmp 66) 4, type := 4, pos := "law.go:83", after := #[{ on := 42, ground := Go.Ground.data }, { on := 45, ground := Go.Ground.data }, { on := 39, ground := Go.Ground.guard }], guard := some (39, true) }) (v := ?va46) rfl (by kernel_rfl) (by kernel_rfl) (by kernel_rfl) (fun _ _ _ h => h) (Or.inl ⟨by rfl, ?ra46⟩) (by assumption) ?_
    case ra46 => (intro w hSw; (try dsimp only at hSw); (go_simp <;> with_reducible rfl))
    try simp only [Act.put, List.setIfInBounds_toArray, List.set_cons_zero, List.set_cons_succ]
    refine wpAnyH_take (i := 47) (oi := { dst := some 68, op := Go.Op.pick (Go.Operand.tmp 60) (Go.Operand.tmp 67) (Go.Operand.const (Go.Value.bool false)), type := 4, pos := "law.go:83", after := #[{ on := 39, ground := Go.Ground.data }, { on := 46, ground := Go.Ground.data }], guard := none }) (v := ?va47) rfl (by kernel_rfl) (by kernel_rfl) (by kernel_rfl) (fun _ _ _ h => h) (Or.inl ⟨by rfl, ?ra47⟩) (by assumption) ?_
    case ra47 => (intro w hSw; (try dsimp only at hSw); (go_simp <;> with_reducible rfl))
    try simp only [Act.put, List.setIfInBounds_toArray, List.set_cons_zero, List.set_cons_succ]
    refine wpAnyH_take (i := 48) (oi := { dst := some 4, op := Go.Op.assign (Go.Operand.tmp 68), type := 4, pos := "law.go:83", after := #[{ on := 47, ground := Go.Ground.data }, { on := 45, ground := Go.Ground.chain }, { on := 0, ground := Go.Ground.phase }, { on := 1, ground := Go.Ground.phase }, { on := 2, ground := Go.Ground.phase }, { on := 3, ground := Go.Ground.phase }, { on := 4, ground := Go.Ground.phase }, { on := 5, ground := Go.Ground.phase }, { on := 6, ground := Go.Ground.phase }, { on := 7, ground := Go.Ground.phase }, { on := 8, ground := Go.Ground.phase }, { on := 9, ground := Go.Ground.phase }, { on := 10, ground := Go.Ground.phase }, { on := 11, ground := Go.Ground.phase }, { on := 12, ground := Go.Ground.phase }, { on := 13, ground := Go.Ground.phase }, { on := 14, ground := Go.Ground.phase }, { on := 15, ground := Go.Ground.phase }, { on := 16, ground := Go.Ground.phase }, { on := 17, ground := Go.Ground.phase }, { on := 18, ground := Go.Ground.phase }, { on := 19, ground := Go.Ground.phase }, { on := 20, ground := Go.Ground.phase }, { on := 21, ground := Go.Ground.phase }, { on := 22, ground := Go.Ground.phase }, { on := 23, ground := Go.Ground.phase }, { on := 24, ground := Go.Ground.phase }, { on := 25, ground := Go.Ground.phase }, { on := 26, ground := Go.Ground.phase }, { on := 27, ground := Go.Ground.phase }, { on := 28, ground := Go.Ground.phase }, { on := 29, ground := Go.Ground.phase }, { on := 30, ground := Go.Ground.phase }, { on := 31, ground := Go.Ground.phase }, { on := 32, ground := Go.Ground.phase }, { on := 33, ground := Go.Ground.phase }, { on := 34, ground := Go.Ground.phase }, { on := 35, ground := Go.Ground.phase }, { on := 36, ground := Go.Ground.phase }, { on := 37, ground := Go.Ground.phase }, { on := 38, ground := Go.Ground.phase }, { on := 39, ground := Go.Ground.phase }, { on := 40, ground := Go.Ground.phase }, { on := 41, ground := Go.Ground.phase }, { on := 42, ground := Go.Ground.phase }, { on := 43, ground := Go.Ground.phase }, { on := 44, ground := Go.Ground.phase }, { on := 45, ground := Go.Ground.phase }, { on := 46, ground := Go.Ground.phase }, { on := 47, ground := Go.Ground.phase }], guard := none }) (v := ?va48) rfl (by kernel_rfl) (by kernel_rfl) (by kernel_rfl) (fun _ _ _ h => h) (Or.inl ⟨by rfl, ?ra48⟩) (by assumption) ?_
    case ra48 => (intro w hSw; (try dsimp only at hSw); (go_simp <;> with_reducible rfl))
    try simp only [Act.put, List.setIfInBounds_toArray, List.set_cons_zero, List.set_cons_succ]
    refine wpAnyH_done (by kernel_rfl) ?_ _
    go_wp2
    go_ret
    exact ⟨by first | rfl | simp, h10.1⟩
  · skip
    refine wp_region_held_drew (S := (fun w' => Gr w w' ∧ w'.cell? ⟨p1, 0, none⟩ = some (.string t) ∧ w'.cell? ⟨p2, 0, none⟩ = some (.string u) ∧ Strs w' ao l ∧ Strs w' bo m)) (by kernel_rfl) ?invb (fun h0 => ?_)
    case invb => ((try dsimp only); (first | exact HS0 | exact hD.out _ HS0))
    refine wpAnyH_take (i := 0) (oi := { dst := some 21, op := Go.Op.load 24 (Go.Operand.tmp 5), type := 24, pos := "law.go:83", after := #[], guard := none }) (v := ?vb0) rfl (by kernel_rfl) (by kernel_rfl) (by kernel_rfl) (fun _ _ _ h => h) (Or.inl ⟨by rfl, ?rb0⟩) (by assumption) ?_
    case rb0 => (intro w hSw; (try dsimp only at hSw); (go_simp <;> with_reducible rfl))
    try simp only [Act.put, List.setIfInBounds_toArray, List.set_cons_zero, List.set_cons_succ]
    refine wpAnyH_take (i := 1) (oi := { dst := some 22, op := Go.Op.load 24 (Go.Operand.tmp 7), type := 24, pos := "law.go:83", after := #[], guard := none }) (v := ?vb1) rfl (by kernel_rfl) (by kernel_rfl) (by kernel_rfl) (fun _ _ _ h => h) (Or.inl ⟨by rfl, ?rb1⟩) (by assumption) ?_
    case rb1 => (intro w hSw; (try dsimp only at hSw); (go_simp <;> with_reducible rfl))
    try simp only [Act.put, List.setIfInBounds_toArray, List.set_cons_zero, List.set_cons_succ]
    refine wpAnyH_take (i := 3) (oi := { dst := some 24, op := Go.Op.move (Go.Operand.tmp 6), type := 29, pos := "law.go:83", after := #[], guard := none }) (v := ?vb3) rfl (by kernel_rfl) (by kernel_rfl) (by kernel_rfl) (fun _ _ _ h => h) (Or.inl ⟨by rfl, ?rb3⟩) (by assumption) ?_
    case rb3 => (intro w hSw; (try dsimp only at hSw); (go_simp <;> with_reducible rfl))
    try simp only [Act.put, List.setIfInBounds_toArray, List.set_cons_zero, List.set_cons_succ]
    refine wpAnyH_take (i := 4) (oi := { dst := some 25, op := Go.Op.move (Go.Operand.tmp 8), type := 29, pos := "law.go:83", after := #[], guard := none }) (v := ?vb4) rfl (by kernel_rfl) (by kernel_rfl) (by kernel_rfl) (fun _ _ _ h => h) (Or.inl ⟨by rfl, ?rb4⟩) (by assumption) ?_
    case rb4 => (intro w hSw; (try dsimp only at hSw); (go_simp <;> with_reducible rfl))
    try simp only [Act.put, List.setIfInBounds_toArray, List.set_cons_zero, List.set_cons_succ]
    refine wpAnyH_ready (rs := [2]) (by kernel_rfl) (by simp) ?_
    refine AllReadyH.cons (o := { dst := some 23, op := Go.Op.call { callee := Go.Callee.value (Go.Operand.func 24), args := #[Go.Operand.tmp 21, Go.Operand.tmp 22], argTypes := #[24, 24] }, type := 4, pos := "law.go:83", after := #[{ on := 0, ground := Go.Ground.data }, { on := 1, ground := Go.Ground.data }], guard := none }) rfl (fun K hK => ?_) AllReadyH.nil
    go_simp
    (go_at_call 24; refine (O1.out _).mono ?_; rintro e w9 ⟨rfl, hgN⟩)
    first | refine hK.out _ _ ?sb1 (fun h1 => ?_) | (go_wp2_with fail; refine hK.out _ _ ?sb1 (fun h1 => ?_))
    case sb1 => ((try dsimp only); exact hX.out _ _ hgN h0)
    clear hK K h0
    try simp only [Act.put, List.setIfInBounds_toArray, List.set_cons_zero, List.set_cons_succ]
    refine wpAnyH_ready (rs := [5]) (by kernel_rfl) (by simp) ?_
    refine AllReadyH.cons (o := { dst := some 26, op := Go.Op.call { callee := Go.Callee.value (Go.Operand.func 26), args := #[Go.Operand.tmp 24, Go.Operand.tmp 25], argTypes := #[29, 29] }, type := 4, pos := "law.go:83", after := #[{ on := 3, ground := Go.Ground.data }, { on := 4, ground := Go.Ground.data }, { on := 2, ground := Go.Ground.chain }], guard := none }) rfl (fun K hK => ?_) AllReadyH.nil
    go_simp
    (go_at_call 26; refine (R1.out _ _ _ _ _ h1.2.2.2.1 h1.2.2.2.2).mono ?_; rintro e w9 ⟨rfl, hgN⟩)
    first | refine hK.out _ _ ?sb2 (fun h2 => ?_) | (go_wp2_with fail; refine hK.out _ _ ?sb2 (fun h2 => ?_))
    case sb2 => ((try dsimp only); exact hX.out _ _ hgN h1)
    clear hK K h1
    try simp only [Act.put, List.setIfInBounds_toArray, List.set_cons_zero, List.set_cons_succ]
    refine wpAnyH_take (i := 6) (oi := { dst := some 27, op := Go.Op.binOp Go.BinOp.eql 4 (Go.Operand.tmp 23) (Go.Operand.tmp 26) 4, type := 4, pos := "law.go:83", after := #[{ on := 2, ground := Go.Ground.data }, { on := 5, ground := Go.Ground.data }], guard := none }) (v := ?vb6) rfl (by kernel_rfl) (by kernel_rfl) (by kernel_rfl) (fun _ _ _ h => h) (Or.inl ⟨by rfl, ?rb6⟩) (by assumption) ?_
    case rb6 => (intro w hSw; (try dsimp only at hSw); (go_simp <;> with_reducible rfl))
    try simp only [Act.put, List.setIfInBounds_toArray, List.set_cons_zero, List.set_cons_succ]
    refine wpAnyH_take (i := 7) (oi := { dst := some 28, op := Go.Op.move (Go.Operand.tmp 27), type := 4, pos := "law.go:83", after := #[{ on := 6, ground := Go.Ground.data }, { on := 5, ground := Go.Ground.chain }], guard := none }) (v := ?vb7) rfl (by kernel_rfl) (by kernel_rfl) (by kernel_rfl) (fun _ _ _ h => h) (Or.inl ⟨by rfl, ?rb7⟩) (by assumption) ?_
    case rb7 => (intro w hSw; (try dsimp only at hSw); (go_simp <;> with_reducible rfl))
    try simp only [Act.put, List.setIfInBounds_toArray, List.set_cons_zero, List.set_cons_succ]
    refine wpAnyH_take (i := 8) (oi := { dst := some 29, op := Go.Op.load 24 (Go.Operand.tmp 7), type := 24, pos := "law.go:83", after := #[{ on := 7, ground := Go.Ground.guard }], guard := some (7, true) }) (v := ?vb8) rfl (by kernel_rfl) (by kernel_rfl) (by kernel_rfl) (fun _ _ _ h => h) (Or.inl ⟨by rfl, ?rb8⟩) (by assumption) ?_
    case rb8 => (intro w hSw; (try dsimp only at hSw); (go_simp <;> with_reducible rfl))
    try simp only [Act.put, List.setIfInBounds_toArray, List.set_cons_zero, List.set_cons_succ]
    refine wpAnyH_take (i := 9) (oi := { dst := some 30, op := Go.Op.load 24 (Go.Operand.tmp 5), type := 24, pos := "law.go:83", after := #[{ on := 7, ground := Go.Ground.guard }], guard := some (7, true) }) (v := ?vb9) rfl (by kernel_rfl) (by kernel_rfl) (by kernel_rfl) (fun _ _ _ h => h) (Or.inl ⟨by rfl, ?rb9⟩) (by assumption) ?_
    case rb9 => (intro w hSw; (try dsimp only at hSw); (go_simp <;> with_reducible rfl))
    try simp only [Act.put, List.setIfInBounds_toArray, List.set_cons_zero, List.set_cons_succ]
    refine wpAnyH_take (i := 11) (oi := { dst := some 32, op := Go.Op.move (Go.Operand.tmp 8), type := 29, pos := "law.go:83", after := #[{ on := 7, ground := Go.Ground.guard }], guard := some (7, true) }) (v := ?vb11) rfl (by kernel_rfl) (by kernel_rfl) (by kernel_rfl) (fun _ _ _ h => h) (Or.inl ⟨by rfl, ?rb11⟩) (by assumption) ?_
    case rb11 => (intro w hSw; (try dsimp only at hSw); (go_simp <;> with_reducible rfl))
    try simp only [Act.put, List.setIfInBounds_toArray, List.set_cons_zero, List.set_cons_succ]
    refine wpAnyH_take (i := 12) (oi := { dst := some 33, op := Go.Op.move (Go.Operand.tmp 6), type := 29, pos := "law.go:83", after := #[{ on := 7, ground := Go.Ground.guard }], guard := some (7, true) }) (v := ?vb12) rfl (by kernel_rfl) (by kernel_rfl) (by kernel_rfl) (fun _ _ _ h => h) (Or.inl ⟨by rfl, ?rb12⟩) (by assumption) ?_
    case rb12 => (intro w hSw; (try dsimp only at hSw); (go_simp <;> with_reducible rfl))
    try simp only [Act.put, List.setIfInBounds_toArray, List.set_cons_zero, List.set_cons_succ]
    refine wpAnyH_ready (rs := [10]) (by kernel_rfl) (by simp) ?_
    refine AllReadyH.cons (o := { dst := some 31, op := Go.Op.call { callee := Go.Callee.value (Go.Operand.func 24), args := #[Go.Operand.tmp 29, Go.Operand.tmp 30], argTypes := #[24, 24] }, type := 4, pos := "law.go:83", after := #[{ on := 8, ground := Go.Ground.data }, { on := 9, ground := Go.Ground.data }, { on := 7, ground := Go.Ground.chain }, { on := 7, ground := Go.Ground.guard }], guard := some (7, true) }) rfl (fun K hK => ?_) AllReadyH.nil
    go_simp
    (go_at_call 24; refine (O2.out _).mono ?_; rintro e w9 ⟨rfl, hgN⟩)
    first | refine hK.out _ _ ?sb3 (fun h3 => ?_) | (go_wp2_with fail; refine hK.out _ _ ?sb3 (fun h3 => ?_))
    case sb3 => ((try dsimp only); exact hX.out _ _ hgN h2)
    clear hK K h2
    try simp only [Act.put, List.setIfInBounds_toArray, List.set_cons_zero, List.set_cons_succ]
    refine wpAnyH_ready (rs := [13]) (by kernel_rfl) (by simp) ?_
    refine AllReadyH.cons (o := { dst := some 34, op := Go.Op.call { callee := Go.Callee.value (Go.Operand.func 26), args := #[Go.Operand.tmp 32, Go.Operand.tmp 33], argTypes := #[29, 29] }, type := 4, pos := "law.go:83", after := #[{ on := 11, ground := Go.Ground.data }, { on := 12, ground := Go.Ground.data }, { on := 10, ground := Go.Ground.chain }, { on := 7, ground := Go.Ground.guard }], guard := some (7, true) }) rfl (fun K hK => ?_) AllReadyH.nil
    go_simp
    (go_at_call 26; refine (R2.out _ _ _ _ _ h3.2.2.2.2 h3.2.2.2.1).mono ?_; rintro e w9 ⟨rfl, hgN⟩)
    first | refine hK.out _ _ ?sb4 (fun h4 => ?_) | (go_wp2_with fail; refine hK.out _ _ ?sb4 (fun h4 => ?_))
    case sb4 => ((try dsimp only); exact hX.out _ _ hgN h3)
    clear hK K h3
    try simp only [Act.put, List.setIfInBounds_toArray, List.set_cons_zero, List.set_cons_succ]
    refine wpAnyH_take (i := 14) (oi := { dst := some 35, op := Go.Op.binOp Go.BinOp.eql 4 (Go.Operand.tmp 31) (Go.Operand.tmp 34) 4, type := 4, pos := "law.go:83", after := #[{ on := 10, ground := Go.Ground.data }, { on := 13, ground := Go.Ground.data }, { on := 7, ground := Go.Ground.guard }], guard := some (7, true) }) (v := ?vb14) rfl (by kernel_rfl) (by kernel_rfl) (by kernel_rfl) (fun _ _ _ h => h) (Or.inl ⟨by rfl, ?rb14⟩) (by assumption) ?_
    case rb14 => (intro w hSw; (try dsimp only at hSw); (go_simp <;> with_reducible rfl))
    try simp only [Act.put, List.setIfInBounds_toArray, List.set_cons_zero, List.set_cons_succ]
    refine wpAnyH_take (i := 15) (oi := { dst := some 36, op := Go.Op.pick (Go.Operand.tmp 28) (Go.Operand.tmp 35) (Go.Operand.const (Go.Value.bool false)), type := 4, pos := "law.go:83", after := #[{ on := 7, ground := Go.Ground.data }, { on := 14, ground := Go.Ground.data }], guard := none }) (v := ?vb15) rfl (by kernel_rfl) (by kernel_rfl) (by kernel_rfl) (fun _ _ _ h => h) (Or.inl ⟨by rfl, ?rb15⟩) (by assumption) ?_
    case rb15 => (intro w hSw; (try dsimp only at hSw); (go_simp <;> with_reducible rfl))
    try simp only [Act.put, List.setIfInBounds_toArray, List.set_cons_zero, List.set_cons_succ]
    refine wpAnyH_take (i := 16) (oi := { dst := some 37, op := Go.Op.move (Go.Operand.tmp 36), type := 4, pos := "law.go:83", after := #[{ on := 15, ground := Go.Ground.data }, { on := 13, ground := Go.Ground.chain }], guard := none }) (v := ?vb16) rfl (by kernel_rfl) (by kernel_rfl) (by kernel_rfl) (fun _ _ _ h => h) (Or.inl ⟨by rfl, ?rb16⟩) (by assumption) ?_
    case rb16 => (intro w hSw; (try dsimp only at hSw); (go_simp <;> with_reducible rfl))
    try simp only [Act.put, List.setIfInBounds_toArray, List.set_cons_zero, List.set_cons_succ]
    refine wpAnyH_take (i := 17) (oi := { dst := some 38, op := Go.Op.load 24 (Go.Operand.tmp 5), type := 24, pos := "law.go:83", after := #[{ on := 16, ground := Go.Ground.guard }], guard := some (16, true) }) (v := ?vb17) rfl (by kernel_rfl) (by kernel_rfl) (by kernel_rfl) (fun _ _ _ h => h) (Or.inl ⟨by rfl, ?rb17⟩) (by assumption) ?_
    case rb17 => (intro w hSw; (try dsimp only at hSw); (go_simp <;> with_reducible rfl))
    try simp only [Act.put, List.setIfInBounds_toArray, List.set_cons_zero, List.set_cons_succ]
    refine wpAnyH_take (i := 18) (oi := { dst := some 39, op := Go.Op.load 24 (Go.Operand.tmp 7), type := 24, pos := "law.go:83", after := #[{ on := 16, ground := Go.Ground.guard }], guard := some (16, true) }) (v := ?vb18) rfl (by kernel_rfl) (by kernel_rfl) (by kernel_rfl) (fun _ _ _ h => h) (Or.inl ⟨by rfl, ?rb18⟩) (by assumption) ?_
    case rb18 => (intro w hSw; (try dsimp only at hSw); (go_simp <;> with_reducible rfl))
    try simp only [Act.put, List.setIfInBounds_toArray, List.set_cons_zero, List.set_cons_succ]
    refine wpAnyH_take (i := 20) (oi := { dst := some 41, op := Go.Op.move (Go.Operand.tmp 6), type := 29, pos := "law.go:83", after := #[{ on := 16, ground := Go.Ground.guard }], guard := some (16, true) }) (v := ?vb20) rfl (by kernel_rfl) (by kernel_rfl) (by kernel_rfl) (fun _ _ _ h => h) (Or.inl ⟨by rfl, ?rb20⟩) (by assumption) ?_
    case rb20 => (intro w hSw; (try dsimp only at hSw); (go_simp <;> with_reducible rfl))
    try simp only [Act.put, List.setIfInBounds_toArray, List.set_cons_zero, List.set_cons_succ]
    refine wpAnyH_take (i := 21) (oi := { dst := some 42, op := Go.Op.move (Go.Operand.tmp 8), type := 29, pos := "law.go:83", after := #[{ on := 16, ground := Go.Ground.guard }], guard := some (16, true) }) (v := ?vb21) rfl (by kernel_rfl) (by kernel_rfl) (by kernel_rfl) (fun _ _ _ h => h) (Or.inl ⟨by rfl, ?rb21⟩) (by assumption) ?_
    case rb21 => (intro w hSw; (try dsimp only at hSw); (go_simp <;> with_reducible rfl))
    try simp only [Act.put, List.setIfInBounds_toArray, List.set_cons_zero, List.set_cons_succ]
    refine wpAnyH_ready (rs := [19]) (by kernel_rfl) (by simp) ?_
    refine AllReadyH.cons (o := { dst := some 40, op := Go.Op.call { callee := Go.Callee.value (Go.Operand.func 27), args := #[Go.Operand.tmp 38, Go.Operand.tmp 39], argTypes := #[24, 24] }, type := 4, pos := "law.go:83", after := #[{ on := 17, ground := Go.Ground.data }, { on := 18, ground := Go.Ground.data }, { on := 16, ground := Go.Ground.chain }, { on := 16, ground := Go.Ground.guard }], guard := some (16, true) }) rfl (fun K hK => ?_) AllReadyH.nil
    go_simp
    (go_at_call 27; refine (I.out _).mono ?_; rintro e w9 ⟨rfl, hgN⟩)
    first | refine hK.out _ _ ?sb5 (fun h5 => ?_) | (go_wp2_with fail; refine hK.out _ _ ?sb5 (fun h5 => ?_))
    case sb5 => ((try dsimp only); exact hX.out _ _ hgN h4)
    clear hK K h4
    try simp only [Act.put, List.setIfInBounds_toArray, List.set_cons_zero, List.set_cons_succ]
    refine wpAnyH_ready (rs := [22]) (by kernel_rfl) (by simp) ?_
    refine AllReadyH.cons (o := { dst := some 43, op := Go.Op.call { callee := Go.Callee.value (Go.Operand.func 26), args := #[Go.Operand.tmp 41, Go.Operand.tmp 42], argTypes := #[29, 29] }, type := 4, pos := "law.go:83", after := #[{ on := 20, ground := Go.Ground.data }, { on := 21, ground := Go.Ground.data }, { on := 19, ground := Go.Ground.chain }, { on := 16, ground := Go.Ground.guard }], guard := some (16, true) }) rfl (fun K hK => ?_) AllReadyH.nil
    go_simp
    (go_at_call 26; refine (R1.out _ _ _ _ _ h5.2.2.2.1 h5.2.2.2.2).mono ?_; rintro e w9 ⟨rfl, hgN⟩)
    first | refine hK.out _ _ ?sb6 (fun h6 => ?_) | (go_wp2_with fail; refine hK.out _ _ ?sb6 (fun h6 => ?_))
    case sb6 => ((try dsimp only); exact hX.out _ _ hgN h5)
    clear hK K h5
    try simp only [Act.put, List.setIfInBounds_toArray, List.set_cons_zero, List.set_cons_succ]
    refine wpAnyH_take (i := 23) (oi := { dst := some 44, op := Go.Op.move (Go.Operand.tmp 43), type := 4, pos := "law.go:83", after := #[{ on := 22, ground := Go.Ground.data }, { on := 22, ground := Go.Ground.chain }, { on := 16, ground := Go.Ground.guard }], guard := some (16, true) }) (v := ?vb23) rfl (by kernel_rfl) (by kernel_rfl) (by kernel_rfl) (fun _ _ _ h => h) (Or.inl ⟨by rfl, ?rb23⟩) (by assumption) ?_
    case rb23 => (intro w hSw; (try dsimp only at hSw); (go_simp <;> with_reducible rfl))
    try simp only [Act.put, List.setIfInBounds_toArray, List.set_cons_zero, List.set_cons_succ]
    refine wpAnyH_take (i := 24) (oi := { dst := some 45, op := Go.Op.move (Go.Operand.tmp 8), type := 29, pos := "law.go:83", after := #[{ on := 23, ground := Go.Ground.guard }], guard := some (23, false) }) (v := undef) rfl (by kernel_rfl) (by kernel_rfl) (by kernel_rfl) (fun _ _ _ h => h) (Or.inr ⟨by rfl, rfl⟩) (by assumption) ?_
    try simp only [Act.put, List.setIfInBounds_toArray, List.set_cons_zero, List.set_cons_succ]
    refine wpAnyH_take (i := 25) (oi := { dst := some 46, op := Go.Op.move (Go.Operand.tmp 6), type := 29, pos := "law.go:83", after := #[{ on := 23, ground := Go.Ground.guard }], guard := some (23, false) }) (v := undef) rfl (by kernel_rfl) (by kernel_rfl) (by kernel_rfl) (fun _ _ _ h => h) (Or.inr ⟨by rfl, rfl⟩) (by assumption) ?_
    try simp only [Act.put, List.setIfInBounds_toArray, List.set_cons_zero, List.set_cons_succ]
    refine wpAnyH_take (i := 26) (oi := { dst := some 47, op := Go.Op.call { callee := Go.Callee.value (Go.Operand.func 26), args := #[Go.Operand.tmp 45, Go.Operand.tmp 46], argTypes := #[29, 29] }, type := 4, pos := "law.go:83", after := #[{ on := 24, ground := Go.Ground.data }, { on := 25, ground := Go.Ground.data }, { on := 23, ground := Go.Ground.chain }, { on := 23, ground := Go.Ground.guard }], guard := some (23, false) }) (v := undef) rfl (by kernel_rfl) (by kernel_rfl) (by kernel_rfl) (fun _ _ _ h => h) (Or.inr ⟨by rfl, rfl⟩) (by assumption) ?_
    try simp only [Act.put, List.setIfInBounds_toArray, List.set_cons_zero, List.set_cons_succ]
    refine wpAnyH_take (i := 27) (oi := { dst := some 48, op := Go.Op.pick (Go.Operand.tmp 44) (Go.Operand.const (Go.Value.bool true)) (Go.Operand.tmp 47), type := 4, pos := "law.go:83", after := #[{ on := 23, ground := Go.Ground.data }, { on := 26, ground := Go.Ground.data }, { on := 16, ground := Go.Ground.guard }], guard := some (16, true) }) (v := ?vb27) rfl (by kernel_rfl) (by kernel_rfl) (by kernel_rfl) (fun _ _ _ h => h) (Or.inl ⟨by rfl, ?rb27⟩) (by assumption) ?_
    case rb27 => (intro w hSw; (try dsimp only at hSw); (go_simp <;> with_reducible rfl))
    try simp only [Act.put, List.setIfInBounds_toArray, List.set_cons_zero, List.set_cons_succ]
    refine wpAnyH_take (i := 28) (oi := { dst := some 49, op := Go.Op.binOp Go.BinOp.eql 4 (Go.Operand.tmp 40) (Go.Operand.tmp 48) 4, type := 4, pos := "law.go:83", after := #[{ on := 19, ground := Go.Ground.data }, { on := 27, ground := Go.Ground.data }, { on := 16, ground := Go.Ground.guard }], guard := some (16, true) }) (v := ?vb28) rfl (by kernel_rfl) (by kernel_rfl) (by kernel_rfl) (fun _ _ _ h => h) (Or.inl ⟨by rfl, ?rb28⟩) (by assumption) ?_
    case rb28 => (intro w hSw; (try dsimp only at hSw); (go_simp <;> with_reducible rfl))
    try simp only [Act.put, List.setIfInBounds_toArray, List.set_cons_zero, List.set_cons_succ]
    refine wpAnyH_take (i := 29) (oi := { dst := some 50, op := Go.Op.pick (Go.Operand.tmp 37) (Go.Operand.tmp 49) (Go.Operand.const (Go.Value.bool false)), type := 4, pos := "law.go:83", after := #[{ on := 16, ground := Go.Ground.data }, { on := 28, ground := Go.Ground.data }], guard := none }) (v := ?vb29) rfl (by kernel_rfl) (by kernel_rfl) (by kernel_rfl) (fun _ _ _ h => h) (Or.inl ⟨by rfl, ?rb29⟩) (by assumption) ?_
    case rb29 => (intro w hSw; (try dsimp only at hSw); (go_simp <;> with_reducible rfl))
    try simp only [Act.put, List.setIfInBounds_toArray, List.set_cons_zero, List.set_cons_succ]
    refine wpAnyH_take (i := 30) (oi := { dst := some 51, op := Go.Op.move (Go.Operand.tmp 50), type := 4, pos := "law.go:83", after := #[{ on := 29, ground := Go.Ground.data }, { on := 26, ground := Go.Ground.chain }], guard := none }) (v := ?vb30) rfl (by kernel_rfl) (by kernel_rfl) (by kernel_rfl) (fun _ _ _ h => h) (Or.inl ⟨by rfl, ?rb30⟩) (by assumption) ?_
    case rb30 => (intro w hSw; (try dsimp only at hSw); (go_simp <;> with_reducible rfl))
    try simp only [Act.put, List.setIfInBounds_toArray, List.set_cons_zero, List.set_cons_succ]
    refine wpAnyH_take (i := 31) (oi := { dst := some 52, op := Go.Op.load 24 (Go.Operand.tmp 5), type := 24, pos := "law.go:83", after := #[{ on := 30, ground := Go.Ground.guard }], guard := some (30, true) }) (v := ?vb31) rfl (by kernel_rfl) (by kernel_rfl) (by kernel_rfl) (fun _ _ _ h => h) (Or.inl ⟨by rfl, ?rb31⟩) (by assumption) ?_
    case rb31 => (intro w hSw; (try dsimp only at hSw); (go_simp <;> with_reducible rfl))
    try simp only [Act.put, List.setIfInBounds_toArray, List.set_cons_zero, List.set_cons_succ]
    refine wpAnyH_take (i := 32) (oi := { dst := some 53, op := Go.Op.load 24 (Go.Operand.tmp 7), type := 24, pos := "law.go:83", after := #[{ on := 30, ground := Go.Ground.guard }], guard := some (30, true) }) (v := ?vb32) rfl (by kernel_rfl) (by kernel_rfl) (by kernel_rfl) (fun _ _ _ h => h) (Or.inl ⟨by rfl, ?rb32⟩) (by assumption) ?_
    case rb32 => (intro w hSw; (try dsimp only at hSw); (go_simp <;> with_reducible rfl))
    try simp only [Act.put, List.setIfInBounds_toArray, List.set_cons_zero, List.set_cons_succ]
    refine wpAnyH_take (i := 34) (oi := { dst := some 55, op := Go.Op.move (Go.Operand.tmp 6), type := 29, pos := "law.go:83", after := #[{ on := 30, ground := Go.Ground.guard }], guard := some (30, true) }) (v := ?vb34) rfl (by kernel_rfl) (by kernel_rfl) (by kernel_rfl) (fun _ _ _ h => h) (Or.inl ⟨by rfl, ?rb34⟩) (by assumption) ?_
    case rb34 => (intro w hSw; (try dsimp only at hSw); (go_simp <;> with_reducible rfl))
    try simp only [Act.put, List.setIfInBounds_toArray, List.set_cons_zero, List.set_cons_succ]
    refine wpAnyH_take (i := 35) (oi := { dst := some 56, op := Go.Op.move (Go.Operand.tmp 8), type := 29, pos := "law.go:83", after := #[{ on := 30, ground := Go.Ground.guard }], guard := some (30, true) }) (v := ?vb35) rfl (by kernel_rfl) (by kernel_rfl) (by kernel_rfl) (fun _ _ _ h => h) (Or.inl ⟨by rfl, ?rb35⟩) (by assumption) ?_
    case rb35 => (intro w hSw; (try dsimp only at hSw); (go_simp <;> with_reducible rfl))
    try simp only [Act.put, List.setIfInBounds_toArray, List.set_cons_zero, List.set_cons_succ]
    refine wpAnyH_ready (rs := [33]) (by kernel_rfl) (by simp) ?_
    refine AllReadyH.cons (o := { dst := some 54, op := Go.Op.call { callee := Go.Callee.value (Go.Operand.func 28), args := #[Go.Operand.tmp 52, Go.Operand.tmp 53], argTypes := #[24, 24] }, type := 3, pos := "law.go:83", after := #[{ on := 31, ground := Go.Ground.data }, { on := 32, ground := Go.Ground.data }, { on := 30, ground := Go.Ground.chain }, { on := 30, ground := Go.Ground.guard }], guard := some (30, true) }) rfl (fun K hK => ?_) AllReadyH.nil
    go_simp
    (go_at_call 28; refine (KC.out _ (HM.out.gr h6.1)).mono ?_; rintro e w9 ⟨rfl, hgN⟩)
    first | refine hK.out _ _ ?sb7 (fun h7 => ?_) | (go_wp2_with fail; refine hK.out _ _ ?sb7 (fun h7 => ?_))
    case sb7 => ((try dsimp only); exact hX.out _ _ hgN h6)
    clear hK K h6
    try simp only [Act.put, List.setIfInBounds_toArray, List.set_cons_zero, List.set_cons_succ]
    refine wpAnyH_ready (rs := [36]) (by kernel_rfl) (by simp) ?_
    refine AllReadyH.cons (o := { dst := some 57, op := Go.Op.call { callee := Go.Callee.value (Go.Operand.func 29), args := #[Go.Operand.tmp 55, Go.Operand.tmp 56], argTypes := #[29, 29] }, type := 3, pos := "law.go:83", after := #[{ on := 34, ground := Go.Ground.data }, { on := 35, ground := Go.Ground.data }, { on := 33, ground := Go.Ground.chain }, { on := 30, ground := Go.Ground.guard }], guard := some (30, true) }) rfl (fun K hK => ?_) AllReadyH.nil
    go_simp
    (go_at_call 29; refine (RK.out _ _ _ _ _ h7.2.2.2.1 h7.2.2.2.2).mono ?_; rintro e w9 ⟨rfl, hgN⟩)
    first | refine hK.out _ _ ?sb8 (fun h8 => ?_) | (go_wp2_with fail; refine hK.out _ _ ?sb8 (fun h8 => ?_))
    case sb8 => ((try dsimp only); exact hX.out _ _ hgN h7)
    clear hK K h7
    try simp only [Act.put, List.setIfInBounds_toArray, List.set_cons_zero, List.set_cons_succ]
    refine wpAnyH_take (i := 37) (oi := { dst := some 58, op := Go.Op.binOp Go.BinOp.eql 3 (Go.Operand.tmp 54) (Go.Operand.tmp 57) 3, type := 4, pos := "law.go:83", after := #[{ on := 33, ground := Go.Ground.data }, { on := 36, ground := Go.Ground.data }, { on := 30, ground := Go.Ground.guard }], guard := some (30, true) }) (v := ?vb37) rfl (by kernel_rfl) (by kernel_rfl) (by kernel_rfl) (fun _ _ _ h => h) (Or.inl ⟨by rfl, ?rb37⟩) (by assumption) ?_
    case rb37 => (intro w hSw; (try dsimp only at hSw); (go_simp <;> with_reducible rfl))
    try simp only [Act.put, List.setIfInBounds_toArray, List.set_cons_zero, List.set_cons_succ]
    refine wpAnyH_take (i := 38) (oi := { dst := some 59, op := Go.Op.pick (Go.Operand.tmp 51) (Go.Operand.tmp 58) (Go.Operand.const (Go.Value.bool false)), type := 4, pos := "law.go:83", after := #[{ on := 30, ground := Go.Ground.data }, { on := 37, ground := Go.Ground.data }], guard := none }) (v := ?vb38) rfl (by kernel_rfl) (by kernel_rfl) (by kernel_rfl) (fun _ _ _ h => h) (Or.inl ⟨by rfl, ?rb38⟩) (by assumption) ?_
    case rb38 => (intro w hSw; (try dsimp only at hSw); (go_simp <;> with_reducible rfl))
    try simp only [Act.put, List.setIfInBounds_toArray, List.set_cons_zero, List.set_cons_succ]
    refine wpAnyH_take (i := 39) (oi := { dst := some 60, op := Go.Op.move (Go.Operand.tmp 59), type := 4, pos := "law.go:83", after := #[{ on := 38, ground := Go.Ground.data }, { on := 36, ground := Go.Ground.chain }], guard := none }) (v := ?vb39) rfl (by kernel_rfl) (by kernel_rfl) (by kernel_rfl) (fun _ _ _ h => h) (Or.inl ⟨by rfl, ?rb39⟩) (by assumption) ?_
    case rb39 => (intro w hSw; (try dsimp only at hSw); (go_simp <;> with_reducible rfl))
    try simp only [Act.put, List.setIfInBounds_toArray, List.set_cons_zero, List.set_cons_succ]
    refine wpAnyH_take (i := 40) (oi := { dst := some 61, op := Go.Op.load 24 (Go.Operand.tmp 5), type := 24, pos := "law.go:83", after := #[{ on := 39, ground := Go.Ground.guard }], guard := some (39, true) }) (v := ?vb40) rfl (by kernel_rfl) (by kernel_rfl) (by kernel_rfl) (fun _ _ _ h => h) (Or.inl ⟨by rfl, ?rb40⟩) (by assumption) ?_
    case rb40 => (intro w hSw; (try dsimp only at hSw); (go_simp <;> with_reducible rfl))
    try simp only [Act.put, List.setIfInBounds_toArray, List.set_cons_zero, List.set_cons_succ]
    refine wpAnyH_take (i := 41) (oi := { dst := some 62, op := Go.Op.load 24 (Go.Operand.tmp 7), type := 24, pos := "law.go:83", after := #[{ on := 39, ground := Go.Ground.guard }], guard := some (39, true) }) (v := ?vb41) rfl (by kernel_rfl) (by kernel_rfl) (by kernel_rfl) (fun _ _ _ h => h) (Or.inl ⟨by rfl, ?rb41⟩) (by assumption) ?_
    case rb41 => (intro w hSw; (try dsimp only at hSw); (go_simp <;> with_reducible rfl))
    try simp only [Act.put, List.setIfInBounds_toArray, List.set_cons_zero, List.set_cons_succ]
    refine wpAnyH_take (i := 42) (oi := { dst := some 63, op := Go.Op.binOp Go.BinOp.eql 24 (Go.Operand.tmp 61) (Go.Operand.tmp 62) 24, type := 4, pos := "law.go:83", after := #[{ on := 40, ground := Go.Ground.data }, { on := 41, ground := Go.Ground.data }, { on := 39, ground := Go.Ground.guard }], guard := some (39, true) }) (v := ?vb42) rfl (by kernel_rfl) (by kernel_rfl) (by kernel_rfl) (fun _ _ _ h => h) (Or.inl ⟨by rfl, ?rb42⟩) (by assumption) ?_
    case rb42 => (intro w hSw; (try dsimp only at hSw); (go_simp <;> with_reducible rfl))
    try simp only [Act.put, List.setIfInBounds_toArray, List.set_cons_zero, List.set_cons_succ]
    refine wpAnyH_take (i := 43) (oi := { dst := some 64, op := Go.Op.move (Go.Operand.tmp 6), type := 29, pos := "law.go:83", after := #[{ on := 39, ground := Go.Ground.guard }], guard := some (39, true) }) (v := ?vb43) rfl (by kernel_rfl) (by kernel_rfl) (by kernel_rfl) (fun _ _ _ h => h) (Or.inl ⟨by rfl, ?rb43⟩) (by assumption) ?_
    case rb43 => (intro w hSw; (try dsimp only at hSw); (go_simp <;> with_reducible rfl))
    try simp only [Act.put, List.setIfInBounds_toArray, List.set_cons_zero, List.set_cons_succ]
    refine wpAnyH_take (i := 44) (oi := { dst := some 65, op := Go.Op.move (Go.Operand.tmp 8), type := 29, pos := "law.go:83", after := #[{ on := 39, ground := Go.Ground.guard }], guard := some (39, true) }) (v := ?vb44) rfl (by kernel_rfl) (by kernel_rfl) (by kernel_rfl) (fun _ _ _ h => h) (Or.inl ⟨by rfl, ?rb44⟩) (by assumption) ?_
    case rb44 => (intro w hSw; (try dsimp only at hSw); (go_simp <;> with_reducible rfl))
    try simp only [Act.put, List.setIfInBounds_toArray, List.set_cons_zero, List.set_cons_succ]
    refine wpAnyH_ready (rs := [45]) (by kernel_rfl) (by simp) ?_
    refine AllReadyH.cons (o := { dst := some 66, op := Go.Op.call { callee := Go.Callee.value (Go.Operand.func 15), args := #[Go.Operand.tmp 64, Go.Operand.tmp 65], argTypes := #[29, 29] }, type := 4, pos := "law.go:83", after := #[{ on := 43, ground := Go.Ground.data }, { on := 44, ground := Go.Ground.data }, { on := 39, ground := Go.Ground.chain }, { on := 39, ground := Go.Ground.guard }], guard := some (39, true) }) rfl (fun K hK => ?_) AllReadyH.nil
    go_simp
    (go_at_call 15; refine (RS.out _ _ _ _ _ h8.2.2.2.1 h8.2.2.2.2).mono ?_; rintro e w9 ⟨rfl, hgN⟩)
    first | refine hK.out _ _ ?sb9 (fun h9 => ?_) | (go_wp2_with fail; refine hK.out _ _ ?sb9 (fun h9 => ?_))
    case sb9 => ((try dsimp only); exact hX.out _ _ hgN h8)
    clear hK K h8
    try simp only [Act.put, List.setIfInBounds_toArray, List.set_cons_zero, List.set_cons_succ]
    refine wpAnyH_take (i := 46) (oi := { dst := some 67, op := Go.Op.binOp Go.BinOp.eql 4 (Go.Operand.tmp 63) (Go.Operand.tmp 66) 4, type := 4, pos := "law.go:83", after := #[{ on := 42, ground := Go.Ground.data }, { on := 45, ground := Go.Ground.data }, { on := 39, ground := Go.Ground.guard }], guard := some (39, true) }) (v := ?vb46) rfl (by kernel_rfl) (by kernel_rfl) (by kernel_rfl) (fun _ _ _ h => h) (Or.inl ⟨by rfl, ?rb46⟩) (by assumption) ?_
    case rb46 => (intro w hSw; (try dsimp only at hSw); (go_simp <;> with_reducible rfl))
    try simp only [Act.put, List.setIfInBounds_toArray, List.set_cons_zero, List.set_cons_succ]
    refine wpAnyH_take (i := 47) (oi := { dst := some 68, op := Go.Op.pick (Go.Operand.tmp 60) (Go.Operand.tmp 67) (Go.Operand.const (Go.Value.bool false)), type := 4, pos := "law.go:83", after := #[{ on := 39, ground := Go.Ground.data }, { on := 46, ground := Go.Ground.data }], guard := none }) (v := ?vb47) rfl (by kernel_rfl) (by kernel_rfl) (by kernel_rfl) (fun _ _ _ h => h) (Or.inl ⟨by rfl, ?rb47⟩) (by assumption) ?_
    case rb47 => (intro w hSw; (try dsimp only at hSw); (go_simp <;> with_reducible rfl))
    try simp only [Act.put, List.setIfInBounds_toArray, List.set_cons_zero, List.set_cons_succ]
    refine wpAnyH_take (i := 48) (oi := { dst := some 4, op := Go.Op.assign (Go.Operand.tmp 68), type := 4, pos := "law.go:83", after := #[{ on := 47, ground := Go.Ground.data }, { on := 45, ground := Go.Ground.chain }, { on := 0, ground := Go.Ground.phase }, { on := 1, ground := Go.Ground.phase }, { on := 2, ground := Go.Ground.phase }, { on := 3, ground := Go.Ground.phase }, { on := 4, ground := Go.Ground.phase }, { on := 5, ground := Go.Ground.phase }, { on := 6, ground := Go.Ground.phase }, { on := 7, ground := Go.Ground.phase }, { on := 8, ground := Go.Ground.phase }, { on := 9, ground := Go.Ground.phase }, { on := 10, ground := Go.Ground.phase }, { on := 11, ground := Go.Ground.phase }, { on := 12, ground := Go.Ground.phase }, { on := 13, ground := Go.Ground.phase }, { on := 14, ground := Go.Ground.phase }, { on := 15, ground := Go.Ground.phase }, { on := 16, ground := Go.Ground.phase }, { on := 17, ground := Go.Ground.phase }, { on := 18, ground := Go.Ground.phase }, { on := 19, ground := Go.Ground.phase }, { on := 20, ground := Go.Ground.phase }, { on := 21, ground := Go.Ground.phase }, { on := 22, ground := Go.Ground.phase }, { on := 23, ground := Go.Ground.phase }, { on := 24, ground := Go.Ground.phase }, { on := 25, ground := Go.Ground.phase }, { on := 26, ground := Go.Ground.phase }, { on := 27, ground := Go.Ground.phase }, { on := 28, ground := Go.Ground.phase }, { on := 29, ground := Go.Ground.phase }, { on := 30, ground := Go.Ground.phase }, { on := 31, ground := Go.Ground.phase }, { on := 32, ground := Go.Ground.phase }, { on := 33, ground := Go.Ground.phase }, { on := 34, ground := Go.Ground.phase }, { on := 35, ground := Go.Ground.phase }, { on := 36, ground := Go.Ground.phase }, { on := 37, ground := Go.Ground.phase }, { on := 38, ground := Go.Ground.phase }, { on := 39, ground := Go.Ground.phase }, { on := 40, ground := Go.Ground.phase }, { on := 41, ground := Go.Ground.phase }, { on := 42, ground := Go.Ground.phase }, { on := 43, ground := Go.Ground.phase }, { on := 44, ground := Go.Ground.phase }, { on := 45, ground := Go.Ground.phase }, { on := 46, ground := Go.Ground.phase }, { on := 47, ground := Go.Ground.phase }], guard := none }) (v := ?vb48) rfl (by kernel_rfl) (by kernel_rfl) (by kernel_rfl) (fun _ _ _ h => h) (Or.inl ⟨by rfl, ?rb48⟩) (by assumption) ?_
    case rb48 => (intro w hSw; (try dsimp only at hSw); (go_simp <;> with_reducible rfl))
    try simp only [Act.put, List.setIfInBounds_toArray, List.set_cons_zero, List.set_cons_succ]
    refine wpAnyH_done (by kernel_rfl) ?_ _
    go_wp2
    go_ret
    exact ⟨by first | rfl | simp, h9.1⟩
  · skip
    refine wp_region_held_drew (S := (fun w' => Gr w w' ∧ w'.cell? ⟨p1, 0, none⟩ = some (.string t) ∧ w'.cell? ⟨p2, 0, none⟩ = some (.string u) ∧ Strs w' ao l ∧ Strs w' bo m)) (by kernel_rfl) ?invc (fun h0 => ?_)
    case invc => ((try dsimp only); (first | exact HS0 | exact hD.out _ HS0))
    refine wpAnyH_take (i := 0) (oi := { dst := some 21, op := Go.Op.load 24 (Go.Operand.tmp 5), type := 24, pos := "law.go:83", after := #[], guard := none }) (v := ?vc0) rfl (by kernel_rfl) (by kernel_rfl) (by kernel_rfl) (fun _ _ _ h => h) (Or.inl ⟨by rfl, ?rc0⟩) (by assumption) ?_
    case rc0 => (intro w hSw; (try dsimp only at hSw); (go_simp <;> with_reducible rfl))
    try simp only [Act.put, List.setIfInBounds_toArray, List.set_cons_zero, List.set_cons_succ]
    refine wpAnyH_take (i := 1) (oi := { dst := some 22, op := Go.Op.load 24 (Go.Operand.tmp 7), type := 24, pos := "law.go:83", after := #[], guard := none }) (v := ?vc1) rfl (by kernel_rfl) (by kernel_rfl) (by kernel_rfl) (fun _ _ _ h => h) (Or.inl ⟨by rfl, ?rc1⟩) (by assumption) ?_
    case rc1 => (intro w hSw; (try dsimp only at hSw); (go_simp <;> with_reducible rfl))
    try simp only [Act.put, List.setIfInBounds_toArray, List.set_cons_zero, List.set_cons_succ]
    refine wpAnyH_take (i := 3) (oi := { dst := some 24, op := Go.Op.move (Go.Operand.tmp 6), type := 29, pos := "law.go:83", after := #[], guard := none }) (v := ?vc3) rfl (by kernel_rfl) (by kernel_rfl) (by kernel_rfl) (fun _ _ _ h => h) (Or.inl ⟨by rfl, ?rc3⟩) (by assumption) ?_
    case rc3 => (intro w hSw; (try dsimp only at hSw); (go_simp <;> with_reducible rfl))
    try simp only [Act.put, List.setIfInBounds_toArray, List.set_cons_zero, List.set_cons_succ]
    refine wpAnyH_take (i := 4) (oi := { dst := some 25, op := Go.Op.move (Go.Operand.tmp 8), type := 29, pos := "law.go:83", after := #[], guard := none }) (v := ?vc4) rfl (by kernel_rfl) (by kernel_rfl) (by kernel_rfl) (fun _ _ _ h => h) (Or.inl ⟨by rfl, ?rc4⟩) (by assumption) ?_
    case rc4 => (intro w hSw; (try dsimp only at hSw); (go_simp <;> with_reducible rfl))
    try simp only [Act.put, List.setIfInBounds_toArray, List.set_cons_zero, List.set_cons_succ]
    refine wpAnyH_ready (rs := [2]) (by kernel_rfl) (by simp) ?_
    refine AllReadyH.cons (o := { dst := some 23, op := Go.Op.call { callee := Go.Callee.value (Go.Operand.func 24), args := #[Go.Operand.tmp 21, Go.Operand.tmp 22], argTypes := #[24, 24] }, type := 4, pos := "law.go:83", after := #[{ on := 0, ground := Go.Ground.data }, { on := 1, ground := Go.Ground.data }], guard := none }) rfl (fun K hK => ?_) AllReadyH.nil
    go_simp
    (go_at_call 24; refine (O1.out _).mono ?_; rintro e w9 ⟨rfl, hgN⟩)
    first | refine hK.out _ _ ?sc1 (fun h1 => ?_) | (go_wp2_with fail; refine hK.out _ _ ?sc1 (fun h1 => ?_))
    case sc1 => ((try dsimp only); exact hX.out _ _ hgN h0)
    clear hK K h0
    try simp only [Act.put, List.setIfInBounds_toArray, List.set_cons_zero, List.set_cons_succ]
    refine wpAnyH_ready (rs := [5]) (by kernel_rfl) (by simp) ?_
    refine AllReadyH.cons (o := { dst := some 26, op := Go.Op.call { callee := Go.Callee.value (Go.Operand.func 26), args := #[Go.Operand.tmp 24, Go.Operand.tmp 25], argTypes := #[29, 29] }, type := 4, pos := "law.go:83", after := #[{ on := 3, ground := Go.Ground.data }, { on := 4, ground := Go.Ground.data }, { on := 2, ground := Go.Ground.chain }], guard := none }) rfl (fun K hK => ?_) AllReadyH.nil
    go_simp
    (go_at_call 26; refine (R1.out _ _ _ _ _ h1.2.2.2.1 h1.2.2.2.2).mono ?_; rintro e w9 ⟨rfl, hgN⟩)
    first | refine hK.out _ _ ?sc2 (fun h2 => ?_) | (go_wp2_with fail; refine hK.out _ _ ?sc2 (fun h2 => ?_))
    case sc2 => ((try dsimp only); exact hX.out _ _ hgN h1)
    clear hK K h1
    try simp only [Act.put, List.setIfInBounds_toArray, List.set_cons_zero, List.set_cons_succ]
    refine wpAnyH_take (i := 6) (oi := { dst := some 27, op := Go.Op.binOp Go.BinOp.eql 4 (Go.Operand.tmp 23) (Go.Operand.tmp 26) 4, type := 4, pos := "law.go:83", after := #[{ on := 2, ground := Go.Ground.data }, { on := 5, ground := Go.Ground.data }], guard := none }) (v := ?vc6) rfl (by kernel_rfl) (by kernel_rfl) (by kernel_rfl) (fun _ _ _ h => h) (Or.inl ⟨by rfl, ?rc6⟩) (by assumption) ?_
    case rc6 => (intro w hSw; (try dsimp only at hSw); (go_simp <;> with_reducible rfl))
    try simp only [Act.put, List.setIfInBounds_toArray, List.set_cons_zero, List.set_cons_succ]
    refine wpAnyH_take (i := 7) (oi := { dst := some 28, op := Go.Op.move (Go.Operand.tmp 27), type := 4, pos := "law.go:83", after := #[{ on := 6, ground := Go.Ground.data }, { on := 5, ground := Go.Ground.chain }], guard := none }) (v := ?vc7) rfl (by kernel_rfl) (by kernel_rfl) (by kernel_rfl) (fun _ _ _ h => h) (Or.inl ⟨by rfl, ?rc7⟩) (by assumption) ?_
    case rc7 => (intro w hSw; (try dsimp only at hSw); (go_simp <;> with_reducible rfl))
    try simp only [Act.put, List.setIfInBounds_toArray, List.set_cons_zero, List.set_cons_succ]
    refine wpAnyH_take (i := 8) (oi := { dst := some 29, op := Go.Op.load 24 (Go.Operand.tmp 7), type := 24, pos := "law.go:83", after := #[{ on := 7, ground := Go.Ground.guard }], guard := some (7, true) }) (v := ?vc8) rfl (by kernel_rfl) (by kernel_rfl) (by kernel_rfl) (fun _ _ _ h => h) (Or.inl ⟨by rfl, ?rc8⟩) (by assumption) ?_
    case rc8 => (intro w hSw; (try dsimp only at hSw); (go_simp <;> with_reducible rfl))
    try simp only [Act.put, List.setIfInBounds_toArray, List.set_cons_zero, List.set_cons_succ]
    refine wpAnyH_take (i := 9) (oi := { dst := some 30, op := Go.Op.load 24 (Go.Operand.tmp 5), type := 24, pos := "law.go:83", after := #[{ on := 7, ground := Go.Ground.guard }], guard := some (7, true) }) (v := ?vc9) rfl (by kernel_rfl) (by kernel_rfl) (by kernel_rfl) (fun _ _ _ h => h) (Or.inl ⟨by rfl, ?rc9⟩) (by assumption) ?_
    case rc9 => (intro w hSw; (try dsimp only at hSw); (go_simp <;> with_reducible rfl))
    try simp only [Act.put, List.setIfInBounds_toArray, List.set_cons_zero, List.set_cons_succ]
    refine wpAnyH_take (i := 11) (oi := { dst := some 32, op := Go.Op.move (Go.Operand.tmp 8), type := 29, pos := "law.go:83", after := #[{ on := 7, ground := Go.Ground.guard }], guard := some (7, true) }) (v := ?vc11) rfl (by kernel_rfl) (by kernel_rfl) (by kernel_rfl) (fun _ _ _ h => h) (Or.inl ⟨by rfl, ?rc11⟩) (by assumption) ?_
    case rc11 => (intro w hSw; (try dsimp only at hSw); (go_simp <;> with_reducible rfl))
    try simp only [Act.put, List.setIfInBounds_toArray, List.set_cons_zero, List.set_cons_succ]
    refine wpAnyH_take (i := 12) (oi := { dst := some 33, op := Go.Op.move (Go.Operand.tmp 6), type := 29, pos := "law.go:83", after := #[{ on := 7, ground := Go.Ground.guard }], guard := some (7, true) }) (v := ?vc12) rfl (by kernel_rfl) (by kernel_rfl) (by kernel_rfl) (fun _ _ _ h => h) (Or.inl ⟨by rfl, ?rc12⟩) (by assumption) ?_
    case rc12 => (intro w hSw; (try dsimp only at hSw); (go_simp <;> with_reducible rfl))
    try simp only [Act.put, List.setIfInBounds_toArray, List.set_cons_zero, List.set_cons_succ]
    refine wpAnyH_ready (rs := [10]) (by kernel_rfl) (by simp) ?_
    refine AllReadyH.cons (o := { dst := some 31, op := Go.Op.call { callee := Go.Callee.value (Go.Operand.func 24), args := #[Go.Operand.tmp 29, Go.Operand.tmp 30], argTypes := #[24, 24] }, type := 4, pos := "law.go:83", after := #[{ on := 8, ground := Go.Ground.data }, { on := 9, ground := Go.Ground.data }, { on := 7, ground := Go.Ground.chain }, { on := 7, ground := Go.Ground.guard }], guard := some (7, true) }) rfl (fun K hK => ?_) AllReadyH.nil
    go_simp
    (go_at_call 24; refine (O2.out _).mono ?_; rintro e w9 ⟨rfl, hgN⟩)
    first | refine hK.out _ _ ?sc3 (fun h3 => ?_) | (go_wp2_with fail; refine hK.out _ _ ?sc3 (fun h3 => ?_))
    case sc3 => ((try dsimp only); exact hX.out _ _ hgN h2)
    clear hK K h2
    try simp only [Act.put, List.setIfInBounds_toArray, List.set_cons_zero, List.set_cons_succ]
    refine wpAnyH_ready (rs := [13]) (by kernel_rfl) (by simp) ?_
    refine AllReadyH.cons (o := { dst := some 34, op := Go.Op.call { callee := Go.Callee.value (Go.Operand.func 26), args := #[Go.Operand.tmp 32, Go.Operand.tmp 33], argTypes := #[29, 29] }, type := 4, pos := "law.go:83", after := #[{ on := 11, ground := Go.Ground.data }, { on := 12, ground := Go.Ground.data }, { on := 10, ground := Go.Ground.chain }, { on := 7, ground := Go.Ground.guard }], guard := some (7, true) }) rfl (fun K hK => ?_) AllReadyH.nil
    go_simp
    (go_at_call 26; refine (R2.out _ _ _ _ _ h3.2.2.2.2 h3.2.2.2.1).mono ?_; rintro e w9 ⟨rfl, hgN⟩)
    first | refine hK.out _ _ ?sc4 (fun h4 => ?_) | (go_wp2_with fail; refine hK.out _ _ ?sc4 (fun h4 => ?_))
    case sc4 => ((try dsimp only); exact hX.out _ _ hgN h3)
    clear hK K h3
    try simp only [Act.put, List.setIfInBounds_toArray, List.set_cons_zero, List.set_cons_succ]
    refine wpAnyH_take (i := 14) (oi := { dst := some 35, op := Go.Op.binOp Go.BinOp.eql 4 (Go.Operand.tmp 31) (Go.Operand.tmp 34) 4, type := 4, pos := "law.go:83", after := #[{ on := 10, ground := Go.Ground.data }, { on := 13, ground := Go.Ground.data }, { on := 7, ground := Go.Ground.guard }], guard := some (7, true) }) (v := ?vc14) rfl (by kernel_rfl) (by kernel_rfl) (by kernel_rfl) (fun _ _ _ h => h) (Or.inl ⟨by rfl, ?rc14⟩) (by assumption) ?_
    case rc14 => (intro w hSw; (try dsimp only at hSw); (go_simp <;> with_reducible rfl))
    try simp only [Act.put, List.setIfInBounds_toArray, List.set_cons_zero, List.set_cons_succ]
    refine wpAnyH_take (i := 15) (oi := { dst := some 36, op := Go.Op.pick (Go.Operand.tmp 28) (Go.Operand.tmp 35) (Go.Operand.const (Go.Value.bool false)), type := 4, pos := "law.go:83", after := #[{ on := 7, ground := Go.Ground.data }, { on := 14, ground := Go.Ground.data }], guard := none }) (v := ?vc15) rfl (by kernel_rfl) (by kernel_rfl) (by kernel_rfl) (fun _ _ _ h => h) (Or.inl ⟨by rfl, ?rc15⟩) (by assumption) ?_
    case rc15 => (intro w hSw; (try dsimp only at hSw); (go_simp <;> with_reducible rfl))
    try simp only [Act.put, List.setIfInBounds_toArray, List.set_cons_zero, List.set_cons_succ]
    refine wpAnyH_take (i := 16) (oi := { dst := some 37, op := Go.Op.move (Go.Operand.tmp 36), type := 4, pos := "law.go:83", after := #[{ on := 15, ground := Go.Ground.data }, { on := 13, ground := Go.Ground.chain }], guard := none }) (v := ?vc16) rfl (by kernel_rfl) (by kernel_rfl) (by kernel_rfl) (fun _ _ _ h => h) (Or.inl ⟨by rfl, ?rc16⟩) (by assumption) ?_
    case rc16 => (intro w hSw; (try dsimp only at hSw); (go_simp <;> with_reducible rfl))
    try simp only [Act.put, List.setIfInBounds_toArray, List.set_cons_zero, List.set_cons_succ]
    refine wpAnyH_take (i := 17) (oi := { dst := some 38, op := Go.Op.load 24 (Go.Operand.tmp 5), type := 24, pos := "law.go:83", after := #[{ on := 16, ground := Go.Ground.guard }], guard := some (16, true) }) (v := ?vc17) rfl (by kernel_rfl) (by kernel_rfl) (by kernel_rfl) (fun _ _ _ h => h) (Or.inl ⟨by rfl, ?rc17⟩) (by assumption) ?_
    case rc17 => (intro w hSw; (try dsimp only at hSw); (go_simp <;> with_reducible rfl))
    try simp only [Act.put, List.setIfInBounds_toArray, List.set_cons_zero, List.set_cons_succ]
    refine wpAnyH_take (i := 18) (oi := { dst := some 39, op := Go.Op.load 24 (Go.Operand.tmp 7), type := 24, pos := "law.go:83", after := #[{ on := 16, ground := Go.Ground.guard }], guard := some (16, true) }) (v := ?vc18) rfl (by kernel_rfl) (by kernel_rfl) (by kernel_rfl) (fun _ _ _ h => h) (Or.inl ⟨by rfl, ?rc18⟩) (by assumption) ?_
    case rc18 => (intro w hSw; (try dsimp only at hSw); (go_simp <;> with_reducible rfl))
    try simp only [Act.put, List.setIfInBounds_toArray, List.set_cons_zero, List.set_cons_succ]
    refine wpAnyH_take (i := 20) (oi := { dst := some 41, op := Go.Op.move (Go.Operand.tmp 6), type := 29, pos := "law.go:83", after := #[{ on := 16, ground := Go.Ground.guard }], guard := some (16, true) }) (v := ?vc20) rfl (by kernel_rfl) (by kernel_rfl) (by kernel_rfl) (fun _ _ _ h => h) (Or.inl ⟨by rfl, ?rc20⟩) (by assumption) ?_
    case rc20 => (intro w hSw; (try dsimp only at hSw); (go_simp <;> with_reducible rfl))
    try simp only [Act.put, List.setIfInBounds_toArray, List.set_cons_zero, List.set_cons_succ]
    refine wpAnyH_take (i := 21) (oi := { dst := some 42, op := Go.Op.move (Go.Operand.tmp 8), type := 29, pos := "law.go:83", after := #[{ on := 16, ground := Go.Ground.guard }], guard := some (16, true) }) (v := ?vc21) rfl (by kernel_rfl) (by kernel_rfl) (by kernel_rfl) (fun _ _ _ h => h) (Or.inl ⟨by rfl, ?rc21⟩) (by assumption) ?_
    case rc21 => (intro w hSw; (try dsimp only at hSw); (go_simp <;> with_reducible rfl))
    try simp only [Act.put, List.setIfInBounds_toArray, List.set_cons_zero, List.set_cons_succ]
    refine wpAnyH_ready (rs := [19]) (by kernel_rfl) (by simp) ?_
    refine AllReadyH.cons (o := { dst := some 40, op := Go.Op.call { callee := Go.Callee.value (Go.Operand.func 27), args := #[Go.Operand.tmp 38, Go.Operand.tmp 39], argTypes := #[24, 24] }, type := 4, pos := "law.go:83", after := #[{ on := 17, ground := Go.Ground.data }, { on := 18, ground := Go.Ground.data }, { on := 16, ground := Go.Ground.chain }, { on := 16, ground := Go.Ground.guard }], guard := some (16, true) }) rfl (fun K hK => ?_) AllReadyH.nil
    go_simp
    (go_at_call 27; refine (I.out _).mono ?_; rintro e w9 ⟨rfl, hgN⟩)
    first | refine hK.out _ _ ?sc5 (fun h5 => ?_) | (go_wp2_with fail; refine hK.out _ _ ?sc5 (fun h5 => ?_))
    case sc5 => ((try dsimp only); exact hX.out _ _ hgN h4)
    clear hK K h4
    try simp only [Act.put, List.setIfInBounds_toArray, List.set_cons_zero, List.set_cons_succ]
    refine wpAnyH_ready (rs := [22]) (by kernel_rfl) (by simp) ?_
    refine AllReadyH.cons (o := { dst := some 43, op := Go.Op.call { callee := Go.Callee.value (Go.Operand.func 26), args := #[Go.Operand.tmp 41, Go.Operand.tmp 42], argTypes := #[29, 29] }, type := 4, pos := "law.go:83", after := #[{ on := 20, ground := Go.Ground.data }, { on := 21, ground := Go.Ground.data }, { on := 19, ground := Go.Ground.chain }, { on := 16, ground := Go.Ground.guard }], guard := some (16, true) }) rfl (fun K hK => ?_) AllReadyH.nil
    go_simp
    (go_at_call 26; refine (R1.out _ _ _ _ _ h5.2.2.2.1 h5.2.2.2.2).mono ?_; rintro e w9 ⟨rfl, hgN⟩)
    first | refine hK.out _ _ ?sc6 (fun h6 => ?_) | (go_wp2_with fail; refine hK.out _ _ ?sc6 (fun h6 => ?_))
    case sc6 => ((try dsimp only); exact hX.out _ _ hgN h5)
    clear hK K h5
    try simp only [Act.put, List.setIfInBounds_toArray, List.set_cons_zero, List.set_cons_succ]
    refine wpAnyH_take (i := 23) (oi := { dst := some 44, op := Go.Op.move (Go.Operand.tmp 43), type := 4, pos := "law.go:83", after := #[{ on := 22, ground := Go.Ground.data }, { on := 22, ground := Go.Ground.chain }, { on := 16, ground := Go.Ground.guard }], guard := some (16, true) }) (v := ?vc23) rfl (by kernel_rfl) (by kernel_rfl) (by kernel_rfl) (fun _ _ _ h => h) (Or.inl ⟨by rfl, ?rc23⟩) (by assumption) ?_
    case rc23 => (intro w hSw; (try dsimp only at hSw); (go_simp <;> with_reducible rfl))
    try simp only [Act.put, List.setIfInBounds_toArray, List.set_cons_zero, List.set_cons_succ]
    refine wpAnyH_take (i := 24) (oi := { dst := some 45, op := Go.Op.move (Go.Operand.tmp 8), type := 29, pos := "law.go:83", after := #[{ on := 23, ground := Go.Ground.guard }], guard := some (23, false) }) (v := ?vc24) rfl (by kernel_rfl) (by kernel_rfl) (by kernel_rfl) (fun _ _ _ h => h) (Or.inl ⟨by rfl, ?rc24⟩) (by assumption) ?_
    case rc24 => (intro w hSw; (try dsimp only at hSw); (go_simp <;> with_reducible rfl))
    try simp only [Act.put, List.setIfInBounds_toArray, List.set_cons_zero, List.set_cons_succ]
    refine wpAnyH_take (i := 25) (oi := { dst := some 46, op := Go.Op.move (Go.Operand.tmp 6), type := 29, pos := "law.go:83", after := #[{ on := 23, ground := Go.Ground.guard }], guard := some (23, false) }) (v := ?vc25) rfl (by kernel_rfl) (by kernel_rfl) (by kernel_rfl) (fun _ _ _ h => h) (Or.inl ⟨by rfl, ?rc25⟩) (by assumption) ?_
    case rc25 => (intro w hSw; (try dsimp only at hSw); (go_simp <;> with_reducible rfl))
    try simp only [Act.put, List.setIfInBounds_toArray, List.set_cons_zero, List.set_cons_succ]
    refine wpAnyH_ready (rs := [26]) (by kernel_rfl) (by simp) ?_
    refine AllReadyH.cons (o := { dst := some 47, op := Go.Op.call { callee := Go.Callee.value (Go.Operand.func 26), args := #[Go.Operand.tmp 45, Go.Operand.tmp 46], argTypes := #[29, 29] }, type := 4, pos := "law.go:83", after := #[{ on := 24, ground := Go.Ground.data }, { on := 25, ground := Go.Ground.data }, { on := 23, ground := Go.Ground.chain }, { on := 23, ground := Go.Ground.guard }], guard := some (23, false) }) rfl (fun K hK => ?_) AllReadyH.nil
    go_simp
    (go_at_call 26; refine (R2.out _ _ _ _ _ h6.2.2.2.2 h6.2.2.2.1).mono ?_; rintro e w9 ⟨rfl, hgN⟩)
    first | refine hK.out _ _ ?sc7 (fun h7 => ?_) | (go_wp2_with fail; refine hK.out _ _ ?sc7 (fun h7 => ?_))
    case sc7 => ((try dsimp only); exact hX.out _ _ hgN h6)
    clear hK K h6
    try simp only [Act.put, List.setIfInBounds_toArray, List.set_cons_zero, List.set_cons_succ]
    refine wpAnyH_take (i := 27) (oi := { dst := some 48, op := Go.Op.pick (Go.Operand.tmp 44) (Go.Operand.const (Go.Value.bool true)) (Go.Operand.tmp 47), type := 4, pos := "law.go:83", after := #[{ on := 23, ground := Go.Ground.data }, { on := 26, ground := Go.Ground.data }, { on := 16, ground := Go.Ground.guard }], guard := some (16, true) }) (v := ?vc27) rfl (by kernel_rfl) (by kernel_rfl) (by kernel_rfl) (fun _ _ _ h => h) (Or.inl ⟨by rfl, ?rc27⟩) (by assumption) ?_
    case rc27 => (intro w hSw; (try dsimp only at hSw); (go_simp <;> with_reducible rfl))
    try simp only [Act.put, List.setIfInBounds_toArray, List.set_cons_zero, List.set_cons_succ]
    refine wpAnyH_take (i := 28) (oi := { dst := some 49, op := Go.Op.binOp Go.BinOp.eql 4 (Go.Operand.tmp 40) (Go.Operand.tmp 48) 4, type := 4, pos := "law.go:83", after := #[{ on := 19, ground := Go.Ground.data }, { on := 27, ground := Go.Ground.data }, { on := 16, ground := Go.Ground.guard }], guard := some (16, true) }) (v := ?vc28) rfl (by kernel_rfl) (by kernel_rfl) (by kernel_rfl) (fun _ _ _ h => h) (Or.inl ⟨by rfl, ?rc28⟩) (by assumption) ?_
    case rc28 => (intro w hSw; (try dsimp only at hSw); (go_simp <;> with_reducible rfl))
    try simp only [Act.put, List.setIfInBounds_toArray, List.set_cons_zero, List.set_cons_succ]
    refine wpAnyH_take (i := 29) (oi := { dst := some 50, op := Go.Op.pick (Go.Operand.tmp 37) (Go.Operand.tmp 49) (Go.Operand.const (Go.Value.bool false)), type := 4, pos := "law.go:83", after := #[{ on := 16, ground := Go.Ground.data }, { on := 28, ground := Go.Ground.data }], guard := none }) (v := ?vc29) rfl (by kernel_rfl) (by kernel_rfl) (by kernel_rfl) (fun _ _ _ h => h) (Or.inl ⟨by rfl, ?rc29⟩) (by assumption) ?_
    case rc29 => (intro w hSw; (try dsimp only at hSw); (go_simp <;> with_reducible rfl))
    try simp only [Act.put, List.setIfInBounds_toArray, List.set_cons_zero, List.set_cons_succ]
    refine wpAnyH_take (i := 30) (oi := { dst := some 51, op := Go.Op.move (Go.Operand.tmp 50), type := 4, pos := "law.go:83", after := #[{ on := 29, ground := Go.Ground.data }, { on := 26, ground := Go.Ground.chain }], guard := none }) (v := ?vc30) rfl (by kernel_rfl) (by kernel_rfl) (by kernel_rfl) (fun _ _ _ h => h) (Or.inl ⟨by rfl, ?rc30⟩) (by assumption) ?_
    case rc30 => (intro w hSw; (try dsimp only at hSw); (go_simp <;> with_reducible rfl))
    try simp only [Act.put, List.setIfInBounds_toArray, List.set_cons_zero, List.set_cons_succ]
    refine wpAnyH_take (i := 31) (oi := { dst := some 52, op := Go.Op.load 24 (Go.Operand.tmp 5), type := 24, pos := "law.go:83", after := #[{ on := 30, ground := Go.Ground.guard }], guard := some (30, true) }) (v := ?vc31) rfl (by kernel_rfl) (by kernel_rfl) (by kernel_rfl) (fun _ _ _ h => h) (Or.inl ⟨by rfl, ?rc31⟩) (by assumption) ?_
    case rc31 => (intro w hSw; (try dsimp only at hSw); (go_simp <;> with_reducible rfl))
    try simp only [Act.put, List.setIfInBounds_toArray, List.set_cons_zero, List.set_cons_succ]
    refine wpAnyH_take (i := 32) (oi := { dst := some 53, op := Go.Op.load 24 (Go.Operand.tmp 7), type := 24, pos := "law.go:83", after := #[{ on := 30, ground := Go.Ground.guard }], guard := some (30, true) }) (v := ?vc32) rfl (by kernel_rfl) (by kernel_rfl) (by kernel_rfl) (fun _ _ _ h => h) (Or.inl ⟨by rfl, ?rc32⟩) (by assumption) ?_
    case rc32 => (intro w hSw; (try dsimp only at hSw); (go_simp <;> with_reducible rfl))
    try simp only [Act.put, List.setIfInBounds_toArray, List.set_cons_zero, List.set_cons_succ]
    refine wpAnyH_take (i := 34) (oi := { dst := some 55, op := Go.Op.move (Go.Operand.tmp 6), type := 29, pos := "law.go:83", after := #[{ on := 30, ground := Go.Ground.guard }], guard := some (30, true) }) (v := ?vc34) rfl (by kernel_rfl) (by kernel_rfl) (by kernel_rfl) (fun _ _ _ h => h) (Or.inl ⟨by rfl, ?rc34⟩) (by assumption) ?_
    case rc34 => (intro w hSw; (try dsimp only at hSw); (go_simp <;> with_reducible rfl))
    try simp only [Act.put, List.setIfInBounds_toArray, List.set_cons_zero, List.set_cons_succ]
    refine wpAnyH_take (i := 35) (oi := { dst := some 56, op := Go.Op.move (Go.Operand.tmp 8), type := 29, pos := "law.go:83", after := #[{ on := 30, ground := Go.Ground.guard }], guard := some (30, true) }) (v := ?vc35) rfl (by kernel_rfl) (by kernel_rfl) (by kernel_rfl) (fun _ _ _ h => h) (Or.inl ⟨by rfl, ?rc35⟩) (by assumption) ?_
    case rc35 => (intro w hSw; (try dsimp only at hSw); (go_simp <;> with_reducible rfl))
    try simp only [Act.put, List.setIfInBounds_toArray, List.set_cons_zero, List.set_cons_succ]
    refine wpAnyH_ready (rs := [33]) (by kernel_rfl) (by simp) ?_
    refine AllReadyH.cons (o := { dst := some 54, op := Go.Op.call { callee := Go.Callee.value (Go.Operand.func 28), args := #[Go.Operand.tmp 52, Go.Operand.tmp 53], argTypes := #[24, 24] }, type := 3, pos := "law.go:83", after := #[{ on := 31, ground := Go.Ground.data }, { on := 32, ground := Go.Ground.data }, { on := 30, ground := Go.Ground.chain }, { on := 30, ground := Go.Ground.guard }], guard := some (30, true) }) rfl (fun K hK => ?_) AllReadyH.nil
    go_simp
    (go_at_call 28; refine (KC.out _ (HM.out.gr h7.1)).mono ?_; rintro e w9 ⟨rfl, hgN⟩)
    first | refine hK.out _ _ ?sc8 (fun h8 => ?_) | (go_wp2_with fail; refine hK.out _ _ ?sc8 (fun h8 => ?_))
    case sc8 => ((try dsimp only); exact hX.out _ _ hgN h7)
    clear hK K h7
    try simp only [Act.put, List.setIfInBounds_toArray, List.set_cons_zero, List.set_cons_succ]
    refine wpAnyH_ready (rs := [36]) (by kernel_rfl) (by simp) ?_
    refine AllReadyH.cons (o := { dst := some 57, op := Go.Op.call { callee := Go.Callee.value (Go.Operand.func 29), args := #[Go.Operand.tmp 55, Go.Operand.tmp 56], argTypes := #[29, 29] }, type := 3, pos := "law.go:83", after := #[{ on := 34, ground := Go.Ground.data }, { on := 35, ground := Go.Ground.data }, { on := 33, ground := Go.Ground.chain }, { on := 30, ground := Go.Ground.guard }], guard := some (30, true) }) rfl (fun K hK => ?_) AllReadyH.nil
    go_simp
    (go_at_call 29; refine (RK.out _ _ _ _ _ h8.2.2.2.1 h8.2.2.2.2).mono ?_; rintro e w9 ⟨rfl, hgN⟩)
    first | refine hK.out _ _ ?sc9 (fun h9 => ?_) | (go_wp2_with fail; refine hK.out _ _ ?sc9 (fun h9 => ?_))
    case sc9 => ((try dsimp only); exact hX.out _ _ hgN h8)
    clear hK K h8
    try simp only [Act.put, List.setIfInBounds_toArray, List.set_cons_zero, List.set_cons_succ]
    refine wpAnyH_take (i := 37) (oi := { dst := some 58, op := Go.Op.binOp Go.BinOp.eql 3 (Go.Operand.tmp 54) (Go.Operand.tmp 57) 3, type := 4, pos := "law.go:83", after := #[{ on := 33, ground := Go.Ground.data }, { on := 36, ground := Go.Ground.data }, { on := 30, ground := Go.Ground.guard }], guard := some (30, true) }) (v := ?vc37) rfl (by kernel_rfl) (by kernel_rfl) (by kernel_rfl) (fun _ _ _ h => h) (Or.inl ⟨by rfl, ?rc37⟩) (by assumption) ?_
    case rc37 => (intro w hSw; (try dsimp only at hSw); (go_simp <;> with_reducible rfl))
    try simp only [Act.put, List.setIfInBounds_toArray, List.set_cons_zero, List.set_cons_succ]
    refine wpAnyH_take (i := 38) (oi := { dst := some 59, op := Go.Op.pick (Go.Operand.tmp 51) (Go.Operand.tmp 58) (Go.Operand.const (Go.Value.bool false)), type := 4, pos := "law.go:83", after := #[{ on := 30, ground := Go.Ground.data }, { on := 37, ground := Go.Ground.data }], guard := none }) (v := ?vc38) rfl (by kernel_rfl) (by kernel_rfl) (by kernel_rfl) (fun _ _ _ h => h) (Or.inl ⟨by rfl, ?rc38⟩) (by assumption) ?_
    case rc38 => (intro w hSw; (try dsimp only at hSw); (go_simp <;> with_reducible rfl))
    try simp only [Act.put, List.setIfInBounds_toArray, List.set_cons_zero, List.set_cons_succ]
    refine wpAnyH_take (i := 39) (oi := { dst := some 60, op := Go.Op.move (Go.Operand.tmp 59), type := 4, pos := "law.go:83", after := #[{ on := 38, ground := Go.Ground.data }, { on := 36, ground := Go.Ground.chain }], guard := none }) (v := ?vc39) rfl (by kernel_rfl) (by kernel_rfl) (by kernel_rfl) (fun _ _ _ h => h) (Or.inl ⟨by rfl, ?rc39⟩) (by assumption) ?_
    case rc39 => (intro w hSw; (try dsimp only at hSw); (go_simp <;> with_reducible rfl))
    try simp only [Act.put, List.setIfInBounds_toArray, List.set_cons_zero, List.set_cons_succ]
    refine wpAnyH_take (i := 40) (oi := { dst := some 61, op := Go.Op.load 24 (Go.Operand.tmp 5), type := 24, pos := "law.go:83", after := #[{ on := 39, ground := Go.Ground.guard }], guard := some (39, true) }) (v := ?vc40) rfl (by kernel_rfl) (by kernel_rfl) (by kernel_rfl) (fun _ _ _ h => h) (Or.inl ⟨by rfl, ?rc40⟩) (by assumption) ?_
    case rc40 => (intro w hSw; (try dsimp only at hSw); (go_simp <;> with_reducible rfl))
    try simp only [Act.put, List.setIfInBounds_toArray, List.set_cons_zero, List.set_cons_succ]
    refine wpAnyH_take (i := 41) (oi := { dst := some 62, op := Go.Op.load 24 (Go.Operand.tmp 7), type := 24, pos := "law.go:83", after := #[{ on := 39, ground := Go.Ground.guard }], guard := some (39, true) }) (v := ?vc41) rfl (by kernel_rfl) (by kernel_rfl) (by kernel_rfl) (fun _ _ _ h => h) (Or.inl ⟨by rfl, ?rc41⟩) (by assumption) ?_
    case rc41 => (intro w hSw; (try dsimp only at hSw); (go_simp <;> with_reducible rfl))
    try simp only [Act.put, List.setIfInBounds_toArray, List.set_cons_zero, List.set_cons_succ]
    refine wpAnyH_take (i := 42) (oi := { dst := some 63, op := Go.Op.binOp Go.BinOp.eql 24 (Go.Operand.tmp 61) (Go.Operand.tmp 62) 24, type := 4, pos := "law.go:83", after := #[{ on := 40, ground := Go.Ground.data }, { on := 41, ground := Go.Ground.data }, { on := 39, ground := Go.Ground.guard }], guard := some (39, true) }) (v := ?vc42) rfl (by kernel_rfl) (by kernel_rfl) (by kernel_rfl) (fun _ _ _ h => h) (Or.inl ⟨by rfl, ?rc42⟩) (by assumption) ?_
    case rc42 => (intro w hSw; (try dsimp only at hSw); (go_simp <;> with_reducible rfl))
    try simp only [Act.put, List.setIfInBounds_toArray, List.set_cons_zero, List.set_cons_succ]
    refine wpAnyH_take (i := 43) (oi := { dst := some 64, op := Go.Op.move (Go.Operand.tmp 6), type := 29, pos := "law.go:83", after := #[{ on := 39, ground := Go.Ground.guard }], guard := some (39, true) }) (v := ?vc43) rfl (by kernel_rfl) (by kernel_rfl) (by kernel_rfl) (fun _ _ _ h => h) (Or.inl ⟨by rfl, ?rc43⟩) (by assumption) ?_
    case rc43 => (intro w hSw; (try dsimp only at hSw); (go_simp <;> with_reducible rfl))
    try simp only [Act.put, List.setIfInBounds_toArray, List.set_cons_zero, List.set_cons_succ]
    refine wpAnyH_take (i := 44) (oi := { dst := some 65, op := Go.Op.move (Go.Operand.tmp 8), type := 29, pos := "law.go:83", after := #[{ on := 39, ground := Go.Ground.guard }], guard := some (39, true) }) (v := ?vc44) rfl (by kernel_rfl) (by kernel_rfl) (by kernel_rfl) (fun _ _ _ h => h) (Or.inl ⟨by rfl, ?rc44⟩) (by assumption) ?_
    case rc44 => (intro w hSw; (try dsimp only at hSw); (go_simp <;> with_reducible rfl))
    try simp only [Act.put, List.setIfInBounds_toArray, List.set_cons_zero, List.set_cons_succ]
    refine wpAnyH_ready (rs := [45]) (by kernel_rfl) (by simp) ?_
    refine AllReadyH.cons (o := { dst := some 66, op := Go.Op.call { callee := Go.Callee.value (Go.Operand.func 15), args := #[Go.Operand.tmp 64, Go.Operand.tmp 65], argTypes := #[29, 29] }, type := 4, pos := "law.go:83", after := #[{ on := 43, ground := Go.Ground.data }, { on := 44, ground := Go.Ground.data }, { on := 39, ground := Go.Ground.chain }, { on := 39, ground := Go.Ground.guard }], guard := some (39, true) }) rfl (fun K hK => ?_) AllReadyH.nil
    go_simp
    (go_at_call 15; refine (RS.out _ _ _ _ _ h9.2.2.2.1 h9.2.2.2.2).mono ?_; rintro e w9 ⟨rfl, hgN⟩)
    first | refine hK.out _ _ ?sc10 (fun h10 => ?_) | (go_wp2_with fail; refine hK.out _ _ ?sc10 (fun h10 => ?_))
    case sc10 => ((try dsimp only); exact hX.out _ _ hgN h9)
    clear hK K h9
    try simp only [Act.put, List.setIfInBounds_toArray, List.set_cons_zero, List.set_cons_succ]
    refine wpAnyH_take (i := 46) (oi := { dst := some 67, op := Go.Op.binOp Go.BinOp.eql 4 (Go.Operand.tmp 63) (Go.Operand.tmp 66) 4, type := 4, pos := "law.go:83", after := #[{ on := 42, ground := Go.Ground.data }, { on := 45, ground := Go.Ground.data }, { on := 39, ground := Go.Ground.guard }], guard := some (39, true) }) (v := ?vc46) rfl (by kernel_rfl) (by kernel_rfl) (by kernel_rfl) (fun _ _ _ h => h) (Or.inl ⟨by rfl, ?rc46⟩) (by assumption) ?_
    case rc46 => (intro w hSw; (try dsimp only at hSw); (go_simp <;> with_reducible rfl))
    try simp only [Act.put, List.setIfInBounds_toArray, List.set_cons_zero, List.set_cons_succ]
    refine wpAnyH_take (i := 47) (oi := { dst := some 68, op := Go.Op.pick (Go.Operand.tmp 60) (Go.Operand.tmp 67) (Go.Operand.const (Go.Value.bool false)), type := 4, pos := "law.go:83", after := #[{ on := 39, ground := Go.Ground.data }, { on := 46, ground := Go.Ground.data }], guard := none }) (v := ?vc47) rfl (by kernel_rfl) (by kernel_rfl) (by kernel_rfl) (fun _ _ _ h => h) (Or.inl ⟨by rfl, ?rc47⟩) (by assumption) ?_
    case rc47 => (intro w hSw; (try dsimp only at hSw); (go_simp <;> with_reducible rfl))
    try simp only [Act.put, List.setIfInBounds_toArray, List.set_cons_zero, List.set_cons_succ]
    refine wpAnyH_take (i := 48) (oi := { dst := some 4, op := Go.Op.assign (Go.Operand.tmp 68), type := 4, pos := "law.go:83", after := #[{ on := 47, ground := Go.Ground.data }, { on := 45, ground := Go.Ground.chain }, { on := 0, ground := Go.Ground.phase }, { on := 1, ground := Go.Ground.phase }, { on := 2, ground := Go.Ground.phase }, { on := 3, ground := Go.Ground.phase }, { on := 4, ground := Go.Ground.phase }, { on := 5, ground := Go.Ground.phase }, { on := 6, ground := Go.Ground.phase }, { on := 7, ground := Go.Ground.phase }, { on := 8, ground := Go.Ground.phase }, { on := 9, ground := Go.Ground.phase }, { on := 10, ground := Go.Ground.phase }, { on := 11, ground := Go.Ground.phase }, { on := 12, ground := Go.Ground.phase }, { on := 13, ground := Go.Ground.phase }, { on := 14, ground := Go.Ground.phase }, { on := 15, ground := Go.Ground.phase }, { on := 16, ground := Go.Ground.phase }, { on := 17, ground := Go.Ground.phase }, { on := 18, ground := Go.Ground.phase }, { on := 19, ground := Go.Ground.phase }, { on := 20, ground := Go.Ground.phase }, { on := 21, ground := Go.Ground.phase }, { on := 22, ground := Go.Ground.phase }, { on := 23, ground := Go.Ground.phase }, { on := 24, ground := Go.Ground.phase }, { on := 25, ground := Go.Ground.phase }, { on := 26, ground := Go.Ground.phase }, { on := 27, ground := Go.Ground.phase }, { on := 28, ground := Go.Ground.phase }, { on := 29, ground := Go.Ground.phase }, { on := 30, ground := Go.Ground.phase }, { on := 31, ground := Go.Ground.phase }, { on := 32, ground := Go.Ground.phase }, { on := 33, ground := Go.Ground.phase }, { on := 34, ground := Go.Ground.phase }, { on := 35, ground := Go.Ground.phase }, { on := 36, ground := Go.Ground.phase }, { on := 37, ground := Go.Ground.phase }, { on := 38, ground := Go.Ground.phase }, { on := 39, ground := Go.Ground.phase }, { on := 40, ground := Go.Ground.phase }, { on := 41, ground := Go.Ground.phase }, { on := 42, ground := Go.Ground.phase }, { on := 43, ground := Go.Ground.phase }, { on := 44, ground := Go.Ground.phase }, { on := 45, ground := Go.Ground.phase }, { on := 46, ground := Go.Ground.phase }, { on := 47, ground := Go.Ground.phase }], guard := none }) (v := ?vc48) rfl (by kernel_rfl) (by kernel_rfl) (by kernel_rfl) (fun _ _ _ h => h) (Or.inl ⟨by rfl, ?rc48⟩) (by assumption) ?_
    case rc48 => (intro w hSw; (try dsimp only at hSw); (go_simp <;> with_reducible rfl))
    try simp only [Act.put, List.setIfInBounds_toArray, List.set_cons_zero, List.set_cons_succ]
    refine wpAnyH_done (by kernel_rfl) ?_ _
    go_wp2
    go_ret
    exact ⟨by first | rfl | simp, h10.1⟩
  · skip
    refine wp_region_held_drew (S := (fun w' => Gr w w' ∧ w'.cell? ⟨p1, 0, none⟩ = some (.string t) ∧ w'.cell? ⟨p2, 0, none⟩ = some (.string u) ∧ Strs w' ao l ∧ Strs w' bo m)) (by kernel_rfl) ?invd (fun h0 => ?_)
    case invd => ((try dsimp only); (first | exact HS0 | exact hD.out _ HS0))
    refine wpAnyH_take (i := 0) (oi := { dst := some 21, op := Go.Op.load 24 (Go.Operand.tmp 5), type := 24, pos := "law.go:83", after := #[], guard := none }) (v := ?vd0) rfl (by kernel_rfl) (by kernel_rfl) (by kernel_rfl) (fun _ _ _ h => h) (Or.inl ⟨by rfl, ?rd0⟩) (by assumption) ?_
    case rd0 => (intro w hSw; (try dsimp only at hSw); (go_simp <;> with_reducible rfl))
    try simp only [Act.put, List.setIfInBounds_toArray, List.set_cons_zero, List.set_cons_succ]
    refine wpAnyH_take (i := 1) (oi := { dst := some 22, op := Go.Op.load 24 (Go.Operand.tmp 7), type := 24, pos := "law.go:83", after := #[], guard := none }) (v := ?vd1) rfl (by kernel_rfl) (by kernel_rfl) (by kernel_rfl) (fun _ _ _ h => h) (Or.inl ⟨by rfl, ?rd1⟩) (by assumption) ?_
    case rd1 => (intro w hSw; (try dsimp only at hSw); (go_simp <;> with_reducible rfl))
    try simp only [Act.put, List.setIfInBounds_toArray, List.set_cons_zero, List.set_cons_succ]
    refine wpAnyH_take (i := 3) (oi := { dst := some 24, op := Go.Op.move (Go.Operand.tmp 6), type := 29, pos := "law.go:83", after := #[], guard := none }) (v := ?vd3) rfl (by kernel_rfl) (by kernel_rfl) (by kernel_rfl) (fun _ _ _ h => h) (Or.inl ⟨by rfl, ?rd3⟩) (by assumption) ?_
    case rd3 => (intro w hSw; (try dsimp only at hSw); (go_simp <;> with_reducible rfl))
    try simp only [Act.put, List.setIfInBounds_toArray, List.set_cons_zero, List.set_cons_succ]
    refine wpAnyH_take (i := 4) (oi := { dst := some 25, op := Go.Op.move (Go.Operand.tmp 8), type := 29, pos := "law.go:83", after := #[], guard := none }) (v := ?vd4) rfl (by kernel_rfl) (by kernel_rfl) (by kernel_rfl) (fun _ _ _ h => h) (Or.inl ⟨by rfl, ?rd4⟩) (by assumption) ?_
    case rd4 => (intro w hSw; (try dsimp only at hSw); (go_simp <;> with_reducible rfl))
    try simp only [Act.put, List.setIfInBounds_toArray, List.set_cons_zero, List.set_cons_succ]
    refine wpAnyH_ready (rs := [2]) (by kernel_rfl) (by simp) ?_
    refine AllReadyH.cons (o := { dst := some 23, op := Go.Op.call { callee := Go.Callee.value (Go.Operand.func 24), args := #[Go.Operand.tmp 21, Go.Operand.tmp 22], argTypes := #[24, 24] }, type := 4, pos := "law.go:83", after := #[{ on := 0, ground := Go.Ground.data }, { on := 1, ground := Go.Ground.data }], guard := none }) rfl (fun K hK => ?_) AllReadyH.nil
    go_simp
    (go_at_call 24; refine (O1.out _).mono ?_; rintro e w9 ⟨rfl, hgN⟩)
    first | refine hK.out _ _ ?sd1 (fun h1 => ?_) | (go_wp2_with fail; refine hK.out _ _ ?sd1 (fun h1 => ?_))
    case sd1 => ((try dsimp only); exact hX.out _ _ hgN h0)
    clear hK K h0
    try simp only [Act.put, List.setIfInBounds_toArray, List.set_cons_zero, List.set_cons_succ]
    refine wpAnyH_ready (rs := [5]) (by kernel_rfl) (by simp) ?_
    refine AllReadyH.cons (o := { dst := some 26, op := Go.Op.call { callee := Go.Callee.value (Go.Operand.func 26), args := #[Go.Operand.tmp 24, Go.Operand.tmp 25], argTypes := #[29, 29] }, type := 4, pos := "law.go:83", after := #[{ on := 3, ground := Go.Ground.data }, { on := 4, ground := Go.Ground.data }, { on := 2, ground := Go.Ground.chain }], guard := none }) rfl (fun K hK => ?_) AllReadyH.nil
    go_simp
    (go_at_call 26; refine (R1.out _ _ _ _ _ h1.2.2.2.1 h1.2.2.2.2).mono ?_; rintro e w9 ⟨rfl, hgN⟩)
    first | refine hK.out _ _ ?sd2 (fun h2 => ?_) | (go_wp2_with fail; refine hK.out _ _ ?sd2 (fun h2 => ?_))
    case sd2 => ((try dsimp only); exact hX.out _ _ hgN h1)
    clear hK K h1
    try simp only [Act.put, List.setIfInBounds_toArray, List.set_cons_zero, List.set_cons_succ]
    refine wpAnyH_take (i := 6) (oi := { dst := some 27, op := Go.Op.binOp Go.BinOp.eql 4 (Go.Operand.tmp 23) (Go.Operand.tmp 26) 4, type := 4, pos := "law.go:83", after := #[{ on := 2, ground := Go.Ground.data }, { on := 5, ground := Go.Ground.data }], guard := none }) (v := ?vd6) rfl (by kernel_rfl) (by kernel_rfl) (by kernel_rfl) (fun _ _ _ h => h) (Or.inl ⟨by rfl, ?rd6⟩) (by assumption) ?_
    case rd6 => (intro w hSw; (try dsimp only at hSw); (go_simp <;> with_reducible rfl))
    try simp only [Act.put, List.setIfInBounds_toArray, List.set_cons_zero, List.set_cons_succ]
    refine wpAnyH_take (i := 7) (oi := { dst := some 28, op := Go.Op.move (Go.Operand.tmp 27), type := 4, pos := "law.go:83", after := #[{ on := 6, ground := Go.Ground.data }, { on := 5, ground := Go.Ground.chain }], guard := none }) (v := ?vd7) rfl (by kernel_rfl) (by kernel_rfl) (by kernel_rfl) (fun _ _ _ h => h) (Or.inl ⟨by rfl, ?rd7⟩) (by assumption) ?_
    case rd7 => (intro w hSw; (try dsimp only at hSw); (go_simp <;> with_reducible rfl))
    try simp only [Act.put, List.setIfInBounds_toArray, List.set_cons_zero, List.set_cons_succ]
    refine wpAnyH_take (i := 8) (oi := { dst := some 29, op := Go.Op.load 24 (Go.Operand.tmp 7), type := 24, pos := "law.go:83", after := #[{ on := 7, ground := Go.Ground.guard }], guard := some (7, true) }) (v := ?vd8) rfl (by kernel_rfl) (by kernel_rfl) (by kernel_rfl) (fun _ _ _ h => h) (Or.inl ⟨by rfl, ?rd8⟩) (by assumption) ?_
    case rd8 => (intro w hSw; (try dsimp only at hSw); (go_simp <;> with_reducible rfl))
    try simp only [Act.put, List.setIfInBounds_toArray, List.set_cons_zero, List.set_cons_succ]
    refine wpAnyH_take (i := 9) (oi := { dst := some 30, op := Go.Op.load 24 (Go.Operand.tmp 5), type := 24, pos := "law.go:83", after := #[{ on := 7, ground := Go.Ground.guard }], guard := some (7, true) }) (v := ?vd9) rfl (by kernel_rfl) (by kernel_rfl) (by kernel_rfl) (fun _ _ _ h => h) (Or.inl ⟨by rfl, ?rd9⟩) (by assumption) ?_
    case rd9 => (intro w hSw; (try dsimp only at hSw); (go_simp <;> with_reducible rfl))
    try simp only [Act.put, List.setIfInBounds_toArray, List.set_cons_zero, List.set_cons_succ]
    refine wpAnyH_take (i := 11) (oi := { dst := some 32, op := Go.Op.move (Go.Operand.tmp 8), type := 29, pos := "law.go:83", after := #[{ on := 7, ground := Go.Ground.guard }], guard := some (7, true) }) (v := ?vd11) rfl (by kernel_rfl) (by kernel_rfl) (by kernel_rfl) (fun _ _ _ h => h) (Or.inl ⟨by rfl, ?rd11⟩) (by assumption) ?_
    case rd11 => (intro w hSw; (try dsimp only at hSw); (go_simp <;> with_reducible rfl))
    try simp only [Act.put, List.setIfInBounds_toArray, List.set_cons_zero, List.set_cons_succ]
    refine wpAnyH_take (i := 12) (oi := { dst := some 33, op := Go.Op.move (Go.Operand.tmp 6), type := 29, pos := "law.go:83", after := #[{ on := 7, ground := Go.Ground.guard }], guard := some (7, true) }) (v := ?vd12) rfl (by kernel_rfl) (by kernel_rfl) (by kernel_rfl) (fun _ _ _ h => h) (Or.inl ⟨by rfl, ?rd12⟩) (by assumption) ?_
    case rd12 => (intro w hSw; (try dsimp only at hSw); (go_simp <;> with_reducible rfl))
    try simp only [Act.put, List.setIfInBounds_toArray, List.set_cons_zero, List.set_cons_succ]
    refine wpAnyH_ready (rs := [10]) (by kernel_rfl) (by simp) ?_
    refine AllReadyH.cons (o := { dst := some 31, op := Go.Op.call { callee := Go.Callee.value (Go.Operand.func 24), args := #[Go.Operand.tmp 29, Go.Operand.tmp 30], argTypes := #[24, 24] }, type := 4, pos := "law.go:83", after := #[{ on := 8, ground := Go.Ground.data }, { on := 9, ground := Go.Ground.data }, { on := 7, ground := Go.Ground.chain }, { on := 7, ground := Go.Ground.guard }], guard := some (7, true) }) rfl (fun K hK => ?_) AllReadyH.nil
    go_simp
    (go_at_call 24; refine (O2.out _).mono ?_; rintro e w9 ⟨rfl, hgN⟩)
    first | refine hK.out _ _ ?sd3 (fun h3 => ?_) | (go_wp2_with fail; refine hK.out _ _ ?sd3 (fun h3 => ?_))
    case sd3 => ((try dsimp only); exact hX.out _ _ hgN h2)
    clear hK K h2
    try simp only [Act.put, List.setIfInBounds_toArray, List.set_cons_zero, List.set_cons_succ]
    refine wpAnyH_ready (rs := [13]) (by kernel_rfl) (by simp) ?_
    refine AllReadyH.cons (o := { dst := some 34, op := Go.Op.call { callee := Go.Callee.value (Go.Operand.func 26), args := #[Go.Operand.tmp 32, Go.Operand.tmp 33], argTypes := #[29, 29] }, type := 4, pos := "law.go:83", after := #[{ on := 11, ground := Go.Ground.data }, { on := 12, ground := Go.Ground.data }, { on := 10, ground := Go.Ground.chain }, { on := 7, ground := Go.Ground.guard }], guard := some (7, true) }) rfl (fun K hK => ?_) AllReadyH.nil
    go_simp
    (go_at_call 26; refine (R2.out _ _ _ _ _ h3.2.2.2.2 h3.2.2.2.1).mono ?_; rintro e w9 ⟨rfl, hgN⟩)
    first | refine hK.out _ _ ?sd4 (fun h4 => ?_) | (go_wp2_with fail; refine hK.out _ _ ?sd4 (fun h4 => ?_))
    case sd4 => ((try dsimp only); exact hX.out _ _ hgN h3)
    clear hK K h3
    try simp only [Act.put, List.setIfInBounds_toArray, List.set_cons_zero, List.set_cons_succ]
    refine wpAnyH_take (i := 14) (oi := { dst := some 35, op := Go.Op.binOp Go.BinOp.eql 4 (Go.Operand.tmp 31) (Go.Operand.tmp 34) 4, type := 4, pos := "law.go:83", after := #[{ on := 10, ground := Go.Ground.data }, { on := 13, ground := Go.Ground.data }, { on := 7, ground := Go.Ground.guard }], guard := some (7, true) }) (v := ?vd14) rfl (by kernel_rfl) (by kernel_rfl) (by kernel_rfl) (fun _ _ _ h => h) (Or.inl ⟨by rfl, ?rd14⟩) (by assumption) ?_
    case rd14 => (intro w hSw; (try dsimp only at hSw); (go_simp <;> with_reducible rfl))
    try simp only [Act.put, List.setIfInBounds_toArray, List.set_cons_zero, List.set_cons_succ]
    refine wpAnyH_take (i := 15) (oi := { dst := some 36, op := Go.Op.pick (Go.Operand.tmp 28) (Go.Operand.tmp 35) (Go.Operand.const (Go.Value.bool false)), type := 4, pos := "law.go:83", after := #[{ on := 7, ground := Go.Ground.data }, { on := 14, ground := Go.Ground.data }], guard := none }) (v := ?vd15) rfl (by kernel_rfl) (by kernel_rfl) (by kernel_rfl) (fun _ _ _ h => h) (Or.inl ⟨by rfl, ?rd15⟩) (by assumption) ?_
    case rd15 => (intro w hSw; (try dsimp only at hSw); (go_simp <;> with_reducible rfl))
    try simp only [Act.put, List.setIfInBounds_toArray, List.set_cons_zero, List.set_cons_succ]
    refine wpAnyH_take (i := 16) (oi := { dst := some 37, op := Go.Op.move (Go.Operand.tmp 36), type := 4, pos := "law.go:83", after := #[{ on := 15, ground := Go.Ground.data }, { on := 13, ground := Go.Ground.chain }], guard := none }) (v := ?vd16) rfl (by kernel_rfl) (by kernel_rfl) (by kernel_rfl) (fun _ _ _ h => h) (Or.inl ⟨by rfl, ?rd16⟩) (by assumption) ?_
    case rd16 => (intro w hSw; (try dsimp only at hSw); (go_simp <;> with_reducible rfl))
    try simp only [Act.put, List.setIfInBounds_toArray, List.set_cons_zero, List.set_cons_succ]
    refine wpAnyH_take (i := 17) (oi := { dst := some 38, op := Go.Op.load 24 (Go.Operand.tmp 5), type := 24, pos := "law.go:83", after := #[{ on := 16, ground := Go.Ground.guard }], guard := some (16, true) }) (v := ?vd17) rfl (by kernel_rfl) (by kernel_rfl) (by kernel_rfl) (fun _ _ _ h => h) (Or.inl ⟨by rfl, ?rd17⟩) (by assumption) ?_
    case rd17 => (intro w hSw; (try dsimp only at hSw); (go_simp <;> with_reducible rfl))
    try simp only [Act.put, List.setIfInBounds_toArray, List.set_cons_zero, List.set_cons_succ]
    refine wpAnyH_take (i := 18) (oi := { dst := some 39, op := Go.Op.load 24 (Go.Operand.tmp 7), type := 24, pos := "law.go:83", after := #[{ on := 16, ground := Go.Ground.guard }], guard := some (16, true) }) (v := ?vd18) rfl (by kernel_rfl) (by kernel_rfl) (by kernel_rfl) (fun _ _ _ h => h) (Or.inl ⟨by rfl, ?rd18⟩) (by assumption) ?_
    case rd18 => (intro w hSw; (try dsimp only at hSw); (go_simp <;> with_reducible rfl))
    try simp only [Act.put, List.setIfInBounds_toArray, List.set_cons_zero, List.set_cons_succ]
    refine wpAnyH_take (i := 20) (oi := { dst := some 41, op := Go.Op.move (Go.Operand.tmp 6), type := 29, pos := "law.go:83", after := #[{ on := 16, ground := Go.Ground.guard }], guard := some (16, true) }) (v := ?vd20) rfl (by kernel_rfl) (by kernel_rfl) (by kernel_rfl) (fun _ _ _ h => h) (Or.inl ⟨by rfl, ?rd20⟩) (by assumption) ?_
    case rd20 => (intro w hSw; (try dsimp only at hSw); (go_simp <;> with_reducible rfl))
    try simp only [Act.put, List.setIfInBounds_toArray, List.set_cons_zero, List.set_cons_succ]
    refine wpAnyH_take (i := 21) (oi := { dst := some 42, op := Go.Op.move (Go.Operand.tmp 8), type := 29, pos := "law.go:83", after := #[{ on := 16, ground := Go.Ground.guard }], guard := some (16, true) }) (v := ?vd21) rfl (by kernel_rfl) (by kernel_rfl) (by kernel_rfl) (fun _ _ _ h => h) (Or.inl ⟨by rfl, ?rd21⟩) (by assumption) ?_
    case rd21 => (intro w hSw; (try dsimp only at hSw); (go_simp <;> with_reducible rfl))
    try simp only [Act.put, List.setIfInBounds_toArray, List.set_cons_zero, List.set_cons_succ]
    refine wpAnyH_ready (rs := [19]) (by kernel_rfl) (by simp) ?_
    refine AllReadyH.cons (o := { dst := some 40, op := Go.Op.call { callee := Go.Callee.value (Go.Operand.func 27), args := #[Go.Operand.tmp 38, Go.Operand.tmp 39], argTypes := #[24, 24] }, type := 4, pos := "law.go:83", after := #[{ on := 17, ground := Go.Ground.data }, { on := 18, ground := Go.Ground.data }, { on := 16, ground := Go.Ground.chain }, { on := 16, ground := Go.Ground.guard }], guard := some (16, true) }) rfl (fun K hK => ?_) AllReadyH.nil
    go_simp
    (go_at_call 27; refine (I.out _).mono ?_; rintro e w9 ⟨rfl, hgN⟩)
    first | refine hK.out _ _ ?sd5 (fun h5 => ?_) | (go_wp2_with fail; refine hK.out _ _ ?sd5 (fun h5 => ?_))
    case sd5 => ((try dsimp only); exact hX.out _ _ hgN h4)
    clear hK K h4
    try simp only [Act.put, List.setIfInBounds_toArray, List.set_cons_zero, List.set_cons_succ]
    refine wpAnyH_ready (rs := [22]) (by kernel_rfl) (by simp) ?_
    refine AllReadyH.cons (o := { dst := some 43, op := Go.Op.call { callee := Go.Callee.value (Go.Operand.func 26), args := #[Go.Operand.tmp 41, Go.Operand.tmp 42], argTypes := #[29, 29] }, type := 4, pos := "law.go:83", after := #[{ on := 20, ground := Go.Ground.data }, { on := 21, ground := Go.Ground.data }, { on := 19, ground := Go.Ground.chain }, { on := 16, ground := Go.Ground.guard }], guard := some (16, true) }) rfl (fun K hK => ?_) AllReadyH.nil
    go_simp
    (go_at_call 26; refine (R1.out _ _ _ _ _ h5.2.2.2.1 h5.2.2.2.2).mono ?_; rintro e w9 ⟨rfl, hgN⟩)
    first | refine hK.out _ _ ?sd6 (fun h6 => ?_) | (go_wp2_with fail; refine hK.out _ _ ?sd6 (fun h6 => ?_))
    case sd6 => ((try dsimp only); exact hX.out _ _ hgN h5)
    clear hK K h5
    try simp only [Act.put, List.setIfInBounds_toArray, List.set_cons_zero, List.set_cons_succ]
    refine wpAnyH_take (i := 23) (oi := { dst := some 44, op := Go.Op.move (Go.Operand.tmp 43), type := 4, pos := "law.go:83", after := #[{ on := 22, ground := Go.Ground.data }, { on := 22, ground := Go.Ground.chain }, { on := 16, ground := Go.Ground.guard }], guard := some (16, true) }) (v := ?vd23) rfl (by kernel_rfl) (by kernel_rfl) (by kernel_rfl) (fun _ _ _ h => h) (Or.inl ⟨by rfl, ?rd23⟩) (by assumption) ?_
    case rd23 => (intro w hSw; (try dsimp only at hSw); (go_simp <;> with_reducible rfl))
    try simp only [Act.put, List.setIfInBounds_toArray, List.set_cons_zero, List.set_cons_succ]
    refine wpAnyH_take (i := 24) (oi := { dst := some 45, op := Go.Op.move (Go.Operand.tmp 8), type := 29, pos := "law.go:83", after := #[{ on := 23, ground := Go.Ground.guard }], guard := some (23, false) }) (v := undef) rfl (by kernel_rfl) (by kernel_rfl) (by kernel_rfl) (fun _ _ _ h => h) (Or.inr ⟨by rfl, rfl⟩) (by assumption) ?_
    try simp only [Act.put, List.setIfInBounds_toArray, List.set_cons_zero, List.set_cons_succ]
    refine wpAnyH_take (i := 25) (oi := { dst := some 46, op := Go.Op.move (Go.Operand.tmp 6), type := 29, pos := "law.go:83", after := #[{ on := 23, ground := Go.Ground.guard }], guard := some (23, false) }) (v := undef) rfl (by kernel_rfl) (by kernel_rfl) (by kernel_rfl) (fun _ _ _ h => h) (Or.inr ⟨by rfl, rfl⟩) (by assumption) ?_
    try simp only [Act.put, List.setIfInBounds_toArray, List.set_cons_zero, List.set_cons_succ]
    refine wpAnyH_take (i := 26) (oi := { dst := some 47, op := Go.Op.call { callee := Go.Callee.value (Go.Operand.func 26), args := #[Go.Operand.tmp 45, Go.Operand.tmp 46], argTypes := #[29, 29] }, type := 4, pos := "law.go:83", after := #[{ on := 24, ground := Go.Ground.data }, { on := 25, ground := Go.Ground.data }, { on := 23, ground := Go.Ground.chain }, { on := 23, ground := Go.Ground.guard }], guard := some (23, false) }) (v := undef) rfl (by kernel_rfl) (by kernel_rfl) (by kernel_rfl) (fun _ _ _ h => h) (Or.inr ⟨by rfl, rfl⟩) (by assumption) ?_
    try simp only [Act.put, List.setIfInBounds_toArray, List.set_cons_zero, List.set_cons_succ]
    refine wpAnyH_take (i := 27) (oi := { dst := some 48, op := Go.Op.pick (Go.Operand.tmp 44) (Go.Operand.const (Go.Value.bool true)) (Go.Operand.tmp 47), type := 4, pos := "law.go:83", after := #[{ on := 23, ground := Go.Ground.data }, { on := 26, ground := Go.Ground.data }, { on := 16, ground := Go.Ground.guard }], guard := some (16, true) }) (v := ?vd27) rfl (by kernel_rfl) (by kernel_rfl) (by kernel_rfl) (fun _ _ _ h => h) (Or.inl ⟨by rfl, ?rd27⟩) (by assumption) ?_
    case rd27 => (intro w hSw; (try dsimp only at hSw); (go_simp <;> with_reducible rfl))
    try simp only [Act.put, List.setIfInBounds_toArray, List.set_cons_zero, List.set_cons_succ]
    refine wpAnyH_take (i := 28) (oi := { dst := some 49, op := Go.Op.binOp Go.BinOp.eql 4 (Go.Operand.tmp 40) (Go.Operand.tmp 48) 4, type := 4, pos := "law.go:83", after := #[{ on := 19, ground := Go.Ground.data }, { on := 27, ground := Go.Ground.data }, { on := 16, ground := Go.Ground.guard }], guard := some (16, true) }) (v := ?vd28) rfl (by kernel_rfl) (by kernel_rfl) (by kernel_rfl) (fun _ _ _ h => h) (Or.inl ⟨by rfl, ?rd28⟩) (by assumption) ?_
    case rd28 => (intro w hSw; (try dsimp only at hSw); (go_simp <;> with_reducible rfl))
    try simp only [Act.put, List.setIfInBounds_toArray, List.set_cons_zero, List.set_cons_succ]
    refine wpAnyH_take (i := 29) (oi := { dst := some 50, op := Go.Op.pick (Go.Operand.tmp 37) (Go.Operand.tmp 49) (Go.Operand.const (Go.Value.bool false)), type := 4, pos := "law.go:83", after := #[{ on := 16, ground := Go.Ground.data }, { on := 28, ground := Go.Ground.data }], guard := none }) (v := ?vd29) rfl (by kernel_rfl) (by kernel_rfl) (by kernel_rfl) (fun _ _ _ h => h) (Or.inl ⟨by rfl, ?rd29⟩) (by assumption) ?_
    case rd29 => (intro w hSw; (try dsimp only at hSw); (go_simp <;> with_reducible rfl))
    try simp only [Act.put, List.setIfInBounds_toArray, List.set_cons_zero, List.set_cons_succ]
    refine wpAnyH_take (i := 30) (oi := { dst := some 51, op := Go.Op.move (Go.Operand.tmp 50), type := 4, pos := "law.go:83", after := #[{ on := 29, ground := Go.Ground.data }, { on := 26, ground := Go.Ground.chain }], guard := none }) (v := ?vd30) rfl (by kernel_rfl) (by kernel_rfl) (by kernel_rfl) (fun _ _ _ h => h) (Or.inl ⟨by rfl, ?rd30⟩) (by assumption) ?_
    case rd30 => (intro w hSw; (try dsimp only at hSw); (go_simp <;> with_reducible rfl))
    try simp only [Act.put, List.setIfInBounds_toArray, List.set_cons_zero, List.set_cons_succ]
    refine wpAnyH_take (i := 31) (oi := { dst := some 52, op := Go.Op.load 24 (Go.Operand.tmp 5), type := 24, pos := "law.go:83", after := #[{ on := 30, ground := Go.Ground.guard }], guard := some (30, true) }) (v := ?vd31) rfl (by kernel_rfl) (by kernel_rfl) (by kernel_rfl) (fun _ _ _ h => h) (Or.inl ⟨by rfl, ?rd31⟩) (by assumption) ?_
    case rd31 => (intro w hSw; (try dsimp only at hSw); (go_simp <;> with_reducible rfl))
    try simp only [Act.put, List.setIfInBounds_toArray, List.set_cons_zero, List.set_cons_succ]
    refine wpAnyH_take (i := 32) (oi := { dst := some 53, op := Go.Op.load 24 (Go.Operand.tmp 7), type := 24, pos := "law.go:83", after := #[{ on := 30, ground := Go.Ground.guard }], guard := some (30, true) }) (v := ?vd32) rfl (by kernel_rfl) (by kernel_rfl) (by kernel_rfl) (fun _ _ _ h => h) (Or.inl ⟨by rfl, ?rd32⟩) (by assumption) ?_
    case rd32 => (intro w hSw; (try dsimp only at hSw); (go_simp <;> with_reducible rfl))
    try simp only [Act.put, List.setIfInBounds_toArray, List.set_cons_zero, List.set_cons_succ]
    refine wpAnyH_take (i := 34) (oi := { dst := some 55, op := Go.Op.move (Go.Operand.tmp 6), type := 29, pos := "law.go:83", after := #[{ on := 30, ground := Go.Ground.guard }], guard := some (30, true) }) (v := ?vd34) rfl (by kernel_rfl) (by kernel_rfl) (by kernel_rfl) (fun _ _ _ h => h) (Or.inl ⟨by rfl, ?rd34⟩) (by assumption) ?_
    case rd34 => (intro w hSw; (try dsimp only at hSw); (go_simp <;> with_reducible rfl))
    try simp only [Act.put, List.setIfInBounds_toArray, List.set_cons_zero, List.set_cons_succ]
    refine wpAnyH_take (i := 35) (oi := { dst := some 56, op := Go.Op.move (Go.Operand.tmp 8), type := 29, pos := "law.go:83", after := #[{ on := 30, ground := Go.Ground.guard }], guard := some (30, true) }) (v := ?vd35) rfl (by kernel_rfl) (by kernel_rfl) (by kernel_rfl) (fun _ _ _ h => h) (Or.inl ⟨by rfl, ?rd35⟩) (by assumption) ?_
    case rd35 => (intro w hSw; (try dsimp only at hSw); (go_simp <;> with_reducible rfl))
    try simp only [Act.put, List.setIfInBounds_toArray, List.set_cons_zero, List.set_cons_succ]
    refine wpAnyH_ready (rs := [33]) (by kernel_rfl) (by simp) ?_
    refine AllReadyH.cons (o := { dst := some 54, op := Go.Op.call { callee := Go.Callee.value (Go.Operand.func 28), args := #[Go.Operand.tmp 52, Go.Operand.tmp 53], argTypes := #[24, 24] }, type := 3, pos := "law.go:83", after := #[{ on := 31, ground := Go.Ground.data }, { on := 32, ground := Go.Ground.data }, { on := 30, ground := Go.Ground.chain }, { on := 30, ground := Go.Ground.guard }], guard := some (30, true) }) rfl (fun K hK => ?_) AllReadyH.nil
    go_simp
    (go_at_call 28; refine (KC.out _ (HM.out.gr h6.1)).mono ?_; rintro e w9 ⟨rfl, hgN⟩)
    first | refine hK.out _ _ ?sd7 (fun h7 => ?_) | (go_wp2_with fail; refine hK.out _ _ ?sd7 (fun h7 => ?_))
    case sd7 => ((try dsimp only); exact hX.out _ _ hgN h6)
    clear hK K h6
    try simp only [Act.put, List.setIfInBounds_toArray, List.set_cons_zero, List.set_cons_succ]
    refine wpAnyH_ready (rs := [36]) (by kernel_rfl) (by simp) ?_
    refine AllReadyH.cons (o := { dst := some 57, op := Go.Op.call { callee := Go.Callee.value (Go.Operand.func 29), args := #[Go.Operand.tmp 55, Go.Operand.tmp 56], argTypes := #[29, 29] }, type := 3, pos := "law.go:83", after := #[{ on := 34, ground := Go.Ground.data }, { on := 35, ground := Go.Ground.data }, { on := 33, ground := Go.Ground.chain }, { on := 30, ground := Go.Ground.guard }], guard := some (30, true) }) rfl (fun K hK => ?_) AllReadyH.nil
    go_simp
    (go_at_call 29; refine (RK.out _ _ _ _ _ h7.2.2.2.1 h7.2.2.2.2).mono ?_; rintro e w9 ⟨rfl, hgN⟩)
    first | refine hK.out _ _ ?sd8 (fun h8 => ?_) | (go_wp2_with fail; refine hK.out _ _ ?sd8 (fun h8 => ?_))
    case sd8 => ((try dsimp only); exact hX.out _ _ hgN h7)
    clear hK K h7
    try simp only [Act.put, List.setIfInBounds_toArray, List.set_cons_zero, List.set_cons_succ]
    refine wpAnyH_take (i := 37) (oi := { dst := some 58, op := Go.Op.binOp Go.BinOp.eql 3 (Go.Operand.tmp 54) (Go.Operand.tmp 57) 3, type := 4, pos := "law.go:83", after := #[{ on := 33, ground := Go.Ground.data }, { on := 36, ground := Go.Ground.data }, { on := 30, ground := Go.Ground.guard }], guard := some (30, true) }) (v := ?vd37) rfl (by kernel_rfl) (by kernel_rfl) (by kernel_rfl) (fun _ _ _ h => h) (Or.inl ⟨by rfl, ?rd37⟩) (by assumption) ?_
    case rd37 => (intro w hSw; (try dsimp only at hSw); (go_simp <;> with_reducible rfl))
    try simp only [Act.put, List.setIfInBounds_toArray, List.set_cons_zero, List.set_cons_succ]
    refine wpAnyH_take (i := 38) (oi := { dst := some 59, op := Go.Op.pick (Go.Operand.tmp 51) (Go.Operand.tmp 58) (Go.Operand.const (Go.Value.bool false)), type := 4, pos := "law.go:83", after := #[{ on := 30, ground := Go.Ground.data }, { on := 37, ground := Go.Ground.data }], guard := none }) (v := ?vd38) rfl (by kernel_rfl) (by kernel_rfl) (by kernel_rfl) (fun _ _ _ h => h) (Or.inl ⟨by rfl, ?rd38⟩) (by assumption) ?_
    case rd38 => (intro w hSw; (try dsimp only at hSw); (go_simp <;> with_reducible rfl))
    try simp only [Act.put, List.setIfInBounds_toArray, List.set_cons_zero, List.set_cons_succ]
    refine wpAnyH_take (i := 39) (oi := { dst := some 60, op := Go.Op.move (Go.Operand.tmp 59), type := 4, pos := "law.go:83", after := #[{ on := 38, ground := Go.Ground.data }, { on := 36, ground := Go.Ground.chain }], guard := none }) (v := ?vd39) rfl (by kernel_rfl) (by kernel_rfl) (by kernel_rfl) (fun _ _ _ h => h) (Or.inl ⟨by rfl, ?rd39⟩) (by assumption) ?_
    case rd39 => (intro w hSw; (try dsimp only at hSw); (go_simp <;> with_reducible rfl))
    try simp only [Act.put, List.setIfInBounds_toArray, List.set_cons_zero, List.set_cons_succ]
    refine wpAnyH_take (i := 40) (oi := { dst := some 61, op := Go.Op.load 24 (Go.Operand.tmp 5), type := 24, pos := "law.go:83", after := #[{ on := 39, ground := Go.Ground.guard }], guard := some (39, true) }) (v := ?vd40) rfl (by kernel_rfl) (by kernel_rfl) (by kernel_rfl) (fun _ _ _ h => h) (Or.inl ⟨by rfl, ?rd40⟩) (by assumption) ?_
    case rd40 => (intro w hSw; (try dsimp only at hSw); (go_simp <;> with_reducible rfl))
    try simp only [Act.put, List.setIfInBounds_toArray, List.set_cons_zero, List.set_cons_succ]
    refine wpAnyH_take (i := 41) (oi := { dst := some 62, op := Go.Op.load 24 (Go.Operand.tmp 7), type := 24, pos := "law.go:83", after := #[{ on := 39, ground := Go.Ground.guard }], guard := some (39, true) }) (v := ?vd41) rfl (by kernel_rfl) (by kernel_rfl) (by kernel_rfl) (fun _ _ _ h => h) (Or.inl ⟨by rfl, ?rd41⟩) (by assumption) ?_
    case rd41 => (intro w hSw; (try dsimp only at hSw); (go_simp <;> with_reducible rfl))
    try simp only [Act.put, List.setIfInBounds_toArray, List.set_cons_zero, List.set_cons_succ]
    refine wpAnyH_take (i := 42) (oi := { dst := some 63, op := Go.Op.binOp Go.BinOp.eql 24 (Go.Operand.tmp 61) (Go.Operand.tmp 62) 24, type := 4, pos := "law.go:83", after := #[{ on := 40, ground := Go.Ground.data }, { on := 41, ground := Go.Ground.data }, { on := 39, ground := Go.Ground.guard }], guard := some (39, true) }) (v := ?vd42) rfl (by kernel_rfl) (by kernel_rfl) (by kernel_rfl) (fun _ _ _ h => h) (Or.inl ⟨by rfl, ?rd42⟩) (by assumption) ?_
    case rd42 => (intro w hSw; (try dsimp only at hSw); (go_simp <;> with_reducible rfl))
    try simp only [Act.put, List.setIfInBounds_toArray, List.set_cons_zero, List.set_cons_succ]
    refine wpAnyH_take (i := 43) (oi := { dst := some 64, op := Go.Op.move (Go.Operand.tmp 6), type := 29, pos := "law.go:83", after := #[{ on := 39, ground := Go.Ground.guard }], guard := some (39, true) }) (v := ?vd43) rfl (by kernel_rfl) (by kernel_rfl) (by kernel_rfl) (fun _ _ _ h => h) (Or.inl ⟨by rfl, ?rd43⟩) (by assumption) ?_
    case rd43 => (intro w hSw; (try dsimp only at hSw); (go_simp <;> with_reducible rfl))
    try simp only [Act.put, List.setIfInBounds_toArray, List.set_cons_zero, List.set_cons_succ]
    refine wpAnyH_take (i := 44) (oi := { dst := some 65, op := Go.Op.move (Go.Operand.tmp 8), type := 29, pos := "law.go:83", after := #[{ on := 39, ground := Go.Ground.guard }], guard := some (39, true) }) (v := ?vd44) rfl (by kernel_rfl) (by kernel_rfl) (by kernel_rfl) (fun _ _ _ h => h) (Or.inl ⟨by rfl, ?rd44⟩) (by assumption) ?_
    case rd44 => (intro w hSw; (try dsimp only at hSw); (go_simp <;> with_reducible rfl))
    try simp only [Act.put, List.setIfInBounds_toArray, List.set_cons_zero, List.set_cons_succ]
    refine wpAnyH_ready (rs := [45]) (by kernel_rfl) (by simp) ?_
    refine AllReadyH.cons (o := { dst := some 66, op := Go.Op.call { callee := Go.Callee.value (Go.Operand.func 15), args := #[Go.Operand.tmp 64, Go.Operand.tmp 65], argTypes := #[29, 29] }, type := 4, pos := "law.go:83", after := #[{ on := 43, ground := Go.Ground.data }, { on := 44, ground := Go.Ground.data }, { on := 39, ground := Go.Ground.chain }, { on := 39, ground := Go.Ground.guard }], guard := some (39, true) }) rfl (fun K hK => ?_) AllReadyH.nil
    go_simp
    (go_at_call 15; refine (RS.out _ _ _ _ _ h8.2.2.2.1 h8.2.2.2.2).mono ?_; rintro e w9 ⟨rfl, hgN⟩)
    first | refine hK.out _ _ ?sd9 (fun h9 => ?_) | (go_wp2_with fail; refine hK.out _ _ ?sd9 (fun h9 => ?_))
    case sd9 => ((try dsimp only); exact hX.out _ _ hgN h8)
    clear hK K h8
    try simp only [Act.put, List.setIfInBounds_toArray, List.set_cons_zero, List.set_cons_succ]
    refine wpAnyH_take (i := 46) (oi := { dst := some 67, op := Go.Op.binOp Go.BinOp.eql 4 (Go.Operand.tmp 63) (Go.Operand.tmp 66) 4, type := 4, pos := "law.go:83", after := #[{ on := 42, ground := Go.Ground.data }, { on := 45, ground := Go.Ground.data }, { on := 39, ground := Go.Ground.guard }], guard := some (39, true) }) (v := ?vd46) rfl (by kernel_rfl) (by kernel_rfl) (by kernel_rfl) (fun _ _ _ h => h) (Or.inl ⟨by rfl, ?rd46⟩) (by assumption) ?_
    case rd46 => (intro w hSw; (try dsimp only at hSw); (go_simp <;> with_reducible rfl))
    try simp only [Act.put, List.setIfInBounds_toArray, List.set_cons_zero, List.set_cons_succ]
    refine wpAnyH_take (i := 47) (oi := { dst := some 68, op := Go.Op.pick (Go.Operand.tmp 60) (Go.Operand.tmp 67) (Go.Operand.const (Go.Value.bool false)), type := 4, pos := "law.go:83", after := #[{ on := 39, ground := Go.Ground.data }, { on := 46, ground := Go.Ground.data }], guard := none }) (v := ?vd47) rfl (by kernel_rfl) (by kernel_rfl) (by kernel_rfl) (fun _ _ _ h => h) (Or.inl ⟨by rfl, ?rd47⟩) (by assumption) ?_
    case rd47 => (intro w hSw; (try dsimp only at hSw); (go_simp <;> with_reducible rfl))
    try simp only [Act.put, List.setIfInBounds_toArray, List.set_cons_zero, List.set_cons_succ]
    refine wpAnyH_take (i := 48) (oi := { dst := some 4, op := Go.Op.assign (Go.Operand.tmp 68), type := 4, pos := "law.go:83", after := #[{ on := 47, ground := Go.Ground.data }, { on := 45, ground := Go.Ground.chain }, { on := 0, ground := Go.Ground.phase }, { on := 1, ground := Go.Ground.phase }, { on := 2, ground := Go.Ground.phase }, { on := 3, ground := Go.Ground.phase }, { on := 4, ground := Go.Ground.phase }, { on := 5, ground := Go.Ground.phase }, { on := 6, ground := Go.Ground.phase }, { on := 7, ground := Go.Ground.phase }, { on := 8, ground := Go.Ground.phase }, { on := 9, ground := Go.Ground.phase }, { on := 10, ground := Go.Ground.phase }, { on := 11, ground := Go.Ground.phase }, { on := 12, ground := Go.Ground.phase }, { on := 13, ground := Go.Ground.phase }, { on := 14, ground := Go.Ground.phase }, { on := 15, ground := Go.Ground.phase }, { on := 16, ground := Go.Ground.phase }, { on := 17, ground := Go.Ground.phase }, { on := 18, ground := Go.Ground.phase }, { on := 19, ground := Go.Ground.phase }, { on := 20, ground := Go.Ground.phase }, { on := 21, ground := Go.Ground.phase }, { on := 22, ground := Go.Ground.phase }, { on := 23, ground := Go.Ground.phase }, { on := 24, ground := Go.Ground.phase }, { on := 25, ground := Go.Ground.phase }, { on := 26, ground := Go.Ground.phase }, { on := 27, ground := Go.Ground.phase }, { on := 28, ground := Go.Ground.phase }, { on := 29, ground := Go.Ground.phase }, { on := 30, ground := Go.Ground.phase }, { on := 31, ground := Go.Ground.phase }, { on := 32, ground := Go.Ground.phase }, { on := 33, ground := Go.Ground.phase }, { on := 34, ground := Go.Ground.phase }, { on := 35, ground := Go.Ground.phase }, { on := 36, ground := Go.Ground.phase }, { on := 37, ground := Go.Ground.phase }, { on := 38, ground := Go.Ground.phase }, { on := 39, ground := Go.Ground.phase }, { on := 40, ground := Go.Ground.phase }, { on := 41, ground := Go.Ground.phase }, { on := 42, ground := Go.Ground.phase }, { on := 43, ground := Go.Ground.phase }, { on := 44, ground := Go.Ground.phase }, { on := 45, ground := Go.Ground.phase }, { on := 46, ground := Go.Ground.phase }, { on := 47, ground := Go.Ground.phase }], guard := none }) (v := ?vd48) rfl (by kernel_rfl) (by kernel_rfl) (by kernel_rfl) (fun _ _ _ h => h) (Or.inl ⟨by rfl, ?rd48⟩) (by assumption) ?_
    case rd48 => (intro w hSw; (try dsimp only at hSw); (go_simp <;> with_reducible rfl))
    try simp only [Act.put, List.setIfInBounds_toArray, List.set_cons_zero, List.set_cons_succ]
    refine wpAnyH_done (by kernel_rfl) ?_ _
    go_wp2
    go_ret
    exact ⟨by first | rfl | simp, h9.1⟩
end Go.Proofs.YtfpnglomemjniaaDoor
