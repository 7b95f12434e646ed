import Derived.Test.YtmgpnpmdmelnkaaGreatDoorF22o
import Derived.WalkKit
import Derived.ProofKit
import Derived.LoopTactic
import Derived.Outline
import Derived.WalkSpells
import Derived.WalkLawsBesides
import Derived.Lib.Hide
import Derived.Deep.LoopGhost
import Derived.Deep.QuietTactic
import Derived.BigQuiet
import Derived.ShutString
import Derived.IntWalk
import Derived.Deep.RegionWith
import Derived.Deep.RegionHeld3
namespace Go.Proofs.YtmgpnpmdmelnkaaGreatDoor
open Go.ChangeShapes Go.WideShapes Go.ChangeAt Go.RowKit
set_option linter.unusedVariables false
set_option linter.unusedSimpArgs false
variable {w0 w : World} {b : Nat} {v1 v2 : Value} {B : Bk}
def CloneIs (w : World) (B : Bk) (e : Ending) (w' : World) : Prop := ∃ c u1 u2, e = .returned (.pointer (some ⟨c, 0, none⟩)) ∧ w.heap.size ≤ c ∧ BkIs w w' c u1 u2 B ∧ Gr w w'
set_option maxRecDepth 100000 in
set_option maxHeartbeats 2000000 in
theorem bclone_any (w : World) (h : BkIs w0 w b v1 v2 B) (hl : B.H.length + B.W.length ≤ 500) :
    Calls Tryz.prog 9 #[.pointer (some ⟨b, 0, none⟩)] w (CloneIs w B) := by
  have H := Lib.hid h
  have HH := Lib.hid (fun w' (hg : Gr w w') => held_any w' (h.gr hg) (by omega))
  have HV := Lib.hid (fun w' (hg : Gr w w') => waits_any w' (h.gr hg) (by omega))
  have c2 := h.blk.cell (i := 2) rfl
  generalize hn1 : B.H.length = n1 at *
  generalize hn2 : B.W.length = n2 at *
  generalize hlt : B.last = lt at *
  have HN := Lib.hid (And.intro hn1 (And.intro hn2 hlt))
  clear h hl hn1 hn2 hlt
  go_enter Tryz.func9, Tryz.ntmps9
  go_wp2
  have QS : Hid (∀ w9, Gr w w9 → (fun w9 => Gr w w9 ∧ w9.cell? ⟨b, 2, none⟩ = some (.int .u64 lt)) w9) := Lib.hid fun w9 hg => ⟨hg, hg.cell c2⟩
  refine wp_region_held_drew (S := (fun w9 => Gr w w9 ∧ w9.cell? ⟨b, 2, none⟩ = some (.int .u64 lt))) (by kernel_rfl) ?inva (fun h0 => ?_)
  case inva => ((try dsimp only); (exact QS.out _ ((Gr.refl _).drew)))
  refine wpAnyH_take (i := 0) (oi := { dst := some 5, op := Go.Op.move (Go.Operand.tmp 0), type := 25, pos := "locks.go:160", after := #[], guard := none }) (v := ?va1) rfl (by kernel_rfl) (by kernel_rfl) (by kernel_rfl) (fun _ _ _ h => h) (Or.inl ⟨by rfl, ?ra1⟩) (by assumption) ?_
  case ra1 => (intro w hSw; (try dsimp only at hSw); (go_simp <;> with_reducible rfl))
  try simp only [Act.put, List.setIfInBounds_toArray, List.set_cons_zero, List.set_cons_succ]
  refine wpAnyH_take (i := 2) (oi := { dst := some 7, op := Go.Op.move (Go.Operand.tmp 0), type := 25, pos := "locks.go:160", after := #[], guard := none }) (v := ?va2) rfl (by kernel_rfl) (by kernel_rfl) (by kernel_rfl) (fun _ _ _ h => h) (Or.inl ⟨by rfl, ?ra2⟩) (by assumption) ?_
  case ra2 => (intro w hSw; (try dsimp only at hSw); (go_simp <;> with_reducible rfl))
  try simp only [Act.put, List.setIfInBounds_toArray, List.set_cons_zero, List.set_cons_succ]
  refine wpAnyH_take (i := 4) (oi := { dst := some 9, op := Go.Op.move (Go.Operand.tmp 0), type := 25, pos := "locks.go:160", after := #[], guard := none }) (v := ?va3) rfl (by kernel_rfl) (by kernel_rfl) (by kernel_rfl) (fun _ _ _ h => h) (Or.inl ⟨by rfl, ?ra3⟩) (by assumption) ?_
  case ra3 => (intro w hSw; (try dsimp only at hSw); (go_simp <;> with_reducible rfl))
  try simp only [Act.put, List.setIfInBounds_toArray, List.set_cons_zero, List.set_cons_succ]
  refine wpAnyH_take (i := 5) (oi := { dst := some 10, op := Go.Op.nilCheck (Go.Operand.tmp 9), type := 0, pos := "locks.go:160", after := #[{ on := 4, ground := Go.Ground.data }], guard := none }) (v := ?va4) rfl (by kernel_rfl) (by kernel_rfl) (by kernel_rfl) (fun _ _ _ h => h) (Or.inl ⟨by rfl, ?ra4⟩) (by assumption) ?_
  case ra4 => (intro w hSw; (try dsimp only at hSw); (go_simp <;> with_reducible rfl))
  try simp only [Act.put, List.setIfInBounds_toArray, List.set_cons_zero, List.set_cons_succ]
  refine wpAnyH_take (i := 6) (oi := { dst := some 11, op := Go.Op.fieldAddr 69 (Go.Operand.tmp 10) 2, type := 0, pos := "locks.go:160", after := #[{ on := 5, ground := Go.Ground.data }], guard := none }) (v := ?va5) rfl (by kernel_rfl) (by kernel_rfl) (by kernel_rfl) (fun _ _ _ h => h) (Or.inl ⟨by rfl, ?ra5⟩) (by assumption) ?_
  case ra5 => (intro w hSw; (try dsimp only at hSw); (go_simp <;> with_reducible rfl))
  try simp only [Act.put, List.setIfInBounds_toArray, List.set_cons_zero, List.set_cons_succ]
  refine wpAnyH_take (i := 7) (oi := { dst := some 12, op := Go.Op.load 22 (Go.Operand.tmp 11), type := 22, pos := "locks.go:160", after := #[{ on := 6, ground := Go.Ground.data }], guard := none }) (v := ?va6) rfl (by kernel_rfl) (by kernel_rfl) (by kernel_rfl) (fun _ _ _ h => h) (Or.inl ⟨by rfl, ?ra6⟩) (by assumption) ?_
  case ra6 => (intro w hSw; (try dsimp only at hSw); (go_simp <;> with_reducible rfl))
  try simp only [Act.put, List.setIfInBounds_toArray, List.set_cons_zero, List.set_cons_succ]
  refine wpAnyH_ready (rs := [1]) (by kernel_rfl) (by simp) ?_
  refine AllReadyH.cons (o := { dst := some 6, op := Go.Op.call { callee := Go.Callee.value (Go.Operand.func 12), args := #[Go.Operand.tmp 5], argTypes := #[25] }, type := 37, pos := "locks.go:160", after := #[{ on := 0, ground := Go.Ground.data }], guard := none }) rfl (fun K hK => ?_) AllReadyH.nil
  go_simp
  go_at_call 12
  refine (HH.out _ h0.1).mono ?_
  rintro e w8 ⟨u1, rfl, ho1, hgN⟩
  obtain ⟨a1, k1, hv1, _⟩ := ownsRow_slice ho1
  subst hv1
  have HO1 := Lib.hid (owns_base ho1 h0.1.size)
  clear ho1
  first | refine hK.out _ _ ?sa7 (fun h7 => ?_) | (go_wp2_with fail; refine hK.out _ _ ?sa7 (fun h7 => ?_))
  case sa7 => ((try dsimp only); (first | exact QS.out _ (h0.1.trans hgN) | exact QS.out _ (h0.1.alloc _)))
  clear hK K h0
  try simp only [Act.put, List.setIfInBounds_toArray, List.set_cons_zero, List.set_cons_succ]
  refine wpAnyH_ready (rs := [3]) (by kernel_rfl) (by simp) ?_
  refine AllReadyH.cons (o := { dst := some 8, op := Go.Op.call { callee := Go.Callee.value (Go.Operand.func 14), args := #[Go.Operand.tmp 7], argTypes := #[25] }, type := 37, pos := "locks.go:160", after := #[{ on := 2, ground := Go.Ground.data }, { on := 1, ground := Go.Ground.chain }], guard := none }) rfl (fun K hK => ?_) AllReadyH.nil
  go_simp
  go_at_call 14
  refine (HV.out _ h7.1).mono ?_
  rintro e w9 ⟨u2, rfl, ho2, hgN⟩
  obtain ⟨a2, k2, hv2, _⟩ := ownsRow_slice ho2
  subst hv2
  have HO2 := Lib.hid (owns_base ho2 h7.1.size)
  have HN2 := Lib.hid (fun k (e : Value.ownBlock (.slice a2 n2 k2) = some k) => (own_ge ho2 e).1)
  have HS8 := Lib.hid (fun k (e : Value.ownBlock (.slice a1 n1 k1) = some k) => (own_ge HO1.out e).2)
  have HO1 := Lib.hid (ownsRow_gr hgN HO1.out)
  have HW9 := Lib.hid (show Gr w w9 from h7.1.trans hgN)
  clear ho2
  first | refine hK.out _ _ ?sa8 (fun h8 => ?_) | (go_wp2_with fail; refine hK.out _ _ ?sa8 (fun h8 => ?_))
  case sa8 => ((try dsimp only); (first | exact QS.out _ (h7.1.trans hgN) | exact QS.out _ (h7.1.alloc _)))
  clear hK K h7
  try simp only [Act.put, List.setIfInBounds_toArray, List.set_cons_zero, List.set_cons_succ]
  refine wpAnyH_take (i := 8) (oi := { dst := some 13, op := Go.Op.build 69 #[(0, Go.Operand.tmp 6), (1, Go.Operand.tmp 8), (2, Go.Operand.tmp 12)], type := 69, pos := "locks.go:160", after := #[{ on := 1, ground := Go.Ground.data }, { on := 3, ground := Go.Ground.data }, { on := 7, ground := Go.Ground.data }], guard := none }) (v := ?va9) rfl (by kernel_rfl) (by kernel_rfl) (by kernel_rfl) (fun _ _ _ h => h) (Or.inl ⟨by rfl, ?ra9⟩) (by assumption) ?_
  case ra9 => (intro w hSw; (try dsimp only at hSw); (go_simp <;> with_reducible rfl))
  try simp only [Act.put, List.setIfInBounds_toArray, List.set_cons_zero, List.set_cons_succ]
  refine wpAnyH_ready (rs := [9]) (by kernel_rfl) (by simp) ?_
  refine AllReadyH.cons (o := { dst := some 14, op := Go.Op.box 69 (Go.Operand.tmp 13), type := 25, pos := "locks.go:160", after := #[{ on := 8, ground := Go.Ground.data }], guard := none }) rfl (fun K hK => ?_) AllReadyH.nil
  go_simp
  skip
  first | refine hK.out _ _ ?sa10 (fun h10 => ?_) | (go_wp2_with fail; refine hK.out _ _ ?sa10 (fun h10 => ?_))
  case sa10 => ((try dsimp only); (first | exact QS.out _ (h8.1.trans hgN) | exact QS.out _ (h8.1.alloc _)))
  clear hK K h8
  try simp only [Act.put, List.setIfInBounds_toArray, List.set_cons_zero, List.set_cons_succ]
  refine wpAnyH_take (i := 10) (oi := { dst := some 2, op := Go.Op.assign (Go.Operand.tmp 14), type := 25, pos := "locks.go:160", after := #[{ on := 9, ground := Go.Ground.data }, { on := 3, ground := Go.Ground.chain }, { on := 0, ground := Go.Ground.phase }, { on := 1, ground := Go.Ground.phase }, { on := 2, ground := Go.Ground.phase }, { on := 3, ground := Go.Ground.phase }, { on := 4, ground := Go.Ground.phase }, { on := 5, ground := Go.Ground.phase }, { on := 6, ground := Go.Ground.phase }, { on := 7, ground := Go.Ground.phase }, { on := 8, ground := Go.Ground.phase }, { on := 9, ground := Go.Ground.phase }], guard := none }) (v := ?va11) rfl (by kernel_rfl) (by kernel_rfl) (by kernel_rfl) (fun _ _ _ h => h) (Or.inl ⟨by rfl, ?ra11⟩) (by assumption) ?_
  case ra11 => (intro w hSw; (try dsimp only at hSw); (go_simp <;> with_reducible rfl))
  try simp only [Act.put, List.setIfInBounds_toArray, List.set_cons_zero, List.set_cons_succ]
  refine wpAnyH_done (by kernel_rfl) ?_ _
  have HFIN := Lib.hid h10.1
  have hga := (Gr.refl w9).alloc (.cells #[.slice a1 n1 k1, .slice a2 n2 k2, .int .u64 lt] 69)
  have HBN := Lib.hid (Blk.new w9 #[.slice a1 n1 k1, .slice a2 n2 k2, .int .u64 lt] 69)
  have HO1 := Lib.hid (ownsRow_gr hga HO1.out)
  have HO2 := Lib.hid (ownsRow_gr hga HO2.out)
  have HS9 := Lib.hid HW9.out.size
  clear hga h10
  go_wp2
  go_ret
  obtain ⟨rfl, rfl, rfl⟩ := HN.out
  refine ⟨_, _, _, rfl, HS9.out, ⟨HS9.out, HFIN.out, HBN.out, HO1.out, HO2.out, ?_⟩, HFIN.out⟩
  rcases hq : Value.ownBlock (.slice a1 B.H.length k1) with _ | k
  · exact .inl rfl
  · exact .inr (fun e => by have := HS8.out k hq; have := HN2.out k e.symm; omega)
end Go.Proofs.YtmgpnpmdmelnkaaGreatDoor
