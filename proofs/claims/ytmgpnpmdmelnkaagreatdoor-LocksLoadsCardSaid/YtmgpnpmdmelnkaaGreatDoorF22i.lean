import Derived.Test.YtmgpnpmdmelnkaaGreatDoorF22g
import Derived.WalkKit
import Derived.ProofKit
import Derived.LoopTactic
import Derived.Outline
import Derived.WalkSpells
import Derived.WalkLawsBesides
import Derived.Lib.Hide
import Derived.Deep.LoopGhost
import Derived.Deep.QuietTactic
import Derived.BigQuiet
import Derived.ShutString
import Derived.IntWalk
import Derived.Lib.MinMax
import Derived.Deep.RegionWith
import Derived.Deep.RegionHeld3
import Derived.Deep.Cut
import Derived.Deep.CutRange
import Derived.Deep.CutBlock
namespace Go.Proofs.YtmgpnpmdmelnkaaGreatDoor
open Go.ChangeShapes Go.WideShapes Go.ChangeAt Go.RowKit
set_option linter.unusedVariables false
set_option linter.unusedSimpArgs false
variable {w0 w : World} {b : Nat} {v1 v2 : Value} {B : Bk}
theorem cutS2 {G : Nat → Nat → World → Prop} {Q : Prop} (S : Nat → Nat → World → Prop) (main : (∀ p q w, S p q w → G p q w) → Q) (rest : ∀ p q w, S p q w → G p q w) : Q := main rest
def zLok : Lok := ⟨0, ⟨#[]⟩, false, 0⟩
def askL (s : Int) (t : ByteArray) : Lok := ⟨s, t, false, 0⟩
/-- What Find tells. -/
def findB (B : Bk) (s : Int) (t : ByteArray) : Lok × Int :=
  if 0 ≤ fstF (sameB (askL s t)) B.H 0 then (B.H.getD (fstF (sameB (askL s t)) B.H 0).toNat zLok, 0)
  else if 0 ≤ fstF (sameB (askL s t)) B.W 0 then (B.W.getD (fstF (sameB (askL s t)) B.W 0).toNat zLok, fstF (sameB (askL s t)) B.W 0 + 1)
  else (zLok, -1)
set_option maxRecDepth 100000 in
set_option maxHeartbeats 2000000 in
theorem bfind_any (s : Int) (t : ByteArray) (w : World) (h : BkIs w0 w b v1 v2 B) (hl : B.H.length + B.W.length ≤ 500) :
    Calls Tryz.prog 13 #[.pointer (some ⟨b, 0, none⟩), .int .i64 s, .agg #[.string t]] w fun e w' => e = .returned (.tuple #[.agg #[.int .i64 (findB B s t).1.ses, .string (findB B s t).1.txt, .bool (findB B s t).1.ex, .int .u64 (findB B s t).1.tok], .int .i64 (findB B s t).2]) ∧ Gr w w' := by
  have H := Lib.hid h
  have HC := Lib.hid (fun w' (hg : Gr w w') => content_any w' (h.gr hg))
  obtain ⟨a1, k1, rfl, _⟩ := ownsRow_slice h.r1
  obtain ⟨a2, k2, rfl, _⟩ := ownsRow_slice h.r2
  clear h
  have HG2 := Lib.hid (((Gr.refl w).alloc (.cells #[.string t] 40)).alloc (.cells #[.int .i64 0, .string ⟨#[]⟩, .bool false, .int .u64 0] 42))
  have HT := Lib.hid ((Blk.new w #[.string t] 40).gr ((Gr.refl _).alloc (.cells #[.int .i64 0, .string ⟨#[]⟩, .bool false, .int .u64 0] 42)))
  have HR := Lib.hid (Blk.new (w.alloc (.cells #[.string t] 40)) #[.int .i64 0, .string ⟨#[]⟩, .bool false, .int .u64 0] 42)
  have hsz : (w.alloc (.cells #[.string t] 40)).heap.size = w.heap.size + 1 := by simp
  rw [hsz] at HR
  clear hsz
  go_enter Tryz.func13, Tryz.ntmps13
  go_upto_region 1 with fail
  generalize (w.alloc (.cells #[.string t] 40)).alloc (.cells #[.int .i64 0, .string ⟨#[]⟩, .bool false, .int .u64 0] 42) = w2 at *
  have t0 := HT.out.cell (i := 0) rfl
  have QS : Hid (∀ w9, Gr w2 w9 → (fun w9 => Gr w2 w9 ∧ w9.cell? ⟨w.heap.size, 0, none⟩ = some (.string t)) w9) := Lib.hid fun w9 hg => ⟨hg, hg.cell t0⟩
  clear t0
  generalize hn1 : B.H.length = n1 at *
  generalize hn2 : B.W.length = n2 at *
  generalize B.last = lt at *
  obtain ⟨m8, hm8⟩ : ∃ ms : List Value, ms = [.slice a1 n1 k1, .slice a2 n2 k2, .int .u64 lt] := ⟨_, rfl⟩
  obtain ⟨m9, hm9⟩ : ∃ ms : List Value, ms = [.int .i64 s, .string t, .bool false, .int .u64 0] := ⟨_, rfl⟩
  rw [show Value.agg #[.slice a1 n1 k1, .slice a2 n2 k2, .int .u64 lt] = .agg m8.toArray by rw [hm8]] at HC
  have l8 : m8.length = 3 := by rw [hm8]; rfl
  have l9 : m9.length = 4 := by rw [hm9]; rfl
  have HM8 := Lib.hid hm8
  have HM9 := Lib.hid hm9
  clear hm8 hm9
  apply cutS2 (fun p8 p9 wx => Blk wx p8 #[.slice a1 n1 k1, .slice a2 n2 k2, .int .u64 lt] 69 ∧ Blk wx p9 #[.int .i64 s, .string t, .bool false, .int .u64 0] 42 ∧ Gr w2 wx ∧ p9 ≠ p8)
  case main =>
    intro HL
    refine wp_region_held_drew (S := (fun w9 => Gr w2 w9 ∧ w9.cell? ⟨w.heap.size, 0, none⟩ = some (.string t))) (by kernel_rfl) ?inva (fun h0 => ?_)
    case inva => ((try dsimp only); (exact QS.out _ ((Gr.refl _).drew)))
    refine wpAnyH_take (i := 0) (oi := { dst := some 12, op := Go.Op.move (Go.Operand.tmp 0), type := 25, pos := "locks.go:44", after := #[], guard := none }) (v := ?va1) rfl (by kernel_rfl) (by kernel_rfl) (by kernel_rfl) (fun _ _ _ h => h) (Or.inl ⟨by rfl, ?ra1⟩) (by assumption) ?_
    case ra1 => (intro w hSw; (try dsimp only at hSw); (go_simp <;> with_reducible rfl))
    try simp only [Act.put, List.setIfInBounds_toArray, List.set_cons_zero, List.set_cons_succ]
    refine wpAnyH_take (i := 2) (oi := { dst := some 14, op := Go.Op.move (Go.Operand.tmp 1), type := 3, pos := "locks.go:44", after := #[⟨7, .gcOnly .lateStores⟩], guard := none }) (v := ?va2) rfl (by kernel_rfl) (by kernel_rfl) (by kernel_rfl) (fun _ _ _ h => h) (Or.inl ⟨by rfl, ?ra2⟩) (by assumption) ?_
    case ra2 => (intro w hSw; (try dsimp only at hSw); (go_simp <;> with_reducible rfl))
    try simp only [Act.put, List.setIfInBounds_toArray, List.set_cons_zero, List.set_cons_succ]
    refine wpAnyH_take (i := 3) (oi := { dst := some 15, op := Go.Op.load 40 (Go.Operand.tmp 5), type := 40, pos := "locks.go:44", after := #[⟨7, .gcOnly .lateStores⟩], guard := none }) (v := ?va3) rfl (by kernel_rfl) (by kernel_rfl) (by kernel_rfl) (fun _ _ _ h => h) (Or.inl ⟨by rfl, ?ra3⟩) (by assumption) ?_
    case ra3 => (intro w hSw; (try dsimp only at hSw); (go_simp <;> with_reducible rfl))
    try simp only [Act.put, List.setIfInBounds_toArray, List.set_cons_zero, List.set_cons_succ]
    refine wpAnyH_take (i := 4) (oi := { dst := some 16, op := Go.Op.build 42 #[(0, Go.Operand.tmp 14), (1, Go.Operand.tmp 15)], type := 42, pos := "locks.go:44", after := #[⟨2, .data⟩, ⟨3, .data⟩, ⟨7, .gcOnly .lateStores⟩], guard := none }) (v := (.agg m9.toArray)) rfl (by kernel_rfl) (by kernel_rfl) (by kernel_rfl) (fun _ _ _ h => h) (Or.inl ⟨by rfl, ?ra4⟩) (by assumption) ?_
    case ra4 => (intro w hSw; (try dsimp only at hSw); go_simp; all_goals (rw [HM9.out]))
    try simp only [Act.put, List.setIfInBounds_toArray, List.set_cons_zero, List.set_cons_succ]
    refine wpAnyH_ready (rs := [1, 5, 6]) (by kernel_rfl) (by simp) ?_
    refine AllReadyH.cons (o := { dst := some 13, op := Go.Op.call { callee := Go.Callee.value (Go.Operand.func 31), args := #[Go.Operand.tmp 12], argTypes := #[25] }, type := 69, pos := "locks.go:44", after := #[⟨0, .data⟩], guard := none }) rfl (fun K hK => ?_) (AllReadyH.cons (o := { dst := some 8, op := Go.Op.alloc 69, type := 0, pos := "locks.go:44", after := #[], guard := none }) rfl (fun K hK => ?_) (AllReadyH.cons (o := { dst := some 9, op := Go.Op.alloc 42, type := 0, pos := "locks.go:44", after := #[], guard := none }) rfl (fun K hK => ?_) AllReadyH.nil))
    · skip
      go_simp
      go_at_call 31
      refine (HC.out _ (HG2.out.trans h0.1)).mono ?_
      rintro e w9 ⟨rfl, hgN⟩
      have HW9 := Lib.hid (show Gr w2 w9 from h0.1.trans hgN)
      have HS9 := Lib.hid HW9.out.size
      first | refine hK.out _ _ ?sa5 (fun h5 => ?_) | (go_wp2_with fail; refine hK.out _ _ ?sa5 (fun h5 => ?_))
      case sa5 => ((try dsimp only); (exact QS.out _ (h0.1.trans hgN)))
      clear hK K h0
      try simp only [Act.put, List.setIfInBounds_toArray, List.set_cons_zero, List.set_cons_succ]
      refine wpAnyH_ready (rs := [5, 6]) (by kernel_rfl) (by simp) ?_
      refine AllReadyH.cons (o := { dst := some 8, op := Go.Op.alloc 69, type := 0, pos := "locks.go:44", after := #[], guard := none }) rfl (fun K hK => ?_) (AllReadyH.cons (o := { dst := some 9, op := Go.Op.alloc 42, type := 0, pos := "locks.go:44", after := #[], guard := none }) rfl (fun K hK => ?_) AllReadyH.nil)
      · skip
        go_simp
        have B8 := Blk.new w9 #[.slice none 0 0, .slice none 0 0, .int .u64 0] 69
        first | refine hK.out _ _ ?sa6 (fun h6 => ?_) | (go_wp2_with fail; refine hK.out _ _ ?sa6 (fun h6 => ?_))
        case sa6 => ((try dsimp only); (exact QS.out _ (h5.1.alloc _)))
        clear hK K h5
        try simp only [Act.put, List.setIfInBounds_toArray, List.set_cons_zero, List.set_cons_succ]
        refine wpAnyH_ready (rs := [6]) (by kernel_rfl) (by simp) ?_
        refine AllReadyH.cons (o := { dst := some 9, op := Go.Op.alloc 42, type := 0, pos := "locks.go:44", after := #[], guard := none }) rfl (fun K hK => ?_) AllReadyH.nil
        go_simp
        have B9 := Blk.new (w9.alloc (.cells #[.slice none 0 0, .slice none 0 0, .int .u64 0] 69)) #[.int .i64 0, .string ⟨#[]⟩, .bool false, .int .u64 0] 42
        rw [show ((w9.alloc (.cells #[.slice none 0 0, .slice none 0 0, .int .u64 0] 69))).heap.size = w9.heap.size + 1 by simp] at B9
        replace B8 := B8.gr ((Gr.refl _).alloc (.cells #[.int .i64 0, .string ⟨#[]⟩, .bool false, .int .u64 0] 42))
        first | refine hK.out _ _ ?sa7 (fun h7 => ?_) | (go_wp2_with fail; refine hK.out _ _ ?sa7 (fun h7 => ?_))
        case sa7 => ((try dsimp only); (exact QS.out _ (h6.1.alloc _)))
        clear hK K h6
        try simp only [Act.put, List.setIfInBounds_toArray, List.set_cons_zero, List.set_cons_succ]
        refine wpAnyH_ready (rs := [7]) (by kernel_rfl) (by simp) ?_
        refine AllReadyH.cons (o := { dst := none, op := Go.Op.store 69 (Go.Operand.tmp 8) (Go.Operand.tmp 13), type := 0, pos := "locks.go:44", after := #[⟨5, .data⟩, ⟨1, .data⟩, ⟨1, .chain⟩, ⟨0, .phase⟩, ⟨1, .phase⟩, ⟨2, .textOnly .lateStores⟩, ⟨3, .textOnly .lateStores⟩, ⟨4, .textOnly .lateStores⟩, ⟨5, .phase⟩, ⟨6, .phase⟩], guard := none }) rfl (fun K hK => ?_) AllReadyH.nil
        go_simp
        have N8 : w2.heap.size ≤ w9.heap.size := by have := HS9.out; omega
        have N9 : w2.heap.size ≤ w9.heap.size + 1 := by have := HS9.out; omega
        have NE : w9.heap.size + 1 ≠ w9.heap.size := fun e => by rw [e] at B9; have e2 := (show _ = _ from B9).symm.trans B8; simp at e2
        obtain ⟨k8, hk8, _, hst8, hgr8, hB8⟩ := blk_store (P := Tryz.prog) B8 [.slice a1 n1 k1, .slice a2 n2 k2, .int .u64 lt] rfl (by intro u hu; simp only [List.mem_cons, List.not_mem_nil, or_false] at hu; rcases hu with rfl | rfl | rfl <;> rfl)
        obtain rfl : m8 = k8 := by rw [HM8.out]; exact hk8
        have B9b := B9.put_other hgr8 NE
        have HG8 := gr_put h7.1 hgr8 N8
        clear hk8
        first | refine hK.out _ _ ?sa8 (fun h8 => ?_) | (go_wp2_with fail; refine hK.out _ _ ?sa8 (fun h8 => ?_))
        case sa8 => ((try dsimp only); (exact QS.out _ HG8))
        clear hK K h7
        try simp only [Act.put, List.setIfInBounds_toArray, List.set_cons_zero, List.set_cons_succ]
        refine wpAnyH_ready (rs := [8]) (by kernel_rfl) (by simp) ?_
        refine AllReadyH.cons (o := { dst := none, op := Go.Op.store 42 (Go.Operand.tmp 9) (Go.Operand.tmp 16), type := 0, pos := "locks.go:44", after := #[⟨6, .data⟩, ⟨4, .data⟩, ⟨7, .chain⟩, ⟨0, .phase⟩, ⟨1, .phase⟩, ⟨2, .phase⟩, ⟨3, .phase⟩, ⟨4, .phase⟩, ⟨5, .phase⟩, ⟨6, .phase⟩, ⟨7, .phase⟩], guard := none }) rfl (fun K hK => ?_) AllReadyH.nil
        go_simp
        obtain ⟨k9, hk9, _, hst9, hgr9, hB9⟩ := blk_store (P := Tryz.prog) B9b [.int .i64 s, .string t, .bool false, .int .u64 0] rfl (by intro u hu; simp only [List.mem_cons, List.not_mem_nil, or_false] at hu; rcases hu with rfl | rfl | rfl | rfl <;> rfl)
        obtain rfl : m9 = k9 := by rw [HM9.out]; exact hk9
        have HG9 := gr_put h8.1 hgr9 N9
        have hB8b := hB8.put_other hgr9 (Ne.symm NE)
        clear hk9
        try simp only [hst9]
        try go_simp
        first | refine hK.out _ _ ?sa9 (fun h9 => ?_) | (go_wp2_with fail; refine hK.out _ _ ?sa9 (fun h9 => ?_))
        case sa9 => ((try dsimp only); (exact QS.out _ HG9))
        clear hK K h8
        try simp only [Act.put, List.setIfInBounds_toArray, List.set_cons_zero, List.set_cons_succ]
        refine wpAnyH_done (by kernel_rfl) ?_ _
        have FIN := And.intro hB8b (And.intro hB9 (And.intro h9.1 NE))
        generalize ((((w9.alloc (.cells #[.slice none 0 0, .slice none 0 0, .int .u64 0] 69)).alloc (.cells #[.int .i64 0, .string ⟨#[]⟩, .bool false, .int .u64 0] 42)).setCells (w9.heap.size) 0 m8).setCells (w9.heap.size + 1) 0 m9) = W9 at FIN ⊢
        generalize w9.heap.size + 1 = P9 at FIN ⊢
        generalize w9.heap.size = P8 at FIN ⊢
        exact HL P8 P9 W9 FIN
      · skip
        go_simp
        have B9 := Blk.new w9 #[.int .i64 0, .string ⟨#[]⟩, .bool false, .int .u64 0] 42
        first | refine hK.out _ _ ?sa10 (fun h10 => ?_) | (go_wp2_with fail; refine hK.out _ _ ?sa10 (fun h10 => ?_))
        case sa10 => ((try dsimp only); (exact QS.out _ (h5.1.alloc _)))
        clear hK K h5
        try simp only [Act.put, List.setIfInBounds_toArray, List.set_cons_zero, List.set_cons_succ]
        refine wpAnyH_ready (rs := [5]) (by kernel_rfl) (by simp) ?_
        refine AllReadyH.cons (o := { dst := some 8, op := Go.Op.alloc 69, type := 0, pos := "locks.go:44", after := #[], guard := none }) rfl (fun K hK => ?_) AllReadyH.nil
        go_simp
        have B8 := Blk.new (w9.alloc (.cells #[.int .i64 0, .string ⟨#[]⟩, .bool false, .int .u64 0] 42)) #[.slice none 0 0, .slice none 0 0, .int .u64 0] 69
        rw [show ((w9.alloc (.cells #[.int .i64 0, .string ⟨#[]⟩, .bool false, .int .u64 0] 42))).heap.size = w9.heap.size + 1 by simp] at B8
        replace B9 := B9.gr ((Gr.refl _).alloc (.cells #[.slice none 0 0, .slice none 0 0, .int .u64 0] 69))
        first | refine hK.out _ _ ?sa11 (fun h11 => ?_) | (go_wp2_with fail; refine hK.out _ _ ?sa11 (fun h11 => ?_))
        case sa11 => ((try dsimp only); (exact QS.out _ (h10.1.alloc _)))
        clear hK K h10
        try simp only [Act.put, List.setIfInBounds_toArray, List.set_cons_zero, List.set_cons_succ]
        refine wpAnyH_ready (rs := [7]) (by kernel_rfl) (by simp) ?_
        refine AllReadyH.cons (o := { dst := none, op := Go.Op.store 69 (Go.Operand.tmp 8) (Go.Operand.tmp 13), type := 0, pos := "locks.go:44", after := #[⟨5, .data⟩, ⟨1, .data⟩, ⟨1, .chain⟩, ⟨0, .phase⟩, ⟨1, .phase⟩, ⟨2, .textOnly .lateStores⟩, ⟨3, .textOnly .lateStores⟩, ⟨4, .textOnly .lateStores⟩, ⟨5, .phase⟩, ⟨6, .phase⟩], guard := none }) rfl (fun K hK => ?_) AllReadyH.nil
        go_simp
        have N8 : w2.heap.size ≤ w9.heap.size + 1 := by have := HS9.out; omega
        have N9 : w2.heap.size ≤ w9.heap.size := by have := HS9.out; omega
        have NE : w9.heap.size ≠ w9.heap.size + 1 := fun e => by rw [e] at B9; have e2 := (show _ = _ from B9).symm.trans B8; simp at e2
        obtain ⟨k8, hk8, _, hst8, hgr8, hB8⟩ := blk_store (P := Tryz.prog) B8 [.slice a1 n1 k1, .slice a2 n2 k2, .int .u64 lt] rfl (by intro u hu; simp only [List.mem_cons, List.not_mem_nil, or_false] at hu; rcases hu with rfl | rfl | rfl <;> rfl)
        obtain rfl : m8 = k8 := by rw [HM8.out]; exact hk8
        have B9b := B9.put_other hgr8 NE
        have HG8 := gr_put h11.1 hgr8 N8
        clear hk8
        first | refine hK.out _ _ ?sa12 (fun h12 => ?_) | (go_wp2_with fail; refine hK.out _ _ ?sa12 (fun h12 => ?_))
        case sa12 => ((try dsimp only); (exact QS.out _ HG8))
        clear hK K h11
        try simp only [Act.put, List.setIfInBounds_toArray, List.set_cons_zero, List.set_cons_succ]
        refine wpAnyH_ready (rs := [8]) (by kernel_rfl) (by simp) ?_
        refine AllReadyH.cons (o := { dst := none, op := Go.Op.store 42 (Go.Operand.tmp 9) (Go.Operand.tmp 16), type := 0, pos := "locks.go:44", after := #[⟨6, .data⟩, ⟨4, .data⟩, ⟨7, .chain⟩, ⟨0, .phase⟩, ⟨1, .phase⟩, ⟨2, .phase⟩, ⟨3, .phase⟩, ⟨4, .phase⟩, ⟨5, .phase⟩, ⟨6, .phase⟩, ⟨7, .phase⟩], guard := none }) rfl (fun K hK => ?_) AllReadyH.nil
        go_simp
        obtain ⟨k9, hk9, _, hst9, hgr9, hB9⟩ := blk_store (P := Tryz.prog) B9b [.int .i64 s, .string t, .bool false, .int .u64 0] rfl (by intro u hu; simp only [List.mem_cons, List.not_mem_nil, or_false] at hu; rcases hu with rfl | rfl | rfl | rfl <;> rfl)
        obtain rfl : m9 = k9 := by rw [HM9.out]; exact hk9
        have HG9 := gr_put h12.1 hgr9 N9
        have hB8b := hB8.put_other hgr9 (Ne.symm NE)
        clear hk9
        try simp only [hst9]
        try go_simp
        first | refine hK.out _ _ ?sa13 (fun h13 => ?_) | (go_wp2_with fail; refine hK.out _ _ ?sa13 (fun h13 => ?_))
        case sa13 => ((try dsimp only); (exact QS.out _ HG9))
        clear hK K h12
        try simp only [Act.put, List.setIfInBounds_toArray, List.set_cons_zero, List.set_cons_succ]
        refine wpAnyH_done (by kernel_rfl) ?_ _
        have FIN := And.intro hB8b (And.intro hB9 (And.intro h13.1 NE))
        generalize ((((w9.alloc (.cells #[.int .i64 0, .string ⟨#[]⟩, .bool false, .int .u64 0] 42)).alloc (.cells #[.slice none 0 0, .slice none 0 0, .int .u64 0] 69)).setCells (w9.heap.size + 1) 0 m8).setCells (w9.heap.size) 0 m9) = W9 at FIN ⊢
        generalize w9.heap.size + 1 = P8 at FIN ⊢
        generalize w9.heap.size = P9 at FIN ⊢
        exact HL P8 P9 W9 FIN
    · skip
      go_simp
      skip
      first | refine hK.out _ _ ?sa14 (fun h14 => ?_) | (go_wp2_with fail; refine hK.out _ _ ?sa14 (fun h14 => ?_))
      case sa14 => ((try dsimp only); (exact QS.out _ (h0.1.alloc _)))
      clear hK K h0
      try simp only [Act.put, List.setIfInBounds_toArray, List.set_cons_zero, List.set_cons_succ]
      refine wpAnyH_ready (rs := [1, 6]) (by kernel_rfl) (by simp) ?_
      refine AllReadyH.cons (o := { dst := some 13, op := Go.Op.call { callee := Go.Callee.value (Go.Operand.func 31), args := #[Go.Operand.tmp 12], argTypes := #[25] }, type := 69, pos := "locks.go:44", after := #[⟨0, .data⟩], guard := none }) rfl (fun K hK => ?_) (AllReadyH.cons (o := { dst := some 9, op := Go.Op.alloc 42, type := 0, pos := "locks.go:44", after := #[], guard := none }) rfl (fun K hK => ?_) AllReadyH.nil)
      · skip
        go_simp
        have B8 := Blk.new w2 #[.slice none 0 0, .slice none 0 0, .int .u64 0] 69
        go_at_call 31
        refine (HC.out _ (HG2.out.trans h14.1)).mono ?_
        rintro e w9 ⟨rfl, hgN⟩
        replace B8 := B8.gr ((Gr.refl _).drew.trans hgN)
        have HW9 := Lib.hid (show Gr w2 w9 from h14.1.trans hgN)
        have HS9 := Lib.hid HW9.out.size
        first | refine hK.out _ _ ?sa15 (fun h15 => ?_) | (go_wp2_with fail; refine hK.out _ _ ?sa15 (fun h15 => ?_))
        case sa15 => ((try dsimp only); (exact QS.out _ (h14.1.trans hgN)))
        clear hK K h14
        try simp only [Act.put, List.setIfInBounds_toArray, List.set_cons_zero, List.set_cons_succ]
        refine wpAnyH_ready (rs := [6]) (by kernel_rfl) (by simp) ?_
        refine AllReadyH.cons (o := { dst := some 9, op := Go.Op.alloc 42, type := 0, pos := "locks.go:44", after := #[], guard := none }) rfl (fun K hK => ?_) AllReadyH.nil
        go_simp
        have B9 := Blk.new w9 #[.int .i64 0, .string ⟨#[]⟩, .bool false, .int .u64 0] 42
        replace B8 := B8.gr ((Gr.refl _).alloc (.cells #[.int .i64 0, .string ⟨#[]⟩, .bool false, .int .u64 0] 42))
        first | refine hK.out _ _ ?sa16 (fun h16 => ?_) | (go_wp2_with fail; refine hK.out _ _ ?sa16 (fun h16 => ?_))
        case sa16 => ((try dsimp only); (exact QS.out _ (h15.1.alloc _)))
        clear hK K h15
        try simp only [Act.put, List.setIfInBounds_toArray, List.set_cons_zero, List.set_cons_succ]
        refine wpAnyH_ready (rs := [7]) (by kernel_rfl) (by simp) ?_
        refine AllReadyH.cons (o := { dst := none, op := Go.Op.store 69 (Go.Operand.tmp 8) (Go.Operand.tmp 13), type := 0, pos := "locks.go:44", after := #[⟨5, .data⟩, ⟨1, .data⟩, ⟨1, .chain⟩, ⟨0, .phase⟩, ⟨1, .phase⟩, ⟨2, .textOnly .lateStores⟩, ⟨3, .textOnly .lateStores⟩, ⟨4, .textOnly .lateStores⟩, ⟨5, .phase⟩, ⟨6, .phase⟩], guard := none }) rfl (fun K hK => ?_) AllReadyH.nil
        go_simp
        have N8 : w2.heap.size ≤ w2.heap.size := by have := HS9.out; omega
        have N9 : w2.heap.size ≤ w9.heap.size := by have := HS9.out; omega
        have NE : w9.heap.size ≠ w2.heap.size := fun e => by rw [e] at B9; have e2 := (show _ = _ from B9).symm.trans B8; simp at e2
        obtain ⟨k8, hk8, _, hst8, hgr8, hB8⟩ := blk_store (P := Tryz.prog) B8 [.slice a1 n1 k1, .slice a2 n2 k2, .int .u64 lt] rfl (by intro u hu; simp only [List.mem_cons, List.not_mem_nil, or_false] at hu; rcases hu with rfl | rfl | rfl <;> rfl)
        obtain rfl : m8 = k8 := by rw [HM8.out]; exact hk8
        have B9b := B9.put_other hgr8 NE
        have HG8 := gr_put h16.1 hgr8 N8
        clear hk8
        first | refine hK.out _ _ ?sa17 (fun h17 => ?_) | (go_wp2_with fail; refine hK.out _ _ ?sa17 (fun h17 => ?_))
        case sa17 => ((try dsimp only); (exact QS.out _ HG8))
        clear hK K h16
        try simp only [Act.put, List.setIfInBounds_toArray, List.set_cons_zero, List.set_cons_succ]
        refine wpAnyH_ready (rs := [8]) (by kernel_rfl) (by simp) ?_
        refine AllReadyH.cons (o := { dst := none, op := Go.Op.store 42 (Go.Operand.tmp 9) (Go.Operand.tmp 16), type := 0, pos := "locks.go:44", after := #[⟨6, .data⟩, ⟨4, .data⟩, ⟨7, .chain⟩, ⟨0, .phase⟩, ⟨1, .phase⟩, ⟨2, .phase⟩, ⟨3, .phase⟩, ⟨4, .phase⟩, ⟨5, .phase⟩, ⟨6, .phase⟩, ⟨7, .phase⟩], guard := none }) rfl (fun K hK => ?_) AllReadyH.nil
        go_simp
        obtain ⟨k9, hk9, _, hst9, hgr9, hB9⟩ := blk_store (P := Tryz.prog) B9b [.int .i64 s, .string t, .bool false, .int .u64 0] rfl (by intro u hu; simp only [List.mem_cons, List.not_mem_nil, or_false] at hu; rcases hu with rfl | rfl | rfl | rfl <;> rfl)
        obtain rfl : m9 = k9 := by rw [HM9.out]; exact hk9
        have HG9 := gr_put h17.1 hgr9 N9
        have hB8b := hB8.put_other hgr9 (Ne.symm NE)
        clear hk9
        try simp only [hst9]
        try go_simp
        first | refine hK.out _ _ ?sa18 (fun h18 => ?_) | (go_wp2_with fail; refine hK.out _ _ ?sa18 (fun h18 => ?_))
        case sa18 => ((try dsimp only); (exact QS.out _ HG9))
        clear hK K h17
        try simp only [Act.put, List.setIfInBounds_toArray, List.set_cons_zero, List.set_cons_succ]
        refine wpAnyH_done (by kernel_rfl) ?_ _
        have FIN := And.intro hB8b (And.intro hB9 (And.intro h18.1 NE))
        generalize (((w9.alloc (.cells #[.int .i64 0, .string ⟨#[]⟩, .bool false, .int .u64 0] 42)).setCells (w2.heap.size) 0 m8).setCells (w9.heap.size) 0 m9) = W9 at FIN ⊢
        generalize w2.heap.size = P8 at FIN ⊢
        generalize w9.heap.size = P9 at FIN ⊢
        exact HL P8 P9 W9 FIN
      · skip
        go_simp
        skip
        first | refine hK.out _ _ ?sa19 (fun h19 => ?_) | (go_wp2_with fail; refine hK.out _ _ ?sa19 (fun h19 => ?_))
        case sa19 => ((try dsimp only); (exact QS.out _ (h14.1.alloc _)))
        clear hK K h14
        try simp only [Act.put, List.setIfInBounds_toArray, List.set_cons_zero, List.set_cons_succ]
        refine wpAnyH_ready (rs := [1]) (by kernel_rfl) (by simp) ?_
        refine AllReadyH.cons (o := { dst := some 13, op := Go.Op.call { callee := Go.Callee.value (Go.Operand.func 31), args := #[Go.Operand.tmp 12], argTypes := #[25] }, type := 69, pos := "locks.go:44", after := #[⟨0, .data⟩], guard := none }) rfl (fun K hK => ?_) AllReadyH.nil
        go_simp
        have B8 := Blk.new w2 #[.slice none 0 0, .slice none 0 0, .int .u64 0] 69
        replace B8 := B8.gr ((Gr.refl _).alloc (.cells #[.int .i64 0, .string ⟨#[]⟩, .bool false, .int .u64 0] 42))
        have B9 := Blk.new (w2.alloc (.cells #[.slice none 0 0, .slice none 0 0, .int .u64 0] 69)) #[.int .i64 0, .string ⟨#[]⟩, .bool false, .int .u64 0] 42
        rw [show ((w2.alloc (.cells #[.slice none 0 0, .slice none 0 0, .int .u64 0] 69))).heap.size = w2.heap.size + 1 by simp] at B9
        go_at_call 31
        refine (HC.out _ (HG2.out.trans h19.1)).mono ?_
        rintro e w9 ⟨rfl, hgN⟩
        replace B8 := B8.gr ((Gr.refl _).drew.trans hgN)
        replace B9 := B9.gr ((Gr.refl _).drew.trans hgN)
        have HW9 := Lib.hid (show Gr w2 w9 from h19.1.trans hgN)
        have HS9 := Lib.hid HW9.out.size
        first | refine hK.out _ _ ?sa20 (fun h20 => ?_) | (go_wp2_with fail; refine hK.out _ _ ?sa20 (fun h20 => ?_))
        case sa20 => ((try dsimp only); (exact QS.out _ (h19.1.trans hgN)))
        clear hK K h19
        try simp only [Act.put, List.setIfInBounds_toArray, List.set_cons_zero, List.set_cons_succ]
        refine wpAnyH_ready (rs := [7]) (by kernel_rfl) (by simp) ?_
        refine AllReadyH.cons (o := { dst := none, op := Go.Op.store 69 (Go.Operand.tmp 8) (Go.Operand.tmp 13), type := 0, pos := "locks.go:44", after := #[⟨5, .data⟩, ⟨1, .data⟩, ⟨1, .chain⟩, ⟨0, .phase⟩, ⟨1, .phase⟩, ⟨2, .textOnly .lateStores⟩, ⟨3, .textOnly .lateStores⟩, ⟨4, .textOnly .lateStores⟩, ⟨5, .phase⟩, ⟨6, .phase⟩], guard := none }) rfl (fun K hK => ?_) AllReadyH.nil
        go_simp
        have N8 : w2.heap.size ≤ w2.heap.size := by have := HS9.out; omega
        have N9 : w2.heap.size ≤ w2.heap.size + 1 := by have := HS9.out; omega
        have NE : w2.heap.size + 1 ≠ w2.heap.size := fun e => by rw [e] at B9; have e2 := (show _ = _ from B9).symm.trans B8; simp at e2
        obtain ⟨k8, hk8, _, hst8, hgr8, hB8⟩ := blk_store (P := Tryz.prog) B8 [.slice a1 n1 k1, .slice a2 n2 k2, .int .u64 lt] rfl (by intro u hu; simp only [List.mem_cons, List.not_mem_nil, or_false] at hu; rcases hu with rfl | rfl | rfl <;> rfl)
        obtain rfl : m8 = k8 := by rw [HM8.out]; exact hk8
        have B9b := B9.put_other hgr8 NE
        have HG8 := gr_put h20.1 hgr8 N8
        clear hk8
        first | refine hK.out _ _ ?sa21 (fun h21 => ?_) | (go_wp2_with fail; refine hK.out _ _ ?sa21 (fun h21 => ?_))
        case sa21 => ((try dsimp only); (exact QS.out _ HG8))
        clear hK K h20
        try simp only [Act.put, List.setIfInBounds_toArray, List.set_cons_zero, List.set_cons_succ]
        refine wpAnyH_ready (rs := [8]) (by kernel_rfl) (by simp) ?_
        refine AllReadyH.cons (o := { dst := none, op := Go.Op.store 42 (Go.Operand.tmp 9) (Go.Operand.tmp 16), type := 0, pos := "locks.go:44", after := #[⟨6, .data⟩, ⟨4, .data⟩, ⟨7, .chain⟩, ⟨0, .phase⟩, ⟨1, .phase⟩, ⟨2, .phase⟩, ⟨3, .phase⟩, ⟨4, .phase⟩, ⟨5, .phase⟩, ⟨6, .phase⟩, ⟨7, .phase⟩], guard := none }) rfl (fun K hK => ?_) AllReadyH.nil
        go_simp
        obtain ⟨k9, hk9, _, hst9, hgr9, hB9⟩ := blk_store (P := Tryz.prog) B9b [.int .i64 s, .string t, .bool false, .int .u64 0] rfl (by intro u hu; simp only [List.mem_cons, List.not_mem_nil, or_false] at hu; rcases hu with rfl | rfl | rfl | rfl <;> rfl)
        obtain rfl : m9 = k9 := by rw [HM9.out]; exact hk9
        have HG9 := gr_put h21.1 hgr9 N9
        have hB8b := hB8.put_other hgr9 (Ne.symm NE)
        clear hk9
        try simp only [hst9]
        try go_simp
        first | refine hK.out _ _ ?sa22 (fun h22 => ?_) | (go_wp2_with fail; refine hK.out _ _ ?sa22 (fun h22 => ?_))
        case sa22 => ((try dsimp only); (exact QS.out _ HG9))
        clear hK K h21
        try simp only [Act.put, List.setIfInBounds_toArray, List.set_cons_zero, List.set_cons_succ]
        refine wpAnyH_done (by kernel_rfl) ?_ _
        have FIN := And.intro hB8b (And.intro hB9 (And.intro h22.1 NE))
        generalize ((w9.setCells (w2.heap.size) 0 m8).setCells (w2.heap.size + 1) 0 m9) = W9 at FIN ⊢
        generalize w2.heap.size + 1 = P9 at FIN ⊢
        generalize w2.heap.size = P8 at FIN ⊢
        exact HL P8 P9 W9 FIN
    · skip
      go_simp
      skip
      first | refine hK.out _ _ ?sa23 (fun h23 => ?_) | (go_wp2_with fail; refine hK.out _ _ ?sa23 (fun h23 => ?_))
      case sa23 => ((try dsimp only); (exact QS.out _ (h0.1.alloc _)))
      clear hK K h0
      try simp only [Act.put, List.setIfInBounds_toArray, List.set_cons_zero, List.set_cons_succ]
      refine wpAnyH_ready (rs := [1, 5]) (by kernel_rfl) (by simp) ?_
      refine AllReadyH.cons (o := { dst := some 13, op := Go.Op.call { callee := Go.Callee.value (Go.Operand.func 31), args := #[Go.Operand.tmp 12], argTypes := #[25] }, type := 69, pos := "locks.go:44", after := #[⟨0, .data⟩], guard := none }) rfl (fun K hK => ?_) (AllReadyH.cons (o := { dst := some 8, op := Go.Op.alloc 69, type := 0, pos := "locks.go:44", after := #[], guard := none }) rfl (fun K hK => ?_) AllReadyH.nil)
      · skip
        go_simp
        have B9 := Blk.new w2 #[.int .i64 0, .string ⟨#[]⟩, .bool false, .int .u64 0] 42
        go_at_call 31
        refine (HC.out _ (HG2.out.trans h23.1)).mono ?_
        rintro e w9 ⟨rfl, hgN⟩
        replace B9 := B9.gr ((Gr.refl _).drew.trans hgN)
        have HW9 := Lib.hid (show Gr w2 w9 from h23.1.trans hgN)
        have HS9 := Lib.hid HW9.out.size
        first | refine hK.out _ _ ?sa24 (fun h24 => ?_) | (go_wp2_with fail; refine hK.out _ _ ?sa24 (fun h24 => ?_))
        case sa24 => ((try dsimp only); (exact QS.out _ (h23.1.trans hgN)))
        clear hK K h23
        try simp only [Act.put, List.setIfInBounds_toArray, List.set_cons_zero, List.set_cons_succ]
        refine wpAnyH_ready (rs := [5]) (by kernel_rfl) (by simp) ?_
        refine AllReadyH.cons (o := { dst := some 8, op := Go.Op.alloc 69, type := 0, pos := "locks.go:44", after := #[], guard := none }) rfl (fun K hK => ?_) AllReadyH.nil
        go_simp
        have B8 := Blk.new w9 #[.slice none 0 0, .slice none 0 0, .int .u64 0] 69
        replace B9 := B9.gr ((Gr.refl _).alloc (.cells #[.slice none 0 0, .slice none 0 0, .int .u64 0] 69))
        first | refine hK.out _ _ ?sa25 (fun h25 => ?_) | (go_wp2_with fail; refine hK.out _ _ ?sa25 (fun h25 => ?_))
        case sa25 => ((try dsimp only); (exact QS.out _ (h24.1.alloc _)))
        clear hK K h24
        try simp only [Act.put, List.setIfInBounds_toArray, List.set_cons_zero, List.set_cons_succ]
        refine wpAnyH_ready (rs := [7]) (by kernel_rfl) (by simp) ?_
        refine AllReadyH.cons (o := { dst := none, op := Go.Op.store 69 (Go.Operand.tmp 8) (Go.Operand.tmp 13), type := 0, pos := "locks.go:44", after := #[⟨5, .data⟩, ⟨1, .data⟩, ⟨1, .chain⟩, ⟨0, .phase⟩, ⟨1, .phase⟩, ⟨2, .textOnly .lateStores⟩, ⟨3, .textOnly .lateStores⟩, ⟨4, .textOnly .lateStores⟩, ⟨5, .phase⟩, ⟨6, .phase⟩], guard := none }) rfl (fun K hK => ?_) AllReadyH.nil
        go_simp
        have N8 : w2.heap.size ≤ w9.heap.size := by have := HS9.out; omega
        have N9 : w2.heap.size ≤ w2.heap.size := by have := HS9.out; omega
        have NE : w2.heap.size ≠ w9.heap.size := fun e => by rw [e] at B9; have e2 := (show _ = _ from B9).symm.trans B8; simp at e2
        obtain ⟨k8, hk8, _, hst8, hgr8, hB8⟩ := blk_store (P := Tryz.prog) B8 [.slice a1 n1 k1, .slice a2 n2 k2, .int .u64 lt] rfl (by intro u hu; simp only [List.mem_cons, List.not_mem_nil, or_false] at hu; rcases hu with rfl | rfl | rfl <;> rfl)
        obtain rfl : m8 = k8 := by rw [HM8.out]; exact hk8
        have B9b := B9.put_other hgr8 NE
        have HG8 := gr_put h25.1 hgr8 N8
        clear hk8
        first | refine hK.out _ _ ?sa26 (fun h26 => ?_) | (go_wp2_with fail; refine hK.out _ _ ?sa26 (fun h26 => ?_))
        case sa26 => ((try dsimp only); (exact QS.out _ HG8))
        clear hK K h25
        try simp only [Act.put, List.setIfInBounds_toArray, List.set_cons_zero, List.set_cons_succ]
        refine wpAnyH_ready (rs := [8]) (by kernel_rfl) (by simp) ?_
        refine AllReadyH.cons (o := { dst := none, op := Go.Op.store 42 (Go.Operand.tmp 9) (Go.Operand.tmp 16), type := 0, pos := "locks.go:44", after := #[⟨6, .data⟩, ⟨4, .data⟩, ⟨7, .chain⟩, ⟨0, .phase⟩, ⟨1, .phase⟩, ⟨2, .phase⟩, ⟨3, .phase⟩, ⟨4, .phase⟩, ⟨5, .phase⟩, ⟨6, .phase⟩, ⟨7, .phase⟩], guard := none }) rfl (fun K hK => ?_) AllReadyH.nil
        go_simp
        obtain ⟨k9, hk9, _, hst9, hgr9, hB9⟩ := blk_store (P := Tryz.prog) B9b [.int .i64 s, .string t, .bool false, .int .u64 0] rfl (by intro u hu; simp only [List.mem_cons, List.not_mem_nil, or_false] at hu; rcases hu with rfl | rfl | rfl | rfl <;> rfl)
        obtain rfl : m9 = k9 := by rw [HM9.out]; exact hk9
        have HG9 := gr_put h26.1 hgr9 N9
        have hB8b := hB8.put_other hgr9 (Ne.symm NE)
        clear hk9
        try simp only [hst9]
        try go_simp
        first | refine hK.out _ _ ?sa27 (fun h27 => ?_) | (go_wp2_with fail; refine hK.out _ _ ?sa27 (fun h27 => ?_))
        case sa27 => ((try dsimp only); (exact QS.out _ HG9))
        clear hK K h26
        try simp only [Act.put, List.setIfInBounds_toArray, List.set_cons_zero, List.set_cons_succ]
        refine wpAnyH_done (by kernel_rfl) ?_ _
        have FIN := And.intro hB8b (And.intro hB9 (And.intro h27.1 NE))
        generalize (((w9.alloc (.cells #[.slice none 0 0, .slice none 0 0, .int .u64 0] 69)).setCells (w9.heap.size) 0 m8).setCells (w2.heap.size) 0 m9) = W9 at FIN ⊢
        generalize w9.heap.size = P8 at FIN ⊢
        generalize w2.heap.size = P9 at FIN ⊢
        exact HL P8 P9 W9 FIN
      · skip
        go_simp
        skip
        first | refine hK.out _ _ ?sa28 (fun h28 => ?_) | (go_wp2_with fail; refine hK.out _ _ ?sa28 (fun h28 => ?_))
        case sa28 => ((try dsimp only); (exact QS.out _ (h23.1.alloc _)))
        clear hK K h23
        try simp only [Act.put, List.setIfInBounds_toArray, List.set_cons_zero, List.set_cons_succ]
        refine wpAnyH_ready (rs := [1]) (by kernel_rfl) (by simp) ?_
        refine AllReadyH.cons (o := { dst := some 13, op := Go.Op.call { callee := Go.Callee.value (Go.Operand.func 31), args := #[Go.Operand.tmp 12], argTypes := #[25] }, type := 69, pos := "locks.go:44", after := #[⟨0, .data⟩], guard := none }) rfl (fun K hK => ?_) AllReadyH.nil
        go_simp
        have B9 := Blk.new w2 #[.int .i64 0, .string ⟨#[]⟩, .bool false, .int .u64 0] 42
        replace B9 := B9.gr ((Gr.refl _).alloc (.cells #[.slice none 0 0, .slice none 0 0, .int .u64 0] 69))
        have B8 := Blk.new (w2.alloc (.cells #[.int .i64 0, .string ⟨#[]⟩, .bool false, .int .u64 0] 42)) #[.slice none 0 0, .slice none 0 0, .int .u64 0] 69
        rw [show ((w2.alloc (.cells #[.int .i64 0, .string ⟨#[]⟩, .bool false, .int .u64 0] 42))).heap.size = w2.heap.size + 1 by simp] at B8
        go_at_call 31
        refine (HC.out _ (HG2.out.trans h28.1)).mono ?_
        rintro e w9 ⟨rfl, hgN⟩
        replace B8 := B8.gr ((Gr.refl _).drew.trans hgN)
        replace B9 := B9.gr ((Gr.refl _).drew.trans hgN)
        have HW9 := Lib.hid (show Gr w2 w9 from h28.1.trans hgN)
        have HS9 := Lib.hid HW9.out.size
        first | refine hK.out _ _ ?sa29 (fun h29 => ?_) | (go_wp2_with fail; refine hK.out _ _ ?sa29 (fun h29 => ?_))
        case sa29 => ((try dsimp only); (exact QS.out _ (h28.1.trans hgN)))
        clear hK K h28
        try simp only [Act.put, List.setIfInBounds_toArray, List.set_cons_zero, List.set_cons_succ]
        refine wpAnyH_ready (rs := [7]) (by kernel_rfl) (by simp) ?_
        refine AllReadyH.cons (o := { dst := none, op := Go.Op.store 69 (Go.Operand.tmp 8) (Go.Operand.tmp 13), type := 0, pos := "locks.go:44", after := #[⟨5, .data⟩, ⟨1, .data⟩, ⟨1, .chain⟩, ⟨0, .phase⟩, ⟨1, .phase⟩, ⟨2, .textOnly .lateStores⟩, ⟨3, .textOnly .lateStores⟩, ⟨4, .textOnly .lateStores⟩, ⟨5, .phase⟩, ⟨6, .phase⟩], guard := none }) rfl (fun K hK => ?_) AllReadyH.nil
        go_simp
        have N8 : w2.heap.size ≤ w2.heap.size + 1 := by have := HS9.out; omega
        have N9 : w2.heap.size ≤ w2.heap.size := by have := HS9.out; omega
        have NE : w2.heap.size ≠ w2.heap.size + 1 := fun e => by rw [e] at B9; have e2 := (show _ = _ from B9).symm.trans B8; simp at e2
        obtain ⟨k8, hk8, _, hst8, hgr8, hB8⟩ := blk_store (P := Tryz.prog) B8 [.slice a1 n1 k1, .slice a2 n2 k2, .int .u64 lt] rfl (by intro u hu; simp only [List.mem_cons, List.not_mem_nil, or_false] at hu; rcases hu with rfl | rfl | rfl <;> rfl)
        obtain rfl : m8 = k8 := by rw [HM8.out]; exact hk8
        have B9b := B9.put_other hgr8 NE
        have HG8 := gr_put h29.1 hgr8 N8
        clear hk8
        first | refine hK.out _ _ ?sa30 (fun h30 => ?_) | (go_wp2_with fail; refine hK.out _ _ ?sa30 (fun h30 => ?_))
        case sa30 => ((try dsimp only); (exact QS.out _ HG8))
        clear hK K h29
        try simp only [Act.put, List.setIfInBounds_toArray, List.set_cons_zero, List.set_cons_succ]
        refine wpAnyH_ready (rs := [8]) (by kernel_rfl) (by simp) ?_
        refine AllReadyH.cons (o := { dst := none, op := Go.Op.store 42 (Go.Operand.tmp 9) (Go.Operand.tmp 16), type := 0, pos := "locks.go:44", after := #[⟨6, .data⟩, ⟨4, .data⟩, ⟨7, .chain⟩, ⟨0, .phase⟩, ⟨1, .phase⟩, ⟨2, .phase⟩, ⟨3, .phase⟩, ⟨4, .phase⟩, ⟨5, .phase⟩, ⟨6, .phase⟩, ⟨7, .phase⟩], guard := none }) rfl (fun K hK => ?_) AllReadyH.nil
        go_simp
        obtain ⟨k9, hk9, _, hst9, hgr9, hB9⟩ := blk_store (P := Tryz.prog) B9b [.int .i64 s, .string t, .bool false, .int .u64 0] rfl (by intro u hu; simp only [List.mem_cons, List.not_mem_nil, or_false] at hu; rcases hu with rfl | rfl | rfl | rfl <;> rfl)
        obtain rfl : m9 = k9 := by rw [HM9.out]; exact hk9
        have HG9 := gr_put h30.1 hgr9 N9
        have hB8b := hB8.put_other hgr9 (Ne.symm NE)
        clear hk9
        try simp only [hst9]
        try go_simp
        first | refine hK.out _ _ ?sa31 (fun h31 => ?_) | (go_wp2_with fail; refine hK.out _ _ ?sa31 (fun h31 => ?_))
        case sa31 => ((try dsimp only); (exact QS.out _ HG9))
        clear hK K h30
        try simp only [Act.put, List.setIfInBounds_toArray, List.set_cons_zero, List.set_cons_succ]
        refine wpAnyH_done (by kernel_rfl) ?_ _
        have FIN := And.intro hB8b (And.intro hB9 (And.intro h31.1 NE))
        generalize ((w9.setCells (w2.heap.size + 1) 0 m8).setCells (w2.heap.size) 0 m9) = W9 at FIN ⊢
        generalize w2.heap.size + 1 = P8 at FIN ⊢
        generalize w2.heap.size = P9 at FIN ⊢
        exact HL P8 P9 W9 FIN
  case rest =>
    rintro p8 p9 wx ⟨h8, h9, hgx, hne⟩
    have HGX := Lib.hid (HG2.out.trans hgx)
    have HR2 := Lib.hid (HR.out.gr hgx)
    have H8 := Lib.hid h8
    have H9 := Lib.hid h9
    have he : ∀ args w, (callFunc 33 args).run Tryz.prog w = .ok (.enter 33 args) w := fun _ _ => by kernel_rfl
    have HI1 := Lib.hid (idxLokB_any (f := 33) (rv := .agg #[.int .i64 s, .string t, .bool false, .int .u64 0]) (sameB (askL s t)) B.H wx (ownsRow_gr HGX.out H.out.r1) (by omega) he (fun x _ w0 _ => lsame_any (askL s t) x w0))
    have HI2 := Lib.hid (fun w' (hg : Gr wx w') => idxLokB_any (f := 33) (rv := .agg #[.int .i64 s, .string t, .bool false, .int .u64 0]) (sameB (askL s t)) B.W w' (ownsRow_gr (HGX.out.trans hg) H.out.r2) (by omega) he (fun x _ w0 _ => lsame_any (askL s t) x w0))
    have HFB : Hid (findB B s t = if 0 ≤ fstF (sameB (askL s t)) B.H 0 then (B.H.getD (fstF (sameB (askL s t)) B.H 0).toNat zLok, 0) else if 0 ≤ fstF (sameB (askL s t)) B.W 0 then (B.W.getD (fstF (sameB (askL s t)) B.W 0).toNat zLok, fstF (sameB (askL s t)) B.W 0 + 1) else (zLok, -1)) := Lib.hid rfl
    have s1 := fstF_spec (sameB (askL s t)) B.H 0
    have s2 := fstF_spec (sameB (askL s t)) B.W 0
    have HS1 : Hid (fstF (sameB (askL s t)) B.H 0 = -1 ∨ ∃ i, ∃ h : i < B.H.length, fstF (sameB (askL s t)) B.H 0 = (i : Int)) := Lib.hid (s1.imp (fun h => h.1) (fun ⟨i, hi, h1, _⟩ => ⟨i, hi, h1⟩))
    have HS2 : Hid (fstF (sameB (askL s t)) B.W 0 = -1 ∨ ∃ i, ∃ h : i < B.W.length, fstF (sameB (askL s t)) B.W 0 = (i : Int)) := Lib.hid (s2.imp (fun h => h.1) (fun ⟨i, hi, h1, _⟩ => ⟨i, hi, h1⟩))
    clear s1 s2 he h8 h9 hgx QS HC
    generalize fstF (sameB (askL s t)) B.H 0 = i1 at *
    generalize fstF (sameB (askL s t)) B.W 0 = i2 at *
    have c0 := H8.out.cell (i := 0) rfl
    have x0 := H9.out.cell (i := 0) rfl
    have x1 := H9.out.cell (i := 1) rfl
    have x2 := H9.out.cell (i := 2) rfl
    have x3 := H9.out.cell (i := 3) rfl
    rcases HS1.out with hi1 | ⟨j, hj, rfl⟩
    · have hi1' : i1 < 0 := by omega
      have HFB : Hid (findB B s t = if 0 ≤ i2 then (B.W.getD i2.toNat zLok, i2 + 1) else (zLok, -1)) := Lib.hid (by rw [HFB.out, if_neg (by omega)])
      clear hi1 HS1
      go_wp2_with fail
      refine HI1.out.mono ?_
      rintro e w3 ⟨rfl, hg3⟩
      have H8 := Lib.hid (H8.out.gr hg3)
      have H9 := Lib.hid (H9.out.gr hg3)
      have HR3 := Lib.hid (HR2.out.gr hg3)
      have HG3 := Lib.hid (HGX.out.trans hg3)
      have HI2 := Lib.hid (HI2.out w3 hg3)
      clear c0 x0 x1 x2 x3 hg3 HI1 HR2 HGX
      have c1 := H8.out.cell (i := 1) rfl
      have x0 := H9.out.cell (i := 0) rfl
      have x1 := H9.out.cell (i := 1) rfl
      have x2 := H9.out.cell (i := 2) rfl
      have x3 := H9.out.cell (i := 3) rfl
      rcases HS2.out with hi2 | ⟨j, hj, rfl⟩
      · have hi2' : i2 < 0 := by omega
        have hfb := Lib.hid (show findB B s t = (zLok, -1) by rw [HFB.out, if_neg (by omega)])
        clear hi2 HS2 HFB
        go_wp2_with fail
        refine HI2.out.mono ?_
        rintro e w4 ⟨rfl, hg4⟩
        have H8 := Lib.hid (H8.out.gr hg4)
        have HR4 := Lib.hid (HR3.out.gr hg4)
        have HG4 := Lib.hid (HG3.out.trans hg4)
        clear c1 x0 x1 x2 x3 hg4 HI2 HR3
        have r0 := HR4.out.cell (i := 0) rfl
        have r1 := HR4.out.cell (i := 1) rfl
        have r2 := HR4.out.cell (i := 2) rfl
        have r3 := HR4.out.cell (i := 3) rfl
        have f0 := HR4.out.free 0
        have f1 := HR4.out.free 1
        have f2 := HR4.out.free 2
        have f3 := HR4.out.free 3
        go_wp2
        refine bodyPost_ret (v := .tuple #[.agg #[.int .i64 0, .string ⟨#[]⟩, .bool false, .int .u64 0], .int .i64 (-1)]) (by simp [results, Tryz.results13, go_sem, r0, r1, r2, r3, f0]; try rfl) rfl ?_
        exact ⟨by rw [hfb.out]; rfl, ((((HG4.out.setCell (p := ⟨_, 0, none⟩) (Nat.le_succ _) _).setCell (p := ⟨_, 1, none⟩) (Nat.le_succ _) _).setCell (p := ⟨_, 2, none⟩) (Nat.le_succ _) _).setCell (p := ⟨_, 3, none⟩) (Nat.le_succ _) _)⟩
      · have hfb := Lib.hid (show findB B s t = (B.W[j], (j : Int) + 1) by rw [HFB.out, if_pos (by omega), show (j : Int).toNat = j by omega, List.getD_eq_getElem?_getD, List.getElem?_eq_getElem hj]; rfl)
        clear HS2 HFB
        obtain ⟨g, cap, hv, d0, d1, d2, d3⟩ := lokrow_at H.out.r2 j hj
        simp only [Value.slice.injEq] at hv
        obtain ⟨rfl, hnn, rfl⟩ := hv
        have hj2 : (j : Int) < (n2 : Int) := by omega
        clear hnn
        generalize B.W[j] = y at *
        go_wp2_with fail
        refine HI2.out.mono ?_
        rintro e w4 ⟨rfl, hg4⟩
        have H8 := Lib.hid (H8.out.gr hg4)
        have HR4 := Lib.hid (HR3.out.gr hg4)
        have HG4 := Lib.hid (HG3.out.trans hg4)
        clear c1 x0 x1 x2 x3 hg4 HI2 HR3
        have d0 := HG4.out.cell d0
        have d1 := HG4.out.cell d1
        have d2 := HG4.out.cell d2
        have d3 := HG4.out.cell d3
        have c1 := H8.out.cell (i := 1) rfl
        have r0 := HR4.out.cell (i := 0) rfl
        have r1 := HR4.out.cell (i := 1) rfl
        have r2 := HR4.out.cell (i := 2) rfl
        have r3 := HR4.out.cell (i := 3) rfl
        have f0 := HR4.out.free 0
        have f1 := HR4.out.free 1
        have f2 := HR4.out.free 2
        have f3 := HR4.out.free 3
        go_wp2
        refine bodyPost_ret (v := .tuple #[.agg #[.int .i64 y.ses, .string y.txt, .bool y.ex, .int .u64 y.tok], .int .i64 ((j : Int) + 1)]) (by simp [results, Tryz.results13, go_sem, r0, r1, r2, r3, f0]; try rfl) rfl ?_
        exact ⟨by rw [hfb.out], ((((HG4.out.setCell (p := ⟨_, 0, none⟩) (Nat.le_succ _) _).setCell (p := ⟨_, 1, none⟩) (Nat.le_succ _) _).setCell (p := ⟨_, 2, none⟩) (Nat.le_succ _) _).setCell (p := ⟨_, 3, none⟩) (Nat.le_succ _) _)⟩
    · have hfb := Lib.hid (show findB B s t = (B.H[j], 0) by rw [HFB.out, if_pos (by omega), show (j : Int).toNat = j by omega, List.getD_eq_getElem?_getD, List.getElem?_eq_getElem hj]; rfl)
      clear HS1 HS2 HFB
      obtain ⟨g, cap, hv, d0, d1, d2, d3⟩ := lokrow_at H.out.r1 j hj
      simp only [Value.slice.injEq] at hv
      obtain ⟨rfl, hnn, rfl⟩ := hv
      have hj2 : (j : Int) < (n1 : Int) := by omega
      clear hnn
      generalize B.H[j] = y at *
      go_wp2_with fail
      refine HI1.out.mono ?_
      rintro e w3 ⟨rfl, hg3⟩
      have H8 := Lib.hid (H8.out.gr hg3)
      have H9 := Lib.hid (H9.out.gr hg3)
      have HR3 := Lib.hid (HR2.out.gr hg3)
      have HG3 := Lib.hid (HGX.out.trans hg3)
      have HI2 := Lib.hid (HI2.out w3 hg3)
      clear c0 x0 x1 x2 x3 hg3 HI1 HR2 HGX
      have d0 := HG3.out.cell d0
      have d1 := HG3.out.cell d1
      have d2 := HG3.out.cell d2
      have d3 := HG3.out.cell d3
      have c0 := H8.out.cell (i := 0) rfl
      have r0 := HR3.out.cell (i := 0) rfl
      have r1 := HR3.out.cell (i := 1) rfl
      have r2 := HR3.out.cell (i := 2) rfl
      have r3 := HR3.out.cell (i := 3) rfl
      have f0 := HR3.out.free 0
      have f1 := HR3.out.free 1
      have f2 := HR3.out.free 2
      have f3 := HR3.out.free 3
      go_wp2
      refine bodyPost_ret (v := .tuple #[.agg #[.int .i64 y.ses, .string y.txt, .bool y.ex, .int .u64 y.tok], .int .i64 0]) (by simp [results, Tryz.results13, go_sem, r0, r1, r2, r3, f0]; try rfl) rfl ?_
      exact ⟨by rw [hfb.out], ((((HG3.out.setCell (p := ⟨_, 0, none⟩) (Nat.le_succ _) _).setCell (p := ⟨_, 1, none⟩) (Nat.le_succ _) _).setCell (p := ⟨_, 2, none⟩) (Nat.le_succ _) _).setCell (p := ⟨_, 3, none⟩) (Nat.le_succ _) _)⟩
end Go.Proofs.YtmgpnpmdmelnkaaGreatDoor
