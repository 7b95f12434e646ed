import Derived.Test.YtmgpnpmdmelnkaaGreatDoorF22e
import Derived.WalkKit
import Derived.ProofKit
import Derived.LoopTactic
import Derived.Outline
import Derived.WalkSpells
import Derived.WalkLawsBesides
import Derived.Lib.Hide
import Derived.Deep.LoopGhost
import Derived.Deep.QuietTactic
import Derived.BigQuiet
import Derived.ShutString
import Derived.Deep.RegionWith
import Derived.Deep.RegionHeld3
namespace Go.Proofs.YtmgpnpmdmelnkaaGreatDoor
open Go.ChangeShapes Go.WideShapes Go.ChangeAt Go.RowKit
set_option linter.unusedVariables false
set_option linter.unusedSimpArgs false
/-- Of the places of a list: those ahead of i are less, the others are not. -/
def Parted {α : Type} (cf : α → Int) (L : List α) (i j : Nat) : Prop := (∀ p (h : p < L.length), p < i → cf L[p] < 0) ∧ ∀ p (h : p < L.length), j ≤ p → 0 ≤ cf L[p]
theorem parted_up {α : Type} {cf : α → Int} {L : List α} (hm : ∀ p q (hp : p < L.length) (hq : q < L.length), p ≤ q → cf L[q] < 0 → cf L[p] < 0) {i j m : Nat} (h : Parted cf L i j) (hml : m < L.length) (hn : cf L[m] < 0) : Parted cf L (m + 1) j :=
  ⟨fun p hp hpm => hm p m hp hml (by omega) hn, h.2⟩
theorem parted_down {α : Type} {cf : α → Int} {L : List α} (hm : ∀ p q (hp : p < L.length) (hq : q < L.length), p ≤ q → cf L[q] < 0 → cf L[p] < 0) {i j m : Nat} (h : Parted cf L i j) (hml : m < L.length) (hn : ¬ cf L[m] < 0) : Parted cf L i m :=
  ⟨h.1, fun p hp hpm => by
    by_cases e : cf L[p] < 0
    · exact absurd (hm m p hml hp hpm e) hn
    · omega⟩
set_option maxRecDepth 100000 in
set_option maxHeartbeats 2000000 in
theorem bsLok_any {base : Nat} {v : Value} (x : Lok) (L : List Lok) (w : World) (h : w.ownsRow base 42 4 v L.length (rcells encLok L)) (hl : L.length ≤ 1000) (hM : ML w) (hpx : IsPath x.txt) (hpL : ∀ y ∈ L, IsPath y.txt)
    (hm : ∀ p q (hp : p < L.length) (hq : q < L.length), p ≤ q → cmpK L[q] x < 0 → cmpK L[p] x < 0) :
    Calls Tryz.prog 67 #[v, .agg #[.int .i64 x.ses, .string x.txt, .bool x.ex, .int .u64 x.tok], .func (.func 55) #[] #[]] w fun e w' => ∃ (i : Nat) (fd : Bool), e = .returned (.tuple #[.int .i64 i, .bool fd]) ∧ i ≤ L.length ∧ Parted (fun y => cmpK y x) L i i ∧ (fd = true ↔ ∃ h : i < L.length, cmpK L[i] x = 0) ∧ Gr w w' := by
  obtain ⟨a, c, rfl, _⟩ := ownsRow_slice h
  have HS := Lib.hid fun k hk => lokrow_at h k hk
  have HM := Lib.hid hm
  have HB := Lib.hid (Blk.new w #[.int .i64 x.ses, .string x.txt, .bool x.ex, .int .u64 x.tok] 42)
  have HG := Lib.hid ((Gr.refl w).alloc (.cells #[.int .i64 x.ses, .string x.txt, .bool x.ex, .int .u64 x.tok] 42))
  have HC := Lib.hid (fun y w => lcmp_any y x w)
  have HML := Lib.hid hM
  have HPX := Lib.hid hpx
  have HPL := Lib.hid (fun k (hk : k < L.length) => hpL _ (List.getElem_mem hk))
  have HCF : Hid (∃ cf : Lok → Int, cf = fun y => cmpK y x) := Lib.hid ⟨_, rfl⟩
  clear hm h hM hpx hpL
  go_enter Tryz.func67, Tryz.ntmps67
  go_wp2_with fail
  generalize hw2 : w.alloc (.cells #[.int .i64 x.ses, .string x.txt, .bool x.ex, .int .u64 x.tok] 42) = w2 at *
  clear hw2
  go_loopw [9, 10] (fun u1 u2 wr => ∃ i j : Nat, i ≤ j ∧ j ≤ L.length ∧ u1 = .int .i64 i ∧ u2 = .int .i64 j ∧ Hid (Parted (fun y => cmpK y x) L i j) ∧ Hid (Gr w2 wr)) (fun u1 u2 _ => (intOf u2).toNat - (intOf u1).toNat)
  case atStart => exact ⟨0, L.length, by omega, by omega, rfl, rfl, Lib.hid ⟨fun p _ h => by omega, fun p h h2 => by omega⟩, Lib.hid (Gr.refl _)⟩
  case round =>
    obtain ⟨i, j, hij, hjl, rfl, rfl, hP, hG⟩ := hrel
    have b0 := (HB.out.gr hG.out).cell (i := 0) rfl
    have b1 := (HB.out.gr hG.out).cell (i := 1) rfl
    have b2 := (HB.out.gr hG.out).cell (i := 2) rfl
    have b3 := (HB.out.gr hG.out).cell (i := 3) rfl
    have HMR := Lib.hid (HML.out.gr (HG.out.trans hG.out))
    by_cases hlt : i < j
    · have hml : (i + j) / 2 < L.length := by omega
      obtain ⟨g, cap, hv, hc1, hc2, hc3, hc4⟩ := HS.out ((i + j) / 2) hml
      simp only [Value.slice.injEq, true_and] at hv
      obtain ⟨rfl, rfl⟩ := hv
      have hd1 := (HG.out.trans hG.out).cell hc1
      have hd2 := (HG.out.trans hG.out).cell hc2
      have hd3 := (HG.out.trans hG.out).cell hc3
      have hd4 := (HG.out.trans hG.out).cell hc4
      clear hc1 hc2 hc3 hc4
      have hmi : (((i + j) / 2 : Nat) : Int) = ((i : Int) + (j : Int)) / 2 := by omega
      have hmn : 0 ≤ ((i : Int) + (j : Int)) / 2 := by omega
      have htn : (((i : Int) + (j : Int)) / 2).toNat = (i + j) / 2 := by omega
      have hml2 : ((i : Int) + (j : Int)) / 2 < (L.length : Int) := by omega
      by_cases hneg : cmpK L[(i + j) / 2] x < 0
      · have HQ2 := Lib.hid (parted_up (cf := fun y => cmpK y x) HM.out hP.out hml hneg)
        have hpy := HPL.out _ hml
        generalize L[(i + j) / 2] = y at *
        have FC := Lib.hid (fun w hM => HC.out y w hpy HPX.out hM)
        clear hpy
        obtain ⟨ys, yt, ye, yk⟩ := y
        simp only at hd1 hd2 hd3 hd4 FC
        clear hP
        go_wp2_with fail
        refine wp_region_held_drew (S := (fun w9 => w9.cell? ⟨g, ((i + j) / 2) * 4, none⟩ = some (.int .i64 ys) ∧ w9.cell? ⟨g, ((i + j) / 2) * 4 + 1, none⟩ = some (.string yt) ∧ w9.cell? ⟨g, ((i + j) / 2) * 4 + 2, none⟩ = some (.bool ye) ∧ w9.cell? ⟨g, ((i + j) / 2) * 4 + 3, none⟩ = some (.int .u64 yk) ∧ w9.cell? ⟨w.heap.size, 0, none⟩ = some (.int .i64 x.ses) ∧ w9.cell? ⟨w.heap.size, 1, none⟩ = some (.string x.txt) ∧ w9.cell? ⟨w.heap.size, 2, none⟩ = some (.bool x.ex) ∧ w9.cell? ⟨w.heap.size, 3, none⟩ = some (.int .u64 x.tok))) (by kernel_rfl) ?inva (fun h0 => ?_)
        case inva => ((try dsimp only); (exact ⟨hd1, hd2, hd3, hd4, b0, b1, b2, b3⟩))
        refine wpAnyH_take (i := 0) (oi := { dst := some 24, op := Go.Op.move (Go.Operand.tmp 2), type := 107, pos := "sort.go:160", after := #[], guard := none }) (v := ?va1) rfl (by kernel_rfl) (by kernel_rfl) (by kernel_rfl) (fun _ _ _ h => h) (Or.inl ⟨by rfl, ?ra1⟩) (by assumption) ?_
        case ra1 => (intro w hSw; (try dsimp only at hSw); (go_simp <;> with_reducible rfl))
        try simp only [Act.put, List.setIfInBounds_toArray, List.set_cons_zero, List.set_cons_succ]
        refine wpAnyH_take (i := 1) (oi := { dst := some 25, op := Go.Op.move (Go.Operand.tmp 0), type := 37, pos := "sort.go:160", after := #[], guard := none }) (v := ?va2) rfl (by kernel_rfl) (by kernel_rfl) (by kernel_rfl) (fun _ _ _ h => h) (Or.inl ⟨by rfl, ?ra2⟩) (by assumption) ?_
        case ra2 => (intro w hSw; (try dsimp only at hSw); (go_simp <;> with_reducible rfl))
        try simp only [Act.put, List.setIfInBounds_toArray, List.set_cons_zero, List.set_cons_succ]
        refine wpAnyH_take (i := 2) (oi := { dst := some 26, op := Go.Op.move (Go.Operand.tmp 11), type := 3, pos := "sort.go:160", after := #[], guard := none }) (v := ?va3) rfl (by kernel_rfl) (by kernel_rfl) (by kernel_rfl) (fun _ _ _ h => h) (Or.inl ⟨by rfl, ?ra3⟩) (by assumption) ?_
        case ra3 => (intro w hSw; (try dsimp only at hSw); (go_simp <;> with_reducible rfl))
        try simp only [Act.put, List.setIfInBounds_toArray, List.set_cons_zero, List.set_cons_succ]
        refine wpAnyH_take (i := 3) (oi := { dst := some 27, op := Go.Op.indexAddr 37 (Go.Operand.tmp 25) (Go.Operand.tmp 26), type := 0, pos := "sort.go:160", after := #[⟨1, .data⟩, ⟨2, .data⟩], guard := none }) (v := ?va4) rfl (by kernel_rfl) (by kernel_rfl) (by kernel_rfl) (fun _ _ _ h => h) (Or.inl ⟨by rfl, ?ra4⟩) (by assumption) ?_
        case ra4 => (intro w hSw; (try dsimp only at hSw); (go_simp <;> with_reducible rfl))
        try simp only [Act.put, List.setIfInBounds_toArray, List.set_cons_zero, List.set_cons_succ]
        refine wpAnyH_take (i := 4) (oi := { dst := some 28, op := Go.Op.load 42 (Go.Operand.tmp 27), type := 42, pos := "sort.go:160", after := #[⟨3, .data⟩], guard := none }) (v := ?va5) rfl (by kernel_rfl) (by kernel_rfl) (by kernel_rfl) (fun _ _ _ h => h) (Or.inl ⟨by rfl, ?ra5⟩) (by assumption) ?_
        case ra5 => (intro w hSw; (try dsimp only at hSw); (go_simp <;> with_reducible rfl))
        try simp only [Act.put, List.setIfInBounds_toArray, List.set_cons_zero, List.set_cons_succ]
        refine wpAnyH_take (i := 5) (oi := { dst := some 29, op := Go.Op.load 42 (Go.Operand.tmp 4), type := 42, pos := "sort.go:160", after := #[], guard := none }) (v := ?va6) rfl (by kernel_rfl) (by kernel_rfl) (by kernel_rfl) (fun _ _ _ h => h) (Or.inl ⟨by rfl, ?ra6⟩) (by assumption) ?_
        case ra6 => (intro w hSw; (try dsimp only at hSw); (go_simp <;> with_reducible rfl))
        try simp only [Act.put, List.setIfInBounds_toArray, List.set_cons_zero, List.set_cons_succ]
        refine wpAnyH_ready (rs := [6]) (by kernel_rfl) (by simp) ?_
        refine AllReadyH.cons (o := { dst := some 30, op := Go.Op.call { callee := Go.Callee.value (Go.Operand.tmp 24), args := #[Go.Operand.tmp 28, Go.Operand.tmp 29], argTypes := #[42, 42] }, type := 3, pos := "sort.go:160", after := #[⟨0, .data⟩, ⟨4, .data⟩, ⟨5, .data⟩], guard := none }) rfl (fun K hK => ?_) AllReadyH.nil
        go_simp
        go_at_call 55
        refine (FC.out _ (HMR.out.gr ((Gr.refl _).drew))).mono ?_
        rintro e w9 ⟨rfl, hg9⟩
        have QG := Lib.hid (((hG.out).trans (Gr.refl _).drew).trans hg9)
        first | refine hK.out _ _ ?sa7 (fun h7 => ?_) | (go_wp2_with fail; refine hK.out _ _ ?sa7 (fun h7 => ?_))
        case sa7 => ((try dsimp only); (exact ⟨hg9.cell h0.1, hg9.cell h0.2.1, hg9.cell h0.2.2.1, hg9.cell h0.2.2.2.1, hg9.cell h0.2.2.2.2.1, hg9.cell h0.2.2.2.2.2.1, hg9.cell h0.2.2.2.2.2.2.1, hg9.cell h0.2.2.2.2.2.2.2⟩))
        clear hK K h0
        try simp only [Act.put, List.setIfInBounds_toArray, List.set_cons_zero, List.set_cons_succ]
        refine wpAnyH_take (i := 7) (oi := { dst := some 31, op := Go.Op.binOp Go.BinOp.lss 3 (Go.Operand.tmp 30) (Go.Operand.const (Go.Value.int Go.IntKind.i64 0)) 3, type := 4, pos := "sort.go:160", after := #[⟨6, .data⟩], guard := none }) (v := ?va8) rfl (by kernel_rfl) (by kernel_rfl) (by kernel_rfl) (fun _ _ _ h => h) (Or.inl ⟨by rfl, ?ra8⟩) (by assumption) ?_
        case ra8 => (intro w hSw; (try dsimp only at hSw); (go_simp <;> with_reducible rfl))
        try simp only [Act.put, List.setIfInBounds_toArray, List.set_cons_zero, List.set_cons_succ]
        refine wpAnyH_done (by kernel_rfl) ?_ _
        clear h7 hd1 hd2 hd3 hd4 b0 b1 b2 b3
        go_wp2
        go_roundw
        case rel => exact ⟨(i + j) / 2 + 1, j, by omega, hjl, by rw [← hmi]; go_num, rfl, HQ2, QG⟩
        case measure => simp [intOf]; omega
      · have HQ2 := Lib.hid (parted_down (cf := fun y => cmpK y x) HM.out hP.out hml hneg)
        have hpy := HPL.out _ hml
        generalize L[(i + j) / 2] = y at *
        have FC := Lib.hid (fun w hM => HC.out y w hpy HPX.out hM)
        clear hpy
        obtain ⟨ys, yt, ye, yk⟩ := y
        simp only at hd1 hd2 hd3 hd4 FC
        clear hP
        go_wp2_with fail
        refine wp_region_held_drew (S := (fun w9 => w9.cell? ⟨g, ((i + j) / 2) * 4, none⟩ = some (.int .i64 ys) ∧ w9.cell? ⟨g, ((i + j) / 2) * 4 + 1, none⟩ = some (.string yt) ∧ w9.cell? ⟨g, ((i + j) / 2) * 4 + 2, none⟩ = some (.bool ye) ∧ w9.cell? ⟨g, ((i + j) / 2) * 4 + 3, none⟩ = some (.int .u64 yk) ∧ w9.cell? ⟨w.heap.size, 0, none⟩ = some (.int .i64 x.ses) ∧ w9.cell? ⟨w.heap.size, 1, none⟩ = some (.string x.txt) ∧ w9.cell? ⟨w.heap.size, 2, none⟩ = some (.bool x.ex) ∧ w9.cell? ⟨w.heap.size, 3, none⟩ = some (.int .u64 x.tok))) (by kernel_rfl) ?invb (fun h0 => ?_)
        case invb => ((try dsimp only); (exact ⟨hd1, hd2, hd3, hd4, b0, b1, b2, b3⟩))
        refine wpAnyH_take (i := 0) (oi := { dst := some 24, op := Go.Op.move (Go.Operand.tmp 2), type := 107, pos := "sort.go:160", after := #[], guard := none }) (v := ?vb1) rfl (by kernel_rfl) (by kernel_rfl) (by kernel_rfl) (fun _ _ _ h => h) (Or.inl ⟨by rfl, ?rb1⟩) (by assumption) ?_
        case rb1 => (intro w hSw; (try dsimp only at hSw); (go_simp <;> with_reducible rfl))
        try simp only [Act.put, List.setIfInBounds_toArray, List.set_cons_zero, List.set_cons_succ]
        refine wpAnyH_take (i := 1) (oi := { dst := some 25, op := Go.Op.move (Go.Operand.tmp 0), type := 37, pos := "sort.go:160", after := #[], guard := none }) (v := ?vb2) rfl (by kernel_rfl) (by kernel_rfl) (by kernel_rfl) (fun _ _ _ h => h) (Or.inl ⟨by rfl, ?rb2⟩) (by assumption) ?_
        case rb2 => (intro w hSw; (try dsimp only at hSw); (go_simp <;> with_reducible rfl))
        try simp only [Act.put, List.setIfInBounds_toArray, List.set_cons_zero, List.set_cons_succ]
        refine wpAnyH_take (i := 2) (oi := { dst := some 26, op := Go.Op.move (Go.Operand.tmp 11), type := 3, pos := "sort.go:160", after := #[], guard := none }) (v := ?vb3) rfl (by kernel_rfl) (by kernel_rfl) (by kernel_rfl) (fun _ _ _ h => h) (Or.inl ⟨by rfl, ?rb3⟩) (by assumption) ?_
        case rb3 => (intro w hSw; (try dsimp only at hSw); (go_simp <;> with_reducible rfl))
        try simp only [Act.put, List.setIfInBounds_toArray, List.set_cons_zero, List.set_cons_succ]
        refine wpAnyH_take (i := 3) (oi := { dst := some 27, op := Go.Op.indexAddr 37 (Go.Operand.tmp 25) (Go.Operand.tmp 26), type := 0, pos := "sort.go:160", after := #[⟨1, .data⟩, ⟨2, .data⟩], guard := none }) (v := ?vb4) rfl (by kernel_rfl) (by kernel_rfl) (by kernel_rfl) (fun _ _ _ h => h) (Or.inl ⟨by rfl, ?rb4⟩) (by assumption) ?_
        case rb4 => (intro w hSw; (try dsimp only at hSw); (go_simp <;> with_reducible rfl))
        try simp only [Act.put, List.setIfInBounds_toArray, List.set_cons_zero, List.set_cons_succ]
        refine wpAnyH_take (i := 4) (oi := { dst := some 28, op := Go.Op.load 42 (Go.Operand.tmp 27), type := 42, pos := "sort.go:160", after := #[⟨3, .data⟩], guard := none }) (v := ?vb5) rfl (by kernel_rfl) (by kernel_rfl) (by kernel_rfl) (fun _ _ _ h => h) (Or.inl ⟨by rfl, ?rb5⟩) (by assumption) ?_
        case rb5 => (intro w hSw; (try dsimp only at hSw); (go_simp <;> with_reducible rfl))
        try simp only [Act.put, List.setIfInBounds_toArray, List.set_cons_zero, List.set_cons_succ]
        refine wpAnyH_take (i := 5) (oi := { dst := some 29, op := Go.Op.load 42 (Go.Operand.tmp 4), type := 42, pos := "sort.go:160", after := #[], guard := none }) (v := ?vb6) rfl (by kernel_rfl) (by kernel_rfl) (by kernel_rfl) (fun _ _ _ h => h) (Or.inl ⟨by rfl, ?rb6⟩) (by assumption) ?_
        case rb6 => (intro w hSw; (try dsimp only at hSw); (go_simp <;> with_reducible rfl))
        try simp only [Act.put, List.setIfInBounds_toArray, List.set_cons_zero, List.set_cons_succ]
        refine wpAnyH_ready (rs := [6]) (by kernel_rfl) (by simp) ?_
        refine AllReadyH.cons (o := { dst := some 30, op := Go.Op.call { callee := Go.Callee.value (Go.Operand.tmp 24), args := #[Go.Operand.tmp 28, Go.Operand.tmp 29], argTypes := #[42, 42] }, type := 3, pos := "sort.go:160", after := #[⟨0, .data⟩, ⟨4, .data⟩, ⟨5, .data⟩], guard := none }) rfl (fun K hK => ?_) AllReadyH.nil
        go_simp
        go_at_call 55
        refine (FC.out _ (HMR.out.gr ((Gr.refl _).drew))).mono ?_
        rintro e w9 ⟨rfl, hg9⟩
        have QG := Lib.hid (((hG.out).trans (Gr.refl _).drew).trans hg9)
        first | refine hK.out _ _ ?sb7 (fun h7 => ?_) | (go_wp2_with fail; refine hK.out _ _ ?sb7 (fun h7 => ?_))
        case sb7 => ((try dsimp only); (exact ⟨hg9.cell h0.1, hg9.cell h0.2.1, hg9.cell h0.2.2.1, hg9.cell h0.2.2.2.1, hg9.cell h0.2.2.2.2.1, hg9.cell h0.2.2.2.2.2.1, hg9.cell h0.2.2.2.2.2.2.1, hg9.cell h0.2.2.2.2.2.2.2⟩))
        clear hK K h0
        try simp only [Act.put, List.setIfInBounds_toArray, List.set_cons_zero, List.set_cons_succ]
        refine wpAnyH_take (i := 7) (oi := { dst := some 31, op := Go.Op.binOp Go.BinOp.lss 3 (Go.Operand.tmp 30) (Go.Operand.const (Go.Value.int Go.IntKind.i64 0)) 3, type := 4, pos := "sort.go:160", after := #[⟨6, .data⟩], guard := none }) (v := ?vb8) rfl (by kernel_rfl) (by kernel_rfl) (by kernel_rfl) (fun _ _ _ h => h) (Or.inl ⟨by rfl, ?rb8⟩) (by assumption) ?_
        case rb8 => (intro w hSw; (try dsimp only at hSw); (go_simp <;> with_reducible rfl))
        try simp only [Act.put, List.setIfInBounds_toArray, List.set_cons_zero, List.set_cons_succ]
        refine wpAnyH_done (by kernel_rfl) ?_ _
        clear h7 hd1 hd2 hd3 hd4 b0 b1 b2 b3
        go_wp2
        go_roundw
        case rel => exact ⟨i, (i + j) / 2, by omega, by omega, rfl, by rw [hmi], HQ2, QG⟩
        case measure => simp [intOf]; omega
    · obtain rfl : i = j := by omega
      by_cases hn : i < L.length
      · obtain ⟨g, cap, hv, hc1, hc2, hc3, hc4⟩ := HS.out i hn
        simp only [Value.slice.injEq, true_and] at hv
        obtain ⟨rfl, rfl⟩ := hv
        have hd1 := (HG.out.trans hG.out).cell hc1
        have hd2 := (HG.out.trans hG.out).cell hc2
        have hd3 := (HG.out.trans hG.out).cell hc3
        have hd4 := (HG.out.trans hG.out).cell hc4
        clear hc1 hc2 hc3 hc4
        have hn2 : (i : Int) < (L.length : Int) := by omega
        have HFD : Hid (decide (cmpK L[i] x = 0) = true ↔ ∃ h : i < L.length, cmpK L[i] x = 0) := Lib.hid ⟨fun e => ⟨hn, of_decide_eq_true e⟩, fun ⟨_, e⟩ => decide_eq_true e⟩
        have hpy := HPL.out _ hn
        generalize L[i] = y at *
        have FC := Lib.hid (fun w hM => HC.out y w hpy HPX.out hM)
        clear hpy
        obtain ⟨ys, yt, ye, yk⟩ := y
        simp only at hd1 hd2 hd3 hd4 FC
        go_wp2_with fail
        refine wp_region_held_drew (S := (fun w9 => w9.cell? ⟨g, i * 4, none⟩ = some (.int .i64 ys) ∧ w9.cell? ⟨g, i * 4 + 1, none⟩ = some (.string yt) ∧ w9.cell? ⟨g, i * 4 + 2, none⟩ = some (.bool ye) ∧ w9.cell? ⟨g, i * 4 + 3, none⟩ = some (.int .u64 yk) ∧ w9.cell? ⟨w.heap.size, 0, none⟩ = some (.int .i64 x.ses) ∧ w9.cell? ⟨w.heap.size, 1, none⟩ = some (.string x.txt) ∧ w9.cell? ⟨w.heap.size, 2, none⟩ = some (.bool x.ex) ∧ w9.cell? ⟨w.heap.size, 3, none⟩ = some (.int .u64 x.tok))) (by kernel_rfl) ?invc (fun h0 => ?_)
        case invc => ((try dsimp only); (exact ⟨hd1, hd2, hd3, hd4, b0, b1, b2, b3⟩))
        refine wpAnyH_take (i := 0) (oi := { dst := some 35, op := Go.Op.move (Go.Operand.tmp 9), type := 3, pos := "sort.go:167", after := #[], guard := none }) (v := ?vc1) rfl (by kernel_rfl) (by kernel_rfl) (by kernel_rfl) (fun _ _ _ h => h) (Or.inl ⟨by rfl, ?rc1⟩) (by assumption) ?_
        case rc1 => (intro w hSw; (try dsimp only at hSw); (go_simp <;> with_reducible rfl))
        try simp only [Act.put, List.setIfInBounds_toArray, List.set_cons_zero, List.set_cons_succ]
        refine wpAnyH_take (i := 1) (oi := { dst := some 36, op := Go.Op.move (Go.Operand.tmp 9), type := 3, pos := "sort.go:167", after := #[], guard := none }) (v := ?vc2) rfl (by kernel_rfl) (by kernel_rfl) (by kernel_rfl) (fun _ _ _ h => h) (Or.inl ⟨by rfl, ?rc2⟩) (by assumption) ?_
        case rc2 => (intro w hSw; (try dsimp only at hSw); (go_simp <;> with_reducible rfl))
        try simp only [Act.put, List.setIfInBounds_toArray, List.set_cons_zero, List.set_cons_succ]
        refine wpAnyH_take (i := 2) (oi := { dst := some 37, op := Go.Op.move (Go.Operand.tmp 8), type := 3, pos := "sort.go:167", after := #[], guard := none }) (v := ?vc3) rfl (by kernel_rfl) (by kernel_rfl) (by kernel_rfl) (fun _ _ _ h => h) (Or.inl ⟨by rfl, ?rc3⟩) (by assumption) ?_
        case rc3 => (intro w hSw; (try dsimp only at hSw); (go_simp <;> with_reducible rfl))
        try simp only [Act.put, List.setIfInBounds_toArray, List.set_cons_zero, List.set_cons_succ]
        refine wpAnyH_take (i := 3) (oi := { dst := some 38, op := Go.Op.binOp Go.BinOp.lss 3 (Go.Operand.tmp 36) (Go.Operand.tmp 37) 3, type := 4, pos := "sort.go:167", after := #[⟨1, .data⟩, ⟨2, .data⟩], guard := none }) (v := ?vc4) rfl (by kernel_rfl) (by kernel_rfl) (by kernel_rfl) (fun _ _ _ h => h) (Or.inl ⟨by rfl, ?rc4⟩) (by assumption) ?_
        case rc4 => (intro w hSw; (try dsimp only at hSw); (go_simp <;> with_reducible rfl))
        try simp only [Act.put, List.setIfInBounds_toArray, List.set_cons_zero, List.set_cons_succ]
        refine wpAnyH_take (i := 4) (oi := { dst := some 39, op := Go.Op.move (Go.Operand.tmp 38), type := 4, pos := "sort.go:167", after := #[⟨3, .data⟩], guard := none }) (v := ?vc5) rfl (by kernel_rfl) (by kernel_rfl) (by kernel_rfl) (fun _ _ _ h => h) (Or.inl ⟨by rfl, ?rc5⟩) (by assumption) ?_
        case rc5 => (intro w hSw; (try dsimp only at hSw); (go_simp <;> with_reducible rfl))
        try simp only [Act.put, List.setIfInBounds_toArray, List.set_cons_zero, List.set_cons_succ]
        refine wpAnyH_take (i := 5) (oi := { dst := some 40, op := Go.Op.move (Go.Operand.tmp 2), type := 107, pos := "sort.go:167", after := #[⟨4, .guard⟩], guard := some (4, true) }) (v := ?vc6) rfl (by kernel_rfl) (by kernel_rfl) (by kernel_rfl) (fun _ _ _ h => h) (Or.inl ⟨by rfl, ?rc6⟩) (by assumption) ?_
        case rc6 => (intro w hSw; (try dsimp only at hSw); (go_simp <;> with_reducible rfl))
        try simp only [Act.put, List.setIfInBounds_toArray, List.set_cons_zero, List.set_cons_succ]
        refine wpAnyH_take (i := 6) (oi := { dst := some 41, op := Go.Op.move (Go.Operand.tmp 0), type := 37, pos := "sort.go:167", after := #[⟨4, .guard⟩], guard := some (4, true) }) (v := ?vc7) rfl (by kernel_rfl) (by kernel_rfl) (by kernel_rfl) (fun _ _ _ h => h) (Or.inl ⟨by rfl, ?rc7⟩) (by assumption) ?_
        case rc7 => (intro w hSw; (try dsimp only at hSw); (go_simp <;> with_reducible rfl))
        try simp only [Act.put, List.setIfInBounds_toArray, List.set_cons_zero, List.set_cons_succ]
        refine wpAnyH_take (i := 7) (oi := { dst := some 42, op := Go.Op.move (Go.Operand.tmp 9), type := 3, pos := "sort.go:167", after := #[⟨4, .guard⟩], guard := some (4, true) }) (v := ?vc8) rfl (by kernel_rfl) (by kernel_rfl) (by kernel_rfl) (fun _ _ _ h => h) (Or.inl ⟨by rfl, ?rc8⟩) (by assumption) ?_
        case rc8 => (intro w hSw; (try dsimp only at hSw); (go_simp <;> with_reducible rfl))
        try simp only [Act.put, List.setIfInBounds_toArray, List.set_cons_zero, List.set_cons_succ]
        refine wpAnyH_take (i := 8) (oi := { dst := some 43, op := Go.Op.indexAddr 37 (Go.Operand.tmp 41) (Go.Operand.tmp 42), type := 0, pos := "sort.go:167", after := #[⟨6, .data⟩, ⟨7, .data⟩, ⟨4, .guard⟩], guard := some (4, true) }) (v := ?vc9) rfl (by kernel_rfl) (by kernel_rfl) (by kernel_rfl) (fun _ _ _ h => h) (Or.inl ⟨by rfl, ?rc9⟩) (by assumption) ?_
        case rc9 => (intro w hSw; (try dsimp only at hSw); (go_simp <;> with_reducible rfl))
        try simp only [Act.put, List.setIfInBounds_toArray, List.set_cons_zero, List.set_cons_succ]
        refine wpAnyH_take (i := 9) (oi := { dst := some 44, op := Go.Op.load 42 (Go.Operand.tmp 43), type := 42, pos := "sort.go:167", after := #[⟨8, .data⟩, ⟨4, .guard⟩], guard := some (4, true) }) (v := ?vc10) rfl (by kernel_rfl) (by kernel_rfl) (by kernel_rfl) (fun _ _ _ h => h) (Or.inl ⟨by rfl, ?rc10⟩) (by assumption) ?_
        case rc10 => (intro w hSw; (try dsimp only at hSw); (go_simp <;> with_reducible rfl))
        try simp only [Act.put, List.setIfInBounds_toArray, List.set_cons_zero, List.set_cons_succ]
        refine wpAnyH_take (i := 10) (oi := { dst := some 45, op := Go.Op.load 42 (Go.Operand.tmp 4), type := 42, pos := "sort.go:167", after := #[⟨4, .guard⟩], guard := some (4, true) }) (v := ?vc11) rfl (by kernel_rfl) (by kernel_rfl) (by kernel_rfl) (fun _ _ _ h => h) (Or.inl ⟨by rfl, ?rc11⟩) (by assumption) ?_
        case rc11 => (intro w hSw; (try dsimp only at hSw); (go_simp <;> with_reducible rfl))
        try simp only [Act.put, List.setIfInBounds_toArray, List.set_cons_zero, List.set_cons_succ]
        refine wpAnyH_ready (rs := [11]) (by kernel_rfl) (by simp) ?_
        refine AllReadyH.cons (o := { dst := some 46, op := Go.Op.call { callee := Go.Callee.value (Go.Operand.tmp 40), args := #[Go.Operand.tmp 44, Go.Operand.tmp 45], argTypes := #[42, 42] }, type := 3, pos := "sort.go:167", after := #[⟨5, .data⟩, ⟨9, .data⟩, ⟨10, .data⟩, ⟨4, .chain⟩, ⟨4, .guard⟩], guard := some (4, true) }) rfl (fun K hK => ?_) AllReadyH.nil
        go_simp
        go_at_call 55
        refine (FC.out _ (HMR.out.gr ((Gr.refl _).drew))).mono ?_
        rintro e w9 ⟨rfl, hg9⟩
        have QG := Lib.hid (((hG.out).trans (Gr.refl _).drew).trans hg9)
        first | refine hK.out _ _ ?sc12 (fun h12 => ?_) | (go_wp2_with fail; refine hK.out _ _ ?sc12 (fun h12 => ?_))
        case sc12 => ((try dsimp only); (exact ⟨hg9.cell h0.1, hg9.cell h0.2.1, hg9.cell h0.2.2.1, hg9.cell h0.2.2.2.1, hg9.cell h0.2.2.2.2.1, hg9.cell h0.2.2.2.2.2.1, hg9.cell h0.2.2.2.2.2.2.1, hg9.cell h0.2.2.2.2.2.2.2⟩))
        clear hK K h0
        try simp only [Act.put, List.setIfInBounds_toArray, List.set_cons_zero, List.set_cons_succ]
        refine wpAnyH_take (i := 12) (oi := { dst := some 47, op := Go.Op.binOp Go.BinOp.eql 3 (Go.Operand.tmp 46) (Go.Operand.const (Go.Value.int Go.IntKind.i64 0)) 3, type := 4, pos := "sort.go:167", after := #[⟨11, .data⟩, ⟨4, .guard⟩, ⟨14, .gcOnly .lateStores⟩], guard := some (4, true) }) (v := (.bool (decide (cmpK ⟨ys, yt, ye, yk⟩ x = 0)))) rfl (by kernel_rfl) (by kernel_rfl) (by kernel_rfl) (fun _ _ _ h => h) (Or.inl ⟨by rfl, ?rc13⟩) (by assumption) ?_
        case rc13 => (intro w hSw; (try dsimp only at hSw); go_simp; rfl)
        try simp only [Act.put, List.setIfInBounds_toArray, List.set_cons_zero, List.set_cons_succ]
        refine wpAnyH_take (i := 13) (oi := { dst := some 48, op := Go.Op.pick (Go.Operand.tmp 39) (Go.Operand.tmp 47) (Go.Operand.const (Go.Value.bool false)), type := 4, pos := "sort.go:167", after := #[⟨4, .data⟩, ⟨12, .data⟩, ⟨14, .gcOnly .lateStores⟩], guard := none }) (v := ?vc14) rfl (by kernel_rfl) (by kernel_rfl) (by kernel_rfl) (fun _ _ _ h => h) (Or.inl ⟨by rfl, ?rc14⟩) (by assumption) ?_
        case rc14 => (intro w hSw; (try dsimp only at hSw); (go_simp <;> with_reducible rfl))
        try simp only [Act.put, List.setIfInBounds_toArray, List.set_cons_zero, List.set_cons_succ]
        refine wpAnyH_take (i := 14) (oi := { dst := some 6, op := Go.Op.assign (Go.Operand.tmp 35), type := 3, pos := "sort.go:167", after := #[⟨0, .data⟩, ⟨11, .chain⟩, ⟨0, .phase⟩, ⟨1, .textOnly .lateStores⟩, ⟨2, .textOnly .lateStores⟩, ⟨3, .textOnly .lateStores⟩, ⟨4, .textOnly .lateStores⟩, ⟨5, .textOnly .lateStores⟩, ⟨6, .textOnly .lateStores⟩, ⟨7, .textOnly .lateStores⟩, ⟨8, .textOnly .lateStores⟩, ⟨9, .textOnly .lateStores⟩, ⟨10, .textOnly .lateStores⟩, ⟨11, .textOnly .lateStoresUnsure⟩, ⟨12, .textOnly .lateStores⟩, ⟨13, .textOnly .lateStores⟩], guard := none }) (v := ?vc15) rfl (by kernel_rfl) (by kernel_rfl) (by kernel_rfl) (fun _ _ _ h => h) (Or.inl ⟨by rfl, ?rc15⟩) (by assumption) ?_
        case rc15 => (intro w hSw; (try dsimp only at hSw); (go_simp <;> with_reducible rfl))
        try simp only [Act.put, List.setIfInBounds_toArray, List.set_cons_zero, List.set_cons_succ]
        refine wpAnyH_take (i := 15) (oi := { dst := some 7, op := Go.Op.assign (Go.Operand.tmp 48), type := 4, pos := "sort.go:167", after := #[⟨13, .data⟩, ⟨14, .chain⟩, ⟨0, .phase⟩, ⟨1, .phase⟩, ⟨2, .phase⟩, ⟨3, .phase⟩, ⟨4, .phase⟩, ⟨5, .phase⟩, ⟨6, .phase⟩, ⟨7, .phase⟩, ⟨8, .phase⟩, ⟨9, .phase⟩, ⟨10, .phase⟩, ⟨11, .phase⟩, ⟨12, .phase⟩, ⟨13, .phase⟩, ⟨14, .phase⟩], guard := none }) (v := ?vc16) rfl (by kernel_rfl) (by kernel_rfl) (by kernel_rfl) (fun _ _ _ h => h) (Or.inl ⟨by rfl, ?rc16⟩) (by assumption) ?_
        case rc16 => (intro w hSw; (try dsimp only at hSw); (go_simp <;> with_reducible rfl))
        try simp only [Act.put, List.setIfInBounds_toArray, List.set_cons_zero, List.set_cons_succ]
        refine wpAnyH_done (by kernel_rfl) ?_ _
        clear h12 hd1 hd2 hd3 hd4 b0 b1 b2 b3
        go_wp2
        refine bodyPost_ret (v := .tuple #[.int .i64 (i : Nat), .bool (decide (cmpK ⟨ys, yt, ye, yk⟩ x = 0))]) (by simp [results, Tryz.results67, go_sem]; try rfl) rfl ?_
        exact ⟨i, _, rfl, by omega, hP.out, HFD.out, HG.out.trans QG.out⟩
      · have hn2 : ¬ (i : Int) < (L.length : Int) := by omega
        go_wp2_with fail
        refine wp_region_held_drew (S := (fun w9 => True)) (by kernel_rfl) ?invd (fun h0 => ?_)
        case invd => ((try dsimp only); (try trivial))
        refine wpAnyH_take (i := 0) (oi := { dst := some 35, op := Go.Op.move (Go.Operand.tmp 9), type := 3, pos := "sort.go:167", after := #[], guard := none }) (v := ?vd1) rfl (by kernel_rfl) (by kernel_rfl) (by kernel_rfl) (fun _ _ _ h => h) (Or.inl ⟨by rfl, ?rd1⟩) (by assumption) ?_
        case rd1 => (intro w hSw; (try dsimp only at hSw); (go_simp <;> with_reducible rfl))
        try simp only [Act.put, List.setIfInBounds_toArray, List.set_cons_zero, List.set_cons_succ]
        refine wpAnyH_take (i := 1) (oi := { dst := some 36, op := Go.Op.move (Go.Operand.tmp 9), type := 3, pos := "sort.go:167", after := #[], guard := none }) (v := ?vd2) rfl (by kernel_rfl) (by kernel_rfl) (by kernel_rfl) (fun _ _ _ h => h) (Or.inl ⟨by rfl, ?rd2⟩) (by assumption) ?_
        case rd2 => (intro w hSw; (try dsimp only at hSw); (go_simp <;> with_reducible rfl))
        try simp only [Act.put, List.setIfInBounds_toArray, List.set_cons_zero, List.set_cons_succ]
        refine wpAnyH_take (i := 2) (oi := { dst := some 37, op := Go.Op.move (Go.Operand.tmp 8), type := 3, pos := "sort.go:167", after := #[], guard := none }) (v := ?vd3) rfl (by kernel_rfl) (by kernel_rfl) (by kernel_rfl) (fun _ _ _ h => h) (Or.inl ⟨by rfl, ?rd3⟩) (by assumption) ?_
        case rd3 => (intro w hSw; (try dsimp only at hSw); (go_simp <;> with_reducible rfl))
        try simp only [Act.put, List.setIfInBounds_toArray, List.set_cons_zero, List.set_cons_succ]
        refine wpAnyH_take (i := 3) (oi := { dst := some 38, op := Go.Op.binOp Go.BinOp.lss 3 (Go.Operand.tmp 36) (Go.Operand.tmp 37) 3, type := 4, pos := "sort.go:167", after := #[⟨1, .data⟩, ⟨2, .data⟩], guard := none }) (v := ?vd4) rfl (by kernel_rfl) (by kernel_rfl) (by kernel_rfl) (fun _ _ _ h => h) (Or.inl ⟨by rfl, ?rd4⟩) (by assumption) ?_
        case rd4 => (intro w hSw; (try dsimp only at hSw); (go_simp <;> with_reducible rfl))
        try simp only [Act.put, List.setIfInBounds_toArray, List.set_cons_zero, List.set_cons_succ]
        refine wpAnyH_take (i := 4) (oi := { dst := some 39, op := Go.Op.move (Go.Operand.tmp 38), type := 4, pos := "sort.go:167", after := #[⟨3, .data⟩], guard := none }) (v := ?vd5) rfl (by kernel_rfl) (by kernel_rfl) (by kernel_rfl) (fun _ _ _ h => h) (Or.inl ⟨by rfl, ?rd5⟩) (by assumption) ?_
        case rd5 => (intro w hSw; (try dsimp only at hSw); (go_simp <;> with_reducible rfl))
        try simp only [Act.put, List.setIfInBounds_toArray, List.set_cons_zero, List.set_cons_succ]
        refine wpAnyH_take (i := 5) (oi := { dst := some 40, op := Go.Op.move (Go.Operand.tmp 2), type := 107, pos := "sort.go:167", after := #[⟨4, .guard⟩], guard := some (4, true) }) (v := undef) rfl (by kernel_rfl) (by kernel_rfl) (by kernel_rfl) (fun _ _ _ h => h) (Or.inr ⟨by rfl, rfl⟩) (by assumption) ?_
        try simp only [Act.put, List.setIfInBounds_toArray, List.set_cons_zero, List.set_cons_succ]
        refine wpAnyH_take (i := 6) (oi := { dst := some 41, op := Go.Op.move (Go.Operand.tmp 0), type := 37, pos := "sort.go:167", after := #[⟨4, .guard⟩], guard := some (4, true) }) (v := undef) rfl (by kernel_rfl) (by kernel_rfl) (by kernel_rfl) (fun _ _ _ h => h) (Or.inr ⟨by rfl, rfl⟩) (by assumption) ?_
        try simp only [Act.put, List.setIfInBounds_toArray, List.set_cons_zero, List.set_cons_succ]
        refine wpAnyH_take (i := 7) (oi := { dst := some 42, op := Go.Op.move (Go.Operand.tmp 9), type := 3, pos := "sort.go:167", after := #[⟨4, .guard⟩], guard := some (4, true) }) (v := undef) rfl (by kernel_rfl) (by kernel_rfl) (by kernel_rfl) (fun _ _ _ h => h) (Or.inr ⟨by rfl, rfl⟩) (by assumption) ?_
        try simp only [Act.put, List.setIfInBounds_toArray, List.set_cons_zero, List.set_cons_succ]
        refine wpAnyH_take (i := 8) (oi := { dst := some 43, op := Go.Op.indexAddr 37 (Go.Operand.tmp 41) (Go.Operand.tmp 42), type := 0, pos := "sort.go:167", after := #[⟨6, .data⟩, ⟨7, .data⟩, ⟨4, .guard⟩], guard := some (4, true) }) (v := undef) rfl (by kernel_rfl) (by kernel_rfl) (by kernel_rfl) (fun _ _ _ h => h) (Or.inr ⟨by rfl, rfl⟩) (by assumption) ?_
        try simp only [Act.put, List.setIfInBounds_toArray, List.set_cons_zero, List.set_cons_succ]
        refine wpAnyH_take (i := 9) (oi := { dst := some 44, op := Go.Op.load 42 (Go.Operand.tmp 43), type := 42, pos := "sort.go:167", after := #[⟨8, .data⟩, ⟨4, .guard⟩], guard := some (4, true) }) (v := undef) rfl (by kernel_rfl) (by kernel_rfl) (by kernel_rfl) (fun _ _ _ h => h) (Or.inr ⟨by rfl, rfl⟩) (by assumption) ?_
        try simp only [Act.put, List.setIfInBounds_toArray, List.set_cons_zero, List.set_cons_succ]
        refine wpAnyH_take (i := 10) (oi := { dst := some 45, op := Go.Op.load 42 (Go.Operand.tmp 4), type := 42, pos := "sort.go:167", after := #[⟨4, .guard⟩], guard := some (4, true) }) (v := undef) rfl (by kernel_rfl) (by kernel_rfl) (by kernel_rfl) (fun _ _ _ h => h) (Or.inr ⟨by rfl, rfl⟩) (by assumption) ?_
        try simp only [Act.put, List.setIfInBounds_toArray, List.set_cons_zero, List.set_cons_succ]
        refine wpAnyH_take (i := 11) (oi := { dst := some 46, op := Go.Op.call { callee := Go.Callee.value (Go.Operand.tmp 40), args := #[Go.Operand.tmp 44, Go.Operand.tmp 45], argTypes := #[42, 42] }, type := 3, pos := "sort.go:167", after := #[⟨5, .data⟩, ⟨9, .data⟩, ⟨10, .data⟩, ⟨4, .chain⟩, ⟨4, .guard⟩], guard := some (4, true) }) (v := undef) rfl (by kernel_rfl) (by kernel_rfl) (by kernel_rfl) (fun _ _ _ h => h) (Or.inr ⟨by rfl, rfl⟩) (by assumption) ?_
        try simp only [Act.put, List.setIfInBounds_toArray, List.set_cons_zero, List.set_cons_succ]
        refine wpAnyH_take (i := 12) (oi := { dst := some 47, op := Go.Op.binOp Go.BinOp.eql 3 (Go.Operand.tmp 46) (Go.Operand.const (Go.Value.int Go.IntKind.i64 0)) 3, type := 4, pos := "sort.go:167", after := #[⟨11, .data⟩, ⟨4, .guard⟩, ⟨14, .gcOnly .lateStores⟩], guard := some (4, true) }) (v := undef) rfl (by kernel_rfl) (by kernel_rfl) (by kernel_rfl) (fun _ _ _ h => h) (Or.inr ⟨by rfl, rfl⟩) (by assumption) ?_
        try simp only [Act.put, List.setIfInBounds_toArray, List.set_cons_zero, List.set_cons_succ]
        refine wpAnyH_take (i := 13) (oi := { dst := some 48, op := Go.Op.pick (Go.Operand.tmp 39) (Go.Operand.tmp 47) (Go.Operand.const (Go.Value.bool false)), type := 4, pos := "sort.go:167", after := #[⟨4, .data⟩, ⟨12, .data⟩, ⟨14, .gcOnly .lateStores⟩], guard := none }) (v := ?vd6) rfl (by kernel_rfl) (by kernel_rfl) (by kernel_rfl) (fun _ _ _ h => h) (Or.inl ⟨by rfl, ?rd6⟩) (by assumption) ?_
        case rd6 => (intro w hSw; (try dsimp only at hSw); (go_simp <;> with_reducible rfl))
        try simp only [Act.put, List.setIfInBounds_toArray, List.set_cons_zero, List.set_cons_succ]
        refine wpAnyH_take (i := 14) (oi := { dst := some 6, op := Go.Op.assign (Go.Operand.tmp 35), type := 3, pos := "sort.go:167", after := #[⟨0, .data⟩, ⟨11, .chain⟩, ⟨0, .phase⟩, ⟨1, .textOnly .lateStores⟩, ⟨2, .textOnly .lateStores⟩, ⟨3, .textOnly .lateStores⟩, ⟨4, .textOnly .lateStores⟩, ⟨5, .textOnly .lateStores⟩, ⟨6, .textOnly .lateStores⟩, ⟨7, .textOnly .lateStores⟩, ⟨8, .textOnly .lateStores⟩, ⟨9, .textOnly .lateStores⟩, ⟨10, .textOnly .lateStores⟩, ⟨11, .textOnly .lateStoresUnsure⟩, ⟨12, .textOnly .lateStores⟩, ⟨13, .textOnly .lateStores⟩], guard := none }) (v := ?vd7) rfl (by kernel_rfl) (by kernel_rfl) (by kernel_rfl) (fun _ _ _ h => h) (Or.inl ⟨by rfl, ?rd7⟩) (by assumption) ?_
        case rd7 => (intro w hSw; (try dsimp only at hSw); (go_simp <;> with_reducible rfl))
        try simp only [Act.put, List.setIfInBounds_toArray, List.set_cons_zero, List.set_cons_succ]
        refine wpAnyH_take (i := 15) (oi := { dst := some 7, op := Go.Op.assign (Go.Operand.tmp 48), type := 4, pos := "sort.go:167", after := #[⟨13, .data⟩, ⟨14, .chain⟩, ⟨0, .phase⟩, ⟨1, .phase⟩, ⟨2, .phase⟩, ⟨3, .phase⟩, ⟨4, .phase⟩, ⟨5, .phase⟩, ⟨6, .phase⟩, ⟨7, .phase⟩, ⟨8, .phase⟩, ⟨9, .phase⟩, ⟨10, .phase⟩, ⟨11, .phase⟩, ⟨12, .phase⟩, ⟨13, .phase⟩, ⟨14, .phase⟩], guard := none }) (v := ?vd8) rfl (by kernel_rfl) (by kernel_rfl) (by kernel_rfl) (fun _ _ _ h => h) (Or.inl ⟨by rfl, ?rd8⟩) (by assumption) ?_
        case rd8 => (intro w hSw; (try dsimp only at hSw); (go_simp <;> with_reducible rfl))
        try simp only [Act.put, List.setIfInBounds_toArray, List.set_cons_zero, List.set_cons_succ]
        refine wpAnyH_done (by kernel_rfl) ?_ _
        go_wp2
        refine bodyPost_ret (v := .tuple #[.int .i64 (i : Nat), .bool false]) (by simp [results, Tryz.results67, go_sem]; try rfl) rfl ?_
        exact ⟨i, _, rfl, by omega, hP.out, ⟨(fun e => by cases e), fun ⟨h, _⟩ => absurd h hn⟩, HG.out.trans (hG.out.trans (Gr.refl _).drew)⟩
end Go.Proofs.YtmgpnpmdmelnkaaGreatDoor
