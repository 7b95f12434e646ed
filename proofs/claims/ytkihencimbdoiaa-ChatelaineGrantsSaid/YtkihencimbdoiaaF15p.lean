import Derived.Test.YtkihencimbdoiaaC28
import Derived.Test.YtkihencimbdoiaaF04b
import Derived.Test.YtkihencimbdoiaaM04b
import Derived.Test.YtkihencimbdoiaaSh0
import Derived.Test.YtkihencimbdoiaaC17
import Derived.WalkKit
import Derived.ProofKit
import Derived.LoopTactic
import Derived.Outline
import Derived.WalkSpells
import Derived.WalkLawsBesides
import Derived.Lib.Hide
import Derived.Deep.LoopGhost
import Derived.Deep.QuietTactic
import Derived.BigQuiet
import Derived.ShutString
import Derived.IntWalk
import Derived.Lib.MinMax
import Derived.BigQuiet
import Derived.Deep.RegionWith
import Derived.Deep.RegionHeld3
namespace Go.Proofs.Ytkihencimbdoiaa
open Go.ChangeShapes Go.WideShapes Go.ChangeAt Go.RowKit
open Rates
set_option linter.unusedVariables false
set_option linter.unusedSimpArgs false
/-- A clock of each node. -/
structure Clk where
  n : Nat
  now : Nat → Int
  by' : Nat → Int
  lo : Int
  hi : Int
  jd : Bool
structure Clk.Ok (c : Clk) : Prop where
  n : c.n ≤ 12
  now : ∀ i, 0 ≤ c.now i ∧ c.now i ≤ 1099511627776
  by' : ∀ i, 0 ≤ c.by' i ∧ c.by' i ≤ 1099511627776
  sum : ∀ i, c.by' i ≤ c.now i
  lo : 0 ≤ c.lo ∧ c.lo ≤ 1099511627776
  hi : 0 ≤ c.hi ∧ c.hi ≤ 1099511627776
structure ClkIs (w : World) (b : Nat) (c : Clk) : Prop where
  n : w.cell? ⟨b, 0, none⟩ = some (.int .i64 c.n)
  now : ∀ i, i < 12 → w.cell? ⟨b, 1 + i, none⟩ = some (.int .i64 (c.now i))
  by' : ∀ i, i < 12 → w.cell? ⟨b, 13 + i, none⟩ = some (.int .i64 (c.by' i))
  lo : w.cell? ⟨b, 25, none⟩ = some (.int .i64 c.lo)
  hi : w.cell? ⟨b, 26, none⟩ = some (.int .i64 c.hi)
  jd : w.cell? ⟨b, 27, none⟩ = some (.bool c.jd)
  free : ∀ i, w.frozen? ⟨b, i, none⟩ = false
  ok : c.Ok
theorem ClkIs.gr {w w' : World} {b : Nat} {c : Clk} (h : ClkIs w b c) (hg : Gr w w') : ClkIs w' b c :=
  ⟨hg.cell h.n, fun i hi => hg.cell (h.now i hi), fun i hi => hg.cell (h.by' i hi), hg.cell h.lo, hg.cell h.hi, hg.cell h.jd, fun i => (hg.frozen (cell_lt h.n)).trans (h.free i), h.ok⟩
def ClkTo (b : Nat) (w : World) (c : Clk) (w' : World) : Prop := ClkIs w' b c ∧ Far b (.slice none 0 0) w w'
def hasC (c : Clk) (k : Int) : Bool := decide (0 ≤ k ∧ k < (c.n : Int))
def upd {α : Type} (f : Nat → α) (k : Nat) (v : α) : Nat → α := fun i => if i = k then v else f i
theorem upd_same {α : Type} (f : Nat → α) (k : Nat) (v : α) : upd f k v k = v := by unfold upd; rw [if_pos rfl]
theorem upd_other {α : Type} (f : Nat → α) {k i : Nat} (v : α) (h : i ≠ k) : upd f k v i = f i := by unfold upd; rw [if_neg h]
def newC (n : Int) : Clk := ⟨(min (max n 0) 12).toNat, fun _ => 0, fun _ => 0, 1, 1, false⟩
theorem newC_ok (n : Int) : (newC n).Ok := ⟨by show (min (max n 0) 12).toNat ≤ 12; omega, fun i => by simp [newC], fun i => by simp [newC], fun i => by simp [newC], by simp [newC], by simp [newC]⟩
def nextC (c : Clk) (k : Nat) (d : Int) : Int := lim (lim (c.now k) + lim d)
def goC (c : Clk) (k d : Int) : Clk := if hasC c k then ⟨c.n, upd c.now k.toNat (nextC c k.toNat d), upd c.by' k.toNat (c.by' k.toNat + (nextC c k.toNat d - c.now k.toNat)), c.lo, c.hi, c.jd⟩ else c
theorem nextC_bd {c : Clk} (h : c.Ok) (k : Nat) (d : Int) : c.now k ≤ nextC c k d ∧ nextC c k d ≤ 1099511627776 := by
  have h1 := h.now k
  have h2 := lim_bd d
  unfold nextC
  rw [lim_self h1.1 h1.2]
  unfold lim at *
  omega
theorem goC_ok {c : Clk} (h : c.Ok) (k d : Int) : (goC c k d).Ok := by
  unfold goC
  split
  · have hb := nextC_bd h k.toNat d
    have h1 := h.now k.toNat
    have h2 := h.by' k.toNat
    have h3 := h.sum k.toNat
    refine ⟨h.n, fun i => ?_, fun i => ?_, fun i => ?_, h.lo, h.hi⟩
    · show 0 ≤ upd _ _ _ i ∧ upd _ _ _ i ≤ _
      by_cases e : i = k.toNat
      · subst e; rw [upd_same]; omega
      · rw [upd_other _ _ e]; exact h.now i
    · show 0 ≤ upd _ _ _ i ∧ upd _ _ _ i ≤ _
      by_cases e : i = k.toNat
      · subst e; rw [upd_same]; omega
      · rw [upd_other _ _ e]; exact h.by' i
    · show upd _ _ _ i ≤ upd _ _ _ i
      by_cases e : i = k.toNat
      · subst e; rw [upd_same, upd_same]; omega
      · rw [upd_other _ _ e, upd_other _ _ e]; exact h.sum i
  · exact h
set_option maxRecDepth 100000 in
set_option maxHeartbeats 1000000 in
theorem clkNew_any (n : Int) (w : World) : Calls Try.prog 38 #[.int .i64 n] w fun e w' => ∃ b, e = .returned (.pointer (some ⟨b, 0, none⟩)) ∧ w.heap.size ≤ b ∧ ClkIs w' b (newC n) ∧ Gr w w' := by
  have E := Lib.hid (show ((newC n).n : Int) = min (max n 0) 12 by show (((min (max n 0) 12).toNat : Nat) : Int) = _; omega)
  go_enter Try.func38, Try.ntmps38
  go_wp2
  go_ret
  refine ⟨w.heap.size, rfl, Nat.le_refl _, ?_, (Gr.refl w).alloc _⟩
  have hB := Blk.new w #[.int .i64 (min (max n 0) 12), .int .i64 0, .int .i64 0, .int .i64 0, .int .i64 0, .int .i64 0, .int .i64 0, .int .i64 0, .int .i64 0, .int .i64 0, .int .i64 0, .int .i64 0, .int .i64 0, .int .i64 0, .int .i64 0, .int .i64 0, .int .i64 0, .int .i64 0, .int .i64 0, .int .i64 0, .int .i64 0, .int .i64 0, .int .i64 0, .int .i64 0, .int .i64 0, .int .i64 1, .int .i64 1, .bool false] 137
  have h12 : ∀ i, i < 12 → i = 0 ∨ i = 1 ∨ i = 2 ∨ i = 3 ∨ i = 4 ∨ i = 5 ∨ i = 6 ∨ i = 7 ∨ i = 8 ∨ i = 9 ∨ i = 10 ∨ i = 11 := fun i h => by omega
  refine ⟨by rw [E.out]; exact hB.cell rfl, fun i hi => ?_, fun i hi => ?_, hB.cell rfl, hB.cell rfl, hB.cell rfl, fun i => hB.free i, newC_ok n⟩
  · rcases h12 i hi with rfl | rfl | rfl | rfl | rfl | rfl | rfl | rfl | rfl | rfl | rfl | rfl <;> exact hB.cell rfl
  · rcases h12 i hi with rfl | rfl | rfl | rfl | rfl | rfl | rfl | rfl | rfl | rfl | rfl | rfl <;> exact hB.cell rfl
set_option maxRecDepth 100000 in
theorem clkHas_any {b : Nat} {c : Clk} (k : Int) (w : World) (h : ClkIs w b c) : Calls Try.prog 90 #[.pointer (some ⟨b, 0, none⟩), .int .i64 k] w fun e w' => e = .returned (.bool (hasC c k)) ∧ w = w' := by
  have c0 := h.n
  generalize hq : hasC c k = q
  have HQ := Lib.hid hq
  clear hq h
  generalize hn : c.n = n at *
  have HN := Lib.hid hn
  clear hn
  by_cases h0 : 0 ≤ k
  · go_enter Try.func90, Try.ntmps90
    go_wp2
    go_ret
    exact ⟨by rw [← HQ.out]; unfold hasC; simp [h0, HN.out], rfl⟩
  · go_enter Try.func90, Try.ntmps90
    go_wp2
    go_ret
    exact ⟨by rw [← HQ.out]; unfold hasC; simp [h0]; omega, rfl⟩
theorem has_nat {c : Clk} {k : Int} (h : c.n ≤ 12) (hk : hasC c k = true) : ∃ j : Nat, k = (j : Int) ∧ j < c.n ∧ j < 12 := by
  have := of_decide_eq_true hk
  exact ⟨k.toNat, by omega, by omega, by omega⟩
def nowC (c : Clk) (k : Int) : Int := if hasC c k then c.now k.toNat else 0
set_option maxRecDepth 100000 in
theorem clkNow_any {b : Nat} {c : Clk} (k : Int) (w : World) (h : ClkIs w b c) : Calls Try.prog 42 #[.pointer (some ⟨b, 0, none⟩), .int .i64 k] w fun e w' => e = .returned (.int .i64 (nowC c k)) ∧ w = w' := by
  have HH := Lib.hid (clkHas_any k w h)
  unfold nowC
  cases hq : hasC c k
  · rw [hq] at HH
    clear h hq
    go_enter Try.func42, Try.ntmps42
    go_wp2_with fail
    refine HH.out.mono ?_
    rintro e w2 ⟨rfl, rfl⟩
    go_wp2
    go_ret
    exact ⟨rfl, rfl⟩
  · rw [hq] at HH
    obtain ⟨j, rfl, hj, hj12⟩ := has_nat h.ok.n hq
    have c0 := h.now j hj12
    rw [show (j : Int).toNat = j by omega]
    have hj2 : (j : Int) < 12 := by omega
    clear h hq
    go_enter Try.func42, Try.ntmps42
    go_wp2_with fail
    refine HH.out.mono ?_
    rintro e w2 ⟨rfl, rfl⟩
    go_wp2
    go_ret
    exact ⟨rfl, rfl⟩
/-- Stores of a clock and its advance. -/
theorem ClkIs.set2 {w : World} {b j : Nat} {c : Clk} (h : ClkIs w b c) (hj : j < 12) (x y : Int) (ok : Clk.Ok ⟨c.n, upd c.now j x, upd c.by' j y, c.lo, c.hi, c.jd⟩) :
    ClkTo b w ⟨c.n, upd c.now j x, upd c.by' j y, c.lo, c.hi, c.jd⟩ ((w.setCell ⟨b, 13 + j, none⟩ (.int .i64 y)).setCell ⟨b, 1 + j, none⟩ (.int .i64 x)) := by
  have hs : ∀ o, o ≠ 1 + j → o ≠ 13 + j → ((w.setCell ⟨b, 13 + j, none⟩ (.int .i64 y)).setCell ⟨b, 1 + j, none⟩ (.int .i64 x)).cell? ⟨b, o, none⟩ = w.cell? ⟨b, o, none⟩ := fun o h1 h2 => by
    rw [World.cell?_setCell_other _ _ _ _ (by simp [h1]), World.cell?_setCell_other _ _ _ _ (by simp [h2])]
  refine ⟨⟨(hs 0 (by omega) (by omega)).trans h.n, fun i hi => ?_, fun i hi => ?_, (hs 25 (by omega) (by omega)).trans h.lo, (hs 26 (by omega) (by omega)).trans h.hi, (hs 27 (by omega) (by omega)).trans h.jd, fun i => by rw [World.frozen?_setCell, World.frozen?_setCell]; exact h.free i, ok⟩, (Far.setCell b _ _ _ _).trans (From.refl _ _) (Far.setCell b _ _ _ _)⟩
  · show _ = some (Value.int .i64 (upd c.now j x i))
    by_cases e : i = j
    · subst e
      rw [upd_same]
      exact World.cell?_setCell_same _ _ _ (by rw [World.cell?_setCell_other _ _ _ _ (by simp <;> omega), h.now i hi])
    · rw [upd_other _ _ e, hs (1 + i) (by omega) (by omega)]; exact h.now i hi
  · show _ = some (Value.int .i64 (upd c.by' j y i))
    by_cases e : i = j
    · subst e
      rw [upd_same, World.cell?_setCell_other _ _ _ _ (by simp <;> omega)]
      exact World.cell?_setCell_same _ _ _ (by rw [h.by' i hi])
    · rw [upd_other _ _ e, hs (13 + i) (by omega) (by omega)]; exact h.by' i hi
set_option maxRecDepth 100000 in
set_option maxHeartbeats 1000000 in
theorem clkGo_any {b : Nat} {c : Clk} (k d : Int) (w : World) (h : ClkIs w b c) : Calls Try.prog 40 #[.pointer (some ⟨b, 0, none⟩), .int .i64 k, .int .i64 d] w fun e w' => e = .returned (.bool (hasC c k)) ∧ ClkTo b w (goC c k d) w' := by
  have HH := Lib.hid (clkHas_any k w h)
  have HK := Lib.hid (goC_ok h.ok k d)
  unfold goC at HK ⊢
  cases hq : hasC c k
  · rw [hq] at HH
    have H := Lib.hid h
    rw [if_neg (by decide)]
    clear h hq HK
    go_enter Try.func40, Try.ntmps40
    go_wp2_with fail
    refine HH.out.mono ?_
    rintro e w2 ⟨rfl, rfl⟩
    go_wp2
    go_ret
    exact ⟨rfl, H.out, Far.refl _ _ _⟩
  · rw [hq] at HH
    obtain ⟨j, rfl, hj, hj12⟩ := has_nat h.ok.n hq
    rw [hq, if_pos rfl] at HK
    rw [if_pos rfl]
    rw [show (j : Int).toNat = j by omega] at HK ⊢
    have c0 := h.now j hj12
    have c1 := h.by' j hj12
    have f0 := h.free (1 + j)
    have f1 := h.free (13 + j)
    have hb := nextC_bd h.ok j d
    have h1 := h.ok.now j
    have h2 := h.ok.by' j
    have HL := Lib.hid (later_any (c.now j) d w)
    have HT := Lib.hid (h.set2 hj12 (nextC c j d) (c.by' j + (nextC c j d - c.now j)) HK.out)
    change Hid (Calls _ _ _ _ fun e w' => e = .returned (.int .i64 (nextC c j d)) ∧ w = w') at HL
    have hj2 : (j : Int) < 12 := by omega
    clear h hq HK hj
    generalize nextC c j d = nx at *
    generalize c.now j = x at *
    generalize c.by' j = y at *
    have hw1 : IntKind.i64.wrap (nx - x) = nx - x := IntWalk.i64_in _ (by omega)
    have hw2 : IntKind.i64.wrap (y + (nx - x)) = y + (nx - x) := IntWalk.i64_in _ (by omega)
    have hw3 : IntKind.i64.wrap (y + IntKind.i64.wrap (nx - x)) = y + (nx - x) := by rw [hw1, hw2]
    go_enter Try.func40, Try.ntmps40
    go_wp2_with fail
    refine HH.out.mono ?_
    rintro e w2 ⟨rfl, rfl⟩
    go_wp2_with fail
    refine HL.out.mono ?_
    rintro e w2 ⟨rfl, rfl⟩
    go_wp2_with fail
    refine late_start (fun i => decide (18 ≤ i)) (fun w9 => w9.cell? ⟨b, 1 + j, none⟩ = some (.int .i64 x) ∧ w9.cell? ⟨b, 13 + j, none⟩ = some (.int .i64 y)) (by kernel_rfl) ?inva (fun h0 => ?_)
    case inva => ((try dsimp only); (exact ⟨c0, c1⟩))
    refine late_take (i := 0) (oi := { dst := some 20, op := Go.Op.move (Go.Operand.tmp 0), type := 76, pos := "clock.go:55", after := #[], guard := none }) (v := ?va1) rfl (by kernel_rfl) (by kernel_rfl) (by kernel_rfl) (by kernel_rfl) (by kernel_rfl) (fun _ _ _ h => h) (Or.inl ⟨by rfl, ?ra1⟩) (by assumption) ?_
    case ra1 => (intro w hSw; (try dsimp only at hSw); (go_simp <;> with_reducible rfl))
    try simp only [Act.put, List.setIfInBounds_toArray, List.set_cons_zero, List.set_cons_succ]
    refine late_take (i := 1) (oi := { dst := some 21, op := Go.Op.move (Go.Operand.tmp 1), type := 3, pos := "clock.go:55", after := #[], guard := none }) (v := ?va2) rfl (by kernel_rfl) (by kernel_rfl) (by kernel_rfl) (by kernel_rfl) (by kernel_rfl) (fun _ _ _ h => h) (Or.inl ⟨by rfl, ?ra2⟩) (by assumption) ?_
    case ra2 => (intro w hSw; (try dsimp only at hSw); (go_simp <;> with_reducible rfl))
    try simp only [Act.put, List.setIfInBounds_toArray, List.set_cons_zero, List.set_cons_succ]
    refine late_take (i := 2) (oi := { dst := some 22, op := Go.Op.nilCheck (Go.Operand.tmp 20), type := 0, pos := "clock.go:55", after := #[{ on := 0, ground := Go.Ground.data }], guard := none }) (v := ?va3) rfl (by kernel_rfl) (by kernel_rfl) (by kernel_rfl) (by kernel_rfl) (by kernel_rfl) (fun _ _ _ h => h) (Or.inl ⟨by rfl, ?ra3⟩) (by assumption) ?_
    case ra3 => (intro w hSw; (try dsimp only at hSw); (go_simp <;> with_reducible rfl))
    try simp only [Act.put, List.setIfInBounds_toArray, List.set_cons_zero, List.set_cons_succ]
    refine late_take (i := 3) (oi := { dst := some 23, op := Go.Op.fieldAddr 137 (Go.Operand.tmp 22) 2, type := 0, pos := "clock.go:55", after := #[{ on := 2, ground := Go.Ground.data }], guard := none }) (v := ?va4) rfl (by kernel_rfl) (by kernel_rfl) (by kernel_rfl) (by kernel_rfl) (by kernel_rfl) (fun _ _ _ h => h) (Or.inl ⟨by rfl, ?ra4⟩) (by assumption) ?_
    case ra4 => (intro w hSw; (try dsimp only at hSw); (go_simp <;> with_reducible rfl))
    try simp only [Act.put, List.setIfInBounds_toArray, List.set_cons_zero, List.set_cons_succ]
    refine late_take (i := 4) (oi := { dst := some 24, op := Go.Op.indexAddr 135 (Go.Operand.tmp 23) (Go.Operand.tmp 21), type := 0, pos := "clock.go:55", after := #[{ on := 3, ground := Go.Ground.data }, { on := 1, ground := Go.Ground.data }], guard := none }) (v := ?va5) rfl (by kernel_rfl) (by kernel_rfl) (by kernel_rfl) (by kernel_rfl) (by kernel_rfl) (fun _ _ _ h => h) (Or.inl ⟨by rfl, ?ra5⟩) (by assumption) ?_
    case ra5 => (intro w hSw; (try dsimp only at hSw); (go_simp <;> with_reducible rfl))
    try simp only [Act.put, List.setIfInBounds_toArray, List.set_cons_zero, List.set_cons_succ]
    refine late_take (i := 5) (oi := { dst := some 25, op := Go.Op.load 3 (Go.Operand.tmp 24), type := 3, pos := "clock.go:55", after := #[{ on := 4, ground := Go.Ground.data }], guard := none }) (v := ?va6) rfl (by kernel_rfl) (by kernel_rfl) (by kernel_rfl) (by kernel_rfl) (by kernel_rfl) (fun _ _ _ h => h) (Or.inl ⟨by rfl, ?ra6⟩) (by assumption) ?_
    case ra6 => (intro w hSw; (try dsimp only at hSw); (go_simp <;> with_reducible rfl))
    try simp only [Act.put, List.setIfInBounds_toArray, List.set_cons_zero, List.set_cons_succ]
    refine late_take (i := 6) (oi := { dst := some 26, op := Go.Op.move (Go.Operand.tmp 7), type := 3, pos := "clock.go:55", after := #[], guard := none }) (v := ?va7) rfl (by kernel_rfl) (by kernel_rfl) (by kernel_rfl) (by kernel_rfl) (by kernel_rfl) (fun _ _ _ h => h) (Or.inl ⟨by rfl, ?ra7⟩) (by assumption) ?_
    case ra7 => (intro w hSw; (try dsimp only at hSw); (go_simp <;> with_reducible rfl))
    try simp only [Act.put, List.setIfInBounds_toArray, List.set_cons_zero, List.set_cons_succ]
    refine late_take (i := 7) (oi := { dst := some 27, op := Go.Op.move (Go.Operand.tmp 0), type := 76, pos := "clock.go:55", after := #[], guard := none }) (v := ?va8) rfl (by kernel_rfl) (by kernel_rfl) (by kernel_rfl) (by kernel_rfl) (by kernel_rfl) (fun _ _ _ h => h) (Or.inl ⟨by rfl, ?ra8⟩) (by assumption) ?_
    case ra8 => (intro w hSw; (try dsimp only at hSw); (go_simp <;> with_reducible rfl))
    try simp only [Act.put, List.setIfInBounds_toArray, List.set_cons_zero, List.set_cons_succ]
    refine late_take (i := 8) (oi := { dst := some 28, op := Go.Op.move (Go.Operand.tmp 1), type := 3, pos := "clock.go:55", after := #[], guard := none }) (v := ?va9) rfl (by kernel_rfl) (by kernel_rfl) (by kernel_rfl) (by kernel_rfl) (by kernel_rfl) (fun _ _ _ h => h) (Or.inl ⟨by rfl, ?ra9⟩) (by assumption) ?_
    case ra9 => (intro w hSw; (try dsimp only at hSw); (go_simp <;> with_reducible rfl))
    try simp only [Act.put, List.setIfInBounds_toArray, List.set_cons_zero, List.set_cons_succ]
    refine late_take (i := 9) (oi := { dst := some 29, op := Go.Op.nilCheck (Go.Operand.tmp 27), type := 0, pos := "clock.go:55", after := #[{ on := 7, ground := Go.Ground.data }], guard := none }) (v := ?va10) rfl (by kernel_rfl) (by kernel_rfl) (by kernel_rfl) (by kernel_rfl) (by kernel_rfl) (fun _ _ _ h => h) (Or.inl ⟨by rfl, ?ra10⟩) (by assumption) ?_
    case ra10 => (intro w hSw; (try dsimp only at hSw); (go_simp <;> with_reducible rfl))
    try simp only [Act.put, List.setIfInBounds_toArray, List.set_cons_zero, List.set_cons_succ]
    refine late_take (i := 10) (oi := { dst := some 30, op := Go.Op.fieldAddr 137 (Go.Operand.tmp 29) 1, type := 0, pos := "clock.go:55", after := #[{ on := 9, ground := Go.Ground.data }], guard := none }) (v := ?va11) rfl (by kernel_rfl) (by kernel_rfl) (by kernel_rfl) (by kernel_rfl) (by kernel_rfl) (fun _ _ _ h => h) (Or.inl ⟨by rfl, ?ra11⟩) (by assumption) ?_
    case ra11 => (intro w hSw; (try dsimp only at hSw); (go_simp <;> with_reducible rfl))
    try simp only [Act.put, List.setIfInBounds_toArray, List.set_cons_zero, List.set_cons_succ]
    refine late_take (i := 11) (oi := { dst := some 31, op := Go.Op.indexAddr 135 (Go.Operand.tmp 30) (Go.Operand.tmp 28), type := 0, pos := "clock.go:55", after := #[{ on := 10, ground := Go.Ground.data }, { on := 8, ground := Go.Ground.data }], guard := none }) (v := ?va12) rfl (by kernel_rfl) (by kernel_rfl) (by kernel_rfl) (by kernel_rfl) (by kernel_rfl) (fun _ _ _ h => h) (Or.inl ⟨by rfl, ?ra12⟩) (by assumption) ?_
    case ra12 => (intro w hSw; (try dsimp only at hSw); (go_simp <;> with_reducible rfl))
    try simp only [Act.put, List.setIfInBounds_toArray, List.set_cons_zero, List.set_cons_succ]
    refine late_take (i := 12) (oi := { dst := some 32, op := Go.Op.load 3 (Go.Operand.tmp 31), type := 3, pos := "clock.go:55", after := #[{ on := 11, ground := Go.Ground.data }], guard := none }) (v := ?va13) rfl (by kernel_rfl) (by kernel_rfl) (by kernel_rfl) (by kernel_rfl) (by kernel_rfl) (fun _ _ _ h => h) (Or.inl ⟨by rfl, ?ra13⟩) (by assumption) ?_
    case ra13 => (intro w hSw; (try dsimp only at hSw); (go_simp <;> with_reducible rfl))
    try simp only [Act.put, List.setIfInBounds_toArray, List.set_cons_zero, List.set_cons_succ]
    refine late_take (i := 13) (oi := { dst := some 33, op := Go.Op.binOp Go.BinOp.sub 3 (Go.Operand.tmp 26) (Go.Operand.tmp 32) 3, type := 3, pos := "clock.go:55", after := #[{ on := 6, ground := Go.Ground.data }, { on := 12, ground := Go.Ground.data }], guard := none }) (v := ?va14) rfl (by kernel_rfl) (by kernel_rfl) (by kernel_rfl) (by kernel_rfl) (by kernel_rfl) (fun _ _ _ h => h) (Or.inl ⟨by rfl, ?ra14⟩) (by assumption) ?_
    case ra14 => (intro w hSw; (try dsimp only at hSw); (go_simp <;> with_reducible rfl))
    try simp only [Act.put, List.setIfInBounds_toArray, List.set_cons_zero, List.set_cons_succ]
    refine late_take (i := 14) (oi := { dst := some 34, op := Go.Op.binOp Go.BinOp.add 3 (Go.Operand.tmp 25) (Go.Operand.tmp 33) 3, type := 3, pos := "clock.go:55", after := #[{ on := 5, ground := Go.Ground.data }, { on := 13, ground := Go.Ground.data }], guard := none }) (v := ?va15) rfl (by kernel_rfl) (by kernel_rfl) (by kernel_rfl) (by kernel_rfl) (by kernel_rfl) (fun _ _ _ h => h) (Or.inl ⟨by rfl, ?ra15⟩) (by assumption) ?_
    case ra15 => (intro w hSw; (try dsimp only at hSw); (go_simp <;> with_reducible rfl))
    try simp only [Act.put, List.setIfInBounds_toArray, List.set_cons_zero, List.set_cons_succ]
    refine late_take (i := 15) (oi := { dst := some 35, op := Go.Op.nilCheck (Go.Operand.tmp 20), type := 0, pos := "clock.go:55", after := #[{ on := 0, ground := Go.Ground.data }], guard := none }) (v := ?va16) rfl (by kernel_rfl) (by kernel_rfl) (by kernel_rfl) (by kernel_rfl) (by kernel_rfl) (fun _ _ _ h => h) (Or.inl ⟨by rfl, ?ra16⟩) (by assumption) ?_
    case ra16 => (intro w hSw; (try dsimp only at hSw); (go_simp <;> with_reducible rfl))
    try simp only [Act.put, List.setIfInBounds_toArray, List.set_cons_zero, List.set_cons_succ]
    refine late_take (i := 16) (oi := { dst := some 36, op := Go.Op.fieldAddr 137 (Go.Operand.tmp 35) 2, type := 0, pos := "clock.go:55", after := #[{ on := 15, ground := Go.Ground.data }], guard := none }) (v := ?va17) rfl (by kernel_rfl) (by kernel_rfl) (by kernel_rfl) (by kernel_rfl) (by kernel_rfl) (fun _ _ _ h => h) (Or.inl ⟨by rfl, ?ra17⟩) (by assumption) ?_
    case ra17 => (intro w hSw; (try dsimp only at hSw); (go_simp <;> with_reducible rfl))
    try simp only [Act.put, List.setIfInBounds_toArray, List.set_cons_zero, List.set_cons_succ]
    refine late_take (i := 17) (oi := { dst := some 37, op := Go.Op.indexAddr 135 (Go.Operand.tmp 36) (Go.Operand.tmp 21), type := 0, pos := "clock.go:55", after := #[{ on := 16, ground := Go.Ground.data }, { on := 1, ground := Go.Ground.data }, { on := 0, ground := Go.Ground.phase }, { on := 1, ground := Go.Ground.phase }, { on := 2, ground := Go.Ground.phase }, { on := 3, ground := Go.Ground.phase }, { on := 4, ground := Go.Ground.phase }, { on := 5, ground := Go.Ground.phase }, { on := 6, ground := Go.Ground.phase }, { on := 7, ground := Go.Ground.phase }, { on := 8, ground := Go.Ground.phase }, { on := 9, ground := Go.Ground.phase }, { on := 10, ground := Go.Ground.phase }, { on := 11, ground := Go.Ground.phase }, { on := 12, ground := Go.Ground.phase }, { on := 13, ground := Go.Ground.phase }, { on := 14, ground := Go.Ground.phase }], guard := none }) (v := ?va18) rfl (by kernel_rfl) (by kernel_rfl) (by kernel_rfl) (by kernel_rfl) (by kernel_rfl) (fun _ _ _ h => h) (Or.inl ⟨by rfl, ?ra18⟩) (by assumption) ?_
    case ra18 => (intro w hSw; (try dsimp only at hSw); (go_simp <;> with_reducible rfl))
    try simp only [Act.put, List.setIfInBounds_toArray, List.set_cons_zero, List.set_cons_succ]
    refine late_go (by kernel_rfl) ?_
    refine any_one (i := 18) (o := { dst := none, op := Go.Op.store 3 (Go.Operand.tmp 37) (Go.Operand.tmp 34), type := 0, pos := "clock.go:55", after := #[{ on := 17, ground := Go.Ground.data }, { on := 14, ground := Go.Ground.data }, { on := 0, ground := Go.Ground.phase }, { on := 1, ground := Go.Ground.phase }, { on := 2, ground := Go.Ground.phase }, { on := 3, ground := Go.Ground.phase }, { on := 4, ground := Go.Ground.phase }, { on := 5, ground := Go.Ground.phase }, { on := 6, ground := Go.Ground.phase }, { on := 7, ground := Go.Ground.phase }, { on := 8, ground := Go.Ground.phase }, { on := 9, ground := Go.Ground.phase }, { on := 10, ground := Go.Ground.phase }, { on := 11, ground := Go.Ground.phase }, { on := 12, ground := Go.Ground.phase }, { on := 13, ground := Go.Ground.phase }, { on := 14, ground := Go.Ground.phase }], guard := none }) (by kernel_rfl) rfl (fun K hK => ?_)
    go_simp
    refine hK.out _ _ ?_
    clear hK K
    try simp only [Act.put, List.setIfInBounds_toArray, List.set_cons_zero, List.set_cons_succ]
    refine any_done (by kernel_rfl) ?_
    clear h0
    go_wp2
    go_ret
    exact ⟨rfl, HT.out.1.gr (Gr.refl _).drew, HT.out.2.trans (From.refl _ _) (Far.of_gr (Gr.refl _).drew)⟩
end Go.Proofs.Ytkihencimbdoiaa
