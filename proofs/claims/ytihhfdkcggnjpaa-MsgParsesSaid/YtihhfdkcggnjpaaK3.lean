import Derived.WalkKit
import Derived.Test.YtihhfdkcggnjpaaC01
import Derived.ProofKit
import Derived.LoopTactic
import Derived.Outline
import Derived.WalkSpells
import Derived.WalkLawsBesides
import Derived.Lib.Hide
import Derived.Deep.LoopGhost
import Derived.Deep.QuietTactic
import Derived.BigQuiet
import Derived.ShutString
import Derived.IntWalk
import Derived.Lib.MinMax
import Derived.Deep.RegionHeld3
import Derived.OpenShut
import Derived.Test.YtihhfdkcggnjpaaK2
import Derived.Test.YtihhfdkcggnjpaaF01g
/- Plain mathematics of ballots. No program is imported here. -/
namespace Go.Proofs.Ytihhfdkcggnjpaa.Bal
def cmpI (a b : Int) : Int := if a < b then -1 else if b < a then 1 else 0
theorem cmpI_ways (a b : Int) : a < b ∧ cmpI a b = -1 ∨ b < a ∧ cmpI a b = 1 ∨ a = b ∧ cmpI a b = 0 := by
  unfold cmpI
  rcases Int.lt_trichotomy a b with h | h | h
  · exact .inl ⟨h, by rw [if_pos h]⟩
  · exact .inr (.inr ⟨h, by rw [if_neg (by omega), if_neg (by omega)]⟩)
  · exact .inr (.inl ⟨h, by rw [if_neg (by omega), if_pos h]⟩)
def orI (x y : Int) : Int := if x = 0 then y else x
/-- Counters, then nodes. -/
def cmpB (c n d m : Int) : Int := orI (cmpI c d) (cmpI n m)
theorem cmpB_ways (c n d m : Int) : (c < d ∨ c = d ∧ n < m) ∧ cmpB c n d m = -1 ∨ (d < c ∨ c = d ∧ m < n) ∧ cmpB c n d m = 1 ∨ (c = d ∧ n = m) ∧ cmpB c n d m = 0 := by
  unfold cmpB orI
  rcases cmpI_ways c d with ⟨h, e⟩ | ⟨h, e⟩ | ⟨h, e⟩ <;> rw [e]
  · exact .inl ⟨.inl h, by rw [if_neg (by omega)]⟩
  · exact .inr (.inl ⟨.inl h, by rw [if_neg (by omega)]⟩)
  · rw [if_pos rfl]
    rcases cmpI_ways n m with ⟨h1, e1⟩ | ⟨h1, e1⟩ | ⟨h1, e1⟩ <;> rw [e1]
    · exact .inl ⟨.inr ⟨h, h1⟩, rfl⟩
    · exact .inr (.inl ⟨.inr ⟨h, h1⟩, rfl⟩)
    · exact .inr (.inr ⟨⟨h, h1⟩, rfl⟩)
def above (c n d m : Int) : Bool := decide (d < c ∨ c = d ∧ m < n)
theorem above_eq (c n d m : Int) : above c n d m = decide (0 < cmpB c n d m) := by
  unfold above
  rw [Bool.eq_iff_iff, decide_eq_true_eq, decide_eq_true_eq]
  rcases cmpB_ways c n d m with ⟨h, e⟩ | ⟨h, e⟩ | ⟨h, e⟩ <;> rw [e] <;> omega
theorem cmpB_anti (c n d m : Int) : cmpB c n d m = - cmpB d m c n := by
  rcases cmpB_ways c n d m with ⟨h, e⟩ | ⟨h, e⟩ | ⟨h, e⟩ <;> rcases cmpB_ways d m c n with ⟨h1, e1⟩ | ⟨h1, e1⟩ | ⟨h1, e1⟩ <;> rw [e, e1] <;> omega
def maxStep (m b : Int × Int) : Int × Int := if 0 < cmpB b.1 b.2 m.1 m.2 then b else m
def maxB (L : List (Int × Int)) : Int × Int := L.foldl maxStep (0, 0)
theorem maxB_snoc (L : List (Int × Int)) (k : Nat) (h : k < L.length) : maxB (L.take (k + 1)) = maxStep (maxB (L.take k)) L[k] := by
  unfold maxB
  rw [List.take_succ_eq_append_getElem h, List.foldl_append]; rfl
theorem ge_iff (c n d m : Int) : 0 ≤ cmpB c n d m ↔ d < c ∨ c = d ∧ m ≤ n := by
  rcases cmpB_ways c n d m with ⟨h, e⟩ | ⟨h, e⟩ | ⟨h, e⟩ <;> rw [e] <;> omega
theorem gt_iff (c n d m : Int) : 0 < cmpB c n d m ↔ d < c ∨ c = d ∧ m < n := by
  rcases cmpB_ways c n d m with ⟨h, e⟩ | ⟨h, e⟩ | ⟨h, e⟩ <;> rw [e] <;> omega
theorem maxStep_spec (m b : Int × Int) : (maxStep m b = m ∨ maxStep m b = b) ∧ 0 ≤ cmpB (maxStep m b).1 (maxStep m b).2 m.1 m.2 ∧ 0 ≤ cmpB (maxStep m b).1 (maxStep m b).2 b.1 b.2 := by
  unfold maxStep
  split
  · rename_i h
    exact ⟨.inr rfl, by omega, by rw [ge_iff]; omega⟩
  · rename_i h
    rw [gt_iff] at h
    exact ⟨.inl rfl, by rw [ge_iff]; omega, by rw [ge_iff]; omega⟩
theorem max3 {a b c d e f : Int} (ha : 0 ≤ a) (hb : 0 ≤ b) (hc : 0 ≤ c) (he : 0 ≤ e) :
    ∃ x y : Int, maxB [(a, b), (c, d), (e, f)] = (x, y) ∧ ((x = a ∧ y = b) ∨ (x = c ∧ y = d) ∨ (x = e ∧ y = f)) ∧ 0 ≤ cmpB x y a b ∧ 0 ≤ cmpB x y c d ∧ 0 ≤ cmpB x y e f := by
  have E : maxB [(a, b), (c, d), (e, f)] = maxStep (maxStep (maxStep (0, 0) (a, b)) (c, d)) (e, f) := rfl
  rw [E]; clear E
  obtain ⟨p1, p2, p3⟩ := maxStep_spec (0, 0) (a, b)
  generalize maxStep (0, 0) (a, b) = M1 at *
  obtain ⟨q1, q2, q3⟩ := maxStep_spec M1 (c, d)
  generalize maxStep M1 (c, d) = M2 at *
  obtain ⟨r1, r2, r3⟩ := maxStep_spec M2 (e, f)
  generalize maxStep M2 (e, f) = M3 at *
  obtain ⟨x1, y1⟩ := M1
  obtain ⟨x2, y2⟩ := M2
  obtain ⟨x3, y3⟩ := M3
  simp only [Prod.mk.injEq] at p1 q1 r1
  simp only [ge_iff] at *
  refine ⟨x3, y3, rfl, ?_, ?_, ?_, ?_⟩ <;> omega
def nextB (c m n : Int) : (Int × Int) × Int := if n < 0 ∨ 12 ≤ n then ((0, 0), 2) else if 0 < cmpB (max c 1) n c m then ((max c 1, n), 0) else if c = 18446744073709551615 then ((0, 0), 19) else ((c + 1, n), 0)
/-- The ways of Next. -/
theorem nextB_ways (c m n : Int) : n < 0 ∧ nextB c m n = ((0, 0), 2) ∨ 12 ≤ n ∧ nextB c m n = ((0, 0), 2) ∨
    (0 ≤ n ∧ n < 12 ∧ 0 < cmpB (max c 1) n c m ∧ nextB c m n = ((max c 1, n), 0)) ∨
    (0 ≤ n ∧ n < 12 ∧ ¬ 0 < cmpB (max c 1) n c m ∧ c = 18446744073709551615 ∧ nextB c m n = ((0, 0), 19)) ∨
    (0 ≤ n ∧ n < 12 ∧ ¬ 0 < cmpB (max c 1) n c m ∧ c ≠ 18446744073709551615 ∧ nextB c m n = ((c + 1, n), 0)) := by
  unfold nextB
  by_cases h1 : n < 0
  · exact .inl ⟨h1, by rw [if_pos (.inl h1)]⟩
  by_cases h2 : 12 ≤ n
  · exact .inr (.inl ⟨h2, by rw [if_pos (.inr h2)]⟩)
  rw [if_neg (by omega)]
  by_cases h3 : 0 < cmpB (max c 1) n c m
  · exact .inr (.inr (.inl ⟨by omega, by omega, h3, by rw [if_pos h3]⟩))
  rw [if_neg h3]
  by_cases h4 : c = 18446744073709551615
  · exact .inr (.inr (.inr (.inl ⟨by omega, by omega, h3, h4, by rw [if_pos h4]⟩)))
  · exact .inr (.inr (.inr (.inr ⟨by omega, by omega, h3, h4, by rw [if_neg h4]⟩)))
/-- For a ballot that may be, by plain numbers. -/
theorem nextB_plain {c m n : Int} (hc : 0 ≤ c) (h0 : c = 0 → m = 0) :
    n < 0 ∧ nextB c m n = ((0, 0), 2) ∨ 12 ≤ n ∧ nextB c m n = ((0, 0), 2) ∨ (0 ≤ n ∧ n < 12 ∧ 1 ≤ c ∧ m < n ∧ nextB c m n = ((c, n), 0)) ∨
    (0 ≤ n ∧ n < 12 ∧ c = 18446744073709551615 ∧ n ≤ m ∧ nextB c m n = ((0, 0), 19)) ∨ (0 ≤ n ∧ n < 12 ∧ (c = 0 ∨ n ≤ m) ∧ c ≠ 18446744073709551615 ∧ nextB c m n = ((c + 1, n), 0)) := by
  have hx : max c 1 = c ∧ 1 ≤ c ∨ max c 1 = 1 ∧ c = 0 := by omega
  rcases nextB_ways c m n with ⟨h, e⟩ | ⟨h, e⟩ | ⟨h1, h2, h3, e⟩ | ⟨h1, h2, h3, h4, e⟩ | ⟨h1, h2, h3, h4, e⟩
  · exact .inl ⟨h, e⟩
  · exact .inr (.inl ⟨h, e⟩)
  · rcases hx with ⟨x1, x2⟩ | ⟨x1, x2⟩
    · rw [x1] at h3 e
      rcases cmpB_ways c n c m with ⟨g, e2⟩ | ⟨g, e2⟩ | ⟨g, e2⟩ <;> rw [e2] at h3
      · omega
      · exact .inr (.inr (.inl ⟨h1, h2, x2, by omega, e⟩))
      · omega
    · rw [x1] at e
      subst x2
      exact .inr (.inr (.inr (.inr ⟨h1, h2, .inl rfl, by decide, e⟩)))
  · rcases hx with ⟨x1, x2⟩ | ⟨x1, x2⟩
    · rw [x1] at h3
      rcases cmpB_ways c n c m with ⟨g, e2⟩ | ⟨g, e2⟩ | ⟨g, e2⟩ <;> rw [e2] at h3
      · exact .inr (.inr (.inr (.inl ⟨h1, h2, h4, by omega, e⟩)))
      · omega
      · exact .inr (.inr (.inr (.inl ⟨h1, h2, h4, by omega, e⟩)))
    · omega
  · rcases hx with ⟨x1, x2⟩ | ⟨x1, x2⟩
    · rw [x1] at h3
      rcases cmpB_ways c n c m with ⟨g, e2⟩ | ⟨g, e2⟩ | ⟨g, e2⟩ <;> rw [e2] at h3
      · exact .inr (.inr (.inr (.inr ⟨h1, h2, .inr (by omega), h4, e⟩)))
      · omega
      · exact .inr (.inr (.inr (.inr ⟨h1, h2, .inr (by omega), h4, e⟩)))
    · exact .inr (.inr (.inr (.inr ⟨h1, h2, .inl x2, h4, e⟩)))
end Go.Proofs.Ytihhfdkcggnjpaa.Bal
namespace Go.Proofs.Ytihhfdkcggnjpaa
open Go.ChangeShapes Go.WideShapes Go.ChangeAt Go.RowKit
open Bal
set_option linter.unusedVariables false
theorem nan64_any (x : Int) (w : World) : Calls Try.prog 203 #[.int .u64 x] w fun e w' => e = .returned (.bool false) ∧ w = w' := by
  have h : (x != x) = false := by simp
  go_enter Try.func203, Try.ntmps203
  go_wp2
  go_ret
  exact ⟨rfl, rfl⟩
theorem nanI_any (x : Int) (w : World) : Calls Try.prog 204 #[.int .i64 x] w fun e w' => e = .returned (.bool false) ∧ w = w' := by
  have h : (x != x) = false := by simp
  go_enter Try.func204, Try.ntmps204
  go_wp2
  go_ret
  exact ⟨rfl, rfl⟩
theorem cmp64_any (x y : Int) (w : World) : Calls Try.prog 154 #[.int .u64 x, .int .u64 y] w fun e w' => e = .returned (.int .i64 (cmpI x y)) ∧ w = w' := by
  rcases cmpI_ways x y with ⟨h, e⟩ | ⟨h, e⟩ | ⟨h, e⟩
  all_goals
    rw [e]; clear e
    go_enter Try.func154, Try.ntmps154
    go_wp2_with (first | (go_at_call 203; refine (nan64_any _ _).mono ?_; rintro e w1 ⟨rfl, rfl⟩))
    go_ret
    exact ⟨rfl, rfl⟩
theorem cmpInt_any (x y : Int) (w : World) : Calls Try.prog 155 #[.int .i64 x, .int .i64 y] w fun e w' => e = .returned (.int .i64 (cmpI x y)) ∧ w = w' := by
  rcases cmpI_ways x y with ⟨h, e⟩ | ⟨h, e⟩ | ⟨h, e⟩
  all_goals
    rw [e]; clear e
    go_enter Try.func155, Try.ntmps155
    go_wp2_with (first | (go_at_call 204; refine (nanI_any _ _).mono ?_; rintro e w1 ⟨rfl, rfl⟩))
    go_ret
    exact ⟨rfl, rfl⟩
theorem or_any (b : Nat) (x y : Int) (w : World) (c : Nat) (h0 : w.cell? ⟨b, 0, none⟩ = some (.int .i64 x)) (h1 : w.cell? ⟨b, 1, none⟩ = some (.int .i64 y)) :
    Calls Try.prog 153 #[.slice (some ⟨b, 0, none⟩) 2 c] w fun e w' => e = .returned (.int .i64 (orI x y)) ∧ w = w' := by
  have HO := Lib.hid (show orI x y = if x = 0 then y else x from rfl)
  rw [HO.out]; clear HO
  go_enter Try.func153, Try.ntmps153
  go_wp2
  go_loop [8] (fun i => ∃ k : Nat, k ≤ 2 ∧ i = .int .i64 k ∧ Hid ((0 < k → x = 0) ∧ (1 < k → y = 0))) (fun i => 2 - (intOf i).toNat)
  case atStart => exact ⟨0, by omega, rfl, Lib.hid ⟨by omega, by omega⟩⟩
  case round =>
    obtain ⟨k, hk, rfl, hz⟩ := hrel
    obtain rfl | rfl | rfl : k = 0 ∨ k = 1 ∨ k = 2 := by omega
    · by_cases hx : x = 0
      · subst hx
        go_wp2
        go_round
        case rel => exact ⟨1, by omega, by go_num, Lib.hid (by simp)⟩
        case measure => simp [intOf]
      · have hx' : (x != 0) = true := by simp [hx]
        go_wp2
        go_ret
        exact ⟨by first | rfl | (rw [if_neg hx]; rfl), rfl⟩
    · have hx := hz.out.1 (by omega)
      subst hx
      by_cases hy : y = 0
      · subst hy
        go_wp2
        go_round
        case rel => exact ⟨2, by omega, by go_num, Lib.hid (by simp)⟩
        case measure => simp [intOf]
      · have hy' : (y != 0) = true := by simp [hy]
        go_wp2
        go_ret
        exact ⟨rfl, rfl⟩
    · have hx := hz.out.1 (by omega)
      have hy := hz.out.2 (by omega)
      subst hx hy
      go_wp2
      go_ret
      exact ⟨rfl, rfl⟩
end Go.Proofs.Ytihhfdkcggnjpaa
namespace Go.Proofs.Ytihhfdkcggnjpaa
open Go.ChangeShapes Go.WideShapes Go.ChangeAt Go.RowKit
open Bal
set_option linter.unusedVariables false
set_option linter.unusedSimpArgs false
theorem calls_gr {f : Nat} {args : Array Value} {w : World} {v : Value} (h : Calls Try.prog f args w fun e w' => e = .returned v ∧ w = w') : Calls Try.prog f args w fun e w' => e = .returned v ∧ Gr w w' :=
  h.mono fun e w' ⟨h1, h2⟩ => ⟨h1, by rw [← h2]; exact Gr.refl _⟩
theorem orG_any (b : Nat) (x y : Int) (w : World) (c : Nat) (h0 : w.cell? ⟨b, 0, none⟩ = some (.int .i64 x)) (h1 : w.cell? ⟨b, 1, none⟩ = some (.int .i64 y)) :
    Calls Try.prog 153 #[.slice (some ⟨b, 0, none⟩) 2 c] w fun e w' => e = .returned (.int .i64 (orI x y)) ∧ Gr w w' := calls_gr (or_any b x y w c h0 h1)
set_option maxRecDepth 100000 in
set_option maxHeartbeats 2000000 in
theorem compareB_any (c n d m : Int) (w : World) :
    Calls Try.prog 84 #[.agg #[.int .u64 c, .int .i64 n], .agg #[.int .u64 d, .int .i64 m]] w fun e w' => e = .returned (.int .i64 (cmpB c n d m)) ∧ Gr w w' := by
  have HB := Lib.hid (show cmpB c n d m = orI (cmpI c d) (cmpI n m) from rfl)
  have c1 := Lib.hid (fun w => calls_gr (cmp64_any c d w))
  have c2 := Lib.hid (fun w => calls_gr (cmpInt_any n m w))
  generalize cmpI c d = x at *
  generalize cmpI n m = y at *
  go_enter Try.func84, Try.ntmps84
  go_wp2
  have HG0 := Lib.hid (((Gr.refl w).alloc (.cells #[.int .u64 c, .int .i64 n] 50)).alloc (.cells #[.int .u64 d, .int .i64 m] 50))
  have hgA := (Gr.refl (w.alloc (.cells #[.int .u64 c, .int .i64 n] 50))).alloc (.cells #[.int .u64 d, .int .i64 m] 50)
  have hgB := Gr.refl ((w.alloc (.cells #[.int .u64 c, .int .i64 n] 50)).alloc (.cells #[.int .u64 d, .int .i64 m] 50))
  have k0 := hgA.own.1 0 _ rfl
  have k1 := hgA.own.1 1 _ rfl
  have j0 := hgB.own.1 0 _ rfl
  have j1 := hgB.own.1 1 _ rfl
  have hsz : (w.alloc (.cells #[.int .u64 c, .int .i64 n] 50)).heap.size = w.heap.size + 1 := by simp
  rw [hsz] at j0 j1
  clear hsz hgA hgB
  generalize (w.alloc (.cells #[.int .u64 c, .int .i64 n] 50)).alloc (.cells #[.int .u64 d, .int .i64 m] 50) = wz at *
  generalize w.heap.size = b at *
  have HX : Hid (∀ w0 w9 : World, Gr w0 w9 → (fun w9 => Gr wz w9 ∧ w9.cell? ⟨b, 0, none⟩ = some (.int .u64 c) ∧ w9.cell? ⟨b, 1, none⟩ = some (.int .i64 n) ∧ w9.cell? ⟨b + 1, 0, none⟩ = some (.int .u64 d) ∧ w9.cell? ⟨b + 1, 1, none⟩ = some (.int .i64 m)) w0 → (fun w9 => Gr wz w9 ∧ w9.cell? ⟨b, 0, none⟩ = some (.int .u64 c) ∧ w9.cell? ⟨b, 1, none⟩ = some (.int .i64 n) ∧ w9.cell? ⟨b + 1, 0, none⟩ = some (.int .u64 d) ∧ w9.cell? ⟨b + 1, 1, none⟩ = some (.int .i64 m)) w9) := Lib.hid fun w0 w9 hg ⟨h, q0, q1, q2, q3⟩ => ⟨h.trans hg, hg.cell q0, hg.cell q1, hg.cell q2, hg.cell q3⟩
  have HS0 := And.intro (Gr.refl wz) (And.intro (k0) (And.intro (k1) (And.intro (j0) (j1))))
  clear k0 k1 j0 j1
  refine wp_region_held_drew (S := (fun w9 => Gr wz w9 ∧ w9.cell? ⟨b, 0, none⟩ = some (.int .u64 c) ∧ w9.cell? ⟨b, 1, none⟩ = some (.int .i64 n) ∧ w9.cell? ⟨b + 1, 0, none⟩ = some (.int .u64 d) ∧ w9.cell? ⟨b + 1, 1, none⟩ = some (.int .i64 m))) (by kernel_rfl) ?inva (fun h0 => ?_)
  case inva => ((try dsimp only); (first | exact HS0 | exact HX.out _ _ ((Gr.refl _).drew) HS0))
  refine wpAnyH_take (i := 0) (oi := { dst := some 5, op := Go.Op.fieldAddr 50 (Go.Operand.tmp 2) 0, type := 0, pos := "ballot.go:20", after := #[], guard := none }) (v := ?va1) rfl (by kernel_rfl) (by kernel_rfl) (by kernel_rfl) (fun _ _ _ h => h) (Or.inl ⟨by rfl, ?ra1⟩) (by assumption) ?_
  case ra1 => (intro w hSw; (try dsimp only at hSw); (go_simp <;> with_reducible rfl))
  try simp only [Act.put, List.setIfInBounds_toArray, List.set_cons_zero, List.set_cons_succ]
  refine wpAnyH_take (i := 1) (oi := { dst := some 6, op := Go.Op.load 48 (Go.Operand.tmp 5), type := 48, pos := "ballot.go:20", after := #[{ on := 0, ground := Go.Ground.data }], guard := none }) (v := ?va2) rfl (by kernel_rfl) (by kernel_rfl) (by kernel_rfl) (fun _ _ _ h => h) (Or.inl ⟨by rfl, ?ra2⟩) (by assumption) ?_
  case ra2 => (intro w hSw; (try dsimp only at hSw); (go_simp <;> with_reducible rfl))
  try simp only [Act.put, List.setIfInBounds_toArray, List.set_cons_zero, List.set_cons_succ]
  refine wpAnyH_take (i := 2) (oi := { dst := some 7, op := Go.Op.fieldAddr 50 (Go.Operand.tmp 3) 0, type := 0, pos := "ballot.go:20", after := #[], guard := none }) (v := ?va3) rfl (by kernel_rfl) (by kernel_rfl) (by kernel_rfl) (fun _ _ _ h => h) (Or.inl ⟨by rfl, ?ra3⟩) (by assumption) ?_
  case ra3 => (intro w hSw; (try dsimp only at hSw); (go_simp <;> with_reducible rfl))
  try simp only [Act.put, List.setIfInBounds_toArray, List.set_cons_zero, List.set_cons_succ]
  refine wpAnyH_take (i := 3) (oi := { dst := some 8, op := Go.Op.load 48 (Go.Operand.tmp 7), type := 48, pos := "ballot.go:20", after := #[{ on := 2, ground := Go.Ground.data }], guard := none }) (v := ?va4) rfl (by kernel_rfl) (by kernel_rfl) (by kernel_rfl) (fun _ _ _ h => h) (Or.inl ⟨by rfl, ?ra4⟩) (by assumption) ?_
  case ra4 => (intro w hSw; (try dsimp only at hSw); (go_simp <;> with_reducible rfl))
  try simp only [Act.put, List.setIfInBounds_toArray, List.set_cons_zero, List.set_cons_succ]
  refine wpAnyH_take (i := 5) (oi := { dst := some 10, op := Go.Op.fieldAddr 50 (Go.Operand.tmp 2) 1, type := 0, pos := "ballot.go:20", after := #[], guard := none }) (v := ?va5) rfl (by kernel_rfl) (by kernel_rfl) (by kernel_rfl) (fun _ _ _ h => h) (Or.inl ⟨by rfl, ?ra5⟩) (by assumption) ?_
  case ra5 => (intro w hSw; (try dsimp only at hSw); (go_simp <;> with_reducible rfl))
  try simp only [Act.put, List.setIfInBounds_toArray, List.set_cons_zero, List.set_cons_succ]
  refine wpAnyH_take (i := 6) (oi := { dst := some 11, op := Go.Op.load 3 (Go.Operand.tmp 10), type := 3, pos := "ballot.go:20", after := #[{ on := 5, ground := Go.Ground.data }], guard := none }) (v := ?va6) rfl (by kernel_rfl) (by kernel_rfl) (by kernel_rfl) (fun _ _ _ h => h) (Or.inl ⟨by rfl, ?ra6⟩) (by assumption) ?_
  case ra6 => (intro w hSw; (try dsimp only at hSw); (go_simp <;> with_reducible rfl))
  try simp only [Act.put, List.setIfInBounds_toArray, List.set_cons_zero, List.set_cons_succ]
  refine wpAnyH_take (i := 7) (oi := { dst := some 12, op := Go.Op.fieldAddr 50 (Go.Operand.tmp 3) 1, type := 0, pos := "ballot.go:20", after := #[], guard := none }) (v := ?va7) rfl (by kernel_rfl) (by kernel_rfl) (by kernel_rfl) (fun _ _ _ h => h) (Or.inl ⟨by rfl, ?ra7⟩) (by assumption) ?_
  case ra7 => (intro w hSw; (try dsimp only at hSw); (go_simp <;> with_reducible rfl))
  try simp only [Act.put, List.setIfInBounds_toArray, List.set_cons_zero, List.set_cons_succ]
  refine wpAnyH_take (i := 8) (oi := { dst := some 13, op := Go.Op.load 3 (Go.Operand.tmp 12), type := 3, pos := "ballot.go:20", after := #[{ on := 7, ground := Go.Ground.data }], guard := none }) (v := ?va8) rfl (by kernel_rfl) (by kernel_rfl) (by kernel_rfl) (fun _ _ _ h => h) (Or.inl ⟨by rfl, ?ra8⟩) (by assumption) ?_
  case ra8 => (intro w hSw; (try dsimp only at hSw); (go_simp <;> with_reducible rfl))
  try simp only [Act.put, List.setIfInBounds_toArray, List.set_cons_zero, List.set_cons_succ]
  refine wpAnyH_ready (rs := [4]) (by kernel_rfl) (by simp) ?_
  refine AllReadyH.cons (o := { dst := some 9, op := Go.Op.call { callee := Go.Callee.value (Go.Operand.func 154), args := #[Go.Operand.tmp 6, Go.Operand.tmp 8], argTypes := #[48, 48] }, type := 3, pos := "ballot.go:20", after := #[{ on := 1, ground := Go.Ground.data }, { on := 3, ground := Go.Ground.data }], guard := none }) rfl (fun K hK => ?_) AllReadyH.nil
  go_simp
  (go_at_call 154; refine (c1.out _).mono ?_; rintro e w9 ⟨rfl, hgN⟩)
  first | refine hK.out _ _ ?sa9 (fun h9 => ?_) | (go_wp2_with fail; refine hK.out _ _ ?sa9 (fun h9 => ?_))
  case sa9 => ((try dsimp only); exact HX.out _ _ hgN h0)
  clear hK K h0
  try simp only [Act.put, List.setIfInBounds_toArray, List.set_cons_zero, List.set_cons_succ]
  refine wpAnyH_ready (rs := [9]) (by kernel_rfl) (by simp) ?_
  refine AllReadyH.cons (o := { dst := some 14, op := Go.Op.call { callee := Go.Callee.value (Go.Operand.func 155), args := #[Go.Operand.tmp 11, Go.Operand.tmp 13], argTypes := #[3, 3] }, type := 3, pos := "ballot.go:20", after := #[{ on := 6, ground := Go.Ground.data }, { on := 8, ground := Go.Ground.data }, { on := 4, ground := Go.Ground.chain }], guard := none }) rfl (fun K hK => ?_) AllReadyH.nil
  go_simp
  (go_at_call 155; refine (c2.out _).mono ?_; rintro e w9 ⟨rfl, hgN⟩)
  first | refine hK.out _ _ ?sa10 (fun h10 => ?_) | (go_wp2_with fail; refine hK.out _ _ ?sa10 (fun h10 => ?_))
  case sa10 => ((try dsimp only); exact HX.out _ _ hgN h9)
  clear hK K h9
  try simp only [Act.put, List.setIfInBounds_toArray, List.set_cons_zero, List.set_cons_succ]
  refine wpAnyH_ready (rs := [10]) (by kernel_rfl) (by simp) ?_
  refine AllReadyH.cons (o := { dst := some 15, op := Go.Op.buildSlice 135 2 #[(0, Go.Operand.tmp 9), (1, Go.Operand.tmp 14)], type := 135, pos := "ballot.go:20", after := #[{ on := 4, ground := Go.Ground.data }, { on := 9, ground := Go.Ground.data }], guard := none }) rfl (fun K hK => ?_) AllReadyH.nil
  go_simp
  (obtain ⟨wb, hw⟩ : ∃ wb, wb = w9.alloc (.cells #[.int .i64 x, .int .i64 y] 3) := ⟨_, rfl⟩; rw [← hw]; have hgN : Gr w9 wb := by rw [hw]; exact (Gr.refl _).alloc _); have e0 : wb.cell? ⟨w9.heap.size, 0, none⟩ = some (.int .i64 x) := by rw [hw]; exact new_cell rfl rfl
  have e1 : wb.cell? ⟨w9.heap.size, 1, none⟩ = some (.int .i64 y) := by rw [hw]; exact new_cell rfl rfl
  clear hw
  first | refine hK.out _ _ ?sa11 (fun h11 => ?_) | (go_wp2_with fail; refine hK.out _ _ ?sa11 (fun h11 => ?_))
  case sa11 => ((try dsimp only); exact HX.out _ _ hgN h10)
  clear hK K h10
  try simp only [Act.put, List.setIfInBounds_toArray, List.set_cons_zero, List.set_cons_succ]
  refine wpAnyH_ready (rs := [11]) (by kernel_rfl) (by simp) ?_
  refine AllReadyH.cons (o := { dst := some 16, op := Go.Op.call { callee := Go.Callee.value (Go.Operand.func 153), args := #[Go.Operand.tmp 15], argTypes := #[135] }, type := 3, pos := "ballot.go:20", after := #[{ on := 10, ground := Go.Ground.data }, { on := 9, ground := Go.Ground.chain }], guard := none }) rfl (fun K hK => ?_) AllReadyH.nil
  go_simp
  (go_at_call 153; refine (orG_any _ x y _ _ e0 e1).mono ?_; rintro e w9 ⟨rfl, hgN⟩)
  first | refine hK.out _ _ ?sa12 (fun h12 => ?_) | (go_wp2_with fail; refine hK.out _ _ ?sa12 (fun h12 => ?_))
  case sa12 => ((try dsimp only); exact HX.out _ _ hgN h11)
  clear hK K h11
  try simp only [Act.put, List.setIfInBounds_toArray, List.set_cons_zero, List.set_cons_succ]
  refine wpAnyH_take (i := 12) (oi := { dst := some 4, op := Go.Op.assign (Go.Operand.tmp 16), type := 3, pos := "ballot.go:20", after := #[{ on := 11, ground := Go.Ground.data }, { on := 11, ground := Go.Ground.chain }, { on := 0, ground := Go.Ground.phase }, { on := 1, ground := Go.Ground.phase }, { on := 2, ground := Go.Ground.phase }, { on := 3, ground := Go.Ground.phase }, { on := 4, ground := Go.Ground.phase }, { on := 5, ground := Go.Ground.phase }, { on := 6, ground := Go.Ground.phase }, { on := 7, ground := Go.Ground.phase }, { on := 8, ground := Go.Ground.phase }, { on := 9, ground := Go.Ground.phase }, { on := 10, ground := Go.Ground.phase }, { on := 11, ground := Go.Ground.phase }], guard := none }) (v := ?va13) rfl (by kernel_rfl) (by kernel_rfl) (by kernel_rfl) (fun _ _ _ h => h) (Or.inl ⟨by rfl, ?ra13⟩) (by assumption) ?_
  case ra13 => (intro w hSw; (try dsimp only at hSw); (go_simp <;> with_reducible rfl))
  try simp only [Act.put, List.setIfInBounds_toArray, List.set_cons_zero, List.set_cons_succ]
  refine wpAnyH_done (by kernel_rfl) ?_ _
  have G9 := Lib.hid (h12).1
  clear h12
  go_wp2
  go_ret
  exact ⟨by rw [HB.out]; rfl, HG0.out.trans G9.out⟩
end Go.Proofs.Ytihhfdkcggnjpaa
namespace Go.Proofs.Ytihhfdkcggnjpaa
open Go.ChangeShapes Go.WideShapes Go.ChangeAt Go.RowKit
open Bal
set_option linter.unusedVariables false
set_option linter.unusedSimpArgs false
theorem above_any (c n d m : Int) (w : World) :
    Calls Try.prog 186 #[.agg #[.int .u64 c, .int .i64 n], .agg #[.int .u64 d, .int .i64 m]] w fun e w' => e = .returned (.bool (above c n d m)) ∧ Gr w w' := by
  have hw : d < c ∧ above c n d m = true ∨ c < d ∧ above c n d m = false ∨ c = d ∧ m < n ∧ above c n d m = true ∨ c = d ∧ n ≤ m ∧ above c n d m = false := by
    unfold above; simp only [decide_eq_true_eq, decide_eq_false_iff_not]; omega
  rcases hw with ⟨h1, h2⟩ | ⟨h1, h2⟩ | ⟨h1, h3, h2⟩ | ⟨h1, h3, h2⟩
  · rw [h2]; clear h2
    go_enter Try.func186, Try.ntmps186
    go_wp2
    go_ret
    exact ⟨by first | rfl | (simp <;> omega), ((Gr.refl _).alloc _).alloc _⟩
  · rw [h2]; clear h2
    have hne : (c == d) = false := by simp; omega
    go_enter Try.func186, Try.ntmps186
    go_wp2
    go_ret
    exact ⟨by first | rfl | (simp <;> omega), ((Gr.refl _).alloc _).alloc _⟩
  all_goals
    rw [h2]; clear h2
    subst h1
    go_enter Try.func186, Try.ntmps186
    go_wp2
    go_ret
    exact ⟨by first | rfl | (simp <;> omega), ((Gr.refl _).alloc _).alloc _⟩
theorem none08_any (c n : Int) (w : World) :
    Calls Try.prog 192 #[.agg #[.int .u64 c, .int .i64 n]] w fun e w' => e = .returned (.bool (decide (c = 0 ∧ n = 0))) ∧ Gr w w' := by
  go_enter Try.func192, Try.ntmps192
  go_wp2
  all_goals (go_ret; refine ⟨?_, (Gr.refl _).alloc _⟩; simp_all)
theorem mod12 (N : Int) : ∃ n : Nat, n ≤ 11 ∧ (wrap64 (N.tmod 12 + 12)).tmod 12 = (n : Int) := by
  have h1 := Int.tmod_lt_of_pos N (show (0 : Int) < 12 by decide)
  have h2 := Int.lt_tmod_of_pos N (show (0 : Int) < 12 by decide)
  generalize N.tmod 12 = t at *
  have hw : wrap64 (t + 12) = t + 12 := by unfold wrap64; omega
  rw [hw, Int.tmod_eq_emod_of_nonneg (by omega)]
  exact ⟨((t + 12) % 12).toNat, by omega, by omega⟩
theorem right08_any (N : Int) (c : Nat) (w : World) :
    Calls Try.prog 114 #[.agg #[.int .u64 c, .int .i64 N]] w fun e w' => ∃ n : Nat, n ≤ 11 ∧ (c = 0 → n = 0) ∧ e = .returned (.agg #[.int .u64 c, .int .i64 n]) ∧ Gr w w' := by
  obtain ⟨n, hn, he⟩ := mod12 N
  by_cases hc : c = 0
  · subst hc
    go_enter Try.func114, Try.ntmps114
    go_wp2
    exact bodyPost_ret (v := .agg #[.int .u64 0, .int .i64 0]) (by simp [results, Try.results114, go_sem]) rfl ⟨0, by omega, fun _ => rfl, rfl, ((Gr.refl _).alloc _).alloc _⟩
  · have hc' : ((c : Int) == 0) = false := by simp; omega
    go_enter Try.func114, Try.ntmps114
    go_wp2
    exact bodyPost_ret (v := .agg #[.int .u64 c, .int .i64 n]) (by simp [results, Try.results114, go_sem, he]) rfl ⟨n, hn, fun h => absurd h hc, rfl, ((Gr.refl _).alloc _).alloc _⟩
set_option maxRecDepth 100000 in
set_option maxHeartbeats 2000000 in
theorem next_any (c m n : Int) (w : World) (hc : 0 ≤ c ∧ c ≤ 18446744073709551615) :
    Calls Try.prog 24 #[.agg #[.int .u64 c, .int .i64 m], .int .i64 n] w fun e w' => e = .returned (.tuple #[.agg #[.int .u64 (nextB c m n).1.1, .int .i64 (nextB c m n).1.2], .int .i64 (nextB c m n).2]) ∧ Gr w w' := by
  have CB := Lib.hid (compareB_any (max c 1) n c m)
  obtain ⟨c0, c1⟩ := hc
  have hx : max c 1 = c ∧ 1 ≤ c ∨ max c 1 = 1 ∧ c = 0 := by omega
  rcases nextB_ways c m n with ⟨h, e⟩ | ⟨h, e⟩ | ⟨h1, h2, h3, e⟩ | ⟨h1, h2, h3, h4, e⟩ | ⟨h1, h2, h3, h4, e⟩
  · rw [e]; clear e CB
    go_enter Try.func24, Try.ntmps24
    go_wp2
    exact bodyPost_ret (v := .tuple #[.agg #[.int .u64 0, .int .i64 0], .int .i64 2]) (by simp [results, Try.results24, go_sem]) rfl ⟨rfl, ((Gr.refl _).alloc _).alloc _⟩
  · rw [e]; clear e CB
    go_enter Try.func24, Try.ntmps24
    go_wp2
    exact bodyPost_ret (v := .tuple #[.agg #[.int .u64 0, .int .i64 0], .int .i64 2]) (by simp [results, Try.results24, go_sem]) rfl ⟨rfl, ((Gr.refl _).alloc _).alloc _⟩
  · rw [e]; clear e
    generalize cmpB (max c 1) n c m = v at *
    generalize hmx : max c 1 = mx at *
    go_enter Try.func24, Try.ntmps24
    go_wp2_with fail
    refine (CB.out _).mono ?_
    rintro e w1 ⟨rfl, hg⟩
    have HG := Lib.hid (((((Gr.refl w).alloc (.cells #[.int .u64 c, .int .i64 m] 50)).alloc (.cells #[.int .u64 0, .int .i64 0] 50)).alloc (.cells #[.int .u64 mx, .int .i64 n] 50)).trans hg)
    have g1 := (((Gr.refl (w.alloc (.cells #[.int .u64 c, .int .i64 m] 50))).alloc (.cells #[.int .u64 0, .int .i64 0] 50)).alloc (.cells #[.int .u64 mx, .int .i64 n] 50)).trans hg
    have g2 := ((Gr.refl ((w.alloc (.cells #[.int .u64 c, .int .i64 m] 50)).alloc (.cells #[.int .u64 0, .int .i64 0] 50))).alloc (.cells #[.int .u64 mx, .int .i64 n] 50)).trans hg
    have k0 := g1.own.1 0 _ rfl
    have k1 := g1.own.1 1 _ rfl
    have j0 := g2.own.1 0 _ rfl
    have j1 := g2.own.1 1 _ rfl
    have f0 := g2.own.2.1 0
    have f1 := g2.own.2.1 1
    have l0 := hg.own.1 0 _ rfl
    have l1 := hg.own.1 1 _ rfl
    have s2 : (w.alloc (.cells #[.int .u64 c, .int .i64 m] 50)).heap.size = w.heap.size + 1 := by simp
    have s3 : ((w.alloc (.cells #[.int .u64 c, .int .i64 m] 50)).alloc (.cells #[.int .u64 0, .int .i64 0] 50)).heap.size = w.heap.size + 1 + 1 := by simp
    rw [s2] at j0 j1 f0 f1
    rw [s3] at l0 l1
    have hle : w.heap.size ≤ w.heap.size + 1 := Nat.le_succ _
    clear s2 s3 g1 g2 hg
    go_wp2
    exact bodyPost_ret (v := .tuple #[.agg #[.int .u64 mx, .int .i64 n], .int .i64 0]) (by simp [results, Try.results24, go_sem, j0, j1]) rfl ⟨rfl, (HG.out.setCell hle _).setCell hle _⟩
  · rw [e]; clear e
    generalize cmpB (max c 1) n c m = v at *
    generalize hmx : max c 1 = mx at *
    have H4 := Lib.hid h4
    clear h4
    go_enter Try.func24, Try.ntmps24
    go_wp2_with fail
    refine (CB.out _).mono ?_
    rintro e w1 ⟨rfl, hg⟩
    have HG := Lib.hid (((((Gr.refl w).alloc (.cells #[.int .u64 c, .int .i64 m] 50)).alloc (.cells #[.int .u64 0, .int .i64 0] 50)).alloc (.cells #[.int .u64 mx, .int .i64 n] 50)).trans hg)
    have g1 := (((Gr.refl (w.alloc (.cells #[.int .u64 c, .int .i64 m] 50))).alloc (.cells #[.int .u64 0, .int .i64 0] 50)).alloc (.cells #[.int .u64 mx, .int .i64 n] 50)).trans hg
    have g2 := ((Gr.refl ((w.alloc (.cells #[.int .u64 c, .int .i64 m] 50)).alloc (.cells #[.int .u64 0, .int .i64 0] 50))).alloc (.cells #[.int .u64 mx, .int .i64 n] 50)).trans hg
    have k0 := g1.own.1 0 _ rfl
    have k1 := g1.own.1 1 _ rfl
    have j0 := g2.own.1 0 _ rfl
    have j1 := g2.own.1 1 _ rfl
    have f0 := g2.own.2.1 0
    have f1 := g2.own.2.1 1
    have l0 := hg.own.1 0 _ rfl
    have l1 := hg.own.1 1 _ rfl
    have s2 : (w.alloc (.cells #[.int .u64 c, .int .i64 m] 50)).heap.size = w.heap.size + 1 := by simp
    have s3 : ((w.alloc (.cells #[.int .u64 c, .int .i64 m] 50)).alloc (.cells #[.int .u64 0, .int .i64 0] 50)).heap.size = w.heap.size + 1 + 1 := by simp
    rw [s2] at j0 j1 f0 f1
    rw [s3] at l0 l1
    have hle : w.heap.size ≤ w.heap.size + 1 := Nat.le_succ _
    clear s2 s3 g1 g2 hg
    have h5 : (c == 18446744073709551615) = true := by simp [H4.out]
    go_wp2
    exact bodyPost_ret (v := .tuple #[.agg #[.int .u64 0, .int .i64 0], .int .i64 19]) (by simp [results, Try.results24, go_sem, j0, j1]) rfl ⟨rfl, (HG.out.setCell hle _).setCell hle _⟩
  · rw [e]; clear e
    generalize cmpB (max c 1) n c m = v at *
    generalize hmx : max c 1 = mx at *
    have H4 := Lib.hid h4
    clear h4
    go_enter Try.func24, Try.ntmps24
    go_wp2_with fail
    refine (CB.out _).mono ?_
    rintro e w1 ⟨rfl, hg⟩
    have HG := Lib.hid (((((Gr.refl w).alloc (.cells #[.int .u64 c, .int .i64 m] 50)).alloc (.cells #[.int .u64 0, .int .i64 0] 50)).alloc (.cells #[.int .u64 mx, .int .i64 n] 50)).trans hg)
    have g1 := (((Gr.refl (w.alloc (.cells #[.int .u64 c, .int .i64 m] 50))).alloc (.cells #[.int .u64 0, .int .i64 0] 50)).alloc (.cells #[.int .u64 mx, .int .i64 n] 50)).trans hg
    have g2 := ((Gr.refl ((w.alloc (.cells #[.int .u64 c, .int .i64 m] 50)).alloc (.cells #[.int .u64 0, .int .i64 0] 50))).alloc (.cells #[.int .u64 mx, .int .i64 n] 50)).trans hg
    have k0 := g1.own.1 0 _ rfl
    have k1 := g1.own.1 1 _ rfl
    have j0 := g2.own.1 0 _ rfl
    have j1 := g2.own.1 1 _ rfl
    have f0 := g2.own.2.1 0
    have f1 := g2.own.2.1 1
    have l0 := hg.own.1 0 _ rfl
    have l1 := hg.own.1 1 _ rfl
    have s2 : (w.alloc (.cells #[.int .u64 c, .int .i64 m] 50)).heap.size = w.heap.size + 1 := by simp
    have s3 : ((w.alloc (.cells #[.int .u64 c, .int .i64 m] 50)).alloc (.cells #[.int .u64 0, .int .i64 0] 50)).heap.size = w.heap.size + 1 + 1 := by simp
    rw [s2] at j0 j1 f0 f1
    rw [s3] at l0 l1
    have hle : w.heap.size ≤ w.heap.size + 1 := Nat.le_succ _
    clear s2 s3 g1 g2 hg
    have h5 : (c == 18446744073709551615) = false := by simp [H4.out]
    have h6 : c < 18446744073709551615 := by have := H4.out; omega
    go_wp2
    exact bodyPost_ret (v := .tuple #[.agg #[.int .u64 (c + 1), .int .i64 n], .int .i64 0]) (by simp [results, Try.results24, go_sem, j0, j1]) rfl ⟨rfl, (HG.out.setCell hle _).setCell hle _⟩
end Go.Proofs.Ytihhfdkcggnjpaa
namespace Go.Proofs.Ytihhfdkcggnjpaa
open Go.ChangeShapes Go.WideShapes Go.ChangeAt Go.RowKit
open Bal
set_option linter.unusedVariables false
set_option linter.unusedSimpArgs false
theorem above_to {c n d m : Int} {b : Bool} (h : above c n d m = b) (w : World) :
    Calls Try.prog 186 #[.agg #[.int .u64 c, .int .i64 n], .agg #[.int .u64 d, .int .i64 m]] w fun e w' => e = .returned (.bool b) ∧ Gr w w' := by rw [← h]; exact above_any c n d m w
def RNext (c m n : Int) (w : World) (e : Ending) (w' : World) : Prop := e = .returned (.tuple #[.agg #[.int .u64 (nextB c m n).1.1, .int .i64 (nextB c m n).1.2], .int .i64 (nextB c m n).2]) ∧ Gr w w'
theorem rnext_mk {c m n x y z : Int} {w w' : World} {e : Ending} (h : Hid (nextB c m n = ((x, y), z))) (he : e = .returned (.tuple #[.agg #[.int .u64 x, .int .i64 y], .int .i64 z])) (hg : Gr w w') : RNext c m n w e w' := by
  unfold RNext; rw [h.out]; exact ⟨he, hg⟩
end Go.Proofs.Ytihhfdkcggnjpaa
namespace Go.Proofs.Ytihhfdkcggnjpaa
open Go.ChangeShapes Go.WideShapes Go.ChangeAt Go.RowKit
open Bal
set_option linter.unusedVariables false
set_option linter.unusedSimpArgs false
theorem next_to {c m n x y z : Int} (h : nextB c m n = ((x, y), z)) (hc : 0 ≤ c ∧ c ≤ 18446744073709551615) (w : World) :
    Calls Try.prog 24 #[.agg #[.int .u64 c, .int .i64 m], .int .i64 n] w fun e w' => e = .returned (.tuple #[.agg #[.int .u64 x, .int .i64 y], .int .i64 z]) ∧ Gr w w' := by
  have := next_any c m n w hc
  rw [h] at this; exact this
theorem next_good {c m n x y : Int} (hc : 0 ≤ c) (h0 : c = 0 → m = 0) (h : nextB c m n = ((x, y), 0)) : y = n ∧ 0 < x ∧ 0 < cmpB x n c m := by
  rcases nextB_plain (n := n) hc h0 with ⟨_, e⟩ | ⟨_, e⟩ | ⟨h1, h2, h3, h4, e⟩ | ⟨_, _, _, _, e⟩ | ⟨h1, h2, h3, h4, e⟩ <;> rw [e] at h <;> simp only [Prod.mk.injEq] at h
  · omega
  · omega
  · obtain ⟨⟨rfl, rfl⟩, _⟩ := h
    refine ⟨rfl, by omega, ?_⟩
    rcases cmpB_ways c n c m with ⟨g, e2⟩ | ⟨g, e2⟩ | ⟨g, e2⟩ <;> rw [e2] <;> omega
  · omega
  · obtain ⟨⟨rfl, rfl⟩, _⟩ := h
    refine ⟨rfl, by omega, ?_⟩
    rcases cmpB_ways (c + 1) n c m with ⟨g, e2⟩ | ⟨g, e2⟩ | ⟨g, e2⟩ <;> rw [e2] <;> omega
/-- Behind two stores into one block. -/
theorem put2 {w W : World} {b : Nat} {u0 u1 v0 v1 : Value} (k0 : w.cell? ⟨b, 0, none⟩ = some u0) (k1 : w.cell? ⟨b, 1, none⟩ = some u1) (hW : W = ((w.setCell ⟨b, 0, none⟩ v0).setCell ⟨b, 1, none⟩ v1)) :
    (W.cell? ⟨b, 0, none⟩ = some v0 ∧ W.cell? ⟨b, 1, none⟩ = some v1) ∧ (∀ d o x, d ≠ b → w.cell? ⟨d, o, none⟩ = some x → W.cell? ⟨d, o, none⟩ = some x) ∧ (∀ d o, W.frozen? ⟨d, o, none⟩ = w.frozen? ⟨d, o, none⟩) ∧ (∀ a, Gr a w → a.heap.size ≤ b → Gr a W) := by
  subst hW
  refine ⟨⟨by simp [go_sem, k0], by simp [go_sem, k1]⟩, fun d o x hd hx => ?_, fun d o => by simp only [World.frozen?_setCell], fun a h hb => (h.setCell hb _).setCell hb _⟩
  simp [go_sem, hx]
end Go.Proofs.Ytihhfdkcggnjpaa
namespace Go.Proofs.Ytihhfdkcggnjpaa
open Go.ChangeShapes Go.WideShapes Go.ChangeAt Go.RowKit
open Enc Bal
set_option linter.unusedVariables false
set_option linter.unusedSimpArgs false
/-- What reading a ballot gives: what is left, the error, the counter, the node. -/
def getS (r : ByteArray) (e : Nat) : ByteArray × Nat × Nat × Nat :=
  if (nS (uS r e).1 (uS r e).2.1 11).2.1 ≠ 0 then ((nS (uS r e).1 (uS r e).2.1 11).1, (nS (uS r e).1 (uS r e).2.1 11).2.1, 0, 0)
  else if (uS r e).2.2 = 0 ∧ (nS (uS r e).1 (uS r e).2.1 11).2.2 ≠ 0 then ((nS (uS r e).1 (uS r e).2.1 11).1, 4, 0, 0)
  else ((nS (uS r e).1 (uS r e).2.1 11).1, 0, (uS r e).2.2, (nS (uS r e).1 (uS r e).2.1 11).2.2)
theorem getS_ways (r : ByteArray) (e : Nat) : ∃ a b c a2 b2 n, uS r e = (a, b, c) ∧ nS a b 11 = (a2, b2, n) ∧ a.size ≤ r.size ∧ n ≤ 11 ∧
    (b2 ≠ 0 ∧ getS r e = (a2, b2, 0, 0) ∨ b2 = 0 ∧ c = 0 ∧ n ≠ 0 ∧ getS r e = (a2, 4, 0, 0) ∨ b2 = 0 ∧ ¬ (c = 0 ∧ n ≠ 0) ∧ getS r e = (a2, 0, c, n)) := by
  have hl := uS_left r e
  obtain ⟨a, b, c, hu⟩ : ∃ a b c, uS r e = (a, b, c) := ⟨_, _, _, rfl⟩
  obtain ⟨a2, b2, n, hn⟩ : ∃ a2 b2 n, nS a b 11 = (a2, b2, n) := ⟨_, _, _, rfl⟩
  have hm := nS_most a b 11
  have hG : getS r e = if b2 ≠ 0 then (a2, b2, 0, 0) else if c = 0 ∧ n ≠ 0 then (a2, 4, 0, 0) else (a2, 0, c, n) := by
    unfold getS; rw [hu]; simp only; rw [hn]
  rw [hu] at hl
  rw [hn] at hm
  refine ⟨a, b, c, a2, b2, n, hu, hn, hl, by simp only at hm; omega, ?_⟩
  by_cases h1 : b2 ≠ 0
  · exact .inl ⟨h1, by rw [hG, if_pos h1]⟩
  · rw [if_neg h1] at hG
    by_cases h2 : c = 0 ∧ n ≠ 0
    · exact .inr (.inl ⟨by omega, h2.1, h2.2, by rw [hG, if_pos h2]⟩)
    · exact .inr (.inr ⟨by omega, h2, by rw [hG, if_neg h2]⟩)
def RGetIs (r : ByteArray) (e : Nat) (w : World) (en : Ending) (w' : World) : Prop :=
  en = .returned (.tuple #[.agg #[.string (getS r e).1, .int .i64 ((getS r e).2.1 : Nat)], .agg #[.int .u64 ((getS r e).2.2.1 : Nat), .int .i64 ((getS r e).2.2.2 : Nat)]]) ∧ Gr w w'
theorem rgetIs_mk {r a : ByteArray} {e b c n : Nat} {w w' : World} (h : Hid (getS r e = (a, b, c, n))) (hg : Gr w w') : RGetIs r e w (.returned (.tuple #[.agg #[.string a, .int .i64 (b : Int)], .agg #[.int .u64 (c : Int), .int .i64 (n : Int)]])) w' := by
  unfold RGetIs; rw [h.out]; exact ⟨rfl, hg⟩
set_option maxRecDepth 100000 in
set_option maxHeartbeats 2000000 in
theorem refGet_any (r : ByteArray) (e : Nat) (w : World) (hr : r.size ≤ 1000000) :
    Calls Try.prog 119 #[.agg #[.string r, .int .i64 (e : Int)]] w (RGetIs r e w) := by
  obtain ⟨a, b, c, a2, b2, n, hu, hn, hl, hn11, hways⟩ := getS_ways r e
  have UU := Lib.hid (fun w => ru_is hu w hr)
  have NN := Lib.hid (fun w => rn_is hn w (Nat.le_trans hl hr) (by decide))
  clear hu hn hl
  rcases hways with ⟨h1, hE⟩ | ⟨rfl, rfl, h3, hE⟩ | ⟨rfl, h2, hE⟩
  · have E := Lib.hid hE
    have t1 : ((b2 : Int) == 0) = false := by simp; omega
    have t2 : ((b2 : Int) != 0) = true := by simp; omega
    clear hE h1
    go_enter Try.func119, Try.ntmps119
    go_wp2_with fail
    refine (UU.out _).mono ?_
    rintro en w1 ⟨rfl, hg⟩
    have hA := ((Gr.refl ((w.alloc (.cells #[.string r, .int .i64 (e : Int)] 181)).alloc (.cells #[.string ⟨#[]⟩, .int .i64 0] 181))).alloc (.cells #[.int .u64 0, .int .i64 0] 78)).trans hg
    have o0 : w1.cell? ⟨w.heap.size + 1, 0, none⟩ = some (.string ⟨#[]⟩) := by simpa using hA.own.1 0 _ rfl
    have o1 : w1.cell? ⟨w.heap.size + 1, 1, none⟩ = some (.int .i64 0) := by simpa using hA.own.1 1 _ rfl
    have o2 : w1.frozen? ⟨w.heap.size + 1, 0, none⟩ = false := by simpa using hA.own.2.1 0
    have o3 : w1.frozen? ⟨w.heap.size + 1, 1, none⟩ = false := by simpa using hA.own.2.1 1
    have s2 : ((w.alloc (.cells #[.string r, .int .i64 (e : Int)] 181)).alloc (.cells #[.string ⟨#[]⟩, .int .i64 0] 181)).heap.size = w.heap.size + 1 + 1 := by simp
    have j0 := hg.own.1 0 _ rfl
    have j1 := hg.own.1 1 _ rfl
    have f0 := hg.own.2.1 0
    have f1 := hg.own.2.1 1
    rw [s2] at j0 j1 f0 f1
    have HG := Lib.hid (((((Gr.refl w).alloc (.cells #[.string r, .int .i64 (e : Int)] 181)).alloc (.cells #[.string ⟨#[]⟩, .int .i64 0] 181)).alloc (.cells #[.int .u64 0, .int .i64 0] 78)).trans hg)
    clear hg hA s2
    go_wp2_with fail
    refine (NN.out _).mono ?_
    rintro en w2 ⟨rfl, hg⟩
    have hx := ((Gr.refl w1).alloc (.cells #[.string a, .int .i64 (b : Nat)] 181)).trans hg
    replace o2 := (hx.frozen (o := 0) (cell_lt o0)).trans o2
    replace o3 := (hx.frozen (o := 1) (cell_lt o1)).trans o3
    replace f0 := (hx.frozen (o := 0) (cell_lt j0)).trans f0
    replace f1 := (hx.frozen (o := 1) (cell_lt j1)).trans f1
    replace o0 := hx.cell o0
    replace o1 := hx.cell o1
    replace j0 := hx.cell j0
    replace j1 := hx.cell j1
    have HG2 := Lib.hid (HG.out.trans hx)
    clear hg hx
    have ol := cell_lt o0
    have ol2 := cell_lt j0
    have hl1 : w.heap.size ≤ w.heap.size + 1 := Nat.le_succ _
    have hl2 : w.heap.size ≤ w.heap.size + 1 + 1 := Nat.le_add_right _ 2
    go_wp2
    exact bodyPost_ret (v := .tuple #[.agg #[.string a2, .int .i64 (b2 : Nat)], .agg #[.int .u64 (0 : Nat), .int .i64 (0 : Nat)]]) (by simp [results, Try.results119, go_sem, o0, o1, j0, j1, ol, ol2, Nat.ne_of_lt ol, Nat.ne_of_gt ol, Nat.ne_of_lt ol2, Nat.ne_of_gt ol2]) rfl (rgetIs_mk E (((((HG2.out.setCell hl1 _).setCell hl1 _).setCell hl2 _).setCell hl2 _).alloc _))
  · have E := Lib.hid hE
    have t1 : (0 : Int) < (n : Int) := by omega
    clear hE h3
    go_enter Try.func119, Try.ntmps119
    go_wp2_with fail
    refine (UU.out _).mono ?_
    rintro en w1 ⟨rfl, hg⟩
    have hA := ((Gr.refl ((w.alloc (.cells #[.string r, .int .i64 (e : Int)] 181)).alloc (.cells #[.string ⟨#[]⟩, .int .i64 0] 181))).alloc (.cells #[.int .u64 0, .int .i64 0] 78)).trans hg
    have o0 : w1.cell? ⟨w.heap.size + 1, 0, none⟩ = some (.string ⟨#[]⟩) := by simpa using hA.own.1 0 _ rfl
    have o1 : w1.cell? ⟨w.heap.size + 1, 1, none⟩ = some (.int .i64 0) := by simpa using hA.own.1 1 _ rfl
    have o2 : w1.frozen? ⟨w.heap.size + 1, 0, none⟩ = false := by simpa using hA.own.2.1 0
    have o3 : w1.frozen? ⟨w.heap.size + 1, 1, none⟩ = false := by simpa using hA.own.2.1 1
    have s2 : ((w.alloc (.cells #[.string r, .int .i64 (e : Int)] 181)).alloc (.cells #[.string ⟨#[]⟩, .int .i64 0] 181)).heap.size = w.heap.size + 1 + 1 := by simp
    have j0 := hg.own.1 0 _ rfl
    have j1 := hg.own.1 1 _ rfl
    have f0 := hg.own.2.1 0
    have f1 := hg.own.2.1 1
    rw [s2] at j0 j1 f0 f1
    have HG := Lib.hid (((((Gr.refl w).alloc (.cells #[.string r, .int .i64 (e : Int)] 181)).alloc (.cells #[.string ⟨#[]⟩, .int .i64 0] 181)).alloc (.cells #[.int .u64 0, .int .i64 0] 78)).trans hg)
    clear hg hA s2
    go_wp2_with fail
    refine (NN.out _).mono ?_
    rintro en w2 ⟨rfl, hg⟩
    have hx := ((Gr.refl w1).alloc (.cells #[.string a, .int .i64 (b : Nat)] 181)).trans hg
    replace o2 := (hx.frozen (o := 0) (cell_lt o0)).trans o2
    replace o3 := (hx.frozen (o := 1) (cell_lt o1)).trans o3
    replace f0 := (hx.frozen (o := 0) (cell_lt j0)).trans f0
    replace f1 := (hx.frozen (o := 1) (cell_lt j1)).trans f1
    replace o0 := hx.cell o0
    replace o1 := hx.cell o1
    replace j0 := hx.cell j0
    replace j1 := hx.cell j1
    have HG2 := Lib.hid (HG.out.trans hx)
    clear hg hx
    have ol := cell_lt o0
    have ol2 := cell_lt j0
    have hl1 : w.heap.size ≤ w.heap.size + 1 := Nat.le_succ _
    have hl2 : w.heap.size ≤ w.heap.size + 1 + 1 := Nat.le_add_right _ 2
    go_wp2
    exact bodyPost_ret (v := .tuple #[.agg #[.string a2, .int .i64 (4 : Nat)], .agg #[.int .u64 (0 : Nat), .int .i64 (0 : Nat)]]) (by simp [results, Try.results119, go_sem, o0, o1, j0, j1, ol, ol2, Nat.ne_of_lt ol, Nat.ne_of_gt ol, Nat.ne_of_lt ol2, Nat.ne_of_gt ol2]) rfl (rgetIs_mk E (((((HG2.out.setCell hl1 _).setCell hl1 _).setCell hl2 _).setCell hl2 _).alloc _))
  · rcases (show c = 0 ∧ n = 0 ∨ 0 < c by omega) with ⟨rfl, rfl⟩ | h5
    · have E := Lib.hid hE
      clear hE h2
      go_enter Try.func119, Try.ntmps119
      go_wp2_with fail
      refine (UU.out _).mono ?_
      rintro en w1 ⟨rfl, hg⟩
      have hA := ((Gr.refl ((w.alloc (.cells #[.string r, .int .i64 (e : Int)] 181)).alloc (.cells #[.string ⟨#[]⟩, .int .i64 0] 181))).alloc (.cells #[.int .u64 0, .int .i64 0] 78)).trans hg
      have o0 : w1.cell? ⟨w.heap.size + 1, 0, none⟩ = some (.string ⟨#[]⟩) := by simpa using hA.own.1 0 _ rfl
      have o1 : w1.cell? ⟨w.heap.size + 1, 1, none⟩ = some (.int .i64 0) := by simpa using hA.own.1 1 _ rfl
      have o2 : w1.frozen? ⟨w.heap.size + 1, 0, none⟩ = false := by simpa using hA.own.2.1 0
      have o3 : w1.frozen? ⟨w.heap.size + 1, 1, none⟩ = false := by simpa using hA.own.2.1 1
      have s2 : ((w.alloc (.cells #[.string r, .int .i64 (e : Int)] 181)).alloc (.cells #[.string ⟨#[]⟩, .int .i64 0] 181)).heap.size = w.heap.size + 1 + 1 := by simp
      have j0 := hg.own.1 0 _ rfl
      have j1 := hg.own.1 1 _ rfl
      have f0 := hg.own.2.1 0
      have f1 := hg.own.2.1 1
      rw [s2] at j0 j1 f0 f1
      have HG := Lib.hid (((((Gr.refl w).alloc (.cells #[.string r, .int .i64 (e : Int)] 181)).alloc (.cells #[.string ⟨#[]⟩, .int .i64 0] 181)).alloc (.cells #[.int .u64 0, .int .i64 0] 78)).trans hg)
      clear hg hA s2
      go_wp2_with fail
      refine (NN.out _).mono ?_
      rintro en w2 ⟨rfl, hg⟩
      have hx := ((Gr.refl w1).alloc (.cells #[.string a, .int .i64 (b : Nat)] 181)).trans hg
      replace o2 := (hx.frozen (o := 0) (cell_lt o0)).trans o2
      replace o3 := (hx.frozen (o := 1) (cell_lt o1)).trans o3
      replace f0 := (hx.frozen (o := 0) (cell_lt j0)).trans f0
      replace f1 := (hx.frozen (o := 1) (cell_lt j1)).trans f1
      replace o0 := hx.cell o0
      replace o1 := hx.cell o1
      replace j0 := hx.cell j0
      replace j1 := hx.cell j1
      have HG2 := Lib.hid (HG.out.trans hx)
      clear hg hx
      have ol := cell_lt o0
      have ol2 := cell_lt j0
      have hl1 : w.heap.size ≤ w.heap.size + 1 := Nat.le_succ _
      have hl2 : w.heap.size ≤ w.heap.size + 1 + 1 := Nat.le_add_right _ 2
      go_wp2
      exact bodyPost_ret (v := .tuple #[.agg #[.string a2, .int .i64 (0 : Nat)], .agg #[.int .u64 (0 : Nat), .int .i64 (0 : Nat)]]) (by simp [results, Try.results119, go_sem, o0, o1, j0, j1, ol, ol2, Nat.ne_of_lt ol, Nat.ne_of_gt ol, Nat.ne_of_lt ol2, Nat.ne_of_gt ol2]) rfl (rgetIs_mk E (((((HG2.out.setCell hl1 _).setCell hl1 _).setCell hl2 _).setCell hl2 _).alloc _))
    · have E := Lib.hid hE
      have t1 : ((c : Int) == 0) = false := by simp; omega
      clear hE h2
      go_enter Try.func119, Try.ntmps119
      go_wp2_with fail
      refine (UU.out _).mono ?_
      rintro en w1 ⟨rfl, hg⟩
      have hA := ((Gr.refl ((w.alloc (.cells #[.string r, .int .i64 (e : Int)] 181)).alloc (.cells #[.string ⟨#[]⟩, .int .i64 0] 181))).alloc (.cells #[.int .u64 0, .int .i64 0] 78)).trans hg
      have o0 : w1.cell? ⟨w.heap.size + 1, 0, none⟩ = some (.string ⟨#[]⟩) := by simpa using hA.own.1 0 _ rfl
      have o1 : w1.cell? ⟨w.heap.size + 1, 1, none⟩ = some (.int .i64 0) := by simpa using hA.own.1 1 _ rfl
      have o2 : w1.frozen? ⟨w.heap.size + 1, 0, none⟩ = false := by simpa using hA.own.2.1 0
      have o3 : w1.frozen? ⟨w.heap.size + 1, 1, none⟩ = false := by simpa using hA.own.2.1 1
      have s2 : ((w.alloc (.cells #[.string r, .int .i64 (e : Int)] 181)).alloc (.cells #[.string ⟨#[]⟩, .int .i64 0] 181)).heap.size = w.heap.size + 1 + 1 := by simp
      have j0 := hg.own.1 0 _ rfl
      have j1 := hg.own.1 1 _ rfl
      have f0 := hg.own.2.1 0
      have f1 := hg.own.2.1 1
      rw [s2] at j0 j1 f0 f1
      have HG := Lib.hid (((((Gr.refl w).alloc (.cells #[.string r, .int .i64 (e : Int)] 181)).alloc (.cells #[.string ⟨#[]⟩, .int .i64 0] 181)).alloc (.cells #[.int .u64 0, .int .i64 0] 78)).trans hg)
      clear hg hA s2
      go_wp2_with fail
      refine (NN.out _).mono ?_
      rintro en w2 ⟨rfl, hg⟩
      have hx := ((Gr.refl w1).alloc (.cells #[.string a, .int .i64 (b : Nat)] 181)).trans hg
      replace o2 := (hx.frozen (o := 0) (cell_lt o0)).trans o2
      replace o3 := (hx.frozen (o := 1) (cell_lt o1)).trans o3
      replace f0 := (hx.frozen (o := 0) (cell_lt j0)).trans f0
      replace f1 := (hx.frozen (o := 1) (cell_lt j1)).trans f1
      replace o0 := hx.cell o0
      replace o1 := hx.cell o1
      replace j0 := hx.cell j0
      replace j1 := hx.cell j1
      have HG2 := Lib.hid (HG.out.trans hx)
      clear hg hx
      have ol := cell_lt o0
      have ol2 := cell_lt j0
      have hl1 : w.heap.size ≤ w.heap.size + 1 := Nat.le_succ _
      have hl2 : w.heap.size ≤ w.heap.size + 1 + 1 := Nat.le_add_right _ 2
      go_wp2
      exact bodyPost_ret (v := .tuple #[.agg #[.string a2, .int .i64 (0 : Nat)], .agg #[.int .u64 (c : Nat), .int .i64 (n : Nat)]]) (by simp [results, Try.results119, go_sem, o0, o1, j0, j1, ol, ol2, Nat.ne_of_lt ol, Nat.ne_of_gt ol, Nat.ne_of_lt ol2, Nat.ne_of_gt ol2]) rfl (rgetIs_mk E (((((HG2.out.setCell hl1 _).setCell hl1 _).setCell hl2 _).setCell hl2 _).alloc _))
end Go.Proofs.Ytihhfdkcggnjpaa
namespace Go.Proofs.Ytihhfdkcggnjpaa
open Go.ChangeShapes Go.WideShapes Go.ChangeAt Go.RowKit
open Enc Bal
set_option linter.unusedVariables false
set_option linter.unusedSimpArgs false
theorem Only.setNew {p q o : Nat} {w w' : World} (h : Only p w w') (hq : w.heap.size ≤ q) (v : Value) : Only p w (w'.setCell ⟨q, o, none⟩ v) :=
  ⟨h.os, h.tape, h.output, by have := h.size; simpa [World.setCell] using this, fun k hk hp => by rw [Below.heap_setCell _ _ _ _ (by show k ≠ q; omega)]; exact h.block k hk hp⟩
theorem Only.frozen {p b o : Nat} {w w' : World} (h : Only p w w') (hb : b ≠ p) (hlt : b < w.heap.size) : w'.frozen? ⟨b, o, none⟩ = w.frozen? ⟨b, o, none⟩ :=
  World.frozen?_of_block (w := w) (a := ⟨b, o, none⟩) (h.block b hlt hb)
theorem nS_zero (r : ByteArray) (e : Nat) (most : Int) (h : (nS r e most).2.1 ≠ 0) : (nS r e most).2.2 = 0 := by
  have hz := uS_zero r e
  unfold nS at *
  split
  · rfl
  · rename_i h1
    rw [if_neg h1] at h
    exact hz h
theorem nIs_is {p : Nat} {r : ByteArray} {e : Nat} {most : Int} {w w' : World} {en : Ending} {a : ByteArray} {b c : Nat} (h : Hid (nS r e most = (a, b, c))) (hu : NIs p r e most w en w') : en = .returned (.int .i64 (c : Int)) ∧ RdIs w' p a b ∧ Only p w w' := by
  have := h.out
  unfold NIs at hu; rwa [this] at hu
def GetIs (p : Nat) (r : ByteArray) (e : Nat) (w : World) (en : Ending) (w' : World) : Prop :=
  en = .returned (.agg #[.int .u64 ((getS r e).2.2.1 : Nat), .int .i64 ((getS r e).2.2.2 : Nat)]) ∧ RdIs w' p (getS r e).1 (getS r e).2.1 ∧ Only p w w'
theorem getIs_mk {p : Nat} {r a : ByteArray} {e b c n : Nat} {w w' : World} (h : Hid (getS r e = (a, b, c, n))) (h1 : RdIs w' p a b) (h2 : Only p w w') : GetIs p r e w (.returned (.agg #[.int .u64 (c : Int), .int .i64 (n : Int)])) w' := by
  unfold GetIs; rw [h.out]; exact ⟨rfl, h1, h2⟩
theorem rd_set {w : World} {p q o : Nat} {r : ByteArray} {e : Nat} (h : RdIs w p r e) (hq : p ≠ q) (v : Value) : RdIs (w.setCell ⟨q, o, none⟩ v) p r e := h.only (Only.setCell q o w v) hq
set_option maxRecDepth 100000 in
set_option maxHeartbeats 2000000 in
theorem bGet_any (p : Nat) (r : ByteArray) (e : Nat) (w : World) (h : RdIs w p r e) :
    Calls Try.prog 136 #[.pointer (some ⟨p, 0, none⟩)] w (GetIs p r e w) := by
  obtain ⟨a, b, c, a2, b2, n, hu, hn, hl, hn11, hways⟩ := getS_ways r e
  have hnz := nS_zero a b 11
  rw [hn] at hnz
  simp only at hnz
  have hp : p < w.heap.size := cell_lt h.1
  have H0 := Lib.hid (h.gr ((Gr.refl w).alloc (.cells #[.int .u64 0, .int .i64 0] 50)))
  have HU := Lib.hid hu
  have HN := Lib.hid hn
  have hne : w.heap.size ≠ p := by omega
  have hne' : p ≠ w.heap.size := by omega
  clear h hu hn hl
  rcases hways with ⟨h1, hE⟩ | ⟨rfl, rfl, h3, hE⟩ | ⟨rfl, h2, hE⟩
  · obtain rfl := hnz h1
    have t9 : ((b2 : Int) != 0) = true := by simp; omega
    rcases (show c = 0 ∨ 0 < c by omega) with rfl | h5
    · have E := Lib.hid hE
      have hnone : decide (((0 : Nat) : Int) = 0 ∧ ((0 : Nat) : Int) = 0) = true := by simp
      clear hE hnz h1
      go_enter Try.func136, Try.ntmps136
      go_wp2_with fail
      refine (rU_any p r e _ H0.out).mono ?_
      intro en w1 hU
      obtain ⟨rfl, hR, hO⟩ := uIs_is HU hU
      clear hU
      have hz := Gr.refl (w.alloc (.cells #[.int .u64 0, .int .i64 0] 50))
      have o0 := hO.cell hne (hz.own.1 0 _ rfl)
      have o1 := hO.cell hne (hz.own.1 1 _ rfl)
      have o2 := (hO.frozen (o := 0) hne hz.own.2.2).trans (hz.own.2.1 0)
      have o3 := (hO.frozen (o := 1) hne hz.own.2.2).trans (hz.own.2.1 1)
      have HO := Lib.hid ((Only.of_gr (p := p) ((Gr.refl w).alloc (.cells #[.int .u64 0, .int .i64 0] 50))).trans hO)
      clear hO hz
      have HR := Lib.hid hR
      clear hR
      go_wp2_with fail
      refine (rN_any p a b 11 (by decide) _ HR.out).mono ?_
      intro en w2 hNN
      obtain ⟨rfl, hR, hO⟩ := nIs_is HN hNN
      clear hNN
      replace o2 := (hO.frozen (o := 0) hne (cell_lt o0)).trans o2
      replace o3 := (hO.frozen (o := 1) hne (cell_lt o1)).trans o3
      replace o0 := hO.cell hne o0
      replace o1 := hO.cell hne o1
      have HO2 := Lib.hid (HO.out.trans hO)
      have hz := (Gr.refl w2).alloc (.cells #[.int .u64 (0 : Nat), .int .i64 (0 : Nat)] 50)
      have HRr := Lib.hid hR
      have HR2 := Lib.hid (hR.gr hz)
      have HO3 := Lib.hid (HO2.out.trans (Only.of_gr hz))
      clear hO hR hz
      have ol := cell_lt o0
      go_wp2_with fail
      refine (none08_any (0 : Nat) (0 : Nat) _).mono ?_
      rintro en w3 ⟨rfl, hg⟩
      rw [hnone]
      have hx := ((Gr.refl w2).alloc (.cells #[.int .u64 (0 : Nat), .int .i64 (0 : Nat)] 50)).trans hg
      have l0 := hg.own.1 0 _ rfl
      have l1 := hg.own.1 1 _ rfl
      replace o2 := (hx.frozen (o := 0) (cell_lt o0)).trans o2
      replace o3 := (hx.frozen (o := 1) (cell_lt o1)).trans o3
      replace o0 := hx.cell o0
      replace o1 := hx.cell o1
      have HR3 := Lib.hid (HR2.out.gr hg)
      have HO4 := Lib.hid (HO3.out.trans (Only.of_gr hg))
      clear hx hg
      go_wp2_with fail
      refine (err_any p a2 b2 _ HR3.out).mono ?_
      rintro en w9 ⟨rfl, rfl⟩
      go_wp2
      exact bodyPost_ret (v := .agg #[.int .u64 (0 : Nat), .int .i64 (0 : Nat)]) (by simp [results, Try.results136, go_sem, o0, o1, ol, Nat.ne_of_lt ol, Nat.ne_of_gt ol]) rfl (getIs_mk E (rd_set (rd_set HR3.out hne' _) hne' _) ((HO4.out.setNew (Nat.le_refl _) _).setNew (Nat.le_refl _) _))
    · have E := Lib.hid hE
      have t1 : ((c : Int) == 0) = false := by simp; omega
      clear hE hnz h1
      go_enter Try.func136, Try.ntmps136
      go_wp2_with fail
      refine (rU_any p r e _ H0.out).mono ?_
      intro en w1 hU
      obtain ⟨rfl, hR, hO⟩ := uIs_is HU hU
      clear hU
      have hz := Gr.refl (w.alloc (.cells #[.int .u64 0, .int .i64 0] 50))
      have o0 := hO.cell hne (hz.own.1 0 _ rfl)
      have o1 := hO.cell hne (hz.own.1 1 _ rfl)
      have o2 := (hO.frozen (o := 0) hne hz.own.2.2).trans (hz.own.2.1 0)
      have o3 := (hO.frozen (o := 1) hne hz.own.2.2).trans (hz.own.2.1 1)
      have HO := Lib.hid ((Only.of_gr (p := p) ((Gr.refl w).alloc (.cells #[.int .u64 0, .int .i64 0] 50))).trans hO)
      clear hO hz
      have HR := Lib.hid hR
      clear hR
      go_wp2_with fail
      refine (rN_any p a b 11 (by decide) _ HR.out).mono ?_
      intro en w2 hNN
      obtain ⟨rfl, hR, hO⟩ := nIs_is HN hNN
      clear hNN
      replace o2 := (hO.frozen (o := 0) hne (cell_lt o0)).trans o2
      replace o3 := (hO.frozen (o := 1) hne (cell_lt o1)).trans o3
      replace o0 := hO.cell hne o0
      replace o1 := hO.cell hne o1
      have HO2 := Lib.hid (HO.out.trans hO)
      have hz := (Gr.refl w2).alloc (.cells #[.int .u64 (c : Nat), .int .i64 (0 : Nat)] 50)
      have HRr := Lib.hid hR
      have HR2 := Lib.hid (hR.gr hz)
      have HO3 := Lib.hid (HO2.out.trans (Only.of_gr hz))
      clear hO hR hz
      have ol := cell_lt o0
      go_wp2_with fail
      refine (err_any p a2 b2 _ HR2.out).mono ?_
      rintro en w9 ⟨rfl, rfl⟩
      go_wp2
      exact bodyPost_ret (v := .agg #[.int .u64 (0 : Nat), .int .i64 (0 : Nat)]) (by simp [results, Try.results136, go_sem, o0, o1, ol, Nat.ne_of_lt ol, Nat.ne_of_gt ol]) rfl (getIs_mk E ((rd_set (rd_set HRr.out hne' _) hne' _).gr ((Gr.refl _).alloc _)) (((HO2.out.setNew (Nat.le_refl _) _).setNew (Nat.le_refl _) _).trans (Only.of_gr ((Gr.refl _).alloc _))))
  · have E := Lib.hid hE
    have hnone : decide (((0 : Nat) : Int) = 0 ∧ (n : Int) = 0) = false := by simp; omega
    have t1 : (0 : Int) < n := by omega
    clear hE hnz
    go_enter Try.func136, Try.ntmps136
    go_wp2_with fail
    refine (rU_any p r e _ H0.out).mono ?_
    intro en w1 hU
    obtain ⟨rfl, hR, hO⟩ := uIs_is HU hU
    clear hU
    have hz := Gr.refl (w.alloc (.cells #[.int .u64 0, .int .i64 0] 50))
    have o0 := hO.cell hne (hz.own.1 0 _ rfl)
    have o1 := hO.cell hne (hz.own.1 1 _ rfl)
    have o2 := (hO.frozen (o := 0) hne hz.own.2.2).trans (hz.own.2.1 0)
    have o3 := (hO.frozen (o := 1) hne hz.own.2.2).trans (hz.own.2.1 1)
    have HO := Lib.hid ((Only.of_gr (p := p) ((Gr.refl w).alloc (.cells #[.int .u64 0, .int .i64 0] 50))).trans hO)
    clear hO hz
    have HR := Lib.hid hR
    clear hR
    go_wp2_with fail
    refine (rN_any p a b 11 (by decide) _ HR.out).mono ?_
    intro en w2 hNN
    obtain ⟨rfl, hR, hO⟩ := nIs_is HN hNN
    clear hNN
    replace o2 := (hO.frozen (o := 0) hne (cell_lt o0)).trans o2
    replace o3 := (hO.frozen (o := 1) hne (cell_lt o1)).trans o3
    replace o0 := hO.cell hne o0
    replace o1 := hO.cell hne o1
    have HO2 := Lib.hid (HO.out.trans hO)
    have hz := (Gr.refl w2).alloc (.cells #[.int .u64 (0 : Nat), .int .i64 (n : Nat)] 50)
    have HRr := Lib.hid hR
    have HR2 := Lib.hid (hR.gr hz)
    have HO3 := Lib.hid (HO2.out.trans (Only.of_gr hz))
    clear hO hR hz
    have ol := cell_lt o0
    go_wp2_with fail
    refine (none08_any (0 : Nat) (n : Nat) _).mono ?_
    rintro en w3 ⟨rfl, hg⟩
    rw [hnone]
    have hx := ((Gr.refl w2).alloc (.cells #[.int .u64 (0 : Nat), .int .i64 (n : Nat)] 50)).trans hg
    have l0 := hg.own.1 0 _ rfl
    have l1 := hg.own.1 1 _ rfl
    replace o2 := (hx.frozen (o := 0) (cell_lt o0)).trans o2
    replace o3 := (hx.frozen (o := 1) (cell_lt o1)).trans o3
    replace o0 := hx.cell o0
    replace o1 := hx.cell o1
    have HR3 := Lib.hid (HR2.out.gr hg)
    have HO4 := Lib.hid (HO3.out.trans (Only.of_gr hg))
    clear hx hg
    have hl : w2.heap.size ≠ p := by have := HO2.out.size; omega
    go_wp2_with fail
    refine (fail_zero p 4 a2 _ rfl _ HR3.out).mono ?_
    rintro en w4 ⟨rfl, hR, hO⟩
    replace l0 := hO.cell hl l0
    replace l1 := hO.cell hl l1
    replace o2 := (hO.frozen (o := 0) hne (cell_lt o0)).trans o2
    replace o3 := (hO.frozen (o := 1) hne (cell_lt o1)).trans o3
    replace o0 := hO.cell hne o0
    replace o1 := hO.cell hne o1
    have HR4 := Lib.hid hR
    have HO5 := Lib.hid (HO4.out.trans hO)
    clear hO hR
    go_wp2_with fail
    refine (err_any p a2 4 _ HR4.out).mono ?_
    rintro en w9 ⟨rfl, rfl⟩
    go_wp2
    exact bodyPost_ret (v := .agg #[.int .u64 (0 : Nat), .int .i64 (0 : Nat)]) (by simp [results, Try.results136, go_sem, o0, o1, ol, Nat.ne_of_lt ol, Nat.ne_of_gt ol]) rfl (getIs_mk E (rd_set (rd_set HR4.out hne' _) hne' _) ((HO5.out.setNew (Nat.le_refl _) _).setNew (Nat.le_refl _) _))
  · rcases (show c = 0 ∧ n = 0 ∨ 0 < c by omega) with ⟨rfl, rfl⟩ | h5
    · have E := Lib.hid hE
      have hnone : decide (((0 : Nat) : Int) = 0 ∧ ((0 : Nat) : Int) = 0) = true := by simp
      clear hE hnz h2
      go_enter Try.func136, Try.ntmps136
      go_wp2_with fail
      refine (rU_any p r e _ H0.out).mono ?_
      intro en w1 hU
      obtain ⟨rfl, hR, hO⟩ := uIs_is HU hU
      clear hU
      have hz := Gr.refl (w.alloc (.cells #[.int .u64 0, .int .i64 0] 50))
      have o0 := hO.cell hne (hz.own.1 0 _ rfl)
      have o1 := hO.cell hne (hz.own.1 1 _ rfl)
      have o2 := (hO.frozen (o := 0) hne hz.own.2.2).trans (hz.own.2.1 0)
      have o3 := (hO.frozen (o := 1) hne hz.own.2.2).trans (hz.own.2.1 1)
      have HO := Lib.hid ((Only.of_gr (p := p) ((Gr.refl w).alloc (.cells #[.int .u64 0, .int .i64 0] 50))).trans hO)
      clear hO hz
      have HR := Lib.hid hR
      clear hR
      go_wp2_with fail
      refine (rN_any p a b 11 (by decide) _ HR.out).mono ?_
      intro en w2 hNN
      obtain ⟨rfl, hR, hO⟩ := nIs_is HN hNN
      clear hNN
      replace o2 := (hO.frozen (o := 0) hne (cell_lt o0)).trans o2
      replace o3 := (hO.frozen (o := 1) hne (cell_lt o1)).trans o3
      replace o0 := hO.cell hne o0
      replace o1 := hO.cell hne o1
      have HO2 := Lib.hid (HO.out.trans hO)
      have hz := (Gr.refl w2).alloc (.cells #[.int .u64 (0 : Nat), .int .i64 (0 : Nat)] 50)
      have HRr := Lib.hid hR
      have HR2 := Lib.hid (hR.gr hz)
      have HO3 := Lib.hid (HO2.out.trans (Only.of_gr hz))
      clear hO hR hz
      have ol := cell_lt o0
      go_wp2_with fail
      refine (none08_any (0 : Nat) (0 : Nat) _).mono ?_
      rintro en w3 ⟨rfl, hg⟩
      rw [hnone]
      have hx := ((Gr.refl w2).alloc (.cells #[.int .u64 (0 : Nat), .int .i64 (0 : Nat)] 50)).trans hg
      have l0 := hg.own.1 0 _ rfl
      have l1 := hg.own.1 1 _ rfl
      replace o2 := (hx.frozen (o := 0) (cell_lt o0)).trans o2
      replace o3 := (hx.frozen (o := 1) (cell_lt o1)).trans o3
      replace o0 := hx.cell o0
      replace o1 := hx.cell o1
      have HR3 := Lib.hid (HR2.out.gr hg)
      have HO4 := Lib.hid (HO3.out.trans (Only.of_gr hg))
      clear hx hg
      go_wp2_with fail
      refine (err_any p a2 0 _ HR3.out).mono ?_
      rintro en w9 ⟨rfl, rfl⟩
      go_wp2
      exact bodyPost_ret (v := .agg #[.int .u64 (0 : Nat), .int .i64 (0 : Nat)]) (by simp [results, Try.results136, go_sem, o0, o1, ol, Nat.ne_of_lt ol, Nat.ne_of_gt ol]) rfl (getIs_mk E (rd_set (rd_set HR3.out hne' _) hne' _) ((HO4.out.setNew (Nat.le_refl _) _).setNew (Nat.le_refl _) _))
    · have E := Lib.hid hE
      have t1 : ((c : Int) == 0) = false := by simp; omega
      clear hE hnz h2
      go_enter Try.func136, Try.ntmps136
      go_wp2_with fail
      refine (rU_any p r e _ H0.out).mono ?_
      intro en w1 hU
      obtain ⟨rfl, hR, hO⟩ := uIs_is HU hU
      clear hU
      have hz := Gr.refl (w.alloc (.cells #[.int .u64 0, .int .i64 0] 50))
      have o0 := hO.cell hne (hz.own.1 0 _ rfl)
      have o1 := hO.cell hne (hz.own.1 1 _ rfl)
      have o2 := (hO.frozen (o := 0) hne hz.own.2.2).trans (hz.own.2.1 0)
      have o3 := (hO.frozen (o := 1) hne hz.own.2.2).trans (hz.own.2.1 1)
      have HO := Lib.hid ((Only.of_gr (p := p) ((Gr.refl w).alloc (.cells #[.int .u64 0, .int .i64 0] 50))).trans hO)
      clear hO hz
      have HR := Lib.hid hR
      clear hR
      go_wp2_with fail
      refine (rN_any p a b 11 (by decide) _ HR.out).mono ?_
      intro en w2 hNN
      obtain ⟨rfl, hR, hO⟩ := nIs_is HN hNN
      clear hNN
      replace o2 := (hO.frozen (o := 0) hne (cell_lt o0)).trans o2
      replace o3 := (hO.frozen (o := 1) hne (cell_lt o1)).trans o3
      replace o0 := hO.cell hne o0
      replace o1 := hO.cell hne o1
      have HO2 := Lib.hid (HO.out.trans hO)
      have hz := (Gr.refl w2).alloc (.cells #[.int .u64 (c : Nat), .int .i64 (n : Nat)] 50)
      have HRr := Lib.hid hR
      have HR2 := Lib.hid (hR.gr hz)
      have HO3 := Lib.hid (HO2.out.trans (Only.of_gr hz))
      clear hO hR hz
      have ol := cell_lt o0
      go_wp2_with fail
      refine (err_any p a2 0 _ HR2.out).mono ?_
      rintro en w9 ⟨rfl, rfl⟩
      go_wp2
      exact bodyPost_ret (v := .agg #[.int .u64 (c : Nat), .int .i64 (n : Nat)]) (by simp [results, Try.results136, go_sem, o0, o1, ol, Nat.ne_of_lt ol, Nat.ne_of_gt ol]) rfl (getIs_mk E ((rd_set (rd_set HRr.out hne' _) hne' _).gr ((Gr.refl _).alloc _)) (((HO2.out.setNew (Nat.le_refl _) _).setNew (Nat.le_refl _) _).trans (Only.of_gr ((Gr.refl _).alloc _))))
end Go.Proofs.Ytihhfdkcggnjpaa
namespace Go.Proofs.Ytihhfdkcggnjpaa
open Go.ChangeShapes Go.WideShapes Go.ChangeAt Go.RowKit
open Enc Bal
set_option linter.unusedVariables false
set_option linter.unusedSimpArgs false
theorem nat_wf {n : Nat} (h : n ≤ 11) : (Lit.int .i64 (n : Int)).wf = true := by
  simp [Lit.wf, IntKind.min, IntKind.max, IntKind.signed, IntKind.bits]
  omega
set_option maxRecDepth 100000 in
set_option maxHeartbeats 1000000 in
theorem refPut_any (c n : Nat) (w : World) (hc : c < 18446744073709551616) (hn : n ≤ 11) :
    Calls Try.prog 133 #[.agg #[.int .u64 c, .int .i64 n]] w fun e w' => e = .returned (.string (ofL (encU c ++ encN n))) ∧ Gr w w' := by
  have HV := Lib.hid (ofL_app (encU c) (encN (n : Int))).symm
  have CU := Lib.hid (fun w => refU_any c w hc)
  have CN := Lib.hid (fun w => refN_any (n : Int) w (nat_wf hn))
  have s1 : (ofL (encU c)).size ≤ 9 := by rw [ofL_size]; exact encU_le c
  have s2 : (ofL (encN (n : Int))).size ≤ 9 := by rw [ofL_size]; exact encU_le _
  generalize ofL (encU c) = X at *
  generalize ofL (encN (n : Int)) = Y at *
  go_enter Try.func133, Try.ntmps133
  go_wp2
  have hz := Gr.refl (w.alloc (.cells #[.int .u64 (c : Nat), .int .i64 (n : Nat)] 78))
  have k0 := hz.own.1 0 _ rfl
  have k1 := hz.own.1 1 _ rfl
  have HG0 := Lib.hid ((Gr.refl w).alloc (.cells #[.int .u64 (c : Nat), .int .i64 (n : Nat)] 78))
  clear hz
  generalize w.heap.size = b at *
  generalize w.alloc (.cells #[.int .u64 (c : Nat), .int .i64 (n : Nat)] 78) = wz at *
  have HX : Hid (∀ w0 w9 : World, Gr w0 w9 → (fun w9 => Gr wz w9 ∧ w9.cell? ⟨b, 0, none⟩ = some (.int .u64 (c : Nat)) ∧ w9.cell? ⟨b, 1, none⟩ = some (.int .i64 (n : Nat))) w0 → (fun w9 => Gr wz w9 ∧ w9.cell? ⟨b, 0, none⟩ = some (.int .u64 (c : Nat)) ∧ w9.cell? ⟨b, 1, none⟩ = some (.int .i64 (n : Nat))) w9) := Lib.hid fun w0 w9 hg ⟨h, q0, q1⟩ => ⟨h.trans hg, hg.cell q0, hg.cell q1⟩
  have HS0 := And.intro (Gr.refl wz) (And.intro (k0) (k1))
  clear k0 k1
  refine wp_region_held_drew (S := (fun w9 => Gr wz w9 ∧ w9.cell? ⟨b, 0, none⟩ = some (.int .u64 (c : Nat)) ∧ w9.cell? ⟨b, 1, none⟩ = some (.int .i64 (n : Nat)))) (by kernel_rfl) ?inva (fun h0 => ?_)
  case inva => ((try dsimp only); (first | exact HS0 | exact HX.out _ _ ((Gr.refl _).drew) HS0))
  refine wpAnyH_take (i := 0) (oi := { dst := some 3, op := Go.Op.fieldAddr 78 (Go.Operand.tmp 1) 0, type := 0, pos := "ref.go:31", after := #[], guard := none }) (v := ?va1) rfl (by kernel_rfl) (by kernel_rfl) (by kernel_rfl) (fun _ _ _ h => h) (Or.inl ⟨by rfl, ?ra1⟩) (by assumption) ?_
  case ra1 => (intro w hSw; (try dsimp only at hSw); (go_simp <;> with_reducible rfl))
  try simp only [Act.put, List.setIfInBounds_toArray, List.set_cons_zero, List.set_cons_succ]
  refine wpAnyH_take (i := 1) (oi := { dst := some 4, op := Go.Op.load 48 (Go.Operand.tmp 3), type := 48, pos := "ref.go:31", after := #[{ on := 0, ground := Go.Ground.data }], guard := none }) (v := ?va2) rfl (by kernel_rfl) (by kernel_rfl) (by kernel_rfl) (fun _ _ _ h => h) (Or.inl ⟨by rfl, ?ra2⟩) (by assumption) ?_
  case ra2 => (intro w hSw; (try dsimp only at hSw); (go_simp <;> with_reducible rfl))
  try simp only [Act.put, List.setIfInBounds_toArray, List.set_cons_zero, List.set_cons_succ]
  refine wpAnyH_take (i := 3) (oi := { dst := some 6, op := Go.Op.fieldAddr 78 (Go.Operand.tmp 1) 1, type := 0, pos := "ref.go:31", after := #[], guard := none }) (v := ?va3) rfl (by kernel_rfl) (by kernel_rfl) (by kernel_rfl) (fun _ _ _ h => h) (Or.inl ⟨by rfl, ?ra3⟩) (by assumption) ?_
  case ra3 => (intro w hSw; (try dsimp only at hSw); (go_simp <;> with_reducible rfl))
  try simp only [Act.put, List.setIfInBounds_toArray, List.set_cons_zero, List.set_cons_succ]
  refine wpAnyH_take (i := 4) (oi := { dst := some 7, op := Go.Op.load 3 (Go.Operand.tmp 6), type := 3, pos := "ref.go:31", after := #[{ on := 3, ground := Go.Ground.data }], guard := none }) (v := ?va4) rfl (by kernel_rfl) (by kernel_rfl) (by kernel_rfl) (fun _ _ _ h => h) (Or.inl ⟨by rfl, ?ra4⟩) (by assumption) ?_
  case ra4 => (intro w hSw; (try dsimp only at hSw); (go_simp <;> with_reducible rfl))
  try simp only [Act.put, List.setIfInBounds_toArray, List.set_cons_zero, List.set_cons_succ]
  refine wpAnyH_ready (rs := [2]) (by kernel_rfl) (by simp) ?_
  refine AllReadyH.cons (o := { dst := some 5, op := Go.Op.call { callee := Go.Callee.value (Go.Operand.func 190), args := #[Go.Operand.tmp 4], argTypes := #[48] }, type := 9, pos := "ref.go:31", after := #[{ on := 1, ground := Go.Ground.data }], guard := none }) rfl (fun K hK => ?_) AllReadyH.nil
  go_simp
  (go_at_call 190; refine (CU.out _).mono ?_; rintro e w9 ⟨rfl, hgN⟩)
  first | refine hK.out _ _ ?sa5 (fun h5 => ?_) | (go_wp2_with fail; refine hK.out _ _ ?sa5 (fun h5 => ?_))
  case sa5 => ((try dsimp only); exact HX.out _ _ hgN h0)
  clear hK K h0
  try simp only [Act.put, List.setIfInBounds_toArray, List.set_cons_zero, List.set_cons_succ]
  refine wpAnyH_ready (rs := [5]) (by kernel_rfl) (by simp) ?_
  refine AllReadyH.cons (o := { dst := some 8, op := Go.Op.call { callee := Go.Callee.value (Go.Operand.func 134), args := #[Go.Operand.tmp 7], argTypes := #[3] }, type := 9, pos := "ref.go:31", after := #[{ on := 4, ground := Go.Ground.data }, { on := 2, ground := Go.Ground.chain }], guard := none }) rfl (fun K hK => ?_) AllReadyH.nil
  go_simp
  (go_at_call 134; refine (CN.out _).mono ?_; rintro e w9 ⟨rfl, hgN⟩)
  first | refine hK.out _ _ ?sa6 (fun h6 => ?_) | (go_wp2_with fail; refine hK.out _ _ ?sa6 (fun h6 => ?_))
  case sa6 => ((try dsimp only); exact HX.out _ _ hgN h5)
  clear hK K h5
  try simp only [Act.put, List.setIfInBounds_toArray, List.set_cons_zero, List.set_cons_succ]
  refine wpAnyH_take (i := 6) (oi := { dst := some 9, op := Go.Op.binOp Go.BinOp.add 9 (Go.Operand.tmp 5) (Go.Operand.tmp 8) 9, type := 9, pos := "ref.go:31", after := #[{ on := 2, ground := Go.Ground.data }, { on := 5, ground := Go.Ground.data }], guard := none }) (v := (.string (X ++ Y))) rfl (by kernel_rfl) (by kernel_rfl) (by kernel_rfl) (fun _ _ _ h => h) (Or.inl ⟨by rfl, ?ra7⟩) (by assumption) ?_
  case ra7 => (intro w hSw; (try dsimp only at hSw); go_simp; omega)
  try simp only [Act.put, List.setIfInBounds_toArray, List.set_cons_zero, List.set_cons_succ]
  refine wpAnyH_take (i := 7) (oi := { dst := some 2, op := Go.Op.assign (Go.Operand.tmp 9), type := 9, pos := "ref.go:31", after := #[{ on := 6, ground := Go.Ground.data }, { on := 5, ground := Go.Ground.chain }, { on := 0, ground := Go.Ground.phase }, { on := 1, ground := Go.Ground.phase }, { on := 2, ground := Go.Ground.phase }, { on := 3, ground := Go.Ground.phase }, { on := 4, ground := Go.Ground.phase }, { on := 5, ground := Go.Ground.phase }, { on := 6, ground := Go.Ground.phase }], guard := none }) (v := ?va8) rfl (by kernel_rfl) (by kernel_rfl) (by kernel_rfl) (fun _ _ _ h => h) (Or.inl ⟨by rfl, ?ra8⟩) (by assumption) ?_
  case ra8 => (intro w hSw; (try dsimp only at hSw); (go_simp <;> with_reducible rfl))
  try simp only [Act.put, List.setIfInBounds_toArray, List.set_cons_zero, List.set_cons_succ]
  refine wpAnyH_done (by kernel_rfl) ?_ _
  have G9 := Lib.hid (h6).1
  clear h6
  go_wp2
  go_ret
  exact ⟨by rw [HV.out]; rfl, HG0.out.trans G9.out⟩
theorem wrLt {w : World} {p : Nat} {l : List UInt8} (h : WrIs w p l) : p < w.heap.size := by obtain ⟨_, _, _, _, hp, _⟩ := h; exact hp
theorem wN_1 (p v b : Nat) (l : List UInt8) (w : World) (h : WrIs w p l) (hb : b ≠ p) (hfr : Free w p b) (hc : w.cell? ⟨b, 0, none⟩ = some (.int .i64 (v : Int))) (hl : l.length ≤ 1000000) (hv : v ≤ 1000) :
    Calls Try.prog 109 #[.pointer (some ⟨p, 0, none⟩), .slice (some ⟨b, 0, none⟩) 1 1] w fun e w' => e = .returned (.pointer (some ⟨p, 0, none⟩)) ∧ WrIs w' p (l ++ encN (v : Int)) ∧ Below p w w' ∧ Keeps p w w' := by
  have := wN_any p b 0 [(v : Int)] l w h hb hfr (by intro i hi; match i, hi with | 0, _ => exact hc) hl (by simp) (by intro x hx; simp at hx; omega)
  have e1 : encNs [(v : Int)] = encN (v : Int) := by simp [encNs]
  rwa [e1] at this
theorem free_gr {w w' : World} {p b : Nat} {l : List UInt8} (hW : WrIs w p l) (hg : Gr w w') (hf : Free w p b) : Free w' p b := by
  obtain ⟨a, cap, hc, _⟩ := hW
  intro v hv
  have := hg.cell hc
  rw [this] at hv
  cases hv
  exact hf _ hc
set_option maxRecDepth 100000 in
set_option maxHeartbeats 2000000 in
theorem bPut_any (p c n : Nat) (l : List UInt8) (w : World) (h : WrIs w p l) (hl : l.length ≤ 100000) (hn : n ≤ 11) :
    Calls Try.prog 108 #[.agg #[.int .u64 c, .int .i64 n], .pointer (some ⟨p, 0, none⟩)] w fun e w' => e = .returned (.tuple #[]) ∧ WrIs w' p (l ++ encU c ++ encN n) ∧ Below p w w' := by
  have hul := encU_le c
  have hp := wrLt h
  go_enter Try.func108, Try.ntmps108
  go_wp2
  have hg := (Gr.refl w).alloc (.cells #[.int .u64 (c : Nat), .int .i64 (n : Nat)] 50)
  have hz := Gr.refl (w.alloc (.cells #[.int .u64 (c : Nat), .int .i64 (n : Nat)] 50))
  have k0 := hz.own.1 0 _ rfl
  have k1 := hz.own.1 1 _ rfl
  have hFb := free_new h (.cells #[.int .u64 (c : Nat), .int .i64 (n : Nat)] 50)
  have hW := h.gr hg
  have HW0 := Lib.hid hW
  have HB0 := Lib.hid ((hg.below).mono (Nat.le_of_lt hp))
  have hbp : w.heap.size ≠ p := by omega
  clear hg hz h
  generalize w.heap.size = b at *
  generalize w.alloc (.cells #[.int .u64 (c : Nat), .int .i64 (n : Nat)] 50) = wz at *
  refine wp_region_held_drew (S := (fun w9 => w9.cell? ⟨b, 0, none⟩ = some (.int .u64 (c : Nat)) ∧ w9.cell? ⟨b, 1, none⟩ = some (.int .i64 (n : Nat)))) (by kernel_rfl) ?invp (fun h0 => ?_)
  case invp => exact ⟨k0, k1⟩
  have gd := (Gr.refl wz).drew
  replace hW := hW.gr gd
  replace hFb := free_gr HW0.out gd hFb
  have HB := Lib.hid (HB0.out.trans ((gd.below).mono (Nat.le_of_lt (wrLt HW0.out))))
  clear gd
  generalize wz.drew = wd at *
  refine wpAnyH_take (i := 0) (oi := { dst := some 4, op := Go.Op.move (Go.Operand.tmp 1), type := 113, pos := "ballot.go:54", after := #[], guard := none }) (v := ?vp0) rfl (by kernel_rfl) (by kernel_rfl) (by kernel_rfl) (fun _ _ _ h => h) (Or.inl ⟨by rfl, ?rp0⟩) (by assumption) ?_
  case rp0 => (intro w hSw; (try dsimp only at hSw); (go_simp <;> with_reducible rfl))
  try simp only [Act.put, List.setIfInBounds_toArray, List.set_cons_zero, List.set_cons_succ]
  refine wpAnyH_take (i := 1) (oi := { dst := some 5, op := Go.Op.fieldAddr 50 (Go.Operand.tmp 2) 0, type := 0, pos := "ballot.go:54", after := #[], guard := none }) (v := ?vp1) rfl (by kernel_rfl) (by kernel_rfl) (by kernel_rfl) (fun _ _ _ h => h) (Or.inl ⟨by rfl, ?rp1⟩) (by assumption) ?_
  case rp1 => (intro w hSw; (try dsimp only at hSw); (go_simp <;> with_reducible rfl))
  try simp only [Act.put, List.setIfInBounds_toArray, List.set_cons_zero, List.set_cons_succ]
  refine wpAnyH_take (i := 2) (oi := { dst := some 6, op := Go.Op.load 48 (Go.Operand.tmp 5), type := 48, pos := "ballot.go:54", after := #[{ on := 1, ground := Go.Ground.data }], guard := none }) (v := ?vp2) rfl (by kernel_rfl) (by kernel_rfl) (by kernel_rfl) (fun _ _ _ h => h) (Or.inl ⟨by rfl, ?rp2⟩) (by assumption) ?_
  case rp2 => (intro w hSw; (try dsimp only at hSw); (go_simp <;> with_reducible rfl))
  try simp only [Act.put, List.setIfInBounds_toArray, List.set_cons_zero, List.set_cons_succ]
  refine wpAnyH_take (i := 5) (oi := { dst := some 9, op := Go.Op.fieldAddr 50 (Go.Operand.tmp 2) 1, type := 0, pos := "ballot.go:54", after := #[], guard := none }) (v := ?vp5) rfl (by kernel_rfl) (by kernel_rfl) (by kernel_rfl) (fun _ _ _ h => h) (Or.inl ⟨by rfl, ?rp5⟩) (by assumption) ?_
  case rp5 => (intro w hSw; (try dsimp only at hSw); (go_simp <;> with_reducible rfl))
  try simp only [Act.put, List.setIfInBounds_toArray, List.set_cons_zero, List.set_cons_succ]
  refine wpAnyH_take (i := 6) (oi := { dst := some 10, op := Go.Op.load 3 (Go.Operand.tmp 9), type := 3, pos := "ballot.go:54", after := #[{ on := 5, ground := Go.Ground.data }], guard := none }) (v := ?vp6) rfl (by kernel_rfl) (by kernel_rfl) (by kernel_rfl) (fun _ _ _ h => h) (Or.inl ⟨by rfl, ?rp6⟩) (by assumption) ?_
  case rp6 => (intro w hSw; (try dsimp only at hSw); (go_simp <;> with_reducible rfl))
  try simp only [Act.put, List.setIfInBounds_toArray, List.set_cons_zero, List.set_cons_succ]
  refine wpAnyH_ready (rs := [3, 7]) (by kernel_rfl) (by simp) ?_
  refine AllReadyH.cons (o := { dst := some 7, op := Go.Op.buildSlice 252 1 #[(0, Go.Operand.tmp 6)], type := 252, pos := "ballot.go:54", after := #[{ on := 2, ground := Go.Ground.data }], guard := none }) rfl (fun K hK => ?_) (AllReadyH.cons (o := { dst := some 11, op := Go.Op.buildSlice 135 1 #[(0, Go.Operand.tmp 10)], type := 135, pos := "ballot.go:54", after := #[{ on := 6, ground := Go.Ground.data }], guard := none }) rfl (fun K hK => ?_) AllReadyH.nil)
  · skip
    go_simp
    obtain ⟨s3, hs3⟩ : ∃ s, s = wd.heap.size := ⟨_, rfl⟩
    rw [← hs3]
    obtain ⟨wp1, hw⟩ : ∃ wn, wn = wd.alloc (.cells #[.int .u64 (c : Nat)] 48) := ⟨_, rfl⟩
    rw [← hw]
    have gx : Gr wd wp1 := by rw [hw]; exact (Gr.refl _).alloc _
    have F3 : Free wp1 p s3 := by rw [hw, hs3]; exact free_new hW _
    have c3 : wp1.cell? ⟨s3, 0, none⟩ = some (.int .u64 (c : Nat)) := by rw [hw, hs3]; exact new_cell rfl rfl
    have d3 : s3 ≠ p := by have := (wrLt hW); omega
    have hFb := free_gr hW gx hFb
    have hk0 := gx.cell h0.1
    have hk1 := gx.cell h0.2
    have HB := Lib.hid (HB.out.trans ((gx.below).mono (Nat.le_of_lt (wrLt hW))))
    have hW := hW.gr gx
    clear gx hw hs3
    first | refine hK.out _ _ ?sp1 (fun hp1 => ?_) | (go_wp2_with fail; refine hK.out _ _ ?sp1 (fun hp1 => ?_))
    case sp1 => exact ⟨hk0, hk1⟩
    clear hK K
    try simp only [Act.put, List.setIfInBounds_toArray, List.set_cons_zero, List.set_cons_succ]
    refine wpAnyH_ready (rs := [4, 7]) (by kernel_rfl) (by simp) ?_
    refine AllReadyH.cons (o := { dst := some 8, op := Go.Op.call { callee := Go.Callee.value (Go.Operand.func 169), args := #[Go.Operand.tmp 4, Go.Operand.tmp 7], argTypes := #[113, 252] }, type := 113, pos := "ballot.go:54", after := #[{ on := 0, ground := Go.Ground.data }, { on := 3, ground := Go.Ground.data }], guard := none }) rfl (fun K hK => ?_) (AllReadyH.cons (o := { dst := some 11, op := Go.Op.buildSlice 135 1 #[(0, Go.Operand.tmp 10)], type := 135, pos := "ballot.go:54", after := #[{ on := 6, ground := Go.Ground.data }], guard := none }) rfl (fun K hK => ?_) AllReadyH.nil)
    · skip
      go_simp
      go_at_call 169
      refine (wU_1 p c s3 l _ hW d3 F3 (cell_lt c3) c3 (by omega)).mono ?_
      rintro e wp2 ⟨rfl, hW2, hB2, hK2⟩
      have hk0 := hK2.cell hbp hFb hp1.1
      have hk1 := hK2.cell hbp hFb hp1.2
      have hFb := (hK2.2 b (cell_lt hp1.1) hbp hFb).2
      have HB := Lib.hid (HB.out.trans hB2)
      have hW := hW2
      clear hW2 hB2 hK2
      first | refine hK.out _ _ ?sp2 (fun hp2 => ?_) | (go_wp2_with fail; refine hK.out _ _ ?sp2 (fun hp2 => ?_))
      case sp2 => exact ⟨hk0, hk1⟩
      clear hK K
      try simp only [Act.put, List.setIfInBounds_toArray, List.set_cons_zero, List.set_cons_succ]
      refine wpAnyH_ready (rs := [7]) (by kernel_rfl) (by simp) ?_
      refine AllReadyH.cons (o := { dst := some 11, op := Go.Op.buildSlice 135 1 #[(0, Go.Operand.tmp 10)], type := 135, pos := "ballot.go:54", after := #[{ on := 6, ground := Go.Ground.data }], guard := none }) rfl (fun K hK => ?_) AllReadyH.nil
      go_simp
      obtain ⟨s7, hs7⟩ : ∃ s, s = wp2.heap.size := ⟨_, rfl⟩
      rw [← hs7]
      obtain ⟨wp3, hw⟩ : ∃ wn, wn = wp2.alloc (.cells #[.int .i64 (n : Nat)] 3) := ⟨_, rfl⟩
      rw [← hw]
      have gx : Gr wp2 wp3 := by rw [hw]; exact (Gr.refl _).alloc _
      have F7 : Free wp3 p s7 := by rw [hw, hs7]; exact free_new hW _
      have c7 : wp3.cell? ⟨s7, 0, none⟩ = some (.int .i64 (n : Nat)) := by rw [hw, hs7]; exact new_cell rfl rfl
      have d7 : s7 ≠ p := by have := (wrLt hW); omega
      have hFb := free_gr hW gx hFb
      have hk0 := gx.cell hp2.1
      have hk1 := gx.cell hp2.2
      have HB := Lib.hid (HB.out.trans ((gx.below).mono (Nat.le_of_lt (wrLt hW))))
      have hW := hW.gr gx
      clear gx hw hs7
      first | refine hK.out _ _ ?sp3 (fun hp3 => ?_) | (go_wp2_with fail; refine hK.out _ _ ?sp3 (fun hp3 => ?_))
      case sp3 => exact ⟨hk0, hk1⟩
      clear hK K
      try simp only [Act.put, List.setIfInBounds_toArray, List.set_cons_zero, List.set_cons_succ]
      refine wpAnyH_ready (rs := [8]) (by kernel_rfl) (by simp) ?_
      refine AllReadyH.cons (o := { dst := some 12, op := Go.Op.call { callee := Go.Callee.value (Go.Operand.func 109), args := #[Go.Operand.tmp 8, Go.Operand.tmp 11], argTypes := #[113, 135] }, type := 113, pos := "ballot.go:54", after := #[{ on := 4, ground := Go.Ground.data }, { on := 7, ground := Go.Ground.data }, { on := 4, ground := Go.Ground.chain }], guard := none }) rfl (fun K hK => ?_) AllReadyH.nil
      go_simp
      go_at_call 109
      refine (wN_1 p n s7 (l ++ encU c) _ hW d7 F7 c7 (by rw [List.length_append]; omega) (by omega)).mono ?_
      rintro e wp4 ⟨rfl, hW2, hB2, hK2⟩
      have hk0 := hK2.cell hbp hFb hp3.1
      have hk1 := hK2.cell hbp hFb hp3.2
      have HBf := Lib.hid (HB.out.trans hB2)
      have hW := hW2
      clear hW2 hB2 hK2
      first | refine hK.out _ _ ?sp4 (fun hp4 => ?_) | (go_wp2_with fail; refine hK.out _ _ ?sp4 (fun hp4 => ?_))
      case sp4 => exact ⟨hk0, hk1⟩
      clear hK K
      try simp only [Act.put, List.setIfInBounds_toArray, List.set_cons_zero, List.set_cons_succ]
      refine wpAnyH_done (by kernel_rfl) ?_ _
      go_wp2
      first | go_end0 | go_ret
      exact ⟨rfl, hW, HBf.out⟩
    · skip
      go_simp
      obtain ⟨s7, hs7⟩ : ∃ s, s = wp1.heap.size := ⟨_, rfl⟩
      rw [← hs7]
      obtain ⟨wp5, hw⟩ : ∃ wn, wn = wp1.alloc (.cells #[.int .i64 (n : Nat)] 3) := ⟨_, rfl⟩
      rw [← hw]
      have gx : Gr wp1 wp5 := by rw [hw]; exact (Gr.refl _).alloc _
      have c3 := gx.cell c3
      have F3 := free_gr hW gx F3
      have F7 : Free wp5 p s7 := by rw [hw, hs7]; exact free_new hW _
      have c7 : wp5.cell? ⟨s7, 0, none⟩ = some (.int .i64 (n : Nat)) := by rw [hw, hs7]; exact new_cell rfl rfl
      have d7 : s7 ≠ p := by have := (wrLt hW); omega
      have hFb := free_gr hW gx hFb
      have hk0 := gx.cell hp1.1
      have hk1 := gx.cell hp1.2
      have HB := Lib.hid (HB.out.trans ((gx.below).mono (Nat.le_of_lt (wrLt hW))))
      have hW := hW.gr gx
      clear gx hw hs7
      first | refine hK.out _ _ ?sp5 (fun hp5 => ?_) | (go_wp2_with fail; refine hK.out _ _ ?sp5 (fun hp5 => ?_))
      case sp5 => exact ⟨hk0, hk1⟩
      clear hK K
      try simp only [Act.put, List.setIfInBounds_toArray, List.set_cons_zero, List.set_cons_succ]
      refine wpAnyH_ready (rs := [4]) (by kernel_rfl) (by simp) ?_
      refine AllReadyH.cons (o := { dst := some 8, op := Go.Op.call { callee := Go.Callee.value (Go.Operand.func 169), args := #[Go.Operand.tmp 4, Go.Operand.tmp 7], argTypes := #[113, 252] }, type := 113, pos := "ballot.go:54", after := #[{ on := 0, ground := Go.Ground.data }, { on := 3, ground := Go.Ground.data }], guard := none }) rfl (fun K hK => ?_) AllReadyH.nil
      go_simp
      go_at_call 169
      refine (wU_1 p c s3 l _ hW d3 F3 (cell_lt c3) c3 (by omega)).mono ?_
      rintro e wp6 ⟨rfl, hW2, hB2, hK2⟩
      have hl7 := cell_lt c7
      have c7 := hK2.cell d7 F7 c7
      have F7 := (hK2.2 s7 hl7 d7 F7).2
      have hk0 := hK2.cell hbp hFb hp5.1
      have hk1 := hK2.cell hbp hFb hp5.2
      have hFb := (hK2.2 b (cell_lt hp5.1) hbp hFb).2
      have HB := Lib.hid (HB.out.trans hB2)
      have hW := hW2
      clear hW2 hB2 hK2
      first | refine hK.out _ _ ?sp6 (fun hp6 => ?_) | (go_wp2_with fail; refine hK.out _ _ ?sp6 (fun hp6 => ?_))
      case sp6 => exact ⟨hk0, hk1⟩
      clear hK K
      try simp only [Act.put, List.setIfInBounds_toArray, List.set_cons_zero, List.set_cons_succ]
      refine wpAnyH_ready (rs := [8]) (by kernel_rfl) (by simp) ?_
      refine AllReadyH.cons (o := { dst := some 12, op := Go.Op.call { callee := Go.Callee.value (Go.Operand.func 109), args := #[Go.Operand.tmp 8, Go.Operand.tmp 11], argTypes := #[113, 135] }, type := 113, pos := "ballot.go:54", after := #[{ on := 4, ground := Go.Ground.data }, { on := 7, ground := Go.Ground.data }, { on := 4, ground := Go.Ground.chain }], guard := none }) rfl (fun K hK => ?_) AllReadyH.nil
      go_simp
      go_at_call 109
      refine (wN_1 p n s7 (l ++ encU c) _ hW d7 F7 c7 (by rw [List.length_append]; omega) (by omega)).mono ?_
      rintro e wp7 ⟨rfl, hW2, hB2, hK2⟩
      have hk0 := hK2.cell hbp hFb hp6.1
      have hk1 := hK2.cell hbp hFb hp6.2
      have HBf := Lib.hid (HB.out.trans hB2)
      have hW := hW2
      clear hW2 hB2 hK2
      first | refine hK.out _ _ ?sp7 (fun hp7 => ?_) | (go_wp2_with fail; refine hK.out _ _ ?sp7 (fun hp7 => ?_))
      case sp7 => exact ⟨hk0, hk1⟩
      clear hK K
      try simp only [Act.put, List.setIfInBounds_toArray, List.set_cons_zero, List.set_cons_succ]
      refine wpAnyH_done (by kernel_rfl) ?_ _
      go_wp2
      first | go_end0 | go_ret
      exact ⟨rfl, hW, HBf.out⟩
  · skip
    go_simp
    obtain ⟨s7, hs7⟩ : ∃ s, s = wd.heap.size := ⟨_, rfl⟩
    rw [← hs7]
    obtain ⟨wp8, hw⟩ : ∃ wn, wn = wd.alloc (.cells #[.int .i64 (n : Nat)] 3) := ⟨_, rfl⟩
    rw [← hw]
    have gx : Gr wd wp8 := by rw [hw]; exact (Gr.refl _).alloc _
    have F7 : Free wp8 p s7 := by rw [hw, hs7]; exact free_new hW _
    have c7 : wp8.cell? ⟨s7, 0, none⟩ = some (.int .i64 (n : Nat)) := by rw [hw, hs7]; exact new_cell rfl rfl
    have d7 : s7 ≠ p := by have := (wrLt hW); omega
    have hFb := free_gr hW gx hFb
    have hk0 := gx.cell h0.1
    have hk1 := gx.cell h0.2
    have HB := Lib.hid (HB.out.trans ((gx.below).mono (Nat.le_of_lt (wrLt hW))))
    have hW := hW.gr gx
    clear gx hw hs7
    first | refine hK.out _ _ ?sp8 (fun hp8 => ?_) | (go_wp2_with fail; refine hK.out _ _ ?sp8 (fun hp8 => ?_))
    case sp8 => exact ⟨hk0, hk1⟩
    clear hK K
    try simp only [Act.put, List.setIfInBounds_toArray, List.set_cons_zero, List.set_cons_succ]
    refine wpAnyH_ready (rs := [3]) (by kernel_rfl) (by simp) ?_
    refine AllReadyH.cons (o := { dst := some 7, op := Go.Op.buildSlice 252 1 #[(0, Go.Operand.tmp 6)], type := 252, pos := "ballot.go:54", after := #[{ on := 2, ground := Go.Ground.data }], guard := none }) rfl (fun K hK => ?_) AllReadyH.nil
    go_simp
    obtain ⟨s3, hs3⟩ : ∃ s, s = wp8.heap.size := ⟨_, rfl⟩
    rw [← hs3]
    obtain ⟨wp9, hw⟩ : ∃ wn, wn = wp8.alloc (.cells #[.int .u64 (c : Nat)] 48) := ⟨_, rfl⟩
    rw [← hw]
    have gx : Gr wp8 wp9 := by rw [hw]; exact (Gr.refl _).alloc _
    have c7 := gx.cell c7
    have F7 := free_gr hW gx F7
    have F3 : Free wp9 p s3 := by rw [hw, hs3]; exact free_new hW _
    have c3 : wp9.cell? ⟨s3, 0, none⟩ = some (.int .u64 (c : Nat)) := by rw [hw, hs3]; exact new_cell rfl rfl
    have d3 : s3 ≠ p := by have := (wrLt hW); omega
    have hFb := free_gr hW gx hFb
    have hk0 := gx.cell hp8.1
    have hk1 := gx.cell hp8.2
    have HB := Lib.hid (HB.out.trans ((gx.below).mono (Nat.le_of_lt (wrLt hW))))
    have hW := hW.gr gx
    clear gx hw hs3
    first | refine hK.out _ _ ?sp9 (fun hp9 => ?_) | (go_wp2_with fail; refine hK.out _ _ ?sp9 (fun hp9 => ?_))
    case sp9 => exact ⟨hk0, hk1⟩
    clear hK K
    try simp only [Act.put, List.setIfInBounds_toArray, List.set_cons_zero, List.set_cons_succ]
    refine wpAnyH_ready (rs := [4]) (by kernel_rfl) (by simp) ?_
    refine AllReadyH.cons (o := { dst := some 8, op := Go.Op.call { callee := Go.Callee.value (Go.Operand.func 169), args := #[Go.Operand.tmp 4, Go.Operand.tmp 7], argTypes := #[113, 252] }, type := 113, pos := "ballot.go:54", after := #[{ on := 0, ground := Go.Ground.data }, { on := 3, ground := Go.Ground.data }], guard := none }) rfl (fun K hK => ?_) AllReadyH.nil
    go_simp
    go_at_call 169
    refine (wU_1 p c s3 l _ hW d3 F3 (cell_lt c3) c3 (by omega)).mono ?_
    rintro e wp10 ⟨rfl, hW2, hB2, hK2⟩
    have hl7 := cell_lt c7
    have c7 := hK2.cell d7 F7 c7
    have F7 := (hK2.2 s7 hl7 d7 F7).2
    have hk0 := hK2.cell hbp hFb hp9.1
    have hk1 := hK2.cell hbp hFb hp9.2
    have hFb := (hK2.2 b (cell_lt hp9.1) hbp hFb).2
    have HB := Lib.hid (HB.out.trans hB2)
    have hW := hW2
    clear hW2 hB2 hK2
    first | refine hK.out _ _ ?sp10 (fun hp10 => ?_) | (go_wp2_with fail; refine hK.out _ _ ?sp10 (fun hp10 => ?_))
    case sp10 => exact ⟨hk0, hk1⟩
    clear hK K
    try simp only [Act.put, List.setIfInBounds_toArray, List.set_cons_zero, List.set_cons_succ]
    refine wpAnyH_ready (rs := [8]) (by kernel_rfl) (by simp) ?_
    refine AllReadyH.cons (o := { dst := some 12, op := Go.Op.call { callee := Go.Callee.value (Go.Operand.func 109), args := #[Go.Operand.tmp 8, Go.Operand.tmp 11], argTypes := #[113, 135] }, type := 113, pos := "ballot.go:54", after := #[{ on := 4, ground := Go.Ground.data }, { on := 7, ground := Go.Ground.data }, { on := 4, ground := Go.Ground.chain }], guard := none }) rfl (fun K hK => ?_) AllReadyH.nil
    go_simp
    go_at_call 109
    refine (wN_1 p n s7 (l ++ encU c) _ hW d7 F7 c7 (by rw [List.length_append]; omega) (by omega)).mono ?_
    rintro e wp11 ⟨rfl, hW2, hB2, hK2⟩
    have hk0 := hK2.cell hbp hFb hp10.1
    have hk1 := hK2.cell hbp hFb hp10.2
    have HBf := Lib.hid (HB.out.trans hB2)
    have hW := hW2
    clear hW2 hB2 hK2
    first | refine hK.out _ _ ?sp11 (fun hp11 => ?_) | (go_wp2_with fail; refine hK.out _ _ ?sp11 (fun hp11 => ?_))
    case sp11 => exact ⟨hk0, hk1⟩
    clear hK K
    try simp only [Act.put, List.setIfInBounds_toArray, List.set_cons_zero, List.set_cons_succ]
    refine wpAnyH_done (by kernel_rfl) ?_ _
    go_wp2
    first | go_end0 | go_ret
    exact ⟨rfl, hW, HBf.out⟩
end Go.Proofs.Ytihhfdkcggnjpaa
namespace Go.Proofs.Ytihhfdkcggnjpaa
open Go.ChangeShapes Go.WideShapes Go.ChangeAt Go.RowKit
set_option linter.unusedVariables false
set_option maxRecDepth 100000 in
theorem refB10_any (b : Bool) (w : World) :
    Calls Try.prog 163 #[.bool b] w fun e w' => e = .returned (.string (ofL (Enc.encB b))) ∧ Gr w w' := by
  cases b
  · go_enter Try.func163, Try.ntmps163
    go_wp2
    go_ret
    exact ⟨rfl, Gr.refl _⟩
  · go_enter Try.func163, Try.ntmps163
    go_wp2
    go_ret
    exact ⟨rfl, Gr.refl _⟩
set_option maxRecDepth 100000 in
theorem refS10_any (s : ByteArray) (w : World) (hs : s.size ≤ 1000000) :
    Calls Try.prog 135 #[.string s] w fun e w' => e = .returned (.string (ofL (Enc.encS (bytesOf s)))) ∧ Gr w w' := by
  have hE : ofL (Enc.encS (bytesOf s)) = ofL (Enc.encN s.size) ++ s := by
    unfold Enc.encS Enc.encN
    rw [lenB, show (max (s.size : Int) 0).toNat = s.size by omega, ← ofL_app, ofL_bytes]
  have HE := Lib.hid hE; clear hE
  have hz : (ofL (Enc.encN s.size)).size ≤ 9 := by rw [ofL_size]; exact Enc.encU_le _
  go_enter Try.func135, Try.ntmps135
  go_wp2_with fail
  refine (refN_any s.size _ (WalkArith.wf_i64 (by omega))).mono ?_
  rintro e w2 ⟨rfl, hg⟩
  generalize ofL (Enc.encN s.size) = D at *
  go_wp2
  go_ret
  exact ⟨by rw [HE.out]; rfl, hg⟩
end Go.Proofs.Ytihhfdkcggnjpaa
