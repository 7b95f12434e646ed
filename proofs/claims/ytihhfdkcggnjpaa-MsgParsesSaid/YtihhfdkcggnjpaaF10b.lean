import Derived.Test.YtihhfdkcggnjpaaF10
import Derived.WalkKit
import Derived.ProofKit
import Derived.LoopTactic
import Derived.Outline
import Derived.WalkSpells
import Derived.WalkLawsBesides
import Derived.Lib.Hide
import Derived.Deep.LoopGhost
import Derived.Deep.QuietTactic
import Derived.BigQuiet
import Derived.ShutString
import Derived.IntWalk
import Derived.Deep.RegionWith
import Derived.Deep.RegionHeld3
namespace Go.Proofs.Ytihhfdkcggnjpaa
open Go.ChangeShapes Go.WideShapes Go.ChangeAt Go.RowKit
set_option linter.unusedVariables false
set_option linter.unusedSimpArgs false
def eqLE : List E → List E → Bool
  | [], [] => true
  | x :: r, y :: s => sameE x y && eqLE r s
  | _, _ => false
theorem eqLE_len : ∀ {L M : List E}, eqLE L M = true → L.length = M.length
  | [], [], _ => rfl
  | [], _ :: _, h => by cases h
  | _ :: _, [], h => by cases h
  | x :: r, y :: s, h => by
    unfold eqLE at h
    rw [Bool.and_eq_true] at h
    rw [List.length_cons, List.length_cons, eqLE_len h.2]
theorem eqLE_at : ∀ {L M : List E}, L.length = M.length → (eqLE L M = true ↔ ∀ i (h1 : i < L.length) (h2 : i < M.length), sameE L[i] M[i] = true)
  | [], [], _ => ⟨fun _ i h1 => absurd h1 (by simp), fun _ => rfl⟩
  | [], _ :: _, h => by simp at h
  | _ :: _, [], h => by simp at h
  | x :: r, y :: s, h => by
    have ih := eqLE_at (L := r) (M := s) (by simpa using h)
    unfold eqLE
    rw [Bool.and_eq_true, ih]
    constructor
    · rintro ⟨h1, h2⟩ i hi1 hi2
      cases i with
      | zero => exact h1
      | succ i => exact h2 i (by simpa using hi1) (by simpa using hi2)
    · intro h1
      exact ⟨h1 0 (by simp) (by simp), fun i hi1 hi2 => h1 (i + 1) (by simpa using hi1) (by simpa using hi2)⟩
set_option maxRecDepth 100000 in
set_option maxHeartbeats 2000000 in
theorem eqE_any {b1 b2 : Nat} {v1 v2 : Value} (L M : List E) (w : World) (h1 : w.ownsRow b1 159 4 v1 L.length (rcells encE L)) (h2 : w.ownsRow b2 159 4 v2 M.length (rcells encE M)) (hl : L.length ≤ 1000) (hm : M.length ≤ 1000) :
    Calls Try.prog 100 #[v1, v2] w fun e w' => e = .returned (.bool (eqLE L M)) ∧ Gr w w' := by
  obtain ⟨a1, c1, rfl, _⟩ := ownsRow_slice h1
  obtain ⟨a2, c2, rfl, _⟩ := ownsRow_slice h2
  by_cases hlen : L.length = M.length
  · have HC1 := Lib.hid fun k hk => erow_T h1 k hk
    have HC2 := Lib.hid fun k hk => erow_T h2 k hk
    have HL := Lib.hid hlen
    clear h1 h2
    have hne : ((L.length : Int) != (M.length : Int)) = false := by rw [hlen]; simp
    clear hlen
    obtain ⟨q, hq⟩ : ∃ q, q = eqLE L M := ⟨_, rfl⟩
    rw [← hq]
    have HQ := Lib.hid hq
    clear hq
    go_enter Try.func100, Try.ntmps100
    go_wp2
    go_loopw [13] (fun u wr => ∃ k : Nat, k ≤ L.length ∧ u = .int .i64 (k : Nat) ∧ Hid (∀ i (h1 : i < L.length) (h2 : i < M.length), i < k → sameE L[i] M[i] = true) ∧ Hid (Gr w wr)) (fun u _ => L.length - (intOf u).toNat)
    case atStart => exact ⟨0, by omega, rfl, Lib.hid (fun i _ _ h => absurd h (by omega)), Lib.hid (Gr.refl _)⟩
    case round =>
      obtain ⟨k, hk, rfl, HP, HG⟩ := hrel
      by_cases hlt : k < L.length
      · have hk4 : (k : Int) < (L.length : Int) := by omega
        have hltm : k < M.length := by have := HL.out; omega
        have hk5 : (k : Int) < (M.length : Int) := by omega
        obtain ⟨g1, cc1, hv1, d0, d1, d2, d3⟩ := HC1.out k hlt
        obtain ⟨g2, cc2, hv2, e0, e1, e2, e3⟩ := HC2.out k hltm
        simp only [Value.slice.injEq, true_and] at hv1 hv2
        obtain ⟨rfl, rfl⟩ := hv1
        obtain ⟨rfl, rfl⟩ := hv2
        replace d0 := HG.out.cell d0
        replace d1 := HG.out.cell d1
        replace d2 := HG.out.cell d2
        replace d3 := HG.out.cell d3
        replace e0 := HG.out.cell e0
        replace e1 := HG.out.cell e1
        replace e2 := HG.out.cell e2
        replace e3 := HG.out.cell e3
        have HEX := Lib.hid (rfl : sameE L[k] M[k] = sameE L[k] M[k])
        cases hs : sameE L[k] M[k]
        · have HF := Lib.hid (show q = false from by
            rw [HQ.out, Bool.eq_false_iff]
            intro h
            have := (eqLE_at HL.out).1 h k hlt hltm
            rw [hs] at this
            exact absurd this (by simp))
          have HS := Lib.hid hs
          generalize L[k] = x at *
          generalize M[k] = y at *
          clear hs HEX
          go_wp2_with fail
          refine wp_region_held_drew (S := (fun w9 => w9.cell? ⟨g1, k * 4, none⟩ = some (.int .i64 x.slot) ∧ w9.cell? ⟨g1, k * 4 + 1, none⟩ = some (.int .u64 x.c) ∧ w9.cell? ⟨g1, k * 4 + 2, none⟩ = some (.int .i64 x.n) ∧ w9.cell? ⟨g1, k * 4 + 3, none⟩ = some (.string x.text) ∧ w9.cell? ⟨g2, k * 4, none⟩ = some (.int .i64 y.slot) ∧ w9.cell? ⟨g2, k * 4 + 1, none⟩ = some (.int .u64 y.c) ∧ w9.cell? ⟨g2, k * 4 + 2, none⟩ = some (.int .i64 y.n) ∧ w9.cell? ⟨g2, k * 4 + 3, none⟩ = some (.string y.text))) (by kernel_rfl) ?inva (fun h0 => ?_)
          case inva => ((try dsimp only); (exact ⟨d0, d1, d2, d3, e0, e1, e2, e3⟩))
          refine wpAnyH_take (i := 0) (oi := { dst := some 16, op := Go.Op.move (Go.Operand.tmp 0), type := 67, pos := "slices.go:25", after := #[], guard := none }) (v := ?va1) rfl (by kernel_rfl) (by kernel_rfl) (by kernel_rfl) (fun _ _ _ h => h) (Or.inl ⟨by rfl, ?ra1⟩) (by assumption) ?_
          case ra1 => (intro w hSw; (try dsimp only at hSw); (go_simp <;> with_reducible rfl))
          try simp only [Act.put, List.setIfInBounds_toArray, List.set_cons_zero, List.set_cons_succ]
          refine wpAnyH_take (i := 1) (oi := { dst := some 17, op := Go.Op.move (Go.Operand.tmp 5), type := 3, pos := "slices.go:25", after := #[], guard := none }) (v := ?va2) rfl (by kernel_rfl) (by kernel_rfl) (by kernel_rfl) (fun _ _ _ h => h) (Or.inl ⟨by rfl, ?ra2⟩) (by assumption) ?_
          case ra2 => (intro w hSw; (try dsimp only at hSw); (go_simp <;> with_reducible rfl))
          try simp only [Act.put, List.setIfInBounds_toArray, List.set_cons_zero, List.set_cons_succ]
          refine wpAnyH_take (i := 2) (oi := { dst := some 18, op := Go.Op.indexAddr 67 (Go.Operand.tmp 16) (Go.Operand.tmp 17), type := 0, pos := "slices.go:25", after := #[{ on := 0, ground := Go.Ground.data }, { on := 1, ground := Go.Ground.data }], guard := none }) (v := ?va3) rfl (by kernel_rfl) (by kernel_rfl) (by kernel_rfl) (fun _ _ _ h => h) (Or.inl ⟨by rfl, ?ra3⟩) (by assumption) ?_
          case ra3 => (intro w hSw; (try dsimp only at hSw); (go_simp <;> with_reducible rfl))
          try simp only [Act.put, List.setIfInBounds_toArray, List.set_cons_zero, List.set_cons_succ]
          refine wpAnyH_take (i := 3) (oi := { dst := some 19, op := Go.Op.load 159 (Go.Operand.tmp 18), type := 159, pos := "slices.go:25", after := #[{ on := 2, ground := Go.Ground.data }], guard := none }) (v := ?va4) rfl (by kernel_rfl) (by kernel_rfl) (by kernel_rfl) (fun _ _ _ h => h) (Or.inl ⟨by rfl, ?ra4⟩) (by assumption) ?_
          case ra4 => (intro w hSw; (try dsimp only at hSw); (go_simp <;> with_reducible rfl))
          try simp only [Act.put, List.setIfInBounds_toArray, List.set_cons_zero, List.set_cons_succ]
          refine wpAnyH_take (i := 4) (oi := { dst := some 20, op := Go.Op.move (Go.Operand.tmp 1), type := 67, pos := "slices.go:25", after := #[], guard := none }) (v := ?va5) rfl (by kernel_rfl) (by kernel_rfl) (by kernel_rfl) (fun _ _ _ h => h) (Or.inl ⟨by rfl, ?ra5⟩) (by assumption) ?_
          case ra5 => (intro w hSw; (try dsimp only at hSw); (go_simp <;> with_reducible rfl))
          try simp only [Act.put, List.setIfInBounds_toArray, List.set_cons_zero, List.set_cons_succ]
          refine wpAnyH_take (i := 5) (oi := { dst := some 21, op := Go.Op.move (Go.Operand.tmp 5), type := 3, pos := "slices.go:25", after := #[], guard := none }) (v := ?va6) rfl (by kernel_rfl) (by kernel_rfl) (by kernel_rfl) (fun _ _ _ h => h) (Or.inl ⟨by rfl, ?ra6⟩) (by assumption) ?_
          case ra6 => (intro w hSw; (try dsimp only at hSw); (go_simp <;> with_reducible rfl))
          try simp only [Act.put, List.setIfInBounds_toArray, List.set_cons_zero, List.set_cons_succ]
          refine wpAnyH_take (i := 6) (oi := { dst := some 22, op := Go.Op.indexAddr 67 (Go.Operand.tmp 20) (Go.Operand.tmp 21), type := 0, pos := "slices.go:25", after := #[{ on := 4, ground := Go.Ground.data }, { on := 5, ground := Go.Ground.data }], guard := none }) (v := ?va7) rfl (by kernel_rfl) (by kernel_rfl) (by kernel_rfl) (fun _ _ _ h => h) (Or.inl ⟨by rfl, ?ra7⟩) (by assumption) ?_
          case ra7 => (intro w hSw; (try dsimp only at hSw); (go_simp <;> with_reducible rfl))
          try simp only [Act.put, List.setIfInBounds_toArray, List.set_cons_zero, List.set_cons_succ]
          refine wpAnyH_take (i := 7) (oi := { dst := some 23, op := Go.Op.load 159 (Go.Operand.tmp 22), type := 159, pos := "slices.go:25", after := #[{ on := 6, ground := Go.Ground.data }], guard := none }) (v := ?va8) rfl (by kernel_rfl) (by kernel_rfl) (by kernel_rfl) (fun _ _ _ h => h) (Or.inl ⟨by rfl, ?ra8⟩) (by assumption) ?_
          case ra8 => (intro w hSw; (try dsimp only at hSw); (go_simp <;> with_reducible rfl))
          try simp only [Act.put, List.setIfInBounds_toArray, List.set_cons_zero, List.set_cons_succ]
          refine wpAnyH_take (i := 8) (oi := { dst := some 24, op := Go.Op.binOp Go.BinOp.neq 159 (Go.Operand.tmp 19) (Go.Operand.tmp 23) 159, type := 4, pos := "slices.go:25", after := #[{ on := 3, ground := Go.Ground.data }, { on := 7, ground := Go.Ground.data }], guard := none }) (v := (.bool true)) rfl (by kernel_rfl) (by kernel_rfl) (by kernel_rfl) (fun _ _ _ h => h) (Or.inl ⟨by rfl, ?ra9⟩) (by assumption) ?_
          case ra9 => (intro w hSw; (try dsimp only at hSw); go_simp; unfold sameE at HS; by_cases h1 : x.slot = y.slot <;> by_cases h2 : x.c = y.c <;> by_cases h3 : x.n = y.n <;> by_cases h4 : x.text.toList = y.text.toList <;> first | (simp [h1, h2, h3, h4]; done) | (exfalso; have hs := HS.out; simp [h1, h2, h3, h4] at hs; done))
          try simp only [Act.put, List.setIfInBounds_toArray, List.set_cons_zero, List.set_cons_succ]
          refine wpAnyH_done (by kernel_rfl) ?_ _
          clear h0 d0 d1 d2 d3 e0 e1 e2 e3
          go_wp2
          go_ret
          exact ⟨by rw [HF.out]; rfl, HG.out.trans (Gr.refl _).drew⟩
        · have HN := Lib.hid (show ∀ i (h1 : i < L.length) (h2 : i < M.length), i < k + 1 → sameE L[i] M[i] = true from fun i hi1 hi2 hik => by
            by_cases e : i = k
            · subst e; exact hs
            · exact HP.out i hi1 hi2 (by omega))
          have HS := Lib.hid hs
          generalize L[k] = x at HS d0 d1 d2 d3
          generalize M[k] = y at HS e0 e1 e2 e3
          clear hs HEX HP
          go_wp2_with fail
          refine wp_region_held_drew (S := (fun w9 => w9.cell? ⟨g1, k * 4, none⟩ = some (.int .i64 x.slot) ∧ w9.cell? ⟨g1, k * 4 + 1, none⟩ = some (.int .u64 x.c) ∧ w9.cell? ⟨g1, k * 4 + 2, none⟩ = some (.int .i64 x.n) ∧ w9.cell? ⟨g1, k * 4 + 3, none⟩ = some (.string x.text) ∧ w9.cell? ⟨g2, k * 4, none⟩ = some (.int .i64 y.slot) ∧ w9.cell? ⟨g2, k * 4 + 1, none⟩ = some (.int .u64 y.c) ∧ w9.cell? ⟨g2, k * 4 + 2, none⟩ = some (.int .i64 y.n) ∧ w9.cell? ⟨g2, k * 4 + 3, none⟩ = some (.string y.text))) (by kernel_rfl) ?invb (fun h0 => ?_)
          case invb => ((try dsimp only); (exact ⟨d0, d1, d2, d3, e0, e1, e2, e3⟩))
          refine wpAnyH_take (i := 0) (oi := { dst := some 16, op := Go.Op.move (Go.Operand.tmp 0), type := 67, pos := "slices.go:25", after := #[], guard := none }) (v := ?vb1) rfl (by kernel_rfl) (by kernel_rfl) (by kernel_rfl) (fun _ _ _ h => h) (Or.inl ⟨by rfl, ?rb1⟩) (by assumption) ?_
          case rb1 => (intro w hSw; (try dsimp only at hSw); (go_simp <;> with_reducible rfl))
          try simp only [Act.put, List.setIfInBounds_toArray, List.set_cons_zero, List.set_cons_succ]
          refine wpAnyH_take (i := 1) (oi := { dst := some 17, op := Go.Op.move (Go.Operand.tmp 5), type := 3, pos := "slices.go:25", after := #[], guard := none }) (v := ?vb2) rfl (by kernel_rfl) (by kernel_rfl) (by kernel_rfl) (fun _ _ _ h => h) (Or.inl ⟨by rfl, ?rb2⟩) (by assumption) ?_
          case rb2 => (intro w hSw; (try dsimp only at hSw); (go_simp <;> with_reducible rfl))
          try simp only [Act.put, List.setIfInBounds_toArray, List.set_cons_zero, List.set_cons_succ]
          refine wpAnyH_take (i := 2) (oi := { dst := some 18, op := Go.Op.indexAddr 67 (Go.Operand.tmp 16) (Go.Operand.tmp 17), type := 0, pos := "slices.go:25", after := #[{ on := 0, ground := Go.Ground.data }, { on := 1, ground := Go.Ground.data }], guard := none }) (v := ?vb3) rfl (by kernel_rfl) (by kernel_rfl) (by kernel_rfl) (fun _ _ _ h => h) (Or.inl ⟨by rfl, ?rb3⟩) (by assumption) ?_
          case rb3 => (intro w hSw; (try dsimp only at hSw); (go_simp <;> with_reducible rfl))
          try simp only [Act.put, List.setIfInBounds_toArray, List.set_cons_zero, List.set_cons_succ]
          refine wpAnyH_take (i := 3) (oi := { dst := some 19, op := Go.Op.load 159 (Go.Operand.tmp 18), type := 159, pos := "slices.go:25", after := #[{ on := 2, ground := Go.Ground.data }], guard := none }) (v := ?vb4) rfl (by kernel_rfl) (by kernel_rfl) (by kernel_rfl) (fun _ _ _ h => h) (Or.inl ⟨by rfl, ?rb4⟩) (by assumption) ?_
          case rb4 => (intro w hSw; (try dsimp only at hSw); (go_simp <;> with_reducible rfl))
          try simp only [Act.put, List.setIfInBounds_toArray, List.set_cons_zero, List.set_cons_succ]
          refine wpAnyH_take (i := 4) (oi := { dst := some 20, op := Go.Op.move (Go.Operand.tmp 1), type := 67, pos := "slices.go:25", after := #[], guard := none }) (v := ?vb5) rfl (by kernel_rfl) (by kernel_rfl) (by kernel_rfl) (fun _ _ _ h => h) (Or.inl ⟨by rfl, ?rb5⟩) (by assumption) ?_
          case rb5 => (intro w hSw; (try dsimp only at hSw); (go_simp <;> with_reducible rfl))
          try simp only [Act.put, List.setIfInBounds_toArray, List.set_cons_zero, List.set_cons_succ]
          refine wpAnyH_take (i := 5) (oi := { dst := some 21, op := Go.Op.move (Go.Operand.tmp 5), type := 3, pos := "slices.go:25", after := #[], guard := none }) (v := ?vb6) rfl (by kernel_rfl) (by kernel_rfl) (by kernel_rfl) (fun _ _ _ h => h) (Or.inl ⟨by rfl, ?rb6⟩) (by assumption) ?_
          case rb6 => (intro w hSw; (try dsimp only at hSw); (go_simp <;> with_reducible rfl))
          try simp only [Act.put, List.setIfInBounds_toArray, List.set_cons_zero, List.set_cons_succ]
          refine wpAnyH_take (i := 6) (oi := { dst := some 22, op := Go.Op.indexAddr 67 (Go.Operand.tmp 20) (Go.Operand.tmp 21), type := 0, pos := "slices.go:25", after := #[{ on := 4, ground := Go.Ground.data }, { on := 5, ground := Go.Ground.data }], guard := none }) (v := ?vb7) rfl (by kernel_rfl) (by kernel_rfl) (by kernel_rfl) (fun _ _ _ h => h) (Or.inl ⟨by rfl, ?rb7⟩) (by assumption) ?_
          case rb7 => (intro w hSw; (try dsimp only at hSw); (go_simp <;> with_reducible rfl))
          try simp only [Act.put, List.setIfInBounds_toArray, List.set_cons_zero, List.set_cons_succ]
          refine wpAnyH_take (i := 7) (oi := { dst := some 23, op := Go.Op.load 159 (Go.Operand.tmp 22), type := 159, pos := "slices.go:25", after := #[{ on := 6, ground := Go.Ground.data }], guard := none }) (v := ?vb8) rfl (by kernel_rfl) (by kernel_rfl) (by kernel_rfl) (fun _ _ _ h => h) (Or.inl ⟨by rfl, ?rb8⟩) (by assumption) ?_
          case rb8 => (intro w hSw; (try dsimp only at hSw); (go_simp <;> with_reducible rfl))
          try simp only [Act.put, List.setIfInBounds_toArray, List.set_cons_zero, List.set_cons_succ]
          refine wpAnyH_take (i := 8) (oi := { dst := some 24, op := Go.Op.binOp Go.BinOp.neq 159 (Go.Operand.tmp 19) (Go.Operand.tmp 23) 159, type := 4, pos := "slices.go:25", after := #[{ on := 3, ground := Go.Ground.data }, { on := 7, ground := Go.Ground.data }], guard := none }) (v := (.bool false)) rfl (by kernel_rfl) (by kernel_rfl) (by kernel_rfl) (fun _ _ _ h => h) (Or.inl ⟨by rfl, ?rb9⟩) (by assumption) ?_
          case rb9 => (intro w hSw; (try dsimp only at hSw); go_simp; unfold sameE at HS; by_cases h1 : x.slot = y.slot <;> by_cases h2 : x.c = y.c <;> by_cases h3 : x.n = y.n <;> by_cases h4 : x.text.toList = y.text.toList <;> first | (simp [h1, h2, h3, h4]; done) | (exfalso; have hs := HS.out; simp [h1, h2, h3, h4] at hs; done))
          try simp only [Act.put, List.setIfInBounds_toArray, List.set_cons_zero, List.set_cons_succ]
          refine wpAnyH_done (by kernel_rfl) ?_ _
          clear h0 d0 d1 d2 d3 e0 e1 e2 e3
          go_wp2
          go_roundw
          case rel => exact ⟨k + 1, by omega, by go_num, HN, Lib.hid (HG.out.trans (Gr.refl _).drew)⟩
          case measure => simp [intOf]; omega
      · have hk5 : ¬ (k : Int) < (L.length : Int) := by omega
        go_wp2
        go_ret
        refine ⟨?_, HG.out⟩
        rw [HQ.out, (eqLE_at HL.out).2 (fun i h1 h2 => HP.out i h1 h2 (by omega))]
        rfl
  · have hne : ((L.length : Int) != (M.length : Int)) = true := bne_iff_ne.2 (by omega)
    have hF : eqLE L M = false := by
      rw [Bool.eq_false_iff]
      exact fun h => hlen (eqLE_len h)
    rw [hF]
    clear hF hlen h1 h2
    go_enter Try.func100, Try.ntmps100
    go_wp2
    go_ret
    exact ⟨rfl, Gr.refl _⟩
def sameM (k f t s c n sl ti : Int) (ok : Bool) (tx : ByteArray) (L : List E) (k2 f2 t2 s2 c2 n2 sl2 ti2 : Int) (ok2 : Bool) (tx2 : ByteArray) (M : List E) : Bool :=
  k == k2 && (f == f2 && (t == t2 && (s == s2 && ((c == c2 && n == n2) && (sl == sl2 && (ti == ti2 && (ok == ok2 && (tx.toList == tx2.toList && eqLE L M))))))))
set_option maxRecDepth 100000 in
set_option maxHeartbeats 4000000 in
theorem same_any {b1 b2 : Nat} {a1 a2 : Option Addr} {q1 q2 : Nat} (k f t s c n sl ti : Int) (ok : Bool) (tx : ByteArray) (L : List E) (k2 f2 t2 s2 c2 n2 sl2 ti2 : Int) (ok2 : Bool) (tx2 : ByteArray) (M : List E) (w : World)
    (h1 : w.ownsRow b1 159 4 (.slice a1 L.length q1) L.length (rcells encE L)) (h2 : w.ownsRow b2 159 4 (.slice a2 M.length q2) M.length (rcells encE M)) (hl : L.length ≤ 1000) (hm : M.length ≤ 1000) :
    Calls Try.prog 38 #[.agg #[.int .i64 k, .int .i64 f, .int .i64 t, .int .i64 s, .int .u64 c, .int .i64 n, .int .i64 sl, .int .i64 ti, .bool ok, .string tx, .slice a1 L.length q1], .agg #[.int .i64 k2, .int .i64 f2, .int .i64 t2, .int .i64 s2, .int .u64 c2, .int .i64 n2, .int .i64 sl2, .int .i64 ti2, .bool ok2, .string tx2, .slice a2 M.length q2]] w fun e w' =>
      e = .returned (.bool (sameM k f t s c n sl ti ok tx L k2 f2 t2 s2 c2 n2 sl2 ti2 ok2 tx2 M)) ∧ Gr w w' := by
  have HG2 := Lib.hid (((Gr.refl w).alloc (.cells #[.int .i64 k, .int .i64 f, .int .i64 t, .int .i64 s, .int .u64 c, .int .i64 n, .int .i64 sl, .int .i64 ti, .bool ok, .string tx, .slice a1 L.length q1] 69)).alloc (.cells #[.int .i64 k2, .int .i64 f2, .int .i64 t2, .int .i64 s2, .int .u64 c2, .int .i64 n2, .int .i64 sl2, .int .i64 ti2, .bool ok2, .string tx2, .slice a2 M.length q2] 69))
  have HE := Lib.hid (eqE_any L M _ (ownsRow_gr HG2.out h1) (ownsRow_gr HG2.out h2) hl hm)
  clear h1 h2
  unfold sameM
  generalize eqLE L M = x9 at *
  have HTX := Lib.hid (rfl : (tx.toList == tx2.toList) = (tx.toList == tx2.toList))
  cases e0 : (k == k2)
  · have HR := Lib.hid (show (k == k2 && (f == f2 && (t == t2 && (s == s2 && ((c == c2 && n == n2) && (sl == sl2 && (ti == ti2 && (ok == ok2 && (tx.toList == tx2.toList && x9))))))))) = false by simp [e0])
    try rw [HR.out]
    go_enter Try.func38, Try.ntmps38
    go_wp2
    go_ret
    exact ⟨by first | rfl | (rw [HR.out]; rfl) | (simp [e0]; done), HG2.out⟩
  · skip
    cases e1 : (f == f2)
    · have HR := Lib.hid (show (k == k2 && (f == f2 && (t == t2 && (s == s2 && ((c == c2 && n == n2) && (sl == sl2 && (ti == ti2 && (ok == ok2 && (tx.toList == tx2.toList && x9))))))))) = false by simp [e0, e1])
      try rw [HR.out]
      go_enter Try.func38, Try.ntmps38
      go_wp2
      go_ret
      exact ⟨by first | rfl | (rw [HR.out]; rfl) | (simp [e0, e1]; done), HG2.out⟩
    · skip
      cases e2 : (t == t2)
      · have HR := Lib.hid (show (k == k2 && (f == f2 && (t == t2 && (s == s2 && ((c == c2 && n == n2) && (sl == sl2 && (ti == ti2 && (ok == ok2 && (tx.toList == tx2.toList && x9))))))))) = false by simp [e0, e1, e2])
        try rw [HR.out]
        go_enter Try.func38, Try.ntmps38
        go_wp2
        go_ret
        exact ⟨by first | rfl | (rw [HR.out]; rfl) | (simp [e0, e1, e2]; done), HG2.out⟩
      · skip
        cases e3 : (s == s2)
        · have HR := Lib.hid (show (k == k2 && (f == f2 && (t == t2 && (s == s2 && ((c == c2 && n == n2) && (sl == sl2 && (ti == ti2 && (ok == ok2 && (tx.toList == tx2.toList && x9))))))))) = false by simp [e0, e1, e2, e3])
          try rw [HR.out]
          go_enter Try.func38, Try.ntmps38
          go_wp2
          go_ret
          exact ⟨by first | rfl | (rw [HR.out]; rfl) | (simp [e0, e1, e2, e3]; done), HG2.out⟩
        · skip
          cases e4 : (c == c2)
          · have HR := Lib.hid (show (k == k2 && (f == f2 && (t == t2 && (s == s2 && ((c == c2 && n == n2) && (sl == sl2 && (ti == ti2 && (ok == ok2 && (tx.toList == tx2.toList && x9))))))))) = false by simp [e0, e1, e2, e3, e4])
            try rw [HR.out]
            go_enter Try.func38, Try.ntmps38
            go_wp2
            go_ret
            exact ⟨by first | rfl | (rw [HR.out]; rfl) | (simp [e0, e1, e2, e3, e4]; done), HG2.out⟩
          · skip
            cases e5 : (n == n2)
            · have HR := Lib.hid (show (k == k2 && (f == f2 && (t == t2 && (s == s2 && ((c == c2 && n == n2) && (sl == sl2 && (ti == ti2 && (ok == ok2 && (tx.toList == tx2.toList && x9))))))))) = false by simp [e0, e1, e2, e3, e4, e5])
              try rw [HR.out]
              go_enter Try.func38, Try.ntmps38
              go_wp2
              go_ret
              exact ⟨by first | rfl | (rw [HR.out]; rfl) | (simp [e0, e1, e2, e3, e4, e5]; done), HG2.out⟩
            · skip
              cases e6 : (sl == sl2)
              · have HR := Lib.hid (show (k == k2 && (f == f2 && (t == t2 && (s == s2 && ((c == c2 && n == n2) && (sl == sl2 && (ti == ti2 && (ok == ok2 && (tx.toList == tx2.toList && x9))))))))) = false by simp [e0, e1, e2, e3, e4, e5, e6])
                try rw [HR.out]
                go_enter Try.func38, Try.ntmps38
                go_wp2
                go_ret
                exact ⟨by first | rfl | (rw [HR.out]; rfl) | (simp [e0, e1, e2, e3, e4, e5, e6]; done), HG2.out⟩
              · skip
                cases e7 : (ti == ti2)
                · have HR := Lib.hid (show (k == k2 && (f == f2 && (t == t2 && (s == s2 && ((c == c2 && n == n2) && (sl == sl2 && (ti == ti2 && (ok == ok2 && (tx.toList == tx2.toList && x9))))))))) = false by simp [e0, e1, e2, e3, e4, e5, e6, e7])
                  try rw [HR.out]
                  go_enter Try.func38, Try.ntmps38
                  go_wp2
                  go_ret
                  exact ⟨by first | rfl | (rw [HR.out]; rfl) | (simp [e0, e1, e2, e3, e4, e5, e6, e7]; done), HG2.out⟩
                · skip
                  cases e8 : (ok == ok2)
                  · have HR := Lib.hid (show (k == k2 && (f == f2 && (t == t2 && (s == s2 && ((c == c2 && n == n2) && (sl == sl2 && (ti == ti2 && (ok == ok2 && (tx.toList == tx2.toList && x9))))))))) = false by simp [e0, e1, e2, e3, e4, e5, e6, e7, e8])
                    try rw [HR.out]
                    go_enter Try.func38, Try.ntmps38
                    go_wp2
                    go_ret
                    exact ⟨by first | rfl | (rw [HR.out]; rfl) | (simp [e0, e1, e2, e3, e4, e5, e6, e7, e8]; done), HG2.out⟩
                  · skip
                    cases e9 : (tx.toList == tx2.toList)
                    · have HR := Lib.hid (show (k == k2 && (f == f2 && (t == t2 && (s == s2 && ((c == c2 && n == n2) && (sl == sl2 && (ti == ti2 && (ok == ok2 && (tx.toList == tx2.toList && x9))))))))) = false by simp [e0, e1, e2, e3, e4, e5, e6, e7, e8, e9])
                      try rw [HR.out]
                      go_enter Try.func38, Try.ntmps38
                      go_wp2
                      go_ret
                      exact ⟨by first | rfl | (rw [HR.out]; rfl) | (simp [e0, e1, e2, e3, e4, e5, e6, e7, e8, e9]; done), HG2.out⟩
                    · skip
                      have HR := Lib.hid (show (k == k2 && (f == f2 && (t == t2 && (s == s2 && ((c == c2 && n == n2) && (sl == sl2 && (ti == ti2 && (ok == ok2 && (tx.toList == tx2.toList && x9))))))))) = x9 by simp [e0, e1, e2, e3, e4, e5, e6, e7, e8, e9])
                      simp only [Bool.true_and, Bool.and_true]
                      clear HR
                      go_enter Try.func38, Try.ntmps38
                      go_wp2_with fail
                      refine HE.out.mono ?_
                      rintro e w1 ⟨rfl, hg1⟩
                      go_wp2
                      go_ret
                      exact ⟨rfl, HG2.out.trans hg1⟩
end Go.Proofs.Ytihhfdkcggnjpaa
