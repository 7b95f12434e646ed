import Derived.Test.YtihhfdkcggnjpaaF10
import Derived.Test.YtihhfdkcggnjpaaK3
import Derived.WalkKit
import Derived.ProofKit
import Derived.LoopTactic
import Derived.Outline
import Derived.WalkSpells
import Derived.WalkLawsBesides
import Derived.Lib.Hide
import Derived.Deep.LoopGhost
import Derived.Deep.QuietTactic
import Derived.BigQuiet
import Derived.ShutString
import Derived.IntWalk
namespace Go.Proofs.Ytihhfdkcggnjpaa
open Go.ChangeShapes Go.WideShapes Go.ChangeAt Go.RowKit
set_option linter.unusedVariables false
set_option linter.unusedSimpArgs false
def upB (n m : Int) : Bool := decide (0 ≤ n) && decide (n ≤ m)
def balB (c n : Int) : Bool := upB n 11 && (decide (0 < c) || decide (c = 0 ∧ n = 0))
def badE (e : E) : Bool := !upB e.slot 1099511627776 || !balB e.c e.n
def bigE (e : E) : Bool := decide (400 < (e.text.size : Int))
theorem HK0 (w : World) (c n : Int) : (w.alloc (.cells #[.int .u64 c, .int .i64 n] 50)).cell? ⟨w.heap.size, 0, none⟩ = some (.int .u64 c) ∧ (w.alloc (.cells #[.int .u64 c, .int .i64 n] 50)).cell? ⟨w.heap.size, 1, none⟩ = some (.int .i64 n) :=
  ⟨(Gr.refl (w.alloc _)).own.1 0 _ rfl, (Gr.refl (w.alloc _)).own.1 1 _ rfl⟩
theorem isKind_any (k : Int) (w : World) : Calls Try.prog 104 #[.int .i64 k] w fun e w' => e = .returned (.bool (decide (1 ≤ k) && decide (k ≤ 13))) ∧ Gr w w' := by
  by_cases h1 : 1 ≤ k
  · by_cases h2 : k ≤ 13
    · go_enter Try.func104, Try.ntmps104
      go_wp2
      go_ret
      exact ⟨by simp [h1, h2], Gr.refl _⟩
    · go_enter Try.func104, Try.ntmps104
      go_wp2
      go_ret
      exact ⟨by simp [h1, h2], Gr.refl _⟩
  · go_enter Try.func104, Try.ntmps104
    go_wp2
    go_ret
    exact ⟨by simp [h1]; try omega, Gr.refl _⟩
theorem upTo_any (n m : Int) (w : World) : Calls Try.prog 165 #[.int .i64 n, .int .i64 m] w fun e w' => e = .returned (.bool (upB n m)) ∧ Gr w w' := by
  unfold upB
  by_cases h1 : 0 ≤ n
  · by_cases h2 : n ≤ m
    · go_enter Try.func165, Try.ntmps165
      go_wp2
      go_ret
      exact ⟨by simp [h1, h2], Gr.refl _⟩
    · go_enter Try.func165, Try.ntmps165
      go_wp2
      go_ret
      exact ⟨by simp [h1, h2], Gr.refl _⟩
  · go_enter Try.func165, Try.ntmps165
    go_wp2
    go_ret
    exact ⟨by simp [h1]; try omega, Gr.refl _⟩
theorem isBallot_any (c n : Int) (w : World) : Calls Try.prog 166 #[.agg #[.int .u64 c, .int .i64 n]] w fun e w' => e = .returned (.bool (balB c n)) ∧ Gr w w' := by
  unfold balB
  have HA := Lib.hid ((Gr.refl w).alloc (.cells #[.int .u64 c, .int .i64 n] 50))
  have HU := Lib.hid (upTo_any n 11)
  have HN := Lib.hid (none08_any c n)
  cases e0 : upB n 11
  · have E0 := Lib.hid e0
    rw [e0] at HU
    clear e0
    go_enter Try.func166, Try.ntmps166
    go_wp2_with fail
    refine (HU.out _).mono ?_
    rintro e w9 ⟨rfl, hg9⟩
    have HG9 := Lib.hid (HA.out.trans hg9)
    clear hg9
    go_wp2
    go_ret
    exact ⟨by first | rfl | simp, HG9.out⟩
  · have E0 := Lib.hid e0
    rw [e0] at HU
    clear e0
    by_cases hc : 0 < c
    · go_enter Try.func166, Try.ntmps166
      go_wp2_with fail
      refine (HU.out _).mono ?_
      rintro e w9 ⟨rfl, hg9⟩
      have HG9 := Lib.hid (HA.out.trans hg9)
      have k0 := hg9.cell (HK0 w c n).1
      have k1 := hg9.cell (HK0 w c n).2
      clear hg9
      go_wp2
      go_ret
      exact ⟨by simp [hc], HG9.out⟩
    · go_enter Try.func166, Try.ntmps166
      go_wp2_with fail
      refine (HU.out _).mono ?_
      rintro e w9 ⟨rfl, hg9⟩
      have HG9 := Lib.hid (HA.out.trans hg9)
      have k0 := hg9.cell (HK0 w c n).1
      have k1 := hg9.cell (HK0 w c n).2
      clear hg9
      go_wp2_with fail
      refine (HN.out _).mono ?_
      rintro e w8 ⟨rfl, hg8⟩
      have HG8 := Lib.hid (HG9.out.trans hg8)
      clear hg8 k0 k1
      go_wp2
      go_ret
      exact ⟨by simp [hc], HG8.out⟩
theorem bad_any (y : E) (w : World) : Calls Try.prog 164 #[.agg #[.int .i64 y.slot, .int .u64 y.c, .int .i64 y.n, .string y.text]] w fun e w' => e = .returned (.bool (badE y)) ∧ Gr w w' := by
  unfold badE
  have HA := Lib.hid ((Gr.refl w).alloc (.cells #[.int .i64 y.slot, .int .u64 y.c, .int .i64 y.n, .string y.text] 159))
  have HO := Lib.hid ((Gr.refl (w.alloc (.cells #[.int .i64 y.slot, .int .u64 y.c, .int .i64 y.n, .string y.text] 159))).own)
  have HU := Lib.hid (upTo_any y.slot 1099511627776)
  have HB := Lib.hid (isBallot_any y.c y.n)
  cases e0 : upB y.slot 1099511627776
  · rw [e0] at HU
    clear e0
    go_enter Try.func164, Try.ntmps164
    go_wp2_with fail
    refine (HU.out _).mono ?_
    rintro e w9 ⟨rfl, hg9⟩
    have HG9 := Lib.hid (HA.out.trans hg9)
    clear hg9
    go_wp2
    go_ret
    exact ⟨by first | rfl | simp, HG9.out⟩
  · rw [e0] at HU
    clear e0
    go_enter Try.func164, Try.ntmps164
    go_wp2_with fail
    refine (HU.out _).mono ?_
    rintro e w9 ⟨rfl, hg9⟩
    have HG9 := Lib.hid (HA.out.trans hg9)
    have k1 := hg9.cell (HO.out.1 1 _ rfl)
    have k2 := hg9.cell (HO.out.1 2 _ rfl)
    clear hg9
    go_wp2_with fail
    refine (HB.out _).mono ?_
    rintro e w8 ⟨rfl, hg8⟩
    have HG8 := Lib.hid (HG9.out.trans hg8)
    clear hg8 k1 k2
    go_wp2
    go_ret
    exact ⟨by first | rfl | simp, HG8.out⟩
theorem big_any (y : E) (w : World) : Calls Try.prog 168 #[.agg #[.int .i64 y.slot, .int .u64 y.c, .int .i64 y.n, .string y.text]] w fun e w' => e = .returned (.bool (bigE y)) ∧ Gr w w' := by
  unfold bigE
  by_cases h : 400 < (y.text.size : Int)
  · go_enter Try.func168, Try.ntmps168
    go_wp2
    go_ret
    exact ⟨by simp [h], (Gr.refl _).alloc _⟩
  · go_enter Try.func168, Try.ntmps168
    go_wp2
    go_ret
    exact ⟨by simp [h], (Gr.refl _).alloc _⟩
set_option maxRecDepth 100000 in
set_option maxHeartbeats 2000000 in
theorem badI_any {base : Nat} {v : Value} (L : List E) (w : World) (h : w.ownsRow base 159 4 v L.length (rcells encE L)) (hl : L.length ≤ 1000) :
    Calls Try.prog 208 #[v, .func (.func 164) #[] #[]] w fun e w' => ∃ i : Int, e = .returned (.int .i64 i) ∧ decide (0 ≤ i) = L.any badE ∧ Gr w w' := by
  obtain ⟨a, c, rfl, _⟩ := ownsRow_slice h
  have HS := Lib.hid fun k hk => erow_at h k hk
  clear h
  go_enter Try.func208, Try.ntmps208
  go_wp2
  go_loopw [8] (fun u1 wr => ∃ k : Nat, k ≤ L.length ∧ u1 = .int .i64 (k : Nat) ∧ Hid (∀ j (hj : j < L.length), j < k → badE L[j] = false) ∧ Hid (Gr w wr)) (fun u1 _ => L.length - (intOf u1).toNat)
  case atStart => exact ⟨0, by omega, rfl, Lib.hid (fun j _ hj => absurd hj (by omega)), Lib.hid (Gr.refl _)⟩
  case round =>
    obtain ⟨k, hk, rfl, HN, HG⟩ := hrel
    by_cases hlt : k < L.length
    · have hk4 : (k : Int) < (L.length : Int) := by omega
      obtain ⟨g, cap, hv, hc1, hc2, hc3, hc4⟩ := HS.out k hlt
      simp only [Value.slice.injEq, true_and] at hv
      obtain ⟨rfl, rfl⟩ := hv
      have d1 := HG.out.cell hc1
      have d2 := HG.out.cell hc2
      have d3 := HG.out.cell hc3
      have d4 := HG.out.cell hc4
      clear hc1 hc2 hc3 hc4
      have HM := Lib.hid (List.getElem_mem hlt)
      have HC := Lib.hid (bad_any L[k] wr)
      generalize hy : L[k] = y at *
      have HY := Lib.hid hy
      clear hy
      cases hx : badE y
      · have HX := Lib.hid hx
        rw [hx] at HC
        clear hx
        go_wp2_with fail
        refine HC.out.mono ?_
        rintro e w9 ⟨rfl, hg9⟩
        have HG9 := Lib.hid (HG.out.trans hg9)
        clear hg9 d1 d2 d3 d4
        go_wp2
        go_roundw
        case rel => exact ⟨k + 1, by omega, by go_num, Lib.hid (fun j hj hjk => by
          by_cases e : j = k
          · subst e; rw [HY.out]; exact HX.out
          · exact HN.out j hj (by omega)), HG9⟩
        case measure => simp [intOf]; omega
      · have HX := Lib.hid hx
        rw [hx] at HC
        clear hx
        go_wp2_with fail
        refine HC.out.mono ?_
        rintro e w9 ⟨rfl, hg9⟩
        have HG9 := Lib.hid (HG.out.trans hg9)
        clear hg9 d1 d2 d3 d4
        go_wp2
        go_ret
        exact ⟨_, rfl, by rw [decide_eq_true (by omega)]; exact (List.any_eq_true.2 ⟨y, HM.out, HX.out⟩).symm, HG9.out⟩
    · have hk5 : ¬ (k : Int) < (L.length : Int) := by omega
      go_wp2
      go_ret
      refine ⟨_, rfl, ?_, HG.out⟩
      rw [show decide ((0 : Int) ≤ -1) = false from rfl]
      refine (List.any_eq_false.2 fun y hy => ?_).symm
      obtain ⟨j, hj, rfl⟩ := List.getElem_of_mem hy
      rw [HN.out j hj (by omega)]; simp
theorem badC_any {base : Nat} {v : Value} (L : List E) (w : World) (h : w.ownsRow base 159 4 v L.length (rcells encE L)) (hl : L.length ≤ 1000) :
    Calls Try.prog 167 #[v, .func (.func 164) #[] #[]] w fun e w' => e = .returned (.bool (L.any badE)) ∧ Gr w w' := by
  obtain ⟨a, c, rfl, _⟩ := ownsRow_slice h
  have HC := Lib.hid (badI_any L w h hl)
  clear h
  generalize L.any badE = b at *
  go_enter Try.func167, Try.ntmps167
  go_wp2_with fail
  refine HC.out.mono ?_
  rintro e w9 ⟨i, rfl, hi, hg9⟩
  have HG9 := Lib.hid hg9
  have HI := Lib.hid hi
  clear hg9 hi HC
  go_wp2
  go_ret
  exact ⟨by first | (rw [← HI.out]; rfl) | (simp [← HI.out]; done), HG9.out⟩
set_option maxRecDepth 100000 in
set_option maxHeartbeats 2000000 in
theorem bigI_any {base : Nat} {v : Value} (L : List E) (w : World) (h : w.ownsRow base 159 4 v L.length (rcells encE L)) (hl : L.length ≤ 1000) :
    Calls Try.prog 208 #[v, .func (.func 168) #[] #[]] w fun e w' => ∃ i : Int, e = .returned (.int .i64 i) ∧ decide (0 ≤ i) = L.any bigE ∧ Gr w w' := by
  obtain ⟨a, c, rfl, _⟩ := ownsRow_slice h
  have HS := Lib.hid fun k hk => erow_at h k hk
  clear h
  go_enter Try.func208, Try.ntmps208
  go_wp2
  go_loopw [8] (fun u1 wr => ∃ k : Nat, k ≤ L.length ∧ u1 = .int .i64 (k : Nat) ∧ Hid (∀ j (hj : j < L.length), j < k → bigE L[j] = false) ∧ Hid (Gr w wr)) (fun u1 _ => L.length - (intOf u1).toNat)
  case atStart => exact ⟨0, by omega, rfl, Lib.hid (fun j _ hj => absurd hj (by omega)), Lib.hid (Gr.refl _)⟩
  case round =>
    obtain ⟨k, hk, rfl, HN, HG⟩ := hrel
    by_cases hlt : k < L.length
    · have hk4 : (k : Int) < (L.length : Int) := by omega
      obtain ⟨g, cap, hv, hc1, hc2, hc3, hc4⟩ := HS.out k hlt
      simp only [Value.slice.injEq, true_and] at hv
      obtain ⟨rfl, rfl⟩ := hv
      have d1 := HG.out.cell hc1
      have d2 := HG.out.cell hc2
      have d3 := HG.out.cell hc3
      have d4 := HG.out.cell hc4
      clear hc1 hc2 hc3 hc4
      have HM := Lib.hid (List.getElem_mem hlt)
      have HC := Lib.hid (big_any L[k] wr)
      generalize hy : L[k] = y at *
      have HY := Lib.hid hy
      clear hy
      cases hx : bigE y
      · have HX := Lib.hid hx
        rw [hx] at HC
        clear hx
        go_wp2_with fail
        refine HC.out.mono ?_
        rintro e w9 ⟨rfl, hg9⟩
        have HG9 := Lib.hid (HG.out.trans hg9)
        clear hg9 d1 d2 d3 d4
        go_wp2
        go_roundw
        case rel => exact ⟨k + 1, by omega, by go_num, Lib.hid (fun j hj hjk => by
          by_cases e : j = k
          · subst e; rw [HY.out]; exact HX.out
          · exact HN.out j hj (by omega)), HG9⟩
        case measure => simp [intOf]; omega
      · have HX := Lib.hid hx
        rw [hx] at HC
        clear hx
        go_wp2_with fail
        refine HC.out.mono ?_
        rintro e w9 ⟨rfl, hg9⟩
        have HG9 := Lib.hid (HG.out.trans hg9)
        clear hg9 d1 d2 d3 d4
        go_wp2
        go_ret
        exact ⟨_, rfl, by rw [decide_eq_true (by omega)]; exact (List.any_eq_true.2 ⟨y, HM.out, HX.out⟩).symm, HG9.out⟩
    · have hk5 : ¬ (k : Int) < (L.length : Int) := by omega
      go_wp2
      go_ret
      refine ⟨_, rfl, ?_, HG.out⟩
      rw [show decide ((0 : Int) ≤ -1) = false from rfl]
      refine (List.any_eq_false.2 fun y hy => ?_).symm
      obtain ⟨j, hj, rfl⟩ := List.getElem_of_mem hy
      rw [HN.out j hj (by omega)]; simp
theorem bigC_any {base : Nat} {v : Value} (L : List E) (w : World) (h : w.ownsRow base 159 4 v L.length (rcells encE L)) (hl : L.length ≤ 1000) :
    Calls Try.prog 167 #[v, .func (.func 168) #[] #[]] w fun e w' => e = .returned (.bool (L.any bigE)) ∧ Gr w w' := by
  obtain ⟨a, c, rfl, _⟩ := ownsRow_slice h
  have HC := Lib.hid (bigI_any L w h hl)
  clear h
  generalize L.any bigE = b at *
  go_enter Try.func167, Try.ntmps167
  go_wp2_with fail
  refine HC.out.mono ?_
  rintro e w9 ⟨i, rfl, hi, hg9⟩
  have HG9 := Lib.hid hg9
  have HI := Lib.hid hi
  clear hg9 hi HC
  go_wp2
  go_ret
  exact ⟨by first | (rw [← HI.out]; rfl) | (simp [← HI.out]; done), HG9.out⟩
end Go.Proofs.Ytihhfdkcggnjpaa
