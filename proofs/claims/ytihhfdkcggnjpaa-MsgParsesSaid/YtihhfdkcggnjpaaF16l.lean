import Derived.Test.YtihhfdkcggnjpaaK4
import Derived.Test.YtihhfdkcggnjpaaK3
import Derived.WalkKit
import Derived.ProofKit
import Derived.LoopTactic
import Derived.Outline
import Derived.WalkSpells
import Derived.WalkLawsBesides
import Derived.Lib.Hide
import Derived.Deep.LoopGhost
import Derived.Deep.QuietTactic
import Derived.BigQuiet
import Derived.ShutString
import Derived.IntWalk
namespace Go.Proofs.Ytihhfdkcggnjpaa
open Go.ChangeShapes Go.WideShapes Go.ChangeAt Go.RowKit
open Bal
set_option linter.unusedVariables false
set_option linter.unusedSimpArgs false
theorem erow_at {w : World} {base : Nat} {v : Value} {L : List E} (h : w.ownsRow base 159 4 v L.length (rcells encE L)) (i : Nat) (hi : i < L.length) :
    ∃ g cap, v = .slice (some ⟨g, 0, none⟩) L.length cap ∧ w.cell? ⟨g, i * 4, none⟩ = some (.int .i64 L[i].slot) ∧ w.cell? ⟨g, i * 4 + 1, none⟩ = some (.int .u64 L[i].c) ∧ w.cell? ⟨g, i * 4 + 2, none⟩ = some (.int .i64 L[i].n) ∧ w.cell? ⟨g, i * 4 + 3, none⟩ = some (.string L[i].text) := by
  obtain ⟨g, cap, cur, hv, _, _, _, _, _, _, _, hat, _⟩ := owns_open h (by omega)
  refine ⟨g, cap, hv, hat _ _ ?_, hat _ _ ?_, hat _ _ ?_, hat _ _ ?_⟩
  · have := rcells_at encE_len L i hi 0 (by omega); rw [Nat.add_zero] at this; rw [this]; rfl
  · rw [rcells_at encE_len L i hi 1 (by omega)]; rfl
  · rw [rcells_at encE_len L i hi 2 (by omega)]; rfl
  · rw [rcells_at encE_len L i hi 3 (by omega)]; rfl
/-- The closure that find hands on. -/
theorem fcmp_any (s c n x : Int) (t : ByteArray) (w : World) :
    Calls Try.prog 157 #[.agg #[.int .i64 s, .int .u64 c, .int .i64 n, .string t], .int .i64 x] w fun e w' => e = .returned (.int .i64 (cmpI s x)) ∧ Gr w w' := by
  have HC := Lib.hid (fun w => cmpInt_any s x w)
  generalize cmpI s x = z at *
  go_enter Try.func157, Try.ntmps157
  go_wp2_with fail
  refine (HC.out _).mono ?_
  rintro e w1 ⟨rfl, rfl⟩
  go_wp2
  go_ret
  exact ⟨rfl, (Gr.refl _).alloc _⟩
/-- Below i the slots are less, from j on not. -/
structure Cut16 (L : List E) (x : Int) (i j : Nat) : Prop where
  lo : ∀ p (h : p < L.length), p < i → L[p].slot < x
  hi : ∀ p (h : p < L.length), j ≤ p → x ≤ L[p].slot
def Asc (L : List E) : Prop := ∀ p q (hp : p < L.length) (hq : q < L.length), p < q → L[p].slot < L[q].slot
theorem cut_up {L : List E} {x : Int} {i j m : Nat} (ha : Asc L) (h : Cut16 L x i j) (hm : m < L.length) (hx : L[m].slot < x) : Cut16 L x (m + 1) j :=
  ⟨fun p hp hpm => by
    by_cases e : p = m
    · subst e; exact hx
    · have := ha p m hp hm (by omega); omega, h.hi⟩
theorem cut_down {L : List E} {x : Int} {i j m : Nat} (ha : Asc L) (h : Cut16 L x i j) (hm : m < L.length) (hx : ¬ L[m].slot < x) : Cut16 L x i m :=
  ⟨h.lo, fun p hp hpm => by
    by_cases e : p = m
    · subst e; omega
    · have := ha m p hm hp (by omega); omega⟩
theorem cmpI_neg (a b : Int) : cmpI a b < 0 ↔ a < b := by
  rcases cmpI_ways a b with ⟨h, e⟩ | ⟨h, e⟩ | ⟨h, e⟩ <;> rw [e] <;> omega
theorem cmpI_zero (a b : Int) : cmpI a b = 0 ↔ a = b := by
  rcases cmpI_ways a b with ⟨h, e⟩ | ⟨h, e⟩ | ⟨h, e⟩ <;> rw [e] <;> omega
set_option maxRecDepth 100000 in
set_option maxHeartbeats 2000000 in
theorem bsE_any {base : Nat} {v : Value} (x : Int) (L : List E) (w : World) (h : w.ownsRow base 159 4 v L.length (rcells encE L)) (hl : L.length ≤ 1000) (ha : Asc L) :
    Calls Try.prog 156 #[v, .int .i64 x, .func (.func 157) #[] #[]] w fun e w' => ∃ (i : Nat) (fd : Bool), e = .returned (.tuple #[.int .i64 i, .bool fd]) ∧ i ≤ L.length ∧ Cut16 L x i i ∧ (fd = true ↔ ∃ h : i < L.length, L[i].slot = x) ∧ Gr w w' := by
  obtain ⟨a, c, rfl, _⟩ := ownsRow_slice h
  have HS := Lib.hid fun k hk => erow_at h k hk
  have HM := Lib.hid ha
  clear ha h
  go_enter Try.func156, Try.ntmps156
  go_wp2_with fail
  go_loopw [9, 10] (fun u1 u2 wr => ∃ i j : Nat, i ≤ j ∧ j ≤ L.length ∧ u1 = .int .i64 i ∧ u2 = .int .i64 j ∧ Hid (Cut16 L x i j) ∧ Hid (Gr w wr)) (fun u1 u2 _ => (intOf u2).toNat - (intOf u1).toNat)
  case atStart => exact ⟨0, L.length, by omega, by omega, rfl, rfl, Lib.hid ⟨fun p _ h => by omega, fun p h h2 => by omega⟩, Lib.hid (Gr.refl _)⟩
  case round =>
    obtain ⟨i, j, hij, hjl, rfl, rfl, hP, hG⟩ := hrel
    by_cases hlt : i < j
    · have hml : (i + j) / 2 < L.length := by omega
      obtain ⟨g, cap, hv, hc1, hc2, hc3, hc4⟩ := HS.out ((i + j) / 2) hml
      simp only [Value.slice.injEq, true_and] at hv
      obtain ⟨rfl, rfl⟩ := hv
      have hd1 := hG.out.cell hc1
      have hd2 := hG.out.cell hc2
      have hd3 := hG.out.cell hc3
      have hd4 := hG.out.cell hc4
      clear hc1 hc2 hc3 hc4
      have hmi : (((i + j) / 2 : Nat) : Int) = ((i : Int) + (j : Int)) / 2 := by omega
      have hmn : 0 ≤ ((i : Int) + (j : Int)) / 2 := by omega
      have htn : (((i : Int) + (j : Int)) / 2).toNat = (i + j) / 2 := by omega
      have hml2 : ((i : Int) + (j : Int)) / 2 < (L.length : Int) := by omega
      by_cases hneg : L[(i + j) / 2].slot < x
      · have HQ2 := Lib.hid (cut_up HM.out hP.out hml hneg)
        have hng := (cmpI_neg _ _).2 hneg
        have HF := Lib.hid (fun w => fcmp_any L[(i + j) / 2].slot L[(i + j) / 2].c L[(i + j) / 2].n x L[(i + j) / 2].text w)
        generalize cmpI L[(i + j) / 2].slot x = z at *
        generalize L[(i + j) / 2] = y at *
        clear hP
        go_wp2_with fail
        refine (HF.out _).mono ?_
        rintro e w9 ⟨rfl, hg9⟩
        have HG9 := Lib.hid (hG.out.trans hg9)
        clear hg9 hd1 hd2 hd3 hd4
        go_wp2
        go_roundw
        case rel => exact ⟨(i + j) / 2 + 1, j, by omega, hjl, by rw [← hmi]; go_num, rfl, HQ2, HG9⟩
        case measure => simp [intOf]; omega
      · have HQ2 := Lib.hid (cut_down HM.out hP.out hml hneg)
        have hng : ¬ cmpI L[(i + j) / 2].slot x < 0 := fun e => hneg ((cmpI_neg _ _).1 e)
        have HF := Lib.hid (fun w => fcmp_any L[(i + j) / 2].slot L[(i + j) / 2].c L[(i + j) / 2].n x L[(i + j) / 2].text w)
        generalize cmpI L[(i + j) / 2].slot x = z at *
        generalize L[(i + j) / 2] = y at *
        clear hP
        go_wp2_with fail
        refine (HF.out _).mono ?_
        rintro e w9 ⟨rfl, hg9⟩
        have HG9 := Lib.hid (hG.out.trans hg9)
        clear hg9 hd1 hd2 hd3 hd4
        go_wp2
        go_roundw
        case rel => exact ⟨i, (i + j) / 2, by omega, by omega, rfl, by rw [hmi], HQ2, HG9⟩
        case measure => simp [intOf]; omega
    · obtain rfl : i = j := by omega
      by_cases hn : i < L.length
      · obtain ⟨g, cap, hv, hc1, hc2, hc3, hc4⟩ := HS.out i hn
        simp only [Value.slice.injEq, true_and] at hv
        obtain ⟨rfl, rfl⟩ := hv
        have hd1 := hG.out.cell hc1
        have hd2 := hG.out.cell hc2
        have hd3 := hG.out.cell hc3
        have hd4 := hG.out.cell hc4
        clear hc1 hc2 hc3 hc4
        have hn2 : (i : Int) < (L.length : Int) := by omega
        have HFD : Hid (decide (cmpI L[i].slot x = 0) = true ↔ ∃ h : i < L.length, L[i].slot = x) := Lib.hid ⟨fun e => ⟨hn, (cmpI_zero _ _).1 (of_decide_eq_true e)⟩, fun ⟨_, e⟩ => decide_eq_true ((cmpI_zero _ _).2 e)⟩
        have HF := Lib.hid (fun w => fcmp_any L[i].slot L[i].c L[i].n x L[i].text w)
        generalize cmpI L[i].slot x = z at *
        generalize L[i] = y at *
        go_wp2_with fail
        refine (HF.out _).mono ?_
        rintro e w9 ⟨rfl, hg9⟩
        have HG9 := Lib.hid (hG.out.trans hg9)
        clear hg9 hd1 hd2 hd3 hd4
        go_wp2
        refine bodyPost_ret (v := .tuple #[.int .i64 (i : Nat), .bool (decide (z = 0))]) (by simp [results, Try.results156, go_sem]; try rfl) rfl ?_
        exact ⟨i, decide (z = 0), rfl, by omega, hP.out, HFD.out, HG9.out⟩
      · have hn2 : ¬ (i : Int) < (L.length : Int) := by omega
        go_wp2
        refine bodyPost_ret (v := .tuple #[.int .i64 (i : Nat), .bool false]) (by simp [results, Try.results156, go_sem]; try rfl) rfl ?_
        exact ⟨i, Or.inl ⟨rfl, by omega, hP.out, fun h => absurd h hn, hG.out⟩⟩
end Go.Proofs.Ytihhfdkcggnjpaa
