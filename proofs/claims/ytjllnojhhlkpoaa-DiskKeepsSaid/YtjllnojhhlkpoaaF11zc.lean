import Derived.Test.YtjllnojhhlkpoaaF11zb
import Derived.WalkKit
import Derived.ProofKit
import Derived.LoopTactic
import Derived.Outline
import Derived.WalkSpells
import Derived.WalkLawsBesides
import Derived.Lib.Hide
import Derived.Deep.LoopGhost
import Derived.Deep.QuietTactic
import Derived.BigQuiet
import Derived.ShutString
import Derived.IntWalk
import Derived.Lib.MinMax
import Derived.Deep.RegionWith
import Derived.Deep.RegionHeld3
namespace Go.Proofs.Ytjllnojhhlkpoaa
open Go.ChangeShapes Go.WideShapes Go.ChangeAt Go.RowKit
open Dk
set_option linter.unusedVariables false
set_option linter.unusedSimpArgs false
theorem lawDo_any {b : Nat} {d : D} (p : ActD) (hp : p.ok) (a : Option Addr) (c : Nat) (v : Value) (w : World) (h : DkIs w b d) (hr : RkIs w v d) (hab : rowOf v ≠ b) (hC : Ints w a p.C) (hcap : p.C.length ≤ c) (hoff : p.C = [] ∨ Off a b) :
    Calls Try.prog 14 #[.pointer (some ⟨b, 0, none⟩), v, .agg #[.int .i64 p.K, .int .i64 p.F, .int .i64 p.N, .string p.S, .slice a p.C.length c]] w (LDo b (step d p) v w) := by
  obtain ⟨K, F, N, S, C⟩ := p
  obtain ⟨wK, wF, wN, hS⟩ := hp
  simp only at wK wF wN hS hC hcap hoff ⊢
  unfold step
  simp only
  by_cases k0 : K = 0
  · subst k0; exact lawDo_app F N S a C.length c v w h hr hab hS
  rw [if_neg k0]
  by_cases k1 : K = 1
  · subst k1; exact lawDo_put F N S a C.length c v w h hr hab hS
  rw [if_neg k1]
  by_cases k2 : K = 2
  · subst k2; exact lawDo_sync F N S a C.length c v w h hr hab hS
  rw [if_neg k2]
  by_cases k3 : K = 3
  · subst k3
    by_cases h8 : 8 < C.length
    · exact lawDo_crash_long F N S C a c v w h hr hab hS hC hcap hoff h8
    · exact lawDo_crash_short F N S C a c v w h hr hab hS hC hcap hoff (by omega)
  rw [if_neg k3]
  by_cases k4 : K = 4
  · subst k4; exact lawDo_fail F N S a C.length c v w h hr hab hS wN
  rw [if_neg k4]
  by_cases k5 : K = 5
  · subst k5
    rw [if_pos rfl]
    by_cases f0 : F < 0
    · exact lawDo_spoil_lo F N S a C.length c v w h hr hab hS f0
    by_cases f4 : 4 ≤ F
    · exact lawDo_spoil_hi F N S a C.length c v w h hr hab hS (by omega) f4
    by_cases hne : (d.fs F.toNat).now = (d.fs F.toNat).sure
    · by_cases n0 : N < 0
      · exact lawDo_spoil_neg F N S a C.length c v w h hr hab hS (by omega) (by omega) hne n0
      by_cases n1 : ((d.fs F.toNat).now.size : Int) ≤ N
      · exact lawDo_spoil_big F N S a C.length c v w h hr hab hS (by omega) (by omega) hne (by omega) n1
      obtain ⟨k, rfl⟩ := Int.eq_ofNat_of_zero_le (show 0 ≤ F by omega)
      obtain ⟨m, rfl⟩ := Int.eq_ofNat_of_zero_le (show 0 ≤ N by omega)
      have e : d.fs (k : Int).toNat = d.fs k := rfl
      rw [e] at hne n1
      exact lawDo_spoil_yes k m S a C.length c v w h hr hab hS (by omega) hne (by omega)
    · exact lawDo_spoil_ne F N S a C.length c v w h hr hab hS (by omega) (by omega) hne
  rw [if_neg k5]
  exact lawDo_other K F N S a C.length c v w h hr hab hS k0 k1 k2 k3 k4 k5
theorem act_to {b : Nat} {d d' : D} {i : Int} {g : F → F} {q : Nat} {w : World} {e : Ending} {w' : World} (h : ActIs b d i g w e w') (ha : act d i g = (d', q)) : e = .returned (.int .i64 (q : Nat)) ∧ DkIs w' b d' ∧ Sole b w w' := by
  unfold ActIs at h; rw [ha] at h; exact h
set_option maxRecDepth 100000 in
set_option maxHeartbeats 1000000 in
theorem awake11 (w : World) : Calls Try.prog 11 #[] w fun e w' => e = .returned (.bool true) ∧ Gr w w' := by
  obtain ⟨d1, d2, d3, e1, e2, e3, e4⟩ : ∃ d1 d2 d3 : D, act (new 100) 0 (gApp ⟨#[97, 98]⟩) = (d1, 0) ∧ act d1 0 gKeep = (d2, 0) ∧ act d2 0 (gApp ⟨#[99, 100]⟩) = (d3, 0) ∧ ((crash d3 [1]).fs 0).now = ⟨#[97, 98, 99]⟩ :=
    ⟨_, _, _, rfl, rfl, rfl, by decide⟩
  have E1 := Lib.hid e1
  have E2 := Lib.hid e2
  have E3 := Lib.hid e3
  have E4 := Lib.hid e4
  clear e1 e2 e3 e4
  go_enter Try.func11, Try.ntmps11
  go_wp2_with fail
  refine (new_any 100 (by decide) _).mono ?_
  rintro e w1 ⟨b, rfl, hb, h1, hg1⟩
  have HG1 := Lib.hid hg1
  have HB := Lib.hid (show w.heap.size ≤ b by omega)
  have HD1 := Lib.hid h1
  clear hb h1 hg1
  go_wp2_with fail
  refine (append_any11 0 ⟨#[97, 98]⟩ (by decide) _ HD1.out).mono ?_
  intro e w2 hact
  obtain ⟨rfl, hd2, hs2⟩ := act_to hact E1.out
  have HD2 := Lib.hid hd2
  have HG2 := Lib.hid (hs2.gr HG1.out HB.out)
  clear hact hd2 hs2
  go_wp2_with fail
  refine (sync_any11 0 _ HD2.out).mono ?_
  intro e w3 hact
  obtain ⟨rfl, hd3, hs3⟩ := act_to hact E2.out
  have HD3 := Lib.hid hd3
  have HG3 := Lib.hid (hs3.gr HG2.out HB.out)
  clear hact hd3 hs3
  go_wp2_with fail
  refine (append_any11 0 ⟨#[99, 100]⟩ (by decide) _ HD3.out).mono ?_
  intro e w4 hact
  obtain ⟨rfl, hd4, hs4⟩ := act_to hact E3.out
  have HD4 := Lib.hid hd4
  have HG4 := Lib.hid (hs4.gr HG3.out HB.out)
  have HBL := Lib.hid (cell_lt hd4.room)
  clear hact hd4 hs4
  go_wp2_with fail
  have HG5 := Lib.hid (HG4.out.alloc (.cells #[.int .i64 1] 3))
  refine (crash_any [1] (some ⟨w4.heap.size, 0, none⟩) 1 _ ⟨by decide, by decide, .inr ⟨_, _, rfl, fun i hi => ?c1⟩⟩ (by decide) (.inr ?c2) (HD4.out.gr ((Gr.refl _).alloc _))).mono ?_
  case c1 =>
    obtain rfl : i = 0 := by simp at hi; omega
    exact new_cell rfl rfl
  case c2 =>
    intro bb off e
    simp only [Option.some.injEq, Addr.mk.injEq] at e
    have := HBL.out
    omega
  rintro e w6 ⟨rfl, hd6, hs6⟩
  have HD6 := Lib.hid hd6
  have HG6 := Lib.hid (hs6.gr HG5.out HB.out)
  clear hd6 hs6
  go_wp2_with fail
  refine (read_in 0 (by decide) _ HD6.out).mono ?_
  rintro e w7 ⟨rfl, hg7⟩
  have HG7 := Lib.hid (HG6.out.trans hg7)
  clear hg7
  rw [E4.out]
  go_wp2
  go_ret
  exact ⟨rfl, HG7.out⟩
end Go.Proofs.Ytjllnojhhlkpoaa
