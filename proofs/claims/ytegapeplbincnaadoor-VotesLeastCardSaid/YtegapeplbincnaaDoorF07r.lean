import Derived.Test.YtegapeplbincnaaDoorF07q
import Derived.WalkKit
import Derived.ProofKit
import Derived.LoopTactic
import Derived.Outline
import Derived.WalkSpells
import Derived.WalkLawsBesides
import Derived.Lib.Hide
import Derived.Deep.LoopGhost
import Derived.Deep.QuietTactic
import Derived.BigQuiet
import Derived.ShutString
import Derived.IntWalk
import Derived.Laws.AppendOwn
import Derived.Laws.Bits64b
namespace Go.Proofs.YtegapeplbincnaaDoor
open Go.ChangeShapes Go.WideShapes Go.ChangeAt Go.RowKit
open Grids
set_option linter.unusedVariables false
set_option linter.unusedSimpArgs false
theorem own_base {w : World} {base : Nat} {e : TypeId} {size : Nat} {n cap : Nat} {a : Option Addr} {xs : List Value} (h : w.ownsRow base e size (.slice a n cap) n xs) : ∀ b o, a = some ⟨b, o, none⟩ → base ≤ b := by
  intro b o ha
  rcases h.2 with ⟨hv, _⟩ | ⟨g, cap, cur, hv, hb, _⟩
  · rw [ha] at hv; cases hv
  · rw [ha] at hv; cases hv; exact hb
/-- What List returns: a row of its own. -/
def ListIs3 (x : Nat) (w : World) (e : Ending) (w' : World) : Prop := ∃ a cap, e = .returned (.slice a (ints (bitsL x)).length cap) ∧ Ints w' a (ints (bitsL x)) ∧ Gr w w' ∧ ∀ b o, a = some ⟨b, o, none⟩ → w.heap.size ≤ b
theorem listIs3_mk {x : Nat} {P : List Nat} {v : Value} {w w' : World} (hP : P = bitsL x) (ho : w'.ownsRow w.heap.size 3 1 v P.length ((ints P).map (Value.int .i64))) (hg : Gr w w') : ListIs3 x w (.returned v) w' := by
  subst hP
  have hl : (ints (bitsL x)).length ≤ 9223372036854775807 := by
    have h1 := bitsL_len x
    have h2 := cnt_le x.testBit 32
    simp [ints]; omega
  obtain ⟨a, cap, rfl, hn, hi⟩ := ints_of_row ho (ints_wf fun n hn => (bitsL_mem hn).1) hl
  exact ⟨a, cap, by rw [hn], hi, hg, own_base ho⟩
set_option maxRecDepth 100000 in
set_option maxHeartbeats 1000000 in
theorem list3_any (x : Nat) (w : World) (hx : x < 4294967296) (hT : TB w) : Calls Tryd.prog 10 #[.int .u32 x] w (ListIs3 x w) := by
  obtain ⟨i0, hi, hz0, hz1, hz2⟩ := info_parts info_int
  have HT := Lib.hid hT
  clear hT
  go_enter Tryd.func10, Tryd.ntmps10
  go_wp2
  go_loopw [3, 0] (fun v s wr => ∃ (P : List Nat) (y : Nat), y < 4294967296 ∧ s = .int .u32 (y : Nat) ∧ Hid (P ++ bitsL y = bitsL x) ∧ wr.ownsRow w.heap.size 3 1 v P.length ((ints P).map (Value.int .i64)) ∧ Hid (Gr w wr)) (fun _ s _ => (intOf s).toNat)
  case atStart => exact ⟨[], x, hx, rfl, Lib.hid rfl, World.ownsRow_nil _ _ _ _, Lib.hid (Gr.refl _)⟩
  case round =>
    obtain ⟨P, y, hy, rfl, hP, hown, hG⟩ := hrel
    by_cases hy0 : y = 0
    · subst hy0
      have HP := Lib.hid (show P = bitsL x by have := hP.out; rwa [bitsL_zero, List.append_nil] at this)
      go_wp2
      go_ret
      exact listIs3_mk HP.out hown hG.out
    · have t0 : ((y : Int) != 0) = true := by simp; omega
      have hPl : P.length ≤ 32 := by
        have h1 := congrArg List.length hP.out
        have h2 := bitsL_len x
        have h3 := cnt_le x.testBit 32
        rw [List.length_append] at h1; omega
      have TZ := Lib.hid (tz_any y wr hy0 hy (HT.out.gr hG.out))
      have HB := Lib.hid (bitsL_step hy0 hy)
      have HL := Lib.hid (and_less hy0)
      have HA := Lib.hid (w32_and y (y - 1) hy (by omega))
      have hc32 : Lib.ctz 32 y < 32 := (Lib.lowest_bit 32 y hy0 hy).2
      have y1 : ((y : Int) - 1) = ((y - 1 : Nat) : Int) := by omega
      have HY := Lib.hid y1
      have hy1 : 1 ≤ y := by omega
      clear y1 hy0
      generalize hc : Lib.ctz 32 y = c at *
      clear hc
      go_wp2_with fail
      refine TZ.out.mono ?_
      rintro e w2 ⟨rfl, rfl⟩
      go_wp2_with (at_builtin; refine wpList_append_own _ rfl (.tmp 10) (.tmp 13) 22 rfl w.heap.size 3 i0 (.int .i64 0) 1 8 Tryd.underlying22 hi hz0 hz1 hz2 rfl (by decide) _ _ _ rfl (hown.alloc _) ⟨wr.heap.size, 0, none⟩ 1 1 [.int .i64 (c : Nat)] rfl rfl ?c1 ?c2 ?c3 ?c4 ?c5 ?_)
      case c1 => intro j u hj; obtain ⟨hj1, hj2⟩ := List.getElem?_eq_some_iff.1 hj; simp at hj1; subst hj1; simp at hj2; subst hj2; exact new_cell rfl rfl
      case c2 => intro u hu; simp at hu; rcases hu with rfl; rfl
      case c3 => unfold maxLen; omega
      case c4 => omega
      case c5 => have := hG.out.size; simp; omega
      · intro v' w3 hown3 hgrow _
        have hg3 := Lib.hid ((hG.out.alloc _).append (hown.alloc _) hgrow)
        clear hgrow hown
        go_wp2
        go_roundw
        case rel =>
          refine ⟨P ++ [c], y &&& (y - 1), Nat.lt_trans HL.out hy, ?_, ?_, ?_, hg3⟩
          · rw [← HA.out, ← HY.out]
          · exact Lib.hid (by rw [List.append_assoc]; have := hP.out; rw [HB.out] at this; exact this)
          · have := hown3
            simpa [ints] using this
        case measure => simp only [intOf]; rw [HY.out, HA.out]; have := HL.out; omega
end Go.Proofs.YtegapeplbincnaaDoor
