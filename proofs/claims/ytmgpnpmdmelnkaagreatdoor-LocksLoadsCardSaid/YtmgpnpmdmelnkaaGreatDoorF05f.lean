import Derived.Test.YtmgpnpmdmelnkaaGreatDoorF05e
import Derived.Test.YtmgpnpmdmelnkaaGreatDoorM05c
import Derived.WalkKit
import Derived.ProofKit
import Derived.LoopTactic
import Derived.Outline
import Derived.WalkSpells
import Derived.WalkLawsBesides
import Derived.Lib.Hide
import Derived.Deep.LoopGhost
import Derived.Deep.QuietTactic
import Derived.BigQuiet
import Derived.ShutString
import Derived.Lib.MinMax
namespace Go.Proofs.YtmgpnpmdmelnkaaGreatDoor
open Go.ChangeShapes Go.WideShapes Go.ChangeAt Go.RowKit
set_option linter.unusedVariables false
set_option linter.unusedSimpArgs false
theorem over_any (l m : List ByteArray) (w : World) (hl : okParts l = true) (hm : okParts m = true) :
    Calls Tryz.prog 54 #[.agg #[.string (ptext l)], .agg #[.string (ptext m)]] w fun e w' => e = .returned (.bool (overP l m)) ∧ Gr w w' := by
  have hh := has_over hl hm
  have s1 : (ptext l).size ≤ 102 := by
    simp only [okParts, Bool.and_eq_true, decide_eq_true_eq] at hl
    have := ptext_size hl.2; omega
  have s2 : (ptext m).size ≤ 102 := by
    simp only [okParts, Bool.and_eq_true, decide_eq_true_eq] at hm
    have := ptext_size hm.2; omega
  have HH := Lib.hid hh
  clear hh hl hm
  generalize ptext l = t at *
  generalize ptext m = u at *
  go_enter Tryz.func54, Tryz.ntmps54
  go_wp2_with fail
  refine (Tryz.strings_HasPrefix _ _ _).mono ?_
  rintro e w1 ⟨rfl, rfl⟩
  have e0 : (⟨#[47]⟩ : ByteArray) = slash := rfl
  rw [e0, HH.out]
  go_wp2
  go_ret
  exact ⟨rfl, ((Gr.refl _).alloc _).alloc _⟩
theorem inLine_any (l m : List ByteArray) (w : World) (hl : okParts l = true) (hm : okParts m = true) :
    Calls Tryz.prog 34 #[.agg #[.string (ptext l)], .agg #[.string (ptext m)]] w fun e w' => e = .returned (.bool (overP l m || overP m l)) ∧ Gr w w' := by
  have H1 := Lib.hid (fun w => over_any l m w hl hm)
  have H2 := Lib.hid (fun w => over_any m l w hm hl)
  clear hl hm
  generalize ptext l = t at *
  generalize ptext m = u at *
  generalize overP l m = x at *
  generalize overP m l = y at *
  cases x
  · go_enter Tryz.func34, Tryz.ntmps34
    go_wp2_with fail
    refine (H1.out _).mono ?_
    rintro e w1 ⟨rfl, hg⟩
    have d0 : w1.cell? ⟨w.heap.size, 0, none⟩ = some (.string t) := hg.cell (((Gr.refl _).alloc _).cell (new_cell rfl rfl))
    have d1 : w1.cell? ⟨w.heap.size + 1, 0, none⟩ = some (.string u) := hg.cell (new_cell (by simp) rfl)
    have HG := Lib.hid ((((Gr.refl w).alloc _).alloc _).trans hg)
    clear hg
    go_wp2_with fail
    refine (H2.out _).mono ?_
    rintro e w2 ⟨rfl, hg⟩
    have HG2 := Lib.hid (HG.out.trans hg)
    clear hg
    go_wp2
    go_ret
    exact ⟨rfl, HG2.out⟩
  · go_enter Tryz.func34, Tryz.ntmps34
    go_wp2_with fail
    refine (H1.out _).mono ?_
    rintro e w1 ⟨rfl, hg⟩
    have HG := Lib.hid ((((Gr.refl w).alloc _).alloc _).trans hg)
    clear hg
    go_wp2
    go_ret
    exact ⟨rfl, HG.out⟩
theorem nan_any (s : ByteArray) (w : World) : Calls Tryz.prog 88 #[.string s] w fun e w' => e = .returned (.bool false) ∧ w = w' := by
  go_enter Tryz.func88, Tryz.ntmps88
  go_wp2
  go_ret
  exact ⟨by simp, rfl⟩
theorem cmp_any (s t : ByteArray) (w : World) : Calls Tryz.prog 74 #[.string s, .string t] w fun e w' => e = .returned (.int .i64 (cmpB s t)) ∧ w = w' := by
  have hl := cmpB_less s t
  have he := cmpB_eq s t
  have hr := cmpB_range s t
  generalize cmpB s t = c at *
  rcases hr with rfl | rfl | rfl
  all_goals
    first | replace hl : Op.bytesLess s.toList t.toList = true := hl | replace hl : Op.bytesLess s.toList t.toList = false := hl
    first | replace he : (s.toList == t.toList) = true := he | replace he : (s.toList == t.toList) = false := he
    go_enter Tryz.func74, Tryz.ntmps74
    go_wp2_with (go_at_call 88; refine (nan_any _ _).mono ?_; rintro e w' ⟨rfl, rfl⟩)
    go_ret
    exact ⟨rfl, rfl⟩
set_option maxRecDepth 100000 in
set_option maxHeartbeats 1000000 in
theorem slicesCompare_any (l m : List ByteArray) (a b : Option Addr) (c d : Nat) (w : World) (hl : Strs w a l) (hm : Strs w b m) :
    Calls Tryz.prog 53 #[.slice a l.length c, .slice b m.length d] w fun e w' => e = .returned (.int .i64 (cmpP l m)) ∧ w = w' := by
  have HL := Lib.hid hl
  have HM := Lib.hid hm
  have l1 := hl.2.1
  have l2 := hm.2.1
  clear hl hm
  generalize hr : cmpP l m = r
  have HR := Lib.hid hr; clear hr
  go_enter Tryz.func53, Tryz.ntmps53
  go_wp2
  go_loop [11] (fun i => ∃ k : Nat, k ≤ l.length ∧ k ≤ m.length ∧ i = .int .i64 k ∧ Hid (cmpP (l.drop k) (m.drop k) = r)) (fun i => l.length - (intOf i).toNat)
  case atStart => exact ⟨0, by omega, by omega, rfl, Lib.hid HR.out⟩
  case round =>
    obtain ⟨k, hk, hk2, rfl, hA⟩ := hrel
    by_cases hlt : k < l.length
    · obtain ⟨b1, o1, rfl, _, hc1, _⟩ := HL.out.at k hlt
      by_cases hlt2 : k < m.length
      · obtain ⟨b2, o2, rfl, _, hc2, _⟩ := HM.out.at k hlt2
        have hS := Lib.hid (cmpP_step hlt hlt2)
        have hrg := cmpB_range l[k] m[k]
        have HC := Lib.hid (fun w => cmp_any l[k] m[k] w)
        generalize cmpB l[k] m[k] = q at *
        generalize l[k] = s at *
        generalize m[k] = t at *
        have hA2 := Lib.hid (hS.out.symm.trans hA.out)
        clear hA hS
        rcases hrg with rfl | rfl | rfl
        · go_wp2_with (go_at_call 74; refine (HC.out _).mono ?_; rintro e w' ⟨rfl, rfl⟩)
          go_ret
          exact ⟨by rw [← hA2.out]; rfl, rfl⟩
        · go_wp2_with (go_at_call 74; refine (HC.out _).mono ?_; rintro e w' ⟨rfl, rfl⟩)
          go_round
          case rel => exact ⟨k + 1, by omega, by omega, by go_num, Lib.hid (by rw [← hA2.out]; rfl)⟩
          case measure => simp [intOf]; omega
        · go_wp2_with (go_at_call 74; refine (HC.out _).mono ?_; rintro e w' ⟨rfl, rfl⟩)
          go_ret
          exact ⟨by rw [← hA2.out]; rfl, rfl⟩
      · have e := Lib.hid (hA.out.symm.trans (cmpP_end (.inr (by omega)) hk hk2))
        have h3 : m.length < l.length := by omega
        clear hA
        go_wp2
        go_ret
        refine ⟨?_, rfl⟩
        rw [e.out, if_neg (by omega), if_pos h3]; rfl
    · have e := Lib.hid (hA.out.symm.trans (cmpP_end (.inl (by omega)) hk hk2))
      clear hA
      by_cases h3 : l.length < m.length
      · go_wp2
        go_ret
        refine ⟨?_, rfl⟩
        rw [e.out, if_pos h3]; rfl
      · go_wp2
        go_ret
        refine ⟨?_, rfl⟩
        rw [e.out, if_neg h3, if_neg (by omega)]; rfl
end Go.Proofs.YtmgpnpmdmelnkaaGreatDoor
