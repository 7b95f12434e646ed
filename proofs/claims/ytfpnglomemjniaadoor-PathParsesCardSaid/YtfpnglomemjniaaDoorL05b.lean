import Derived.Test.YtfpnglomemjniaaDoorF05k
import Derived.Test.YtfpnglomemjniaaDoorF05l
import Derived.Test.YtfpnglomemjniaaDoorF05g
import Derived.WalkKit
import Derived.ProofKit
import Derived.LoopTactic
import Derived.Outline
import Derived.WalkSpells
import Derived.WalkLawsBesides
import Derived.Lib.Hide
import Derived.Deep.LoopGhost
import Derived.Deep.QuietTactic
import Derived.BigQuiet
import Derived.ShutString
import Derived.Deep.RegionHeld3
namespace Go.Proofs.YtfpnglomemjniaaDoor
open Go.ChangeShapes Go.WideShapes Go.ChangeAt Go.RowKit
set_option linter.unusedVariables false
set_option linter.unusedSimpArgs false
theorem parseIs_some {l : List ByteArray} {w w' : World} {e : Ending} (h : ParseIs (some l) w e w') : ∃ a c, e = .returned (.tuple #[.slice a l.length c, .bool true]) ∧ Strs w' a l ∧ Gr w w' := h
theorem parseIs_none {w w' : World} {e : Ending} (h : ParseIs none w e w') : ∃ v, e = .returned (.tuple #[v, .bool false]) ∧ Gr w w' := h
theorem noL_short : Short 1000 noL := by
  intro c s hm
  simp [noL] at hm
  rcases hm with ⟨_, rfl⟩ | ⟨_, rfl⟩ <;> decide
theorem noL_trail : trailOf noL = [⟨#[112, 97, 116, 104]⟩] := by decide +kernel
theorem sameP_self (l : List ByteArray) : sameP l l = true := by simp [sameP]
set_option maxRecDepth 100000 in
set_option maxHeartbeats 4000000 in
theorem pathParses_walk (s : ByteArray) (w : World) (hs : s.size ≤ 9223372036854775807) (he : ET w) (hm : ML w) :
    Calls Tryd.prog 3 #[.string s] w fun e w' => e = .returned (.bool true) ∧ Gr w w' := by
  have q1 := eqNN
  have q2 := eqIN
  have HE := Lib.hid he
  have HM := Lib.hid hm
  clear he hm
  obtain ⟨s', hs', hcut⟩ : ∃ s' : ByteArray, s'.size ≤ 150 ∧ (150 < s.size ∧ s.extract 0 150 = s' ∨ s'.size ≤ 150 ∧ s' = s) := by
    rcases Nat.lt_or_ge 150 s.size with h | h
    · exact ⟨s.extract 0 150, by simp; omega, .inl ⟨h, rfl⟩⟩
    · exact ⟨s, h, .inr ⟨h, rfl⟩⟩
  rcases hcut with ⟨h150, hc⟩ | ⟨h150, rfl⟩
  all_goals
    go_enter Tryd.func3, Tryd.ntmps3
    go_wp2_with fail
    refine (awake_any _ HE.out HM.out).mono ?_
    rintro e w1 ⟨rfl, hg1⟩
    have HG1 := Lib.hid hg1
    clear hg1
    go_wp2_with fail
    refine (parse_any s' _ (by omega) (HE.out.gr HG1.out) (HM.out.gr HG1.out)).mono ?_
    have R := Lib.hid (fun w => refParse_any s' w (by omega))
    cases ho : parseOf s' with
    | none =>
      rw [ho] at R
      intro e w2 h2
      obtain ⟨b, rfl, hch, hg2⟩ := none_is h2
      have HG2 := Lib.hid ((HG1.out.trans hg2).alloc (.cells #[.string ⟨#[]⟩] 24))
      have HC := Lib.hid (hch.gr ((Gr.refl w2).alloc (.cells #[.string ⟨#[]⟩] 24)))
      have c0 : (w2.alloc (.cells #[.string ⟨#[]⟩] 24)).cell? ⟨w2.heap.size, 0, none⟩ = some (.string ⟨#[]⟩) := new_cell rfl rfl
      clear h2 hch hg2 ho
      go_wp2_with fail
      refine (R.out _).mono ?_
      intro e w3 h3
      obtain ⟨v, rfl, hg3⟩ := parseIs_none h3
      have c3 := hg3.cell c0
      have HG3 := Lib.hid (HG2.out.trans hg3)
      have HC3 := Lib.hid (HC.out.gr hg3)
      clear h3 hg3 c0
      go_wp2_with fail
      refine (code_any _ noL _ (by decide) HC3.out (HE.out.gr HG3.out)).mono ?_
      rintro e w4 ⟨rfl, hg4⟩
      have e10 : codeOf noL = 10 := rfl
      rw [e10]
      have c4 := hg4.cell c3
      have HG4 := Lib.hid (HG3.out.trans hg4)
      have HC4 := Lib.hid (HC3.out.gr hg4)
      clear hg4 c3
      go_wp2_with fail
      refine (trail_any _ noL _ (by decide) noL_short HC4.out (HE.out.gr HG4.out)).mono ?_
      rw [noL_trail]
      rintro e w5 ⟨at5, ct5, rfl, hst5, _, hg5⟩
      have HG5 := Lib.hid (HG4.out.trans hg5)
      have HS5 := Lib.hid hst5
      clear hst5 hg5
      go_wp2_with fail
      have HS6 : Strs (w5.alloc (.cells #[.string ⟨#[112, 97, 116, 104]⟩] 9)) (some ⟨w5.heap.size, 0, none⟩) [⟨#[112, 97, 116, 104]⟩] := ⟨by decide, by decide, .inr ⟨_, 0, rfl, fun i hi => by
        obtain rfl : i = 0 := by simpa using hi
        exact new_cell rfl rfl⟩⟩
      refine (same_any [⟨#[112, 97, 116, 104]⟩] [⟨#[112, 97, 116, 104]⟩] _ _ _ 1 _ (HS5.out.gr ((Gr.refl _).alloc _)) HS6).mono ?_
      rw [sameP_self]
      rintro e w7 ⟨rfl, hg7⟩
      have HG7 := Lib.hid ((HG5.out.alloc _).trans hg7)
      clear hg7
      go_wp2
      go_ret
      exact ⟨rfl, HG7.out⟩
    | some l =>
      rw [ho] at R
      intro e w2 h2
      obtain ⟨rfl, hg2⟩ := some_is h2
      obtain ⟨hok, hsh⟩ := parseOf_some ho
      have HOK := Lib.hid hok
      have T := Lib.hid (fun w => text_any l w)
      have P := Lib.hid (fun w h => parts_any l w hok h)
      have D := Lib.hid (fun w => depth_any l w hok)
      rw [hsh] at T
      generalize ptext l = t at *
      have l6 : l.length ≤ 6 := by simp only [okParts, Bool.and_eq_true, decide_eq_true_eq] at hok; exact hok.1
      have HG2 := Lib.hid ((HG1.out.trans hg2).alloc (.cells #[.string t] 24))
      have c0 : (w2.alloc (.cells #[.string t] 24)).cell? ⟨w2.heap.size, 0, none⟩ = some (.string t) := new_cell rfl rfl
      clear h2 hg2 ho hok hsh
      go_wp2_with fail
      refine (R.out _).mono ?_
      intro e w3 h3
      obtain ⟨av, cv, rfl, hst, hg3⟩ := parseIs_some h3
      have c3 := hg3.cell c0
      have HG3 := Lib.hid (HG2.out.trans hg3)
      have HS3 := Lib.hid hst
      clear h3 hg3 c0 hst
      go_wp2_with fail
      refine (T.out _).mono ?_
      rintro e w4 ⟨rfl, hg4⟩
      have c4 := hg4.cell c3
      have HG4 := Lib.hid (HG3.out.trans hg4)
      have HS4 := Lib.hid (HS3.out.gr hg4)
      clear hg4 c3
      go_wp2_with fail
      refine (P.out _ (HM.out.gr HG4.out)).mono ?_
      rintro e w5 ⟨a5, k5, rfl, hs5, hg5⟩
      have c5 := hg5.cell c4
      have HG5 := Lib.hid (HG4.out.trans hg5)
      have HS5 := Lib.hid (HS4.out.gr hg5)
      have HT5 := Lib.hid hs5
      clear hg5 c4 hs5
      go_wp2_with fail
      refine (same_any l l _ _ _ _ _ HT5.out HS5.out).mono ?_
      rw [sameP_self]
      rintro e w6 ⟨rfl, hg6⟩
      have c6 := hg6.cell c5
      have HG6 := Lib.hid (HG5.out.trans hg6)
      clear hg6 c5
      go_wp2_with fail
      refine (D.out _).mono ?_
      rintro e w7 ⟨rfl, hg7⟩
      have HG7 := Lib.hid (HG6.out.trans hg7)
      clear hg7
      go_wp2
      go_ret
      exact ⟨by first | rfl | simp, HG7.out⟩
end Go.Proofs.YtfpnglomemjniaaDoor
