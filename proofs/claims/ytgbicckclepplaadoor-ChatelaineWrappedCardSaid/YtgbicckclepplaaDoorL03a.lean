import Derived.Test.YtgbicckclepplaaDoorF03h
import Derived.WalkKit
import Derived.ProofKit
import Derived.LoopTactic
import Derived.Outline
import Derived.WalkSpells
import Derived.WalkLawsBesides
import Derived.Lib.Hide
import Derived.Deep.LoopGhost
import Derived.Deep.QuietTactic
import Derived.BigQuiet
import Derived.ShutString
import Derived.LaidEql
import Derived.Laws.Pointers
namespace Go.Proofs.YtgbicckclepplaaDoor
open Go.ChangeShapes Go.WideShapes Go.ChangeAt Go.RowKit Go.Extern.Stop Go.Stop Go.Extern
set_option linter.unusedVariables false
theorem dec21 : Lib.decDigits 21 = [50, 49] := by
  unfold Lib.decDigits
  rw [dif_neg (by decide)]
  unfold Lib.decDigits
  rw [dif_pos (by decide)]
  rfl
def slot7 : ByteArray := ⟨#[115, 108, 111, 116, 32, 55]⟩
def node2 : ByteArray := ⟨#[110, 111, 100, 101, 32, 50]⟩
theorem awake_text : (textOf [.fault 21 node2, .fault 21 slot7, .fault 21 ⟨#[]⟩]).toArray = #[110, 111, 100, 101, 32, 50, 58, 32, 115, 108, 111, 116, 32, 55, 58, 32, 99, 111, 100, 101, 32, 50, 49] := by
  have h : codeOf [.fault 21 node2, .fault 21 slot7, .fault 21 ⟨#[]⟩] = 21 := rfl
  unfold textOf
  rw [h]
  show (placesOf _ ++ [99, 111, 100, 101, 32] ++ Lib.decDigits 21).toArray = _
  rw [dec21]
  decide +kernel
theorem code_nil (w : World) : Calls Tryd.prog 15 #[.nilIface] w fun e w' => e = .returned (.int .i64 0) ∧ w = w' := by
  have q1 := eqNN
  go_enter Tryd.func15, Tryd.ntmps15
  go_wp2
  go_ret
  exact ⟨rfl, rfl⟩
set_option maxRecDepth 100000 in
theorem awake3 (w : World) (he : ET w) : Calls Tryd.prog 10 #[] w fun e w' => e = .returned (.bool true) ∧ Gr w w' := by
  have HE := Lib.hid he
  clear he
  have hC1 : codeOf [.fault 21 ⟨#[]⟩] = 21 := rfl
  have hC2 : codeOf [.fault 21 slot7, .fault 21 ⟨#[]⟩] = 21 := rfl
  have H1 := Lib.hid hC1
  have H2 := Lib.hid hC2
  have HT := Lib.hid awake_text
  clear hC1 hC2
  go_enter Tryd.func10, Tryd.ntmps10
  go_wp2_with fail
  refine (of_any 21 _ (by decide)).mono ?_
  rintro e w1 ⟨u1, rfl, hu1, hg1⟩
  have HU1 := Lib.hid hu1
  have HG1 := Lib.hid hg1
  have HI1 := hu1.isErr
  clear hu1 hg1 HI1
  go_wp2_with fail
  refine (wrap_any u1 _ slot7 _ (by decide) (by simp) HU1.out (HE.out.gr HG1.out)).mono ?_
  rintro e w2 ⟨u2, rfl, hu2, hg2⟩
  rw [H1.out] at hu2
  have HU2 := Lib.hid hu2
  have HG2 := Lib.hid (HG1.out.trans hg2)
  clear hu2 hg2
  go_wp2_with fail
  refine (wrap_any u2 _ node2 _ (by decide) (by simp) HU2.out (HE.out.gr HG2.out)).mono ?_
  rintro e w3 ⟨u3, rfl, hu3, hg3⟩
  rw [H2.out] at hu3
  have HU3 := Lib.hid hu3
  have HG3 := Lib.hid (HG2.out.trans hg3)
  clear hu3 hg3
  go_wp2_with fail
  refine (text_any u3 _ 21 _ (by decide) (by simp) ?_ rfl (by decide) HU3.out (HE.out.gr HG3.out)).mono ?_
  · intro c s hs
    simp only [List.mem_cons, Lk.fault.injEq, List.not_mem_nil, or_false] at hs
    rcases hs with ⟨_, rfl⟩ | ⟨_, rfl⟩ | ⟨_, rfl⟩ <;> decide
  rintro e w4 ⟨rfl, hg4⟩
  rw [HT.out]
  have HG4 := Lib.hid (HG3.out.trans hg4)
  clear hg4
  go_wp2_with fail
  refine (code_nil _).mono ?_
  rintro e w5 ⟨rfl, rfl⟩
  go_wp2
  go_ret
  exact ⟨rfl, HG4.out⟩
/-- What may be done about a code. -/
def marksOf (c : Int) : Int := if c = 13 then 7 else if c = 14 ∨ c = 21 then 6 else if c = 9 ∨ c = 8 ∨ c = 22 then 4 else if c = 7 ∨ c = 19 then 8 else 0
inductive MW (c : Int) : Prop
  | a : c = 13 → MW c
  | b : c = 14 → MW c
  | c : c = 21 → MW c
  | d : c = 9 → MW c
  | e : c = 8 → MW c
  | f : c = 22 → MW c
  | g : c = 7 → MW c
  | h : c = 19 → MW c
  | n : (c == 13) = false → (c == 14) = false → (c == 21) = false → (c == 9) = false → (c == 8) = false → (c == 22) = false → (c == 7) = false → (c == 19) = false → marksOf c = 0 → MW c
theorem mw (c : Int) : MW c := by
  by_cases h1 : c = 13
  · exact .a h1
  by_cases h2 : c = 14
  · exact .b h2
  by_cases h3 : c = 21
  · exact .c h3
  by_cases h4 : c = 9
  · exact .d h4
  by_cases h5 : c = 8
  · exact .e h5
  by_cases h6 : c = 22
  · exact .f h6
  by_cases h7 : c = 7
  · exact .g h7
  by_cases h8 : c = 19
  · exact .h h8
  refine .n ?_ ?_ ?_ ?_ ?_ ?_ ?_ ?_ ?_
  all_goals first | (simp; omega) | (unfold marksOf; simp [h1, h2, h3, h4, h5, h6, h7, h8])
theorem marks_any (c : Int) (w : World) : Calls Tryd.prog 25 #[.int .i64 c] w fun e w' => e = .returned (.int .i64 (marksOf c)) ∧ w = w' := by
  rcases mw c with rfl | rfl | rfl | rfl | rfl | rfl | rfl | rfl | ⟨h1, h2, h3, h4, h5, h6, h7, h8, h9⟩
  all_goals first | rw [h9] | skip
  all_goals
    go_enter Tryd.func25, Tryd.ntmps25
    go_wp2
    go_ret
    exact ⟨by first | rfl | decide, rfl⟩
theorem refMarks_any (c : Int) (w : World) : Calls Tryd.prog 26 #[.int .i64 c] w fun e w' => e = .returned (.int .i64 (marksOf c)) ∧ w = w' := by
  rcases mw c with rfl | rfl | rfl | rfl | rfl | rfl | rfl | rfl | ⟨h1, h2, h3, h4, h5, h6, h7, h8, h9⟩
  all_goals first | rw [h9] | skip
  all_goals
    go_enter Tryd.func26, Tryd.ntmps26
    go_wp2
    go_ret
    exact ⟨by first | rfl | decide, rfl⟩
theorem marks_vals (c : Int) : marksOf c = 7 ∨ marksOf c = 6 ∨ marksOf c = 4 ∨ marksOf c = 8 ∨ marksOf c = 0 := by
  unfold marksOf; split <;> (try split) <;> (try split) <;> (try split) <;> simp
theorem faultMarks_walk (c : Int) (w : World) (wc : (Lit.int .i64 c).wf = true) (he : ET w) :
    Calls Tryd.prog 7 #[.int .i64 c] w fun e w' => e = .returned (.bool true) ∧ Gr w w' := by
  have M1 := marks_any c
  have M2 := refMarks_any c
  have HE := Lib.hid he
  clear he wc
  rcases marks_vals c with h | h | h | h | h
  all_goals
    rw [h] at M1 M2
    clear h
    go_enter Tryd.func7, Tryd.ntmps7
    go_wp2_with fail
    refine (awake3 _ HE.out).mono ?_
    rintro e w1 ⟨rfl, hg⟩
    go_wp2_with fail
    refine (M1 _).mono ?_
    rintro e w2 ⟨rfl, rfl⟩
    go_wp2_with fail
    refine (M2 _).mono ?_
    rintro e w2 ⟨rfl, rfl⟩
    go_wp2
    go_ret
    exact ⟨by first | rfl | decide, hg⟩
end Go.Proofs.YtgbicckclepplaaDoor
