import Derived.Test.YtfpnglomemjniaaDoorF06e
import Derived.Test.YtfpnglomemjniaaDoorF06d
import Derived.WalkKit
import Derived.ProofKit
import Derived.LoopTactic
import Derived.Outline
import Derived.WalkSpells
import Derived.WalkLawsBesides
import Derived.Lib.Hide
import Derived.Deep.LoopGhost
import Derived.Deep.QuietTactic
import Derived.BigQuiet
import Derived.ShutString
namespace Go.Proofs.YtfpnglomemjniaaDoor
open Go.ChangeShapes Go.WideShapes Go.ChangeAt Go.RowKit
set_option linter.unusedVariables false
set_option linter.unusedSimpArgs false
set_option maxRecDepth 100000 in
set_option maxHeartbeats 1000000 in
theorem refFind_any (L : List (List ByteArray)) (p : List ByteArray) (a b : Option Addr) (c d : Nat) (w : World) (h : SRow w a L) (hp : Strs w b p) (h4 : L.length ≤ 4) :
    Calls Tryd.prog 37 #[.slice a L.length c, .slice b p.length d] w fun e w' => e = .returned (.int .i64 (findOf L p)) ∧ Gr w w' := by
  rw [findOf_from]
  have HS := Lib.hid h
  have HP := Lib.hid hp
  clear h hp
  generalize hr : findFrom (fun l => overP l p) L 0 = r
  have HR := Lib.hid hr; clear hr
  go_enter Tryd.func37, Tryd.ntmps37
  go_wp2
  go_loopw [9] (fun i wr => ∃ k : Nat, k ≤ L.length ∧ i = .int .i64 k ∧ Hid (findFrom (fun l => overP l p) L k = r) ∧ Hid (Gr w wr)) (fun i _ => L.length - (intOf i).toNat)
  case atStart => exact ⟨0, by omega, rfl, HR, Lib.hid (Gr.refl _)⟩
  case round =>
    obtain ⟨k, hk, rfl, hA, hG⟩ := hrel
    by_cases hlt : k < L.length
    · obtain ⟨b1, o1, ai, ci, rfl, _, hc1, hs1⟩ := HS.out.at k hlt
      have hc2 := hG.out.cell hc1
      have OV := Lib.hid (refOver_any (L[k]'hlt) p ai b ci d wr (hs1.gr hG.out) (HP.out.gr hG.out))
      clear hc1 hs1
      cases hq : overP (L[k]'hlt) p with
      | true =>
        have e := Lib.hid (hA.out.symm.trans (findFrom_hit (fun l => overP l p) L hlt hq))
        rw [hq] at OV
        generalize L[k] = l at *
        clear hq hA
        go_wp2_with fail
        refine OV.out.mono ?_
        rintro e9 w9 ⟨rfl, hg⟩
        have HG := Lib.hid (hG.out.trans hg)
        clear hg hc2
        go_wp2
        go_ret
        exact ⟨by rw [e.out]; rfl, HG.out⟩
      | false =>
        have e := Lib.hid ((findFrom_miss (fun l => overP l p) L hlt hq).symm.trans hA.out)
        rw [hq] at OV
        generalize L[k] = l at *
        clear hq hA
        go_wp2_with fail
        refine OV.out.mono ?_
        rintro e9 w9 ⟨rfl, hg⟩
        have HG := Lib.hid (hG.out.trans hg)
        clear hg hc2
        go_wp2
        go_roundw
        case rel => exact ⟨k + 1, by omega, by go_num, e, HG⟩
        case measure => simp [intOf]; omega
    · have e := Lib.hid (hA.out.symm.trans (findFrom_end (fun l => overP l p) L (by omega)))
      clear hA
      go_wp2
      go_ret
      exact ⟨by rw [e.out]; rfl, hG.out⟩
theorem newOf_num {ss : List ByteArray} {n : Int} {L : List (List ByteArray)} (h : newOf ss = (n, L)) (hn : n ≠ 0) : n = 10 ∨ n = 11 ∨ n = 12 := by
  unfold newOf at h
  split at h
  · injection h with h1; omega
  · split at h
    · injection h with h1; omega
    · split at h
      · injection h with h1; omega
      · injection h with h1; omega
theorem errL_facts {n : Int} (h : n = 10 ∨ n = 11 ∨ n = 12) : codeOf (errL n) = n ∧ (errL n).length ≤ 1000 ∧ Short 1000 (errL n) ∧ ∃ t, trailOf (errL n) = routeW :: t := by
  rcases h with rfl | rfl | rfl
  · refine ⟨rfl, by decide, ?_, _, rfl⟩
    intro c s hm
    simp [errL, noL] at hm
    rcases hm with ⟨_, rfl⟩ | ⟨_, rfl⟩ | ⟨_, rfl⟩ <;> decide
  · refine ⟨rfl, by decide, ?_, _, rfl⟩
    intro c s hm
    simp [errL] at hm
    rcases hm with ⟨_, rfl⟩ | ⟨_, rfl⟩ <;> decide
  · refine ⟨rfl, by decide, ?_, _, rfl⟩
    intro c s hm
    simp [errL] at hm
    rcases hm with ⟨_, rfl⟩ | ⟨_, rfl⟩ <;> decide
theorem rnewIs_ok {L : List (List ByteArray)} {w w' : World} {e : Ending} (h : RNewIs (0, L) w e w') : ∃ a c, e = .returned (.tuple #[.slice a L.length c, .int .i64 0]) ∧ SRow w' a L ∧ Gr w w' := by
  rcases h with ⟨_, h⟩ | ⟨h, _⟩
  · exact h
  · exact absurd rfl h
theorem rnewIs_bad {n : Int} {L : List (List ByteArray)} {w w' : World} {e : Ending} (hn : n ≠ 0) (h : RNewIs (n, L) w e w') : e = .returned (.tuple #[.slice none 0 0, .int .i64 n]) ∧ Gr w w' := by
  rcases h with ⟨h, _⟩ | ⟨_, h⟩
  · exact absurd h hn
  · exact h
end Go.Proofs.YtfpnglomemjniaaDoor
