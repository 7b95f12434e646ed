import Derived.Test.YtihhfdkcggnjpaaF10c
import Derived.WalkKit
import Derived.ProofKit
import Derived.LoopTactic
import Derived.Outline
import Derived.WalkSpells
import Derived.WalkLawsBesides
import Derived.Lib.Hide
import Derived.Deep.LoopGhost
import Derived.Deep.QuietTactic
import Derived.BigQuiet
import Derived.ShutString
import Derived.IntWalk
namespace Go.Proofs.Ytihhfdkcggnjpaa
open Go.ChangeShapes Go.WideShapes Go.ChangeAt Go.RowKit
set_option linter.unusedVariables false
set_option linter.unusedSimpArgs false
def rangeB (frm tt sub c n slot time : Int) (L : List E) : Bool := upB frm 11 && (upB tt 11 && (upB sub 3 && (balB c n && (upB slot 1099511627776 && (upB time 1099511627776 && !L.any badE)))))
def shortB (text : ByteArray) (L : List E) : Bool := decide (text.size ≤ 131072) && (decide (L.length ≤ 64) && !L.any bigE)
def chainB : List E → Bool
  | x :: y :: t => decide (x.slot < y.slot) && chainB (y :: t)
  | _ => true
theorem chainB_iff : ∀ L : List E, chainB L = true ↔ ∀ i (h : i + 1 < L.length), L[i].slot < L[i + 1].slot
  | [] => by simp [chainB]
  | [x] => by simp [chainB]
  | x :: y :: t => by
    rw [chainB, Bool.and_eq_true, decide_eq_true_iff, chainB_iff (y :: t)]
    constructor
    · intro ⟨h0, h1⟩ i hi
      cases i with
      | zero => exact h0
      | succ i => exact h1 i (by simpa using hi)
    · intro h
      exact ⟨h 0 (by simp), fun i hi => h (i + 1) (by simpa using hi)⟩
def kindB (kd : Int) : Bool := decide (1 ≤ kd) && decide (kd ≤ 13)
def checkM (kd frm tt sub c n slot time : Int) (text : ByteArray) (L : List E) : Int :=
  if kindB kd then (if rangeB frm tt sub c n slot time L then (if shortB text L then (if chainB L then 0 else 4) else 6) else 2) else 1
set_option maxRecDepth 100000 in
set_option maxHeartbeats 4000000 in
theorem inRange_any {base : Nat} {a : Option Addr} {q : Nat} (kd frm tt sub c n slot time : Int) (ok : Bool) (text : ByteArray) (L : List E) (w : World) (h : w.ownsRow base 159 4 (.slice a L.length q) L.length (rcells encE L)) (hl : L.length ≤ 1000) :
    Calls Try.prog 105 #[.agg #[.int .i64 kd, .int .i64 frm, .int .i64 tt, .int .i64 sub, .int .u64 c, .int .i64 n, .int .i64 slot, .int .i64 time, .bool ok, .string text, .slice a L.length q]] w fun e w' => e = .returned (.bool (rangeB frm tt sub c n slot time L)) ∧ Gr w w' := by
  have HA := Lib.hid ((Gr.refl w).alloc (.cells #[.int .i64 kd, .int .i64 frm, .int .i64 tt, .int .i64 sub, .int .u64 c, .int .i64 n, .int .i64 slot, .int .i64 time, .bool ok, .string text, .slice a L.length q] 69))
  have HO := Lib.hid ((Gr.refl (w.alloc (.cells #[.int .i64 kd, .int .i64 frm, .int .i64 tt, .int .i64 sub, .int .u64 c, .int .i64 n, .int .i64 slot, .int .i64 time, .bool ok, .string text, .slice a L.length q] 69))).own)
  have HG := Lib.hid (Gr.refl (w.alloc (.cells #[.int .i64 kd, .int .i64 frm, .int .i64 tt, .int .i64 sub, .int .u64 c, .int .i64 n, .int .i64 slot, .int .i64 time, .bool ok, .string text, .slice a L.length q] 69)))
  have HR := Lib.hid fun w9 (hg : Gr w w9) => ownsRow_gr hg h
  clear h
  have HC := Lib.hid fun w9 (hg : Gr w w9) => badC_any L w9 (HR.out w9 hg) hl
  clear HR
  unfold rangeB
  have H0 := Lib.hid (upTo_any frm 11)
  have H1 := Lib.hid (upTo_any tt 11)
  have H2 := Lib.hid (upTo_any sub 3)
  have H3 := Lib.hid (isBallot_any c n)
  have H4 := Lib.hid (upTo_any slot 1099511627776)
  have H5 := Lib.hid (upTo_any time 1099511627776)
  generalize upB frm 11 = x0 at *
  generalize upB tt 11 = x1 at *
  generalize upB sub 3 = x2 at *
  generalize balB c n = x3 at *
  generalize upB slot 1099511627776 = x4 at *
  generalize upB time 1099511627776 = x5 at *
  generalize L.any badE = x6 at *
  go_enter Try.func105, Try.ntmps105
  have k1 := HG.out.cell (HO.out.1 1 _ rfl)
  go_wp2_with fail
  refine (H0.out _).mono ?_
  rintro e w0 ⟨rfl, hg9⟩
  replace HG := Lib.hid (HG.out.trans hg9)
  clear hg9 k1
  cases x0
  · go_wp2
    go_ret
    exact ⟨by first | rfl | simp, HA.out.trans HG.out⟩
  · skip
    have k2 := HG.out.cell (HO.out.1 2 _ rfl)
    go_wp2_with fail
    refine (H1.out _).mono ?_
    rintro e w1 ⟨rfl, hg9⟩
    replace HG := Lib.hid (HG.out.trans hg9)
    clear hg9 k2
    cases x1
    · go_wp2
      go_ret
      exact ⟨by first | rfl | simp, HA.out.trans HG.out⟩
    · skip
      have k3 := HG.out.cell (HO.out.1 3 _ rfl)
      go_wp2_with fail
      refine (H2.out _).mono ?_
      rintro e w2 ⟨rfl, hg9⟩
      replace HG := Lib.hid (HG.out.trans hg9)
      clear hg9 k3
      cases x2
      · go_wp2
        go_ret
        exact ⟨by first | rfl | simp, HA.out.trans HG.out⟩
      · skip
        have k4 := HG.out.cell (HO.out.1 4 _ rfl)
        have k5 := HG.out.cell (HO.out.1 5 _ rfl)
        go_wp2_with fail
        refine (H3.out _).mono ?_
        rintro e w3 ⟨rfl, hg9⟩
        replace HG := Lib.hid (HG.out.trans hg9)
        clear hg9 k4 k5
        cases x3
        · go_wp2
          go_ret
          exact ⟨by first | rfl | simp, HA.out.trans HG.out⟩
        · skip
          have k6 := HG.out.cell (HO.out.1 6 _ rfl)
          go_wp2_with fail
          refine (H4.out _).mono ?_
          rintro e w4 ⟨rfl, hg9⟩
          replace HG := Lib.hid (HG.out.trans hg9)
          clear hg9 k6
          cases x4
          · go_wp2
            go_ret
            exact ⟨by first | rfl | simp, HA.out.trans HG.out⟩
          · skip
            have k7 := HG.out.cell (HO.out.1 7 _ rfl)
            go_wp2_with fail
            refine (H5.out _).mono ?_
            rintro e w5 ⟨rfl, hg9⟩
            replace HG := Lib.hid (HG.out.trans hg9)
            clear hg9 k7
            cases x5
            · go_wp2
              go_ret
              exact ⟨by first | rfl | simp, HA.out.trans HG.out⟩
            · skip
              have k10 := HG.out.cell (HO.out.1 10 _ rfl)
              go_wp2_with fail
              refine (HC.out _ (HA.out.trans HG.out)).mono ?_
              rintro e w6 ⟨rfl, hg9⟩
              replace HG := Lib.hid (HG.out.trans hg9)
              clear hg9 k10
              cases x6
              · go_wp2
                go_ret
                exact ⟨by first | rfl | simp, HA.out.trans HG.out⟩
              · go_wp2
                go_ret
                exact ⟨by first | rfl | simp, HA.out.trans HG.out⟩
set_option maxRecDepth 100000 in
set_option maxHeartbeats 4000000 in
theorem isShort_any {base : Nat} {a : Option Addr} {q : Nat} (kd frm tt sub c n slot time : Int) (ok : Bool) (text : ByteArray) (L : List E) (w : World) (h : w.ownsRow base 159 4 (.slice a L.length q) L.length (rcells encE L)) (hl : L.length ≤ 1000) :
    Calls Try.prog 106 #[.agg #[.int .i64 kd, .int .i64 frm, .int .i64 tt, .int .i64 sub, .int .u64 c, .int .i64 n, .int .i64 slot, .int .i64 time, .bool ok, .string text, .slice a L.length q]] w fun e w' => e = .returned (.bool (shortB text L)) ∧ Gr w w' := by
  have HA := Lib.hid ((Gr.refl w).alloc (.cells #[.int .i64 kd, .int .i64 frm, .int .i64 tt, .int .i64 sub, .int .u64 c, .int .i64 n, .int .i64 slot, .int .i64 time, .bool ok, .string text, .slice a L.length q] 69))
  have HO := Lib.hid ((Gr.refl (w.alloc (.cells #[.int .i64 kd, .int .i64 frm, .int .i64 tt, .int .i64 sub, .int .u64 c, .int .i64 n, .int .i64 slot, .int .i64 time, .bool ok, .string text, .slice a L.length q] 69))).own)
  have HG := Lib.hid (Gr.refl (w.alloc (.cells #[.int .i64 kd, .int .i64 frm, .int .i64 tt, .int .i64 sub, .int .u64 c, .int .i64 n, .int .i64 slot, .int .i64 time, .bool ok, .string text, .slice a L.length q] 69)))
  have HR := Lib.hid fun w9 (hg : Gr w w9) => ownsRow_gr hg h
  clear h
  have HC := Lib.hid fun w9 (hg : Gr w w9) => bigC_any L w9 (HR.out w9 hg) hl
  clear HR
  unfold shortB
  generalize L.any bigE = x6 at *
  have k9 := HG.out.cell (HO.out.1 9 _ rfl)
  have k10 := HG.out.cell (HO.out.1 10 _ rfl)
  by_cases h1 : text.size ≤ 131072
  · rw [decide_eq_true h1]
    have h1' : (text.size : Int) ≤ 131072 := by omega
    by_cases h2 : L.length ≤ 64
    · rw [decide_eq_true h2]
      have h2' : (L.length : Int) ≤ 64 := by omega
      go_enter Try.func106, Try.ntmps106
      go_wp2_with fail
      refine (HC.out _ (HA.out.trans HG.out)).mono ?_
      rintro e w9 ⟨rfl, hg9⟩
      replace HG := Lib.hid (HG.out.trans hg9)
      clear hg9 k9 k10
      cases x6
      · go_wp2
        go_ret
        exact ⟨by first | rfl | simp, HA.out.trans HG.out⟩
      · go_wp2
        go_ret
        exact ⟨by first | rfl | simp, HA.out.trans HG.out⟩
    · rw [decide_eq_false h2]
      have h2' : ¬ (L.length : Int) ≤ 64 := by omega
      go_enter Try.func106, Try.ntmps106
      go_wp2
      go_ret
      exact ⟨by first | rfl | simp, HA.out.trans HG.out⟩
  · rw [decide_eq_false h1]
    have h1' : ¬ (text.size : Int) ≤ 131072 := by omega
    go_enter Try.func106, Try.ntmps106
    go_wp2
    go_ret
    exact ⟨by first | rfl | simp, HA.out.trans HG.out⟩
end Go.Proofs.Ytihhfdkcggnjpaa
