import Derived.Test.YtihhfdkcggnjpaaF10d
import Derived.WalkKit
import Derived.ProofKit
import Derived.LoopTactic
import Derived.Outline
import Derived.WalkSpells
import Derived.WalkLawsBesides
import Derived.Lib.Hide
import Derived.Deep.LoopGhost
import Derived.Deep.QuietTactic
import Derived.BigQuiet
import Derived.ShutString
import Derived.IntWalk
namespace Go.Proofs.Ytihhfdkcggnjpaa
open Go.ChangeShapes Go.WideShapes Go.ChangeAt Go.RowKit
set_option linter.unusedVariables false
set_option linter.unusedSimpArgs false
set_option maxRecDepth 100000 in
set_option maxHeartbeats 4000000 in
theorem ascends_any {base : Nat} {a : Option Addr} {q : Nat} (kd frm tt sub c n slot time : Int) (ok : Bool) (text : ByteArray) (L : List E) (w : World) (h : w.ownsRow base 159 4 (.slice a L.length q) L.length (rcells encE L)) (hl : L.length ≤ 1000) :
    Calls Try.prog 107 #[.agg #[.int .i64 kd, .int .i64 frm, .int .i64 tt, .int .i64 sub, .int .u64 c, .int .i64 n, .int .i64 slot, .int .i64 time, .bool ok, .string text, .slice a L.length q]] w fun e w' => e = .returned (.bool (chainB L)) ∧ Gr w w' := by
  have HA := Lib.hid ((Gr.refl w).alloc (.cells #[.int .i64 kd, .int .i64 frm, .int .i64 tt, .int .i64 sub, .int .u64 c, .int .i64 n, .int .i64 slot, .int .i64 time, .bool ok, .string text, .slice a L.length q] 69))
  have HO := Lib.hid ((Gr.refl (w.alloc (.cells #[.int .i64 kd, .int .i64 frm, .int .i64 tt, .int .i64 sub, .int .u64 c, .int .i64 n, .int .i64 slot, .int .i64 time, .bool ok, .string text, .slice a L.length q] 69))).own)
  have HG := Lib.hid (Gr.refl (w.alloc (.cells #[.int .i64 kd, .int .i64 frm, .int .i64 tt, .int .i64 sub, .int .u64 c, .int .i64 n, .int .i64 slot, .int .i64 time, .bool ok, .string text, .slice a L.length q] 69)))
  have HR := Lib.hid fun w9 (hg : Gr w w9) => ownsRow_gr hg h
  clear h
  have HS := Lib.hid fun w9 (hg : Gr w w9) k hk => erow_at (HR.out w9 hg) k hk
  clear HR
  go_enter Try.func107, Try.ntmps107
  go_wp2
  go_loopw [3] (fun u1 wr => ∃ k : Nat, (k < L.length ∨ k = 0) ∧ u1 = .int .i64 ((k : Int) + 1) ∧ Hid (∀ i (h : i + 1 < L.length), i < k → L[i].slot < L[i + 1].slot) ∧ Hid (Gr (w.alloc (.cells #[.int .i64 kd, .int .i64 frm, .int .i64 tt, .int .i64 sub, .int .u64 c, .int .i64 n, .int .i64 slot, .int .i64 time, .bool ok, .string text, .slice a L.length q] 69)) wr)) (fun u1 _ => L.length - (intOf u1).toNat)
  case atStart => exact ⟨0, .inr rfl, rfl, Lib.hid (fun j _ hj => absurd hj (by omega)), Lib.hid (Gr.refl _)⟩
  case round =>
    clear HG
    obtain ⟨k, hk, rfl, HN, HG⟩ := hrel
    have k10 := HG.out.cell (HO.out.1 10 _ rfl)
    by_cases hlt : k + 1 < L.length
    · have hk4 : (k : Int) + 1 < (L.length : Int) := by omega
      have hk6 : (k : Int) < (L.length : Int) := by omega
      obtain ⟨g, cap, hv, d1, _⟩ := HS.out wr (HA.out.trans HG.out) k (by omega)
      simp only [Value.slice.injEq, true_and] at hv
      obtain ⟨rfl, rfl⟩ := hv
      obtain ⟨g', cap', hv, d2, _⟩ := HS.out wr (HA.out.trans HG.out) (k + 1) hlt
      simp only [Value.slice.injEq, true_and, Option.some.injEq, Addr.mk.injEq, and_true] at hv
      obtain ⟨rfl, rfl⟩ := hv
      generalize hx : L[k].slot = x at *
      generalize hy : L[k + 1].slot = y at *
      have HX := Lib.hid hx
      have HY := Lib.hid hy
      clear hx hy
      by_cases hxy : x < y
      · have HXY := Lib.hid hxy
        have e : ¬ y ≤ x := by omega
        clear hxy
        go_wp2
        go_quiet (fail)
        go_wp2
        go_roundw
        case rel => exact ⟨k + 1, .inl hlt, by go_num, Lib.hid (fun j hj hjk => by
          by_cases e : j = k
          · subst e; rw [HX.out, HY.out]; exact HXY.out
          · exact HN.out j hj (by omega)), Lib.hid (HG.out.drewN _)⟩
        case measure => simp [intOf]; omega
      · have HXY := Lib.hid hxy
        have e : y ≤ x := by omega
        clear hxy
        go_wp2
        go_quiet (fail)
        go_wp2
        go_ret
        refine ⟨?_, HA.out.trans (HG.out.drewN _)⟩
        have : chainB L = false := by
          cases hc : chainB L
          · rfl
          · exact absurd ((chainB_iff L).1 hc k hlt) (by rw [HX.out, HY.out]; have := HXY.out; omega)
        rw [this]; rfl
    · have hk5 : ¬ (k : Int) + 1 < (L.length : Int) := by omega
      go_wp2
      go_ret
      exact ⟨by rw [(chainB_iff L).2 fun i hi => HN.out i hi (by omega)]; rfl, HA.out.trans HG.out⟩
set_option maxRecDepth 100000 in
set_option maxHeartbeats 4000000 in
theorem Check_any {base : Nat} {a : Option Addr} {q : Nat} (kd frm tt sub c n slot time : Int) (ok : Bool) (text : ByteArray) (L : List E) (w : World) (h : w.ownsRow base 159 4 (.slice a L.length q) L.length (rcells encE L)) (hl : L.length ≤ 1000) :
    Calls Try.prog 42 #[.agg #[.int .i64 kd, .int .i64 frm, .int .i64 tt, .int .i64 sub, .int .u64 c, .int .i64 n, .int .i64 slot, .int .i64 time, .bool ok, .string text, .slice a L.length q]] w fun e w' => e = .returned (.int .i64 (checkM kd frm tt sub c n slot time text L)) ∧ Gr w w' := by
  have HA := Lib.hid ((Gr.refl w).alloc (.cells #[.int .i64 kd, .int .i64 frm, .int .i64 tt, .int .i64 sub, .int .u64 c, .int .i64 n, .int .i64 slot, .int .i64 time, .bool ok, .string text, .slice a L.length q] 69))
  have HO := Lib.hid ((Gr.refl (w.alloc (.cells #[.int .i64 kd, .int .i64 frm, .int .i64 tt, .int .i64 sub, .int .u64 c, .int .i64 n, .int .i64 slot, .int .i64 time, .bool ok, .string text, .slice a L.length q] 69))).own)
  have HG := Lib.hid (Gr.refl (w.alloc (.cells #[.int .i64 kd, .int .i64 frm, .int .i64 tt, .int .i64 sub, .int .u64 c, .int .i64 n, .int .i64 slot, .int .i64 time, .bool ok, .string text, .slice a L.length q] 69)))
  have HR := Lib.hid fun w9 (hg : Gr w w9) => ownsRow_gr hg h
  clear h
  have H0 := Lib.hid (isKind_any kd)
  have H1 := Lib.hid fun w9 (hg : Gr w w9) => inRange_any kd frm tt sub c n slot time ok text L w9 (HR.out w9 hg) hl
  have H2 := Lib.hid fun w9 (hg : Gr w w9) => isShort_any kd frm tt sub c n slot time ok text L w9 (HR.out w9 hg) hl
  have H3 := Lib.hid fun w9 (hg : Gr w w9) => ascends_any kd frm tt sub c n slot time ok text L w9 (HR.out w9 hg) hl
  clear HR
  unfold checkM
  change Hid (∀ w, Calls Try.prog 104 #[.int .i64 kd] w fun e w' => e = .returned (.bool (kindB kd)) ∧ Gr w w') at H0
  generalize kindB kd = x0 at *
  generalize rangeB frm tt sub c n slot time L = x1 at *
  generalize shortB text L = x2 at *
  generalize chainB L = x3 at *
  go_enter Try.func42, Try.ntmps42
  have k0 := HG.out.cell (HO.out.1 0 _ rfl)
  go_wp2_with fail
  refine (H0.out _).mono ?_
  rintro e w0 ⟨rfl, hg9⟩
  replace HG := Lib.hid (HG.out.trans hg9)
  clear hg9 k0
  cases x0
  · go_wp2
    go_ret
    exact ⟨by first | rfl | simp, HA.out.trans HG.out⟩
  · have k0 := HG.out.cell (HO.out.1 0 _ rfl)
    have k1 := HG.out.cell (HO.out.1 1 _ rfl)
    have k2 := HG.out.cell (HO.out.1 2 _ rfl)
    have k3 := HG.out.cell (HO.out.1 3 _ rfl)
    have k4 := HG.out.cell (HO.out.1 4 _ rfl)
    have k5 := HG.out.cell (HO.out.1 5 _ rfl)
    have k6 := HG.out.cell (HO.out.1 6 _ rfl)
    have k7 := HG.out.cell (HO.out.1 7 _ rfl)
    have k8 := HG.out.cell (HO.out.1 8 _ rfl)
    have k9 := HG.out.cell (HO.out.1 9 _ rfl)
    have k10 := HG.out.cell (HO.out.1 10 _ rfl)
    go_wp2_with fail
    refine (H1.out _ (HA.out.trans HG.out)).mono ?_
    rintro e w1 ⟨rfl, hg9⟩
    replace HG := Lib.hid (HG.out.trans hg9)
    clear hg9 k0 k1 k2 k3 k4 k5 k6 k7 k8 k9 k10
    cases x1
    · go_wp2
      go_ret
      exact ⟨by first | rfl | simp, HA.out.trans HG.out⟩
    · have k0 := HG.out.cell (HO.out.1 0 _ rfl)
      have k1 := HG.out.cell (HO.out.1 1 _ rfl)
      have k2 := HG.out.cell (HO.out.1 2 _ rfl)
      have k3 := HG.out.cell (HO.out.1 3 _ rfl)
      have k4 := HG.out.cell (HO.out.1 4 _ rfl)
      have k5 := HG.out.cell (HO.out.1 5 _ rfl)
      have k6 := HG.out.cell (HO.out.1 6 _ rfl)
      have k7 := HG.out.cell (HO.out.1 7 _ rfl)
      have k8 := HG.out.cell (HO.out.1 8 _ rfl)
      have k9 := HG.out.cell (HO.out.1 9 _ rfl)
      have k10 := HG.out.cell (HO.out.1 10 _ rfl)
      go_wp2_with fail
      refine (H2.out _ (HA.out.trans HG.out)).mono ?_
      rintro e w2 ⟨rfl, hg9⟩
      replace HG := Lib.hid (HG.out.trans hg9)
      clear hg9 k0 k1 k2 k3 k4 k5 k6 k7 k8 k9 k10
      cases x2
      · go_wp2
        go_ret
        exact ⟨by first | rfl | simp, HA.out.trans HG.out⟩
      · have k0 := HG.out.cell (HO.out.1 0 _ rfl)
        have k1 := HG.out.cell (HO.out.1 1 _ rfl)
        have k2 := HG.out.cell (HO.out.1 2 _ rfl)
        have k3 := HG.out.cell (HO.out.1 3 _ rfl)
        have k4 := HG.out.cell (HO.out.1 4 _ rfl)
        have k5 := HG.out.cell (HO.out.1 5 _ rfl)
        have k6 := HG.out.cell (HO.out.1 6 _ rfl)
        have k7 := HG.out.cell (HO.out.1 7 _ rfl)
        have k8 := HG.out.cell (HO.out.1 8 _ rfl)
        have k9 := HG.out.cell (HO.out.1 9 _ rfl)
        have k10 := HG.out.cell (HO.out.1 10 _ rfl)
        go_wp2_with fail
        refine (H3.out _ (HA.out.trans HG.out)).mono ?_
        rintro e w3 ⟨rfl, hg9⟩
        replace HG := Lib.hid (HG.out.trans hg9)
        clear hg9 k0 k1 k2 k3 k4 k5 k6 k7 k8 k9 k10
        cases x3
        · go_wp2
          go_ret
          exact ⟨by first | rfl | simp, HA.out.trans HG.out⟩
        · go_wp2
          go_ret
          exact ⟨by first | rfl | simp, HA.out.trans HG.out⟩
end Go.Proofs.Ytihhfdkcggnjpaa
