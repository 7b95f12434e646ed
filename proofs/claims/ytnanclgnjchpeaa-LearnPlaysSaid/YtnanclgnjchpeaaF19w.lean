import Derived.Test.YtnanclgnjchpeaaF19v
import Derived.WalkKit
import Derived.ProofKit
import Derived.LoopTactic
import Derived.Outline
import Derived.WalkSpells
import Derived.WalkLawsBesides
import Derived.Lib.Hide
import Derived.Deep.LoopGhost
import Derived.Deep.QuietTactic
import Derived.BigQuiet
import Derived.ShutString
import Derived.IntWalk
import Derived.BigQuiet
import Derived.Laws.OwnMore
namespace Go.Proofs.Ytnanclgnjchpeaa
open Go.ChangeShapes Go.WideShapes Go.ChangeAt Go.RowKit
open Bal
set_option linter.unusedVariables false
set_option linter.unusedSimpArgs false
theorem isMx_of {M : List RE} {mx : Int} (h1 : ∀ j (h : j < M.length), M[j].slot ≤ mx) (h2 : mx = 0 ∨ ∃ j, ∃ h : j < M.length, M[j].slot = mx) (h3 : 0 ≤ mx) : IsMx (hasM M) mx := by
  refine ⟨fun x hx => ?_, ?_, h3⟩
  · obtain ⟨e, he, hs⟩ := List.any_eq_true.1 hx
    obtain ⟨j, hj, rfl⟩ := List.getElem_of_mem he
    have := of_decide_eq_true hs
    have := h1 j hj
    omega
  · rcases h2 with h | ⟨j, hj, h⟩
    · exact .inl h
    · exact .inr (List.any_eq_true.2 ⟨M[j], List.getElem_mem hj, decide_eq_true h⟩)
set_option maxRecDepth 100000 in
set_option maxHeartbeats 2000000 in
theorem refMissing_any (b d : Int) (lv : Value) (M : List RE) (w : World) (hr : RRow w lv M) (hl : M.length ≤ 1000) (hd : 0 ≤ d ∧ d ≤ 1000000) (hs : ∀ e ∈ M, e.slot ≤ 1000000) :
    Calls Try.prog 70 #[.agg #[.int .i64 b, .int .i64 d, lv]] w fun e w' => ∃ r mx, e = .returned (.int .i64 r) ∧ IsMx (hasM M) mx ∧ IsMiss (hasM M) mx d r ∧ Gr w w' := by
  have HR0 := Lib.hid hr
  have HSL := Lib.hid hs
  have HA := Lib.hid (Blk.new w #[.int .i64 b, .int .i64 d, lv] 31)
  have HG := Lib.hid ((Gr.refl w).alloc (.cells #[.int .i64 b, .int .i64 d, lv] 31))
  have hw1 : IntKind.i64.wrap (d + 1) = d + 1 := by rw [IntKind.wrap_i64]; omega
  obtain ⟨la, lc, rfl, _⟩ := ownsRow_slice hr
  clear hr hs
  go_enter Try.func70, Try.ntmps70
  go_wp2
  generalize w.alloc (.cells #[.int .i64 b, .int .i64 d, .slice la M.length lc] 31) = wa at *
  go_loopw [3, 12] (fun u3 u12 wr => ∃ (i : Nat) (mx : Int), i ≤ M.length ∧ u3 = .int .i64 mx ∧ u12 = .int .i64 (i : Nat) ∧ Hid (0 ≤ mx ∧ (∀ j (h : j < M.length), j < i → M[j].slot ≤ mx) ∧ (mx = 0 ∨ ∃ j, ∃ h : j < M.length, M[j].slot = mx)) ∧ Hid (Gr wa wr)) (fun _ u12 _ => M.length - (intOf u12).toNat)
  case atStart => exact ⟨0, 0, by omega, rfl, rfl, Lib.hid ⟨by omega, fun j _ h => absurd h (by omega), .inl rfl⟩, Lib.hid (Gr.refl _)⟩
  case round =>
    obtain ⟨i, mx, hi, rfl, rfl, HM, HG2⟩ := hrel
    by_cases hlt : i < M.length
    · have hi4 : (i : Int) < (M.length : Int) := by omega
      obtain ⟨g, cap, hv, c0, c1⟩ := rrow_at (ownsRow_gr (HG.out.trans HG2.out) HR0.out) i hlt
      simp only [Value.slice.injEq, true_and] at hv
      obtain ⟨rfl, rfl⟩ := hv
      have HGA := Lib.hid (HG2.out.alloc (.cells #[.int .i64 M[i].slot, .string M[i].text] 119))
      by_cases hx : mx < M[i].slot
      · have HM2 := Lib.hid (show 0 ≤ M[i].slot ∧ (∀ j (h : j < M.length), j < i + 1 → M[j].slot ≤ M[i].slot) ∧ (M[i].slot = 0 ∨ ∃ j, ∃ h : j < M.length, M[j].slot = M[i].slot) from ⟨by have := HM.out.1; omega, fun j h hj => by
          by_cases e : j = i
          · subst e; exact Int.le_refl _
          · have := HM.out.2.1 j h (by omega); omega, .inr ⟨i, hlt, rfl⟩⟩)
        generalize M[i] = y at *
        obtain ⟨s, t⟩ := y
        simp only at c0 c1 hx HM2
        have hx2 : s > mx := hx
        clear HM hx
        go_wp2
        go_roundw
        case rel => exact ⟨i + 1, s, by omega, rfl, by go_num, HM2, HGA⟩
        case measure => simp [intOf]; omega
      · have HM2 := Lib.hid (show 0 ≤ mx ∧ (∀ j (h : j < M.length), j < i + 1 → M[j].slot ≤ mx) ∧ (mx = 0 ∨ ∃ j, ∃ h : j < M.length, M[j].slot = mx) from ⟨HM.out.1, fun j h hj => by
          by_cases e : j = i
          · subst e; omega
          · exact HM.out.2.1 j h (by omega), HM.out.2.2⟩)
        generalize M[i] = y at *
        obtain ⟨s, t⟩ := y
        simp only at c0 c1 hx HM2
        have hx2 : ¬ s > mx := hx
        clear HM hx
        go_wp2
        go_roundw
        case rel => exact ⟨i + 1, mx, by omega, rfl, by go_num, HM2, HGA⟩
        case measure => simp [intOf]; omega
    · have hi4 : ¬ (i : Int) < (M.length : Int) := by omega
      have HMX := Lib.hid (isMx_of (M := M) (mx := mx) (fun j h => HM.out.2.1 j h (by omega)) HM.out.2.2 HM.out.1)
      have hmb : mx ≤ 1000000 := by
        rcases HM.out.2.2 with h | ⟨j, hj, h⟩
        · omega
        · rw [← h]; exact HSL.out _ (List.getElem_mem hj)
      have HGX := Lib.hid (HG.out.trans HG2.out)
      have a1 := (HA.out.gr HG2.out).cell (i := 1) rfl
      have HAX := Lib.hid (HA.out.gr HG2.out)
      clear HM HG HG2 HA
      go_wp2
      go_loopw [6] (fun u6 wz => ∃ j : Nat, u6 = .int .i64 (d + 1 + j) ∧ (j = 0 ∨ d + 1 + (j : Int) ≤ mx) ∧ Hid (∀ n, d < n → n < d + 1 + (j : Int) → hasM M n = true) ∧ Hid (Gr w wz) ∧ Hid (Blk wz w.heap.size #[.int .i64 b, .int .i64 d, .slice la M.length lc] 31)) (fun u6 _ => (mx - intOf u6).toNat)
      case atStart => exact ⟨0, by go_num, .inl rfl, Lib.hid (fun n h1 h2 => by omega), HGX, HAX⟩
      case round =>
        clear HGX HAX a1
        obtain ⟨j, rfl, hj, HN, HG, HA⟩ := hrel
        have a0 := HA.out.cell (i := 0) rfl
        have a1 := HA.out.cell (i := 1) rfl
        have a2 := HA.out.cell (i := 2) rfl
        by_cases hlt2 : d + 1 + (j : Int) < mx
        · have HK := Lib.hid (refKnown_any b d (d + 1 + (j : Nat)) _ M _ (ownsRow_gr HG.out HR0.out) hl)
          have hw2 : IntKind.i64.wrap (d + 1 + (j : Int) + 1) = d + 1 + (j : Int) + 1 := by rw [IntKind.wrap_i64]; omega
          generalize txtM M (d + 1 + (j : Nat)) = T at *
          cases hh : hasM M (d + 1 + (j : Nat))
          · have HH := Lib.hid hh
            rw [hh] at HK
            clear hh
            go_wp2_with fail
            refine HK.out.mono ?_
            rintro e w2 ⟨rfl, hg2⟩
            have HG2 := Lib.hid (HG.out.trans hg2)
            clear hg2 HK
            go_wp2
            go_ret
            exact ⟨_, mx, rfl, HMX.out, .inr ⟨by omega, hlt2, HH.out, HN.out⟩, HG2.out⟩
          · have HN2 := Lib.hid (show ∀ n, d < n → n < d + 1 + ((j + 1 : Nat) : Int) → hasM M n = true from fun n h1 h2 => by
              by_cases e : n = d + 1 + (j : Int)
              · subst e; exact hh
              · exact HN.out n h1 (by omega))
            rw [hh] at HK
            clear hh
            go_wp2_with fail
            refine HK.out.mono ?_
            rintro e w2 ⟨rfl, hg2⟩
            have HG2 := Lib.hid (HG.out.trans hg2)
            have HA2 := Lib.hid (HA.out.gr hg2)
            clear hg2 HK
            go_wp2
            go_roundw
            case rel => exact ⟨j + 1, by go_num, .inr (by omega), HN2, HG2, HA2⟩
            case measure => simp [intOf]; omega
        · go_wp2
          go_ret
          exact ⟨_, rfl, mx, HMX.out, .inl ⟨rfl, fun n h1 h2 => HN.out n h1 (by omega)⟩, HG.out⟩
end Go.Proofs.Ytnanclgnjchpeaa
