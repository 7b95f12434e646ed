import Derived.Test.YtahohgnkichibaaF15u
import Derived.Test.YtahohgnkichibaaF15j
import Derived.Test.YtahohgnkichibaaC31
import Derived.WalkKit
import Derived.ProofKit
import Derived.LoopTactic
import Derived.Outline
import Derived.WalkSpells
import Derived.WalkLawsBesides
import Derived.Lib.Hide
import Derived.Deep.LoopGhost
import Derived.Deep.QuietTactic
import Derived.BigQuiet
import Derived.ShutString
import Derived.IntWalk
import Derived.Lib.MinMax
import Derived.BigQuiet
import Derived.Deep.RegionWith
namespace Go.Proofs.Ytahohgnkichibaa
open Go.ChangeShapes Go.WideShapes Go.ChangeAt Go.RowKit
open Rates
set_option linter.unusedVariables false
set_option linter.unusedSimpArgs false
theorem all_take {α : Type} {f : α → Bool} {L : List α} {m : Nat} (h : m < L.length) : (L.take (m + 1)).all f = ((L.take m).all f && f L[m]) := by
  rw [List.take_succ_eq_append_getElem h, List.all_append]; simp
theorem few_mild (L : List Go15) : (fewG L).length ≤ 30 ∧ ∀ g ∈ fewG L, -5 ≤ g.B ∧ g.B ≤ 1000 := by
  unfold fewG
  refine ⟨by rw [List.length_map, List.length_take]; omega, fun g hg => ?_⟩
  obtain ⟨x, _, rfl⟩ := List.mem_map.1 hg
  show -5 ≤ max (-5) (min x.B 1000) ∧ max (-5) (min x.B 1000) ≤ 1000
  omega
theorem few_steps (n : Nat) : ∀ (G : List Go15) (q : List Int × List (List Int)), (∀ B ∈ q.2, B.length = n) → q.1.length = n → (∀ B ∈ (G.foldl (fewStep n) q).2, B.length = n)
  | [], q, h, _ => h
  | g :: G, q, h, h1 => by
    rw [List.foldl_cons]
    refine few_steps n G (fewStep n q g) ?_ ?_
    · unfold fewStep
      split
      · intro B hB
        rcases List.mem_append.1 hB with hB | hB
        · exact h B hB
        · simp at hB; subst hB; rw [addB_len]; exact h1
      · exact h
    · unfold fewStep
      split
      · simp
      · show (addB n q.1 g).length = n; rw [addB_len]; exact h1
set_option maxRecDepth 100000 in
set_option maxHeartbeats 4000000 in
theorem goes_walk (N P Q : Int) (L : List Go15) (a : Option Addr) (cap : Nat) (w : World) (hL : Go15Row w a L) :
    Calls Try.prog 4 #[.agg #[.int .i64 N, .slice a L.length cap, .int .i64 P, .int .i64 Q]] w fun e w' => e = .returned (.bool true) ∧ Gr w w' := by
  have HG0 := Lib.hid ((Gr.refl w).alloc (.cells #[.int .i64 N, .slice a L.length cap, .int .i64 P, .int .i64 Q] 47))
  have HB0 := Lib.hid (Blk.new w #[.int .i64 N, .slice a L.length cap, .int .i64 P, .int .i64 Q] 47)
  have HL := Lib.hid hL
  clear hL
  obtain ⟨n, hnN, hn⟩ : ∃ n : Nat, (max 0 (min N 12) : Int) = (n : Int) ∧ n ≤ 12 := ⟨(max 0 (min N 12)).toNat, by omega, by omega⟩
  obtain ⟨hfl, hfb⟩ := few_mild L
  have HSL := Lib.hid (few_steps n (fewG L) (List.replicate n 0, []) (fun B h => by simp at h) (by simp))
  change Hid (∀ B ∈ (fewS n (fewG L)).2, B.length = n) at HSL
  have HFR := Lib.hid (fun p q (hg : good p q = true) => fits_run (p := p) (q := q) hg hn (G := fewG L) (by omega) (fun g h => (hfb g h).2))
  go_enter Try.func4, Try.ntmps4
  go_wp2_with fail
  refine (awake15 _).mono ?_
  rintro e w1 ⟨rfl, hg1⟩
  have HG1 := Lib.hid (HG0.out.trans hg1)
  have HB1 := Lib.hid (HB0.out.gr hg1)
  have x0 := HB1.out.cell (i := 0) rfl
  have x1 := HB1.out.cell (i := 1) rfl
  clear hg1
  go_wp2_with (simp only [hnN])
  refine (few15_any n hn L a cap _ (HL.out.gr HG1.out)).mono ?_
  rintro e w2 ⟨v6, v7, v8, VS, rfl, hf⟩
  have HF := Lib.hid hf
  clear hf x0 x1
  go_wp2_with fail
  refine (run15_any n hn (fewG L) _ HF.out.out (by omega) hfb).mono ?_
  rintro e w3 ⟨b, rfl, hb, hc, hcn, hg3⟩
  have HF3 := Lib.hid (HF.out.more hg3)
  have HC3 := Lib.hid hc
  have HB3 := Lib.hid (HB1.out.gr HF3.out.gr)
  have HG3 := Lib.hid (HG1.out.trans HF3.out.gr)
  have x2 := HB3.out.cell (i := 2) rfl
  have x3 := HB3.out.cell (i := 3) rfl
  clear hb hc hcn hg3
  go_wp2_with fail
  refine (near_any P Q _).mono ?_
  rintro e w4 ⟨p, q, rfl, hgood, hg4⟩
  have hg5 := hg4.alloc (.cells #[.int .i64 p, .int .i64 q] 55)
  have HF5 := Lib.hid (HF3.out.more hg5)
  have HC5 := Lib.hid (HC3.out.gr hg5)
  have HG5 := Lib.hid (HG3.out.trans hg5)
  have HR5 := Lib.hid (Blk.new w4 #[.int .i64 p, .int .i64 q] 55)
  have HQ := Lib.hid (HFR.out p q hgood)
  generalize (fewS n (fewG L)).2 = S at *
  generalize (fewS n (fewG L)).1 = BL at *
  obtain ⟨ta, tc, rfl⟩ : ∃ a c, v7 = .slice a VS.length c := by obtain ⟨a, c, h, _⟩ := ownsRow_slice HF5.out.st; exact ⟨a, c, h⟩
  have hvs := HF5.out.len
  have hvm : VS.length ≤ 9223372036854775807 := by
    by_cases h0 : VS.length = 0
    · omega
    · obtain ⟨_, _, _, _, _, _, _, m1, m2, _⟩ := owns_open HF5.out.st (by omega)
      unfold maxLen at m2
      omega
  clear hg4 hg5 x2 x3 HF HF3 HC3 HB3 HG3
  go_wp2
  generalize w4.alloc (.cells #[.int .i64 p, .int .i64 q] 55) = w5 at *
  generalize w4.heap.size = p8 at *
  go_loopw [9, 44] (fun u9 i wr => ∃ k : Nat, k ≤ VS.length ∧ i = .int .i64 (k : Nat) ∧ Hid (u9 = .bool (allFit p q (S.take k))) ∧ Hid (Gr w5 wr)) (fun _ i _ => VS.length - (intOf i).toNat)
  case atStart => exact ⟨0, by omega, rfl, Lib.hid (by simp [allFit]), Lib.hid (Gr.refl _)⟩
  case round =>
    obtain ⟨k, hk, rfl, HU, HGR⟩ := hrel
    by_cases hlt : k < VS.length
    · have hk4 : (k : Int) < (VS.length : Int) := by omega
      have hks : k < S.length := by rw [← hvs]; exact hlt
      obtain ⟨g7, cap7, cur7, hv7, _, _, _, _, _, _, _, hat7, _, _⟩ := owns_open HF5.out.st (by omega)
      simp only [Value.slice.injEq, true_and] at hv7
      obtain ⟨rfl, rfl⟩ := hv7
      have hc7 := HGR.out.cell (hat7 k _ (List.getElem?_eq_getElem hlt))
      have HE := Lib.hid (HF5.out.each k hlt hks).1
      have hB := HSL.out _ (List.getElem_mem hks)
      have HA1 := Lib.hid (show allFit p q (S.take (k + 1)) = (allFit p q (S.take k) && rowFit p q S[k]) by unfold allFit; exact all_take hks)
      generalize S[k] = B at *
      generalize VS[k] = sv at *
      obtain ⟨va, vc, rfl, _⟩ := ownsRow_slice HE.out
      clear hat7
      generalize hq1 : allFit p q (S.take k) = q1 at *
      clear hq1
      obtain rfl := HU.out
      clear HU
      go_wp2
      go_loopw [9, 50] (fun u9 i wr => ∃ j : Nat, j ≤ n ∧ i = .int .i64 (j : Nat) ∧ Hid (u9 = .bool (q1 && (B.take j).all fun a => B.all fun b => fits p q a b)) ∧ Hid (Gr w5 wr)) (fun _ i _ => n - (intOf i).toNat)
      case atStart => exact ⟨0, by omega, rfl, Lib.hid (by simp), HGR⟩
      case round =>
        clear HGR hc7
        obtain ⟨j, hj, rfl, HU, HGR⟩ := hrel
        by_cases hltj : j < n
        · have hj4 : (j : Int) < (n : Int) := by omega
          have hjb : j < B.length := by omega
          obtain ⟨g8, cap8, cur8, hv8, _, _, _, _, _, _, _, hat8, _, _⟩ := owns_open HE.out (by omega)
          simp only [Value.slice.injEq, true_and] at hv8
          obtain ⟨rfl, rfl⟩ := hv8
          have hc8 := HGR.out.cell (hat8 j (.int .i64 B[j]) (by unfold ints; rw [List.getElem?_map, List.getElem?_eq_getElem hjb]; rfl))
          have HAT := Lib.hid (fun m (hm : m < B.length) => hat8 m (.int .i64 B[m]) (by unfold ints; rw [List.getElem?_map, List.getElem?_eq_getElem hm]; rfl))
          have HA2 := Lib.hid (all_take (f := fun a => B.all fun b => fits p q a b) hjb)
          generalize B[j] = x at *
          generalize ((B.take j).all fun a => B.all fun b => fits p q a b) = q2 at *
          obtain rfl := HU.out
          clear HU hat8
          go_wp2
          go_loopw [9, 56] (fun u9 i wr => ∃ m : Nat, m ≤ n ∧ i = .int .i64 (m : Nat) ∧ Hid (u9 = .bool ((q1 && q2) && (B.take m).all fun b => fits p q x b)) ∧ Hid (Gr w5 wr)) (fun _ i _ => n - (intOf i).toNat)
          case atStart => exact ⟨0, by omega, rfl, Lib.hid (by simp), HGR⟩
          case round =>
            clear HGR hc8
            obtain ⟨m, hm, rfl, HU, HGR⟩ := hrel
            by_cases hltm : m < n
            · have hm4 : (m : Int) < (n : Int) := by omega
              have hmb : m < B.length := by omega
              have hc9 := HGR.out.cell (HAT.out m hmb)
              have r0 := HGR.out.cell (HR5.out.cell (i := 0) rfl)
              have r1 := HGR.out.cell (HR5.out.cell (i := 1) rfl)
              have HA3 := Lib.hid (all_take (f := fun b => fits p q x b) hmb)
              generalize B[m] = y at *
              generalize hq3 : ((q1 && q2) && (B.take m).all fun b => fits p q x b) = q3 at *
              have HQ3 := Lib.hid hq3
              clear hq3
              obtain rfl := HU.out
              clear HU
              cases q3
              · have HN := Lib.hid (show ((q1 && q2) && (B.take (m + 1)).all fun b => fits p q x b) = false by rw [HA3.out, ← Bool.and_assoc, HQ3.out]; rfl)
                go_wp2
                go_roundw
                case rel => exact ⟨m + 1, by omega, by go_num, Lib.hid (by rw [HN.out]), HGR⟩
                case measure => simp [intOf]; omega
              · have HN := Lib.hid (show ((q1 && q2) && (B.take (m + 1)).all fun b => fits p q x b) = fits p q x y by rw [HA3.out, ← Bool.and_assoc, HQ3.out]; rfl)
                go_wp2_with fail
                refine (fits_any p q x y _).mono ?_
                rintro e w9 ⟨rfl, hg9⟩
                rw [← HN.out]
                generalize hq4 : ((q1 && q2) && (B.take (m + 1)).all fun b => fits p q x b) = q4 at *
                have HQ4 := Lib.hid hq4
                have HG9 := Lib.hid (HGR.out.trans hg9)
                clear hg9 hq4 hc9 r0 r1
                go_wp2
                go_roundw
                case rel => exact ⟨m + 1, by omega, by go_num, Lib.hid (by rw [HQ4.out]), HG9⟩
                case measure => simp [intOf]; omega
            · obtain rfl : m = n := by omega
              have HN := Lib.hid (show (q1 && (B.take (j + 1)).all fun a => B.all fun b => fits p q a b) = ((q1 && q2) && (B.take m).all fun b => fits p q x b) by
                rw [HA2.out, ← Bool.and_assoc, show B.take m = B by rw [← hB, List.take_length]])
              have HU2 := Lib.hid (HU.out.trans (congrArg Value.bool HN.out.symm))
              clear HU
              go_wp2
              go_roundw
              case rel => exact ⟨j + 1, by omega, by go_num, HU2, HGR⟩
              case measure => simp [intOf]; omega
        · obtain rfl : j = n := by omega
          have HU2 := Lib.hid (HU.out.trans (congrArg Value.bool (show _ = allFit p q (S.take (k + 1)) by rw [HA1.out]; unfold rowFit; rw [show B.take j = B by rw [← hB, List.take_length]])))
          clear HU
          go_wp2
          go_roundw
          case rel => exact ⟨k + 1, by omega, by go_num, HU2, HGR⟩
          case measure => simp [intOf]; omega
    · obtain rfl : k = VS.length := by omega
      have hu := HU.out
      rw [show S.take VS.length = S by rw [hvs, List.take_length], ← HQ.out] at hu
      subst hu
      have r0 := HGR.out.cell (HR5.out.cell (i := 0) rfl)
      have r1 := HGR.out.cell (HR5.out.cell (i := 1) rfl)
      go_wp2_with fail
      refine (clkFits_any p q _ (HC5.out.gr HGR.out)).mono ?_
      rintro e w9 ⟨rfl, hg9⟩
      have HG9 := Lib.hid ((HG5.out.trans HGR.out).trans hg9)
      clear hg9 r0 r1
      generalize fitsC (runC n (fewG L)) p q = qf at *
      go_wp2
      go_ret
      exact ⟨by simp, HG9.out⟩
end Go.Proofs.Ytahohgnkichibaa
