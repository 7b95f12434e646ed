import Derived.Test.YtahohgnkichibaaF15
import Derived.WalkKit
import Derived.ProofKit
import Derived.LoopTactic
import Derived.Outline
import Derived.WalkSpells
import Derived.WalkLawsBesides
import Derived.Lib.Hide
import Derived.Deep.LoopGhost
import Derived.Deep.QuietTactic
import Derived.BigQuiet
import Derived.ShutString
import Derived.Deep.AppendLies
import Derived.Deep.RegionWith
namespace Go.Proofs.Ytahohgnkichibaa
open Go.ChangeShapes Go.WideShapes Go.ChangeAt Go.RowKit
set_option linter.unusedVariables false
set_option linter.unusedSimpArgs false
theorem zeroValue_A (w : World) : (zeroValue 39).run Try.prog w = .ok (.agg #[.int .i64 0, .int .i64 0]) w := by kernel_rfl
set_option maxRecDepth 1000000 in
set_option maxHeartbeats 2000000 in
/-- slices.Delete of some elements of a row that the call owns. -/
theorem delA_some {base g cap i d m : Nat} (L : List A) (w : World) (hL : L.length = i + d + 1 + m) (ho : w.ownsRow base 39 2 (.slice (some ⟨g, 0, none⟩) (i + d + 1 + m) cap) (i + d + 1 + m) (rcells encA L)) (hl : i + d + 1 + m ≤ 100000) :
    Calls Try.prog 63 #[.slice (some ⟨g, 0, none⟩) (i + d + 1 + m) cap, .int .i64 (i : Nat), .int .i64 ((i : Nat) + (d : Nat) + 1)] w fun e w' => e = .returned (.slice (some ⟨g, 0, none⟩) (i + m) cap) ∧ w'.ownsRow base 39 2 (.slice (some ⟨g, 0, none⟩) (i + m) cap) (i + m) (rcells encA (L.take i ++ L.drop (i + d + 1))) ∧ w.grownBy w' (some g) := by
  obtain ⟨i0, hi0, hz0, hz1, hz2⟩ : ∃ i0 : TypeInfo, Try.prog.info? 39 = some i0 ∧ i0.zero = some (.agg #[.int .i64 0, .int .i64 0]) ∧ i0.size = 2 ∧ i0.bytes = 16 := ⟨_, rfl, rfl, rfl, rfl⟩
  obtain ⟨g', cap', cur, hve, hbg, hlt, hcur, h1, h2, h3, h4, hat, hso, hfz⟩ := owns_open ho (by omega)
  simp only [Value.slice.injEq, Option.some.injEq, Addr.mk.injEq, and_true, true_and] at hve
  obtain ⟨rfl, rfl⟩ := hve
  have hk := encA_len
  obtain ⟨ZL, hZL⟩ : ∃ ZL, (Builtin.zeroCells (Value.agg #[.int .i64 0, .int .i64 0]).cells (d + 1)).toList = ZL := ⟨_, rfl⟩
  have hZl : ZL.length = (d + 1) * 2 := by rw [← hZL, Array.length_toList, size_zeroCells]; rfl
  have HF := Lib.hid (deleted_k (W := w.drew) hk L hL hbg hcur h3 (by omega) h2 hat ZL)
  have l2 : (rcells encA (L.drop (i + d + 1))).length = m * 2 := by rw [rcells_len hk, List.length_drop]; congr 1; omega
  have hone := Lib.hid (rcells_one encA_one (L.drop (i + d + 1)))
  have l1 : (rcells encA (L.take (i + d + 1))).length = (i + d + 1) * 2 := by rw [rcells_len hk, List.length_take, Nat.min_eq_left (by omega)]
  have hsp : rcells encA L = rcells encA (L.take (i + d + 1)) ++ rcells encA (L.drop (i + d + 1)) := by rw [← rcells_append, List.take_append_drop]
  have hsrc : ∀ t u, (rcells encA (L.drop (i + d + 1)))[t]? = some u → w.drew.cell? ⟨g, (i + d + 1) * 2 + t, none⟩ = some u := fun t u ht => by
    exact hat _ u (by rw [hsp, List.getElem?_append_right (by omega), l1, Nat.add_sub_cancel_left]; exact ht)
  have s3 : Hid (∀ j, j < (rcells encA (L.drop (i + d + 1))).length → (w.drew.cell? ⟨g, 0 + i * 2 + j, none⟩).isSome = true ∧ w.drew.frozen? ⟨g, 0 + i * 2 + j, none⟩ = false) := Lib.hid fun j hj => by
    rw [l2] at hj
    rw [Nat.zero_add]
    exact ⟨hso _ (by omega), hfz _⟩
  have hclr : ∀ ty, (Builtin.clear_ #[24] ty #[.slice (some ⟨g, (i + m) * 2, none⟩) (d + 1) (cap - (i + m))]).run Try.prog (w.drew.setCells g (i * 2) (rcells encA (L.drop (i + d + 1)))) = .ok (.tuple #[]) ((w.drew.setCells g (i * 2) (rcells encA (L.drop (i + d + 1)))).setCells g ((i + m) * 2) ZL) :=
    fun ty => run_clear_k _ _ _ ty _ Try.underlying24 zeroValue_A d ZL hZL (by rw [← hZL]; exact zeroCells_one (by intro v hv; simp [Value.cells] at hv; rcases hv with rfl | rfl <;> rfl) (by decide)) g _ _
      (fun j hj => isSome_setCells g _ (i * 2) w.drew (fun t ht => hso _ (by omega)) _ (hso _ (by omega))) (fun j hj => by rw [World.frozen?_setCells]; exact hfz _)
  have HS0 : Hid (∀ t u, (rcells encA (L.drop (i + d + 1)))[t]? = some u → w.drew.cell? ((⟨g, (i + d + 1) * 2, none⟩ : Addr).add t) = some u) := Lib.hid fun t u ht => by rw [addr_add]; exact hsrc t u ht
  have hgr := grown_trans (grown_drew (grown_refl w (some g))) (grown_trans (grown_cells g (rcells encA (L.drop (i + d + 1))) (i * 2) w.drew) (grown_cells g ZL ((i + m) * 2) _))
  have HGR := Lib.hid hgr
  have S1 := Lib.hid l2
  generalize rcells encA (L.drop (i + d + 1)) = news at *
  generalize rcells encA (L.take i ++ L.drop (i + d + 1)) = ys at *
  obtain ⟨W1, hW1⟩ : ∃ W1, w.drew.setCells g (i * 2) news = W1 := ⟨_, rfl⟩
  rw [hW1] at HF hclr HGR
  have HW1 := Lib.hid hW1
  have hc63 : cap ≤ 9223372036854775807 := by unfold maxLen at h2; omega
  clear hsrc hat hsp l1 l2 hso hfz hcur h3 h4 ho hW1 hL hgr hk hbg hlt hZL hZl
  have ha1 : i + d + 1 + m - (i + d + 1) = m := by omega
  have ha2 : i + d + 1 + m - (i + m) = d + 1 := by omega
  have hb2 : 0 ≤ (i : Int) + (d : Int) + 1 := by omega
  have hb1 : (i : Int) ≤ (i : Int) + (d : Int) + 1 := by omega
  have hb3 : (i : Int) ≤ (i : Int) + (m : Int) := by omega
  have hb4 : (i : Int) + (m : Int) ≤ (i : Int) + (d : Int) + 1 + (m : Int) := by omega
  have hb5 : (i : Int) + (d : Int) + 1 ≤ (i : Int) + (d : Int) + 1 + (m : Int) := by omega
  have hne : ¬ ((i : Int) = (i : Int) + (d : Int) + 1) := by omega
  have htn : ((i : Int) + (d : Int) + 1).toNat = i + d + 1 := by omega
  have hic : i ≤ cap := by omega
  have hjc : i + d + 1 ≤ cap := by omega
  have hci : ¬ cap = i := by omega
  have hcm : ¬ cap = i + m := by omega
  by_cases hcj : cap = i + d + 1
  · obtain rfl : m = 0 := by omega
    subst hcj
    have HS1 : Hid (∀ t u, news[t]? = some u → w.drew.cell? ((⟨g, 0, none⟩ : Addr).add t) = some u) := Lib.hid fun t u ht => by
      have h0 := S1.out
      have h1 : news = [] := List.length_eq_zero_iff.1 (by omega)
      rw [h1] at ht
      simp at ht
    simp only [Nat.add_zero] at hclr HF HGR ⊢
    have hd : d + 1 = i + d + 1 - i := by omega
    rw [hd] at hclr
    clear hd
    go_enter Try.func63, Try.ntmps63
    go_wp2_with fail
    go_region_law? (refine step_append_room rfl (.tmp 22) (.tmp 25) 24 rfl 39 i0 2 Try.underlying24 hi0 hz1 g 0 i (i + d + 1) (by simp [Act.eval, Act.put]) ⟨g, 0, none⟩ 0 0 news (by simp [Act.eval, Act.put]) S1.out HS1.out hone.out (by omega) s3.out ?_; rw [Nat.zero_add, HW1.out])
    go_wp2_with (simp only [hclr])
    go_ret
    exact ⟨rfl, HF.out, HGR.out⟩
  · go_enter Try.func63, Try.ntmps63
    go_wp2_with fail
    go_region_law? (refine step_append_room rfl (.tmp 22) (.tmp 25) 24 rfl 39 i0 2 Try.underlying24 hi0 hz1 g 0 i cap (by simp [Act.eval, Act.put]) ⟨g, (i + d + 1) * 2, none⟩ m (cap - (i + d + 1)) news (by simp [Act.eval, Act.put, ha1]) S1.out HS0.out hone.out (by omega) s3.out ?_; rw [Nat.zero_add, HW1.out])
    go_wp2_with (simp only [hclr])
    go_ret
    exact ⟨rfl, HF.out, HGR.out⟩
theorem delA_none {base i : Nat} {v : Value} (L : List A) (w : World) (ho : w.ownsRow base 39 2 v L.length (rcells encA L)) (hi : i ≤ L.length) :
    Calls Try.prog 63 #[v, .int .i64 (i : Nat), .int .i64 (i : Nat)] w fun e w' => e = .returned v ∧ w = w' := by
  have hform : (v = .slice none 0 0 ∧ L.length = 0) ∨ ∃ g cap, v = .slice (some ⟨g, 0, none⟩) L.length cap ∧ L.length ≤ cap ∧ cap ≤ 9223372036854775807 := by
    rcases ho.2 with ⟨h1, h2⟩ | ⟨g, cap, cur, h1, _, _, h2, h3, _⟩
    · exact .inl ⟨h1, h2⟩
    · exact .inr ⟨g, cap, h1, h2, by unfold maxLen at h3; omega⟩
  clear ho
  generalize L.length = n at *
  rcases hform with ⟨rfl, rfl⟩ | ⟨g, cap, rfl, h2, h3⟩
  · obtain rfl : i = 0 := by omega
    go_enter Try.func63, Try.ntmps63
    go_wp2
    go_ret
    exact ⟨rfl, rfl⟩
  · by_cases hn : n = i
    · subst hn
      go_enter Try.func63, Try.ntmps63
      go_wp2
      go_ret
      exact ⟨rfl, rfl⟩
    · go_enter Try.func63, Try.ntmps63
      go_wp2
      go_ret
      exact ⟨rfl, rfl⟩
/-- slices.Delete at a row that the call owns. -/
theorem delA_any {base i j : Nat} {v : Value} (L : List A) (w : World) (ho : w.ownsRow base 39 2 v L.length (rcells encA L)) (hij : i ≤ j) (hj : j ≤ L.length) (hl : L.length ≤ 100000) :
    Calls Try.prog 63 #[v, .int .i64 (i : Nat), .int .i64 (j : Nat)] w fun e w' => ∃ v', e = .returned v' ∧ w'.ownsRow base 39 2 v' (L.take i ++ L.drop j).length (rcells encA (L.take i ++ L.drop j)) ∧ w.grownBy w' v.ownBlock ∧ From v w v' := by
  by_cases h : i = j
  · subst h
    refine (delA_none L w ho hj).mono ?_
    rintro e w' ⟨rfl, rfl⟩
    rw [List.take_append_drop]
    exact ⟨_, rfl, ho, grown_refl _ _, From.refl _ _⟩
  · obtain ⟨g, cap, cur, rfl, _⟩ := owns_open ho (by omega)
    obtain ⟨d, rfl⟩ : ∃ d, j = i + d + 1 := ⟨j - i - 1, by omega⟩
    obtain ⟨m, hm⟩ : ∃ m, L.length = i + d + 1 + m := ⟨L.length - (i + d + 1), by omega⟩
    have h1 := delA_some L w hm (by rw [← hm]; exact ho) (by omega)
    rw [← hm] at h1
    have hlen : (L.take i ++ L.drop (i + d + 1)).length = i + m := by rw [List.length_append, List.length_take, List.length_drop]; omega
    rw [show ((i + d + 1 : Nat) : Int) = (i : Int) + (d : Int) + 1 by omega]
    refine h1.mono ?_
    rintro e w' ⟨rfl, h2, h3⟩
    exact ⟨_, rfl, by rw [hlen]; exact h2, h3, fun k e => .inl e⟩
end Go.Proofs.Ytahohgnkichibaa
