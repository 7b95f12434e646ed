import Derived.Test.YtmgpnpmdmelnkaaGreatDoorF22
import Derived.WalkKit
import Derived.ProofKit
import Derived.LoopTactic
import Derived.Outline
import Derived.WalkSpells
import Derived.WalkLawsBesides
import Derived.Lib.Hide
import Derived.Deep.LoopGhost
import Derived.Deep.QuietTactic
import Derived.BigQuiet
import Derived.ShutString
import Derived.IntWalk
namespace Go.Proofs.YtmgpnpmdmelnkaaGreatDoor
open Go.ChangeShapes Go.WideShapes Go.ChangeAt Go.RowKit
set_option linter.unusedVariables false
set_option linter.unusedSimpArgs false
theorem lokrow_at {w : World} {base : Nat} {v : Value} {L : List Lok} (h : w.ownsRow base 42 4 v L.length (rcells encLok L)) (i : Nat) (hi : i < L.length) :
    ∃ g cap, v = .slice (some ⟨g, 0, none⟩) L.length cap ∧ w.cell? ⟨g, i * 4, none⟩ = some (.int .i64 L[i].ses) ∧ w.cell? ⟨g, i * 4 + 1, none⟩ = some (.string L[i].txt) ∧ w.cell? ⟨g, i * 4 + 2, none⟩ = some (.bool L[i].ex) ∧ w.cell? ⟨g, i * 4 + 3, none⟩ = some (.int .u64 L[i].tok) := by
  obtain ⟨g, cap, cur, hv, _, _, _, _, _, _, _, hat, _⟩ := owns_open h (by omega)
  refine ⟨g, cap, hv, hat _ _ ?_, hat _ _ ?_, hat _ _ ?_, hat _ _ ?_⟩
  · have := rcells_at encLok_len L i hi 0 (by omega); rw [Nat.add_zero] at this; rw [this]; rfl
  · rw [rcells_at encLok_len L i hi 1 (by omega)]; rfl
  · rw [rcells_at encLok_len L i hi 2 (by omega)]; rfl
  · rw [rcells_at encLok_len L i hi 3 (by omega)]; rfl
def fstF {α : Type} (q : α → Bool) (L : List α) (k : Nat) : Int := if h : k < L.length then if q L[k] then (k : Int) else fstF q L (k + 1) else -1
termination_by L.length - k
theorem fstF_hit {α : Type} (q : α → Bool) (L : List α) {k : Nat} (h : k < L.length) (hq : q L[k] = true) : fstF q L k = (k : Int) := by rw [fstF, dif_pos h, if_pos hq]
theorem fstF_miss {α : Type} (q : α → Bool) (L : List α) {k : Nat} (h : k < L.length) (hq : q L[k] = false) : fstF q L k = fstF q L (k + 1) := by rw [fstF, dif_pos h, if_neg (by rw [hq]; decide)]
theorem fstF_end {α : Type} (q : α → Bool) (L : List α) {k : Nat} (h : ¬ k < L.length) : fstF q L k = -1 := by rw [fstF, dif_neg h]
theorem fstF_spec {α : Type} (q : α → Bool) (L : List α) (k : Nat) : (fstF q L k = -1 ∧ ∀ j (h : j < L.length), k ≤ j → q L[j] = false) ∨ ∃ i, ∃ h : i < L.length, fstF q L k = (i : Int) ∧ k ≤ i ∧ q L[i] = true ∧ ∀ j (h : j < L.length), k ≤ j → j < i → q L[j] = false := by
  by_cases h : k < L.length
  · cases hq : q L[k] with
    | true => exact .inr ⟨k, h, fstF_hit q L h hq, Nat.le_refl _, hq, fun j _ h1 h2 => by omega⟩
    | false =>
      rw [fstF_miss q L h hq]
      rcases fstF_spec q L (k + 1) with ⟨h1, h2⟩ | ⟨i, hi, h1, h2, h3, h4⟩
      · exact .inl ⟨h1, fun j hj hkj => by
          by_cases e : j = k
          · subst e; exact hq
          · exact h2 j hj (by omega)⟩
      · exact .inr ⟨i, hi, h1, by omega, h3, fun j hj hkj hji => by
          by_cases e : j = k
          · subst e; exact hq
          · exact h4 j hj (by omega) hji⟩
  · exact .inl ⟨fstF_end q L h, fun j hj hkj => by omega⟩
termination_by L.length - k
set_option maxRecDepth 100000 in
set_option maxHeartbeats 1000000 in
theorem idxLokB_any {base f : Nat} {rv : Value} {v : Value} (q : Lok → Bool) (L : List Lok) (w : World) (h : w.ownsRow base 42 4 v L.length (rcells encLok L)) (hl : L.length ≤ 1000)
    (he : ∀ args w, (callFunc f args).run Tryz.prog w = .ok (.enter f args) w)
    (hf : ∀ (x : Lok), x ∈ L → ∀ (w0 : World), Gr w w0 → Calls Tryz.prog f #[rv, .agg #[.int .i64 x.ses, .string x.txt, .bool x.ex, .int .u64 x.tok]] w0 fun e w' => e = .returned (.bool (q x)) ∧ Gr w0 w') :
    Calls Tryz.prog 32 #[v, .func (.func f) #[rv] #[]] w fun e w' => e = .returned (.int .i64 (fstF q L 0)) ∧ Gr w w' := by
  obtain ⟨a, c, rfl, _⟩ := ownsRow_slice h
  have HS := Lib.hid fun k hk => lokrow_at h k hk
  have HF := Lib.hid hf
  clear hf h
  generalize hr : fstF q L 0 = r
  have HR := Lib.hid hr; clear hr
  go_enter Tryz.func32, Tryz.ntmps32
  go_wp2
  go_loopw [8] (fun i wr => ∃ k : Nat, k ≤ L.length ∧ i = .int .i64 k ∧ Hid (fstF q L k = r) ∧ Hid (Gr w wr)) (fun i _ => L.length - (intOf i).toNat)
  case atStart => exact ⟨0, by omega, rfl, HR, Lib.hid (Gr.refl _)⟩
  case round =>
    obtain ⟨k, hk, rfl, hA, hG⟩ := hrel
    by_cases hlt : k < L.length
    · obtain ⟨g, cap, hv, hc1, hc2, hc3, hc4⟩ := HS.out k hlt
      simp only [Value.slice.injEq, true_and] at hv
      obtain ⟨rfl, rfl⟩ := hv
      have hd1 := hG.out.cell hc1
      have hd2 := hG.out.cell hc2
      have hd3 := hG.out.cell hc3
      have hd4 := hG.out.cell hc4
      have FC := Lib.hid (HF.out L[k] (List.getElem_mem hlt) wr hG.out)
      clear hc1 hc2 hc3 hc4
      cases hq : q L[k] with
      | true =>
        have e := Lib.hid (hA.out.symm.trans (fstF_hit q L hlt hq))
        rw [hq] at FC
        generalize L[k] = x at *
        clear hq hA
        go_wp2_with fail
        refine FC.out.mono ?_
        rintro e w9 ⟨rfl, hg⟩
        have HG := Lib.hid (hG.out.trans hg)
        clear hg hd1 hd2 hd3 hd4
        go_wp2
        go_ret
        exact ⟨by rw [e.out]; rfl, HG.out⟩
      | false =>
        have e := Lib.hid ((fstF_miss q L hlt hq).symm.trans hA.out)
        rw [hq] at FC
        generalize L[k] = x at *
        clear hq hA
        go_wp2_with fail
        refine FC.out.mono ?_
        rintro e w9 ⟨rfl, hg⟩
        have HG := Lib.hid (hG.out.trans hg)
        clear hg hd1 hd2 hd3 hd4
        go_wp2
        go_roundw
        case rel => exact ⟨k + 1, by omega, by go_num, e, HG⟩
        case measure => simp [intOf]; omega
    · have e := Lib.hid (hA.out.symm.trans (fstF_end q L hlt))
      clear hA
      go_wp2
      go_ret
      exact ⟨by rw [e.out]; rfl, hG.out⟩
set_option maxRecDepth 100000 in
set_option maxHeartbeats 1000000 in
theorem idxLokC_any {base f p : Nat} {v : Value} (q : Lok → Bool) (L : List Lok) (w : World) (h : w.ownsRow base 42 4 v L.length (rcells encLok L)) (hl : L.length ≤ 1000)
    (he : ∀ args w, (callFunc f args).run Tryz.prog w = .ok (.enter f args) w)
    (hf : ∀ (x : Lok), x ∈ L → ∀ (w0 : World), Gr w w0 → Calls Tryz.prog f #[.agg #[.int .i64 x.ses, .string x.txt, .bool x.ex, .int .u64 x.tok], .pointer (some ⟨p, 0, none⟩)] w0 fun e w' => e = .returned (.bool (q x)) ∧ Gr w0 w') :
    Calls Tryz.prog 32 #[v, .func (.func f) #[] #[.pointer (some ⟨p, 0, none⟩)]] w fun e w' => e = .returned (.int .i64 (fstF q L 0)) ∧ Gr w w' := by
  obtain ⟨a, c, rfl, _⟩ := ownsRow_slice h
  have HS := Lib.hid fun k hk => lokrow_at h k hk
  have HF := Lib.hid hf
  clear hf h
  generalize hr : fstF q L 0 = r
  have HR := Lib.hid hr; clear hr
  go_enter Tryz.func32, Tryz.ntmps32
  go_wp2
  go_loopw [8] (fun i wr => ∃ k : Nat, k ≤ L.length ∧ i = .int .i64 k ∧ Hid (fstF q L k = r) ∧ Hid (Gr w wr)) (fun i _ => L.length - (intOf i).toNat)
  case atStart => exact ⟨0, by omega, rfl, HR, Lib.hid (Gr.refl _)⟩
  case round =>
    obtain ⟨k, hk, rfl, hA, hG⟩ := hrel
    by_cases hlt : k < L.length
    · obtain ⟨g, cap, hv, hc1, hc2, hc3, hc4⟩ := HS.out k hlt
      simp only [Value.slice.injEq, true_and] at hv
      obtain ⟨rfl, rfl⟩ := hv
      have hd1 := hG.out.cell hc1
      have hd2 := hG.out.cell hc2
      have hd3 := hG.out.cell hc3
      have hd4 := hG.out.cell hc4
      have FC := Lib.hid (HF.out L[k] (List.getElem_mem hlt) wr hG.out)
      clear hc1 hc2 hc3 hc4
      cases hq : q L[k] with
      | true =>
        have e := Lib.hid (hA.out.symm.trans (fstF_hit q L hlt hq))
        rw [hq] at FC
        generalize L[k] = x at *
        clear hq hA
        go_wp2_with fail
        refine FC.out.mono ?_
        rintro e w9 ⟨rfl, hg⟩
        have HG := Lib.hid (hG.out.trans hg)
        clear hg hd1 hd2 hd3 hd4
        go_wp2
        go_ret
        exact ⟨by rw [e.out]; rfl, HG.out⟩
      | false =>
        have e := Lib.hid ((fstF_miss q L hlt hq).symm.trans hA.out)
        rw [hq] at FC
        generalize L[k] = x at *
        clear hq hA
        go_wp2_with fail
        refine FC.out.mono ?_
        rintro e w9 ⟨rfl, hg⟩
        have HG := Lib.hid (hG.out.trans hg)
        clear hg hd1 hd2 hd3 hd4
        go_wp2
        go_roundw
        case rel => exact ⟨k + 1, by omega, by go_num, e, HG⟩
        case measure => simp [intOf]; omega
    · have e := Lib.hid (hA.out.symm.trans (fstF_end q L hlt))
      clear hA
      go_wp2
      go_ret
      exact ⟨by rw [e.out]; rfl, hG.out⟩
set_option maxRecDepth 100000 in
theorem anyLokB_any {base f : Nat} {rv : Value} {v : Value} (q : Lok → Bool) (L : List Lok) (w : World) (h : w.ownsRow base 42 4 v L.length (rcells encLok L)) (hl : L.length ≤ 1000)
    (he : ∀ args w, (callFunc f args).run Tryz.prog w = .ok (.enter f args) w)
    (hf : ∀ (x : Lok), x ∈ L → ∀ (w0 : World), Gr w w0 → Calls Tryz.prog f #[rv, .agg #[.int .i64 x.ses, .string x.txt, .bool x.ex, .int .u64 x.tok]] w0 fun e w' => e = .returned (.bool (q x)) ∧ Gr w0 w') :
    Calls Tryz.prog 57 #[v, .func (.func f) #[rv] #[]] w fun e w' => e = .returned (.bool (L.any q)) ∧ Gr w w' := by
  have HI := Lib.hid (idxLokB_any q L w h hl he hf)
  have hs := fstF_spec q L 0
  generalize fstF q L 0 = i at *
  have HR : Hid (L.any q = decide (0 ≤ i)) := Lib.hid (by
    rcases hs with ⟨h1, h2⟩ | ⟨j, hj, h1, _, h3, _⟩
    · rw [decide_eq_false (by omega), List.any_eq_false]
      intro x hx
      obtain ⟨j, hj, rfl⟩ := List.getElem_of_mem hx
      rw [h2 j hj (by omega)]; decide
    · rw [decide_eq_true (by omega), List.any_eq_true]
      exact ⟨_, List.getElem_mem hj, h3⟩)
  rw [HR.out]
  clear h hs HR
  go_enter Tryz.func57, Tryz.ntmps57
  go_wp2_with fail
  refine HI.out.mono ?_
  rintro e w9 ⟨rfl, hg⟩
  have HG := Lib.hid hg
  clear hg
  go_wp2
  go_ret
  exact ⟨rfl, HG.out⟩
end Go.Proofs.YtmgpnpmdmelnkaaGreatDoor
