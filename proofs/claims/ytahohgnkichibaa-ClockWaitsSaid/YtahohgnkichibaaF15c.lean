import Derived.Test.YtahohgnkichibaaF15b
import Derived.WalkKit
import Derived.ProofKit
import Derived.LoopTactic
import Derived.Outline
import Derived.WalkSpells
import Derived.WalkLawsBesides
import Derived.Lib.Hide
import Derived.Deep.LoopGhost
import Derived.Deep.QuietTactic
import Derived.BigQuiet
import Derived.ShutString
import Derived.Deep.RegionWith
namespace Go.Proofs.Ytahohgnkichibaa
open Go.ChangeShapes Go.WideShapes Go.ChangeAt Go.RowKit
set_option linter.unusedVariables false
set_option linter.unusedSimpArgs false
/-- The first place from k on at which q holds, or -1. -/
def fstF {α : Type} (q : α → Bool) (L : List α) (k : Nat) : Int := if h : k < L.length then if q L[k] then (k : Int) else fstF q L (k + 1) else -1
termination_by L.length - k
theorem fstF_hit {α : Type} (q : α → Bool) (L : List α) {k : Nat} (h : k < L.length) (hq : q L[k] = true) : fstF q L k = (k : Int) := by rw [fstF, dif_pos h, if_pos hq]
theorem fstF_miss {α : Type} (q : α → Bool) (L : List α) {k : Nat} (h : k < L.length) (hq : q L[k] = false) : fstF q L k = fstF q L (k + 1) := by rw [fstF, dif_pos h, if_neg (by rw [hq]; decide)]
theorem fstF_end {α : Type} (q : α → Bool) (L : List α) {k : Nat} (h : ¬ k < L.length) : fstF q L k = -1 := by rw [fstF, dif_neg h]
theorem fstF_spec {α : Type} (q : α → Bool) (L : List α) (k : Nat) : (fstF q L k = -1 ∧ ∀ j (h : j < L.length), k ≤ j → q L[j] = false) ∨ ∃ i, ∃ h : i < L.length, fstF q L k = (i : Int) ∧ k ≤ i ∧ q L[i] = true ∧ ∀ j (h : j < L.length), k ≤ j → j < i → q L[j] = false := by
  by_cases h : k < L.length
  · cases hq : q L[k] with
    | true => exact .inr ⟨k, h, fstF_hit q L h hq, Nat.le_refl _, hq, fun j _ h1 h2 => by omega⟩
    | false =>
      rw [fstF_miss q L h hq]
      rcases fstF_spec q L (k + 1) with ⟨h1, h2⟩ | ⟨i, hi, h1, h2, h3, h4⟩
      · exact .inl ⟨h1, fun j hj hkj => by
          by_cases e : j = k
          · subst e; exact hq
          · exact h2 j hj (by omega)⟩
      · exact .inr ⟨i, hi, h1, by omega, h3, fun j hj hkj hji => by
          by_cases e : j = k
          · subst e; exact hq
          · exact h4 j hj (by omega) hji⟩
  · exact .inl ⟨fstF_end q L h, fun j hj hkj => by omega⟩
termination_by L.length - k
theorem fstF_first {α : Type} (q : α → Bool) (L : List α) : (fstF q L 0 = -1 ∧ L.findIdx q = L.length) ∨ (fstF q L 0 = (L.findIdx q : Int) ∧ L.findIdx q < L.length) := by
  rcases fstF_spec q L 0 with ⟨h1, h2⟩ | ⟨i, hi, h1, _, h3, h4⟩
  · refine .inl ⟨h1, ?_⟩
    rw [List.findIdx_eq_length]
    intro x hx
    obtain ⟨j, hj, rfl⟩ := List.getElem_of_mem hx
    exact h2 j hj (by omega)
  · have : L.findIdx q = i := by
      rw [List.findIdx_eq hi]
      exact ⟨h3, fun j hj => h4 j (by omega) (by omega) hj⟩
    exact .inr ⟨by rw [h1, this], by omega⟩
/-- Alarms lie in block b, their row is v. -/
structure AlIs (w : World) (b : Nat) (v : Value) (L : List A) : Prop where
  rowv : w.cell? ⟨b, 0, none⟩ = some v
  free : w.frozen? ⟨b, 0, none⟩ = false
  row : w.ownsRow (b + 1) 39 2 v L.length (rcells encA L)
  len : L.length ≤ 1000
theorem AlIs.gr {w w' : World} {b : Nat} {v : Value} {L : List A} (h : AlIs w b v L) (hg : Gr w w') : AlIs w' b v L :=
  ⟨hg.cell h.rowv, (hg.frozen (cell_lt h.rowv)).trans h.free, ownsRow_gr hg h.row, h.len⟩
theorem AlIs.away {w : World} {b : Nat} {v : Value} {L : List A} (h : AlIs w b v L) : ∀ k, v.ownBlock = some k → b < k ∧ k < w.heap.size := fun k e => by have := h.row.lt k e; omega
theorem AlIs.off {w : World} {b : Nat} {v : Value} {L : List A} (h : AlIs w b v L) : v.ownBlock ≠ some b := fun e => by have := h.away b e; omega
theorem AlIs.slice {w : World} {b : Nat} {v : Value} {L : List A} (h : AlIs w b v L) : ∃ a cap, v = .slice a L.length cap := by
  obtain ⟨a, cap, hv, _⟩ := ownsRow_slice h.row
  exact ⟨a, cap, hv⟩
theorem row_at {w : World} {base : Nat} {v : Value} {L : List A} (h : w.ownsRow base 39 2 v L.length (rcells encA L)) (k : Nat) (hk : k < L.length) :
    ∃ g cap, v = .slice (some ⟨g, 0, none⟩) L.length cap ∧ w.cell? ⟨g, k * 2, none⟩ = some (.int .i64 L[k].key) ∧ w.cell? ⟨g, k * 2 + 1, none⟩ = some (.int .i64 L[k].due) := by
  obtain ⟨g, cap, cur, hv, _, _, _, _, _, _, _, hat, _⟩ := owns_open h (by omega)
  refine ⟨g, cap, hv, ?_, ?_⟩
  · have := rcells_at encA_len L k hk 0 (by omega)
    exact hat _ _ (by rw [Nat.add_zero] at this; rw [this]; rfl)
  · have := rcells_at encA_len L k hk 1 (by omega)
    exact hat _ _ (by rw [this]; rfl)
/-- What a call on alarms leaves. -/
def AlTo (b : Nat) (v : Value) (w : World) (L : List A) (w' : World) : Prop := ∃ v', AlIs w' b v' L ∧ Far b v w w' ∧ From v w v'
theorem AlIs.reset {w w' : World} {b : Nat} {v v' : Value} {L M : List A} (h : AlIs w b v L) (hr : w'.ownsRow (b + 1) 39 2 v' M.length (rcells encA M)) (hg : w.grownBy w' v.ownBlock) (hf : From v w v') (hl : M.length ≤ 1000) : AlTo b v w M (w'.setCell ⟨b, 0, none⟩ v') := by
  have hb := cell_lt h.rowv
  have hv : v'.ownBlock ≠ some b := fun e => by have := hr.lt b e; omega
  have hblk := hg.block b hb (fun e => h.off e.symm)
  have hc : w'.cell? ⟨b, 0, none⟩ = some v := (World.cell?_of_block (w := w) (a := ⟨b, 0, none⟩) hblk).trans h.rowv
  have hfz : w'.frozen? ⟨b, 0, none⟩ = false := (World.frozen?_of_block (w := w) (a := ⟨b, 0, none⟩) hblk).trans h.free
  refine ⟨v', ⟨?_, ?_, ownsRow_setCell_other hr hv _, hl⟩, ⟨hg.os, hg.tape, hg.output, by simpa [World.setCell] using hg.size, fun k hk h1 h2 => (Below.heap_setCell _ _ _ _ h1).trans (hg.block k hk (fun e => h2 e.symm))⟩, hf⟩
  · exact World.cell?_setCell_same _ _ _ (by rw [hc])
  · rw [World.frozen?_setCell]; exact hfz
set_option maxRecDepth 100000 in
theorem findOne_any (x : A) (k : Int) (p : Nat) (w : World) (h : w.cell? ⟨p, 0, none⟩ = some (.int .i64 k)) :
    Calls Try.prog 108 #[.agg #[.int .i64 x.key, .int .i64 x.due], .pointer (some ⟨p, 0, none⟩)] w fun e w' => e = .returned (.bool (x.key == k)) ∧ Gr w w' := by
  have h2 := ((Gr.refl w).alloc (.cells #[.int .i64 x.key, .int .i64 x.due] 39)).cell h
  go_enter Try.func108, Try.ntmps108
  go_wp2
  go_ret
  exact ⟨by simp, (Gr.refl w).alloc _⟩
set_option maxRecDepth 100000 in
theorem dueOne_any (x : A) (k : Int) (p : Nat) (w : World) (h : w.cell? ⟨p, 0, none⟩ = some (.int .i64 k)) :
    Calls Try.prog 65 #[.agg #[.int .i64 x.key, .int .i64 x.due], .pointer (some ⟨p, 0, none⟩)] w fun e w' => e = .returned (.bool (decide (k < x.due))) ∧ Gr w w' := by
  have h2 := ((Gr.refl w).alloc (.cells #[.int .i64 x.key, .int .i64 x.due] 39)).cell h
  go_enter Try.func65, Try.ntmps65
  go_wp2
  go_ret
  exact ⟨by simp, (Gr.refl w).alloc _⟩
set_option maxRecDepth 100000 in
set_option maxHeartbeats 1000000 in
theorem idxA_any {base f p : Nat} {v : Value} (q : A → Bool) (L : List A) (w : World) (h : w.ownsRow base 39 2 v L.length (rcells encA L)) (hl : L.length ≤ 1000)
    (he : ∀ args w, (callFunc f args).run Try.prog w = .ok (.enter f args) w)
    (hf : ∀ (x : A) (w0 : World), Gr w w0 → Calls Try.prog f #[.agg #[.int .i64 x.key, .int .i64 x.due], .pointer (some ⟨p, 0, none⟩)] w0 fun e w' => e = .returned (.bool (q x)) ∧ Gr w0 w') :
    Calls Try.prog 64 #[v, .func (.func f) #[] #[.pointer (some ⟨p, 0, none⟩)]] w fun e w' => e = .returned (.int .i64 (fstF q L 0)) ∧ Gr w w' := by
  obtain ⟨a, c, rfl, _⟩ := ownsRow_slice h
  have HS := Lib.hid fun k hk => row_at h k hk
  have HF := Lib.hid hf
  clear hf h
  generalize hr : fstF q L 0 = r
  have HR := Lib.hid hr; clear hr
  go_enter Try.func64, Try.ntmps64
  go_wp2
  go_loopw [8] (fun i wr => ∃ k : Nat, k ≤ L.length ∧ i = .int .i64 k ∧ Hid (fstF q L k = r) ∧ Hid (Gr w wr)) (fun i _ => L.length - (intOf i).toNat)
  case atStart => exact ⟨0, by omega, rfl, HR, Lib.hid (Gr.refl _)⟩
  case round =>
    obtain ⟨k, hk, rfl, hA, hG⟩ := hrel
    by_cases hlt : k < L.length
    · obtain ⟨g, cap, hv, hc1, hc2⟩ := HS.out k hlt
      simp only [Value.slice.injEq, true_and] at hv
      obtain ⟨rfl, rfl⟩ := hv
      have hd1 := hG.out.cell hc1
      have hd2 := hG.out.cell hc2
      have FC := Lib.hid (HF.out L[k] wr hG.out)
      clear hc1 hc2
      cases hq : q L[k] with
      | true =>
        have e := Lib.hid (hA.out.symm.trans (fstF_hit q L hlt hq))
        rw [hq] at FC
        generalize L[k] = x at *
        clear hq hA
        go_wp2_with fail
        refine FC.out.mono ?_
        rintro e w9 ⟨rfl, hg⟩
        have HG := Lib.hid (hG.out.trans hg)
        clear hg hd1 hd2
        go_wp2
        go_ret
        exact ⟨by rw [e.out]; rfl, HG.out⟩
      | false =>
        have e := Lib.hid ((fstF_miss q L hlt hq).symm.trans hA.out)
        rw [hq] at FC
        generalize L[k] = x at *
        clear hq hA
        go_wp2_with fail
        refine FC.out.mono ?_
        rintro e w9 ⟨rfl, hg⟩
        have HG := Lib.hid (hG.out.trans hg)
        clear hg hd1 hd2
        go_wp2
        go_roundw
        case rel => exact ⟨k + 1, by omega, by go_num, e, HG⟩
        case measure => simp [intOf]; omega
    · have e := Lib.hid (hA.out.symm.trans (fstF_end q L hlt))
      clear hA
      go_wp2
      go_ret
      exact ⟨by rw [e.out]; rfl, hG.out⟩
end Go.Proofs.Ytahohgnkichibaa
