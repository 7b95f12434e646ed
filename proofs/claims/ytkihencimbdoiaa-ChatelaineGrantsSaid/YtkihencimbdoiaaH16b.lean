import Derived.Test.YtkihencimbdoiaaH16
import Derived.WalkKit
import Derived.ProofKit
import Derived.LoopTactic
import Derived.Outline
import Derived.WalkSpells
import Derived.WalkLawsBesides
import Derived.Lib.Hide
import Derived.Deep.LoopGhost
import Derived.Deep.QuietTactic
import Derived.BigQuiet
import Derived.ShutString
namespace Go.Proofs.Ytkihencimbdoiaa
open Go.ChangeShapes Go.WideShapes Go.ChangeAt Go.RowKit
open Bal
open Rates
set_option linter.unusedVariables false
set_option linter.unusedSimpArgs false
section
variable {w0 w : World} {b : Nat} {v : Value} {a : Ac}
theorem acNew_st (wit : Bool) (w : World) : Calls Try.prog 13 #[.bool wit] w fun e w' => e = .returned (.pointer (some ⟨w.heap.size, 0, none⟩)) ∧ AcIs w w' w.heap.size (.slice none 0 0) ⟨wit, 0, 0, 0, [], 0, 0⟩ := by
  refine (accNew_any wit w).mono ?_
  rintro e w1 ⟨rfl, rfl⟩
  exact ⟨rfl, Nat.le_refl _, (Gr.refl _).alloc _, Blk.new w _ _, World.ownsRow_nil _ _ _ _⟩
theorem ok0 (wit : Bool) : Ac.Ok ⟨wit, 0, 0, 0, [], 0, 0⟩ := ⟨asc_nil, by simp, by simp, by simp, by simp, by simp, by simp⟩
theorem accept_st (kd frm tt sub c n slot time : Int) (ok : Bool) (text : ByteArray) (la : Option Addr) (ll lc : Nat) (h : AcIs w0 w b v a) (hok : a.Ok) (ht : text.size ≤ 1000000) :
    Calls Try.prog 14 #[.pointer (some ⟨b, 0, none⟩), .agg #[.int .i64 kd, .int .i64 frm, .int .i64 tt, .int .i64 sub, .int .u64 c, .int .i64 n, .int .i64 slot, .int .i64 time, .bool ok, .string text, .slice la ll lc]] w fun e w' =>
      e = .returned (.tuple #[(a.acceptR c n slot text).msg (.slice none 0 0), .bool (a.acceptR c n slot text).ch]) ∧ AcTo w0 w w' b v (a.accept c n slot text) := by
  obtain ⟨hb, hg, hB, hR⟩ := h
  obtain ⟨wit, pc, pn, ba, L, to, til⟩ := a
  replace hR : w.ownsRow w0.heap.size 108 4 v L.length (rcells encE L) := hR
  replace hB : Blk w b #[.bool wit, .int .u64 pc, .int .i64 pn, .int .i64 ba, v, .int .i64 to, .int .i64 til] 100 := hB
  have hl : L.length ≤ 64 := hok.len
  have ha := hok.asc
  have hbs := hg.size
  by_cases h1 : decide (cmpB c n pc pn < 0) = true
  · refine (accept_late kd frm tt sub c n slot time ok text la ll lc w hB hR (by omega) ha hbs h1).mono ?_
    rintro e w1 ⟨rfl, hB1, hR1, hF⟩
    have e1 : Ac.late ⟨wit, pc, pn, ba, L, to, til⟩ c n = true := h1
    unfold Ac.acceptR Ac.accept
    rw [if_pos e1, if_pos e1]
    exact ⟨rfl, ac_to hb hg hR hB1 hR1 hF (From.refl _ _)⟩
  · have h1 := Bool.eq_false_iff.2 h1
    have e1 : ¬ Ac.late ⟨wit, pc, pn, ba, L, to, til⟩ c n = true := by show ¬ decide (cmpB c n pc pn < 0) = true; rw [h1]; simp
    unfold Ac.acceptR Ac.accept
    rw [if_neg e1, if_neg e1]
    by_cases h2 : ba < slot
    · by_cases h3 : hasE L slot = true
      · have e2 : ¬ Ac.full ⟨wit, pc, pn, ba, L, to, til⟩ slot = true := by unfold Ac.full; simp [h3]
        refine (accept_in kd frm tt sub c n slot time ok text la ll lc w hB hR (by omega) ha hbs ht h1 h2 h3).mono ?_
        rintro e w1 ⟨v', rfl, hB1, hR1, hF, hV⟩
        rw [if_neg e2, if_neg e2, if_pos (show (Ac.mk wit pc pn ba L to til).ba < slot from h2), if_pos (show (Ac.mk wit pc pn ba L to til).ba < slot from h2)]
        exact ⟨rfl, ac_to hb hg hR hB1 hR1 hF hV⟩
      · have h3 := Bool.eq_false_iff.2 h3
        by_cases h4 : 64 ≤ L.length
        · have e2 : Ac.full ⟨wit, pc, pn, ba, L, to, til⟩ slot = true := by unfold Ac.full; simp [h2, h3, h4]
          refine (accept_full kd frm tt sub c n slot time ok text la ll lc w hB hR (by omega) ha hbs h1 h2 h3 h4).mono ?_
          rintro e w1 ⟨rfl, hB1, hR1, hF⟩
          rw [if_pos e2, if_pos e2]
          exact ⟨rfl, ac_to hb hg hR hB1 hR1 hF (From.refl _ _)⟩
        · have e2 : ¬ Ac.full ⟨wit, pc, pn, ba, L, to, til⟩ slot = true := by unfold Ac.full; simp [h4]
          refine (accept_new kd frm tt sub c n slot time ok text la ll lc w hB hR (by omega) ha hbs ht h1 h2 h3 (by omega)).mono ?_
          rintro e w1 ⟨v', rfl, hB1, hR1, hF, hV⟩
          rw [if_neg e2, if_neg e2, if_pos (show (Ac.mk wit pc pn ba L to til).ba < slot from h2), if_pos (show (Ac.mk wit pc pn ba L to til).ba < slot from h2)]
          exact ⟨rfl, ac_to hb hg hR hB1 hR1 hF hV⟩
    · have e2 : ¬ Ac.full ⟨wit, pc, pn, ba, L, to, til⟩ slot = true := by unfold Ac.full; simp [h2]
      refine (accept_low kd frm tt sub c n slot time ok text la ll lc w hB hR (by omega) ha hbs h1 h2).mono ?_
      rintro e w1 ⟨rfl, hB1, hR1, hF⟩
      rw [if_neg e2, if_neg e2, if_neg (show ¬ (Ac.mk wit pc pn ba L to til).ba < slot from h2), if_neg (show ¬ (Ac.mk wit pc pn ba L to til).ba < slot from h2)]
      exact ⟨rfl, ac_to hb hg hR hB1 hR1 hF (From.refl _ _)⟩
theorem prepare_st (kd frm tt sub c n slot time : Int) (ok : Bool) (text : ByteArray) (la : Option Addr) (ll lc : Nat) (now : Int) (h : AcIs w0 w b v a) (hok : a.Ok) (hf : 0 ≤ frm ∧ frm ≤ 1000000) (hn : 0 ≤ now ∧ now ≤ 4000000000000) :
    Calls Try.prog 21 #[.pointer (some ⟨b, 0, none⟩), .agg #[.int .i64 kd, .int .i64 frm, .int .i64 tt, .int .i64 sub, .int .u64 c, .int .i64 n, .int .i64 slot, .int .i64 time, .bool ok, .string text, .slice la ll lc], .int .i64 now] w fun e w' =>
      ∃ ra rl rc, e = .returned (.tuple #[(a.prepareR frm c n now).msg (.slice ra rl rc), .bool (a.prepareR frm c n now).ch]) ∧ w'.ownsRow w.heap.size 108 4 (.slice ra rl rc) (a.prepareL frm c n slot now).length (rcells encE (a.prepareL frm c n slot now)) ∧ AcTo w0 w w' b v (a.prepare frm c n now) := by
  obtain ⟨hb, hg, hB, hR⟩ := h
  obtain ⟨wit, pc, pn, ba, L, to, til⟩ := a
  replace hR : w.ownsRow w0.heap.size 108 4 v L.length (rcells encE L) := hR
  replace hB : Blk w b #[.bool wit, .int .u64 pc, .int .i64 pn, .int .i64 ba, v, .int .i64 to, .int .i64 til] 100 := hB
  have hl : L.length ≤ 64 := hok.len
  have ha := hok.asc
  have hbs := hg.size
  have ht0 : 0 ≤ til := hok.til0
  have ht1 : til ≤ 1099511627776 := hok.til1
  unfold Ac.prepareR Ac.prepare Ac.prepareL
  by_cases h0 : barsA to til frm now = true
  · have e0 : Ac.bars ⟨wit, pc, pn, ba, L, to, til⟩ frm now = true := h0
    refine (prepare_bars kd frm tt sub c n slot time ok text la ll lc w hB hR (by omega) ha hbs now hf (by omega) hn h0).mono ?_
    rintro e w1 ⟨rfl, hB1, hR1, hF⟩
    rw [if_pos e0, if_pos e0, if_pos e0]
    exact ⟨none, 0, 0, rfl, World.ownsRow_nil _ _ _ _, ac_to hb hg hR hB1 hR1 hF (From.refl _ _)⟩
  · have h0 := Bool.eq_false_iff.2 h0
    have e0 : ¬ Ac.bars ⟨wit, pc, pn, ba, L, to, til⟩ frm now = true := by show ¬ barsA to til frm now = true; rw [h0]; simp
    rw [if_neg e0, if_neg e0, if_neg e0]
    by_cases h1 : decide (cmpB c n pc pn < 0) = true
    · have e1 : Ac.late ⟨wit, pc, pn, ba, L, to, til⟩ c n = true := h1
      refine (prepare_late kd frm tt sub c n slot time ok text la ll lc w hB hR (by omega) ha hbs now hf h0 h1).mono ?_
      rintro e w1 ⟨rfl, hB1, hR1, hF⟩
      rw [if_pos e1, if_pos e1, if_pos e1]
      exact ⟨none, 0, 0, rfl, World.ownsRow_nil _ _ _ _, ac_to hb hg hR hB1 hR1 hF (From.refl _ _)⟩
    · have h1 := Bool.eq_false_iff.2 h1
      have e1 : ¬ Ac.late ⟨wit, pc, pn, ba, L, to, til⟩ c n = true := by show ¬ decide (cmpB c n pc pn < 0) = true; rw [h1]; simp
      refine (prepare_ok kd frm tt sub c n slot time ok text la ll lc w hB hR (by omega) ha hbs now hf hok.text h0 h1).mono ?_
      rintro e w1 ⟨lv, rfl, hL, hB1, hR1, hF⟩
      obtain ⟨ra, rc, rfl, _⟩ := ownsRow_slice hL
      rw [if_neg e1, if_neg e1, if_neg e1]
      exact ⟨ra, _, rc, rfl, hL, ac_to hb hg hR hB1 hR1 hF (From.refl _ _)⟩
theorem ask_st (kd frm tt sub c n slot time : Int) (ok : Bool) (text : ByteArray) (la : Option Addr) (ll lc : Nat) (now long : Int) (h : AcIs w0 w b v a) (hok : a.Ok) (hf : 0 ≤ frm ∧ frm ≤ 1000000) (hn : 0 ≤ now ∧ now ≤ 4000000000000) :
    Calls Try.prog 22 #[.pointer (some ⟨b, 0, none⟩), .agg #[.int .i64 kd, .int .i64 frm, .int .i64 tt, .int .i64 sub, .int .u64 c, .int .i64 n, .int .i64 slot, .int .i64 time, .bool ok, .string text, .slice la ll lc], .int .i64 now, .int .i64 long] w fun e w' =>
      e = .returned (.tuple #[(a.askR frm c n time now long).msg (.slice none 0 0), .bool (a.askR frm c n time now long).ch]) ∧ AcTo w0 w w' b v (a.ask frm c n now long) := by
  obtain ⟨hb, hg, hB, hR⟩ := h
  obtain ⟨wit, pc, pn, ba, L, to, til⟩ := a
  replace hR : w.ownsRow w0.heap.size 108 4 v L.length (rcells encE L) := hR
  replace hB : Blk w b #[.bool wit, .int .u64 pc, .int .i64 pn, .int .i64 ba, v, .int .i64 to, .int .i64 til] 100 := hB
  have hl : L.length ≤ 64 := hok.len
  have ha := hok.asc
  have hbs := hg.size
  have ht0 : 0 ≤ til := hok.til0
  have ht1 : til ≤ 1099511627776 := hok.til1
  unfold Ac.askR Ac.ask
  by_cases h1 : decide (cmpB c n pc pn < 0) = true
  · have e1 : Ac.late ⟨wit, pc, pn, ba, L, to, til⟩ c n = true := h1
    refine (ask_late kd frm tt sub c n slot time ok text la ll lc w hB hR (by omega) ha hbs now long h1).mono ?_
    rintro e w1 ⟨rfl, hB1, hR1, hF⟩
    rw [if_pos e1, if_pos e1]
    exact ⟨rfl, ac_to hb hg hR hB1 hR1 hF (From.refl _ _)⟩
  · have h1 := Bool.eq_false_iff.2 h1
    have e1 : ¬ Ac.late ⟨wit, pc, pn, ba, L, to, til⟩ c n = true := by show ¬ decide (cmpB c n pc pn < 0) = true; rw [h1]; simp
    rw [if_neg e1, if_neg e1]
    by_cases h0 : barsA to til frm now = true
    · have e0 : Ac.bars ⟨wit, pc, pn, ba, L, to, til⟩ frm now = true := h0
      refine (ask_bars kd frm tt sub c n slot time ok text la ll lc w hB hR (by omega) ha hbs now long hf (by omega) hn h0 h1).mono ?_
      rintro e w1 ⟨rfl, hB1, hR1, hF⟩
      rw [if_pos e0, if_pos e0]
      exact ⟨rfl, ac_to hb hg hR hB1 hR1 hF (From.refl _ _)⟩
    · have h0 := Bool.eq_false_iff.2 h0
      have e0 : ¬ Ac.bars ⟨wit, pc, pn, ba, L, to, til⟩ frm now = true := by show ¬ barsA to til frm now = true; rw [h0]; simp
      refine (ask_ok kd frm tt sub c n slot time ok text la ll lc w hB hR (by omega) ha hbs now long hf h0 h1).mono ?_
      rintro e w1 ⟨rfl, hB1, hR1, hF⟩
      rw [if_neg e0, if_neg e0]
      exact ⟨rfl, ac_to hb hg hR hB1 hR1 hF (From.refl _ _)⟩
theorem trim_st (x : Int) (h : AcIs w0 w b v a) (hok : a.Ok) :
    Calls Try.prog 17 #[.pointer (some ⟨b, 0, none⟩), .int .i64 x] w fun e w' => e = .returned (.bool (decide (a.ba < x))) ∧ AcTo w0 w w' b v (a.trim x) := by
  have h9 := h
  obtain ⟨hb, hg, hB, hR⟩ := h
  obtain ⟨wit, pc, pn, ba, L, to, til⟩ := a
  replace hR : w.ownsRow w0.heap.size 108 4 v L.length (rcells encE L) := hR
  replace hB : Blk w b #[.bool wit, .int .u64 pc, .int .i64 pn, .int .i64 ba, v, .int .i64 to, .int .i64 til] 100 := hB
  have hl : L.length ≤ 64 := hok.len
  unfold Ac.trim
  by_cases hx : x ≤ ba
  · refine (trim_low (base := 0) (L := L) x w hB hx).mono ?_
    rintro e w1 ⟨rfl, hg1⟩
    rw [if_pos (show x ≤ (Ac.mk wit pc pn ba L to til).ba from hx)]
    exact ⟨by rw [show decide ((Ac.mk wit pc pn ba L to til).ba < x) = false from decide_eq_false (Int.not_lt.2 hx)], ⟨v, h9.gr hg1, Far.of_gr hg1, From.refl _ _⟩⟩
  · refine (trim_up x w hB hR (by omega) (Int.not_le.1 hx)).mono ?_
    rintro e w1 ⟨v', rfl, hB1, hR1, hF, hV⟩
    rw [if_neg (show ¬ x ≤ (Ac.mk wit pc pn ba L to til).ba from hx)]
    exact ⟨by rw [show decide ((Ac.mk wit pc pn ba L to til).ba < x) = true from decide_eq_true (Int.not_le.1 hx)], ac_to hb hg hR hB1 hR1 hF hV⟩
theorem list_st (h : AcIs w0 w b v a) (hok : a.Ok) :
    Calls Try.prog 15 #[.pointer (some ⟨b, 0, none⟩)] w fun e w' => ∃ ra rc, e = .returned (.slice ra a.L.length rc) ∧ w'.ownsRow w.heap.size 108 4 (.slice ra a.L.length rc) a.L.length (rcells encE a.L) ∧ AcIs w0 w' b v a ∧ Gr w w' := by
  have h9 := h
  obtain ⟨hb, hg, hB, hR⟩ := h
  have hl := hok.len
  refine (list_any w hB hR (by omega) hok.text).mono ?_
  rintro e w1 ⟨v', rfl, hL, hg1⟩
  obtain ⟨ra, rc, rfl, _⟩ := ownsRow_slice hL
  exact ⟨ra, rc, rfl, hL, h9.gr hg1, hg1⟩
theorem promised_st (h : AcIs w0 w b v a) :
    Calls Try.prog 16 #[.pointer (some ⟨b, 0, none⟩)] w fun e w' => e = .returned (.agg #[.int .u64 a.pc, .int .i64 a.pn]) ∧ Gr w w' := by
  obtain ⟨hb, hg, hB, hR⟩ := h
  exact promised_any w hB
theorem base_st (h : AcIs w0 w b v a) : Calls Try.prog 18 #[.pointer (some ⟨b, 0, none⟩)] w fun e w' => e = .returned (.int .i64 a.ba) ∧ w = w' := by
  obtain ⟨hb, hg, hB, hR⟩ := h
  exact base_any w hB
theorem holder_st (h : AcIs w0 w b v a) (hok : a.Ok) : Calls Try.prog 20 #[.pointer (some ⟨b, 0, none⟩)] w fun e w' => e = .returned (.tuple #[.int .i64 (a.to - 1), .int .i64 a.til]) ∧ Gr w w' := by
  obtain ⟨hb, hg, hB, hR⟩ := h
  have h0 := hok.to0
  have h1 := hok.to1
  exact holder_any w hB ⟨h0, by omega⟩
end
end Go.Proofs.Ytkihencimbdoiaa
