import Derived.Test.YtfcfbecfamemlaaL12b
import Derived.WalkKit
import Derived.ProofKit
import Derived.LoopTactic
import Derived.Outline
import Derived.WalkSpells
import Derived.WalkLawsBesides
import Derived.Lib.Hide
import Derived.Deep.LoopGhost
import Derived.Deep.QuietTactic
import Derived.BigQuiet
import Derived.ShutString
import Derived.IntWalk
import Derived.Lib.MinMax
namespace Go.Proofs.Ytfcfbecfamemlaa
open Go.ChangeShapes Go.WideShapes Go.ChangeAt Go.RowKit
open Dk Enc
set_option linter.unusedVariables false
set_option linter.unusedSimpArgs false
theorem finish_ne {r : D × Nat} {Q1 : D} {v : Nat} {t T : ByteArray} (hv : v ≠ 0) (h : finish r v t = (Q1, 0, 0, T)) : False := by
  unfold finish at h
  split at h
  · simp only [Prod.mk.injEq] at h; exact hv h.2.2.1
  · rename_i hne; simp only [Prod.mk.injEq] at h; exact hne h.2.1
/-- Where nothing is found, nothing is found again. -/
theorem openM_zero {Q Q1 Q2 : D} {f g : Nat} {T : ByteArray} (h : openM Q f g = (Q1, 0, 0, T)) (e1 : Q2.fs f = Q.fs f) (e2 : Q2.fs g = Q.fs g) : openM Q2 f g = (Q2, 0, 0, T) := by
  unfold openM at h ⊢
  rw [e1, e2]
  by_cases hc : (parseB (Q.fs g).now).2.2 = true ∧ (parseB (Q.fs f).now).1 = 0
  · rw [if_pos hc] at h; simp only [Prod.mk.injEq] at h; exact absurd h.2.1 (by decide)
  · rw [if_neg hc] at h ⊢
    by_cases hl : (parseB (Q.fs f).now).1 < (parseB (Q.fs g).now).1
    · rw [if_pos hl] at h; exact (finish_ne (by omega) h).elim
    · rw [if_neg hl] at h ⊢
      by_cases h0 : (parseB (Q.fs f).now).1 = 0
      · rw [if_pos h0] at h ⊢
        simp only [Prod.mk.injEq, true_and] at h ⊢
        exact h.2
      · rw [if_neg h0] at h; exact (finish_ne h0 h).elim
/-- A settled disk of which calls may fail yet. -/
structure Calm0 (B r f v : Nat) (t : ByteArray) (Q : D) : Prop where
  bd : Bd B Q.fs
  room : Q.room = r
  a : Q.fs f = flat (hv v t)
  b : Q.fs (f + 1) = flat (hv v t)
  z : v = 0 → t = ⟨#[]⟩
theorem Calm.calm0 {B r f v : Nat} {t : ByteArray} {Q : D} (h : Calm B r f v t Q) : Calm0 B r f v t Q := ⟨h.bd, h.room, h.a, h.b, h.z⟩
theorem Calm0.crashes {B r f v : Nat} {t : ByteArray} {Q : D} (h : Calm0 B r f v t Q) (hf : f + 1 < 4) (ch : List Int) : Calm B r f v t (crash Q ch) :=
  ⟨crash_bd ch h.bd, h.room, rfl, crash_flat ch (by omega) h.a, crash_flat ch hf h.b, h.z⟩
theorem Calm0.writes {B r f v : Nat} {t u : ByteArray} {Q : D} (h : Calm0 B r f v t Q) (hok : Q.Ok) (hr : 5 * B ≤ r) (hf : f + 1 < 4) (hu : u.size + 26 ≤ B) :
    ∃ Q', (∀ j, j ≠ f → j ≠ f + 1 → Q'.fs j = Q.fs j) ∧ ((wr Q f (spell (v + 1) u) = (Q', 0) ∧ Calm0 B r f (v + 1) u Q') ∨ (wr Q f (spell (v + 1) u) = (Q', 8) ∧ Bd B Q'.fs ∧ Q'.room = r ∧ Mid Q'.fs f (f + 1) (hv v t) (spell (v + 1) u))) := by
  obtain ⟨Q', _, h2, h3, ho, hw⟩ := wr_ways hok h.bd (by rw [h.room]; exact hr) f (f + 1) rfl hf (hv v t) (spell (v + 1) u) (Nat.le_trans (spell_le _ _) hu) h.a h.b
  rcases hw with ⟨e, _, hm⟩ | ⟨e, ha, hb, hz⟩
  · exact ⟨Q', ho, .inr ⟨e, h3, h2.trans h.room, hm⟩⟩
  · exact ⟨Q', ho, .inl ⟨e, h3, h2.trans h.room, by rw [hv_pos (by omega)]; exact ha, by rw [hv_pos (by omega)]; exact hb, fun e0 => by omega⟩⟩
theorem Calm0.fails {B r f v : Nat} {t : ByteArray} {Q : D} (h : Calm0 B r f v t Q) (n : Int) : Calm0 B r f v t (setFail Q n) := ⟨h.bd, h.room, h.a, h.b, h.z⟩
/-- What is opened behind a crash is opened again behind another. -/
theorem open_twice {B : Nat} {Q : D} (hok : Q.Ok) (h : Bd B Q.fs) (hr : 5 * B ≤ Q.room) (hf : Q.fail = 0) {f : Nat} (hg : f + 1 < 4) {v : Nat} {t t1 : ByteArray} (hvl : v ≤ 999999) (ht : t.size ≤ 500000) (ht1 : t1.size ≤ 500000) (h0 : v = 0 → t = ⟨#[]⟩)
    (hl : Left Q.fs f (f + 1) (hv v t) (spell (v + 1) t1)) :
    ∃ Q' V T, openM Q f (f + 1) = (Q', 0, V, T) ∧ (V = v ∧ T = t ∨ V = v + 1 ∧ T = t1) ∧ Bd B Q'.fs ∧ ∃ Q'', openM (crash Q' []) f (f + 1) = (Q'', 0, V, T) := by
  obtain ⟨Q', V, T, e, hw, hok', hr', hf', hb', ho, hz, hnz⟩ := open_left hok h hr hf rfl hg (by omega) ht ht1 h0 hl
  refine ⟨Q', V, T, e, hw, hb', ?_⟩
  by_cases hV : V = 0
  · subst hV
    obtain rfl := hz rfl
    obtain ⟨a, b, ha, hb, _⟩ := hl
    exact ⟨_, openM_zero e (by rw [crash_flat [] (by omega) ha, ha]) (by rw [crash_flat [] hg hb, hb])⟩
  · obtain ⟨ha, hb⟩ := hnz hV
    have hT : T.size ≤ 500000 := by rcases hw with ⟨_, rfl⟩ | ⟨_, rfl⟩ <;> assumption
    have hVl : V ≤ 1000000 := by rcases hw with ⟨rfl, _⟩ | ⟨rfl, _⟩ <;> omega
    obtain ⟨Q'', e2, _⟩ := open_settled (v := V) (t := T) (crash_ok hok' []) (crash_bd [] hb') (by show 5 * B ≤ Q'.room; omega) rfl rfl hg hVl (by omega) (fun e0 => absurd e0 hV) (by rw [hv_pos hV]; exact crash_flat [] (by omega) ha) (by rw [hv_pos hV]; exact crash_flat [] hg hb)
    exact ⟨Q'', e2⟩
end Go.Proofs.Ytfcfbecfamemlaa
