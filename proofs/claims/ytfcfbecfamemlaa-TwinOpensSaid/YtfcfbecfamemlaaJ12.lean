import Derived.Test.YtfcfbecfamemlaaF12f
import Derived.Test.YtfcfbecfamemlaaL01c2
import Derived.WalkKit
import Derived.ProofKit
import Derived.LoopTactic
import Derived.Outline
import Derived.WalkSpells
import Derived.WalkLawsBesides
import Derived.Lib.Hide
import Derived.Deep.LoopGhost
import Derived.Deep.QuietTactic
import Derived.BigQuiet
import Derived.ShutString
import Derived.IntWalk
import Derived.Lib.MinMax
import Derived.Deep.RegionWith
import Derived.Deep.RegionHeld3
namespace Go.Proofs.Ytfcfbecfamemlaa
open Go.ChangeShapes Go.WideShapes Go.ChangeAt Go.RowKit
open Dk Enc
set_option linter.unusedVariables false
set_option linter.unusedSimpArgs false
/-- A file whose content is there for sure. -/
def flat (x : ByteArray) : F := ⟨x, x, false⟩
theorem parse_empty : parseB ⟨#[]⟩ = (0, ⟨#[]⟩, false) := by unfold parseB; rw [if_pos rfl]
theorem spell_size (v : Nat) (t : ByteArray) : (spell v t).size = (inner v t).size + 8 := by unfold spell; rw [rframe_size]
theorem spell_ne (v : Nat) (t : ByteArray) : spell v t ≠ ⟨#[]⟩ := fun h => by
  have := spell_size v t
  rw [h] at this
  have h0 : (⟨#[]⟩ : ByteArray).size = 0 := rfl
  omega
theorem openB_spell (v : Nat) (t : ByteArray) (ht : t.size ≤ 600000) : openB (spell v t) = (1, inner v t, 0) := by
  have := open_frame 1 (inner v t) ⟨#[]⟩ (by decide) (by decide) (by have := inner_le v t; omega)
  rwa [append_empty] at this
theorem uS_inner (v : Nat) (t : ByteArray) (hv : v < 18446744073709551616) : uS (inner v t) 0 = (ofL (encS (bytesOf t)), 0, v) :=
  uS_back (inner v t) v (encS (bytesOf t)) hv (by unfold inner; rw [bytesOf_ofL])
theorem inV_spell (v : Nat) (t : ByteArray) (hv : v < 18446744073709551616) (ht : t.size ≤ 600000) : inV (spell v t) = v := by
  unfold inV; rw [openB_spell v t ht, uS_inner v t hv]
theorem inT_spell (v : Nat) (t : ByteArray) (hv : v < 18446744073709551616) (ht : t.size ≤ 600000) : inT (spell v t) = t := by
  unfold inT
  rw [openB_spell v t ht, uS_inner v t hv]
  simp only
  rw [sS_back (ofL (encS (bytesOf t))) t [] 1048576 (by omega) (by omega) (by rw [bytesOf_ofL, List.append_nil])]
theorem parse_spell (v : Nat) (t : ByteArray) (h1 : 1 ≤ v) (hv : v < 18446744073709551616) (ht : t.size ≤ 600000) : parseB (spell v t) = (v, t, false) := by
  unfold parseB
  rw [if_neg (spell_ne v t), inV_spell v t hv ht, inT_spell v t hv ht, if_neg (by omega), if_pos rfl]
/-- Any content is none, a half's, or bad. -/
theorem parse_ways (x : ByteArray) : (x = ⟨#[]⟩ ∧ parseB x = (0, ⟨#[]⟩, false)) ∨ (1 ≤ inV x ∧ x = spell (inV x) (inT x) ∧ parseB x = (inV x, inT x, false)) ∨ (x ≠ ⟨#[]⟩ ∧ parseB x = (0, ⟨#[]⟩, true)) := by
  by_cases h : x = ⟨#[]⟩
  · exact .inl ⟨h, by rw [h]; exact parse_empty⟩
  · by_cases h0 : inV x = 0
    · exact .inr (.inr ⟨h, by unfold parseB; rw [if_neg h, if_pos h0]⟩)
    · by_cases h1 : spell (inV x) (inT x) = x
      · exact .inr (.inl ⟨by omega, h1.symm, by unfold parseB; rw [if_neg h, if_neg h0, if_pos h1]⟩)
      · exact .inr (.inr ⟨h, by unfold parseB; rw [if_neg h, if_neg h0, if_neg h1]⟩)
def Pre (s x : ByteArray) : Prop := ∃ n, x = s.extract 0 n
theorem Pre.size {s x : ByteArray} (h : Pre s x) : x.size ≤ s.size := by obtain ⟨n, rfl⟩ := h; simp; omega
theorem parse_pre (v : Nat) (t x : ByteArray) (ht : t.size ≤ 500000) (h : Pre (spell v t) x) : x = spell v t ∨ (parseB x).1 = 0 := by
  obtain ⟨n, rfl⟩ := h
  by_cases hn : (spell v t).size ≤ n
  · left
    apply ba_ext
    rw [bytesOf_extract, List.drop_zero]
    exact List.take_of_length_le (by rw [bytesOf_length]; omega)
  · right
    have h9 := inner_le v t
    have ht' := open_torn 1 (inner v t) ⟨#[]⟩ n (by decide) (by decide) (by omega) (by rw [spell_size] at hn; omega)
    rw [append_empty] at ht'
    have ht2 : (openB ((spell v t).extract 0 n)).2.2 ≠ 0 := ht'
    rcases parse_ways ((spell v t).extract 0 n) with ⟨_, h2⟩ | ⟨_, h2, _⟩ | ⟨_, h2⟩
    · rw [h2]
    · exfalso
      have hz : ((spell v t).extract 0 n).size ≤ (spell v t).size := by simp; omega
      have h3 := inT_le ((spell v t).extract 0 n)
      have hs := spell_size v t
      have h4 := openB_spell (inV ((spell v t).extract 0 n)) (inT ((spell v t).extract 0 n)) (by omega)
      rw [← h2] at h4
      rw [h4] at ht2
      exact ht2 rfl
    · rw [h2]
/-- No file is longer than B. -/
def Bd (B : Nat) (fs : Nat → F) : Prop := ∀ j, j < 4 → (fs j).size ≤ B
theorem Bd.upd {B : Nat} {fs : Nat → F} (h : Bd B fs) (k : Nat) {f : F} (hf : f.size ≤ B) : Bd B (Dk.upd fs k f) := fun j hj => by
  by_cases e : j = k
  · subst e; rw [upd_same]; exact hf
  · rw [upd_other _ _ _ _ e]; exact h j hj
theorem Bd.used {B : Nat} {fs : Nat → F} (h : Bd B fs) : used fs ≤ 4 * B := by
  have h0 := h 0 (by decide); have h1 := h 1 (by decide); have h2 := h 2 (by decide); have h3 := h 3 (by decide)
  unfold Dk.used; omega
theorem Bd.fits {B : Nat} {Q : D} (h : Bd B Q.fs) (hr : 5 * B ≤ Q.room) (k : Nat) {f : F} (hf : f.size ≤ B) : full Q k f = false := by
  have := h.used
  unfold full; exact decide_eq_false (by omega)
theorem flat_size (x : ByteArray) : (flat x).size = x.size := by unfold flat F.size; simp
/-- A half is put: the call works, or fails, or its Sync does. -/
theorem cput_is {B : Nat} {Q : D} (hok : Q.Ok) (h : Bd B Q.fs) (hr : 5 * B ≤ Q.room) (k : Nat) (hk : k < 4) (s : ByteArray) (hs : s.size ≤ B) :
    (Q.fail = 1 ∧ cput Q k s = (tick Q, 8)) ∨ (Q.fail = 2 ∧ cput Q k s = (⟨Q.room, upd Q.fs k ⟨s, (Q.fs k).sure, true⟩, 0⟩, 8)) ∨ (Q.fail ≠ 1 ∧ Q.fail ≠ 2 ∧ cput Q k s = (⟨Q.room, upd Q.fs k (flat s), Q.fail - 2⟩, 0)) := by
  have hk' : (0 : Int) ≤ (k : Int) ∧ (k : Int) < 4 := by omega
  have hkn : ((k : Int)).toNat = k := rfl
  by_cases h1 : Q.fail = 1
  · refine .inl ⟨h1, cput_no ?_ (by decide)⟩
    unfold act; rw [if_pos hk', if_pos h1]
  · have hf1 : (⟨s, (Q.fs k).sure, true⟩ : F).size ≤ B := by have := h k hk; unfold F.size at *; simp only; omega
    have e1 : act Q k (gPut s) = (⟨Q.room, upd Q.fs k ⟨s, (Q.fs k).sure, true⟩, Q.fail - 1⟩, 0) := by
      unfold act; rw [if_pos hk', if_neg h1, hkn]
      unfold repl
      have hfull : full (tick Q) k (gPut s (Q.fs k)) = false := Bd.fits (Q := tick Q) h hr k hf1
      rw [if_neg (by rw [hfull]; simp)]; rfl
    have hok2 : (⟨Q.room, upd Q.fs k ⟨s, (Q.fs k).sure, true⟩, Q.fail - 1⟩ : D).Ok := by
      have := act_ok hok (k : Int) (gPut s) (fun f _ => gPut_ok s f)
      rwa [e1] at this
    rw [cput_yes e1]
    by_cases h2 : Q.fail = 2
    · refine .inr (.inl ⟨h2, ?_⟩)
      unfold act; rw [if_pos hk', if_pos (by show Q.fail - 1 = 1; omega)]
      have : Q.fail - 1 - 1 = 0 := by omega
      show ((⟨Q.room, upd Q.fs k ⟨s, (Q.fs k).sure, true⟩, Q.fail - 1 - 1⟩ : D), 8) = _
      rw [this]
    · refine .inr (.inr ⟨h1, h2, ?_⟩)
      unfold act; rw [if_pos hk', if_neg (by show ¬ Q.fail - 1 = 1; omega), hkn]
      show repl (tick ⟨Q.room, upd Q.fs k ⟨s, (Q.fs k).sure, true⟩, Q.fail - 1⟩) k (gKeep (upd Q.fs k ⟨s, (Q.fs k).sure, true⟩ k)) = _
      rw [upd_same]
      unfold repl
      have hfull := full_keep (tick_ok hok2) k (gKeep ⟨s, (Q.fs k).sure, true⟩) (by show _ ≤ (upd Q.fs k ⟨s, (Q.fs k).sure, true⟩ k).size; rw [upd_same]; exact gKeep_size _)
      rw [if_neg (by rw [hfull]; simp)]
      show ((⟨Q.room, upd (upd Q.fs k _) k _, Q.fail - 1 - 1⟩ : D), 0) = _
      rw [upd_upd, show Q.fail - 1 - 1 = Q.fail - 2 by omega]; rfl
end Go.Proofs.Ytfcfbecfamemlaa

namespace Go.Proofs.Ytfcfbecfamemlaa
open Go.ChangeShapes Go.WideShapes Go.ChangeAt Go.RowKit
open Dk Enc
set_option linter.unusedVariables false
set_option linter.unusedSimpArgs false
/-- Where a Write may have stopped. -/
inductive Mid (fs : Nat → F) (f g : Nat) (old s : ByteArray) : Prop
  | zero : fs f = flat old → fs g = flat old → Mid fs f g old s
  | one : fs f = ⟨s, old, true⟩ → fs g = flat old → Mid fs f g old s
  | two : fs f = flat s → fs g = flat old → Mid fs f g old s
  | three : fs f = flat s → fs g = ⟨s, old, true⟩ → Mid fs f g old s
theorem wr_ways {B : Nat} {Q : D} (hok : Q.Ok) (h : Bd B Q.fs) (hr : 5 * B ≤ Q.room) (f g : Nat) (hfg : f + 1 = g) (hg : g < 4) (old s : ByteArray) (hs : s.size ≤ B) (h0 : Q.fs f = flat old) (h1 : Q.fs g = flat old) :
    ∃ Q', Q'.Ok ∧ Q'.room = Q.room ∧ Bd B Q'.fs ∧ (∀ j, j ≠ f → j ≠ g → Q'.fs j = Q.fs j) ∧ ((wr Q f s = (Q', 8) ∧ Q.fail ≠ 0 ∧ Mid Q'.fs f g old s) ∨ (wr Q f s = (Q', 0) ∧ Q'.fs f = flat s ∧ Q'.fs g = flat s ∧ (Q.fail = 0 → Q'.fail = 0))) := by
  have hgf : g ≠ f := by omega
  have hst : (⟨s, old, true⟩ : F).size ≤ B := by
    have := h f (by omega); rw [h0, flat_size] at this; unfold F.size; simp only; omega
  have hfl : (flat s).size ≤ B := by rw [flat_size]; exact hs
  have hwo := wr_ok hok f s
  rcases cput_is hok h hr f (by omega) s hs with ⟨hf, e⟩ | ⟨hf, e⟩ | ⟨hf1, hf2, e⟩
  · have ew := wr_no e (by decide)
    rw [ew] at hwo
    exact ⟨tick Q, hwo, rfl, h, fun _ _ _ => rfl, .inl ⟨ew, by omega, .zero h0 h1⟩⟩
  · have ew := wr_no e (by decide)
    rw [ew] at hwo
    rw [h0] at ew hwo
    refine ⟨_, hwo, rfl, h.upd f hst, fun j hj _ => upd_other _ _ _ _ hj, .inl ⟨ew, by omega, .one ?_ ?_⟩⟩
    · exact upd_same _ _ _
    · exact (upd_other _ _ _ _ hgf).trans h1
  · have ew := wr_yes e
    have hok1 : (⟨Q.room, upd Q.fs f (flat s), Q.fail - 2⟩ : D).Ok := by have := cput_ok hok f s; rwa [e] at this
    have hb1 : Bd B (upd Q.fs f (flat s)) := h.upd f hfl
    have hgo : upd Q.fs f (flat s) g = flat old := (upd_other _ _ _ _ hgf).trans h1
    rw [hfg] at ew
    rcases cput_is hok1 hb1 hr g hg s hs with ⟨hf, e2⟩ | ⟨hf, e2⟩ | ⟨hf3, hf4, e2⟩
    · rw [e2] at ew
      rw [ew] at hwo
      refine ⟨_, hwo, rfl, hb1, fun j hj _ => upd_other _ _ _ _ hj, .inl ⟨ew, ?_, .two ?_ ?_⟩⟩
      · have : Q.fail - 2 = 1 := hf; omega
      · exact upd_same _ _ _
      · exact hgo
    · rw [e2] at ew
      rw [ew] at hwo
      rw [show (⟨Q.room, upd Q.fs f (flat s), Q.fail - 2⟩ : D).fs g = flat old from hgo] at ew hwo
      refine ⟨_, hwo, rfl, hb1.upd g hst, fun j hj hj2 => (upd_other _ _ _ _ hj2).trans (upd_other _ _ _ _ hj), .inl ⟨ew, ?_, .three ?_ ?_⟩⟩
      · have : Q.fail - 2 = 2 := hf; omega
      · exact (upd_other _ _ _ _ hgf.symm).trans (upd_same _ _ _)
      · exact upd_same _ _ _
    · rw [e2] at ew
      rw [ew] at hwo
      refine ⟨_, hwo, rfl, hb1.upd g hfl, fun j hj hj2 => (upd_other _ _ _ _ hj2).trans (upd_other _ _ _ _ hj), .inr ⟨ew, ?_, ?_, ?_⟩⟩
      · exact (upd_other _ _ _ _ hgf.symm).trans (upd_same _ _ _)
      · exact upd_same _ _ _
      · intro h9; show Q.fail - 2 - 2 = 0; omega
theorem crash_flat {Q : D} (ch : List Int) {j : Nat} (hj : j < 4) {x : ByteArray} (h : Q.fs j = flat x) : (crash Q ch).fs j = flat x := by
  obtain ⟨l, hl⟩ := crash_at Q ch j hj
  rw [hl, h]
  unfold crashF flat
  rw [if_pos rfl]; rfl
theorem crash_put {Q : D} (ch : List Int) {j : Nat} (hj : j < 4) {s old : ByteArray} (h : Q.fs j = ⟨s, old, true⟩) : ∃ y, (crash Q ch).fs j = flat y ∧ (y = old ∨ Pre s y) := by
  obtain ⟨l, hl⟩ := crash_at Q ch j hj
  rw [h] at hl
  unfold crashF at hl
  split at hl
  · rename_i e
    exact ⟨s, hl, .inl e⟩
  · refine ⟨_, hl, ?_⟩
    unfold left
    rw [if_pos rfl]
    split
    · exact .inl rfl
    · exact .inr ⟨_, rfl⟩
theorem crash_bd {B : Nat} {Q : D} (ch : List Int) (h : Bd B Q.fs) : Bd B (crash Q ch).fs := fun j hj => by
  obtain ⟨l, hl⟩ := crash_at Q ch j hj
  rw [hl]
  exact Nat.le_trans (crashF_size _ _) (h j hj)
/-- What a crash leaves of both files. -/
def Left (fs : Nat → F) (f g : Nat) (old s : ByteArray) : Prop := ∃ a b, fs f = flat a ∧ fs g = flat b ∧ ((b = old ∧ (a = old ∨ Pre s a)) ∨ (a = s ∧ (b = old ∨ Pre s b)))
theorem crash_mid {Q : D} (ch : List Int) {f g : Nat} (hf : f < 4) (hg : g < 4) {old s : ByteArray} (h : Mid Q.fs f g old s) : Left (crash Q ch).fs f g old s := by
  cases h with
  | zero h0 h1 => exact ⟨_, _, crash_flat ch hf h0, crash_flat ch hg h1, .inl ⟨rfl, .inl rfl⟩⟩
  | one h0 h1 =>
    obtain ⟨y, hy, hw⟩ := crash_put ch hf h0
    exact ⟨_, _, hy, crash_flat ch hg h1, .inl ⟨rfl, hw⟩⟩
  | two h0 h1 => exact ⟨_, _, crash_flat ch hf h0, crash_flat ch hg h1, .inr ⟨rfl, .inl rfl⟩⟩
  | three h0 h1 =>
    obtain ⟨y, hy, hw⟩ := crash_put ch hg h1
    exact ⟨_, _, crash_flat ch hf h0, hy, .inr ⟨rfl, hw⟩⟩
theorem rest2_flat {B : Nat} {Q : D} (hok : Q.Ok) (h : Bd B Q.fs) (hr : 5 * B ≤ Q.room) (hf : Q.fail = 0) {ka kb : Nat} (hb : kb < 4) (hab : ka ≠ kb) {s b : ByteArray} (hs : s.size ≤ B) (h0 : Q.fs ka = flat s) (h1 : Q.fs kb = flat b) (sm : Bool) (hsm : sm = true → b = s) :
    ∃ Q', rest2 Q ka kb sm s = (Q', 0) ∧ Q'.Ok ∧ Q'.room = Q.room ∧ Q'.fail = 0 ∧ Bd B Q'.fs ∧ Q'.fs ka = flat s ∧ Q'.fs kb = flat s ∧ ∀ j, j ≠ kb → Q'.fs j = Q.fs j := by
  have e1 : rstep Q ka true s = (Q, 0) := rstep_skip (by rw [h0]; exact decide_eq_true rfl)
  rw [rest2_yes e1]
  cases sm
  · rw [rstep_false]
    have hok1 := cput_ok hok kb s
    rcases cput_is hok h hr kb hb s hs with ⟨hf1, _⟩ | ⟨hf1, _⟩ | ⟨_, _, e⟩
    · omega
    · omega
    · rw [e] at hok1
      exact ⟨_, e, hok1, rfl, by show Q.fail - 2 = 0; omega, h.upd kb (by rw [flat_size]; exact hs), (upd_other _ _ _ _ hab).trans h0, upd_same _ _ _, fun j hj => upd_other _ _ _ _ hj⟩
  · have e2 : rstep Q kb true s = (Q, 0) := rstep_skip (by rw [h1]; exact decide_eq_true rfl)
    exact ⟨Q, e2, hok, rfl, hf, h, h0, by rw [h1, hsm rfl], fun _ _ => rfl⟩
theorem parse_good {x t : ByteArray} {v : Nat} {b : Bool} (h : parseB x = (v, t, b)) (hv : v ≠ 0) : x = spell v t := by
  rcases parse_ways x with ⟨_, h2⟩ | ⟨_, h1, h2⟩ | ⟨_, h2⟩ <;> rw [h] at h2 <;> simp only [Prod.mk.injEq] at h2
  · exact absurd h2.1 hv
  · rw [h2.1, h2.2.1]; exact h1
  · exact absurd h2.1 hv
/-- Which half Open takes. -/
def best (v0 : Nat) (t0 : ByteArray) (v1 : Nat) (t1 : ByteArray) : Nat × ByteArray := if v0 < v1 then (v1, t1) else if v0 = 0 then (0, ⟨#[]⟩) else (v0, t0)
theorem open_flat {B : Nat} {Q : D} (hok : Q.Ok) (h : Bd B Q.fs) (hr : 5 * B ≤ Q.room) (hf : Q.fail = 0) {f g : Nat} (hfg : f + 1 = g) (hg : g < 4) {a b t0 t1 : ByteArray} {v0 v1 : Nat} {b0 b1 : Bool} (ha : Q.fs f = flat a) (hb : Q.fs g = flat b)
    (hp0 : parseB a = (v0, t0, b0)) (hp1 : parseB b = (v1, t1, b1)) (hc : ¬ (b1 = true ∧ v0 = 0)) :
    ∃ Q' V T, best v0 t0 v1 t1 = (V, T) ∧ openM Q f g = (Q', 0, V, T) ∧ Q'.Ok ∧ Q'.room = Q.room ∧ Q'.fail = 0 ∧ Bd B Q'.fs ∧ (∀ j, j ≠ f → j ≠ g → Q'.fs j = Q.fs j) ∧ (V = 0 → Q' = Q) ∧ (V ≠ 0 → Q'.fs f = flat (spell V T) ∧ Q'.fs g = flat (spell V T)) := by
  have ha' : (Q.fs f).now = a := by rw [ha]; rfl
  have hb' : (Q.fs g).now = b := by rw [hb]; rfl
  unfold openM best
  rw [ha', hb', hp0, hp1]
  simp only
  rw [if_neg hc]
  by_cases hlt : v0 < v1
  · rw [if_pos hlt, if_pos hlt]
    have hb2 := parse_good hp1 (by omega)
    have hsz : (spell v1 t1).size ≤ B := by have := h g hg; rw [hb, flat_size] at this; rw [← hb2]; exact this
    obtain ⟨Q', e, h1, h2, h3, h4, h5, h6, h7⟩ := rest2_flat hok h hr hf (ka := g) (kb := f) (by omega) (by omega) hsz (by rw [hb, hb2]) ha (decide (v0 = v1 ∧ t0 = t1)) (fun hd => by have := of_decide_eq_true hd; omega)
    exact ⟨Q', v1, t1, rfl, finish_yes e, h1, h2, h3, h4, fun j hj hj2 => h7 j hj, fun h0 => by omega, fun _ => ⟨h6, h5⟩⟩
  · rw [if_neg hlt, if_neg hlt]
    by_cases h0 : v0 = 0
    · rw [if_pos h0, if_pos h0]
      exact ⟨Q, 0, ⟨#[]⟩, rfl, rfl, hok, rfl, hf, h, fun _ _ _ => rfl, fun _ => rfl, fun h => absurd rfl h⟩
    · rw [if_neg h0, if_neg h0]
      have hb2 := parse_good hp0 h0
      have hsz : (spell v0 t0).size ≤ B := by have := h f (by omega); rw [ha, flat_size] at this; rw [← hb2]; exact this
      obtain ⟨Q', e, h1, h2, h3, h4, h5, h6, h7⟩ := rest2_flat hok h hr hf (ka := f) (kb := g) hg (by omega) hsz (by rw [ha, hb2]) hb (decide (v0 = v1 ∧ t0 = t1)) (fun hd => by
        obtain ⟨e1, e2⟩ := of_decide_eq_true hd
        subst e1 e2
        exact parse_good hp1 h0)
      exact ⟨Q', v0, t0, rfl, finish_yes e, h1, h2, h3, h4, fun j hj hj2 => h7 j hj2, fun h0' => absurd h0' h0, fun _ => ⟨h5, h6⟩⟩
/-- The content of both files behind v Writes. -/
def hv (v : Nat) (t : ByteArray) : ByteArray := if v = 0 then ⟨#[]⟩ else spell v t
theorem hv_pos {v : Nat} (h : v ≠ 0) (t : ByteArray) : hv v t = spell v t := by unfold hv; rw [if_neg h]
theorem parse_hv (v : Nat) (t : ByteArray) (h : v < 18446744073709551616) (ht : t.size ≤ 600000) (h0 : v = 0 → t = ⟨#[]⟩) : parseB (hv v t) = (v, t, false) := by
  by_cases e : v = 0
  · rw [e, h0 e]; exact parse_empty
  · rw [hv_pos e]; exact parse_spell v t (by omega) h ht
/-- What Open finds, whatever a crash has left. -/
theorem open_left {B : Nat} {Q : D} (hok : Q.Ok) (h : Bd B Q.fs) (hr : 5 * B ≤ Q.room) (hf : Q.fail = 0) {f g : Nat} (hfg : f + 1 = g) (hg : g < 4) {v : Nat} {t t1 : ByteArray} (hvl : v ≤ 1000000) (ht : t.size ≤ 500000) (ht1 : t1.size ≤ 500000) (h0 : v = 0 → t = ⟨#[]⟩)
    (hl : Left Q.fs f g (hv v t) (spell (v + 1) t1)) :
    ∃ Q' V T, openM Q f g = (Q', 0, V, T) ∧ (V = v ∧ T = t ∨ V = v + 1 ∧ T = t1) ∧ Q'.Ok ∧ Q'.room = Q.room ∧ Q'.fail = 0 ∧ Bd B Q'.fs ∧ (∀ j, j ≠ f → j ≠ g → Q'.fs j = Q.fs j) ∧ (V = 0 → Q' = Q) ∧ (V ≠ 0 → Q'.fs f = flat (spell V T) ∧ Q'.fs g = flat (spell V T)) := by
  obtain ⟨a, b, ha, hb, hw⟩ := hl
  have po := parse_hv v t (by omega) (by omega) h0
  have ps := parse_spell (v + 1) t1 (by omega) (by omega) (by omega)
  have key : ∃ v0 t0 b0 v1 tt b1, parseB a = (v0, t0, b0) ∧ parseB b = (v1, tt, b1) ∧ ¬ (b1 = true ∧ v0 = 0) ∧ (best v0 t0 v1 tt = (v, t) ∨ best v0 t0 v1 tt = (v + 1, t1)) := by
    rcases hw with ⟨rfl, hwa⟩ | ⟨rfl, hwb⟩
    · rcases hwa with rfl | hpre
      · refine ⟨_, _, _, _, _, _, po, po, by simp, .inl ?_⟩
        unfold best; rw [if_neg (Nat.lt_irrefl _)]
        by_cases e : v = 0
        · rw [if_pos e, e, h0 e]
        · rw [if_neg e]
      · rcases parse_pre (v + 1) t1 a ht1 hpre with rfl | hz
        · refine ⟨_, _, _, _, _, _, ps, po, by simp, .inr ?_⟩
          unfold best; rw [if_neg (by omega), if_neg (by omega)]
        · obtain ⟨v0, t0, b0, hp⟩ : ∃ v0 t0 b0, parseB a = (v0, t0, b0) := ⟨_, _, _, rfl⟩
          rw [hp] at hz
          obtain rfl : v0 = 0 := hz
          refine ⟨_, _, _, _, _, _, hp, po, by simp, .inl ?_⟩
          unfold best
          by_cases e : v = 0
          · rw [if_neg (by omega), if_pos rfl, e, h0 e]
          · rw [if_pos (by omega)]
    · rcases hwb with rfl | hpre
      · refine ⟨_, _, _, _, _, _, ps, po, by simp, .inr ?_⟩
        unfold best; rw [if_neg (by omega), if_neg (by omega)]
      · rcases parse_pre (v + 1) t1 b ht1 hpre with rfl | hz
        · refine ⟨_, _, _, _, _, _, ps, ps, by simp, .inr ?_⟩
          unfold best; rw [if_neg (by omega), if_neg (by omega)]
        · obtain ⟨v0, t0, b0, hp⟩ : ∃ v0 t0 b0, parseB b = (v0, t0, b0) := ⟨_, _, _, rfl⟩
          rw [hp] at hz
          obtain rfl : v0 = 0 := hz
          refine ⟨_, _, _, _, _, _, ps, hp, by simp, .inr ?_⟩
          unfold best; rw [if_neg (by omega), if_neg (by omega)]
  obtain ⟨v0, t0, b0, v1, tt, b1, hp0, hp1, hc, hbest⟩ := key
  obtain ⟨Q', V, T, e1, e2, rest⟩ := open_flat hok h hr hf hfg hg ha hb hp0 hp1 hc
  refine ⟨Q', V, T, e2, ?_, rest⟩
  rw [e1] at hbest
  simp only [Prod.mk.injEq] at hbest
  exact hbest
/-- Of settled files Open finds what they hold. -/
theorem open_settled {B : Nat} {Q : D} (hok : Q.Ok) (h : Bd B Q.fs) (hr : 5 * B ≤ Q.room) (hf : Q.fail = 0) {f g : Nat} (hfg : f + 1 = g) (hg : g < 4) {v : Nat} {t : ByteArray} (hvl : v ≤ 1000000) (ht : t.size ≤ 600000) (h0 : v = 0 → t = ⟨#[]⟩)
    (ha : Q.fs f = flat (hv v t)) (hb : Q.fs g = flat (hv v t)) :
    ∃ Q', openM Q f g = (Q', 0, v, t) ∧ Q'.Ok ∧ Q'.room = Q.room ∧ Q'.fail = 0 ∧ Bd B Q'.fs ∧ (∀ j, j ≠ f → j ≠ g → Q'.fs j = Q.fs j) ∧ Q'.fs f = flat (hv v t) ∧ Q'.fs g = flat (hv v t) := by
  have po := parse_hv v t (by omega) (by omega) h0
  obtain ⟨Q', V, T, e1, e2, h1, h2, h3, h4, h5, h6, h7⟩ := open_flat hok h hr hf hfg hg ha hb po po (by simp)
  have e : best v t v t = (v, t) := by
    unfold best; rw [if_neg (Nat.lt_irrefl _)]
    by_cases e : v = 0
    · rw [if_pos e, e, h0 e]
    · rw [if_neg e]
  rw [e] at e1
  simp only [Prod.mk.injEq] at e1
  obtain ⟨rfl, rfl⟩ := e1
  refine ⟨Q', e2, h1, h2, h3, h4, h5, ?_⟩
  by_cases e : v = 0
  · rw [h6 e]; exact ⟨ha, hb⟩
  · rw [hv_pos e]; exact h7 e
end Go.Proofs.Ytfcfbecfamemlaa

namespace Go.Proofs.Ytfcfbecfamemlaa
open Go.ChangeShapes Go.WideShapes Go.ChangeAt Go.RowKit
open Dk Enc
set_option linter.unusedVariables false
set_option linter.unusedSimpArgs false
theorem refSpell_any (v : Nat) (t : ByteArray) (w : World) (hv : v < 18446744073709551616) (ht : t.size ≤ 600000) :
    Calls Try.prog 29 #[.int .u64 (v : Nat), .string t] w fun e w' => e = .returned (.string (spell v t)) ∧ Gr w w' := by
  have RU := Lib.hid (fun w => refU_any v w hv)
  have RS := Lib.hid (fun w => refS_any t w (by omega))
  have h9 := inner_le v t
  have RF := Lib.hid (fun w => rframe_any 1 (inner v t) w (by decide) (by omega))
  have HE := Lib.hid (show ofL (encU v) ++ ofL (encS (bytesOf t)) = inner v t from ofL_app _ _)
  have h1 : (ofL (encU v)).size ≤ 9 := by rw [ofL_size]; exact encU_le v
  have h2 : (ofL (encS (bytesOf t))).size ≤ 700000 := by rw [ofL_size]; have := encS_le t; omega
  have hc : ¬ 9223372036854775807 < (ofL (encU v)).size + (ofL (encS (bytesOf t))).size := by omega
  have HSP := Lib.hid (show rframe 1 (inner v t) = spell v t from rfl)
  rw [HSP.out] at RF
  generalize spell v t = s at *
  generalize inner v t = inn at *
  generalize ofL (encU v) = X at *
  generalize ofL (encS (bytesOf t)) = Y at *
  clear h9 h1 h2
  go_enter Try.func29, Try.ntmps29
  go_wp2_with fail
  refine (RU.out _).mono ?_
  rintro e w2 ⟨rfl, hg2⟩
  go_wp2_with fail
  refine (RS.out _).mono ?_
  rintro e w3 ⟨rfl, hg3⟩
  go_wp2_with (simp only [HE.out]; refine (RF.out _).mono ?_; rintro e w4 ⟨rfl, hg4⟩)
  go_ret
  exact ⟨rfl, (hg2.trans hg3).trans hg4⟩
theorem bd_new (r B : Nat) : Bd B (new r).fs := fun j _ => by show F.size zero ≤ B; have : F.size zero = 0 := rfl; omega
theorem now_le {B : Nat} {fs : Nat → F} (h : Bd B fs) {k : Nat} (hk : k < 4) : (fs k).now.size ≤ B := by have := h k hk; unfold F.size at this; omega
/-- Open, where what it finds is known. -/
theorem open_to {B d f g v : Nat} {t : ByteArray} {Q Q' : D} (w : World) (h : DkIs w d Q) (hb : Bd B Q.fs) (hB : B ≤ 600000) (hfg : f + 1 = g) (hg : g < 4) (ho : openM Q f g = (Q', 0, v, t)) :
    Calls Try.prog 25 #[.pointer (some ⟨d, 0, none⟩), .int .i64 (f : Nat)] w fun e w' => ∃ c, e = .returned (.tuple #[.pointer (some ⟨c, 0, none⟩), .string t, .int .i64 0]) ∧ w.heap.size ≤ c ∧ ClIs w' c d f v ∧ DkIs w' d Q' ∧ Sole d w w' := by
  refine (open_any12 w h hfg hg (Nat.le_trans (now_le hb (by omega)) hB) (Nat.le_trans (now_le hb hg) hB)).mono ?_
  rintro e w' ⟨hd, hs, hw⟩
  rw [ho] at hd hw
  rcases hw with ⟨_, c, he, hc, hcl⟩ | ⟨hne, _⟩
  · exact ⟨c, he, hc, hcl, hd, hs⟩
  · exact absurd rfl hne
/-- Write, where the end is known. -/
theorem write_to {c d f v q : Nat} {Q Q' : D} {t : ByteArray} (w : World) (h : DkIs w d Q) (hc : ClIs w c d f v) (hf : f + 1 < 4) (hv : v ≤ 1000000) (ht : t.size ≤ 524288) (hw : wr Q f (spell (v + 1) t) = (Q', q)) :
    Calls Try.prog 30 #[.pointer (some ⟨c, 0, none⟩), .string t] w fun e w' => e = .returned (.int .i64 (q : Nat)) ∧ DkIs w' d Q' ∧ ClIs w' c d f (if q = 0 then v + 1 else v) ∧ Duo c d w w' := by
  refine (write_any t w h hc hf hv ht).mono ?_
  rintro e w' ⟨he, hd, hcl, hs⟩
  rw [hw] at he hd hcl
  exact ⟨he, hd, hcl, hs⟩
theorem crash_none {b : Nat} {d : D} (w : World) (h : DkIs w b d) : Calls Try.prog 20 #[.pointer (some ⟨b, 0, none⟩), .slice none 0 0] w fun e w' => e = .returned (.tuple #[]) ∧ DkIs w' b (crash d []) ∧ Sole b w w' :=
  crash_any [] none 0 w ⟨by simp, by simp, .inl rfl⟩ (Nat.le_refl _) (.inl rfl) h
theorem spell_le (v : Nat) (t : ByteArray) : (spell v t).size ≤ t.size + 26 := by rw [spell_size]; have := inner_le v t; omega
set_option maxRecDepth 100000 in
set_option maxHeartbeats 1000000 in
theorem awake12 (w : World) : Calls Try.prog 23 #[] w fun e w' => e = .returned (.bool true) ∧ Gr w w' := by
  have hok := new_ok 1000 (by decide)
  obtain ⟨Q1, ho, hok1, hr1, hf1, hb1, -, ha1, hc1⟩ := open_settled (B := 100) (Q := new 1000) hok (bd_new _ _) (by decide) rfl (f := 1) (g := 2) rfl (by decide) (v := 0) (t := ⟨#[]⟩) (by decide) (by decide) (fun _ => rfl) rfl rfl
  obtain ⟨Q2, hok2, hr2, hb2, -, hw⟩ := wr_ways hok1 hb1 (by rw [hr1]; decide) 1 2 rfl (by decide) (hv 0 ⟨#[]⟩) (spell 1 ⟨#[97]⟩) (Nat.le_trans (spell_le _ _) (by decide)) ha1 hc1
  have hw' : wr Q1 1 (spell (0 + 1) ⟨#[97]⟩) = (Q2, 0) ∧ Q2.fs 2 = flat (spell 1 ⟨#[97]⟩) := by
    rcases hw with ⟨_, hne, _⟩ | ⟨h1, _, h2, _⟩
    · exact absurd hf1 hne
    · exact ⟨h1, h2⟩
  have HO := Lib.hid ho
  have HW := Lib.hid hw'
  have HB := Lib.hid (bd_new 1000 100)
  clear ho hw' hw
  go_enter Try.func23, Try.ntmps23
  go_wp2_with fail
  refine (new_any 1000 (by decide) _).mono ?_
  rintro e w1 ⟨b, rfl, hbe, hd1, hg1⟩
  have HD1 := Lib.hid hd1
  have HG1 := Lib.hid hg1
  have HBW := Lib.hid (show w.heap.size ≤ b by omega)
  clear hbe hd1 hg1
  go_wp2_with fail
  refine (open_to (B := 100) (f := 1) (g := 2) _ HD1.out HB.out (by decide) rfl (by decide) HO.out).mono ?_
  rintro e w2 ⟨c, rfl, hcw, hcl, hd2, hs2⟩
  have HC2 := Lib.hid hcl
  have HD2 := Lib.hid hd2
  have HG2 := Lib.hid (hs2.gr HG1.out HBW.out)
  have hcw0 := Lib.hid (show w1.heap.size ≤ c from hcw)
  clear hcw hcl hd2 hs2
  go_wp2_with fail
  refine (write_to _ HD2.out HC2.out (by decide) (by decide) (by decide) HW.out.1).mono ?_
  rintro e w3 ⟨rfl, hd3, hc3, hdu3⟩
  have HD3 := Lib.hid hd3
  have HC3 : Hid (ClIs w3 c b 1 1) := Lib.hid hc3
  have HG3 := Lib.hid (hdu3.gr HG2.out (Nat.le_trans (by have := HG1.out.size; exact this) (Nat.le_trans (Nat.le_refl _) hcw0.out)) HBW.out)
  clear hd3 hc3 hdu3
  have RD := Lib.hid (read_in 2 (by decide) _ HD3.out)
  rw [HW.out.2, show (flat (spell 1 ⟨#[97]⟩)).now = spell 1 ⟨#[97]⟩ from rfl] at RD
  have RS := Lib.hid (fun w => refSpell_any 1 ⟨#[97]⟩ w (by decide) (by decide))
  generalize spell 1 ⟨#[97]⟩ = z at *
  go_wp2_with fail
  refine RD.out.mono ?_
  rintro e w4 ⟨rfl, hg4⟩
  have HC4 := Lib.hid (HC3.out.gr hg4)
  have HG4 := Lib.hid (HG3.out.trans hg4)
  clear hg4
  go_wp2_with fail
  refine (RS.out _).mono ?_
  rintro e w5 ⟨rfl, hg5⟩
  have HC5 := Lib.hid (HC4.out.gr hg5)
  have HG5 := Lib.hid (HG4.out.trans hg5)
  clear hg5
  go_wp2_with fail
  refine (version_any _ HC5.out).mono ?_
  rintro e w6 ⟨rfl, rfl⟩
  go_wp2
  go_ret
  exact ⟨rfl, HG5.out⟩
end Go.Proofs.Ytfcfbecfamemlaa
