import Derived.Test.YtjllnojhhlkpoaaF01d
import Derived.WalkKit
import Derived.ProofKit
import Derived.LoopTactic
import Derived.Outline
import Derived.WalkSpells
import Derived.WalkLawsBesides
import Derived.Lib.Hide
import Derived.Deep.LoopGhost
import Derived.Deep.QuietTactic
import Derived.BigQuiet
import Derived.ShutString
namespace Go.Proofs.Ytjllnojhhlkpoaa
open Go.ChangeShapes Go.WideShapes Go.ChangeAt Go.RowKit
open Enc
set_option linter.unusedVariables false
theorem uR_zero (r1 : ByteArray) (m : Nat) (h : (uR r1 m).2.1 ≠ 0) : (uR r1 m).2.2 = 0 := by
  unfold uR at *
  by_cases h1 : more m = 0
  · rw [if_pos h1] at *
    by_cases h2 : first m = m
    · rw [if_pos h2] at h; exact absurd rfl h
    · rw [if_neg h2]
  · rw [if_neg h1] at *
    by_cases h2 : r1.size < more m
    · rw [if_pos h2]
    · rw [if_neg h2] at *
      by_cases h3 : first (num8 (bytesOf (r1.extract 0 (more m)))) = m
      · rw [if_pos h3] at h; exact absurd rfl h
      · rw [if_neg h3]
theorem uS_zero (r : ByteArray) (e : Nat) (h : (uS r e).2.1 ≠ 0) : (uS r e).2.2 = 0 := by
  unfold uS at *
  split at h
  · simp_all
  · split at h
    · simp_all
    · rename_i h1 h2; rw [if_neg h1, if_neg h2]; exact uR_zero _ _ h
def nS (r : ByteArray) (e : Nat) (most : Int) : ByteArray × Nat × Nat :=
  if ((max most 0).toNat < (uS r e).2.2) then ((uS r e).1, 6, 0) else uS r e
def NIs (p : Nat) (r : ByteArray) (e : Nat) (most : Int) (w : World) (en : Ending) (w' : World) : Prop :=
  en = .returned (.int .i64 (nS r e most).2.2) ∧ RdIs w' p (nS r e most).1 (nS r e most).2.1 ∧ Only p w w'
theorem nIs_mk {p : Nat} {r : ByteArray} {e : Nat} {most : Int} {w w' : World} {a : ByteArray} {b c : Nat} (h : Hid (nS r e most = (a, b, c))) (h1 : RdIs w' p a b) (h2 : Only p w w') : NIs p r e most w (.returned (.int .i64 (c : Int))) w' :=
  ⟨by rw [h.out], by rw [h.out]; exact h1, h2⟩
theorem uIs_is {p : Nat} {r : ByteArray} {e : Nat} {w w' : World} {en : Ending} {a : ByteArray} {b c : Nat} (h : Hid (uS r e = (a, b, c))) (hu : UIs p r e w en w') : en = .returned (.int .u64 (c : Int)) ∧ RdIs w' p a b ∧ Only p w w' := by
  have := h.out
  unfold UIs at hu; rwa [this] at hu
set_option maxRecDepth 100000 in
set_option maxHeartbeats 1000000 in
theorem rN_walk (p : Nat) (r a : ByteArray) (e b c : Nat) (most : Int) (M : Nat) (hM : most < 0 ∧ M = 0 ∨ most = (M : Int)) (hb : most ≤ 9223372036854775807) (w : World) (h : RdIs w p r e) (hu : Hid (uS r e = (a, b, c)))
    (hc : M < c ∧ b = 0 ∧ Hid (nS r e most = (a, 6, 0)) ∨ c ≤ M ∧ Hid (nS r e most = (a, b, c))) :
    Calls Try.prog 30 #[.pointer (some ⟨p, 0, none⟩), .int .i64 most] w (NIs p r e most w) := by
  have H := Lib.hid h
  clear h
  rcases hM with ⟨hneg, rfl⟩ | rfl
  · rcases hc with ⟨hlt, rfl, E⟩ | ⟨hle, E⟩
    · have t1 : (0 : Int) < (c : Int) := by omega
      go_enter Try.func30, Try.ntmps30
      go_wp2_with fail
      refine (rU_any p r e _ H.out).mono ?_
      intro en w1 hU
      obtain ⟨rfl, hR, hO⟩ := uIs_is hu hU
      clear hU
      have HR := Lib.hid hR
      obtain ⟨g0, g1, g2, g3, _⟩ := hR
      go_wp2_with fail
      refine (fail_zero p 6 a _ rfl _ HR.out).mono ?_
      rintro en w2 ⟨rfl, hR2, hO2⟩
      go_wp2
      go_ret
      exact nIs_mk E hR2 (hO.trans hO2)
    · obtain rfl : c = 0 := by omega
      go_enter Try.func30, Try.ntmps30
      go_wp2_with fail
      refine (rU_any p r e _ H.out).mono ?_
      intro en w1 hU
      obtain ⟨rfl, hR, hO⟩ := uIs_is hu hU
      clear hU
      go_wp2
      go_ret
      exact nIs_mk E hR hO
  · rcases hc with ⟨hlt, rfl, E⟩ | ⟨hle, E⟩
    · have t1 : (M : Int) < (c : Int) := by omega
      go_enter Try.func30, Try.ntmps30
      go_wp2_with fail
      refine (rU_any p r e _ H.out).mono ?_
      intro en w1 hU
      obtain ⟨rfl, hR, hO⟩ := uIs_is hu hU
      clear hU
      have HR := Lib.hid hR
      obtain ⟨g0, g1, g2, g3, _⟩ := hR
      go_wp2_with fail
      refine (fail_zero p 6 a _ rfl _ HR.out).mono ?_
      rintro en w2 ⟨rfl, hR2, hO2⟩
      go_wp2
      go_ret
      exact nIs_mk E hR2 (hO.trans hO2)
    · have t1 : (c : Int) ≤ (M : Int) := by omega
      go_enter Try.func30, Try.ntmps30
      go_wp2_with fail
      refine (rU_any p r e _ H.out).mono ?_
      intro en w1 hU
      obtain ⟨rfl, hR, hO⟩ := uIs_is hu hU
      clear hU
      go_wp2
      go_ret
      exact nIs_mk E hR hO
theorem rN_any (p : Nat) (r : ByteArray) (e : Nat) (most : Int) (hb : most ≤ 9223372036854775807) (w : World) (h : RdIs w p r e) :
    Calls Try.prog 30 #[.pointer (some ⟨p, 0, none⟩), .int .i64 most] w (NIs p r e most w) := by
  have hz := uS_zero r e
  refine rN_walk p r (uS r e).1 e (uS r e).2.1 (uS r e).2.2 most (max most 0).toNat (by omega) hb w h rfl ?_
  by_cases hc : (max most 0).toNat < (uS r e).2.2
  · refine .inl ⟨hc, ?_, by show nS r e most = _; unfold nS; rw [if_pos hc]⟩
    rcases Nat.eq_zero_or_pos (uS r e).2.1 with h0 | h0
    · exact h0
    · have := hz (by omega); omega
  · exact .inr ⟨by omega, by show nS r e most = _; unfold nS; rw [if_neg hc]⟩
def bS (r : ByteArray) (e : Nat) : ByteArray × Nat × Bool :=
  if e ≠ 0 then (r, e, false) else if r.size < 1 then (r, 3, false) else if 1 < hd r then (r.extract 1 r.size, 4, false) else (r.extract 1 r.size, 0, decide (hd r = 1))
def BIs (p : Nat) (r : ByteArray) (e : Nat) (w : World) (en : Ending) (w' : World) : Prop :=
  en = .returned (.bool (bS r e).2.2) ∧ RdIs w' p (bS r e).1 (bS r e).2.1 ∧ Only p w w'
theorem bIs_mk {p : Nat} {r : ByteArray} {e : Nat} {w w' : World} {a : ByteArray} {b : Nat} {c : Bool} (h : Hid (bS r e = (a, b, c))) (h1 : RdIs w' p a b) (h2 : Only p w w') : BIs p r e w (.returned (.bool c)) w' :=
  ⟨by rw [h.out], by rw [h.out]; exact h1, h2⟩
set_option maxRecDepth 100000 in
set_option maxHeartbeats 1000000 in
theorem rB_none (p : Nat) (r : ByteArray) (e : Nat) (w : World) (h : RdIs w p r e) (hc : e ≠ 0 ∨ e = 0 ∧ r.size < 1) : Calls Try.prog 32 #[.pointer (some ⟨p, 0, none⟩)] w (BIs p r e w) := by
  have H := Lib.hid h
  clear h
  rcases hc with he | ⟨rfl, hz⟩
  · have E := Lib.hid (show bS r e = (r, e, false) by unfold bS; rw [if_pos he])
    have t1 : ((e : Int) != 0) = true := by simp [he]
    clear he
    go_enter Try.func32, Try.ntmps32
    go_wp2_with fail
    refine (take_err p r e 1 _ rfl t1 _ H.out).mono ?_
    rintro en w1 ⟨rfl, hR, hO⟩
    have HR := Lib.hid hR
    obtain ⟨g0, g1, g2, g3, _⟩ := hR
    go_wp2
    go_ret
    exact bIs_mk E HR.out hO
  · have E := Lib.hid (show bS r 0 = (r, 3, false) by unfold bS; rw [if_neg (by omega), if_pos hz])
    go_enter Try.func32, Try.ntmps32
    go_wp2_with fail
    refine (take_short p r 1 _ rfl hz _ H.out).mono ?_
    rintro en w1 ⟨rfl, hR, hO⟩
    have HR := Lib.hid hR
    obtain ⟨g0, g1, g2, g3, _⟩ := hR
    go_wp2
    go_ret
    exact bIs_mk E HR.out hO
set_option maxRecDepth 100000 in
set_option maxHeartbeats 1000000 in
theorem rB_some (p : Nat) (r r1 : ByteArray) (m : Nat) (w : World) (h : RdIs w p r 0) (hz : 1 ≤ r.size) (hr1 : Hid (r.extract 1 r.size = r1)) (S : ByteArray) (hS : Hid (r.extract 0 1 = S)) (i0 : 0 < S.size) (hm : True → S[0].toNat = m)
    (hc : 1 < m ∧ Hid (bS r 0 = (r1, 4, false)) ∨ m ≤ 1 ∧ ∃ x : Bool, ((m : Int) == 1) = x ∧ Hid (bS r 0 = (r1, 0, x))) :
    Calls Try.prog 32 #[.pointer (some ⟨p, 0, none⟩)] w (BIs p r 0 w) := by
  have H := Lib.hid h
  clear h
  rcases hc with ⟨hlt, E⟩ | ⟨hle, x, hx, E⟩
  · have t1 : (1 : Int) < (m : Int) := by omega
    have t2 : ((m : Int) == 1) = false := by simp; omega
    go_enter Try.func32, Try.ntmps32
    go_wp2_with fail
    refine (take_ok p r 1 _ rfl hz _ H.out).mono ?_
    rintro en w1 ⟨rfl, hR, hO⟩
    rw [hr1.out] at hR
    rw [hS.out]
    have HR := Lib.hid hR
    obtain ⟨g0, g1, g2, g3, _⟩ := hR
    go_wp2_with fail
    refine (fail_zero p 4 r1 _ rfl _ HR.out).mono ?_
    rintro en w2 ⟨rfl, hR2, hO2⟩
    go_wp2
    go_ret
    exact bIs_mk E hR2 (hO.trans hO2)
  · have t1 : (m : Int) ≤ 1 := by omega
    cases x
    all_goals
      go_enter Try.func32, Try.ntmps32
      go_wp2_with fail
      refine (take_ok p r 1 _ rfl hz _ H.out).mono ?_
      rintro en w1 ⟨rfl, hR, hO⟩
      rw [hr1.out] at hR
      rw [hS.out]
      have HR := Lib.hid hR
      obtain ⟨g0, g1, g2, g3, _⟩ := hR
      go_wp2
      go_ret
      exact bIs_mk E HR.out hO
theorem rB_any (p : Nat) (r : ByteArray) (e : Nat) (w : World) (h : RdIs w p r e) : Calls Try.prog 32 #[.pointer (some ⟨p, 0, none⟩)] w (BIs p r e w) := by
  by_cases he : e = 0
  · subst he
    rcases Nat.lt_or_ge r.size 1 with hz | hz
    · exact rB_none p r 0 w h (.inr ⟨rfl, hz⟩)
    · have hsz : (r.extract 0 1).size = 1 := by simp; omega
      have i0 : 0 < (r.extract 0 1).size := by omega
      have hm : (r.extract 0 1)[0].toNat = hd r := by unfold hd; rw [dif_pos (show 0 < r.size by omega), ByteArray.getElem_extract]
      refine rB_some p r _ (hd r) w h hz rfl _ rfl i0 (fun _ => hm) ?_
      have h1 : ¬ r.size < 1 := by omega
      by_cases hk : 1 < hd r
      · exact .inl ⟨hk, by show bS r 0 = _; unfold bS; rw [if_neg (by omega), if_neg h1, if_pos hk]⟩
      · refine .inr ⟨by omega, decide (hd r = 1), ?_, by show bS r 0 = _; unfold bS; rw [if_neg (by omega), if_neg h1, if_neg hk]⟩
        by_cases h2 : hd r = 1
        · rw [h2]; rfl
        · have : ((hd r : Int) == 1) = false := by simp; omega
          rw [this]; simp [h2]
  · exact rB_none p r e w h (.inl he)
def doneE (r : ByteArray) (e : Nat) : Nat := if 0 < r.size then failE e 4 else e
set_option maxRecDepth 100000 in
theorem rDone_any (p : Nat) (r : ByteArray) (e : Nat) (w : World) (h : RdIs w p r e) :
    Calls Try.prog 33 #[.pointer (some ⟨p, 0, none⟩)] w fun en w' => en = .returned (.int .i64 (doneE r e : Nat)) ∧ RdIs w' p r (doneE r e) ∧ Only p w w' := by
  have H := Lib.hid h
  obtain ⟨h0, h1, f0, f1, hr⟩ := h
  by_cases hz : 0 < r.size
  · have E : doneE r e = failE e 4 := by unfold doneE; rw [if_pos hz]
    rw [E]
    clear E
    go_enter Try.func33, Try.ntmps33
    go_wp2_with fail
    refine (fail_any p 4 r e _ rfl _ H.out).mono ?_
    rintro en w2 ⟨rfl, hR2, hO2⟩
    have HR := Lib.hid hR2
    obtain ⟨g0, g1, g2, g3, _⟩ := hR2
    go_wp2
    go_ret
    exact ⟨rfl, HR.out, hO2⟩
  · have E : doneE r e = e := by unfold doneE; rw [if_neg hz]
    rw [E]
    clear E
    go_enter Try.func33, Try.ntmps33
    go_wp2
    go_ret
    exact ⟨rfl, H.out, Only.refl _ _⟩
end Go.Proofs.Ytjllnojhhlkpoaa
