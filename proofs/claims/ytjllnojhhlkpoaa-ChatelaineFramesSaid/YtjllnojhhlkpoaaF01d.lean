import Derived.Test.YtjllnojhhlkpoaaF01c
import Derived.WalkKit
import Derived.ProofKit
import Derived.LoopTactic
import Derived.Outline
import Derived.WalkSpells
import Derived.WalkLawsBesides
import Derived.Lib.Hide
import Derived.Deep.LoopGhost
import Derived.Deep.QuietTactic
import Derived.BigQuiet
import Derived.ShutString
namespace Go.Proofs.Ytjllnojhhlkpoaa
open Go.ChangeShapes Go.WideShapes Go.ChangeAt Go.RowKit
open Enc
set_option linter.unusedVariables false
/-- Behind a number's first byte m: what is left, the error, the number. -/
def uR (r1 : ByteArray) (m : Nat) : ByteArray × Nat × Nat :=
  if more m = 0 then (if first m = m then (r1, 0, m) else (r1, 4, 0))
  else if r1.size < more m then (r1, 3, 0)
  else if first (num8 (bytesOf (r1.extract 0 (more m)))) = m then (r1.extract (more m) r1.size, 0, num8 (bytesOf (r1.extract 0 (more m))))
  else (r1.extract (more m) r1.size, 4, 0)
/-- The first byte, or 0. -/
def hd (r : ByteArray) : Nat := if h : 0 < r.size then r[0].toNat else 0
theorem hd_lt (r : ByteArray) : hd r < 256 := by unfold hd; split; exact UInt8.toNat_lt _; omega
def uS (r : ByteArray) (e : Nat) : ByteArray × Nat × Nat :=
  if e ≠ 0 then (r, e, 0) else if r.size < 1 then (r, 3, 0) else uR (r.extract 1 r.size) (hd r)
def UIs (p : Nat) (r : ByteArray) (e : Nat) (w : World) (en : Ending) (w' : World) : Prop :=
  en = .returned (.int .u64 (uS r e).2.2) ∧ RdIs w' p (uS r e).1 (uS r e).2.1 ∧ Only p w w'
theorem uIs_mk {p : Nat} {r : ByteArray} {e : Nat} {w w' : World} {a : ByteArray} {b c : Nat} (h : Hid (uS r e = (a, b, c))) (h1 : RdIs w' p a b) (h2 : Only p w w') : UIs p r e w (.returned (.int .u64 (c : Int))) w' :=
  ⟨by rw [h.out], by rw [h.out]; exact h1, h2⟩
theorem uIs_mk0 {p : Nat} {r : ByteArray} {e : Nat} {w w' : World} {a : ByteArray} {b : Nat} (h : Hid (uS r e = (a, b, 0))) (h1 : RdIs w' p a b) (h2 : Only p w w') : UIs p r e w (.returned (.int .u64 0)) w' := uIs_mk h h1 h2
theorem first_zero : first 0 = 0 := rfl
set_option maxRecDepth 100000 in
set_option maxHeartbeats 1000000 in
theorem rU_none (p : Nat) (r : ByteArray) (e : Nat) (w : World) (h : RdIs w p r e) (hc : e ≠ 0 ∨ e = 0 ∧ r.size < 1) : Calls Try.prog 52 #[.pointer (some ⟨p, 0, none⟩)] w (UIs p r e w) := by
  have H := Lib.hid h
  clear h
  rcases hc with he | ⟨rfl, hz⟩
  · have E := Lib.hid (show uS r e = (r, e, 0) by unfold uS; rw [if_pos he])
    have t1 : ((e : Int) != 0) = true := by simp [he]
    clear he
    go_enter Try.func52, Try.ntmps52
    go_wp2_with fail
    refine (take_err p r e 1 _ rfl t1 _ H.out).mono ?_
    rintro en w1 ⟨rfl, hR, hO⟩
    have HR := Lib.hid hR
    obtain ⟨g0, g1, g2, g3, _⟩ := hR
    go_wp2
    go_ret
    exact uIs_mk0 E HR.out hO
  · have E := Lib.hid (show uS r 0 = (r, 3, 0) by unfold uS; rw [if_neg (by omega), if_pos hz])
    go_enter Try.func52, Try.ntmps52
    go_wp2_with fail
    refine (take_short p r 1 _ rfl hz _ H.out).mono ?_
    rintro en w1 ⟨rfl, hR, hO⟩
    have HR := Lib.hid hR
    obtain ⟨g0, g1, g2, g3, _⟩ := hR
    go_wp2
    go_ret
    exact uIs_mk0 E HR.out hO
set_option maxRecDepth 100000 in
set_option maxHeartbeats 2000000 in
/-- A first byte that nothing follows. -/
theorem rU_one (p : Nat) (r r1 : ByteArray) (m : Nat) (w : World) (h : RdIs w p r 0) (hz : 1 ≤ r.size) (hr1 : Hid (r.extract 1 r.size = r1)) (S : ByteArray) (hS : Hid (r.extract 0 1 = S)) (i0 : 0 < S.size) (hm : True → S[0].toNat = m) (hml : m < 256)
    (hmore : Hid (more m = 0)) (F : Nat) (hF : Hid (first m = F)) (ok : Bool) (hok : ((F : Int) != (m : Int)) = !ok) (E : Hid (uS r 0 = if ok then (r1, 0, m) else (r1, 4, 0))) :
    Calls Try.prog 52 #[.pointer (some ⟨p, 0, none⟩)] w (UIs p r 0 w) := by
  have H := Lib.hid h
  clear h
  go_enter Try.func52, Try.ntmps52
  go_wp2_with fail
  refine (take_ok p r 1 _ rfl hz _ H.out).mono ?_
  rintro en w1 ⟨rfl, hR, hO⟩
  rw [hr1.out] at hR
  rw [hS.out]
  have HR := Lib.hid hR
  obtain ⟨g0, g1, g2, g3, _⟩ := hR
  go_wp2_with fail
  refine (more_any m _ hml).mono ?_
  rintro en w2 ⟨rfl, rfl⟩
  rw [hmore.out]
  go_wp2_with fail
  refine (first_any m _).mono ?_
  rintro en w2 ⟨rfl, rfl⟩
  rw [hF.out]
  cases ok
  · go_wp2_with fail
    refine (fail_zero p 4 r1 _ rfl _ HR.out).mono ?_
    rintro en w2 ⟨rfl, hR2, hO2⟩
    have HR2 := Lib.hid hR2
    obtain ⟨g4, g5, g6, g7, _⟩ := hR2
    go_wp2
    go_ret
    exact uIs_mk0 E HR2.out (hO.trans hO2)
  · go_wp2
    go_ret
    exact uIs_mk E HR.out hO
set_option maxRecDepth 100000 in
set_option maxHeartbeats 2000000 in
/-- A first byte that others follow. -/
theorem rU_more (p : Nat) (r r1 : ByteArray) (m n : Nat) (w : World) (h : RdIs w p r 0) (hz : 1 ≤ r.size) (hr1 : Hid (r.extract 1 r.size = r1)) (S : ByteArray) (hS : Hid (r.extract 0 1 = S)) (i0 : 0 < S.size) (hm : True → S[0].toNat = m) (hml : m < 255)
    (hmore : Hid (more m = n)) (hn : 1 ≤ n ∧ n ≤ 8) (hm0 : Hid (m ≠ 0))
    (hc : r1.size < n ∧ Hid (uS r 0 = (r1, 3, 0)) ∨ n ≤ r1.size ∧ ∃ (r2 T : ByteArray) (v F : Nat) (ok : Bool), Hid (r1.extract n r1.size = r2) ∧ Hid (r1.extract 0 n = T) ∧ T.size ≤ 8 ∧ Hid (num8 (bytesOf T) = v) ∧ Hid (first v = F) ∧ ((F : Int) != (m : Int)) = !ok ∧ Hid (uS r 0 = if ok then (r2, 0, v) else (r2, 4, 0))) :
    Calls Try.prog 52 #[.pointer (some ⟨p, 0, none⟩)] w (UIs p r 0 w) := by
  have H := Lib.hid h
  clear h
  rcases hc with ⟨hs, E⟩ | ⟨hs, r2, T, v, F, ok, hr2, hT, hTz, hv, hF, hok, E⟩
  · have hw0 : num8 (bytesOf ⟨#[]⟩) = 0 := rfl
    have HW0 := Lib.hid hw0; clear hw0
    go_enter Try.func52, Try.ntmps52
    go_wp2_with fail
    refine (take_ok p r 1 _ rfl hz _ H.out).mono ?_
    rintro en w1 ⟨rfl, hR, hO⟩
    rw [hr1.out] at hR
    rw [hS.out]
    have HR := Lib.hid hR
    obtain ⟨g0, g1, g2, g3, _⟩ := hR
    go_wp2_with fail
    refine (more_any m _ (by omega)).mono ?_
    rintro en w2 ⟨rfl, rfl⟩
    rw [hmore.out]
    go_wp2_with fail
    refine (take_short p r1 n _ rfl hs _ HR.out).mono ?_
    rintro en w2 ⟨rfl, hR2, hO2⟩
    have HR2 := Lib.hid hR2
    have HO := Lib.hid (hO.trans hO2)
    clear g0 g1 g2 g3 hO hO2
    obtain ⟨g0, g1, g2, g3, _⟩ := hR2
    go_wp2_with fail
    refine (whole_any ⟨#[]⟩ _ (by decide)).mono ?_
    rintro en w3 ⟨rfl, rfl⟩
    rw [HW0.out]
    go_wp2_with fail
    refine (first_any 0 _).mono ?_
    rintro en w3 ⟨rfl, rfl⟩
    rw [first_zero]
    have t0 : ((0 : Int) != (m : Int)) = true := by have := hm0.out; simp; omega
    go_wp2_with fail
    refine (fail_keep p 4 r1 3 (by decide) _ rfl _ HR2.out).mono ?_
    rintro en w3 ⟨rfl, hR3, hO3⟩
    have HR3 := Lib.hid hR3
    have HO3 := Lib.hid hO3
    clear g0 g1 g2 g3 hO3
    obtain ⟨g0, g1, g2, g3, _⟩ := hR3
    go_wp2
    go_ret
    exact uIs_mk0 E HR3.out (HO.out.trans HO3.out)
  · go_enter Try.func52, Try.ntmps52
    go_wp2_with fail
    refine (take_ok p r 1 _ rfl hz _ H.out).mono ?_
    rintro en w1 ⟨rfl, hR, hO⟩
    rw [hr1.out] at hR
    rw [hS.out]
    have HR := Lib.hid hR
    obtain ⟨g0, g1, g2, g3, _⟩ := hR
    go_wp2_with fail
    refine (more_any m _ (by omega)).mono ?_
    rintro en w2 ⟨rfl, rfl⟩
    rw [hmore.out]
    go_wp2_with fail
    refine (take_ok p r1 n _ rfl hs _ HR.out).mono ?_
    rintro en w2 ⟨rfl, hR2, hO2⟩
    rw [hr2.out] at hR2
    rw [hT.out]
    have HR2 := Lib.hid hR2
    have HO := Lib.hid (hO.trans hO2)
    clear g0 g1 g2 g3 hO hO2
    obtain ⟨g0, g1, g2, g3, _⟩ := hR2
    go_wp2_with fail
    refine (whole_any T _ hTz).mono ?_
    rintro en w3 ⟨rfl, rfl⟩
    rw [hv.out]
    go_wp2_with fail
    refine (first_any v _).mono ?_
    rintro en w3 ⟨rfl, rfl⟩
    rw [hF.out]
    cases ok
    · go_wp2_with fail
      refine (fail_zero p 4 r2 _ rfl _ HR2.out).mono ?_
      rintro en w3 ⟨rfl, hR3, hO3⟩
      have HR3 := Lib.hid hR3
      have HO3 := Lib.hid hO3
      clear g0 g1 g2 g3 hO3
      obtain ⟨g0, g1, g2, g3, _⟩ := hR3
      go_wp2
      go_ret
      exact uIs_mk0 E HR3.out (HO.out.trans HO3.out)
    · go_wp2
      go_ret
      exact uIs_mk E HR2.out HO.out
theorem bool_ne (a b : Nat) : ((a : Int) != (b : Int)) = !decide (a = b) := by
  by_cases h : a = b
  · subst h; simp
  · have : ((a : Int) != (b : Int)) = true := by simp; omega
    rw [this]; simp [h]
theorem rU_any (p : Nat) (r : ByteArray) (e : Nat) (w : World) (h : RdIs w p r e) : Calls Try.prog 52 #[.pointer (some ⟨p, 0, none⟩)] w (UIs p r e w) := by
  by_cases he : e = 0
  · subst he
    rcases Nat.lt_or_ge r.size 1 with hz | hz
    · exact rU_none p r 0 w h (.inr ⟨rfl, hz⟩)
    · have hsz : (r.extract 0 1).size = 1 := by simp; omega
      have i0 : 0 < (r.extract 0 1).size := by omega
      have hm : (r.extract 0 1)[0].toNat = hd r := by unfold hd; rw [dif_pos (show 0 < r.size by omega), ByteArray.getElem_extract]
      have hml := hd_lt r
      have hu : uS r 0 = uR (r.extract 1 r.size) (hd r) := by unfold uS; rw [if_neg (by omega), if_neg (by omega)]
      by_cases hk : more (hd r) = 0
      · refine rU_one p r _ (hd r) w h hz rfl _ rfl i0 (fun _ => hm) hml hk _ rfl (decide (first (hd r) = hd r)) (bool_ne _ _) ?_
        show uS r 0 = _
        rw [hu]; unfold uR; rw [if_pos hk]; simp
      · have h8 := more_le (hd r)
        have hml' : hd r < 255 := by
          rcases Nat.lt_or_ge (hd r) 255 with h | h
          · exact h
          · exfalso; apply hk; have : hd r = 255 := by omega
            rw [this]; rfl
        have hm0 : hd r ≠ 0 := by intro h0; apply hk; rw [h0]; rfl
        refine rU_more p r _ (hd r) _ w h hz rfl _ rfl i0 (fun _ => hm) hml' rfl (by omega) hm0 ?_
        rcases Nat.lt_or_ge (r.extract 1 r.size).size (more (hd r)) with hs | hs
        · refine .inl ⟨hs, ?_⟩
          show uS r 0 = _
          rw [hu]; unfold uR; rw [if_neg hk, if_pos hs]
        · refine .inr ⟨hs, _, _, _, _, decide (first (num8 (bytesOf ((r.extract 1 r.size).extract 0 (more (hd r))))) = hd r), rfl, rfl, by simp; omega, rfl, rfl, bool_ne _ _, ?_⟩
          show uS r 0 = _
          rw [hu]; unfold uR; rw [if_neg hk, if_neg (Nat.not_lt.2 hs)]; simp
  · exact rU_none p r e w h (.inl he)
end Go.Proofs.Ytjllnojhhlkpoaa
