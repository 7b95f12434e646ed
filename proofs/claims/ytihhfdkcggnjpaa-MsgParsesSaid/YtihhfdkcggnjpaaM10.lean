import Derived.Test.YtihhfdkcggnjpaaF10h
import Derived.Test.YtihhfdkcggnjpaaF10b
import Derived.WalkKit
import Derived.ProofKit
import Derived.LoopTactic
import Derived.Outline
import Derived.WalkSpells
import Derived.WalkLawsBesides
import Derived.Lib.Hide
import Derived.Deep.LoopGhost
import Derived.Deep.QuietTactic
import Derived.BigQuiet
import Derived.ShutString
namespace Go.Proofs.Ytihhfdkcggnjpaa
open Enc Bal
set_option linter.unusedVariables false
set_option linter.unusedSimpArgs false
theorem ofL_inj {a b : List UInt8} (h : ofL a = ofL b) : a = b := by rw [← bytesOf_ofL a, h, bytesOf_ofL]
theorem encU_inj {v v' : Nat} {r r' : List UInt8} (hv : v < 18446744073709551616) (hv' : v' < 18446744073709551616) (h : encU v ++ r = encU v' ++ r') : v = v' ∧ r = r' := by
  have h1 := uS_back (ofL (encU v ++ r)) v r hv (bytesOf_ofL _)
  have h2 := uS_back (ofL (encU v ++ r)) v' r' hv' (by rw [bytesOf_ofL, h])
  rw [h1] at h2
  simp only [Prod.mk.injEq, true_and] at h2
  exact ⟨h2.2, ofL_inj h2.1⟩
theorem encN_inj {v v' : Int} {r r' : List UInt8} (hv : 0 ≤ v ∧ v < 18446744073709551616) (hv' : 0 ≤ v' ∧ v' < 18446744073709551616) (h : encN v ++ r = encN v' ++ r') : v = v' ∧ r = r' := by
  unfold encN at h
  have := encU_inj (by omega) (by omega) h
  exact ⟨by omega, this.2⟩
theorem encB_inj {v v' : Bool} {r r' : List UInt8} (h : encB v ++ r = encB v' ++ r') : v = v' ∧ r = r' := by
  simp only [encB, List.cons_append, List.nil_append, List.cons.injEq] at h
  refine ⟨?_, h.2⟩
  cases v <;> cases v' <;> first | rfl | exact absurd h.1 (by decide)
theorem encS_inj {v v' : ByteArray} {r r' : List UInt8} (hv : v.size ≤ 1000) (hv' : v'.size ≤ 1000) (h : encS (bytesOf v) ++ r = encS (bytesOf v') ++ r') : v = v' ∧ r = r' := by
  unfold encS at h
  rw [lenB, lenB, List.append_assoc, List.append_assoc] at h
  obtain ⟨h1, h2⟩ := encU_inj (by omega) (by omega) h
  obtain ⟨h3, h4⟩ := List.append_inj h2 (by rw [lenB, lenB, h1])
  exact ⟨by rw [← ofL_bytes v, h3, ofL_bytes], h4⟩
def EGood (y : E) : Prop := 0 ≤ y.slot ∧ y.slot < 18446744073709551616 ∧ 0 ≤ y.c ∧ y.c < 18446744073709551616 ∧ 0 ≤ y.n ∧ y.n ≤ 11 ∧ y.text.size ≤ 1000
theorem insE_inj {x y : E} {r r' : List UInt8} (hx : EGood x) (hy : EGood y) (h : insE x ++ r = insE y ++ r') : x = y ∧ r = r' := by
  obtain ⟨xs, xc, xn, xt⟩ := x
  obtain ⟨ys, yc, yn, yt⟩ := y
  obtain ⟨a1, a2, a3, a4, a5, a6, a7⟩ := hx
  obtain ⟨b1, b2, b3, b4, b5, b6, b7⟩ := hy
  simp only [insE, List.append_assoc] at *
  obtain ⟨e1, h1⟩ := encN_inj ⟨a1, a2⟩ ⟨b1, b2⟩ h
  obtain ⟨e2, h2⟩ := encU_inj (by omega) (by omega) h1
  obtain ⟨e3, h3⟩ := encN_inj ⟨a5, by omega⟩ ⟨b5, by omega⟩ h2
  obtain ⟨e4, h4⟩ := encS_inj a7 b7 h3
  obtain rfl : xc = yc := by omega
  subst e1 e3 e4
  exact ⟨rfl, h4⟩
theorem insL_inj : ∀ {L M : List E}, L.length = M.length → (∀ y ∈ L, EGood y) → (∀ y ∈ M, EGood y) → L.flatMap insE = M.flatMap insE → L = M
  | [], [], _, _, _, _ => rfl
  | [], _ :: _, h, _, _, _ => by simp at h
  | _ :: _, [], h, _, _, _ => by simp at h
  | x :: L, y :: M, h, hL, hM, e => by
    rw [List.flatMap_cons, List.flatMap_cons] at e
    obtain ⟨e1, e2⟩ := insE_inj (hL x (by simp)) (hM y (by simp)) e
    rw [e1, insL_inj (by simpa using h) (fun z hz => hL z (by simp [hz])) (fun z hz => hM z (by simp [hz])) e2]
theorem inL_inj {f t s c n sl ti f2 t2 s2 c2 n2 sl2 ti2 : Nat} {ok ok2 : Bool} {tx tx2 : ByteArray} {L M : List E}
    (h : f < 18446744073709551616 ∧ t < 18446744073709551616 ∧ s < 18446744073709551616 ∧ c < 18446744073709551616 ∧ n ≤ 11 ∧ sl < 18446744073709551616 ∧ ti < 18446744073709551616 ∧ tx.size ≤ 1000 ∧ L.length ≤ 100 ∧ ∀ y ∈ L, EGood y)
    (h' : f2 < 18446744073709551616 ∧ t2 < 18446744073709551616 ∧ s2 < 18446744073709551616 ∧ c2 < 18446744073709551616 ∧ n2 ≤ 11 ∧ sl2 < 18446744073709551616 ∧ ti2 < 18446744073709551616 ∧ tx2.size ≤ 1000 ∧ M.length ≤ 100 ∧ ∀ y ∈ M, EGood y)
    (e : inL f t s c n sl ti ok tx L = inL f2 t2 s2 c2 n2 sl2 ti2 ok2 tx2 M) : f = f2 ∧ t = t2 ∧ s = s2 ∧ c = c2 ∧ n = n2 ∧ sl = sl2 ∧ ti = ti2 ∧ ok = ok2 ∧ tx = tx2 ∧ L = M := by
  obtain ⟨a1, a2, a3, a4, a5, a6, a7, a8, a9, a10⟩ := h
  obtain ⟨b1, b2, b3, b4, b5, b6, b7, b8, b9, b10⟩ := h'
  replace e := ofL_inj e
  simp only [inHead, List.append_assoc] at e
  obtain ⟨e1, q1⟩ := encN_inj (by omega) (by omega) e
  obtain ⟨e2, q2⟩ := encN_inj (by omega) (by omega) q1
  obtain ⟨e3, q3⟩ := encN_inj (by omega) (by omega) q2
  obtain ⟨e4, q4⟩ := encU_inj (by omega) (by omega) q3
  obtain ⟨e5, q5⟩ := encN_inj (by omega) (by omega) q4
  obtain ⟨e6, q6⟩ := encN_inj (by omega) (by omega) q5
  obtain ⟨e7, q7⟩ := encN_inj (by omega) (by omega) q6
  obtain ⟨e8, q8⟩ := encB_inj q7
  obtain ⟨e9, q9⟩ := encS_inj a8 b8 q8
  obtain ⟨e10, q10⟩ := encN_inj (by omega) (by omega) q9
  exact ⟨by omega, by omega, by omega, e4, by omega, by omega, by omega, e8, e9, insL_inj (by omega) a10 b10 q10⟩
end Go.Proofs.Ytihhfdkcggnjpaa
