import Derived.Test.YtihhfdkcggnjpaaM10
import Derived.Test.YtihhfdkcggnjpaaF10j
import Derived.WalkKit
import Derived.ProofKit
import Derived.LoopTactic
import Derived.Outline
import Derived.WalkSpells
import Derived.WalkLawsBesides
import Derived.Lib.Hide
import Derived.Deep.LoopGhost
import Derived.Deep.QuietTactic
import Derived.BigQuiet
import Derived.ShutString
namespace Go.Proofs.Ytihhfdkcggnjpaa
open Enc Bal
set_option linter.unusedVariables false
set_option linter.unusedSimpArgs false
theorem sameE_iff (x y : E) : sameE x y = true ↔ x = y := by
  obtain ⟨a, b, c, d⟩ := x
  obtain ⟨a2, b2, c2, d2⟩ := y
  simp only [sameE, Bool.and_eq_true, beq_iff_eq, E.mk.injEq, toL_iff]
theorem eqLE_iff : ∀ (L M : List E), eqLE L M = true ↔ L = M
  | [], [] => by simp [eqLE]
  | [], _ :: _ => by simp [eqLE]
  | _ :: _, [] => by simp [eqLE]
  | x :: L, y :: M => by rw [eqLE, Bool.and_eq_true, sameE_iff, eqLE_iff L M, List.cons.injEq]
/-- A message of the document. -/
structure Mg where
  kd : Int
  frm : Int
  tt : Int
  sub : Int
  c : Int
  n : Int
  slot : Int
  time : Int
  ok : Bool
  text : ByteArray
  L : List E
def Mg.check (m : Mg) : Int := checkM m.kd m.frm m.tt m.sub m.c m.n m.slot m.time m.text m.L
def Mg.same (a b : Mg) : Bool := sameM a.kd a.frm a.tt a.sub a.c a.n a.slot a.time a.ok a.text a.L b.kd b.frm b.tt b.sub b.c b.n b.slot b.time b.ok b.text b.L
theorem Mg.same_iff (a b : Mg) : a.same b = true ↔ a = b := by
  obtain ⟨k, f, t, s, c, n, sl, ti, ok, tx, L⟩ := a
  obtain ⟨k2, f2, t2, s2, c2, n2, sl2, ti2, ok2, tx2, L2⟩ := b
  simp only [Mg.same, sameM, Bool.and_eq_true, beq_iff_eq, Mg.mk.injEq, toL_iff, eqLE_iff]
  constructor
  · rintro ⟨h1, h2, h3, h4, ⟨h5, h6⟩, h7, h8, h9, h10, h11⟩
    exact ⟨h1, h2, h3, h4, h5, h6, h7, h8, h9, h10, h11⟩
  · rintro ⟨h1, h2, h3, h4, h5, h6, h7, h8, h9, h10, h11⟩
    exact ⟨h1, h2, h3, h4, ⟨h5, h6⟩, h7, h8, h9, h10, h11⟩
theorem Mg.same_self (a : Mg) : a.same a = true := (Mg.same_iff a a).2 rfl
theorem Mg.same_symm (a b : Mg) : a.same b = b.same a := by
  rw [Bool.eq_iff_iff, Mg.same_iff, Mg.same_iff]; exact ⟨Eq.symm, Eq.symm⟩
/-- Few enough, and of numbers that a machine holds. -/
structure Mg.Sm (m : Mg) : Prop where
  w0 : (Lit.int .i64 m.frm).wf = true
  w1 : (Lit.int .i64 m.tt).wf = true
  w2 : (Lit.int .i64 m.sub).wf = true
  w3 : (Lit.int .i64 m.slot).wf = true
  w4 : (Lit.int .i64 m.time).wf = true
  c : 0 ≤ m.c ∧ m.c < 18446744073709551616
  text : m.text.size ≤ 1000
  len : m.L.length ≤ 100
  ent : ∀ y ∈ m.L, (Lit.int .i64 y.slot).wf = true ∧ 0 ≤ y.c ∧ y.c < 18446744073709551616 ∧ y.text.size ≤ 1000
def Mg.inside (m : Mg) : ByteArray := inL m.frm m.tt m.sub m.c.toNat m.n.toNat m.slot m.time m.ok m.text m.L
theorem Mg.ok_of {m : Mg} (h : m.Sm) (hc : m.check = 0) : CheckOk m.kd m.frm m.tt m.sub m.c m.n m.slot m.time m.text m.L ∧ (∀ y ∈ m.L, EOk y) ∧ (∀ y ∈ m.L, EGood y) := by
  have k := checkOk hc
  refine ⟨k, fun y hy => ?_, fun y hy => ?_⟩
  · have e1 := k.ent y hy
    have e2 := h.ent y hy
    exact ⟨e2.1, e2.2.1, e2.2.2.1, e1.2.2.1, e1.2.2.2.1, e2.2.2.2⟩
  · have e1 := k.ent y hy
    have e2 := h.ent y hy
    exact ⟨e1.1, by omega, e2.2.1, e2.2.2.1, e1.2.2.1, e1.2.2.2.1, e2.2.2.2⟩
theorem Mg.same_inside {a b : Mg} (ha : a.Sm) (hb : b.Sm) (ca : a.check = 0) (cb : b.check = 0) : (a.kd == b.kd && (a.inside.toList == b.inside.toList)) = a.same b := by
  rw [Bool.eq_iff_iff, Mg.same_iff, Bool.and_eq_true, beq_iff_eq, beq_iff_eq, toL_iff]
  constructor
  · rintro ⟨h1, h2⟩
    obtain ⟨ka, _, ea⟩ := Mg.ok_of ha ca
    obtain ⟨kb, _, eb⟩ := Mg.ok_of hb cb
    obtain ⟨k, f, t, s, c, n, sl, ti, ok, tx, L⟩ := a
    obtain ⟨k2, f2, t2, s2, c2, n2, sl2, ti2, ok2, tx2, L2⟩ := b
    obtain ⟨p1, p2, p3, p4, p5, p6, p7, p8, p9, p10⟩ := ka
    obtain ⟨q1, q2, q3, q4, q5, q6, q7, q8, q9, q10⟩ := kb
    have da := ha.c
    have db := hb.c
    have ta := ha.text
    have tb := hb.text
    simp only at *
    have nf : ∀ x : Int, 0 ≤ x → ((x.toNat : Nat) : Int) = x := fun x h => by omega
    unfold Mg.inside at h2
    simp only at h2
    rw [← nf f p2.1, ← nf t p3.1, ← nf s p4.1, ← nf sl p6.1, ← nf ti p7.1, ← nf f2 q2.1, ← nf t2 q3.1, ← nf s2 q4.1, ← nf sl2 q6.1, ← nf ti2 q7.1] at h2
    have h := inL_inj ⟨by omega, by omega, by omega, by omega, by omega, by omega, by omega, ta, by omega, ea⟩ ⟨by omega, by omega, by omega, by omega, by omega, by omega, by omega, tb, by omega, eb⟩ h2
    obtain ⟨h3, h4, h5, h6, h7, h8, h9, h10, h11, h12⟩ := h
    subst h10 h11 h12 h1
    congr 1 <;> omega
  · rintro rfl
    exact ⟨rfl, rfl⟩
end Go.Proofs.Ytihhfdkcggnjpaa
