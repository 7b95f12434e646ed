import Derived.Test.YtfgkgpkaohkehaaGreatDoorK21
import Derived.Test.YtfgkgpkaohkehaaGreatDoorF10j
import Derived.WalkKit
import Derived.ProofKit
import Derived.LoopTactic
import Derived.Outline
import Derived.WalkSpells
import Derived.WalkLawsBesides
import Derived.Lib.Hide
import Derived.Deep.LoopGhost
import Derived.Deep.QuietTactic
import Derived.BigQuiet
import Derived.ShutString
import Derived.IntWalk
import Derived.Deep.RegionHeld3
import Derived.Test.YtfgkgpkaohkehaaGreatDoorK1
import Derived.OpenShut
import Derived.ChangeOld
import Derived.Deep.Slices
import Derived.Deep.Fields
import Derived.Test.YtfgkgpkaohkehaaGreatDoorK14
namespace Go.Proofs.YtfgkgpkaohkehaaGreatDoor
open Enc Bal
set_option linter.unusedVariables false
set_option linter.unusedSimpArgs false
theorem sameE_iff (x y : E) : sameE x y = true ↔ x = y := by
  obtain ⟨a, b, c, d⟩ := x
  obtain ⟨a2, b2, c2, d2⟩ := y
  simp only [sameE, Bool.and_eq_true, beq_iff_eq, E.mk.injEq, toL_iff]
theorem eqLE_iff : ∀ (L M : List E), eqLE L M = true ↔ L = M
  | [], [] => by simp [eqLE]
  | [], _ :: _ => by simp [eqLE]
  | _ :: _, [] => by simp [eqLE]
  | x :: L, y :: M => by rw [eqLE, Bool.and_eq_true, sameE_iff, eqLE_iff L M, List.cons.injEq]
/-- A message of the document. -/
structure Mg where
  kd : Int
  frm : Int
  tt : Int
  sub : Int
  c : Int
  n : Int
  slot : Int
  time : Int
  ok : Bool
  text : ByteArray
  L : List E
def Mg.check (m : Mg) : Int := checkM m.kd m.frm m.tt m.sub m.c m.n m.slot m.time m.text m.L
def Mg.same (a b : Mg) : Bool := sameM a.kd a.frm a.tt a.sub a.c a.n a.slot a.time a.ok a.text a.L b.kd b.frm b.tt b.sub b.c b.n b.slot b.time b.ok b.text b.L
theorem Mg.same_iff (a b : Mg) : a.same b = true ↔ a = b := by
  obtain ⟨k, f, t, s, c, n, sl, ti, ok, tx, L⟩ := a
  obtain ⟨k2, f2, t2, s2, c2, n2, sl2, ti2, ok2, tx2, L2⟩ := b
  simp only [Mg.same, sameM, Bool.and_eq_true, beq_iff_eq, Mg.mk.injEq, toL_iff, eqLE_iff]
  constructor
  · rintro ⟨h1, h2, h3, h4, ⟨h5, h6⟩, h7, h8, h9, h10, h11⟩
    exact ⟨h1, h2, h3, h4, h5, h6, h7, h8, h9, h10, h11⟩
  · rintro ⟨h1, h2, h3, h4, h5, h6, h7, h8, h9, h10, h11⟩
    exact ⟨h1, h2, h3, h4, ⟨h5, h6⟩, h7, h8, h9, h10, h11⟩
theorem Mg.same_self (a : Mg) : a.same a = true := (Mg.same_iff a a).2 rfl
theorem Mg.same_symm (a b : Mg) : a.same b = b.same a := by
  rw [Bool.eq_iff_iff, Mg.same_iff, Mg.same_iff]; exact ⟨Eq.symm, Eq.symm⟩
/-- Few enough, and of numbers that a machine holds. -/
structure Mg.Sm (m : Mg) : Prop where
  w0 : (Lit.int .i64 m.frm).wf = true
  w1 : (Lit.int .i64 m.tt).wf = true
  w2 : (Lit.int .i64 m.sub).wf = true
  w3 : (Lit.int .i64 m.slot).wf = true
  w4 : (Lit.int .i64 m.time).wf = true
  c : 0 ≤ m.c ∧ m.c < 18446744073709551616
  text : m.text.size ≤ 1000
  len : m.L.length ≤ 100
  ent : ∀ y ∈ m.L, (Lit.int .i64 y.slot).wf = true ∧ 0 ≤ y.c ∧ y.c < 18446744073709551616 ∧ y.text.size ≤ 1000
def Mg.inside (m : Mg) : ByteArray := inL m.frm m.tt m.sub m.c.toNat m.n.toNat m.slot m.time m.ok m.text m.L
theorem Mg.ok_of {m : Mg} (h : m.Sm) (hc : m.check = 0) : CheckOk m.kd m.frm m.tt m.sub m.c m.n m.slot m.time m.text m.L ∧ (∀ y ∈ m.L, EOk y) ∧ (∀ y ∈ m.L, EGood y) := by
  have k := checkOk hc
  refine ⟨k, fun y hy => ?_, fun y hy => ?_⟩
  · have e1 := k.ent y hy
    have e2 := h.ent y hy
    exact ⟨e2.1, e2.2.1, e2.2.2.1, e1.2.2.1, e1.2.2.2.1, e2.2.2.2⟩
  · have e1 := k.ent y hy
    have e2 := h.ent y hy
    exact ⟨e1.1, by omega, e2.2.1, e2.2.2.1, e1.2.2.1, e1.2.2.2.1, e2.2.2.2⟩
theorem Mg.same_inside {a b : Mg} (ha : a.Sm) (hb : b.Sm) (ca : a.check = 0) (cb : b.check = 0) : (a.kd == b.kd && (a.inside.toList == b.inside.toList)) = a.same b := by
  rw [Bool.eq_iff_iff, Mg.same_iff, Bool.and_eq_true, beq_iff_eq, beq_iff_eq, toL_iff]
  constructor
  · rintro ⟨h1, h2⟩
    obtain ⟨ka, _, ea⟩ := Mg.ok_of ha ca
    obtain ⟨kb, _, eb⟩ := Mg.ok_of hb cb
    obtain ⟨k, f, t, s, c, n, sl, ti, ok, tx, L⟩ := a
    obtain ⟨k2, f2, t2, s2, c2, n2, sl2, ti2, ok2, tx2, L2⟩ := b
    obtain ⟨p1, p2, p3, p4, p5, p6, p7, p8, p9, p10⟩ := ka
    obtain ⟨q1, q2, q3, q4, q5, q6, q7, q8, q9, q10⟩ := kb
    have da := ha.c
    have db := hb.c
    have ta := ha.text
    have tb := hb.text
    simp only at *
    have nf : ∀ x : Int, 0 ≤ x → ((x.toNat : Nat) : Int) = x := fun x h => by omega
    unfold Mg.inside at h2
    simp only at h2
    rw [← nf f p2.1, ← nf t p3.1, ← nf s p4.1, ← nf sl p6.1, ← nf ti p7.1, ← nf f2 q2.1, ← nf t2 q3.1, ← nf s2 q4.1, ← nf sl2 q6.1, ← nf ti2 q7.1] at h2
    have h := inL_inj ⟨by omega, by omega, by omega, by omega, by omega, by omega, by omega, ta, by omega, ea⟩ ⟨by omega, by omega, by omega, by omega, by omega, by omega, by omega, tb, by omega, eb⟩ h2
    obtain ⟨h3, h4, h5, h6, h7, h8, h9, h10, h11, h12⟩ := h
    subst h10 h11 h12 h1
    congr 1 <;> omega
  · rintro rfl
    exact ⟨rfl, rfl⟩
end Go.Proofs.YtfgkgpkaohkehaaGreatDoor
namespace Go.Proofs.YtfgkgpkaohkehaaGreatDoor
open Go.ChangeShapes Go.WideShapes Go.ChangeAt Go.RowKit
open Enc Bal
set_option linter.unusedVariables false
set_option linter.unusedSimpArgs false
end Go.Proofs.YtfgkgpkaohkehaaGreatDoor
namespace Go.Proofs.YtfgkgpkaohkehaaGreatDoor
open Go.ChangeShapes Go.WideShapes Go.ChangeAt Go.RowKit Go.Deep
/-- Ways through a region that meet again: what follows is proved once, of any world of which S holds. -/
theorem cutS {G : World → Prop} {Q : Prop} (S : World → Prop) (main : (∀ w, S w → G w) → Q) (rest : ∀ w, S w → G w) : Q := main rest
theorem cutS3 {G : Nat → Nat → Nat → World → Prop} {Q : Prop} (S : Nat → Nat → Nat → World → Prop) (main : (∀ p q r w, S p q r w → G p q r w) → Q) (rest : ∀ p q r w, S p q r w → G p q r w) : Q := main rest
section
variable {H : Type} {enc : TypeId × Value → H} {P : Program} {w : World} {base : Nat} {spare : Nat → Bool} {held : Bool}
/-- A field of a struct reads as its type says. -/
theorem trod_field {t : TypeId} {fs : Array Field} {fuel : Nat} {cs : List Value} {x : DataW H × List MemPlace} (ht : P.underlying t = some (.struct fs)) (h : DataW.trod enc P w base spare held fuel t cs = some x) (i : Nat) (f : Field) (hf : fs[i]? = some f) :
    ∃ n y, DataW.trod enc P w base spare held n f.type ((cs.drop f.offset).take (P.cellsOf f.type)) = some y := by
  obtain ⟨ys, n, _, _, hlen, hyl, hg⟩ := DataW.trod_struct ht h
  have h1 := hg i f hf
  have hil : i < fs.size := (Array.getElem?_eq_some_iff.1 hf).1
  rw [List.getElem?_eq_getElem (by omega)] at h1
  exact ⟨n, _, h1⟩
theorem trod_len {t : TypeId} {fs : Array Field} {fuel : Nat} {cs : List Value} {x : DataW H × List MemPlace} (ht : P.underlying t = some (.struct fs)) (h : DataW.trod enc P w base spare held fuel t cs = some x) : cs.length = P.cellsOf t := by
  obtain ⟨ys, n, _, _, hlen, hyl, hg⟩ := DataW.trod_struct ht h
  exact hlen
theorem field_int {t : TypeId} {fs : Array Field} {fuel : Nat} {cs : List Value} {x : DataW H × List MemPlace} {k : IntKind} (ht : P.underlying t = some (.struct fs)) (h : DataW.trod enc P w base spare held fuel t cs = some x) (i : Nat) (f : Field) (hf : fs[i]? = some f)
    (ho : f.offset = i) (hc : P.cellsOf f.type = 1) (he : P.underlying f.type = some (.int k)) (c : Value) (hcs : cs[i]? = some c) : ∃ a : Int, (Lit.int k a).wf = true ∧ c = .int k a := by
  obtain ⟨n, y, h1⟩ := trod_field ht h i f hf
  obtain ⟨hcl, hce⟩ := List.getElem?_eq_some_iff.1 hcs
  rw [ho, hc, List.drop_eq_getElem_cons hcl, hce] at h1
  obtain ⟨a, ha, _, wa⟩ := DataW.trod_int he h1
  simp at ha
  exact ⟨a, wa, ha⟩
/-- Two numbers, a struct's cells. -/
theorem two_ints {t : TypeId} {f0 f1 : Field} {fuel : Nat} {cs : List Value} {x : DataW H × List MemPlace} {k0 k1 : IntKind} (ht : P.underlying t = some (.struct #[f0, f1])) (h : DataW.trod enc P w base spare held fuel t cs = some x)
    (hC : P.cellsOf t = 2) (o0 : f0.offset = 0) (o1 : f1.offset = 1) (c0 : P.cellsOf f0.type = 1) (c1 : P.cellsOf f1.type = 1) (e0 : P.underlying f0.type = some (.int k0)) (e1 : P.underlying f1.type = some (.int k1)) :
    ∃ a b : Int, (Lit.int k0 a).wf = true ∧ (Lit.int k1 b).wf = true ∧ cs = [.int k0 a, .int k1 b] := by
  have hl := trod_len ht h
  rw [hC] at hl
  match cs, hl, h with
  | [x0, x1], _, h =>
    obtain ⟨a, wa, ha⟩ := field_int ht h 0 f0 rfl o0 c0 e0 x0 rfl
    obtain ⟨b, wb, hb⟩ := field_int ht h 1 f1 rfl o1 c1 e1 x1 rfl
    exact ⟨a, b, wa, wb, by rw [ha, hb]⟩
/-- Two numbers, by value. -/
theorem open_two {r : Reach} {b0 : Nat} {t : TypeId} {f0 f1 : Field} {v : Value} {d : DataW H} {p : List MemPlace} {k0 k1 : IntKind} (ht : P.underlying t = some (.struct #[f0, f1])) (hv : Value.okWide P w r b0 t v) (h : DataW.Trod enc P w base spare held t v d p)
    (hC : P.cellsOf t = 2) (o0 : f0.offset = 0) (o1 : f1.offset = 1) (c0 : P.cellsOf f0.type = 1) (c1 : P.cellsOf f1.type = 1) (e0 : P.underlying f0.type = some (.int k0)) (e1 : P.underlying f1.type = some (.int k1)) :
    ∃ a b : Int, (Lit.int k0 a).wf = true ∧ (Lit.int k1 b).wf = true ∧ v = .agg #[.int k0 a, .int k1 b] := by
  obtain ⟨cs, rfl, hsz⟩ := okWide_struct ht hv
  obtain ⟨fuel, hf⟩ := h
  have hcells : (Value.agg cs).cells.toList = cs.toList := by simp [Value.cells]
  rw [hcells] at hf
  obtain ⟨a, b, wa, wb, e⟩ := two_ints ht hf hC o0 o1 c0 c1 e0 e1
  exact ⟨a, b, wa, wb, by rw [← e]⟩
/-- A configuration of the reference, by value. -/
theorem open_cfg {r : Reach} {b0 : Nat} {t k : TypeId} {f0 f1 f2 f3 f4 g0 g1 : Field} {v : Value} {d : DataW H} {p : List MemPlace} (ht : P.underlying t = some (.struct #[f0, f1, f2, f3, f4])) (hk : P.underlying k = some (.struct #[g0, g1])) (hv : Value.okWide P w r b0 t v) (h : DataW.Trod enc P w base spare held t v d p)
    (hC : P.cellsOf t = 7) (hK : P.cellsOf k = 2) (ho : [f0.offset, f1.offset, f2.offset, f3.offset, f4.offset, g0.offset, g1.offset] = [0, 1, 2, 3, 5, 0, 1]) (h3 : f3.type = k) (h4 : f4.type = k)
    (c0 : P.cellsOf f0.type = 1) (c1 : P.cellsOf f1.type = 1) (c2 : P.cellsOf f2.type = 1) (d0 : P.cellsOf g0.type = 1) (d1 : P.cellsOf g1.type = 1)
    (e0 : P.underlying f0.type = some (.int .i64)) (e1 : P.underlying f1.type = some (.int .i64)) (e2 : P.underlying f2.type = some (.int .u32)) (x0 : P.underlying g0.type = some (.int .i64)) (x1 : P.underlying g1.type = some (.int .i64)) :
    ∃ (R Q : Int) (W : Nat) (z1 n1 z2 n2 : Int), W < 4294967296 ∧ v = .agg #[.int .i64 R, .int .i64 Q, .int .u32 W, .int .i64 z1, .int .i64 n1, .int .i64 z2, .int .i64 n2] := by
  obtain ⟨cs, rfl, hsz⟩ := okWide_struct ht hv
  obtain ⟨fuel, hf⟩ := h
  have hcells : (Value.agg cs).cells.toList = cs.toList := by simp [Value.cells]
  rw [hcells] at hf
  simp only [List.cons.injEq, and_true] at ho
  obtain ⟨o0, o1, o2, o3, o4, p0, p1⟩ := ho
  have hl := trod_len ht hf
  rw [hC] at hl
  obtain ⟨l, hll⟩ : ∃ l, cs = List.toArray l := ⟨cs.toList, by simp⟩
  subst hll
  simp only at hl hf
  match l, hl, hf with
  | [y0, y1, y2, y3, y4, y5, y6], _, hf =>
    obtain ⟨a0, _, ha0⟩ := field_int ht hf 0 f0 rfl o0 c0 e0 y0 rfl
    obtain ⟨a1, _, ha1⟩ := field_int ht hf 1 f1 rfl o1 c1 e1 y1 rfl
    obtain ⟨a2, w2, ha2⟩ := field_int ht hf 2 f2 rfl o2 c2 e2 y2 rfl
    obtain ⟨n3, q3, t3⟩ := trod_field ht hf 3 f3 rfl
    obtain ⟨n4, q4, t4⟩ := trod_field ht hf 4 f4 rfl
    rw [o3, h3, hK] at t3
    rw [o4, h4, hK] at t4
    obtain ⟨a3, a4, _, _, ha34⟩ := two_ints hk t3 hK p0 p1 d0 d1 x0 x1
    obtain ⟨a5, a6, _, _, ha56⟩ := two_ints hk t4 hK p0 p1 d0 d1 x0 x1
    simp at ha34 ha56
    obtain ⟨rfl, rfl⟩ := ha34
    obtain ⟨rfl, rfl⟩ := ha56
    subst ha0 ha1 ha2
    have hb := bounds_u32 w2
    obtain ⟨W, rfl⟩ : ∃ W : Nat, a2 = W := ⟨a2.toNat, by omega⟩
    exact ⟨a0, a1, W, _, _, _, _, by omega, rfl⟩
end
end Go.Proofs.YtfgkgpkaohkehaaGreatDoor
namespace Go.Proofs.YtfgkgpkaohkehaaGreatDoor
open Go.ChangeShapes Go.WideShapes Go.ChangeAt Go.RowKit Go.Deep
/-- What holds of each index holds of a list. -/
theorem list_of_all {α : Type} (n : Nat) (Q : Nat → α → Prop) (h : ∀ i, i < n → ∃ x, Q i x) : ∃ l : List α, l.length = n ∧ ∀ i (hi : i < l.length), Q i l[i] := by
  induction n with
  | zero => exact ⟨[], rfl, fun i hi => by simp at hi⟩
  | succ n ih =>
    obtain ⟨l, hl, hq⟩ := ih (fun i hi => h i (by omega))
    obtain ⟨x, hx⟩ := h n (by omega)
    refine ⟨l ++ [x], by simp [hl], fun i hi => ?_⟩
    by_cases hlt : i < l.length
    · rw [List.getElem_append_left hlt]; exact hq i hlt
    · have hin : i = n := by simp at hi; omega
      subst hin
      rw [List.getElem_append_right (by omega)]
      simpa [hl] using hx
theorem add_none (b off j : Nat) : (⟨b, off, none⟩ : Addr).add j = ⟨b, off + j, none⟩ := by unfold Addr.add; split <;> simp_all
/-- A thing that is written or taken. -/
structure PartD where
  K : Int
  U : Nat
  N : Int
  S : ByteArray
def PartD.ok (p : PartD) : Prop := (Lit.int .i64 p.K).wf = true ∧ p.U < 18446744073709551616 ∧ (Lit.int .i64 p.N).wf = true ∧ p.S.size ≤ 9223372036854775807
/-- The cells of a list of parts, four each, lie behind an address. -/
def PartRow (w : World) (a : Option Addr) (L : List PartD) : Prop :=
  L.length ≤ 9223372036854775807 ∧ (∀ p ∈ L, p.ok) ∧ (L = [] ∨ ∃ b off, a = some ⟨b, off, none⟩ ∧ ∀ i (h : i < L.length),
    w.cell? ⟨b, off + i * 4, none⟩ = some (.int .i64 L[i].K) ∧ w.cell? ⟨b, off + i * 4 + 1, none⟩ = some (.int .u64 (L[i].U : Int)) ∧
    w.cell? ⟨b, off + i * 4 + 2, none⟩ = some (.int .i64 L[i].N) ∧ w.cell? ⟨b, off + i * 4 + 3, none⟩ = some (.string L[i].S))
theorem PartRow.gr {w w' : World} {a : Option Addr} {L : List PartD} (h : PartRow w a L) (hg : Gr w w') : PartRow w' a L := by
  obtain ⟨h1, h2, h3⟩ := h
  refine ⟨h1, h2, h3.imp id ?_⟩
  rintro ⟨b, off, rfl, hc⟩
  refine ⟨b, off, rfl, fun i hi => ?_⟩
  obtain ⟨c0, c1, c2, c3⟩ := hc i hi
  exact ⟨hg.cell c0, hg.cell c1, hg.cell c2, hg.cell c3⟩
section
variable {H : Type} {enc : TypeId × Value → H} {P : Program} {w : World} {base : Nat} {spare : Nat → Bool} {held : Bool}
theorem part_struct {e : TypeId} {f0 f1 f2 f3 : Field} {fuel : Nat} {cs : List Value} {x : DataW H × List MemPlace} (he : P.underlying e = some (.struct #[f0, f1, f2, f3])) (hone : oneCellFields P #[f0, f1, f2, f3] = true)
    (e0 : P.underlying f0.type = some (.int .i64)) (e1 : P.underlying f1.type = some (.int .u64)) (e2 : P.underlying f2.type = some (.int .i64)) (e3 : P.underlying f3.type = some .string)
    (hC : P.cellsOf e = 4) (h : DataW.trod enc P w base spare held fuel e cs = some x) :
    ∃ p : PartD, p.ok ∧ cs = [.int .i64 p.K, .int .u64 (p.U : Int), .int .i64 p.N, .string p.S] := by
  obtain ⟨ys, n, _, _, hlen, hyl, hf⟩ := DataW.trod_struct he h
  rw [hC] at hlen
  match cs, hlen with
  | [c0, c1, c2, c3], _ =>
    have get : ∀ (j : Nat) (f : Field), (#[f0, f1, f2, f3] : Array Field)[j]? = some f → ∀ c, [c0, c1, c2, c3][j]? = some c → ∃ y, DataW.trod enc P w base spare held n f.type [c] = some y := by
      intro j f hj c hc
      obtain ⟨ho, hk⟩ := hone_of hone j f hj
      have h1 := hf j f hj
      rw [ho, hk] at h1
      have hjl : j < 4 := (Array.getElem?_eq_some_iff.1 hj).1
      have hys : ys[j]? = some (ys[j]'(by rw [hyl]; exact hjl)) := List.getElem?_eq_getElem _
      have hd : ([c0, c1, c2, c3].drop j).take 1 = [c] := by
        obtain ⟨hcl, hce⟩ := List.getElem?_eq_some_iff.1 hc
        rw [List.drop_eq_getElem_cons hcl, hce]; rfl
      rw [hd, hys] at h1
      exact ⟨_, h1⟩
    obtain ⟨y0, g0⟩ := get 0 f0 rfl c0 rfl
    obtain ⟨y1, g1⟩ := get 1 f1 rfl c1 rfl
    obtain ⟨y2, g2⟩ := get 2 f2 rfl c2 rfl
    obtain ⟨y3, g3⟩ := get 3 f3 rfl c3 rfl
    obtain ⟨K, hK, _, wK⟩ := DataW.trod_int e0 g0
    obtain ⟨U, hU, _, wU⟩ := DataW.trod_int e1 g1
    obtain ⟨N, hN, _, wN⟩ := DataW.trod_int e2 g2
    obtain ⟨S, hS, _, wS⟩ := DataW.trod_string e3 g3
    have hb := bounds_u64 wU
    refine ⟨⟨K, U.toNat, N, S⟩, ⟨wK, by show U.toNat < _; omega, wN, wS⟩, ?_⟩
    simp only [List.cons.injEq, and_true] at hK hU hN hS
    subst hK hU hN hS
    simp only [List.cons.injEq, Value.int.injEq, true_and, and_true]
    omega
theorem parts_open {t e : TypeId} {f0 f1 f2 f3 : Field} {fuel : Nat} {a : Option Addr} {len cap : Nat} {x : DataW H × List MemPlace} (ht : P.underlying t = some (.slice e)) (he : P.underlying e = some (.struct #[f0, f1, f2, f3])) (hone : oneCellFields P #[f0, f1, f2, f3] = true)
    (e0 : P.underlying f0.type = some (.int .i64)) (e1 : P.underlying f1.type = some (.int .u64)) (e2 : P.underlying f2.type = some (.int .i64)) (e3 : P.underlying f3.type = some .string)
    (hC : P.cellsOf e = 4) (h : DataW.trod enc P w base spare held fuel t (Value.slice a len cap).cells.toList = some x) : ∃ L : List PartD, len = L.length ∧ PartRow w a L := by
  rcases open_slice ht h with ⟨hcs, _⟩ | ⟨y, l, c, m, n, D, Pl, hcs, _, hl, hm, hmm, _, hi⟩
  · simp [Value.cells] at hcs
    obtain ⟨rfl, rfl, rfl⟩ := hcs
    exact ⟨[], rfl, by simp, by simp, .inl rfl⟩
  · simp [Value.cells] at hcs
    obtain ⟨rfl, rfl, rfl⟩ := hcs
    have hlm : len ≤ m := by rw [hmm]; split <;> omega
    have hmx : cap ≤ 9223372036854775807 := hm
    have each : ∀ i, i < len → ∃ p : PartD, p.ok ∧ w.cell? (y.add (i * 4)) = some (.int .i64 p.K) ∧ w.cell? ((y.add (i * 4)).add 1) = some (.int .u64 (p.U : Int)) ∧ w.cell? ((y.add (i * 4)).add 2) = some (.int .i64 p.N) ∧ w.cell? ((y.add (i * 4)).add 3) = some (.string p.S) := by
      intro i hil
      obtain ⟨cs', hc, htr⟩ := hi i (by omega)
      rw [hC] at hc
      obtain ⟨p, hp, rfl⟩ := part_struct he hone e0 e1 e2 e3 hC htr
      obtain ⟨_, _, hat⟩ := World.cells?_some hc
      refine ⟨p, hp, ?_, hat 1 (by omega), hat 2 (by omega), hat 3 (by omega)⟩
      have := hat 0 (by omega)
      simpa [Addr.add] using this
    obtain ⟨L, hL, hq⟩ := list_of_all len _ each
    refine ⟨L, hL.symm, by omega, ?_, ?_⟩
    · intro p hp
      obtain ⟨i, hi', rfl⟩ := List.getElem_of_mem hp
      exact (hq i hi').1
    · rcases Nat.eq_zero_or_pos len with h0 | h0
      · exact .inl (List.length_eq_zero_iff.1 (by omega))
      · obtain ⟨b, off, spot⟩ := y
        have hspot : spot = none := by
          have h1 := (hq 0 (by omega)).2.1
          simpa [Addr.add] using World.cell?_spot h1
        subst hspot
        refine .inr ⟨b, off, rfl, fun i hi' => ?_⟩
        obtain ⟨_, c0, c1, c2, c3⟩ := hq i hi'
        rw [add_none] at c0 c1 c2 c3
        rw [add_none] at c1 c2 c3
        exact ⟨c0, c1, c2, c3⟩
end
end Go.Proofs.YtfgkgpkaohkehaaGreatDoor
/- Entries of the document, as an argument holds them, and a message of the document, by value. -/
namespace Go.Proofs.YtfgkgpkaohkehaaGreatDoor
open Go.ChangeShapes Go.WideShapes Go.ChangeAt Go.RowKit Go.Deep
set_option linter.unusedVariables false
def E.wf (p : E) : Prop := (Lit.int .i64 p.slot).wf = true ∧ (Lit.int .u64 p.c).wf = true ∧ (Lit.int .i64 p.n).wf = true ∧ p.text.size ≤ 9223372036854775807
def EAt (w : World) (b o : Nat) (p : E) : Prop :=
  w.cell? ⟨b, o, none⟩ = some (.int .i64 p.slot) ∧ w.cell? ⟨b, o + 1, none⟩ = some (.int .u64 p.c) ∧ w.cell? ⟨b, o + 2, none⟩ = some (.int .i64 p.n) ∧ w.cell? ⟨b, o + 3, none⟩ = some (.string p.text)
theorem EAt.gr {w w' : World} {b o : Nat} {p : E} (h : EAt w b o p) (hg : Gr w w') : EAt w' b o p := ⟨hg.cell h.1, hg.cell h.2.1, hg.cell h.2.2.1, hg.cell h.2.2.2⟩
/-- A row of entries that an argument holds. -/
def ERow (w : World) (a : Option Addr) (L : List E) : Prop :=
  L.length ≤ 9223372036854775807 ∧ (∀ p ∈ L, p.wf) ∧ (L = [] ∨ ∃ b off, a = some ⟨b, off, none⟩ ∧ ∀ i (h : i < L.length), EAt w b (off + i * 4) L[i])
theorem ERow.gr {w w' : World} {a : Option Addr} {L : List E} (h : ERow w a L) (hg : Gr w w') : ERow w' a L := by
  obtain ⟨h1, h2, h3⟩ := h
  refine ⟨h1, h2, h3.imp id ?_⟩
  rintro ⟨b, off, rfl, hc⟩
  exact ⟨b, off, rfl, fun i hi => (hc i hi).gr hg⟩
theorem ERow.take {w : World} {a : Option Addr} {L : List E} (h : ERow w a L) (k : Nat) : ERow w a (L.take k) := by
  obtain ⟨h1, h2, h3⟩ := h
  refine ⟨by rw [List.length_take]; omega, fun p hp => h2 p (List.mem_of_mem_take hp), ?_⟩
  rcases h3 with rfl | ⟨b, off, rfl, hc⟩
  · exact .inl (by simp)
  · refine .inr ⟨b, off, rfl, fun i hi => ?_⟩
    rw [List.length_take] at hi
    have := hc i (by omega)
    rwa [List.getElem_take]
/-- The cells of such a row, one by one. -/
theorem ERow.cells {w : World} {a : Option Addr} {L : List E} (h : ERow w a L) (h0 : 0 < L.length) : ∃ b off, a = some ⟨b, off, none⟩ ∧ ∀ j u, (rcells encE L)[j]? = some u → w.cell? ((⟨b, off, none⟩ : Addr).add j) = some u := by
  obtain ⟨_, _, rfl | ⟨b, off, rfl, hc⟩⟩ := h
  · simp at h0
  · refine ⟨b, off, rfl, fun j u hj => ?_⟩
    rw [addr_add]
    have hl := rcells_len encE_len L
    have hjl : j < L.length * 4 := by rw [← hl]; exact (List.getElem?_eq_some_iff.1 hj).1
    obtain ⟨i, r, hr, rfl⟩ : ∃ i r, r < 4 ∧ j = i * 4 + r := ⟨j / 4, j % 4, Nat.mod_lt _ (by decide), by omega⟩
    have hi : i < L.length := by omega
    rw [rcells_at encE_len L i hi r hr] at hj
    obtain ⟨c0, c1, c2, c3⟩ := hc i hi
    match r, hr, hj with
    | 0, _, hj => simp [encE] at hj; subst hj; exact c0
    | 1, _, hj => simp [encE] at hj; subst hj; exact c1
    | 2, _, hj => simp [encE] at hj; subst hj; exact c2
    | 3, _, hj => simp [encE] at hj; subst hj; exact c3
section
variable {H : Type} {enc : TypeId × Value → H} {P : Program} {w : World} {base : Nat} {spare : Nat → Bool} {held : Bool}
theorem ent_field {t : TypeId} {fs : Array Field} {fuel : Nat} {cs : List Value} {x : DataW H × List MemPlace} (ht : P.underlying t = some (.struct fs)) (h : DataW.trod enc P w base spare held fuel t cs = some x) (i o : Nat) (f : Field) (hf : fs[i]? = some f)
    (ho : f.offset = o) (hc : P.cellsOf f.type = 1) (c : Value) (hcs : cs[o]? = some c) : ∃ n y, DataW.trod enc P w base spare held n f.type [c] = some y := by
  obtain ⟨n, y, h1⟩ := trod_field ht h i f hf
  obtain ⟨hcl, hce⟩ := List.getElem?_eq_some_iff.1 hcs
  rw [ho, hc, List.drop_eq_getElem_cons hcl, hce] at h1
  exact ⟨n, y, h1⟩
theorem ent_struct {e : TypeId} {f0 f1 f2 g0 g1 : Field} {fuel : Nat} {cs : List Value} {x : DataW H × List MemPlace} (he : P.underlying e = some (.struct #[f0, f1, f2])) (ho : [f0.offset, f1.offset, f2.offset] = [0, 1, 3]) (hk : [P.cellsOf f0.type, P.cellsOf f1.type, P.cellsOf f2.type] = [1, 2, 1]) (hB : P.underlying f1.type = some (.struct #[g0, g1])) (ho2 : [g0.offset, g1.offset] = [0, 1]) (hk2 : [P.cellsOf g0.type, P.cellsOf g1.type] = [1, 1])
    (e0 : P.underlying f0.type = some (.int .i64)) (e1 : P.underlying g0.type = some (.int .u64)) (e2 : P.underlying g1.type = some (.int .i64)) (e3 : P.underlying f2.type = some .string)
    (hC : P.cellsOf e = 4) (h : DataW.trod enc P w base spare held fuel e cs = some x) :
    ∃ (p : E), p.wf ∧ cs = [.int .i64 p.slot, .int .u64 p.c, .int .i64 p.n, .string p.text] := by
  have hlen := trod_len he h
  rw [hC] at hlen
  simp only [List.cons.injEq, and_true] at ho hk ho2 hk2
  obtain ⟨o0, o1, o2⟩ := ho
  obtain ⟨k0, k1, k2⟩ := hk
  obtain ⟨p0, p1⟩ := ho2
  obtain ⟨q0, q1⟩ := hk2
  match cs, hlen, h with
  | [c0, c1, c2, c3], _, h =>
    obtain ⟨n0, y0, g10⟩ := ent_field he h 0 0 f0 rfl o0 k0 c0 rfl
    obtain ⟨v0, hv0, _, wv0⟩ := DataW.trod_int e0 g10
    obtain ⟨n1, y1, t1⟩ := trod_field he h 1 f1 rfl
    rw [o1, k1] at t1
    obtain ⟨v1, v2, wv1, wv2, hv1⟩ := two_ints hB t1 k1 p0 p1 q0 q1 e1 e2
    obtain ⟨n2, y2, t2⟩ := ent_field he h 2 3 f2 rfl o2 k2 c3 rfl
    obtain ⟨v3, hv3, _, wv3⟩ := DataW.trod_string e3 t2
    simp at hv1 hv3
    obtain ⟨rfl, rfl⟩ := hv1
    simp only [List.cons.injEq, and_true] at hv0
    subst hv0 hv3
    exact ⟨⟨v0, v1, v2, v3⟩, ⟨wv0, wv1, wv2, wv3⟩, rfl⟩
theorem ents_open {t e : TypeId} {f0 f1 f2 g0 g1 : Field} {fuel : Nat} {c : Value} {x : DataW H × List MemPlace} (ht : P.underlying t = some (.slice e)) (he : P.underlying e = some (.struct #[f0, f1, f2])) (ho : [f0.offset, f1.offset, f2.offset] = [0, 1, 3]) (hk : [P.cellsOf f0.type, P.cellsOf f1.type, P.cellsOf f2.type] = [1, 2, 1]) (hB : P.underlying f1.type = some (.struct #[g0, g1])) (ho2 : [g0.offset, g1.offset] = [0, 1]) (hk2 : [P.cellsOf g0.type, P.cellsOf g1.type] = [1, 1])
    (e0 : P.underlying f0.type = some (.int .i64)) (e1 : P.underlying g0.type = some (.int .u64)) (e2 : P.underlying g1.type = some (.int .i64)) (e3 : P.underlying f2.type = some .string)
    (hC : P.cellsOf e = 4) (h : DataW.trod enc P w base spare held fuel t [c] = some x) : ∃ (L : List E) (a : Option Addr) (cap : Nat), c = .slice a L.length cap ∧ ERow w a L ∧ L.length ≤ cap := by
  rcases open_slice ht h with ⟨hcs, _⟩ | ⟨y, l, cp, m, n, D, Pl, hcs, _, hl, hm, hmm, _, hi⟩
  · simp only [List.cons.injEq, and_true] at hcs
    subst hcs
    exact ⟨[], none, 0, rfl, ⟨by simp, by simp, .inl rfl⟩, by simp⟩
  · simp only [List.cons.injEq, and_true] at hcs
    subst hcs
    have hlm : l ≤ m := by rw [hmm]; split <;> omega
    have hmx : cp ≤ 9223372036854775807 := hm
    have each : ∀ i, i < l → ∃ p : E, p.wf ∧ w.cell? (y.add (i * 4)) = some (.int .i64 p.slot) ∧ w.cell? ((y.add (i * 4)).add 1) = some (.int .u64 p.c) ∧ w.cell? ((y.add (i * 4)).add 2) = some (.int .i64 p.n) ∧ w.cell? ((y.add (i * 4)).add 3) = some (.string p.text) := by
      intro i hil
      obtain ⟨cs', hc, htr⟩ := hi i (by omega)
      rw [hC] at hc
      obtain ⟨p, hp, rfl⟩ := ent_struct he ho hk hB ho2 hk2 e0 e1 e2 e3 hC htr
      obtain ⟨_, _, hat⟩ := World.cells?_some hc
      refine ⟨p, hp, ?_, hat 1 (by omega), hat 2 (by omega), hat 3 (by omega)⟩
      have := hat 0 (by omega)
      simpa [Addr.add] using this
    obtain ⟨L, hL, hq⟩ := list_of_all l _ each
    subst hL
    refine ⟨L, some y, cp, rfl, ⟨by omega, ?_, ?_⟩, hl⟩
    · intro p hp
      obtain ⟨i, hi', rfl⟩ := List.getElem_of_mem hp
      exact (hq i hi').1
    · rcases Nat.eq_zero_or_pos L.length with h0 | h0
      · exact .inl (List.length_eq_zero_iff.1 (by omega))
      · obtain ⟨b, off, spot⟩ := y
        have hspot : spot = none := by
          have h1 := (hq 0 (by omega)).2.1
          simpa [Addr.add] using World.cell?_spot h1
        subst hspot
        refine .inr ⟨b, off, rfl, fun i hi' => ?_⟩
        obtain ⟨_, c0, c1, c2, c3⟩ := hq i hi'
        rw [add_none] at c0 c1 c2 c3
        rw [add_none] at c1 c2 c3
        exact ⟨c0, c1, c2, c3⟩
/-- A message of the document, by value. -/
theorem open_msg10 {r : Reach} {b0 : Nat} {t s e : TypeId} {f0 f1 f2 f3 f4 f5 f6 f7 f8 f9 b1 b2 h0 h1 h2 : Field} {v : Value} {d : DataW H} {p : List MemPlace} (ht : P.underlying t = some (.struct #[f0, f1, f2, f3, f4, f5, f6, f7, f8, f9])) (hs1 : f9.type = s) (hs : P.underlying s = some (.slice e)) (he : P.underlying e = some (.struct #[h0, h1, h2]))
    (hv : Value.okWide P w r b0 t v) (h : DataW.Trod enc P w base spare held t v d p)
    (hC : P.cellsOf t = 11) (ho : [f0.offset, f1.offset, f2.offset, f3.offset, f4.offset, f5.offset, f6.offset, f7.offset, f8.offset, f9.offset] = [0, 1, 2, 3, 4, 6, 7, 8, 9, 10])
    (hk0 : [P.cellsOf f0.type, P.cellsOf f1.type, P.cellsOf f2.type, P.cellsOf f3.type, P.cellsOf f4.type, P.cellsOf f5.type, P.cellsOf f6.type, P.cellsOf f7.type, P.cellsOf f8.type, P.cellsOf f9.type] = [1, 1, 1, 1, 2, 1, 1, 1, 1, 1])
    (hi : [P.underlying f0.type, P.underlying f1.type, P.underlying f2.type, P.underlying f3.type, P.underlying f5.type, P.underlying f6.type] = List.replicate 6 (some (.int .i64))) (hbo : P.underlying f7.type = some .bool) (hst : P.underlying f8.type = some .string)
    (ho1 : [h0.offset, h1.offset, h2.offset] = [0, 1, 3]) (hk : [P.cellsOf h0.type, P.cellsOf h1.type, P.cellsOf h2.type] = [1, 2, 1]) (hB : P.underlying h1.type = some (.struct #[b1, b2])) (hB4 : P.underlying f4.type = some (.struct #[b1, b2])) (ho2 : [b1.offset, b2.offset] = [0, 1]) (hk2 : [P.cellsOf b1.type, P.cellsOf b2.type] = [1, 1])
    (e0 : P.underlying h0.type = some (.int .i64)) (e1 : P.underlying b1.type = some (.int .u64)) (e2 : P.underlying b2.type = some (.int .i64)) (e3 : P.underlying h2.type = some .string) (hE : P.cellsOf e = 4) :
    ∃ (kd frm tt sub c n slot time : Int) (ok : Bool) (text : ByteArray) (L : List E) (a : Option Addr) (cap : Nat), v = .agg #[.int .i64 kd, .int .i64 frm, .int .i64 tt, .int .i64 sub, .int .u64 c, .int .i64 n, .int .i64 slot, .int .i64 time, .bool ok, .string text, .slice a L.length cap] ∧
      (Lit.int .i64 kd).wf = true ∧ (Lit.int .i64 frm).wf = true ∧ (Lit.int .i64 tt).wf = true ∧ (Lit.int .i64 sub).wf = true ∧ (Lit.int .u64 c).wf = true ∧ (Lit.int .i64 n).wf = true ∧ (Lit.int .i64 slot).wf = true ∧ (Lit.int .i64 time).wf = true ∧ text.size ≤ 9223372036854775807 ∧ ERow w a L ∧ L.length ≤ cap := by
  obtain ⟨cs, rfl, hsz⟩ := okWide_struct ht hv
  obtain ⟨fuel, hf⟩ := h
  have hcells : (Value.agg cs).cells.toList = cs.toList := by simp [Value.cells]
  rw [hcells] at hf
  simp only [List.cons.injEq, and_true] at ho hk0
  simp only [List.replicate, List.cons.injEq, and_true] at hi
  obtain ⟨o0, o1, o2, o3, o4, o5, o6, o7, o8, o9⟩ := ho
  obtain ⟨k0, k1, k2, k3, k4, k5, k6, k7, k8, k9⟩ := hk0
  obtain ⟨i0, i1, i2, i3, i5, i6⟩ := hi
  have hl := trod_len ht hf
  rw [hC] at hl
  obtain ⟨l, hll⟩ : ∃ l, cs = List.toArray l := ⟨cs.toList, by simp⟩
  subst hll
  simp only at hl hf
  match l, hl, hf with
  | [y0, y1, y2, y3, y4, y5, y6, y7, y8, y9, y10], _, hf =>
    obtain ⟨_, _, t0⟩ := ent_field ht hf 0 0 f0 rfl o0 k0 y0 rfl
    obtain ⟨v0, hv0, _, w0⟩ := DataW.trod_int i0 t0
    obtain ⟨_, _, t1⟩ := ent_field ht hf 1 1 f1 rfl o1 k1 y1 rfl
    obtain ⟨v1, hv1, _, w1⟩ := DataW.trod_int i1 t1
    obtain ⟨_, _, t2⟩ := ent_field ht hf 2 2 f2 rfl o2 k2 y2 rfl
    obtain ⟨v2, hv2, _, w2⟩ := DataW.trod_int i2 t2
    obtain ⟨_, _, t3⟩ := ent_field ht hf 3 3 f3 rfl o3 k3 y3 rfl
    obtain ⟨v3, hv3, _, w3⟩ := DataW.trod_int i3 t3
    obtain ⟨_, _, t4⟩ := trod_field ht hf 4 f4 rfl
    rw [o4, k4] at t4
    have ho2' := ho2
    have hk2' := hk2
    simp only [List.cons.injEq, and_true] at ho2' hk2'
    obtain ⟨v4, v5, w4, w5, hv4⟩ := two_ints hB4 t4 k4 ho2'.1 ho2'.2 hk2'.1 hk2'.2 e1 e2
    obtain ⟨_, _, t5⟩ := ent_field ht hf 5 6 f5 rfl o5 k5 y6 rfl
    obtain ⟨v6, hv6, _, w6⟩ := DataW.trod_int i5 t5
    obtain ⟨_, _, t6⟩ := ent_field ht hf 6 7 f6 rfl o6 k6 y7 rfl
    obtain ⟨v7, hv7, _, w7⟩ := DataW.trod_int i6 t6
    obtain ⟨_, _, t7⟩ := ent_field ht hf 7 8 f7 rfl o7 k7 y8 rfl
    obtain ⟨v8, hv8, _⟩ := DataW.trod_bool hbo t7
    obtain ⟨_, _, t8⟩ := ent_field ht hf 8 9 f8 rfl o8 k8 y9 rfl
    obtain ⟨v9, hv9, _, w9⟩ := DataW.trod_string hst t8
    obtain ⟨_, _, t9⟩ := ent_field ht hf 9 10 f9 rfl o9 k9 y10 rfl
    rw [hs1] at t9
    obtain ⟨L, a, cap, hv10, hL, hcap⟩ := ents_open hs he ho1 hk hB ho2 hk2 e0 e1 e2 e3 hE t9
    simp only [List.drop_succ_cons, List.drop_zero, List.take_succ_cons, List.take_zero, List.cons.injEq, and_true] at hv0 hv1 hv2 hv3 hv4 hv6 hv7 hv8 hv9
    obtain ⟨rfl, rfl⟩ := hv4
    subst hv0 hv1 hv2 hv3 hv6 hv7 hv8 hv9 hv10
    exact ⟨v0, v1, v2, v3, v4, v5, v6, v7, v8, v9, L, a, cap, rfl, w0, w1, w2, w3, w4, w5, w6, w7, w9, hL, hcap⟩
end
end Go.Proofs.YtfgkgpkaohkehaaGreatDoor
