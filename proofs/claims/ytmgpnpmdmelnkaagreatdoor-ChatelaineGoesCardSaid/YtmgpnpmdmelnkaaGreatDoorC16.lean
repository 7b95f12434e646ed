import Derived.Test.YtmgpnpmdmelnkaaGreatDoorK1
import Derived.WalkKit
import Derived.ProofKit
import Derived.LoopTactic
import Derived.Outline
import Derived.WalkSpells
import Derived.WalkLawsBesides
import Derived.Lib.Hide
import Derived.Deep.LoopGhost
import Derived.Deep.QuietTactic
import Derived.BigQuiet
import Derived.ShutString
import Derived.OpenShut
import Derived.ChangeOld
import Derived.Deep.Slices
import Derived.Deep.Fields
namespace Go.Proofs.YtmgpnpmdmelnkaaGreatDoor
open Go.ChangeShapes Go.WideShapes Go.ChangeAt Go.RowKit Go.Deep
/-- Ways through a region that meet again: what follows is proved once, of any world of which S holds. -/
theorem cutS {G : World → Prop} {Q : Prop} (S : World → Prop) (main : (∀ w, S w → G w) → Q) (rest : ∀ w, S w → G w) : Q := main rest
theorem cutS3 {G : Nat → Nat → Nat → World → Prop} {Q : Prop} (S : Nat → Nat → Nat → World → Prop) (main : (∀ p q r w, S p q r w → G p q r w) → Q) (rest : ∀ p q r w, S p q r w → G p q r w) : Q := main rest
section
variable {H : Type} {enc : TypeId × Value → H} {P : Program} {w : World} {base : Nat} {spare : Nat → Bool} {held : Bool}
/-- A field of a struct reads as its type says. -/
theorem trod_field {t : TypeId} {fs : Array Field} {fuel : Nat} {cs : List Value} {x : DataW H × List MemPlace} (ht : P.underlying t = some (.struct fs)) (h : DataW.trod enc P w base spare held fuel t cs = some x) (i : Nat) (f : Field) (hf : fs[i]? = some f) :
    ∃ n y, DataW.trod enc P w base spare held n f.type ((cs.drop f.offset).take (P.cellsOf f.type)) = some y := by
  obtain ⟨ys, n, _, _, hlen, hyl, hg⟩ := DataW.trod_struct ht h
  have h1 := hg i f hf
  have hil : i < fs.size := (Array.getElem?_eq_some_iff.1 hf).1
  rw [List.getElem?_eq_getElem (by omega)] at h1
  exact ⟨n, _, h1⟩
theorem trod_len {t : TypeId} {fs : Array Field} {fuel : Nat} {cs : List Value} {x : DataW H × List MemPlace} (ht : P.underlying t = some (.struct fs)) (h : DataW.trod enc P w base spare held fuel t cs = some x) : cs.length = P.cellsOf t := by
  obtain ⟨ys, n, _, _, hlen, hyl, hg⟩ := DataW.trod_struct ht h
  exact hlen
theorem field_int {t : TypeId} {fs : Array Field} {fuel : Nat} {cs : List Value} {x : DataW H × List MemPlace} {k : IntKind} (ht : P.underlying t = some (.struct fs)) (h : DataW.trod enc P w base spare held fuel t cs = some x) (i : Nat) (f : Field) (hf : fs[i]? = some f)
    (ho : f.offset = i) (hc : P.cellsOf f.type = 1) (he : P.underlying f.type = some (.int k)) (c : Value) (hcs : cs[i]? = some c) : ∃ a : Int, (Lit.int k a).wf = true ∧ c = .int k a := by
  obtain ⟨n, y, h1⟩ := trod_field ht h i f hf
  obtain ⟨hcl, hce⟩ := List.getElem?_eq_some_iff.1 hcs
  rw [ho, hc, List.drop_eq_getElem_cons hcl, hce] at h1
  obtain ⟨a, ha, _, wa⟩ := DataW.trod_int he h1
  simp at ha
  exact ⟨a, wa, ha⟩
/-- Two numbers, a struct's cells. -/
theorem two_ints {t : TypeId} {f0 f1 : Field} {fuel : Nat} {cs : List Value} {x : DataW H × List MemPlace} {k0 k1 : IntKind} (ht : P.underlying t = some (.struct #[f0, f1])) (h : DataW.trod enc P w base spare held fuel t cs = some x)
    (hC : P.cellsOf t = 2) (o0 : f0.offset = 0) (o1 : f1.offset = 1) (c0 : P.cellsOf f0.type = 1) (c1 : P.cellsOf f1.type = 1) (e0 : P.underlying f0.type = some (.int k0)) (e1 : P.underlying f1.type = some (.int k1)) :
    ∃ a b : Int, (Lit.int k0 a).wf = true ∧ (Lit.int k1 b).wf = true ∧ cs = [.int k0 a, .int k1 b] := by
  have hl := trod_len ht h
  rw [hC] at hl
  match cs, hl, h with
  | [x0, x1], _, h =>
    obtain ⟨a, wa, ha⟩ := field_int ht h 0 f0 rfl o0 c0 e0 x0 rfl
    obtain ⟨b, wb, hb⟩ := field_int ht h 1 f1 rfl o1 c1 e1 x1 rfl
    exact ⟨a, b, wa, wb, by rw [ha, hb]⟩
/-- Two numbers, by value. -/
theorem open_two {r : Reach} {b0 : Nat} {t : TypeId} {f0 f1 : Field} {v : Value} {d : DataW H} {p : List MemPlace} {k0 k1 : IntKind} (ht : P.underlying t = some (.struct #[f0, f1])) (hv : Value.okWide P w r b0 t v) (h : DataW.Trod enc P w base spare held t v d p)
    (hC : P.cellsOf t = 2) (o0 : f0.offset = 0) (o1 : f1.offset = 1) (c0 : P.cellsOf f0.type = 1) (c1 : P.cellsOf f1.type = 1) (e0 : P.underlying f0.type = some (.int k0)) (e1 : P.underlying f1.type = some (.int k1)) :
    ∃ a b : Int, (Lit.int k0 a).wf = true ∧ (Lit.int k1 b).wf = true ∧ v = .agg #[.int k0 a, .int k1 b] := by
  obtain ⟨cs, rfl, hsz⟩ := okWide_struct ht hv
  obtain ⟨fuel, hf⟩ := h
  have hcells : (Value.agg cs).cells.toList = cs.toList := by simp [Value.cells]
  rw [hcells] at hf
  obtain ⟨a, b, wa, wb, e⟩ := two_ints ht hf hC o0 o1 c0 c1 e0 e1
  exact ⟨a, b, wa, wb, by rw [← e]⟩
/-- A configuration of the reference, by value. -/
theorem open_cfg {r : Reach} {b0 : Nat} {t k : TypeId} {f0 f1 f2 f3 f4 g0 g1 : Field} {v : Value} {d : DataW H} {p : List MemPlace} (ht : P.underlying t = some (.struct #[f0, f1, f2, f3, f4])) (hk : P.underlying k = some (.struct #[g0, g1])) (hv : Value.okWide P w r b0 t v) (h : DataW.Trod enc P w base spare held t v d p)
    (hC : P.cellsOf t = 7) (hK : P.cellsOf k = 2) (ho : [f0.offset, f1.offset, f2.offset, f3.offset, f4.offset, g0.offset, g1.offset] = [0, 1, 2, 3, 5, 0, 1]) (h3 : f3.type = k) (h4 : f4.type = k)
    (c0 : P.cellsOf f0.type = 1) (c1 : P.cellsOf f1.type = 1) (c2 : P.cellsOf f2.type = 1) (d0 : P.cellsOf g0.type = 1) (d1 : P.cellsOf g1.type = 1)
    (e0 : P.underlying f0.type = some (.int .i64)) (e1 : P.underlying f1.type = some (.int .i64)) (e2 : P.underlying f2.type = some (.int .u32)) (x0 : P.underlying g0.type = some (.int .i64)) (x1 : P.underlying g1.type = some (.int .i64)) :
    ∃ (R Q : Int) (W : Nat) (z1 n1 z2 n2 : Int), W < 4294967296 ∧ v = .agg #[.int .i64 R, .int .i64 Q, .int .u32 W, .int .i64 z1, .int .i64 n1, .int .i64 z2, .int .i64 n2] := by
  obtain ⟨cs, rfl, hsz⟩ := okWide_struct ht hv
  obtain ⟨fuel, hf⟩ := h
  have hcells : (Value.agg cs).cells.toList = cs.toList := by simp [Value.cells]
  rw [hcells] at hf
  simp only [List.cons.injEq, and_true] at ho
  obtain ⟨o0, o1, o2, o3, o4, p0, p1⟩ := ho
  have hl := trod_len ht hf
  rw [hC] at hl
  obtain ⟨l, hll⟩ : ∃ l, cs = List.toArray l := ⟨cs.toList, by simp⟩
  subst hll
  simp only at hl hf
  match l, hl, hf with
  | [y0, y1, y2, y3, y4, y5, y6], _, hf =>
    obtain ⟨a0, _, ha0⟩ := field_int ht hf 0 f0 rfl o0 c0 e0 y0 rfl
    obtain ⟨a1, _, ha1⟩ := field_int ht hf 1 f1 rfl o1 c1 e1 y1 rfl
    obtain ⟨a2, w2, ha2⟩ := field_int ht hf 2 f2 rfl o2 c2 e2 y2 rfl
    obtain ⟨n3, q3, t3⟩ := trod_field ht hf 3 f3 rfl
    obtain ⟨n4, q4, t4⟩ := trod_field ht hf 4 f4 rfl
    rw [o3, h3, hK] at t3
    rw [o4, h4, hK] at t4
    obtain ⟨a3, a4, _, _, ha34⟩ := two_ints hk t3 hK p0 p1 d0 d1 x0 x1
    obtain ⟨a5, a6, _, _, ha56⟩ := two_ints hk t4 hK p0 p1 d0 d1 x0 x1
    simp at ha34 ha56
    obtain ⟨rfl, rfl⟩ := ha34
    obtain ⟨rfl, rfl⟩ := ha56
    subst ha0 ha1 ha2
    have hb := bounds_u32 w2
    obtain ⟨W, rfl⟩ : ∃ W : Nat, a2 = W := ⟨a2.toNat, by omega⟩
    exact ⟨a0, a1, W, _, _, _, _, by omega, rfl⟩
end
end Go.Proofs.YtmgpnpmdmelnkaaGreatDoor
