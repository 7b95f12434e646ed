import Derived.Test.YtkihencimbdoiaaC05
import Derived.Test.YtkihencimbdoiaaC16
import Derived.WalkKit
import Derived.ProofKit
import Derived.LoopTactic
import Derived.Outline
import Derived.WalkSpells
import Derived.WalkLawsBesides
import Derived.Lib.Hide
import Derived.Deep.LoopGhost
import Derived.Deep.QuietTactic
import Derived.BigQuiet
import Derived.ShutString
import Derived.OpenShut
import Derived.ChangeOld
import Derived.Deep.Slices
import Derived.Deep.Fields
namespace Go.Proofs.Ytkihencimbdoiaa
open Go.ChangeShapes Go.WideShapes Go.ChangeAt Go.RowKit Go.Deep
set_option linter.unusedVariables false
structure Act16 where
  k : Int
  fr : Int
  sl : Int
  ti : Int
  nw : Int
  lg : Int
  c : Int
  n : Int
  tx : ByteArray
def Act16.ok (p : Act16) : Prop := (Lit.int .i64 p.k).wf = true ∧ (Lit.int .i64 p.fr).wf = true ∧ (Lit.int .i64 p.sl).wf = true ∧ (Lit.int .i64 p.ti).wf = true ∧ (Lit.int .i64 p.nw).wf = true ∧ (Lit.int .i64 p.lg).wf = true ∧ (Lit.int .u64 p.c).wf = true ∧ (Lit.int .i64 p.n).wf = true ∧ p.tx.size ≤ 9223372036854775807
def Act16At (w : World) (b o : Nat) (p : Act16) : Prop :=
  w.cell? ⟨b, o, none⟩ = some (.int .i64 p.k) ∧ w.cell? ⟨b, o + 1, none⟩ = some (.int .i64 p.fr) ∧ w.cell? ⟨b, o + 2, none⟩ = some (.int .i64 p.sl) ∧ w.cell? ⟨b, o + 3, none⟩ = some (.int .i64 p.ti) ∧ w.cell? ⟨b, o + 4, none⟩ = some (.int .i64 p.nw) ∧ w.cell? ⟨b, o + 5, none⟩ = some (.int .i64 p.lg) ∧ w.cell? ⟨b, o + 6, none⟩ = some (.int .u64 p.c) ∧ w.cell? ⟨b, o + 7, none⟩ = some (.int .i64 p.n) ∧ w.cell? ⟨b, o + 8, none⟩ = some (.string p.tx)
theorem Act16At.gr {w w' : World} {b o : Nat} {p : Act16} (h : Act16At w b o p) (hg : Gr w w') : Act16At w' b o p :=
  ⟨hg.cell h.1, hg.cell h.2.1, hg.cell h.2.2.1, hg.cell h.2.2.2.1, hg.cell h.2.2.2.2.1, hg.cell h.2.2.2.2.2.1, hg.cell h.2.2.2.2.2.2.1, hg.cell h.2.2.2.2.2.2.2.1, hg.cell h.2.2.2.2.2.2.2.2⟩
def Act16Row (w : World) (a : Option Addr) (L : List Act16) : Prop :=
  L.length ≤ 9223372036854775807 ∧ (∀ p ∈ L, p.ok) ∧ (L = [] ∨ ∃ b off, a = some ⟨b, off, none⟩ ∧ ∀ i (h : i < L.length), Act16At w b (off + i * 9) L[i])
theorem Act16Row.gr {w w' : World} {a : Option Addr} {L : List Act16} (h : Act16Row w a L) (hg : Gr w w') : Act16Row w' a L := by
  obtain ⟨h1, h2, h3⟩ := h
  refine ⟨h1, h2, h3.imp id ?_⟩
  rintro ⟨b, off, rfl, hc⟩
  exact ⟨b, off, rfl, fun i hi => (hc i hi).gr hg⟩
theorem Act16Row.at {w : World} {a : Option Addr} {L : List Act16} (h : Act16Row w a L) (i : Nat) (hi : i < L.length) : ∃ b off, a = some ⟨b, off, none⟩ ∧ b < w.heap.size ∧ Act16At w b (off + i * 9) L[i] ∧ L[i].ok := by
  obtain ⟨_, h2, rfl | ⟨b, off, rfl, hc⟩⟩ := h
  · simp at hi
  · exact ⟨b, off, rfl, cell_lt (hc i hi).1, hc i hi, h2 _ (List.getElem_mem hi)⟩
section
variable {H : Type} {enc : TypeId × Value → H} {P : Program} {w : World} {base : Nat} {spare : Nat → Bool} {held : Bool}
theorem act16_field {t : TypeId} {fs : Array Field} {fuel : Nat} {cs : List Value} {x : DataW H × List MemPlace} (ht : P.underlying t = some (.struct fs)) (h : DataW.trod enc P w base spare held fuel t cs = some x) (i : Nat) (f : Field) (hf : fs[i]? = some f)
    (ho : f.offset = i) (hc : P.cellsOf f.type = 1) (c : Value) (hcs : cs[i]? = some c) : ∃ n y, DataW.trod enc P w base spare held n f.type [c] = some y := by
  obtain ⟨n, y, h1⟩ := trod_field ht h i f hf
  obtain ⟨hcl, hce⟩ := List.getElem?_eq_some_iff.1 hcs
  rw [ho, hc, List.drop_eq_getElem_cons hcl, hce] at h1
  exact ⟨n, y, h1⟩
theorem act16_struct {e : TypeId} {f0 f1 f2 f3 f4 f5 f6 f7 g0 g1 : Field} {fuel : Nat} {cs : List Value} {x : DataW H × List MemPlace} (he : P.underlying e = some (.struct #[f0, f1, f2, f3, f4, f5, f6, f7])) (ho : [f0.offset, f1.offset, f2.offset, f3.offset, f4.offset, f5.offset, f6.offset, f7.offset] = [0, 1, 2, 3, 4, 5, 6, 8]) (hk : [P.cellsOf f0.type, P.cellsOf f1.type, P.cellsOf f2.type, P.cellsOf f3.type, P.cellsOf f4.type, P.cellsOf f5.type, P.cellsOf f6.type, P.cellsOf f7.type] = [1, 1, 1, 1, 1, 1, 2, 1]) (hB : P.underlying f6.type = some (.struct #[g0, g1])) (ho2 : [g0.offset, g1.offset] = [0, 1]) (hk2 : [P.cellsOf g0.type, P.cellsOf g1.type] = [1, 1])
    (e0 : P.underlying f0.type = some (.int .i64)) (e1 : P.underlying f1.type = some (.int .i64)) (e2 : P.underlying f2.type = some (.int .i64)) (e3 : P.underlying f3.type = some (.int .i64)) (e4 : P.underlying f4.type = some (.int .i64)) (e5 : P.underlying f5.type = some (.int .i64)) (e6 : P.underlying g0.type = some (.int .u64)) (e7 : P.underlying g1.type = some (.int .i64)) (e8 : P.underlying f7.type = some .string)
    (hC : P.cellsOf e = 9) (h : DataW.trod enc P w base spare held fuel e cs = some x) :
    ∃ (p : Act16), p.ok ∧ cs = [.int .i64 p.k, .int .i64 p.fr, .int .i64 p.sl, .int .i64 p.ti, .int .i64 p.nw, .int .i64 p.lg, .int .u64 p.c, .int .i64 p.n, .string p.tx] := by
  have hlen := trod_len he h
  rw [hC] at hlen
  simp only [List.cons.injEq, and_true] at ho hk
  obtain ⟨o0, o1, o2, o3, o4, o5, o6, o7⟩ := ho
  obtain ⟨k0, k1, k2, k3, k4, k5, k6, k7⟩ := hk
  simp only [List.cons.injEq, and_true] at ho2 hk2
  obtain ⟨p0, p1⟩ := ho2
  obtain ⟨q0, q1⟩ := hk2
  match cs, hlen, h with
  | [c0, c1, c2, c3, c4, c5, c6, c7, c8], _, h =>
    obtain ⟨n0, y0, g10⟩ := act16_field he h 0 f0 rfl o0 k0 c0 rfl
    obtain ⟨v0, hv0, _, wv0⟩ := DataW.trod_int e0 g10
    obtain ⟨n1, y1, g11⟩ := act16_field he h 1 f1 rfl o1 k1 c1 rfl
    obtain ⟨v1, hv1, _, wv1⟩ := DataW.trod_int e1 g11
    obtain ⟨n2, y2, g12⟩ := act16_field he h 2 f2 rfl o2 k2 c2 rfl
    obtain ⟨v2, hv2, _, wv2⟩ := DataW.trod_int e2 g12
    obtain ⟨n3, y3, g13⟩ := act16_field he h 3 f3 rfl o3 k3 c3 rfl
    obtain ⟨v3, hv3, _, wv3⟩ := DataW.trod_int e3 g13
    obtain ⟨n4, y4, g14⟩ := act16_field he h 4 f4 rfl o4 k4 c4 rfl
    obtain ⟨v4, hv4, _, wv4⟩ := DataW.trod_int e4 g14
    obtain ⟨n5, y5, g15⟩ := act16_field he h 5 f5 rfl o5 k5 c5 rfl
    obtain ⟨v5, hv5, _, wv5⟩ := DataW.trod_int e5 g15
    obtain ⟨n6, y6, t6⟩ := trod_field he h 6 f6 rfl
    rw [o6, k6] at t6
    have hC2 : P.cellsOf f6.type = 2 := k6
    obtain ⟨v6, v7, wv6, wv7, hv6⟩ := two_ints hB t6 hC2 p0 p1 q0 q1 e6 e7
    obtain ⟨n7, y7, t7⟩ := trod_field he h 7 f7 rfl
    rw [o7, k7] at t7
    obtain ⟨v8, hv8, _, wv8⟩ := DataW.trod_string e8 t7
    simp at hv6 hv8
    obtain ⟨rfl, rfl⟩ := hv6
    simp only [List.cons.injEq, and_true] at hv0 hv1 hv2 hv3 hv4 hv5
    subst hv0 hv1 hv2 hv3 hv4 hv5 hv8
    exact ⟨⟨v0, v1, v2, v3, v4, v5, v6, v7, v8⟩, ⟨wv0, wv1, wv2, wv3, wv4, wv5, wv6, wv7, wv8⟩, rfl⟩
theorem act16_open {t e : TypeId} {f0 f1 f2 f3 f4 f5 f6 f7 g0 g1 : Field} {fuel : Nat} {a : Option Addr} {len cap : Nat} {x : DataW H × List MemPlace} (ht : P.underlying t = some (.slice e)) (he : P.underlying e = some (.struct #[f0, f1, f2, f3, f4, f5, f6, f7])) (ho : [f0.offset, f1.offset, f2.offset, f3.offset, f4.offset, f5.offset, f6.offset, f7.offset] = [0, 1, 2, 3, 4, 5, 6, 8]) (hk : [P.cellsOf f0.type, P.cellsOf f1.type, P.cellsOf f2.type, P.cellsOf f3.type, P.cellsOf f4.type, P.cellsOf f5.type, P.cellsOf f6.type, P.cellsOf f7.type] = [1, 1, 1, 1, 1, 1, 2, 1]) (hB : P.underlying f6.type = some (.struct #[g0, g1])) (ho2 : [g0.offset, g1.offset] = [0, 1]) (hk2 : [P.cellsOf g0.type, P.cellsOf g1.type] = [1, 1])
    (e0 : P.underlying f0.type = some (.int .i64)) (e1 : P.underlying f1.type = some (.int .i64)) (e2 : P.underlying f2.type = some (.int .i64)) (e3 : P.underlying f3.type = some (.int .i64)) (e4 : P.underlying f4.type = some (.int .i64)) (e5 : P.underlying f5.type = some (.int .i64)) (e6 : P.underlying g0.type = some (.int .u64)) (e7 : P.underlying g1.type = some (.int .i64)) (e8 : P.underlying f7.type = some .string)
    (hC : P.cellsOf e = 9) (h : DataW.trod enc P w base spare held fuel t (Value.slice a len cap).cells.toList = some x) : ∃ L : List Act16, len = L.length ∧ Act16Row w a L := by
  rcases open_slice ht h with ⟨hcs, _⟩ | ⟨y, l, c, m, n, D, Pl, hcs, _, hl, hm, hmm, _, hi⟩
  · simp [Value.cells] at hcs
    obtain ⟨rfl, rfl, rfl⟩ := hcs
    exact ⟨[], rfl, by simp, by simp, .inl rfl⟩
  · simp [Value.cells] at hcs
    obtain ⟨rfl, rfl, rfl⟩ := hcs
    have hlm : len ≤ m := by rw [hmm]; split <;> omega
    have hmx : cap ≤ 9223372036854775807 := hm
    have each : ∀ i, i < len → ∃ p : Act16, p.ok ∧ w.cell? (y.add (i * 9)) = some (.int .i64 p.k) ∧ w.cell? ((y.add (i * 9)).add 1) = some (.int .i64 p.fr) ∧ w.cell? ((y.add (i * 9)).add 2) = some (.int .i64 p.sl) ∧ w.cell? ((y.add (i * 9)).add 3) = some (.int .i64 p.ti) ∧ w.cell? ((y.add (i * 9)).add 4) = some (.int .i64 p.nw) ∧ w.cell? ((y.add (i * 9)).add 5) = some (.int .i64 p.lg) ∧ w.cell? ((y.add (i * 9)).add 6) = some (.int .u64 p.c) ∧ w.cell? ((y.add (i * 9)).add 7) = some (.int .i64 p.n) ∧ w.cell? ((y.add (i * 9)).add 8) = some (.string p.tx) := by
      intro i hil
      obtain ⟨cs', hc, htr⟩ := hi i (by omega)
      rw [hC] at hc
      obtain ⟨p, hp, rfl⟩ := act16_struct he ho hk hB ho2 hk2 e0 e1 e2 e3 e4 e5 e6 e7 e8 hC htr
      obtain ⟨_, _, hat⟩ := World.cells?_some hc
      refine ⟨p, hp, ?_, hat 1 (by omega), hat 2 (by omega), hat 3 (by omega), hat 4 (by omega), hat 5 (by omega), hat 6 (by omega), hat 7 (by omega), hat 8 (by omega)⟩
      have := hat 0 (by omega)
      simpa [Addr.add] using this
    obtain ⟨L, hL, hq⟩ := list_of_all len _ each
    refine ⟨L, hL.symm, by omega, ?_, ?_⟩
    · intro p hp
      obtain ⟨i, hi', rfl⟩ := List.getElem_of_mem hp
      exact (hq i hi').1
    · rcases Nat.eq_zero_or_pos len with h0 | h0
      · exact .inl (List.length_eq_zero_iff.1 (by omega))
      · obtain ⟨b, off, spot⟩ := y
        have hspot : spot = none := by
          have h1 := (hq 0 (by omega)).2.1
          simpa [Addr.add] using World.cell?_spot h1
        subst hspot
        refine .inr ⟨b, off, rfl, fun i hi' => ?_⟩
        obtain ⟨_, c0, c1, c2, c3, c4, c5, c6, c7, c8⟩ := hq i hi'
        rw [add_none] at c0 c1 c2 c3 c4 c5 c6 c7 c8
        rw [add_none] at c1 c2 c3 c4 c5 c6 c7 c8
        exact ⟨c0, c1, c2, c3, c4, c5, c6, c7, c8⟩
end
end Go.Proofs.Ytkihencimbdoiaa
