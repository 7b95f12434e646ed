import Derived.Test.YtahohgnkichibaaC05
import Derived.Test.YtahohgnkichibaaC16
import Derived.WalkKit
import Derived.ProofKit
import Derived.LoopTactic
import Derived.Outline
import Derived.WalkSpells
import Derived.WalkLawsBesides
import Derived.Lib.Hide
import Derived.Deep.LoopGhost
import Derived.Deep.QuietTactic
import Derived.BigQuiet
import Derived.ShutString
import Derived.OpenShut
import Derived.ChangeOld
import Derived.Deep.Slices
import Derived.Deep.Fields
namespace Go.Proofs.Ytahohgnkichibaa
open Go.ChangeShapes Go.WideShapes Go.ChangeAt Go.RowKit Go.Deep
set_option linter.unusedVariables false
structure Go15 where
  N : Int
  B : Int
  E : Bool
def Go15.ok (p : Go15) : Prop := (Lit.int .i64 p.N).wf = true ∧ (Lit.int .i64 p.B).wf = true
def Go15At (w : World) (b o : Nat) (p : Go15) : Prop :=
  w.cell? ⟨b, o, none⟩ = some (.int .i64 p.N) ∧ w.cell? ⟨b, o + 1, none⟩ = some (.int .i64 p.B) ∧ w.cell? ⟨b, o + 2, none⟩ = some (.bool p.E)
theorem Go15At.gr {w w' : World} {b o : Nat} {p : Go15} (h : Go15At w b o p) (hg : Gr w w') : Go15At w' b o p :=
  ⟨hg.cell h.1, hg.cell h.2.1, hg.cell h.2.2⟩
def Go15Row (w : World) (a : Option Addr) (L : List Go15) : Prop :=
  L.length ≤ 9223372036854775807 ∧ (∀ p ∈ L, p.ok) ∧ (L = [] ∨ ∃ b off, a = some ⟨b, off, none⟩ ∧ ∀ i (h : i < L.length), Go15At w b (off + i * 3) L[i])
theorem Go15Row.gr {w w' : World} {a : Option Addr} {L : List Go15} (h : Go15Row w a L) (hg : Gr w w') : Go15Row w' a L := by
  obtain ⟨h1, h2, h3⟩ := h
  refine ⟨h1, h2, h3.imp id ?_⟩
  rintro ⟨b, off, rfl, hc⟩
  exact ⟨b, off, rfl, fun i hi => (hc i hi).gr hg⟩
theorem Go15Row.at {w : World} {a : Option Addr} {L : List Go15} (h : Go15Row w a L) (i : Nat) (hi : i < L.length) : ∃ b off, a = some ⟨b, off, none⟩ ∧ b < w.heap.size ∧ Go15At w b (off + i * 3) L[i] ∧ L[i].ok := by
  obtain ⟨_, h2, rfl | ⟨b, off, rfl, hc⟩⟩ := h
  · simp at hi
  · exact ⟨b, off, rfl, cell_lt (hc i hi).1, hc i hi, h2 _ (List.getElem_mem hi)⟩
section
variable {H : Type} {enc : TypeId × Value → H} {P : Program} {w : World} {base : Nat} {spare : Nat → Bool} {held : Bool}
theorem go15_field {t : TypeId} {fs : Array Field} {fuel : Nat} {cs : List Value} {x : DataW H × List MemPlace} (ht : P.underlying t = some (.struct fs)) (h : DataW.trod enc P w base spare held fuel t cs = some x) (i : Nat) (f : Field) (hf : fs[i]? = some f)
    (ho : f.offset = i) (hc : P.cellsOf f.type = 1) (c : Value) (hcs : cs[i]? = some c) : ∃ n y, DataW.trod enc P w base spare held n f.type [c] = some y := by
  obtain ⟨n, y, h1⟩ := trod_field ht h i f hf
  obtain ⟨hcl, hce⟩ := List.getElem?_eq_some_iff.1 hcs
  rw [ho, hc, List.drop_eq_getElem_cons hcl, hce] at h1
  exact ⟨n, y, h1⟩
theorem go15_struct {e : TypeId} {f0 f1 f2 : Field} {fuel : Nat} {cs : List Value} {x : DataW H × List MemPlace} (he : P.underlying e = some (.struct #[f0, f1, f2])) (ho : [f0.offset, f1.offset, f2.offset] = [0, 1, 2]) (hk : [P.cellsOf f0.type, P.cellsOf f1.type, P.cellsOf f2.type] = [1, 1, 1])
    (e0 : P.underlying f0.type = some (.int .i64)) (e1 : P.underlying f1.type = some (.int .i64)) (e2 : P.underlying f2.type = some .bool)
    (hC : P.cellsOf e = 3) (h : DataW.trod enc P w base spare held fuel e cs = some x) :
    ∃ (p : Go15), p.ok ∧ cs = [.int .i64 p.N, .int .i64 p.B, .bool p.E] := by
  have hlen := trod_len he h
  rw [hC] at hlen
  simp only [List.cons.injEq, and_true] at ho hk
  obtain ⟨o0, o1, o2⟩ := ho
  obtain ⟨k0, k1, k2⟩ := hk
  match cs, hlen, h with
  | [c0, c1, c2], _, h =>
    obtain ⟨n0, y0, g0⟩ := go15_field he h 0 f0 rfl o0 k0 c0 rfl
    obtain ⟨n1, y1, g1⟩ := go15_field he h 1 f1 rfl o1 k1 c1 rfl
    obtain ⟨n2, y2, g2⟩ := go15_field he h 2 f2 rfl o2 k2 c2 rfl
    obtain ⟨v0, hv0, _, wv0⟩ := DataW.trod_int e0 g0
    obtain ⟨v1, hv1, _, wv1⟩ := DataW.trod_int e1 g1
    obtain ⟨v2, hv2, _⟩ := DataW.trod_bool e2 g2
    simp only [List.cons.injEq, and_true] at hv0 hv1 hv2
    subst hv0 hv1 hv2
    exact ⟨⟨v0, v1, v2⟩, ⟨wv0, wv1⟩, rfl⟩
theorem go15_open {t e : TypeId} {f0 f1 f2 : Field} {fuel : Nat} {a : Option Addr} {len cap : Nat} {x : DataW H × List MemPlace} (ht : P.underlying t = some (.slice e)) (he : P.underlying e = some (.struct #[f0, f1, f2])) (ho : [f0.offset, f1.offset, f2.offset] = [0, 1, 2]) (hk : [P.cellsOf f0.type, P.cellsOf f1.type, P.cellsOf f2.type] = [1, 1, 1])
    (e0 : P.underlying f0.type = some (.int .i64)) (e1 : P.underlying f1.type = some (.int .i64)) (e2 : P.underlying f2.type = some .bool)
    (hC : P.cellsOf e = 3) (h : DataW.trod enc P w base spare held fuel t (Value.slice a len cap).cells.toList = some x) : ∃ L : List Go15, len = L.length ∧ Go15Row w a L := by
  rcases open_slice ht h with ⟨hcs, _⟩ | ⟨y, l, c, m, n, D, Pl, hcs, _, hl, hm, hmm, _, hi⟩
  · simp [Value.cells] at hcs
    obtain ⟨rfl, rfl, rfl⟩ := hcs
    exact ⟨[], rfl, by simp, by simp, .inl rfl⟩
  · simp [Value.cells] at hcs
    obtain ⟨rfl, rfl, rfl⟩ := hcs
    have hlm : len ≤ m := by rw [hmm]; split <;> omega
    have hmx : cap ≤ 9223372036854775807 := hm
    have each : ∀ i, i < len → ∃ p : Go15, p.ok ∧ w.cell? (y.add (i * 3)) = some (.int .i64 p.N) ∧ w.cell? ((y.add (i * 3)).add 1) = some (.int .i64 p.B) ∧ w.cell? ((y.add (i * 3)).add 2) = some (.bool p.E) := by
      intro i hil
      obtain ⟨cs', hc, htr⟩ := hi i (by omega)
      rw [hC] at hc
      obtain ⟨p, hp, rfl⟩ := go15_struct he ho hk e0 e1 e2 hC htr
      obtain ⟨_, _, hat⟩ := World.cells?_some hc
      refine ⟨p, hp, ?_, hat 1 (by omega), hat 2 (by omega)⟩
      have := hat 0 (by omega)
      simpa [Addr.add] using this
    obtain ⟨L, hL, hq⟩ := list_of_all len _ each
    refine ⟨L, hL.symm, by omega, ?_, ?_⟩
    · intro p hp
      obtain ⟨i, hi', rfl⟩ := List.getElem_of_mem hp
      exact (hq i hi').1
    · rcases Nat.eq_zero_or_pos len with h0 | h0
      · exact .inl (List.length_eq_zero_iff.1 (by omega))
      · obtain ⟨b, off, spot⟩ := y
        have hspot : spot = none := by
          have h1 := (hq 0 (by omega)).2.1
          simpa [Addr.add] using World.cell?_spot h1
        subst hspot
        refine .inr ⟨b, off, rfl, fun i hi' => ?_⟩
        obtain ⟨_, c0, c1, c2⟩ := hq i hi'
        rw [add_none] at c0 c1 c2
        rw [add_none] at c1 c2
        exact ⟨c0, c1, c2⟩
end
end Go.Proofs.Ytahohgnkichibaa
