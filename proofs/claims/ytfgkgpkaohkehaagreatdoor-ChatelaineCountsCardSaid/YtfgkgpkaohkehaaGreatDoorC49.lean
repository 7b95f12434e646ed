import Derived.Test.YtfgkgpkaohkehaaGreatDoorK22
import Derived.Test.YtfgkgpkaohkehaaGreatDoorK23
import Derived.WalkKit
import Derived.ProofKit
import Derived.LoopTactic
import Derived.Outline
import Derived.WalkSpells
import Derived.WalkLawsBesides
import Derived.Lib.Hide
import Derived.Deep.LoopGhost
import Derived.Deep.QuietTactic
import Derived.BigQuiet
import Derived.ShutString
import Derived.OpenShut
import Derived.ChangeOld
import Derived.Deep.Slices
import Derived.Deep.Fields
/- Messages of the document, as an argument holds them in a row. -/
namespace Go.Proofs.YtfgkgpkaohkehaaGreatDoor
open Go.ChangeShapes Go.WideShapes Go.ChangeAt Go.RowKit Go.Deep
set_option linter.unusedVariables false
structure AM where
  m : Mg
  a : Option Addr
  cap : Nat
def AM.ok (w : World) (p : AM) : Prop := p.m.Wf ∧ ERow w p.a p.m.L ∧ p.m.L.length ≤ p.cap
def AMAt (w : World) (b o : Nat) (p : AM) : Prop :=
  w.cell? ⟨b, o, none⟩ = some (.int .i64 p.m.kd) ∧ w.cell? ⟨b, o + 1, none⟩ = some (.int .i64 p.m.frm) ∧ w.cell? ⟨b, o + 2, none⟩ = some (.int .i64 p.m.tt) ∧ w.cell? ⟨b, o + 3, none⟩ = some (.int .i64 p.m.sub) ∧ w.cell? ⟨b, o + 4, none⟩ = some (.int .u64 p.m.c) ∧ w.cell? ⟨b, o + 5, none⟩ = some (.int .i64 p.m.n) ∧ w.cell? ⟨b, o + 6, none⟩ = some (.int .i64 p.m.slot) ∧ w.cell? ⟨b, o + 7, none⟩ = some (.int .i64 p.m.time) ∧ w.cell? ⟨b, o + 8, none⟩ = some (.bool p.m.ok) ∧ w.cell? ⟨b, o + 9, none⟩ = some (.string p.m.text) ∧ w.cell? ⟨b, o + 10, none⟩ = some (.slice p.a p.m.L.length p.cap)
theorem AMAt.gr {w w' : World} {b o : Nat} {p : AM} (h : AMAt w b o p) (hg : Gr w w') : AMAt w' b o p :=
  ⟨hg.cell h.1, hg.cell h.2.1, hg.cell h.2.2.1, hg.cell h.2.2.2.1, hg.cell h.2.2.2.2.1, hg.cell h.2.2.2.2.2.1, hg.cell h.2.2.2.2.2.2.1, hg.cell h.2.2.2.2.2.2.2.1, hg.cell h.2.2.2.2.2.2.2.2.1, hg.cell h.2.2.2.2.2.2.2.2.2.1, hg.cell h.2.2.2.2.2.2.2.2.2.2⟩
theorem AM.ok.gr {w w' : World} {p : AM} (h : p.ok w) (hg : Gr w w') : p.ok w' := ⟨h.1, h.2.1.gr hg, h.2.2⟩
def AMRow (w : World) (a : Option Addr) (L : List AM) : Prop :=
  L.length ≤ 9223372036854775807 ∧ (∀ p ∈ L, p.ok w) ∧ (L = [] ∨ ∃ b off, a = some ⟨b, off, none⟩ ∧ ∀ i (h : i < L.length), AMAt w b (off + i * 11) L[i])
theorem AMRow.gr {w w' : World} {a : Option Addr} {L : List AM} (h : AMRow w a L) (hg : Gr w w') : AMRow w' a L := by
  obtain ⟨h1, h2, h3⟩ := h
  refine ⟨h1, fun p hp => (h2 p hp).gr hg, h3.imp id ?_⟩
  rintro ⟨b, off, rfl, hc⟩
  exact ⟨b, off, rfl, fun i hi => (hc i hi).gr hg⟩
theorem AMRow.at {w : World} {a : Option Addr} {L : List AM} (h : AMRow w a L) (i : Nat) (hi : i < L.length) : ∃ b off, a = some ⟨b, off, none⟩ ∧ b < w.heap.size ∧ AMAt w b (off + i * 11) L[i] ∧ L[i].ok w := by
  obtain ⟨_, h2, rfl | ⟨b, off, rfl, hc⟩⟩ := h
  · simp at hi
  · exact ⟨b, off, rfl, cell_lt (hc i hi).1, hc i hi, h2 _ (List.getElem_mem hi)⟩
section
variable {H : Type} {enc : TypeId × Value → H} {P : Program} {w : World} {base : Nat} {spare : Nat → Bool} {held : Bool}
theorem am_struct {t s e : TypeId} {f0 f1 f2 f3 f4 f5 f6 f7 f8 f9 b1 b2 h0 h1 h2 : Field} {fuel : Nat} {cs : List Value} {x : DataW H × List MemPlace} (ht : P.underlying t = some (.struct #[f0, f1, f2, f3, f4, f5, f6, f7, f8, f9])) (hs1 : f9.type = s) (hs : P.underlying s = some (.slice e)) (he : P.underlying e = some (.struct #[h0, h1, h2]))
    (hf : DataW.trod enc P w base spare held fuel t cs = some x)
    (hC : P.cellsOf t = 11) (ho : [f0.offset, f1.offset, f2.offset, f3.offset, f4.offset, f5.offset, f6.offset, f7.offset, f8.offset, f9.offset] = [0, 1, 2, 3, 4, 6, 7, 8, 9, 10])
    (hk0 : [P.cellsOf f0.type, P.cellsOf f1.type, P.cellsOf f2.type, P.cellsOf f3.type, P.cellsOf f4.type, P.cellsOf f5.type, P.cellsOf f6.type, P.cellsOf f7.type, P.cellsOf f8.type, P.cellsOf f9.type] = [1, 1, 1, 1, 2, 1, 1, 1, 1, 1])
    (hi : [P.underlying f0.type, P.underlying f1.type, P.underlying f2.type, P.underlying f3.type, P.underlying f5.type, P.underlying f6.type] = List.replicate 6 (some (.int .i64))) (hbo : P.underlying f7.type = some .bool) (hst : P.underlying f8.type = some .string)
    (ho1 : [h0.offset, h1.offset, h2.offset] = [0, 1, 3]) (hk : [P.cellsOf h0.type, P.cellsOf h1.type, P.cellsOf h2.type] = [1, 2, 1]) (hB : P.underlying h1.type = some (.struct #[b1, b2])) (hB4 : P.underlying f4.type = some (.struct #[b1, b2])) (ho2 : [b1.offset, b2.offset] = [0, 1]) (hk2 : [P.cellsOf b1.type, P.cellsOf b2.type] = [1, 1])
    (e0 : P.underlying h0.type = some (.int .i64)) (e1 : P.underlying b1.type = some (.int .u64)) (e2 : P.underlying b2.type = some (.int .i64)) (e3 : P.underlying h2.type = some .string) (hE : P.cellsOf e = 4) :
    ∃ (p : AM), p.ok w ∧ cs = [.int .i64 p.m.kd, .int .i64 p.m.frm, .int .i64 p.m.tt, .int .i64 p.m.sub, .int .u64 p.m.c, .int .i64 p.m.n, .int .i64 p.m.slot, .int .i64 p.m.time, .bool p.m.ok, .string p.m.text, .slice p.a p.m.L.length p.cap] := by
  simp only [List.cons.injEq, and_true] at ho hk0
  simp only [List.replicate, List.cons.injEq, and_true] at hi
  obtain ⟨o0, o1, o2, o3, o4, o5, o6, o7, o8, o9⟩ := ho
  obtain ⟨k0, k1, k2, k3, k4, k5, k6, k7, k8, k9⟩ := hk0
  obtain ⟨i0, i1, i2, i3, i5, i6⟩ := hi
  have hl := trod_len ht hf
  rw [hC] at hl
  match cs, hl, hf with
  | [y0, y1, y2, y3, y4, y5, y6, y7, y8, y9, y10], _, hf =>
    obtain ⟨_, _, t0⟩ := ent_field ht hf 0 0 f0 rfl o0 k0 y0 rfl
    obtain ⟨v0, hv0, _, w0⟩ := DataW.trod_int i0 t0
    obtain ⟨_, _, t1⟩ := ent_field ht hf 1 1 f1 rfl o1 k1 y1 rfl
    obtain ⟨v1, hv1, _, w1⟩ := DataW.trod_int i1 t1
    obtain ⟨_, _, t2⟩ := ent_field ht hf 2 2 f2 rfl o2 k2 y2 rfl
    obtain ⟨v2, hv2, _, w2⟩ := DataW.trod_int i2 t2
    obtain ⟨_, _, t3⟩ := ent_field ht hf 3 3 f3 rfl o3 k3 y3 rfl
    obtain ⟨v3, hv3, _, w3⟩ := DataW.trod_int i3 t3
    obtain ⟨_, _, t4⟩ := trod_field ht hf 4 f4 rfl
    rw [o4, k4] at t4
    have ho2' := ho2
    have hk2' := hk2
    simp only [List.cons.injEq, and_true] at ho2' hk2'
    obtain ⟨v4, v5, w4, w5, hv4⟩ := two_ints hB4 t4 k4 ho2'.1 ho2'.2 hk2'.1 hk2'.2 e1 e2
    obtain ⟨_, _, t5⟩ := ent_field ht hf 5 6 f5 rfl o5 k5 y6 rfl
    obtain ⟨v6, hv6, _, w6⟩ := DataW.trod_int i5 t5
    obtain ⟨_, _, t6⟩ := ent_field ht hf 6 7 f6 rfl o6 k6 y7 rfl
    obtain ⟨v7, hv7, _, w7⟩ := DataW.trod_int i6 t6
    obtain ⟨_, _, t7⟩ := ent_field ht hf 7 8 f7 rfl o7 k7 y8 rfl
    obtain ⟨v8, hv8, _⟩ := DataW.trod_bool hbo t7
    obtain ⟨_, _, t8⟩ := ent_field ht hf 8 9 f8 rfl o8 k8 y9 rfl
    obtain ⟨v9, hv9, _, w9⟩ := DataW.trod_string hst t8
    obtain ⟨_, _, t9⟩ := ent_field ht hf 9 10 f9 rfl o9 k9 y10 rfl
    rw [hs1] at t9
    obtain ⟨L, a, cap, hv10, hL, hcap⟩ := ents_open hs he ho1 hk hB ho2 hk2 e0 e1 e2 e3 hE t9
    simp only [List.drop_succ_cons, List.drop_zero, List.take_succ_cons, List.take_zero, List.cons.injEq, and_true] at hv0 hv1 hv2 hv3 hv4 hv6 hv7 hv8 hv9
    obtain ⟨rfl, rfl⟩ := hv4
    subst hv0 hv1 hv2 hv3 hv6 hv7 hv8 hv9 hv10
    exact ⟨⟨⟨v0, v1, v2, v3, v4, v5, v6, v7, v8, v9, L⟩, a, cap⟩, ⟨⟨w0, w1, w2, w3, w4, w5, w6, w7, w9, hL.2.1⟩, hL, hcap⟩, rfl⟩
theorem am_open {tt t s e : TypeId} {f0 f1 f2 f3 f4 f5 f6 f7 f8 f9 b1 b2 h0 h1 h2 : Field} {fuel : Nat} {a : Option Addr} {len cap : Nat} {x : DataW H × List MemPlace} (htt : P.underlying tt = some (.slice t)) (ht : P.underlying t = some (.struct #[f0, f1, f2, f3, f4, f5, f6, f7, f8, f9])) (hs1 : f9.type = s) (hs : P.underlying s = some (.slice e)) (he : P.underlying e = some (.struct #[h0, h1, h2]))
    (hC : P.cellsOf t = 11) (ho : [f0.offset, f1.offset, f2.offset, f3.offset, f4.offset, f5.offset, f6.offset, f7.offset, f8.offset, f9.offset] = [0, 1, 2, 3, 4, 6, 7, 8, 9, 10])
    (hk0 : [P.cellsOf f0.type, P.cellsOf f1.type, P.cellsOf f2.type, P.cellsOf f3.type, P.cellsOf f4.type, P.cellsOf f5.type, P.cellsOf f6.type, P.cellsOf f7.type, P.cellsOf f8.type, P.cellsOf f9.type] = [1, 1, 1, 1, 2, 1, 1, 1, 1, 1])
    (hi : [P.underlying f0.type, P.underlying f1.type, P.underlying f2.type, P.underlying f3.type, P.underlying f5.type, P.underlying f6.type] = List.replicate 6 (some (.int .i64))) (hbo : P.underlying f7.type = some .bool) (hst : P.underlying f8.type = some .string)
    (ho1 : [h0.offset, h1.offset, h2.offset] = [0, 1, 3]) (hk : [P.cellsOf h0.type, P.cellsOf h1.type, P.cellsOf h2.type] = [1, 2, 1]) (hB : P.underlying h1.type = some (.struct #[b1, b2])) (hB4 : P.underlying f4.type = some (.struct #[b1, b2])) (ho2 : [b1.offset, b2.offset] = [0, 1]) (hk2 : [P.cellsOf b1.type, P.cellsOf b2.type] = [1, 1])
    (e0 : P.underlying h0.type = some (.int .i64)) (e1 : P.underlying b1.type = some (.int .u64)) (e2 : P.underlying b2.type = some (.int .i64)) (e3 : P.underlying h2.type = some .string) (hE : P.cellsOf e = 4)
    (h : DataW.trod enc P w base spare held fuel tt (Value.slice a len cap).cells.toList = some x) : ∃ L : List AM, len = L.length ∧ AMRow w a L := by
  rcases open_slice htt h with ⟨hcs, _⟩ | ⟨y, l, c, m, n, D, Pl, hcs, _, hl, hm, hmm, _, hi9⟩
  · simp [Value.cells] at hcs
    obtain ⟨rfl, rfl, rfl⟩ := hcs
    exact ⟨[], rfl, by simp, by simp, .inl rfl⟩
  · simp [Value.cells] at hcs
    obtain ⟨rfl, rfl, rfl⟩ := hcs
    have hlm : len ≤ m := by rw [hmm]; split <;> omega
    have hmx : cap ≤ 9223372036854775807 := hm
    have each : ∀ i, i < len → ∃ p : AM, p.ok w ∧ w.cell? (y.add (i * 11)) = some (.int .i64 p.m.kd) ∧ w.cell? ((y.add (i * 11)).add 1) = some (.int .i64 p.m.frm) ∧ w.cell? ((y.add (i * 11)).add 2) = some (.int .i64 p.m.tt) ∧ w.cell? ((y.add (i * 11)).add 3) = some (.int .i64 p.m.sub) ∧ w.cell? ((y.add (i * 11)).add 4) = some (.int .u64 p.m.c) ∧ w.cell? ((y.add (i * 11)).add 5) = some (.int .i64 p.m.n) ∧ w.cell? ((y.add (i * 11)).add 6) = some (.int .i64 p.m.slot) ∧ w.cell? ((y.add (i * 11)).add 7) = some (.int .i64 p.m.time) ∧ w.cell? ((y.add (i * 11)).add 8) = some (.bool p.m.ok) ∧ w.cell? ((y.add (i * 11)).add 9) = some (.string p.m.text) ∧ w.cell? ((y.add (i * 11)).add 10) = some (.slice p.a p.m.L.length p.cap) := by
      intro i hil
      obtain ⟨cs', hc, htr⟩ := hi9 i (by omega)
      rw [hC] at hc
      obtain ⟨p, hp, rfl⟩ := am_struct ht hs1 hs he htr hC ho hk0 hi hbo hst ho1 hk hB hB4 ho2 hk2 e0 e1 e2 e3 hE
      obtain ⟨_, _, hat⟩ := World.cells?_some hc
      refine ⟨p, hp, ?_, hat 1 (by omega), hat 2 (by omega), hat 3 (by omega), hat 4 (by omega), hat 5 (by omega), hat 6 (by omega), hat 7 (by omega), hat 8 (by omega), hat 9 (by omega), hat 10 (by omega)⟩
      have := hat 0 (by omega)
      simpa [Addr.add] using this
    obtain ⟨L, hL, hq⟩ := list_of_all len _ each
    refine ⟨L, hL.symm, by omega, ?_, ?_⟩
    · intro p hp
      obtain ⟨i, hi', rfl⟩ := List.getElem_of_mem hp
      exact (hq i hi').1
    · rcases Nat.eq_zero_or_pos len with h0 | h0
      · exact .inl (List.length_eq_zero_iff.1 (by omega))
      · obtain ⟨b, off, spot⟩ := y
        have hspot : spot = none := by
          have h1 := (hq 0 (by omega)).2.1
          simpa [Addr.add] using World.cell?_spot h1
        subst hspot
        refine .inr ⟨b, off, rfl, fun i hi' => ?_⟩
        obtain ⟨_, c0, c1, c2, c3, c4, c5, c6, c7, c8, c9, c10⟩ := hq i hi'
        rw [add_none] at c0 c1 c2 c3 c4 c5 c6 c7 c8 c9 c10
        rw [add_none] at c1 c2 c3 c4 c5 c6 c7 c8 c9 c10
        exact ⟨c0, c1, c2, c3, c4, c5, c6, c7, c8, c9, c10⟩
end
end Go.Proofs.YtfgkgpkaohkehaaGreatDoor
