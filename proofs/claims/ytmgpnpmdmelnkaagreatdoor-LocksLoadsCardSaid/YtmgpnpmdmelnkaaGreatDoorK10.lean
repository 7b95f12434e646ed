import Derived.Test.YtmgpnpmdmelnkaaGreatDoorK14
import Derived.WalkKit
import Derived.ProofKit
import Derived.LoopTactic
import Derived.Outline
import Derived.WalkSpells
import Derived.WalkLawsBesides
import Derived.Lib.Hide
import Derived.Deep.LoopGhost
import Derived.Deep.QuietTactic
import Derived.BigQuiet
import Derived.ShutString
import Derived.IntWalk
import Derived.Deep.RegionWith
import Derived.Deep.RegionHeld3
import Derived.Test.YtmgpnpmdmelnkaaGreatDoorK1
import Derived.OpenShut
import Derived.ChangeOld
import Derived.Deep.Slices
import Derived.Deep.Fields
import Derived.Test.YtmgpnpmdmelnkaaGreatDoorC02
import Derived.Test.YtmgpnpmdmelnkaaGreatDoorK9
namespace Go.Proofs.YtmgpnpmdmelnkaaGreatDoor
open Go.ChangeShapes Go.WideShapes Go.ChangeAt Go.RowKit
set_option linter.unusedVariables false
set_option linter.unusedSimpArgs false
variable {w0 w : World} {b : Nat} {v1 v2 : Value} {B : Bk}
end Go.Proofs.YtmgpnpmdmelnkaaGreatDoor
namespace Go.Proofs.YtmgpnpmdmelnkaaGreatDoor
open Go.ChangeShapes Go.WideShapes Go.ChangeAt Go.RowKit Go.Deep
/-- What holds of each index holds of a list. -/
theorem list_of_all {α : Type} (n : Nat) (Q : Nat → α → Prop) (h : ∀ i, i < n → ∃ x, Q i x) : ∃ l : List α, l.length = n ∧ ∀ i (hi : i < l.length), Q i l[i] := by
  induction n with
  | zero => exact ⟨[], rfl, fun i hi => by simp at hi⟩
  | succ n ih =>
    obtain ⟨l, hl, hq⟩ := ih (fun i hi => h i (by omega))
    obtain ⟨x, hx⟩ := h n (by omega)
    refine ⟨l ++ [x], by simp [hl], fun i hi => ?_⟩
    by_cases hlt : i < l.length
    · rw [List.getElem_append_left hlt]; exact hq i hlt
    · have hin : i = n := by simp at hi; omega
      subst hin
      rw [List.getElem_append_right (by omega)]
      simpa [hl] using hx
theorem add_none (b off j : Nat) : (⟨b, off, none⟩ : Addr).add j = ⟨b, off + j, none⟩ := by unfold Addr.add; split <;> simp_all
/-- A thing that is written or taken. -/
structure PartD where
  K : Int
  U : Nat
  N : Int
  S : ByteArray
def PartD.ok (p : PartD) : Prop := (Lit.int .i64 p.K).wf = true ∧ p.U < 18446744073709551616 ∧ (Lit.int .i64 p.N).wf = true ∧ p.S.size ≤ 9223372036854775807
/-- The cells of a list of parts, four each, lie behind an address. -/
def PartRow (w : World) (a : Option Addr) (L : List PartD) : Prop :=
  L.length ≤ 9223372036854775807 ∧ (∀ p ∈ L, p.ok) ∧ (L = [] ∨ ∃ b off, a = some ⟨b, off, none⟩ ∧ ∀ i (h : i < L.length),
    w.cell? ⟨b, off + i * 4, none⟩ = some (.int .i64 L[i].K) ∧ w.cell? ⟨b, off + i * 4 + 1, none⟩ = some (.int .u64 (L[i].U : Int)) ∧
    w.cell? ⟨b, off + i * 4 + 2, none⟩ = some (.int .i64 L[i].N) ∧ w.cell? ⟨b, off + i * 4 + 3, none⟩ = some (.string L[i].S))
theorem PartRow.gr {w w' : World} {a : Option Addr} {L : List PartD} (h : PartRow w a L) (hg : Gr w w') : PartRow w' a L := by
  obtain ⟨h1, h2, h3⟩ := h
  refine ⟨h1, h2, h3.imp id ?_⟩
  rintro ⟨b, off, rfl, hc⟩
  refine ⟨b, off, rfl, fun i hi => ?_⟩
  obtain ⟨c0, c1, c2, c3⟩ := hc i hi
  exact ⟨hg.cell c0, hg.cell c1, hg.cell c2, hg.cell c3⟩
section
variable {H : Type} {enc : TypeId × Value → H} {P : Program} {w : World} {base : Nat} {spare : Nat → Bool} {held : Bool}
end
end Go.Proofs.YtmgpnpmdmelnkaaGreatDoor
namespace Go.Proofs.YtmgpnpmdmelnkaaGreatDoor
open Go.ChangeShapes Go.WideShapes Go.ChangeAt Go.RowKit Go.Deep
section
variable {H : Type} {enc : TypeId × Value → H} {P : Program} {w : World} {base : Nat} {spare : Nat → Bool} {held : Bool}
/-- A field of a struct reads as its type says. -/
theorem trod_field {t : TypeId} {fs : Array Field} {fuel : Nat} {cs : List Value} {x : DataW H × List MemPlace} (ht : P.underlying t = some (.struct fs)) (h : DataW.trod enc P w base spare held fuel t cs = some x) (i : Nat) (f : Field) (hf : fs[i]? = some f) :
    ∃ n y, DataW.trod enc P w base spare held n f.type ((cs.drop f.offset).take (P.cellsOf f.type)) = some y := by
  obtain ⟨ys, n, _, _, hlen, hyl, hg⟩ := DataW.trod_struct ht h
  have h1 := hg i f hf
  have hil : i < fs.size := (Array.getElem?_eq_some_iff.1 hf).1
  rw [List.getElem?_eq_getElem (by omega)] at h1
  exact ⟨n, _, h1⟩
theorem trod_len {t : TypeId} {fs : Array Field} {fuel : Nat} {cs : List Value} {x : DataW H × List MemPlace} (ht : P.underlying t = some (.struct fs)) (h : DataW.trod enc P w base spare held fuel t cs = some x) : cs.length = P.cellsOf t := by
  obtain ⟨ys, n, _, _, hlen, hyl, hg⟩ := DataW.trod_struct ht h
  exact hlen
end
end Go.Proofs.YtmgpnpmdmelnkaaGreatDoor
namespace Go.Proofs.YtmgpnpmdmelnkaaGreatDoor
open Go.ChangeShapes Go.WideShapes Go.ChangeAt Go.RowKit
/-- A slice of strings, as the form reads it. -/
theorem strs_open {H : Type} {enc : TypeId × Value → H} {P : Program} {w : World} {base : Nat} {spare : Nat → Bool} {held : Bool} {fuel : Nat} {t e : TypeId} {a : Option Addr} {len cap : Nat} {x : DataW H × List MemPlace}
    (ht : P.underlying t = some (.slice e)) (he : P.underlying e = some .string) (hc : P.cellsOf e = 1) (h : DataW.trod enc P w base spare held fuel t (Value.slice a len cap).cells.toList = some x) :
    ∃ ss : List ByteArray, len = ss.length ∧ Strs w a ss := by
  rcases open_strings ht he hc h with ⟨hcs, _⟩ | ⟨y, l, c, ss, hcs, _, hl, hm, hz, _, hcell, hws⟩
  · simp [Value.cells] at hcs
    obtain ⟨rfl, rfl, rfl⟩ := hcs
    exact ⟨[], rfl, by simp, by simp, .inl rfl⟩
  · simp [Value.cells] at hcs
    obtain ⟨rfl, rfl, rfl⟩ := hcs
    have hlen : len ≤ ss.length := by rw [hz]; split <;> omega
    have hmx : cap ≤ 9223372036854775807 := hm
    refine ⟨ss.take len, by simp; omega, fun s hs => hws s (List.mem_of_mem_take hs), by simp; omega, ?_⟩
    rcases Nat.eq_zero_or_pos len with h0 | h0
    · subst h0; exact .inl (by simp)
    · obtain ⟨b, off, spot⟩ := y
      have hc0 := hcell 0 (by omega)
      have hspot : spot = none := by simpa [Addr.add] using World.cell?_spot hc0
      subst hspot
      refine .inr ⟨b, off, rfl, fun i hi => ?_⟩
      have hi' : i < ss.length := by simp at hi; omega
      have := hcell i hi'
      have hadd : (⟨b, off, none⟩ : Addr).add i = ⟨b, off + i, none⟩ := by unfold Addr.add; split <;> simp_all
      rw [hadd] at this
      rw [this]
      simp [List.getD_eq_getElem?_getD, hi']
end Go.Proofs.YtmgpnpmdmelnkaaGreatDoor
namespace Go.Proofs.YtmgpnpmdmelnkaaGreatDoor
open Go.ChangeShapes Go.WideShapes Go.ChangeAt Go.RowKit Go.Deep
set_option linter.unusedVariables false
structure Act22 where
  K : Int
  S : Int
  pa : Option Addr
  pc : Nat
  Q : List ByteArray
  X : Bool
  Wt : Bool
def Act22.ok (p : Act22) : Prop := (Lit.int .i64 p.K).wf = true ∧ (Lit.int .i64 p.S).wf = true
def Act22At (w : World) (b o : Nat) (p : Act22) : Prop :=
  w.cell? ⟨b, o, none⟩ = some (.int .i64 p.K) ∧ w.cell? ⟨b, o + 1, none⟩ = some (.int .i64 p.S) ∧ w.cell? ⟨b, o + 2, none⟩ = some (.slice p.pa p.Q.length p.pc) ∧ w.cell? ⟨b, o + 3, none⟩ = some (.bool p.X) ∧ w.cell? ⟨b, o + 4, none⟩ = some (.bool p.Wt) ∧ Strs w p.pa p.Q
theorem Act22At.gr {w w' : World} {b o : Nat} {p : Act22} (h : Act22At w b o p) (hg : Gr w w') : Act22At w' b o p :=
  ⟨hg.cell h.1, hg.cell h.2.1, hg.cell h.2.2.1, hg.cell h.2.2.2.1, hg.cell h.2.2.2.2.1, h.2.2.2.2.2.gr hg⟩
def Act22Row (w : World) (a : Option Addr) (L : List Act22) : Prop :=
  L.length ≤ 9223372036854775807 ∧ (∀ p ∈ L, p.ok) ∧ (L = [] ∨ ∃ b off, a = some ⟨b, off, none⟩ ∧ ∀ i (h : i < L.length), Act22At w b (off + i * 5) L[i])
theorem Act22Row.gr {w w' : World} {a : Option Addr} {L : List Act22} (h : Act22Row w a L) (hg : Gr w w') : Act22Row w' a L := by
  obtain ⟨h1, h2, h3⟩ := h
  refine ⟨h1, h2, h3.imp id ?_⟩
  rintro ⟨b, off, rfl, hc⟩
  exact ⟨b, off, rfl, fun i hi => (hc i hi).gr hg⟩
theorem Act22Row.at {w : World} {a : Option Addr} {L : List Act22} (h : Act22Row w a L) (i : Nat) (hi : i < L.length) : ∃ b off, a = some ⟨b, off, none⟩ ∧ b < w.heap.size ∧ Act22At w b (off + i * 5) L[i] ∧ L[i].ok := by
  obtain ⟨_, h2, rfl | ⟨b, off, rfl, hc⟩⟩ := h
  · simp at hi
  · exact ⟨b, off, rfl, cell_lt (hc i hi).1, hc i hi, h2 _ (List.getElem_mem hi)⟩
section
variable {H : Type} {enc : TypeId × Value → H} {P : Program} {w : World} {base : Nat} {spare : Nat → Bool} {held : Bool}
theorem act22_field {t : TypeId} {fs : Array Field} {fuel : Nat} {cs : List Value} {x : DataW H × List MemPlace} (ht : P.underlying t = some (.struct fs)) (h : DataW.trod enc P w base spare held fuel t cs = some x) (i : Nat) (f : Field) (hf : fs[i]? = some f)
    (ho : f.offset = i) (hc : P.cellsOf f.type = 1) (c : Value) (hcs : cs[i]? = some c) : ∃ n y, DataW.trod enc P w base spare held n f.type [c] = some y := by
  obtain ⟨n, y, h1⟩ := trod_field ht h i f hf
  obtain ⟨hcl, hce⟩ := List.getElem?_eq_some_iff.1 hcs
  rw [ho, hc, List.drop_eq_getElem_cons hcl, hce] at h1
  exact ⟨n, y, h1⟩
theorem act22_struct {e : TypeId} {f0 f1 f2 f3 f4 : Field} {fuel : Nat} {cs : List Value} {x : DataW H × List MemPlace} (he : P.underlying e = some (.struct #[f0, f1, f2, f3, f4])) (ho : [f0.offset, f1.offset, f2.offset, f3.offset, f4.offset] = [0, 1, 2, 3, 4]) (hk : [P.cellsOf f0.type, P.cellsOf f1.type, P.cellsOf f2.type, P.cellsOf f3.type, P.cellsOf f4.type] = [1, 1, 1, 1, 1])
    (e0 : P.underlying f0.type = some (.int .i64)) (e1 : P.underlying f1.type = some (.int .i64)) {st : TypeId} (e2 : P.underlying f2.type = some (.slice st)) (es : P.underlying st = some .string) (ec : P.cellsOf st = 1) (e3 : P.underlying f3.type = some .bool) (e4 : P.underlying f4.type = some .bool)
    (hC : P.cellsOf e = 5) (h : DataW.trod enc P w base spare held fuel e cs = some x) :
    ∃ (p : Act22), p.ok ∧ Strs w p.pa p.Q ∧ cs = [.int .i64 p.K, .int .i64 p.S, .slice p.pa p.Q.length p.pc, .bool p.X, .bool p.Wt] := by
  have hlen := trod_len he h
  rw [hC] at hlen
  simp only [List.cons.injEq, and_true] at ho hk
  obtain ⟨o0, o1, o2, o3, o4⟩ := ho
  obtain ⟨k0, k1, k2, k3, k4⟩ := hk
  match cs, hlen, h with
  | [c0, c1, c2, c3, c4], _, h =>
    obtain ⟨n0, y0, g0⟩ := act22_field he h 0 f0 rfl o0 k0 c0 rfl
    obtain ⟨n1, y1, g1⟩ := act22_field he h 1 f1 rfl o1 k1 c1 rfl
    obtain ⟨n2, y2, g2⟩ := act22_field he h 2 f2 rfl o2 k2 c2 rfl
    obtain ⟨n3, y3, g3⟩ := act22_field he h 3 f3 rfl o3 k3 c3 rfl
    obtain ⟨n4, y4, g4⟩ := act22_field he h 4 f4 rfl o4 k4 c4 rfl
    obtain ⟨v0, hv0, _, wv0⟩ := DataW.trod_int e0 g0
    obtain ⟨v1, hv1, _, wv1⟩ := DataW.trod_int e1 g1
    have hform2 : ∃ a len cap, c2 = .slice a len cap := by
      rcases open_slice e2 g2 with ⟨hcs, _⟩ | ⟨y, l, c, m, n, D, Pl, hcs, _⟩
      · simp at hcs; exact ⟨_, _, _, hcs⟩
      · simp at hcs; exact ⟨_, _, _, hcs⟩
    obtain ⟨a2, l2, q2, rfl⟩ := hform2
    obtain ⟨v2, hv2, wv2⟩ := strs_open e2 es ec (a := a2) (len := l2) (cap := q2) (by simpa [Value.cells] using g2)
    obtain ⟨v3, hv3, _⟩ := DataW.trod_bool e3 g3
    obtain ⟨v4, hv4, _⟩ := DataW.trod_bool e4 g4
    simp only [List.cons.injEq, and_true] at hv0 hv1 hv3 hv4
    subst hv0 hv1 hv3 hv4 hv2
    exact ⟨⟨v0, v1, a2, q2, v2, v3, v4⟩, ⟨wv0, wv1⟩, wv2, rfl⟩
theorem act22_open {t e : TypeId} {f0 f1 f2 f3 f4 : Field} {fuel : Nat} {a : Option Addr} {len cap : Nat} {x : DataW H × List MemPlace} (ht : P.underlying t = some (.slice e)) (he : P.underlying e = some (.struct #[f0, f1, f2, f3, f4])) (ho : [f0.offset, f1.offset, f2.offset, f3.offset, f4.offset] = [0, 1, 2, 3, 4]) (hk : [P.cellsOf f0.type, P.cellsOf f1.type, P.cellsOf f2.type, P.cellsOf f3.type, P.cellsOf f4.type] = [1, 1, 1, 1, 1])
    (e0 : P.underlying f0.type = some (.int .i64)) (e1 : P.underlying f1.type = some (.int .i64)) {st : TypeId} (e2 : P.underlying f2.type = some (.slice st)) (es : P.underlying st = some .string) (ec : P.cellsOf st = 1) (e3 : P.underlying f3.type = some .bool) (e4 : P.underlying f4.type = some .bool)
    (hC : P.cellsOf e = 5) (h : DataW.trod enc P w base spare held fuel t (Value.slice a len cap).cells.toList = some x) : ∃ L : List Act22, len = L.length ∧ Act22Row w a L := by
  rcases open_slice ht h with ⟨hcs, _⟩ | ⟨y, l, c, m, n, D, Pl, hcs, _, hl, hm, hmm, _, hi⟩
  · simp [Value.cells] at hcs
    obtain ⟨rfl, rfl, rfl⟩ := hcs
    exact ⟨[], rfl, by simp, by simp, .inl rfl⟩
  · simp [Value.cells] at hcs
    obtain ⟨rfl, rfl, rfl⟩ := hcs
    have hlm : len ≤ m := by rw [hmm]; split <;> omega
    have hmx : cap ≤ 9223372036854775807 := hm
    have each : ∀ i, i < len → ∃ p : Act22, (p.ok ∧ Strs w p.pa p.Q) ∧ w.cell? (y.add (i * 5)) = some (.int .i64 p.K) ∧ w.cell? ((y.add (i * 5)).add 1) = some (.int .i64 p.S) ∧ w.cell? ((y.add (i * 5)).add 2) = some (.slice p.pa p.Q.length p.pc) ∧ w.cell? ((y.add (i * 5)).add 3) = some (.bool p.X) ∧ w.cell? ((y.add (i * 5)).add 4) = some (.bool p.Wt) := by
      intro i hil
      obtain ⟨cs', hc, htr⟩ := hi i (by omega)
      rw [hC] at hc
      obtain ⟨p, hp, hst, rfl⟩ := act22_struct he ho hk e0 e1 e2 es ec e3 e4 hC htr
      obtain ⟨_, _, hat⟩ := World.cells?_some hc
      refine ⟨p, ⟨hp, hst⟩, ?_, hat 1 (by omega), hat 2 (by omega), hat 3 (by omega), hat 4 (by omega)⟩
      have := hat 0 (by omega)
      simpa [Addr.add] using this
    obtain ⟨L, hL, hq⟩ := list_of_all len _ each
    refine ⟨L, hL.symm, by omega, ?_, ?_⟩
    · intro p hp
      obtain ⟨i, hi', rfl⟩ := List.getElem_of_mem hp
      exact (hq i hi').1.1
    · rcases Nat.eq_zero_or_pos len with h0 | h0
      · exact .inl (List.length_eq_zero_iff.1 (by omega))
      · obtain ⟨b, off, spot⟩ := y
        have hspot : spot = none := by
          have h1 := (hq 0 (by omega)).2.1
          simpa [Addr.add] using World.cell?_spot h1
        subst hspot
        refine .inr ⟨b, off, rfl, fun i hi' => ?_⟩
        obtain ⟨⟨_, hst⟩, c0, c1, c2, c3, c4⟩ := hq i hi'
        rw [add_none] at c0 c1 c2 c3 c4
        rw [add_none] at c1 c2 c3 c4
        exact ⟨c0, c1, c2, c3, c4, hst⟩
end
end Go.Proofs.YtmgpnpmdmelnkaaGreatDoor
namespace Go.Proofs.YtmgpnpmdmelnkaaGreatDoor
open Go.ChangeShapes Go.WideShapes Go.ChangeAt Go.RowKit
set_option linter.unusedVariables false
set_option linter.unusedSimpArgs false
/-- Three stores into a block of a book by value: rows that lie elsewhere. -/
theorem rrow_set3 {w : World} {c base : Nat} {a1 a2 b1 b2 : Option Addr} {n1 n2 c1 c2 m1 m2 d1 d2 : Nat} {k t : Int} {v : Value} {L : List RL} (hr : RRow22 w base v L) (hR : Blk w c #[.slice a1 n1 c1, .slice a2 n2 c2, .int .u64 k] 29) :
    RRow22 (((w.setCell ⟨c, 0, none⟩ (.slice b1 m1 d1)).setCell ⟨c, 1, none⟩ (.slice b2 m2 d2)).setCell ⟨c, 2, none⟩ (.int .u64 t)) base v L := by
  have R1 : Blk (w.setCell ⟨c, 0, none⟩ (.slice b1 m1 d1)) c #[.slice b1 m1 d1, .slice a2 n2 c2, .int .u64 k] 29 := hR.set 0 _
  have R2 : Blk ((w.setCell ⟨c, 0, none⟩ (.slice b1 m1 d1)).setCell ⟨c, 1, none⟩ (.slice b2 m2 d2)) c #[.slice b1 m1 d1, .slice b2 m2 d2, .int .u64 k] 29 := R1.set 1 _
  have hne := row_offL hR hr.1 (by decide)
  exact ⟨ownsRow_setCell_other (a := ⟨c, 2, none⟩) (ownsRow_setCell_other (a := ⟨c, 1, none⟩) (ownsRow_setCell_other (a := ⟨c, 0, none⟩) hr.1 hne _) hne _) hne _, fun x hx => lies_set (lies_set (lies_set (hr.2 x hx) hR (noStr3 _ _ _ _ _ _ _) _) R1 (noStr3 _ _ _ _ _ _ _) _) R2 (noStr3 _ _ _ _ _ _ _) _⟩
theorem bk_set3 {w0 w : World} {b c : Nat} {v1 v2 x1 x2 x3 : Value} {B : Bk} {cs : Array Value} (h : BkIs w0 w b v1 v2 B) (hR : Blk w c cs 29) (hw : w0.heap.size ≤ c) :
    BkIs w0 (((w.setCell ⟨c, 0, none⟩ x1).setCell ⟨c, 1, none⟩ x2).setCell ⟨c, 2, none⟩ x3) b v1 v2 B := by
  have hcb : c ≠ b := fun e => by
    have h1 : w.heap[b]? = some (.cells _ 69 (0, 0)) := h.blk
    have h2 : w.heap[c]? = some (.cells cs 29 (0, 0)) := hR
    rw [e, h1] at h2
    simp at h2
  have n1 := row_offL hR h.r1 (by decide)
  have n2 := row_offL hR h.r2 (by decide)
  exact ((h.setO hcb n1 n2 hw _).setO hcb n1 n2 hw _).setO hcb n1 n2 hw _
theorem doc_set3 {w0 w : World} {b c n : Nat} {v1 v2 vH vW : Value} {t0 : Int} {B : Bk} {H W : List RL} {a1 a2 b1 b2 : Option Addr} {n1 n2 c1 c2 m1 m2 d1 d2 : Nat} {k t : Int} (h : Doc22 w0 w b v1 v2 t0 n B vH vW H W) (hR : Blk w c #[.slice a1 n1 c1, .slice a2 n2 c2, .int .u64 k] 29) (hw : w0.heap.size ≤ c) :
    Doc22 w0 (((w.setCell ⟨c, 0, none⟩ (.slice b1 m1 d1)).setCell ⟨c, 1, none⟩ (.slice b2 m2 d2)).setCell ⟨c, 2, none⟩ (.int .u64 t)) b v1 v2 t0 n B vH vW H W :=
  ⟨bk_set3 h.bk hR hw, h.rel, rrow_set3 h.rH hR, rrow_set3 h.rW hR, fun x hx => (h.off x hx).gr (by simp [World.setCell])⟩
theorem blk_set3 {w : World} {c : Nat} {y1 y2 y3 x1 x2 x3 : Value} {t : TypeId} (hR : Blk w c #[y1, y2, y3] t) : Blk (((w.setCell ⟨c, 0, none⟩ x1).setCell ⟨c, 1, none⟩ x2).setCell ⟨c, 2, none⟩ x3) c #[x1, x2, x3] t := hR.store3 x1 x2 x3
theorem blk_set3o {w : World} {c d : Nat} {cs : Array Value} {x1 x2 x3 : Value} {t : TypeId} (hR : Blk w d cs t) (hne : d ≠ c) : Blk (((w.setCell ⟨c, 0, none⟩ x1).setCell ⟨c, 1, none⟩ x2).setCell ⟨c, 2, none⟩ x3) d cs t := ((hR.other hne 0 x1).other hne 1 x2).other hne 2 x3
theorem bk_rebase {w0 w1 w : World} {c : Nat} {y1 y2 : Value} {B : Bk} (h : BkIs w1 w c y1 y2 B) (hs : w0.heap.size ≤ w1.heap.size) (hg : Gr w0 w) : BkIs w0 w c y1 y2 B := ⟨Nat.le_trans hs h.base, hg, h.blk, owns_base h.r1 hs, owns_base h.r2 hs, h.ne⟩
theorem tag_ne {w : World} {b c : Nat} {cs ds : Array Value} {t u : TypeId} (h : Blk w b cs t) (k : Blk w c ds u) (hn : t ≠ u) : c ≠ b := fun e => by
  have h1 : w.heap[b]? = some (.cells cs t (0, 0)) := h
  have h2 : w.heap[c]? = some (.cells ds u (0, 0)) := k
  rw [e, h1] at h2
  simp only [Option.some.injEq, Obj.cells.injEq] at h2
  exact hn h2.2.1
end Go.Proofs.YtmgpnpmdmelnkaaGreatDoor
