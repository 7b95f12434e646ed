import Derived.Test.YtmgpnpmdmelnkaaGreatDoorK1
import Derived.WalkKit
import Derived.ProofKit
import Derived.LoopTactic
import Derived.Outline
import Derived.WalkSpells
import Derived.WalkLawsBesides
import Derived.Lib.Hide
import Derived.Deep.LoopGhost
import Derived.Deep.QuietTactic
import Derived.BigQuiet
import Derived.ShutString
import Derived.OpenShut
import Derived.ChangeOld
import Derived.Deep.Slices
import Derived.Deep.Fields
namespace Go.Proofs.YtmgpnpmdmelnkaaGreatDoor
open Go.ChangeShapes Go.WideShapes Go.ChangeAt Go.RowKit Go.Deep
/-- What holds of each index holds of a list. -/
theorem list_of_all {α : Type} (n : Nat) (Q : Nat → α → Prop) (h : ∀ i, i < n → ∃ x, Q i x) : ∃ l : List α, l.length = n ∧ ∀ i (hi : i < l.length), Q i l[i] := by
  induction n with
  | zero => exact ⟨[], rfl, fun i hi => by simp at hi⟩
  | succ n ih =>
    obtain ⟨l, hl, hq⟩ := ih (fun i hi => h i (by omega))
    obtain ⟨x, hx⟩ := h n (by omega)
    refine ⟨l ++ [x], by simp [hl], fun i hi => ?_⟩
    by_cases hlt : i < l.length
    · rw [List.getElem_append_left hlt]; exact hq i hlt
    · have hin : i = n := by simp at hi; omega
      subst hin
      rw [List.getElem_append_right (by omega)]
      simpa [hl] using hx
theorem add_none (b off j : Nat) : (⟨b, off, none⟩ : Addr).add j = ⟨b, off + j, none⟩ := by unfold Addr.add; split <;> simp_all
/-- A thing that is written or taken. -/
structure PartD where
  K : Int
  U : Nat
  N : Int
  S : ByteArray
def PartD.ok (p : PartD) : Prop := (Lit.int .i64 p.K).wf = true ∧ p.U < 18446744073709551616 ∧ (Lit.int .i64 p.N).wf = true ∧ p.S.size ≤ 9223372036854775807
/-- The cells of a list of parts, four each, lie behind an address. -/
def PartRow (w : World) (a : Option Addr) (L : List PartD) : Prop :=
  L.length ≤ 9223372036854775807 ∧ (∀ p ∈ L, p.ok) ∧ (L = [] ∨ ∃ b off, a = some ⟨b, off, none⟩ ∧ ∀ i (h : i < L.length),
    w.cell? ⟨b, off + i * 4, none⟩ = some (.int .i64 L[i].K) ∧ w.cell? ⟨b, off + i * 4 + 1, none⟩ = some (.int .u64 (L[i].U : Int)) ∧
    w.cell? ⟨b, off + i * 4 + 2, none⟩ = some (.int .i64 L[i].N) ∧ w.cell? ⟨b, off + i * 4 + 3, none⟩ = some (.string L[i].S))
theorem PartRow.gr {w w' : World} {a : Option Addr} {L : List PartD} (h : PartRow w a L) (hg : Gr w w') : PartRow w' a L := by
  obtain ⟨h1, h2, h3⟩ := h
  refine ⟨h1, h2, h3.imp id ?_⟩
  rintro ⟨b, off, rfl, hc⟩
  refine ⟨b, off, rfl, fun i hi => ?_⟩
  obtain ⟨c0, c1, c2, c3⟩ := hc i hi
  exact ⟨hg.cell c0, hg.cell c1, hg.cell c2, hg.cell c3⟩
section
variable {H : Type} {enc : TypeId × Value → H} {P : Program} {w : World} {base : Nat} {spare : Nat → Bool} {held : Bool}
theorem part_struct {e : TypeId} {f0 f1 f2 f3 : Field} {fuel : Nat} {cs : List Value} {x : DataW H × List MemPlace} (he : P.underlying e = some (.struct #[f0, f1, f2, f3])) (hone : oneCellFields P #[f0, f1, f2, f3] = true)
    (e0 : P.underlying f0.type = some (.int .i64)) (e1 : P.underlying f1.type = some (.int .u64)) (e2 : P.underlying f2.type = some (.int .i64)) (e3 : P.underlying f3.type = some .string)
    (hC : P.cellsOf e = 4) (h : DataW.trod enc P w base spare held fuel e cs = some x) :
    ∃ p : PartD, p.ok ∧ cs = [.int .i64 p.K, .int .u64 (p.U : Int), .int .i64 p.N, .string p.S] := by
  obtain ⟨ys, n, _, _, hlen, hyl, hf⟩ := DataW.trod_struct he h
  rw [hC] at hlen
  match cs, hlen with
  | [c0, c1, c2, c3], _ =>
    have get : ∀ (j : Nat) (f : Field), (#[f0, f1, f2, f3] : Array Field)[j]? = some f → ∀ c, [c0, c1, c2, c3][j]? = some c → ∃ y, DataW.trod enc P w base spare held n f.type [c] = some y := by
      intro j f hj c hc
      obtain ⟨ho, hk⟩ := hone_of hone j f hj
      have h1 := hf j f hj
      rw [ho, hk] at h1
      have hjl : j < 4 := (Array.getElem?_eq_some_iff.1 hj).1
      have hys : ys[j]? = some (ys[j]'(by rw [hyl]; exact hjl)) := List.getElem?_eq_getElem _
      have hd : ([c0, c1, c2, c3].drop j).take 1 = [c] := by
        obtain ⟨hcl, hce⟩ := List.getElem?_eq_some_iff.1 hc
        rw [List.drop_eq_getElem_cons hcl, hce]; rfl
      rw [hd, hys] at h1
      exact ⟨_, h1⟩
    obtain ⟨y0, g0⟩ := get 0 f0 rfl c0 rfl
    obtain ⟨y1, g1⟩ := get 1 f1 rfl c1 rfl
    obtain ⟨y2, g2⟩ := get 2 f2 rfl c2 rfl
    obtain ⟨y3, g3⟩ := get 3 f3 rfl c3 rfl
    obtain ⟨K, hK, _, wK⟩ := DataW.trod_int e0 g0
    obtain ⟨U, hU, _, wU⟩ := DataW.trod_int e1 g1
    obtain ⟨N, hN, _, wN⟩ := DataW.trod_int e2 g2
    obtain ⟨S, hS, _, wS⟩ := DataW.trod_string e3 g3
    have hb := bounds_u64 wU
    refine ⟨⟨K, U.toNat, N, S⟩, ⟨wK, by show U.toNat < _; omega, wN, wS⟩, ?_⟩
    simp only [List.cons.injEq, and_true] at hK hU hN hS
    subst hK hU hN hS
    simp only [List.cons.injEq, Value.int.injEq, true_and, and_true]
    omega
theorem parts_open {t e : TypeId} {f0 f1 f2 f3 : Field} {fuel : Nat} {a : Option Addr} {len cap : Nat} {x : DataW H × List MemPlace} (ht : P.underlying t = some (.slice e)) (he : P.underlying e = some (.struct #[f0, f1, f2, f3])) (hone : oneCellFields P #[f0, f1, f2, f3] = true)
    (e0 : P.underlying f0.type = some (.int .i64)) (e1 : P.underlying f1.type = some (.int .u64)) (e2 : P.underlying f2.type = some (.int .i64)) (e3 : P.underlying f3.type = some .string)
    (hC : P.cellsOf e = 4) (h : DataW.trod enc P w base spare held fuel t (Value.slice a len cap).cells.toList = some x) : ∃ L : List PartD, len = L.length ∧ PartRow w a L := by
  rcases open_slice ht h with ⟨hcs, _⟩ | ⟨y, l, c, m, n, D, Pl, hcs, _, hl, hm, hmm, _, hi⟩
  · simp [Value.cells] at hcs
    obtain ⟨rfl, rfl, rfl⟩ := hcs
    exact ⟨[], rfl, by simp, by simp, .inl rfl⟩
  · simp [Value.cells] at hcs
    obtain ⟨rfl, rfl, rfl⟩ := hcs
    have hlm : len ≤ m := by rw [hmm]; split <;> omega
    have hmx : cap ≤ 9223372036854775807 := hm
    have each : ∀ i, i < len → ∃ p : PartD, p.ok ∧ w.cell? (y.add (i * 4)) = some (.int .i64 p.K) ∧ w.cell? ((y.add (i * 4)).add 1) = some (.int .u64 (p.U : Int)) ∧ w.cell? ((y.add (i * 4)).add 2) = some (.int .i64 p.N) ∧ w.cell? ((y.add (i * 4)).add 3) = some (.string p.S) := by
      intro i hil
      obtain ⟨cs', hc, htr⟩ := hi i (by omega)
      rw [hC] at hc
      obtain ⟨p, hp, rfl⟩ := part_struct he hone e0 e1 e2 e3 hC htr
      obtain ⟨_, _, hat⟩ := World.cells?_some hc
      refine ⟨p, hp, ?_, hat 1 (by omega), hat 2 (by omega), hat 3 (by omega)⟩
      have := hat 0 (by omega)
      simpa [Addr.add] using this
    obtain ⟨L, hL, hq⟩ := list_of_all len _ each
    refine ⟨L, hL.symm, by omega, ?_, ?_⟩
    · intro p hp
      obtain ⟨i, hi', rfl⟩ := List.getElem_of_mem hp
      exact (hq i hi').1
    · rcases Nat.eq_zero_or_pos len with h0 | h0
      · exact .inl (List.length_eq_zero_iff.1 (by omega))
      · obtain ⟨b, off, spot⟩ := y
        have hspot : spot = none := by
          have h1 := (hq 0 (by omega)).2.1
          simpa [Addr.add] using World.cell?_spot h1
        subst hspot
        refine .inr ⟨b, off, rfl, fun i hi' => ?_⟩
        obtain ⟨_, c0, c1, c2, c3⟩ := hq i hi'
        rw [add_none] at c0 c1 c2 c3
        rw [add_none] at c1 c2 c3
        exact ⟨c0, c1, c2, c3⟩
end
end Go.Proofs.YtmgpnpmdmelnkaaGreatDoor
