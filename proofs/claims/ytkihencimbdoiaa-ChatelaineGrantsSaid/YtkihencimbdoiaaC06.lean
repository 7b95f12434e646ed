import Derived.Test.YtkihencimbdoiaaC01
import Derived.WalkKit
import Derived.ProofKit
import Derived.LoopTactic
import Derived.Outline
import Derived.WalkSpells
import Derived.WalkLawsBesides
import Derived.Lib.Hide
import Derived.Deep.LoopGhost
import Derived.Deep.QuietTactic
import Derived.BigQuiet
import Derived.ShutString
import Derived.OpenShut
import Derived.ChangeOld
import Derived.Deep.Slices
import Derived.Deep.Fields
namespace Go.Proofs.Ytkihencimbdoiaa
open Go.ChangeShapes Go.WideShapes Go.ChangeAt Go.RowKit Go.Deep
/-- What holds of each index holds of a list. -/
theorem list_of_each {α : Type} (n : Nat) (Q : Nat → α → Prop) (h : ∀ i, i < n → ∃ x, Q i x) : ∃ l : List α, l.length = n ∧ ∀ i (hi : i < l.length), Q i l[i] := by
  induction n with
  | zero => exact ⟨[], rfl, fun i hi => by simp at hi⟩
  | succ n ih =>
    obtain ⟨l, hl, hq⟩ := ih (fun i hi => h i (by omega))
    obtain ⟨x, hx⟩ := h n (by omega)
    refine ⟨l ++ [x], by simp [hl], fun i hi => ?_⟩
    by_cases hlt : i < l.length
    · rw [List.getElem_append_left hlt]; exact hq i hlt
    · have hin : i = n := by simp at hi; omega
      subst hin
      rw [List.getElem_append_right (by omega)]
      simpa [hl] using hx
section
variable {H : Type} {enc : TypeId × Value → H} {P : Program} {w : World} {base : Nat} {spare : Nat → Bool} {held : Bool}
/-- A list of cells, each of which reads as an integer. -/
theorem ints_of_cells {cs : List Value} {n : Nat} (hn : cs.length = n) (h : ∀ (i : Nat) (c : Value), cs[i]? = some c → ∃ a : Int, (Lit.int .i64 a).wf = true ∧ c = .int .i64 a) :
    ∃ l : List Int, l.length = n ∧ (∀ a ∈ l, (Lit.int .i64 a).wf = true) ∧ cs = l.map (Value.int .i64) := by
  obtain ⟨l, hl, hq⟩ := list_of_each n (fun i (a : Int) => (Lit.int .i64 a).wf = true ∧ cs[i]? = some (Value.int .i64 a)) (by
    intro i hi
    obtain ⟨a, ha, he⟩ := h i cs[i] (List.getElem?_eq_getElem (by omega))
    exact ⟨a, ha, by rw [List.getElem?_eq_getElem (by omega), he]⟩)
  refine ⟨l, hl, ?_, ?_⟩
  · intro a ha
    obtain ⟨i, hi, rfl⟩ := List.getElem_of_mem ha
    exact (hq i hi).1
  · apply List.ext_getElem?
    intro i
    by_cases hi : i < l.length
    · rw [(hq i hi).2]; simp [hi]
    · rw [List.getElem?_eq_none (by omega), List.getElem?_eq_none (by simp; omega)]
/-- A struct of integers, by value. -/
theorem open_ints {r : Reach} {b0 : Nat} {t e : TypeId} {fs : Array Field} {v : Value} {d : DataW H} {p : List MemPlace} (hs : P.underlying t = some (.struct fs)) (hone : oneCellFields P fs = true) (hC : P.cellsOf t = fs.size)
    (hT : fs.all (fun f => f.type == e) = true) (he : P.underlying e = some (.int .i64)) (hv : Value.okWide P w r b0 t v) (h : DataW.Trod enc P w base spare held t v d p) :
    ∃ l : List Int, l.length = fs.size ∧ (∀ a ∈ l, (Lit.int .i64 a).wf = true) ∧ v = .agg (l.map (Value.int .i64)).toArray := by
  obtain ⟨cs, rfl, hsz⟩ := okWide_struct hs hv
  obtain ⟨fuel, hf⟩ := h
  obtain ⟨ys, n, _, _, hlen, hyl, hg⟩ := DataW.trod_struct hs hf
  have hcells : (Value.agg cs).cells.toList = cs.toList := by simp [Value.cells]
  rw [hcells] at hg
  have := ints_of_cells (cs := cs.toList) (n := fs.size) (by simp; omega) (by
    intro j c hc
    have hjl : j < fs.size := by
      have := (List.getElem?_eq_some_iff.1 hc).1
      simp at this; omega
    have hj : fs[j]? = some fs[j] := Array.getElem?_eq_getElem hjl
    obtain ⟨ho, hk⟩ := hone_of hone j _ hj
    have h1 := hg j _ hj
    rw [ho, hk] at h1
    have hys : ys[j]? = some (ys[j]'(by rw [hyl]; exact hjl)) := List.getElem?_eq_getElem _
    have hd : (cs.toList.drop j).take 1 = [c] := by
      obtain ⟨hcl, hce⟩ := List.getElem?_eq_some_iff.1 hc
      rw [List.drop_eq_getElem_cons hcl, hce]; rfl
    have ht : fs[j].type = e := by
      have := Array.all_eq_true.1 hT j hjl
      simpa using this
    rw [hd, hys, ht] at h1
    obtain ⟨a, ha, _, wa⟩ := DataW.trod_int he h1
    simp only [List.cons.injEq, and_true] at ha
    exact ⟨a, wa, ha⟩)
  obtain ⟨l, h1, h2, h3⟩ := this
  exact ⟨l, h1, h2, by rw [← h3]⟩
/-- The cells of a list of pairs of numbers lie behind an address. -/
def PairRow (w : World) (a : Option Addr) (L : List (Int × Int)) : Prop :=
  L.length ≤ 9223372036854775807 ∧ (∀ x ∈ L, (Lit.int .i64 x.1).wf = true ∧ (Lit.int .i64 x.2).wf = true) ∧ (L = [] ∨ ∃ b off, a = some ⟨b, off, none⟩ ∧ ∀ i (h : i < L.length),
    w.cell? ⟨b, off + i * 2, none⟩ = some (.int .i64 L[i].1) ∧ w.cell? ⟨b, off + i * 2 + 1, none⟩ = some (.int .i64 L[i].2))
theorem PairRow.gr {w w' : World} {a : Option Addr} {L : List (Int × Int)} (h : PairRow w a L) (hg : Gr w w') : PairRow w' a L := by
  obtain ⟨h1, h2, h3⟩ := h
  refine ⟨h1, h2, h3.imp id ?_⟩
  rintro ⟨b, off, rfl, hc⟩
  exact ⟨b, off, rfl, fun i hi => ⟨hg.cell (hc i hi).1, hg.cell (hc i hi).2⟩⟩
theorem pair_array {t e : TypeId} {fuel : Nat} {cs : List Value} {x : DataW H × List MemPlace} (ht : P.underlying t = some (.array 2 e)) (he : P.underlying e = some (.int .i64)) (hc : P.cellsOf e = 1) (hC : P.cellsOf t = 2)
    (h : DataW.trod enc P w base spare held fuel t cs = some x) : ∃ a b : Int, ((Lit.int .i64 a).wf = true ∧ (Lit.int .i64 b).wf = true) ∧ cs = [.int .i64 a, .int .i64 b] := by
  obtain ⟨ys, n, _, _, hlen, hyl, hf⟩ := DataW.trod_array ht h
  rw [hC] at hlen
  match cs, hlen with
  | [c0, c1], _ =>
    have g0 := hf 0 (by omega)
    have g1 := hf 1 (by omega)
    rw [hc, List.getElem?_eq_getElem (by omega)] at g0 g1
    obtain ⟨a, ha, _, wa⟩ := DataW.trod_int he g0
    obtain ⟨b, hb, _, wb⟩ := DataW.trod_int he g1
    simp at ha hb
    exact ⟨a, b, ⟨wa, wb⟩, by rw [ha, hb]⟩
theorem pairs_open {t e i : TypeId} {fuel : Nat} {a : Option Addr} {len cap : Nat} {x : DataW H × List MemPlace} (ht : P.underlying t = some (.slice e)) (he : P.underlying e = some (.array 2 i)) (hi : P.underlying i = some (.int .i64)) (hc : P.cellsOf i = 1)
    (hC : P.cellsOf e = 2) (h : DataW.trod enc P w base spare held fuel t (Value.slice a len cap).cells.toList = some x) : ∃ L : List (Int × Int), len = L.length ∧ PairRow w a L := by
  rcases open_slice ht h with ⟨hcs, _⟩ | ⟨y, l, c, m, n, D, Pl, hcs, _, hl, hm, hmm, _, hi'⟩
  · simp [Value.cells] at hcs
    obtain ⟨rfl, rfl, rfl⟩ := hcs
    exact ⟨[], rfl, by simp, by simp, .inl rfl⟩
  · simp [Value.cells] at hcs
    obtain ⟨rfl, rfl, rfl⟩ := hcs
    have hlm : len ≤ m := by rw [hmm]; split <;> omega
    have hmx : cap ≤ 9223372036854775807 := hm
    have each : ∀ i, i < len → ∃ p : Int × Int, ((Lit.int .i64 p.1).wf = true ∧ (Lit.int .i64 p.2).wf = true) ∧ w.cell? (y.add (i * 2)) = some (.int .i64 p.1) ∧ w.cell? ((y.add (i * 2)).add 1) = some (.int .i64 p.2) := by
      intro i hil
      obtain ⟨cs', hcx, htr⟩ := hi' i (by omega)
      rw [hC] at hcx
      obtain ⟨a, b, hp, rfl⟩ := pair_array he hi hc hC htr
      obtain ⟨_, _, hat⟩ := World.cells?_some hcx
      refine ⟨(a, b), hp, ?_, hat 1 (by omega)⟩
      have := hat 0 (by omega)
      simpa [Addr.add] using this
    obtain ⟨L, hL, hq⟩ := list_of_each len _ each
    refine ⟨L, hL.symm, by omega, ?_, ?_⟩
    · intro p hp
      obtain ⟨i, hi2, rfl⟩ := List.getElem_of_mem hp
      exact (hq i hi2).1
    · rcases Nat.eq_zero_or_pos len with h0 | h0
      · exact .inl (List.length_eq_zero_iff.1 (by omega))
      · obtain ⟨b, off, spot⟩ := y
        have hspot : spot = none := by
          have h1 := (hq 0 (by omega)).2.1
          simpa [Addr.add] using World.cell?_spot h1
        subst hspot
        refine .inr ⟨b, off, rfl, fun i hi2 => ?_⟩
        obtain ⟨_, c0, c1⟩ := hq i hi2
        have add_none : ∀ b off j, (⟨b, off, none⟩ : Addr).add j = ⟨b, off + j, none⟩ := by intro b off j; unfold Addr.add; split <;> simp_all
        rw [add_none] at c0 c1
        rw [add_none] at c1
        exact ⟨c0, c1⟩
end
end Go.Proofs.Ytkihencimbdoiaa
