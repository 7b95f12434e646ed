import Derived.Test.YtmgpnpmdmelnkaaGreatDoorF22o
import Derived.WalkKit
import Derived.ProofKit
import Derived.LoopTactic
import Derived.Outline
import Derived.WalkSpells
import Derived.WalkLawsBesides
import Derived.Lib.Hide
import Derived.Deep.LoopGhost
import Derived.Deep.QuietTactic
import Derived.BigQuiet
import Derived.ShutString
import Derived.IntWalk
import Derived.Deep.RegionWith
import Derived.Deep.RegionHeld3
import Derived.Test.YtmgpnpmdmelnkaaGreatDoorK1
import Derived.OpenShut
import Derived.ChangeOld
import Derived.Deep.Slices
import Derived.Deep.Fields
import Derived.Test.YtmgpnpmdmelnkaaGreatDoorC02
import Derived.Test.YtmgpnpmdmelnkaaGreatDoorK9
namespace Go.Proofs.YtmgpnpmdmelnkaaGreatDoor
open Go.ChangeShapes Go.WideShapes Go.ChangeAt Go.RowKit
set_option linter.unusedVariables false
set_option linter.unusedSimpArgs false
variable {w0 w : World} {b : Nat} {v1 v2 : Value} {B : Bk}
def CloneIs (w : World) (B : Bk) (e : Ending) (w' : World) : Prop := ∃ c u1 u2, e = .returned (.pointer (some ⟨c, 0, none⟩)) ∧ w.heap.size ≤ c ∧ BkIs w w' c u1 u2 B ∧ Gr w w'
set_option maxRecDepth 100000 in
set_option maxHeartbeats 2000000 in
theorem bclone_any (w : World) (h : BkIs w0 w b v1 v2 B) (hl : B.H.length + B.W.length ≤ 500) :
    Calls Tryz.prog 9 #[.pointer (some ⟨b, 0, none⟩)] w (CloneIs w B) := by
  have H := Lib.hid h
  have HH := Lib.hid (fun w' (hg : Gr w w') => held_any w' (h.gr hg) (by omega))
  have HV := Lib.hid (fun w' (hg : Gr w w') => waits_any w' (h.gr hg) (by omega))
  have c2 := h.blk.cell (i := 2) rfl
  generalize hn1 : B.H.length = n1 at *
  generalize hn2 : B.W.length = n2 at *
  generalize hlt : B.last = lt at *
  have HN := Lib.hid (And.intro hn1 (And.intro hn2 hlt))
  clear h hl hn1 hn2 hlt
  go_enter Tryz.func9, Tryz.ntmps9
  go_wp2
  have QS : Hid (∀ w9, Gr w w9 → (fun w9 => Gr w w9 ∧ w9.cell? ⟨b, 2, none⟩ = some (.int .u64 lt)) w9) := Lib.hid fun w9 hg => ⟨hg, hg.cell c2⟩
  refine wp_region_held_drew (S := (fun w9 => Gr w w9 ∧ w9.cell? ⟨b, 2, none⟩ = some (.int .u64 lt))) (by kernel_rfl) ?inva (fun h0 => ?_)
  case inva => ((try dsimp only); (exact QS.out _ ((Gr.refl _).drew)))
  refine wpAnyH_take (i := 0) (oi := { dst := some 5, op := Go.Op.move (Go.Operand.tmp 0), type := 25, pos := "locks.go:160", after := #[], guard := none }) (v := ?va1) rfl (by kernel_rfl) (by kernel_rfl) (by kernel_rfl) (fun _ _ _ h => h) (Or.inl ⟨by rfl, ?ra1⟩) (by assumption) ?_
  case ra1 => (intro w hSw; (try dsimp only at hSw); (go_simp <;> with_reducible rfl))
  try simp only [Act.put, List.setIfInBounds_toArray, List.set_cons_zero, List.set_cons_succ]
  refine wpAnyH_take (i := 2) (oi := { dst := some 7, op := Go.Op.move (Go.Operand.tmp 0), type := 25, pos := "locks.go:160", after := #[], guard := none }) (v := ?va2) rfl (by kernel_rfl) (by kernel_rfl) (by kernel_rfl) (fun _ _ _ h => h) (Or.inl ⟨by rfl, ?ra2⟩) (by assumption) ?_
  case ra2 => (intro w hSw; (try dsimp only at hSw); (go_simp <;> with_reducible rfl))
  try simp only [Act.put, List.setIfInBounds_toArray, List.set_cons_zero, List.set_cons_succ]
  refine wpAnyH_take (i := 4) (oi := { dst := some 9, op := Go.Op.move (Go.Operand.tmp 0), type := 25, pos := "locks.go:160", after := #[], guard := none }) (v := ?va3) rfl (by kernel_rfl) (by kernel_rfl) (by kernel_rfl) (fun _ _ _ h => h) (Or.inl ⟨by rfl, ?ra3⟩) (by assumption) ?_
  case ra3 => (intro w hSw; (try dsimp only at hSw); (go_simp <;> with_reducible rfl))
  try simp only [Act.put, List.setIfInBounds_toArray, List.set_cons_zero, List.set_cons_succ]
  refine wpAnyH_take (i := 5) (oi := { dst := some 10, op := Go.Op.nilCheck (Go.Operand.tmp 9), type := 0, pos := "locks.go:160", after := #[{ on := 4, ground := Go.Ground.data }], guard := none }) (v := ?va4) rfl (by kernel_rfl) (by kernel_rfl) (by kernel_rfl) (fun _ _ _ h => h) (Or.inl ⟨by rfl, ?ra4⟩) (by assumption) ?_
  case ra4 => (intro w hSw; (try dsimp only at hSw); (go_simp <;> with_reducible rfl))
  try simp only [Act.put, List.setIfInBounds_toArray, List.set_cons_zero, List.set_cons_succ]
  refine wpAnyH_take (i := 6) (oi := { dst := some 11, op := Go.Op.fieldAddr 69 (Go.Operand.tmp 10) 2, type := 0, pos := "locks.go:160", after := #[{ on := 5, ground := Go.Ground.data }], guard := none }) (v := ?va5) rfl (by kernel_rfl) (by kernel_rfl) (by kernel_rfl) (fun _ _ _ h => h) (Or.inl ⟨by rfl, ?ra5⟩) (by assumption) ?_
  case ra5 => (intro w hSw; (try dsimp only at hSw); (go_simp <;> with_reducible rfl))
  try simp only [Act.put, List.setIfInBounds_toArray, List.set_cons_zero, List.set_cons_succ]
  refine wpAnyH_take (i := 7) (oi := { dst := some 12, op := Go.Op.load 22 (Go.Operand.tmp 11), type := 22, pos := "locks.go:160", after := #[{ on := 6, ground := Go.Ground.data }], guard := none }) (v := ?va6) rfl (by kernel_rfl) (by kernel_rfl) (by kernel_rfl) (fun _ _ _ h => h) (Or.inl ⟨by rfl, ?ra6⟩) (by assumption) ?_
  case ra6 => (intro w hSw; (try dsimp only at hSw); (go_simp <;> with_reducible rfl))
  try simp only [Act.put, List.setIfInBounds_toArray, List.set_cons_zero, List.set_cons_succ]
  refine wpAnyH_ready (rs := [1]) (by kernel_rfl) (by simp) ?_
  refine AllReadyH.cons (o := { dst := some 6, op := Go.Op.call { callee := Go.Callee.value (Go.Operand.func 12), args := #[Go.Operand.tmp 5], argTypes := #[25] }, type := 37, pos := "locks.go:160", after := #[{ on := 0, ground := Go.Ground.data }], guard := none }) rfl (fun K hK => ?_) AllReadyH.nil
  go_simp
  go_at_call 12
  refine (HH.out _ h0.1).mono ?_
  rintro e w8 ⟨u1, rfl, ho1, hgN⟩
  obtain ⟨a1, k1, hv1, _⟩ := ownsRow_slice ho1
  subst hv1
  have HO1 := Lib.hid (owns_base ho1 h0.1.size)
  clear ho1
  first | refine hK.out _ _ ?sa7 (fun h7 => ?_) | (go_wp2_with fail; refine hK.out _ _ ?sa7 (fun h7 => ?_))
  case sa7 => ((try dsimp only); (first | exact QS.out _ (h0.1.trans hgN) | exact QS.out _ (h0.1.alloc _)))
  clear hK K h0
  try simp only [Act.put, List.setIfInBounds_toArray, List.set_cons_zero, List.set_cons_succ]
  refine wpAnyH_ready (rs := [3]) (by kernel_rfl) (by simp) ?_
  refine AllReadyH.cons (o := { dst := some 8, op := Go.Op.call { callee := Go.Callee.value (Go.Operand.func 14), args := #[Go.Operand.tmp 7], argTypes := #[25] }, type := 37, pos := "locks.go:160", after := #[{ on := 2, ground := Go.Ground.data }, { on := 1, ground := Go.Ground.chain }], guard := none }) rfl (fun K hK => ?_) AllReadyH.nil
  go_simp
  go_at_call 14
  refine (HV.out _ h7.1).mono ?_
  rintro e w9 ⟨u2, rfl, ho2, hgN⟩
  obtain ⟨a2, k2, hv2, _⟩ := ownsRow_slice ho2
  subst hv2
  have HO2 := Lib.hid (owns_base ho2 h7.1.size)
  have HN2 := Lib.hid (fun k (e : Value.ownBlock (.slice a2 n2 k2) = some k) => (own_ge ho2 e).1)
  have HS8 := Lib.hid (fun k (e : Value.ownBlock (.slice a1 n1 k1) = some k) => (own_ge HO1.out e).2)
  have HO1 := Lib.hid (ownsRow_gr hgN HO1.out)
  have HW9 := Lib.hid (show Gr w w9 from h7.1.trans hgN)
  clear ho2
  first | refine hK.out _ _ ?sa8 (fun h8 => ?_) | (go_wp2_with fail; refine hK.out _ _ ?sa8 (fun h8 => ?_))
  case sa8 => ((try dsimp only); (first | exact QS.out _ (h7.1.trans hgN) | exact QS.out _ (h7.1.alloc _)))
  clear hK K h7
  try simp only [Act.put, List.setIfInBounds_toArray, List.set_cons_zero, List.set_cons_succ]
  refine wpAnyH_take (i := 8) (oi := { dst := some 13, op := Go.Op.build 69 #[(0, Go.Operand.tmp 6), (1, Go.Operand.tmp 8), (2, Go.Operand.tmp 12)], type := 69, pos := "locks.go:160", after := #[{ on := 1, ground := Go.Ground.data }, { on := 3, ground := Go.Ground.data }, { on := 7, ground := Go.Ground.data }], guard := none }) (v := ?va9) rfl (by kernel_rfl) (by kernel_rfl) (by kernel_rfl) (fun _ _ _ h => h) (Or.inl ⟨by rfl, ?ra9⟩) (by assumption) ?_
  case ra9 => (intro w hSw; (try dsimp only at hSw); (go_simp <;> with_reducible rfl))
  try simp only [Act.put, List.setIfInBounds_toArray, List.set_cons_zero, List.set_cons_succ]
  refine wpAnyH_ready (rs := [9]) (by kernel_rfl) (by simp) ?_
  refine AllReadyH.cons (o := { dst := some 14, op := Go.Op.box 69 (Go.Operand.tmp 13), type := 25, pos := "locks.go:160", after := #[{ on := 8, ground := Go.Ground.data }], guard := none }) rfl (fun K hK => ?_) AllReadyH.nil
  go_simp
  skip
  first | refine hK.out _ _ ?sa10 (fun h10 => ?_) | (go_wp2_with fail; refine hK.out _ _ ?sa10 (fun h10 => ?_))
  case sa10 => ((try dsimp only); (first | exact QS.out _ (h8.1.trans hgN) | exact QS.out _ (h8.1.alloc _)))
  clear hK K h8
  try simp only [Act.put, List.setIfInBounds_toArray, List.set_cons_zero, List.set_cons_succ]
  refine wpAnyH_take (i := 10) (oi := { dst := some 2, op := Go.Op.assign (Go.Operand.tmp 14), type := 25, pos := "locks.go:160", after := #[{ on := 9, ground := Go.Ground.data }, { on := 3, ground := Go.Ground.chain }, { on := 0, ground := Go.Ground.phase }, { on := 1, ground := Go.Ground.phase }, { on := 2, ground := Go.Ground.phase }, { on := 3, ground := Go.Ground.phase }, { on := 4, ground := Go.Ground.phase }, { on := 5, ground := Go.Ground.phase }, { on := 6, ground := Go.Ground.phase }, { on := 7, ground := Go.Ground.phase }, { on := 8, ground := Go.Ground.phase }, { on := 9, ground := Go.Ground.phase }], guard := none }) (v := ?va11) rfl (by kernel_rfl) (by kernel_rfl) (by kernel_rfl) (fun _ _ _ h => h) (Or.inl ⟨by rfl, ?ra11⟩) (by assumption) ?_
  case ra11 => (intro w hSw; (try dsimp only at hSw); (go_simp <;> with_reducible rfl))
  try simp only [Act.put, List.setIfInBounds_toArray, List.set_cons_zero, List.set_cons_succ]
  refine wpAnyH_done (by kernel_rfl) ?_ _
  have HFIN := Lib.hid h10.1
  have hga := (Gr.refl w9).alloc (.cells #[.slice a1 n1 k1, .slice a2 n2 k2, .int .u64 lt] 69)
  have HBN := Lib.hid (Blk.new w9 #[.slice a1 n1 k1, .slice a2 n2 k2, .int .u64 lt] 69)
  have HO1 := Lib.hid (ownsRow_gr hga HO1.out)
  have HO2 := Lib.hid (ownsRow_gr hga HO2.out)
  have HS9 := Lib.hid HW9.out.size
  clear hga h10
  go_wp2
  go_ret
  obtain ⟨rfl, rfl, rfl⟩ := HN.out
  refine ⟨_, _, _, rfl, HS9.out, ⟨HS9.out, HFIN.out, HBN.out, HO1.out, HO2.out, ?_⟩, HFIN.out⟩
  rcases hq : Value.ownBlock (.slice a1 B.H.length k1) with _ | k
  · exact .inl rfl
  · exact .inr (fun e => by have := HS8.out k hq; have := HN2.out k e.symm; omega)
end Go.Proofs.YtmgpnpmdmelnkaaGreatDoor
namespace Go.Proofs.YtmgpnpmdmelnkaaGreatDoor
open Go.ChangeShapes Go.WideShapes Go.ChangeAt Go.RowKit Go.Deep
/-- What holds of each index holds of a list. -/
theorem list_of_all {α : Type} (n : Nat) (Q : Nat → α → Prop) (h : ∀ i, i < n → ∃ x, Q i x) : ∃ l : List α, l.length = n ∧ ∀ i (hi : i < l.length), Q i l[i] := by
  induction n with
  | zero => exact ⟨[], rfl, fun i hi => by simp at hi⟩
  | succ n ih =>
    obtain ⟨l, hl, hq⟩ := ih (fun i hi => h i (by omega))
    obtain ⟨x, hx⟩ := h n (by omega)
    refine ⟨l ++ [x], by simp [hl], fun i hi => ?_⟩
    by_cases hlt : i < l.length
    · rw [List.getElem_append_left hlt]; exact hq i hlt
    · have hin : i = n := by simp at hi; omega
      subst hin
      rw [List.getElem_append_right (by omega)]
      simpa [hl] using hx
theorem add_none (b off j : Nat) : (⟨b, off, none⟩ : Addr).add j = ⟨b, off + j, none⟩ := by unfold Addr.add; split <;> simp_all
/-- A thing that is written or taken. -/
structure PartD where
  K : Int
  U : Nat
  N : Int
  S : ByteArray
def PartD.ok (p : PartD) : Prop := (Lit.int .i64 p.K).wf = true ∧ p.U < 18446744073709551616 ∧ (Lit.int .i64 p.N).wf = true ∧ p.S.size ≤ 9223372036854775807
/-- The cells of a list of parts, four each, lie behind an address. -/
def PartRow (w : World) (a : Option Addr) (L : List PartD) : Prop :=
  L.length ≤ 9223372036854775807 ∧ (∀ p ∈ L, p.ok) ∧ (L = [] ∨ ∃ b off, a = some ⟨b, off, none⟩ ∧ ∀ i (h : i < L.length),
    w.cell? ⟨b, off + i * 4, none⟩ = some (.int .i64 L[i].K) ∧ w.cell? ⟨b, off + i * 4 + 1, none⟩ = some (.int .u64 (L[i].U : Int)) ∧
    w.cell? ⟨b, off + i * 4 + 2, none⟩ = some (.int .i64 L[i].N) ∧ w.cell? ⟨b, off + i * 4 + 3, none⟩ = some (.string L[i].S))
theorem PartRow.gr {w w' : World} {a : Option Addr} {L : List PartD} (h : PartRow w a L) (hg : Gr w w') : PartRow w' a L := by
  obtain ⟨h1, h2, h3⟩ := h
  refine ⟨h1, h2, h3.imp id ?_⟩
  rintro ⟨b, off, rfl, hc⟩
  refine ⟨b, off, rfl, fun i hi => ?_⟩
  obtain ⟨c0, c1, c2, c3⟩ := hc i hi
  exact ⟨hg.cell c0, hg.cell c1, hg.cell c2, hg.cell c3⟩
section
variable {H : Type} {enc : TypeId × Value → H} {P : Program} {w : World} {base : Nat} {spare : Nat → Bool} {held : Bool}
theorem part_struct {e : TypeId} {f0 f1 f2 f3 : Field} {fuel : Nat} {cs : List Value} {x : DataW H × List MemPlace} (he : P.underlying e = some (.struct #[f0, f1, f2, f3])) (hone : oneCellFields P #[f0, f1, f2, f3] = true)
    (e0 : P.underlying f0.type = some (.int .i64)) (e1 : P.underlying f1.type = some (.int .u64)) (e2 : P.underlying f2.type = some (.int .i64)) (e3 : P.underlying f3.type = some .string)
    (hC : P.cellsOf e = 4) (h : DataW.trod enc P w base spare held fuel e cs = some x) :
    ∃ p : PartD, p.ok ∧ cs = [.int .i64 p.K, .int .u64 (p.U : Int), .int .i64 p.N, .string p.S] := by
  obtain ⟨ys, n, _, _, hlen, hyl, hf⟩ := DataW.trod_struct he h
  rw [hC] at hlen
  match cs, hlen with
  | [c0, c1, c2, c3], _ =>
    have get : ∀ (j : Nat) (f : Field), (#[f0, f1, f2, f3] : Array Field)[j]? = some f → ∀ c, [c0, c1, c2, c3][j]? = some c → ∃ y, DataW.trod enc P w base spare held n f.type [c] = some y := by
      intro j f hj c hc
      obtain ⟨ho, hk⟩ := hone_of hone j f hj
      have h1 := hf j f hj
      rw [ho, hk] at h1
      have hjl : j < 4 := (Array.getElem?_eq_some_iff.1 hj).1
      have hys : ys[j]? = some (ys[j]'(by rw [hyl]; exact hjl)) := List.getElem?_eq_getElem _
      have hd : ([c0, c1, c2, c3].drop j).take 1 = [c] := by
        obtain ⟨hcl, hce⟩ := List.getElem?_eq_some_iff.1 hc
        rw [List.drop_eq_getElem_cons hcl, hce]; rfl
      rw [hd, hys] at h1
      exact ⟨_, h1⟩
    obtain ⟨y0, g0⟩ := get 0 f0 rfl c0 rfl
    obtain ⟨y1, g1⟩ := get 1 f1 rfl c1 rfl
    obtain ⟨y2, g2⟩ := get 2 f2 rfl c2 rfl
    obtain ⟨y3, g3⟩ := get 3 f3 rfl c3 rfl
    obtain ⟨K, hK, _, wK⟩ := DataW.trod_int e0 g0
    obtain ⟨U, hU, _, wU⟩ := DataW.trod_int e1 g1
    obtain ⟨N, hN, _, wN⟩ := DataW.trod_int e2 g2
    obtain ⟨S, hS, _, wS⟩ := DataW.trod_string e3 g3
    have hb := bounds_u64 wU
    refine ⟨⟨K, U.toNat, N, S⟩, ⟨wK, by show U.toNat < _; omega, wN, wS⟩, ?_⟩
    simp only [List.cons.injEq, and_true] at hK hU hN hS
    subst hK hU hN hS
    simp only [List.cons.injEq, Value.int.injEq, true_and, and_true]
    omega
theorem parts_open {t e : TypeId} {f0 f1 f2 f3 : Field} {fuel : Nat} {a : Option Addr} {len cap : Nat} {x : DataW H × List MemPlace} (ht : P.underlying t = some (.slice e)) (he : P.underlying e = some (.struct #[f0, f1, f2, f3])) (hone : oneCellFields P #[f0, f1, f2, f3] = true)
    (e0 : P.underlying f0.type = some (.int .i64)) (e1 : P.underlying f1.type = some (.int .u64)) (e2 : P.underlying f2.type = some (.int .i64)) (e3 : P.underlying f3.type = some .string)
    (hC : P.cellsOf e = 4) (h : DataW.trod enc P w base spare held fuel t (Value.slice a len cap).cells.toList = some x) : ∃ L : List PartD, len = L.length ∧ PartRow w a L := by
  rcases open_slice ht h with ⟨hcs, _⟩ | ⟨y, l, c, m, n, D, Pl, hcs, _, hl, hm, hmm, _, hi⟩
  · simp [Value.cells] at hcs
    obtain ⟨rfl, rfl, rfl⟩ := hcs
    exact ⟨[], rfl, by simp, by simp, .inl rfl⟩
  · simp [Value.cells] at hcs
    obtain ⟨rfl, rfl, rfl⟩ := hcs
    have hlm : len ≤ m := by rw [hmm]; split <;> omega
    have hmx : cap ≤ 9223372036854775807 := hm
    have each : ∀ i, i < len → ∃ p : PartD, p.ok ∧ w.cell? (y.add (i * 4)) = some (.int .i64 p.K) ∧ w.cell? ((y.add (i * 4)).add 1) = some (.int .u64 (p.U : Int)) ∧ w.cell? ((y.add (i * 4)).add 2) = some (.int .i64 p.N) ∧ w.cell? ((y.add (i * 4)).add 3) = some (.string p.S) := by
      intro i hil
      obtain ⟨cs', hc, htr⟩ := hi i (by omega)
      rw [hC] at hc
      obtain ⟨p, hp, rfl⟩ := part_struct he hone e0 e1 e2 e3 hC htr
      obtain ⟨_, _, hat⟩ := World.cells?_some hc
      refine ⟨p, hp, ?_, hat 1 (by omega), hat 2 (by omega), hat 3 (by omega)⟩
      have := hat 0 (by omega)
      simpa [Addr.add] using this
    obtain ⟨L, hL, hq⟩ := list_of_all len _ each
    refine ⟨L, hL.symm, by omega, ?_, ?_⟩
    · intro p hp
      obtain ⟨i, hi', rfl⟩ := List.getElem_of_mem hp
      exact (hq i hi').1
    · rcases Nat.eq_zero_or_pos len with h0 | h0
      · exact .inl (List.length_eq_zero_iff.1 (by omega))
      · obtain ⟨b, off, spot⟩ := y
        have hspot : spot = none := by
          have h1 := (hq 0 (by omega)).2.1
          simpa [Addr.add] using World.cell?_spot h1
        subst hspot
        refine .inr ⟨b, off, rfl, fun i hi' => ?_⟩
        obtain ⟨_, c0, c1, c2, c3⟩ := hq i hi'
        rw [add_none] at c0 c1 c2 c3
        rw [add_none] at c1 c2 c3
        exact ⟨c0, c1, c2, c3⟩
end
end Go.Proofs.YtmgpnpmdmelnkaaGreatDoor
namespace Go.Proofs.YtmgpnpmdmelnkaaGreatDoor
open Go.ChangeShapes Go.WideShapes Go.ChangeAt Go.RowKit Go.Deep
/-- Ways through a region that meet again: what follows is proved once, of any world of which S holds. -/
theorem cutS {G : World → Prop} {Q : Prop} (S : World → Prop) (main : (∀ w, S w → G w) → Q) (rest : ∀ w, S w → G w) : Q := main rest
theorem cutS3 {G : Nat → Nat → Nat → World → Prop} {Q : Prop} (S : Nat → Nat → Nat → World → Prop) (main : (∀ p q r w, S p q r w → G p q r w) → Q) (rest : ∀ p q r w, S p q r w → G p q r w) : Q := main rest
section
variable {H : Type} {enc : TypeId × Value → H} {P : Program} {w : World} {base : Nat} {spare : Nat → Bool} {held : Bool}
/-- A field of a struct reads as its type says. -/
theorem trod_field {t : TypeId} {fs : Array Field} {fuel : Nat} {cs : List Value} {x : DataW H × List MemPlace} (ht : P.underlying t = some (.struct fs)) (h : DataW.trod enc P w base spare held fuel t cs = some x) (i : Nat) (f : Field) (hf : fs[i]? = some f) :
    ∃ n y, DataW.trod enc P w base spare held n f.type ((cs.drop f.offset).take (P.cellsOf f.type)) = some y := by
  obtain ⟨ys, n, _, _, hlen, hyl, hg⟩ := DataW.trod_struct ht h
  have h1 := hg i f hf
  have hil : i < fs.size := (Array.getElem?_eq_some_iff.1 hf).1
  rw [List.getElem?_eq_getElem (by omega)] at h1
  exact ⟨n, _, h1⟩
theorem trod_len {t : TypeId} {fs : Array Field} {fuel : Nat} {cs : List Value} {x : DataW H × List MemPlace} (ht : P.underlying t = some (.struct fs)) (h : DataW.trod enc P w base spare held fuel t cs = some x) : cs.length = P.cellsOf t := by
  obtain ⟨ys, n, _, _, hlen, hyl, hg⟩ := DataW.trod_struct ht h
  exact hlen
theorem field_int {t : TypeId} {fs : Array Field} {fuel : Nat} {cs : List Value} {x : DataW H × List MemPlace} {k : IntKind} (ht : P.underlying t = some (.struct fs)) (h : DataW.trod enc P w base spare held fuel t cs = some x) (i : Nat) (f : Field) (hf : fs[i]? = some f)
    (ho : f.offset = i) (hc : P.cellsOf f.type = 1) (he : P.underlying f.type = some (.int k)) (c : Value) (hcs : cs[i]? = some c) : ∃ a : Int, (Lit.int k a).wf = true ∧ c = .int k a := by
  obtain ⟨n, y, h1⟩ := trod_field ht h i f hf
  obtain ⟨hcl, hce⟩ := List.getElem?_eq_some_iff.1 hcs
  rw [ho, hc, List.drop_eq_getElem_cons hcl, hce] at h1
  obtain ⟨a, ha, _, wa⟩ := DataW.trod_int he h1
  simp at ha
  exact ⟨a, wa, ha⟩
/-- Two numbers, a struct's cells. -/
theorem two_ints {t : TypeId} {f0 f1 : Field} {fuel : Nat} {cs : List Value} {x : DataW H × List MemPlace} {k0 k1 : IntKind} (ht : P.underlying t = some (.struct #[f0, f1])) (h : DataW.trod enc P w base spare held fuel t cs = some x)
    (hC : P.cellsOf t = 2) (o0 : f0.offset = 0) (o1 : f1.offset = 1) (c0 : P.cellsOf f0.type = 1) (c1 : P.cellsOf f1.type = 1) (e0 : P.underlying f0.type = some (.int k0)) (e1 : P.underlying f1.type = some (.int k1)) :
    ∃ a b : Int, (Lit.int k0 a).wf = true ∧ (Lit.int k1 b).wf = true ∧ cs = [.int k0 a, .int k1 b] := by
  have hl := trod_len ht h
  rw [hC] at hl
  match cs, hl, h with
  | [x0, x1], _, h =>
    obtain ⟨a, wa, ha⟩ := field_int ht h 0 f0 rfl o0 c0 e0 x0 rfl
    obtain ⟨b, wb, hb⟩ := field_int ht h 1 f1 rfl o1 c1 e1 x1 rfl
    exact ⟨a, b, wa, wb, by rw [ha, hb]⟩
/-- Two numbers, by value. -/
theorem open_two {r : Reach} {b0 : Nat} {t : TypeId} {f0 f1 : Field} {v : Value} {d : DataW H} {p : List MemPlace} {k0 k1 : IntKind} (ht : P.underlying t = some (.struct #[f0, f1])) (hv : Value.okWide P w r b0 t v) (h : DataW.Trod enc P w base spare held t v d p)
    (hC : P.cellsOf t = 2) (o0 : f0.offset = 0) (o1 : f1.offset = 1) (c0 : P.cellsOf f0.type = 1) (c1 : P.cellsOf f1.type = 1) (e0 : P.underlying f0.type = some (.int k0)) (e1 : P.underlying f1.type = some (.int k1)) :
    ∃ a b : Int, (Lit.int k0 a).wf = true ∧ (Lit.int k1 b).wf = true ∧ v = .agg #[.int k0 a, .int k1 b] := by
  obtain ⟨cs, rfl, hsz⟩ := okWide_struct ht hv
  obtain ⟨fuel, hf⟩ := h
  have hcells : (Value.agg cs).cells.toList = cs.toList := by simp [Value.cells]
  rw [hcells] at hf
  obtain ⟨a, b, wa, wb, e⟩ := two_ints ht hf hC o0 o1 c0 c1 e0 e1
  exact ⟨a, b, wa, wb, by rw [← e]⟩
/-- A configuration of the reference, by value. -/
theorem open_cfg {r : Reach} {b0 : Nat} {t k : TypeId} {f0 f1 f2 f3 f4 g0 g1 : Field} {v : Value} {d : DataW H} {p : List MemPlace} (ht : P.underlying t = some (.struct #[f0, f1, f2, f3, f4])) (hk : P.underlying k = some (.struct #[g0, g1])) (hv : Value.okWide P w r b0 t v) (h : DataW.Trod enc P w base spare held t v d p)
    (hC : P.cellsOf t = 7) (hK : P.cellsOf k = 2) (ho : [f0.offset, f1.offset, f2.offset, f3.offset, f4.offset, g0.offset, g1.offset] = [0, 1, 2, 3, 5, 0, 1]) (h3 : f3.type = k) (h4 : f4.type = k)
    (c0 : P.cellsOf f0.type = 1) (c1 : P.cellsOf f1.type = 1) (c2 : P.cellsOf f2.type = 1) (d0 : P.cellsOf g0.type = 1) (d1 : P.cellsOf g1.type = 1)
    (e0 : P.underlying f0.type = some (.int .i64)) (e1 : P.underlying f1.type = some (.int .i64)) (e2 : P.underlying f2.type = some (.int .u32)) (x0 : P.underlying g0.type = some (.int .i64)) (x1 : P.underlying g1.type = some (.int .i64)) :
    ∃ (R Q : Int) (W : Nat) (z1 n1 z2 n2 : Int), W < 4294967296 ∧ v = .agg #[.int .i64 R, .int .i64 Q, .int .u32 W, .int .i64 z1, .int .i64 n1, .int .i64 z2, .int .i64 n2] := by
  obtain ⟨cs, rfl, hsz⟩ := okWide_struct ht hv
  obtain ⟨fuel, hf⟩ := h
  have hcells : (Value.agg cs).cells.toList = cs.toList := by simp [Value.cells]
  rw [hcells] at hf
  simp only [List.cons.injEq, and_true] at ho
  obtain ⟨o0, o1, o2, o3, o4, p0, p1⟩ := ho
  have hl := trod_len ht hf
  rw [hC] at hl
  obtain ⟨l, hll⟩ : ∃ l, cs = List.toArray l := ⟨cs.toList, by simp⟩
  subst hll
  simp only at hl hf
  match l, hl, hf with
  | [y0, y1, y2, y3, y4, y5, y6], _, hf =>
    obtain ⟨a0, _, ha0⟩ := field_int ht hf 0 f0 rfl o0 c0 e0 y0 rfl
    obtain ⟨a1, _, ha1⟩ := field_int ht hf 1 f1 rfl o1 c1 e1 y1 rfl
    obtain ⟨a2, w2, ha2⟩ := field_int ht hf 2 f2 rfl o2 c2 e2 y2 rfl
    obtain ⟨n3, q3, t3⟩ := trod_field ht hf 3 f3 rfl
    obtain ⟨n4, q4, t4⟩ := trod_field ht hf 4 f4 rfl
    rw [o3, h3, hK] at t3
    rw [o4, h4, hK] at t4
    obtain ⟨a3, a4, _, _, ha34⟩ := two_ints hk t3 hK p0 p1 d0 d1 x0 x1
    obtain ⟨a5, a6, _, _, ha56⟩ := two_ints hk t4 hK p0 p1 d0 d1 x0 x1
    simp at ha34 ha56
    obtain ⟨rfl, rfl⟩ := ha34
    obtain ⟨rfl, rfl⟩ := ha56
    subst ha0 ha1 ha2
    have hb := bounds_u32 w2
    obtain ⟨W, rfl⟩ : ∃ W : Nat, a2 = W := ⟨a2.toNat, by omega⟩
    exact ⟨a0, a1, W, _, _, _, _, by omega, rfl⟩
end
end Go.Proofs.YtmgpnpmdmelnkaaGreatDoor
namespace Go.Proofs.YtmgpnpmdmelnkaaGreatDoor
open Go.ChangeShapes Go.WideShapes Go.ChangeAt Go.RowKit
/-- A slice of strings, as the form reads it. -/
theorem strs_open {H : Type} {enc : TypeId × Value → H} {P : Program} {w : World} {base : Nat} {spare : Nat → Bool} {held : Bool} {fuel : Nat} {t e : TypeId} {a : Option Addr} {len cap : Nat} {x : DataW H × List MemPlace}
    (ht : P.underlying t = some (.slice e)) (he : P.underlying e = some .string) (hc : P.cellsOf e = 1) (h : DataW.trod enc P w base spare held fuel t (Value.slice a len cap).cells.toList = some x) :
    ∃ ss : List ByteArray, len = ss.length ∧ Strs w a ss := by
  rcases open_strings ht he hc h with ⟨hcs, _⟩ | ⟨y, l, c, ss, hcs, _, hl, hm, hz, _, hcell, hws⟩
  · simp [Value.cells] at hcs
    obtain ⟨rfl, rfl, rfl⟩ := hcs
    exact ⟨[], rfl, by simp, by simp, .inl rfl⟩
  · simp [Value.cells] at hcs
    obtain ⟨rfl, rfl, rfl⟩ := hcs
    have hlen : len ≤ ss.length := by rw [hz]; split <;> omega
    have hmx : cap ≤ 9223372036854775807 := hm
    refine ⟨ss.take len, by simp; omega, fun s hs => hws s (List.mem_of_mem_take hs), by simp; omega, ?_⟩
    rcases Nat.eq_zero_or_pos len with h0 | h0
    · subst h0; exact .inl (by simp)
    · obtain ⟨b, off, spot⟩ := y
      have hc0 := hcell 0 (by omega)
      have hspot : spot = none := by simpa [Addr.add] using World.cell?_spot hc0
      subst hspot
      refine .inr ⟨b, off, rfl, fun i hi => ?_⟩
      have hi' : i < ss.length := by simp at hi; omega
      have := hcell i hi'
      have hadd : (⟨b, off, none⟩ : Addr).add i = ⟨b, off + i, none⟩ := by unfold Addr.add; split <;> simp_all
      rw [hadd] at this
      rw [this]
      simp [List.getD_eq_getElem?_getD, hi']
end Go.Proofs.YtmgpnpmdmelnkaaGreatDoor
namespace Go.Proofs.YtmgpnpmdmelnkaaGreatDoor
open Go.ChangeShapes Go.WideShapes Go.ChangeAt Go.RowKit Go.Deep
set_option linter.unusedVariables false
structure Act22 where
  K : Int
  S : Int
  pa : Option Addr
  pc : Nat
  Q : List ByteArray
  X : Bool
  Wt : Bool
def Act22.ok (p : Act22) : Prop := (Lit.int .i64 p.K).wf = true ∧ (Lit.int .i64 p.S).wf = true
def Act22At (w : World) (b o : Nat) (p : Act22) : Prop :=
  w.cell? ⟨b, o, none⟩ = some (.int .i64 p.K) ∧ w.cell? ⟨b, o + 1, none⟩ = some (.int .i64 p.S) ∧ w.cell? ⟨b, o + 2, none⟩ = some (.slice p.pa p.Q.length p.pc) ∧ w.cell? ⟨b, o + 3, none⟩ = some (.bool p.X) ∧ w.cell? ⟨b, o + 4, none⟩ = some (.bool p.Wt) ∧ Strs w p.pa p.Q
theorem Act22At.gr {w w' : World} {b o : Nat} {p : Act22} (h : Act22At w b o p) (hg : Gr w w') : Act22At w' b o p :=
  ⟨hg.cell h.1, hg.cell h.2.1, hg.cell h.2.2.1, hg.cell h.2.2.2.1, hg.cell h.2.2.2.2.1, h.2.2.2.2.2.gr hg⟩
def Act22Row (w : World) (a : Option Addr) (L : List Act22) : Prop :=
  L.length ≤ 9223372036854775807 ∧ (∀ p ∈ L, p.ok) ∧ (L = [] ∨ ∃ b off, a = some ⟨b, off, none⟩ ∧ ∀ i (h : i < L.length), Act22At w b (off + i * 5) L[i])
theorem Act22Row.gr {w w' : World} {a : Option Addr} {L : List Act22} (h : Act22Row w a L) (hg : Gr w w') : Act22Row w' a L := by
  obtain ⟨h1, h2, h3⟩ := h
  refine ⟨h1, h2, h3.imp id ?_⟩
  rintro ⟨b, off, rfl, hc⟩
  exact ⟨b, off, rfl, fun i hi => (hc i hi).gr hg⟩
theorem Act22Row.at {w : World} {a : Option Addr} {L : List Act22} (h : Act22Row w a L) (i : Nat) (hi : i < L.length) : ∃ b off, a = some ⟨b, off, none⟩ ∧ b < w.heap.size ∧ Act22At w b (off + i * 5) L[i] ∧ L[i].ok := by
  obtain ⟨_, h2, rfl | ⟨b, off, rfl, hc⟩⟩ := h
  · simp at hi
  · exact ⟨b, off, rfl, cell_lt (hc i hi).1, hc i hi, h2 _ (List.getElem_mem hi)⟩
section
variable {H : Type} {enc : TypeId × Value → H} {P : Program} {w : World} {base : Nat} {spare : Nat → Bool} {held : Bool}
theorem act22_field {t : TypeId} {fs : Array Field} {fuel : Nat} {cs : List Value} {x : DataW H × List MemPlace} (ht : P.underlying t = some (.struct fs)) (h : DataW.trod enc P w base spare held fuel t cs = some x) (i : Nat) (f : Field) (hf : fs[i]? = some f)
    (ho : f.offset = i) (hc : P.cellsOf f.type = 1) (c : Value) (hcs : cs[i]? = some c) : ∃ n y, DataW.trod enc P w base spare held n f.type [c] = some y := by
  obtain ⟨n, y, h1⟩ := trod_field ht h i f hf
  obtain ⟨hcl, hce⟩ := List.getElem?_eq_some_iff.1 hcs
  rw [ho, hc, List.drop_eq_getElem_cons hcl, hce] at h1
  exact ⟨n, y, h1⟩
theorem act22_struct {e : TypeId} {f0 f1 f2 f3 f4 : Field} {fuel : Nat} {cs : List Value} {x : DataW H × List MemPlace} (he : P.underlying e = some (.struct #[f0, f1, f2, f3, f4])) (ho : [f0.offset, f1.offset, f2.offset, f3.offset, f4.offset] = [0, 1, 2, 3, 4]) (hk : [P.cellsOf f0.type, P.cellsOf f1.type, P.cellsOf f2.type, P.cellsOf f3.type, P.cellsOf f4.type] = [1, 1, 1, 1, 1])
    (e0 : P.underlying f0.type = some (.int .i64)) (e1 : P.underlying f1.type = some (.int .i64)) {st : TypeId} (e2 : P.underlying f2.type = some (.slice st)) (es : P.underlying st = some .string) (ec : P.cellsOf st = 1) (e3 : P.underlying f3.type = some .bool) (e4 : P.underlying f4.type = some .bool)
    (hC : P.cellsOf e = 5) (h : DataW.trod enc P w base spare held fuel e cs = some x) :
    ∃ (p : Act22), p.ok ∧ Strs w p.pa p.Q ∧ cs = [.int .i64 p.K, .int .i64 p.S, .slice p.pa p.Q.length p.pc, .bool p.X, .bool p.Wt] := by
  have hlen := trod_len he h
  rw [hC] at hlen
  simp only [List.cons.injEq, and_true] at ho hk
  obtain ⟨o0, o1, o2, o3, o4⟩ := ho
  obtain ⟨k0, k1, k2, k3, k4⟩ := hk
  match cs, hlen, h with
  | [c0, c1, c2, c3, c4], _, h =>
    obtain ⟨n0, y0, g0⟩ := act22_field he h 0 f0 rfl o0 k0 c0 rfl
    obtain ⟨n1, y1, g1⟩ := act22_field he h 1 f1 rfl o1 k1 c1 rfl
    obtain ⟨n2, y2, g2⟩ := act22_field he h 2 f2 rfl o2 k2 c2 rfl
    obtain ⟨n3, y3, g3⟩ := act22_field he h 3 f3 rfl o3 k3 c3 rfl
    obtain ⟨n4, y4, g4⟩ := act22_field he h 4 f4 rfl o4 k4 c4 rfl
    obtain ⟨v0, hv0, _, wv0⟩ := DataW.trod_int e0 g0
    obtain ⟨v1, hv1, _, wv1⟩ := DataW.trod_int e1 g1
    have hform2 : ∃ a len cap, c2 = .slice a len cap := by
      rcases open_slice e2 g2 with ⟨hcs, _⟩ | ⟨y, l, c, m, n, D, Pl, hcs, _⟩
      · simp at hcs; exact ⟨_, _, _, hcs⟩
      · simp at hcs; exact ⟨_, _, _, hcs⟩
    obtain ⟨a2, l2, q2, rfl⟩ := hform2
    obtain ⟨v2, hv2, wv2⟩ := strs_open e2 es ec (a := a2) (len := l2) (cap := q2) (by simpa [Value.cells] using g2)
    obtain ⟨v3, hv3, _⟩ := DataW.trod_bool e3 g3
    obtain ⟨v4, hv4, _⟩ := DataW.trod_bool e4 g4
    simp only [List.cons.injEq, and_true] at hv0 hv1 hv3 hv4
    subst hv0 hv1 hv3 hv4 hv2
    exact ⟨⟨v0, v1, a2, q2, v2, v3, v4⟩, ⟨wv0, wv1⟩, wv2, rfl⟩
theorem act22_open {t e : TypeId} {f0 f1 f2 f3 f4 : Field} {fuel : Nat} {a : Option Addr} {len cap : Nat} {x : DataW H × List MemPlace} (ht : P.underlying t = some (.slice e)) (he : P.underlying e = some (.struct #[f0, f1, f2, f3, f4])) (ho : [f0.offset, f1.offset, f2.offset, f3.offset, f4.offset] = [0, 1, 2, 3, 4]) (hk : [P.cellsOf f0.type, P.cellsOf f1.type, P.cellsOf f2.type, P.cellsOf f3.type, P.cellsOf f4.type] = [1, 1, 1, 1, 1])
    (e0 : P.underlying f0.type = some (.int .i64)) (e1 : P.underlying f1.type = some (.int .i64)) {st : TypeId} (e2 : P.underlying f2.type = some (.slice st)) (es : P.underlying st = some .string) (ec : P.cellsOf st = 1) (e3 : P.underlying f3.type = some .bool) (e4 : P.underlying f4.type = some .bool)
    (hC : P.cellsOf e = 5) (h : DataW.trod enc P w base spare held fuel t (Value.slice a len cap).cells.toList = some x) : ∃ L : List Act22, len = L.length ∧ Act22Row w a L := by
  rcases open_slice ht h with ⟨hcs, _⟩ | ⟨y, l, c, m, n, D, Pl, hcs, _, hl, hm, hmm, _, hi⟩
  · simp [Value.cells] at hcs
    obtain ⟨rfl, rfl, rfl⟩ := hcs
    exact ⟨[], rfl, by simp, by simp, .inl rfl⟩
  · simp [Value.cells] at hcs
    obtain ⟨rfl, rfl, rfl⟩ := hcs
    have hlm : len ≤ m := by rw [hmm]; split <;> omega
    have hmx : cap ≤ 9223372036854775807 := hm
    have each : ∀ i, i < len → ∃ p : Act22, (p.ok ∧ Strs w p.pa p.Q) ∧ w.cell? (y.add (i * 5)) = some (.int .i64 p.K) ∧ w.cell? ((y.add (i * 5)).add 1) = some (.int .i64 p.S) ∧ w.cell? ((y.add (i * 5)).add 2) = some (.slice p.pa p.Q.length p.pc) ∧ w.cell? ((y.add (i * 5)).add 3) = some (.bool p.X) ∧ w.cell? ((y.add (i * 5)).add 4) = some (.bool p.Wt) := by
      intro i hil
      obtain ⟨cs', hc, htr⟩ := hi i (by omega)
      rw [hC] at hc
      obtain ⟨p, hp, hst, rfl⟩ := act22_struct he ho hk e0 e1 e2 es ec e3 e4 hC htr
      obtain ⟨_, _, hat⟩ := World.cells?_some hc
      refine ⟨p, ⟨hp, hst⟩, ?_, hat 1 (by omega), hat 2 (by omega), hat 3 (by omega), hat 4 (by omega)⟩
      have := hat 0 (by omega)
      simpa [Addr.add] using this
    obtain ⟨L, hL, hq⟩ := list_of_all len _ each
    refine ⟨L, hL.symm, by omega, ?_, ?_⟩
    · intro p hp
      obtain ⟨i, hi', rfl⟩ := List.getElem_of_mem hp
      exact (hq i hi').1.1
    · rcases Nat.eq_zero_or_pos len with h0 | h0
      · exact .inl (List.length_eq_zero_iff.1 (by omega))
      · obtain ⟨b, off, spot⟩ := y
        have hspot : spot = none := by
          have h1 := (hq 0 (by omega)).2.1
          simpa [Addr.add] using World.cell?_spot h1
        subst hspot
        refine .inr ⟨b, off, rfl, fun i hi' => ?_⟩
        obtain ⟨⟨_, hst⟩, c0, c1, c2, c3, c4⟩ := hq i hi'
        rw [add_none] at c0 c1 c2 c3 c4
        rw [add_none] at c1 c2 c3 c4
        exact ⟨c0, c1, c2, c3, c4, hst⟩
end
end Go.Proofs.YtmgpnpmdmelnkaaGreatDoor
namespace Go.Proofs.YtmgpnpmdmelnkaaGreatDoor
open Go.ChangeShapes Go.WideShapes Go.ChangeAt Go.RowKit
set_option linter.unusedVariables false
set_option linter.unusedSimpArgs false
/-- Three stores into a block of a book by value: rows that lie elsewhere. -/
theorem rrow_set3 {w : World} {c base : Nat} {a1 a2 b1 b2 : Option Addr} {n1 n2 c1 c2 m1 m2 d1 d2 : Nat} {k t : Int} {v : Value} {L : List RL} (hr : RRow22 w base v L) (hR : Blk w c #[.slice a1 n1 c1, .slice a2 n2 c2, .int .u64 k] 29) :
    RRow22 (((w.setCell ⟨c, 0, none⟩ (.slice b1 m1 d1)).setCell ⟨c, 1, none⟩ (.slice b2 m2 d2)).setCell ⟨c, 2, none⟩ (.int .u64 t)) base v L := by
  have R1 : Blk (w.setCell ⟨c, 0, none⟩ (.slice b1 m1 d1)) c #[.slice b1 m1 d1, .slice a2 n2 c2, .int .u64 k] 29 := hR.set 0 _
  have R2 : Blk ((w.setCell ⟨c, 0, none⟩ (.slice b1 m1 d1)).setCell ⟨c, 1, none⟩ (.slice b2 m2 d2)) c #[.slice b1 m1 d1, .slice b2 m2 d2, .int .u64 k] 29 := R1.set 1 _
  have hne := row_offL hR hr.1 (by decide)
  exact ⟨ownsRow_setCell_other (a := ⟨c, 2, none⟩) (ownsRow_setCell_other (a := ⟨c, 1, none⟩) (ownsRow_setCell_other (a := ⟨c, 0, none⟩) hr.1 hne _) hne _) hne _, fun x hx => lies_set (lies_set (lies_set (hr.2 x hx) hR (noStr3 _ _ _ _ _ _ _) _) R1 (noStr3 _ _ _ _ _ _ _) _) R2 (noStr3 _ _ _ _ _ _ _) _⟩
theorem bk_set3 {w0 w : World} {b c : Nat} {v1 v2 x1 x2 x3 : Value} {B : Bk} {cs : Array Value} (h : BkIs w0 w b v1 v2 B) (hR : Blk w c cs 29) (hw : w0.heap.size ≤ c) :
    BkIs w0 (((w.setCell ⟨c, 0, none⟩ x1).setCell ⟨c, 1, none⟩ x2).setCell ⟨c, 2, none⟩ x3) b v1 v2 B := by
  have hcb : c ≠ b := fun e => by
    have h1 : w.heap[b]? = some (.cells _ 69 (0, 0)) := h.blk
    have h2 : w.heap[c]? = some (.cells cs 29 (0, 0)) := hR
    rw [e, h1] at h2
    simp at h2
  have n1 := row_offL hR h.r1 (by decide)
  have n2 := row_offL hR h.r2 (by decide)
  exact ((h.setO hcb n1 n2 hw _).setO hcb n1 n2 hw _).setO hcb n1 n2 hw _
theorem doc_set3 {w0 w : World} {b c n : Nat} {v1 v2 vH vW : Value} {t0 : Int} {B : Bk} {H W : List RL} {a1 a2 b1 b2 : Option Addr} {n1 n2 c1 c2 m1 m2 d1 d2 : Nat} {k t : Int} (h : Doc22 w0 w b v1 v2 t0 n B vH vW H W) (hR : Blk w c #[.slice a1 n1 c1, .slice a2 n2 c2, .int .u64 k] 29) (hw : w0.heap.size ≤ c) :
    Doc22 w0 (((w.setCell ⟨c, 0, none⟩ (.slice b1 m1 d1)).setCell ⟨c, 1, none⟩ (.slice b2 m2 d2)).setCell ⟨c, 2, none⟩ (.int .u64 t)) b v1 v2 t0 n B vH vW H W :=
  ⟨bk_set3 h.bk hR hw, h.rel, rrow_set3 h.rH hR, rrow_set3 h.rW hR, fun x hx => (h.off x hx).gr (by simp [World.setCell])⟩
theorem blk_set3 {w : World} {c : Nat} {y1 y2 y3 x1 x2 x3 : Value} {t : TypeId} (hR : Blk w c #[y1, y2, y3] t) : Blk (((w.setCell ⟨c, 0, none⟩ x1).setCell ⟨c, 1, none⟩ x2).setCell ⟨c, 2, none⟩ x3) c #[x1, x2, x3] t := hR.store3 x1 x2 x3
theorem blk_set3o {w : World} {c d : Nat} {cs : Array Value} {x1 x2 x3 : Value} {t : TypeId} (hR : Blk w d cs t) (hne : d ≠ c) : Blk (((w.setCell ⟨c, 0, none⟩ x1).setCell ⟨c, 1, none⟩ x2).setCell ⟨c, 2, none⟩ x3) d cs t := ((hR.other hne 0 x1).other hne 1 x2).other hne 2 x3
theorem bk_rebase {w0 w1 w : World} {c : Nat} {y1 y2 : Value} {B : Bk} (h : BkIs w1 w c y1 y2 B) (hs : w0.heap.size ≤ w1.heap.size) (hg : Gr w0 w) : BkIs w0 w c y1 y2 B := ⟨Nat.le_trans hs h.base, hg, h.blk, owns_base h.r1 hs, owns_base h.r2 hs, h.ne⟩
theorem tag_ne {w : World} {b c : Nat} {cs ds : Array Value} {t u : TypeId} (h : Blk w b cs t) (k : Blk w c ds u) (hn : t ≠ u) : c ≠ b := fun e => by
  have h1 : w.heap[b]? = some (.cells cs t (0, 0)) := h
  have h2 : w.heap[c]? = some (.cells ds u (0, 0)) := k
  rw [e, h1] at h2
  simp only [Option.some.injEq, Obj.cells.injEq] at h2
  exact hn h2.2.1
/-- What a call of the law leaves: the books alike, the document's in a box of its own; the book's clone, and the document's book as it was. -/
def Did22 (W0 w : World) (b cb c c9 : Nat) (T : Int) (k : Nat) (B B2 : Bk) (y1 y2 vH vW : Value) (H W : List RL) : Prop :=
  ∃ u1 u2 a1 a2 n1 n2 e1 e2 H2 W2, Doc22 W0 w b u1 u2 T (k + 1) B2 (.slice a1 n1 e1) (.slice a2 n2 e2) H2 W2 ∧ Blk w c9 #[.slice a1 n1 e1, .slice a2 n2 e2, .int .u64 B2.last] 29 ∧ Blk w cb #[vH, vW, .int .u64 B.last] 29 ∧ RRow22 w 0 vH H ∧ RRow22 w 0 vW W ∧ BkIs W0 w c y1 y2 B ∧ cb ≠ c9 ∧ W0.heap.size ≤ c9
/-- The end of the call: its answer is stored in its box. -/
theorem did_end {W0 wr w4 w5 w6 : World} {b cb c c9 n m : Nat} {T : Int} {v1 v2 u1 u2 vH vW vH2 vW2 y1 y2 : Value} {B B2 : Bk} {H W H2 W2 : List RL} (hD : Doc22 W0 w4 b v1 v2 T n B vH vW H W) (hcb : Blk w4 cb #[vH, vW, .int .u64 B.last] 29) (hlo : wr.heap.size ≤ w4.heap.size) (hW0 : W0.heap.size ≤ wr.heap.size) (hv1 : ∀ k, v1.ownBlock = some k → k < wr.heap.size) (hv2 : ∀ k, v2.ownBlock = some k → k < wr.heap.size) (hb : b < wr.heap.size) (hcbr : cb < wr.heap.size) (hcb1 : cb ≠ b)
    (hc : BkIs W0 w4 c y1 y2 B) (hc0 : wr.heap.size ≤ c) (hy1 : ∀ k, y1.ownBlock = some k → wr.heap.size ≤ k) (hy2 : ∀ k, y2.ownBlock = some k → wr.heap.size ≤ k)
    (hF : Far2 b v1 v2 w4 w5) (f1 : From v1 w4 u1) (f2 : From v2 w4 u2) (hD2 : Doc22 W0 w5 b u1 u2 T (m + 1) B2 vH2 vW2 H2 W2) (hg : Gr w5 w6) (h9 : Blk w6 c9 #[.slice none 0 0, .slice none 0 0, .int .u64 0] 29) (h90 : wr.heap.size ≤ c9) :
    Did22 W0 (((w6.setCell ⟨c9, 0, none⟩ vH2).setCell ⟨c9, 1, none⟩ vW2).setCell ⟨c9, 2, none⟩ (.int .u64 B2.last)) b cb c c9 T m B B2 y1 y2 vH vW H W := by
  have past := hD.past hF f1 f2
  have hbl : ∀ k, wr.heap.size ≤ k → k ≠ b ∧ v1.ownBlock ≠ some k ∧ v2.ownBlock ≠ some k := fun k hk => ⟨by omega, fun e => by have := hv1 k e; omega, fun e => by have := hv2 k e; omega⟩
  have hcl := (bk_far22 (n := 0) hc hF hD2.bk.grown hbl hc0 hy1 hy2).gr hg
  have hcb5 : Blk w5 cb #[vH, vW, .int .u64 B.last] 29 := hcb.far22 hF hcb1 (row_offL hcb hD.bk.r1 (by decide)) (row_offL hcb hD.bk.r2 (by decide))
  obtain ⟨a1, e1, rfl, _⟩ := ownsRow_slice hD2.rH.1
  obtain ⟨a2, e2, rfl, _⟩ := ownsRow_slice hD2.rW.1
  have h9w : W0.heap.size ≤ c9 := Nat.le_trans hW0 h90
  exact ⟨u1, u2, a1, a2, _, _, e1, e2, H2, W2, doc_set3 (hD2.gr hg) h9 h9w, blk_set3 h9, blk_set3o (hcb5.gr hg) (by omega), rrow_set3 (past.1.gr hg) h9, rrow_set3 (past.2.1.gr hg) h9, bk_set3 hcl h9 h9w, by omega, h9w⟩
end Go.Proofs.YtmgpnpmdmelnkaaGreatDoor
