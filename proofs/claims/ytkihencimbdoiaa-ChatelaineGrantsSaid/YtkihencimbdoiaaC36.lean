import Derived.Test.YtkihencimbdoiaaC16
import Derived.Test.YtkihencimbdoiaaC06
import Derived.Test.YtkihencimbdoiaaC34
import Derived.WalkKit
import Derived.ProofKit
import Derived.LoopTactic
import Derived.Outline
import Derived.WalkSpells
import Derived.WalkLawsBesides
import Derived.Lib.Hide
import Derived.Deep.LoopGhost
import Derived.Deep.QuietTactic
import Derived.BigQuiet
import Derived.ShutString
import Derived.OpenShut
import Derived.ChangeOld
import Derived.Deep.Slices
import Derived.Deep.Fields
namespace Go.Proofs.Ytkihencimbdoiaa
open Go.ChangeShapes Go.WideShapes Go.ChangeAt Go.RowKit Go.Deep
set_option linter.unusedVariables false
section
variable {H : Type} {enc : TypeId × Value → H} {P : Program} {w : World} {base : Nat} {spare : Nat → Bool} {held : Bool}
/-- The argument of ChatelaineGrants, by value. -/
theorem open_asked {r : Reach} {b0 : Nat} {t s3 s4 e3 i3 e4 : TypeId} {h0 h1 h2 h3 h4 f0 f1 f2 f3 f4 f5 f6 f7 g0 g1 : Field} {v : Value} {d : DataW H} {p : List MemPlace} (ht : P.underlying t = some (.struct #[h0, h1, h2, h3, h4])) (hs3 : h3.type = s3) (hs4 : h4.type = s4)
    (u3 : P.underlying s3 = some (.slice e3)) (a3 : P.underlying e3 = some (.array 2 i3)) (x3 : P.underlying i3 = some (.int .i64)) (y3 : P.cellsOf i3 = 1) (z3 : P.cellsOf e3 = 2)
    (u4 : P.underlying s4 = some (.slice e4)) (he : P.underlying e4 = some (.struct #[f0, f1, f2, f3, f4, f5, f6, f7]))
    (hv : Value.okWide P w r b0 t v) (h : DataW.Trod enc P w base spare held t v d p)
    (hC0 : P.cellsOf t = 5) (ho0 : [h0.offset, h1.offset, h2.offset, h3.offset, h4.offset] = [0, 1, 2, 3, 4])
    (k0 : P.cellsOf h0.type = 1) (k1 : P.cellsOf h1.type = 1) (k2 : P.cellsOf h2.type = 1) (k3 : P.cellsOf h3.type = 1) (k4 : P.cellsOf h4.type = 1)
    (d0 : P.underlying h0.type = some (.int .i64)) (d1 : P.underlying h1.type = some (.int .i64)) (d2 : P.underlying h2.type = some (.int .i64))
    (ho : [f0.offset, f1.offset, f2.offset, f3.offset, f4.offset, f5.offset, f6.offset, f7.offset] = [0, 1, 2, 3, 4, 5, 6, 8]) (hk : [P.cellsOf f0.type, P.cellsOf f1.type, P.cellsOf f2.type, P.cellsOf f3.type, P.cellsOf f4.type, P.cellsOf f5.type, P.cellsOf f6.type, P.cellsOf f7.type] = [1, 1, 1, 1, 1, 1, 2, 1]) (hB : P.underlying f6.type = some (.struct #[g0, g1])) (ho2 : [g0.offset, g1.offset] = [0, 1]) (hk2 : [P.cellsOf g0.type, P.cellsOf g1.type] = [1, 1])
    (e0 : P.underlying f0.type = some (.int .i64)) (e1 : P.underlying f1.type = some (.int .i64)) (e2 : P.underlying f2.type = some (.int .i64)) (e3' : P.underlying f3.type = some (.int .i64)) (e4' : P.underlying f4.type = some (.int .i64)) (e5 : P.underlying f5.type = some (.int .i64)) (e6 : P.underlying g0.type = some (.int .u64)) (e7 : P.underlying g1.type = some (.int .i64)) (e8 : P.underlying f7.type = some .string)
    (hC : P.cellsOf e4 = 9) :
    ∃ (A B C : Int) (S : List (Int × Int)) (sa : Option Addr) (sc : Nat) (L : List Act16) (ra : Option Addr) (rc : Nat), v = .agg #[.int .i64 A, .int .i64 B, .int .i64 C, .slice sa S.length sc, .slice ra L.length rc] ∧ PairRow w sa S ∧ Act16Row w ra L := by
  obtain ⟨cs, rfl, hsz⟩ := okWide_struct ht hv
  obtain ⟨fuel, hf⟩ := h
  have hcells : (Value.agg cs).cells.toList = cs.toList := by simp [Value.cells]
  rw [hcells] at hf
  simp only [List.cons.injEq, and_true] at ho0
  obtain ⟨o0, o1, o2, o3, o4⟩ := ho0
  have hl := trod_len ht hf
  rw [hC0] at hl
  obtain ⟨l, hll⟩ : ∃ l, cs = List.toArray l := ⟨cs.toList, by simp⟩
  subst hll
  simp only at hl hf
  match l, hl, hf with
  | [q0, q1, q2, q3, q4], _, hf =>
    obtain ⟨a0, _, ha0⟩ := field_int ht hf 0 h0 rfl o0 k0 d0 q0 rfl
    obtain ⟨a1, _, ha1⟩ := field_int ht hf 1 h1 rfl o1 k1 d1 q1 rfl
    obtain ⟨a2, _, ha2⟩ := field_int ht hf 2 h2 rfl o2 k2 d2 q2 rfl
    obtain ⟨n3, m3, t3⟩ := trod_field ht hf 3 h3 rfl
    obtain ⟨n4, m4, t4⟩ := trod_field ht hf 4 h4 rfl
    rw [o3, k3, hs3] at t3
    rw [o4, k4, hs4] at t4
    simp only [List.drop_succ_cons, List.drop_zero, List.take_succ_cons, List.take_zero] at t3 t4
    have hform3 : ∃ a len cap, q3 = .slice a len cap := by
      rcases open_slice u3 t3 with ⟨hcs, _⟩ | ⟨y, l, c, m, n, D, Pl, hcs, _⟩
      · simp at hcs; exact ⟨_, _, _, hcs⟩
      · simp at hcs; exact ⟨_, _, _, hcs⟩
    have hform4 : ∃ a len cap, q4 = .slice a len cap := by
      rcases open_slice u4 t4 with ⟨hcs, _⟩ | ⟨y, l, c, m, n, D, Pl, hcs, _⟩
      · simp at hcs; exact ⟨_, _, _, hcs⟩
      · simp at hcs; exact ⟨_, _, _, hcs⟩
    obtain ⟨sa, sl, sc, rfl⟩ := hform3
    obtain ⟨ra, rl, rc, rfl⟩ := hform4
    obtain ⟨S, rfl, hS⟩ := pairs_open u3 a3 x3 y3 z3 (a := sa) (len := sl) (cap := sc) (by simpa [Value.cells] using t3)
    obtain ⟨L, rfl, hL⟩ := act16_open u4 he ho hk hB ho2 hk2 e0 e1 e2 e3' e4' e5 e6 e7 e8 hC (a := ra) (len := rl) (cap := rc) (by simpa [Value.cells] using t4)
    subst ha0 ha1 ha2
    exact ⟨a0, a1, a2, S, sa, sc, L, ra, rc, rfl, hS, hL⟩
end
end Go.Proofs.Ytkihencimbdoiaa
