import Derived.Test.YtnanclgnjchpeaaC16
import Derived.Test.YtnanclgnjchpeaaC39
import Derived.WalkKit
import Derived.ProofKit
import Derived.LoopTactic
import Derived.Outline
import Derived.WalkSpells
import Derived.WalkLawsBesides
import Derived.Lib.Hide
import Derived.Deep.LoopGhost
import Derived.Deep.QuietTactic
import Derived.BigQuiet
import Derived.ShutString
import Derived.OpenShut
import Derived.ChangeOld
import Derived.Deep.Slices
import Derived.Deep.Fields
namespace Go.Proofs.Ytnanclgnjchpeaa
open Go.ChangeShapes Go.WideShapes Go.ChangeAt Go.RowKit Go.Deep
set_option linter.unusedVariables false
section
variable {H : Type} {enc : TypeId × Value → H} {P : Program} {w : World} {base : Nat} {spare : Nat → Bool} {held : Bool}
theorem open_run19 {r : Reach} {b0 : Nat} {t s e : TypeId} {f0 f1 f2 f3 g0 g1 g2 : Field} {v : Value} {d : DataW H} {p : List MemPlace} (ht : P.underlying t = some (.struct #[f0, f1, f2, f3])) (hs1 : f1.type = s) (hs : P.underlying s = some (.slice e)) (he : P.underlying e = some (.struct #[g0, g1, g2]))
    (hv : Value.okWide P w r b0 t v) (h : DataW.Trod enc P w base spare held t v d p)
    (hC : P.cellsOf t = 4) (ho : [f0.offset, f1.offset, f2.offset, f3.offset] = [0, 1, 2, 3])
    (c0 : P.cellsOf f0.type = 1) (c1 : P.cellsOf f1.type = 1) (c2 : P.cellsOf f2.type = 1) (c3 : P.cellsOf f3.type = 1)
    (e0 : P.underlying f0.type = some (.int .i64)) (e2 : P.underlying f2.type = some (.int .i64)) (e3 : P.underlying f3.type = some (.int .i64))
    (go : [g0.offset, g1.offset, g2.offset] = [0, 1, 2]) (gk : [P.cellsOf g0.type, P.cellsOf g1.type, P.cellsOf g2.type] = [1, 1, 1]) (x0 : P.underlying g0.type = some (.int .i64)) (x1 : P.underlying g1.type = some (.int .i64)) (x2 : P.underlying g2.type = some .string) (hE : P.cellsOf e = 3) :
    ∃ (N A B : Int) (L : List Act19) (a : Option Addr) (cap : Nat), v = .agg #[.int .i64 N, .slice a L.length cap, .int .i64 A, .int .i64 B] ∧ Act19Row w a L := by
  obtain ⟨cs, rfl, hsz⟩ := okWide_struct ht hv
  obtain ⟨fuel, hf⟩ := h
  have hcells : (Value.agg cs).cells.toList = cs.toList := by simp [Value.cells]
  rw [hcells] at hf
  simp only [List.cons.injEq, and_true] at ho
  obtain ⟨o0, o1, o2, o3⟩ := ho
  have hl := trod_len ht hf
  rw [hC] at hl
  obtain ⟨l, hll⟩ : ∃ l, cs = List.toArray l := ⟨cs.toList, by simp⟩
  subst hll
  simp only at hl hf
  match l, hl, hf with
  | [y0, y1, y2, y3], _, hf =>
    obtain ⟨a0, _, ha0⟩ := field_int ht hf 0 f0 rfl o0 c0 e0 y0 rfl
    obtain ⟨a2, _, ha2⟩ := field_int ht hf 2 f2 rfl o2 c2 e2 y2 rfl
    obtain ⟨a3, _, ha3⟩ := field_int ht hf 3 f3 rfl o3 c3 e3 y3 rfl
    obtain ⟨n1, q1, t1⟩ := trod_field ht hf 1 f1 rfl
    rw [o1, c1, hs1] at t1
    simp only [List.drop_succ_cons, List.drop_zero, List.take_succ_cons, List.take_zero] at t1
    have hform : ∃ a len cap, y1 = .slice a len cap := by
      rcases open_slice hs t1 with ⟨hcs, _⟩ | ⟨y, l, c, m, n, D, Pl, hcs, _⟩
      · simp at hcs; exact ⟨_, _, _, hcs⟩
      · simp at hcs; exact ⟨_, _, _, hcs⟩
    obtain ⟨a, len, cap, rfl⟩ := hform
    obtain ⟨L, rfl, hL⟩ := act19_open hs he go gk x0 x1 x2 hE (a := a) (len := len) (cap := cap) (by simpa [Value.cells] using t1)
    subst ha0 ha2 ha3
    exact ⟨a0, a2, a3, L, a, cap, rfl, hL⟩
end
end Go.Proofs.Ytnanclgnjchpeaa
