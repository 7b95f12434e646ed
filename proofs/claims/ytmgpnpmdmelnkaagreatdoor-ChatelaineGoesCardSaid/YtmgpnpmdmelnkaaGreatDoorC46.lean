import Derived.Test.YtmgpnpmdmelnkaaGreatDoorC18
import Derived.Test.YtmgpnpmdmelnkaaGreatDoorC45
import Derived.WalkKit
import Derived.ProofKit
import Derived.LoopTactic
import Derived.Outline
import Derived.WalkSpells
import Derived.WalkLawsBesides
import Derived.Lib.Hide
import Derived.Deep.LoopGhost
import Derived.Deep.QuietTactic
import Derived.BigQuiet
import Derived.ShutString
import Derived.OpenShut
import Derived.ChangeOld
import Derived.Deep.Slices
import Derived.Deep.Fields
namespace Go.Proofs.YtmgpnpmdmelnkaaGreatDoor
open Go.ChangeShapes Go.WideShapes Go.ChangeAt Go.RowKit Go.Deep
set_option linter.unusedVariables false
section
variable {H : Type} {enc : TypeId × Value → H} {P : Program} {w : World} {base : Nat} {spare : Nat → Bool} {held : Bool}
theorem open_left {r : Reach} {b0 : Nat} {t s e so eo : TypeId} {f0 f1 f2 f3 g0 g1 g2 g3 g4 : Field} {v : Value} {d : DataW H} {p : List MemPlace} (ht : P.underlying t = some (.struct #[f0, f1, f2, f3])) (hs1 : f1.type = s) (hs : P.underlying s = some (.slice e)) (he : P.underlying e = some (.struct #[g0, g1, g2, g3, g4]))
    (hs3 : f3.type = so) (ho3 : P.underlying so = some (.slice eo)) (heo : P.underlying eo = some (.int .i64)) (hco : P.cellsOf eo = 1)
    (hv : Value.okWide P w r b0 t v) (h : DataW.Trod enc P w base spare held t v d p)
    (hC : P.cellsOf t = 4) (ho : [f0.offset, f1.offset, f2.offset, f3.offset] = [0, 1, 2, 3])
    (c0 : P.cellsOf f0.type = 1) (c1 : P.cellsOf f1.type = 1) (c2 : P.cellsOf f2.type = 1) (c3 : P.cellsOf f3.type = 1)
    (e0 : P.underlying f0.type = some (.int .u64)) (e2 : P.underlying f2.type = some (.int .i64))
    (go : [g0.offset, g1.offset, g2.offset, g3.offset, g4.offset] = [0, 1, 2, 3, 4]) (gk : [P.cellsOf g0.type, P.cellsOf g1.type, P.cellsOf g2.type, P.cellsOf g3.type, P.cellsOf g4.type] = [1, 1, 1, 1, 1]) (x0 : P.underlying g0.type = some (.int .i64)) (x1 : P.underlying g1.type = some (.int .i64)) {st : TypeId} (x2 : P.underlying g2.type = some (.slice st)) (xs : P.underlying st = some .string) (xc : P.cellsOf st = 1) (x3 : P.underlying g3.type = some .bool) (x4 : P.underlying g4.type = some .bool) (hE : P.cellsOf e = 5) :
    ∃ (T M : Int) (L : List Act22) (a : Option Addr) (cap : Nat) (O : List Int) (oa : Option Addr) (oc : Nat), v = .agg #[.int .u64 T, .slice a L.length cap, .int .i64 M, .slice oa O.length oc] ∧ (Lit.int .u64 T).wf = true ∧ Act22Row w a L ∧ Ints w oa O := by
  obtain ⟨cs, rfl, hsz⟩ := okWide_struct ht hv
  obtain ⟨fuel, hf⟩ := h
  have hcells : (Value.agg cs).cells.toList = cs.toList := by simp [Value.cells]
  rw [hcells] at hf
  simp only [List.cons.injEq, and_true] at ho
  obtain ⟨o0, o1, o2, o3⟩ := ho
  have hl := trod_len ht hf
  rw [hC] at hl
  obtain ⟨l, hll⟩ : ∃ l, cs = List.toArray l := ⟨cs.toList, by simp⟩
  subst hll
  simp only at hl hf
  match l, hl, hf with
  | [y0, y1, y2, y3], _, hf =>
    obtain ⟨a0, wf0, ha0⟩ := field_int ht hf 0 f0 rfl o0 c0 e0 y0 rfl
    obtain ⟨a2, _, ha2⟩ := field_int ht hf 2 f2 rfl o2 c2 e2 y2 rfl
    obtain ⟨n1, q1, t1⟩ := trod_field ht hf 1 f1 rfl
    obtain ⟨n3, q3, t3⟩ := trod_field ht hf 3 f3 rfl
    rw [o1, c1, hs1] at t1
    rw [o3, c3, hs3] at t3
    simp only [List.drop_succ_cons, List.drop_zero, List.take_succ_cons, List.take_zero] at t1 t3
    have hform : ∃ a len cap, y1 = .slice a len cap := by
      rcases open_slice hs t1 with ⟨hcs, _⟩ | ⟨y, l, c, m, n, D, Pl, hcs, _⟩
      · simp at hcs; exact ⟨_, _, _, hcs⟩
      · simp at hcs; exact ⟨_, _, _, hcs⟩
    have hform3 : ∃ a len cap, y3 = .slice a len cap := by
      rcases open_slice ho3 t3 with ⟨hcs, _⟩ | ⟨y, l, c, m, n, D, Pl, hcs, _⟩
      · simp at hcs; exact ⟨_, _, _, hcs⟩
      · simp at hcs; exact ⟨_, _, _, hcs⟩
    obtain ⟨a, len, cap, rfl⟩ := hform
    obtain ⟨oa, olen, oc, rfl⟩ := hform3
    obtain ⟨L, rfl, hL⟩ := act22_open hs he go gk x0 x1 x2 xs xc x3 x4 hE (a := a) (len := len) (cap := cap) (by simpa [Value.cells] using t1)
    obtain ⟨O, rfl, hO⟩ := ints_open ho3 heo hco (a := oa) (len := olen) (cap := oc) (by simpa [Value.cells] using t3)
    subst ha0 ha2
    exact ⟨a0, a2, L, a, cap, O, oa, oc, rfl, wf0, hL, hO⟩
end
end Go.Proofs.YtmgpnpmdmelnkaaGreatDoor
