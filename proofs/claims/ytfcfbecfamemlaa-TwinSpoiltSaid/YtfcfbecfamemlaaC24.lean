import Derived.Test.YtfcfbecfamemlaaC23
import Derived.Test.YtfcfbecfamemlaaC03
import Derived.WalkKit
import Derived.ProofKit
import Derived.LoopTactic
import Derived.Outline
import Derived.WalkSpells
import Derived.WalkLawsBesides
import Derived.Lib.Hide
import Derived.Deep.LoopGhost
import Derived.Deep.QuietTactic
import Derived.BigQuiet
import Derived.ShutString
import Derived.OpenShut
import Derived.ChangeOld
import Derived.Deep.Slices
import Derived.Deep.Fields
namespace Go.Proofs.Ytfcfbecfamemlaa
open Go.ChangeShapes Go.WideShapes Go.ChangeAt Go.RowKit Go.Deep
set_option linter.unusedVariables false
section
variable {H : Type} {enc : TypeId × Value → H} {P : Program} {w : World} {base : Nat} {spare : Nat → Bool} {held : Bool}
/-- Texts, a truth, a number and a byte, by value. -/
theorem open_spd {r : Reach} {b0 : Nat} {t g : TypeId} {f0 f1 f2 f3 : Field} {v : Value} {d : DataW H} {p : List MemPlace} (ht : P.underlying t = some (.struct #[f0, f1, f2, f3])) (hv : Value.okWide P w r b0 t v) (h : DataW.Trod enc P w base spare held t v d p)
    (hC : P.cellsOf t = 4) (ho : [f0.offset, f1.offset, f2.offset, f3.offset] = [0, 1, 2, 3]) (hk : [P.cellsOf f0.type, P.cellsOf f1.type, P.cellsOf f2.type, P.cellsOf f3.type] = [1, 1, 1, 1])
    (e0 : P.underlying f0.type = some (.slice g)) (hg : P.underlying g = some .string) (hgc : P.cellsOf g = 1) (e1 : P.underlying f1.type = some .bool) (e2 : P.underlying f2.type = some (.int .i64)) (e3 : P.underlying f3.type = some (.int .u8)) :
    ∃ (ss : List ByteArray) (a : Option Addr) (c : Nat) (q : Bool) (n : Int) (y : Nat), Strs w a ss ∧ (Lit.int .i64 n).wf = true ∧ y < 256 ∧ v = .agg #[.slice a ss.length c, .bool q, .int .i64 n, .int .u8 (y : Nat)] := by
  obtain ⟨cs, rfl, hsz⟩ := okWide_struct ht hv
  obtain ⟨fuel, hf⟩ := h
  have hcells : (Value.agg cs).cells.toList = cs.toList := by simp [Value.cells]
  rw [hcells] at hf
  simp only [List.cons.injEq, and_true] at ho hk
  obtain ⟨o0, o1, o2, o3⟩ := ho
  obtain ⟨k0, k1, k2, k3⟩ := hk
  have hl := trod_len ht hf
  rw [hC] at hl
  obtain ⟨l, hll⟩ : ∃ l, cs = List.toArray l := ⟨cs.toList, by simp⟩
  subst hll
  simp only at hl hf
  match l, hl, hf with
  | [c0, c1, c2, c3], _, hf =>
    obtain ⟨n0, y0, g0⟩ := field_one ht hf 0 f0 rfl o0 k0 c0 rfl
    obtain ⟨n1, y1, g1⟩ := field_one ht hf 1 f1 rfl o1 k1 c1 rfl
    obtain ⟨n2, y2, g2⟩ := field_one ht hf 2 f2 rfl o2 k2 c2 rfl
    obtain ⟨n3, y3, g3⟩ := field_one ht hf 3 f3 rfl o3 k3 c3 rfl
    obtain ⟨q, hq, _⟩ := DataW.trod_bool e1 g1
    obtain ⟨N, hN, _, wN⟩ := DataW.trod_int e2 g2
    obtain ⟨Y, hY, _, wY⟩ := DataW.trod_int e3 g3
    simp only [List.cons.injEq, and_true] at hq hN hY
    subst hq hN hY
    have hb := bounds_u8 wY
    obtain ⟨y, rfl⟩ : ∃ y : Nat, Y = (y : Int) := ⟨Y.toNat, by omega⟩
    rcases DataW.trod_slice e0 g0 with ⟨hs, _⟩ | ⟨ad, ln, cp, _, _, _, _, hs, _, _, hle, _, _, _, _, _⟩
    · simp only [List.cons.injEq, and_true] at hs
      subst hs
      exact ⟨[], none, 0, q, N, y, ⟨by simp, by simp, .inl rfl⟩, wN, by omega, rfl⟩
    · simp only [List.cons.injEq, and_true] at hs
      subst hs
      obtain ⟨ss, hss, hst⟩ := strs_open (a := some ad) (len := ln) (cap := cp) e0 hg hgc g0
      subst hss
      exact ⟨ss, some ad, cp, q, N, y, hst, wN, by omega, rfl⟩
end
end Go.Proofs.Ytfcfbecfamemlaa
