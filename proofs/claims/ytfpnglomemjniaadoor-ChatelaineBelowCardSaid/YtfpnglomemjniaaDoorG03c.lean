import Derived.Test.YtfpnglomemjniaaDoorG03b
import Derived.WalkKit
import Derived.ProofKit
import Derived.LoopTactic
import Derived.Outline
import Derived.WalkSpells
import Derived.WalkLawsBesides
import Derived.Lib.Hide
import Derived.Deep.LoopGhost
import Derived.Deep.QuietTactic
import Derived.BigQuiet
import Derived.ShutString
import Derived.LaidEql
import Derived.Stop.Asserts
import Derived.RowKitTokens
import Derived.Laws.Pointers
namespace Go.Proofs.YtfpnglomemjniaaDoor
open Go.ChangeShapes Go.WideShapes Go.ChangeAt Go.RowKit Go.Extern.Stop Go.Stop Go.Extern
set_option linter.unusedVariables false
/-- The handle of a type. -/
theorem typeOfL (v : Value) (w : World) : (ReflectliteType.typeOf #[.iface 87 v]).run Tryd.prog w = .ok (.iface 113 (.agg #[.pointer (some ⟨4, 87, none⟩)])) w := by kernel_rfl
theorem metAssign (h : Value) (w : World) : (Go.method 261 113 (.agg #[h]) "AssignableTo").run Tryd.prog w = .ok (118, .agg #[h]) w := by kernel_rfl
theorem assignL (w : World) : (ReflectliteType.relation "AssignableTo" ReflectliteType.assignableTo #[.agg #[.pointer (some ⟨4, 87, none⟩)], .iface 113 (.agg #[.pointer (some ⟨4, 68, none⟩)])]).run Tryd.prog w = .ok (.bool false) w := by kernel_rfl
theorem metLA (a b : Value) (w : World) : (Go.method 261 87 (.agg #[a, b]) "As").run Tryd.prog w = .ok (108, .agg #[a, b]) w := by kernel_rfl
theorem metLU (a b : Value) (w : World) : (Go.method 261 87 (.agg #[a, b]) "Unwrap").run Tryd.prog w = .ok (110, .agg #[a, b]) w := by kernel_rfl
theorem nahLA (a b : Value) (w : World) : (nilAhead 261 87 (.agg #[a, b]) "As").run Tryd.prog w = .ok (some false) w := by kernel_rfl
theorem nahLU (a b : Value) (w : World) : (nilAhead 261 87 (.agg #[a, b]) "Unwrap").run Tryd.prog w = .ok (some false) w := by kernel_rfl
theorem eqLN (a b : Value) (w : World) : (binOp .eql 26 (.iface 87 (.agg #[a, b])) .nilIface).run Tryd.prog w = .ok (.bool false) w := by kernel_rfl
/-- The first fault of a chain. -/
def firstF : List Lk → Option (Int × ByteArray × List Lk)
  | [] => none
  | .fault c s :: L => some (c, s, L)
/-- A fault lies in block b. -/
def FaultAt (w : World) (b : Nat) (c : Int) (s : ByteArray) (L : List Lk) : Prop :=
  w.cell? ⟨b, 0, none⟩ = some (.int .i64 c) ∧ w.cell? ⟨b, 1, none⟩ = some (.string s) ∧ ∃ u, w.cell? ⟨b, 2, none⟩ = some u ∧ Chain w u L
theorem FaultAt.gr {w w' : World} {b : Nat} {c : Int} {s : ByteArray} {L : List Lk} (h : FaultAt w b c s L) (hg : Gr w w') : FaultAt w' b c s L := by
  obtain ⟨h0, h1, u, h2, h3⟩ := h
  exact ⟨hg.cell h0, hg.cell h1, u, hg.cell h2, h3.gr hg⟩
/-- What errors.as answers of a chain of links, the target in block t. -/
def AsIs (W : World) (t : Nat) (L : List Lk) (w : World) (e : Ending) (w' : World) : Prop :=
  match firstF L with
  | none => e = .returned (.bool false) ∧ Gr w w'
  | some (c, s, L') => e = .returned (.bool true) ∧ ∃ b, FaultAt W b c s L' ∧ Hits t (.pointer (some ⟨b, 0, none⟩)) w w'
theorem asIs_no {W : World} {t : Nat} {L : List Lk} {w w' : World} (h : Hid (firstF L = none)) (hg : Gr w w') : AsIs W t L w (.returned (.bool false)) w' := by
  unfold AsIs; rw [h.out]; exact ⟨rfl, hg⟩
theorem asIs_yes {W : World} {t b : Nat} {L L' : List Lk} {c : Int} {s : ByteArray} {w w' : World} (h : Hid (firstF L = some (c, s, L'))) (hf : FaultAt W b c s L') (hh : Hits t (.pointer (some ⟨b, 0, none⟩)) w w') : AsIs W t L w (.returned (.bool true)) w' := by
  unfold AsIs; rw [h.out]; exact ⟨rfl, b, hf, hh⟩
/-- How many links are left. -/
def leftOf (v : Value) : Nat := match v with
  | .iface _ (.agg a) => (intOf (a.getD 1 (.int .i64 0))).toNat
  | _ => 0
set_option maxRecDepth 100000 in
set_option maxHeartbeats 1000000 in
theorem as_links (v : Value) (L : List Lk) (n : Int) (t : Nat) (old tv : Value) (W w : World) (hn : L.length + 1 ≤ n) (hn2 : n ≤ 1000000) (h : Chain W v L) (hw : Gr W w) (ht : W.heap.size ≤ t) (hc : w.cell? ⟨t, 0, none⟩ = some old) (hf : w.frozen? ⟨t, 0, none⟩ = false) (a0 a1 a2 : Value) (htv : tv = .agg #[a0, a1, a2]) :
    Calls Tryd.prog 74 #[.iface 87 (.agg #[v, .int .i64 n]), .iface 88 (.pointer (some ⟨t, 0, none⟩)), tv, .iface 113 (.agg #[.pointer (some ⟨4, 68, none⟩)])] w (AsIs W t L w) := by
  subst htv
  have h34 := @run_callFunc_extern Tryd.prog 79 _ ReflectliteType.typeOf Tryd.func79 (by kernel_rfl) (by kernel_rfl) (by kernel_rfl) (by kernel_rfl)
  have h88 := @run_callFunc_extern Tryd.prog 118 _ (ReflectliteType.relation "AssignableTo" ReflectliteType.assignableTo) Tryd.func118 (by kernel_rfl) (by kernel_rfl) (by kernel_rfl) (by kernel_rfl)
  have f1 := typeOfL
  have f2 := metAssign
  have f3 := assignL
  have f4 := metLA
  have f5 := metLU
  have f6 := nahLA
  have f7 := nahLU
  have f8 := eqLN
  have f9 := assLU
  have f10 := assLA
  have f11 := eqNN
  have HV := Lib.hid h
  have HC := Lib.hid hc
  have HF := Lib.hid hf
  have hlt := cell_lt hc
  clear h hc hf
  go_enter Tryd.func74, Tryd.ntmps74
  go_wp2
  go_loopw [0] (fun x wr => ∃ (u : Value) (L1 : List Lk) (m : Int), x = .iface 87 (.agg #[u, .int .i64 m]) ∧ Hid (Chain W u L1) ∧ Hid (firstF L1 = firstF L) ∧ (L1.length + 1 ≤ m ∧ m ≤ 1000000) ∧ Hid (Gr w wr)) (fun x _ => leftOf x)
  case atStart => exact ⟨v, L, n, rfl, HV, Lib.hid rfl, ⟨hn, hn2⟩, Lib.hid ((Gr.refl _).alloc _)⟩
  case round =>
    obtain ⟨u, L1, m, rfl, hC, hF1, ⟨hm1, hm2⟩, hg⟩ := hrel
    match L1, hC, hF1, hm1 with
    | [], hC, hF1, hm1 =>
      obtain rfl : u = .nilIface := hC.out
      have HFF := Lib.hid (show firstF L = none from hF1.out.symm)
      clear hF1
      simp only [List.length_nil] at hm1
      go_wp2_with fail
      refine (linkAs_not _ ⟨t, 0, none⟩ _).mono ?_
      rintro e w4 ⟨rfl, g4⟩
      have hg4 := Lib.hid (hg.out.trans g4)
      clear g4
      go_wp2_with fail
      refine (linkUnwrap_any _ [] m W _ (by omega) hm2 hC.out (hw.trans hg4.out)).mono ?_
      rintro e w5 ⟨g5, h5⟩
      rcases h5 with ⟨_, rfl⟩ | ⟨u, hl, _⟩
      · have hg5 := Lib.hid (hg4.out.trans g5)
        clear g5
        go_wp2
        go_ret
        exact asIs_no HFF hg5.out
      · exfalso; simp at hl
    | .fault c s :: L2, hC, hF1, hm1 =>
      obtain ⟨b, u2, rfl, c0, c1, c2, cr⟩ := hC.out
      have HFA := Lib.hid (show FaultAt W b c s L2 from ⟨c0, c1, u2, c2, cr⟩)
      have HFF := Lib.hid (hF1.out.symm.trans (show firstF (.fault c s :: L2) = some (c, s, L2) from rfl))
      clear c0 c1 c2 cr hC hF1
      go_wp2_with fail
      refine (linkAs_fault b m t old _ (hg.out.cell HC.out) ((hg.out.frozen hlt).trans HF.out)).mono ?_
      rintro e w4 ⟨rfl, hh⟩
      have HH := Lib.hid (hh.before hg.out)
      clear hh
      go_wp2
      go_ret
      exact asIs_yes HFF HFA.out HH.out
end Go.Proofs.YtfpnglomemjniaaDoor
