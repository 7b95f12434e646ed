import Derived.Test.YtgbicckclepplaaDoorC00
import Derived.WalkKit
import Derived.ProofKit
import Derived.LoopTactic
import Derived.Outline
import Derived.WalkSpells
import Derived.WalkLawsBesides
import Derived.Lib.Hide
import Derived.Deep.LoopGhost
import Derived.Deep.QuietTactic
import Derived.BigQuiet
import Derived.ShutString
import Derived.Defers
import Derived.Recover
import Derived.LaidEql
import Derived.Stop.Asserts
import Derived.RowKitTokens
import Derived.Laws.Pointers
namespace Go.Proofs.YtgbicckclepplaaDoor
open Go.ChangeShapes Go.WideShapes Go.ChangeAt Go.RowKit Go.Extern.Stop Go.Stop Go.Extern
set_option linter.unusedVariables false
theorem assFF (a : Option Addr) (w : World) : (Instr.typeAssert (.iface 45 (.pointer a)) 26 45 true).run Tryd.prog w = .ok (.tuple #[.pointer a, .bool true]) w := by kernel_rfl
theorem assOF (v : Value) (w : World) : (Instr.typeAssert (.iface 58 v) 26 45 true).run Tryd.prog w = .ok (.tuple #[.pointer none, .bool false]) w := by kernel_rfl
theorem assNF (w : World) : (Instr.typeAssert .nilIface 26 45 true).run Tryd.prog w = .ok (.tuple #[.pointer none, .bool false]) w := by kernel_rfl
theorem assTT (a : Option Addr) (w : World) : (Instr.typeAssert (.iface 47 (.pointer a)) 20 47 true).run Tryd.prog w = .ok (.tuple #[.pointer a, .bool true]) w := by kernel_rfl
theorem assFU (v : Value) (w : World) : (Instr.typeAssert (.iface 45 v) 26 92 true).run Tryd.prog w = .ok (.tuple #[.iface 45 v, .bool true]) w :=
  run_typeAssert_hasB Tryd.underlying92 (by kernel_rfl) v _ w
theorem assOU (v : Value) (w : World) : (Instr.typeAssert (.iface 58 v) 26 92 true).run Tryd.prog w = .ok (.tuple #[.iface 58 v, .bool true]) w :=
  run_typeAssert_hasB Tryd.underlying92 (by kernel_rfl) v _ w
theorem assNU (w : World) : (Instr.typeAssert .nilIface 26 92 true).run Tryd.prog w = .ok (.tuple #[.nilIface, .bool false]) w := by kernel_rfl
theorem assLU (v : Value) (w : World) : (Instr.typeAssert (.iface 84 v) 26 92 true).run Tryd.prog w = .ok (.tuple #[.iface 84 v, .bool true]) w :=
  run_typeAssert_hasB Tryd.underlying92 (by kernel_rfl) v _ w
theorem assLA (v : Value) (w : World) : (Instr.typeAssert (.iface 84 v) 26 98 true).run Tryd.prog w = .ok (.tuple #[.iface 84 v, .bool true]) w :=
  run_typeAssert_hasB Tryd.underlying98 (by kernel_rfl) v _ w
theorem nahFU (a : Option Addr) (w : World) : (nilAhead 248 45 (.pointer a) "Unwrap").run Tryd.prog w = .ok (some false) w := by kernel_rfl
theorem metFU (a : Option Addr) (w : World) : (Go.method 248 45 (.pointer a) "Unwrap").run Tryd.prog w = .ok (28, .pointer a) w := by kernel_rfl
theorem nahOU (a : Option Addr) (w : World) : (nilAhead 248 58 (.pointer a) "Unwrap").run Tryd.prog w = .ok (some false) w := by kernel_rfl
theorem metOU (a : Option Addr) (w : World) : (Go.method 248 58 (.pointer a) "Unwrap").run Tryd.prog w = .ok (77, .pointer a) w := by kernel_rfl
theorem itself_fault (a : Option Addr) (w : World) :
    Calls Tryd.prog 75 #[.iface 45 (.pointer a)] w fun e w' => e = .returned (.pointer a) ∧ w = w' := by
  have h := assFF
  go_enter Tryd.func75, Tryd.ntmps75
  go_wp2
  go_ret
  exact ⟨rfl, rfl⟩
theorem itself_other (v : Value) (w : World) :
    Calls Tryd.prog 75 #[.iface 58 v] w fun e w' => e = .returned (.pointer none) ∧ w = w' := by
  have h := assOF
  go_enter Tryd.func75, Tryd.ntmps75
  go_wp2
  go_ret
  exact ⟨rfl, rfl⟩
theorem itself_nil (w : World) :
    Calls Tryd.prog 75 #[.nilIface] w fun e w' => e = .returned (.pointer none) ∧ w = w' := by
  have h := assNF
  go_enter Tryd.func75, Tryd.ntmps75
  go_wp2
  go_ret
  exact ⟨rfl, rfl⟩
theorem catch_idle (p : Addr) (w : World) :
    CallsD Tryd.prog 86 #[.pointer (some p)] .returning w fun e u' w' => e = .returned (.tuple #[]) ∧ u' = .returning ∧ w' = w := by
  refine callsD_of_wpS Tryd.func86 rfl fun c₀ cs hu => ?_
  apply wpS_seq
  apply wpS_region
  simp [wpOpsS, go_sem, recoverD, hu, Tryd.ntmps86, Exit.thenS]
  refine wpS_cond (t := false) (by simp [Act.eval, Array.replicate]) ?_
  simp only [Bool.false_eq_true, if_false]
  refine wpS_of_wp (wp_skip ?_)
  cases c₀
  simp_all [bodyPostS, results, Tryd.results86]
theorem faultUnwrap_any (b : Nat) (v : Value) (w : World) (hc : w.cell? ⟨b, 2, none⟩ = some v) :
    Calls Tryd.prog 28 #[.pointer (some ⟨b, 0, none⟩)] w fun e w' => e = .returned v ∧ w = w' := by
  go_enter Tryd.func28, Tryd.ntmps28
  go_wp2
  go_ret
  exact ⟨rfl, rfl⟩
theorem otherUnwrap_any (b : Nat) (v : Value) (w : World) (hc : w.cell? ⟨b, 0, none⟩ = some v) :
    Calls Tryd.prog 77 #[.pointer (some ⟨b, 0, none⟩)] w fun e w' => e = .returned v ∧ w = w' := by
  go_enter Tryd.func77, Tryd.ntmps77
  go_wp2
  go_ret
  exact ⟨rfl, rfl⟩
theorem inner_nil (w : World) :
    Calls Tryd.prog 85 #[.nilIface] w fun e w' => e = .returned .nilIface ∧ Gr w w' := by
  have hmf : ∀ (fn : Fn) (first cap : Array Value) (w : World), (Instr.makeFunc fn first cap).run Tryd.prog w = .ok (.func fn first cap) w := fun _ _ _ _ => rfl
  have aN := assNU
  go_enter_defers Tryd.func85, Tryd.ntmps85
  go_wp2
  refine leaves_cons (f := 86) (args := #[.pointer (some ⟨w.heap.size, 0, none⟩)]) (by simp) (by simp [go_sem]) ?_
  refine (catch_idle ⟨w.heap.size, 0, none⟩ _).mono ?_
  rintro e u' w'' ⟨rfl, rfl, rfl⟩
  simp [Leaves, settle, results, Tryd.results85, go_sem]
  exact (Gr.refl _).alloc _
/-- An error's value, as this program makes them. -/
def IsErr (v : Value) : Prop := v = .nilIface ∨ ∃ t a, v = .iface t (.pointer a)
theorem inner_fault (b : Nat) (v : Value) (w : World) (hv : IsErr v) (hc : w.cell? ⟨b, 2, none⟩ = some v) :
    Calls Tryd.prog 85 #[.iface 45 (.pointer (some ⟨b, 0, none⟩))] w fun e w' => e = .returned v ∧ Gr w w' := by
  have hmf : ∀ (fn : Fn) (first cap : Array Value) (w : World), (Instr.makeFunc fn first cap).run Tryd.prog w = .ok (.func fn first cap) w := fun _ _ _ _ => rfl
  have hb := cell_lt hc
  have aF := assFU
  have n1 := nahFU
  have m1 := metFU
  have HC := Lib.hid hc
  clear hc
  rcases hv with rfl | ⟨t, a, rfl⟩
  all_goals
    go_enter_defers Tryd.func85, Tryd.ntmps85
    go_wp2_with fail
    refine (faultUnwrap_any b _ _ (((Gr.refl w).alloc _).cell HC.out)).mono ?_
    rintro e w1 ⟨rfl, rfl⟩
    go_wp2
    refine leaves_cons (f := 86) (args := #[.pointer (some ⟨w.heap.size, 0, none⟩)]) (by simp) (by simp [go_sem]) ?_
    refine (catch_idle ⟨w.heap.size, 0, none⟩ _).mono ?_
    rintro e u' w'' ⟨rfl, rfl, rfl⟩
    simp [Leaves, settle, results, Tryd.results85, go_sem]
    exact (Gr.refl _).alloc _
theorem inner_other (b : Nat) (v : Value) (w : World) (hv : IsErr v) (hc : w.cell? ⟨b, 0, none⟩ = some v) :
    Calls Tryd.prog 85 #[.iface 58 (.pointer (some ⟨b, 0, none⟩))] w fun e w' => e = .returned v ∧ Gr w w' := by
  have hmf : ∀ (fn : Fn) (first cap : Array Value) (w : World), (Instr.makeFunc fn first cap).run Tryd.prog w = .ok (.func fn first cap) w := fun _ _ _ _ => rfl
  have hb := cell_lt hc
  have aF := assOU
  have n1 := nahOU
  have m1 := metOU
  have HC := Lib.hid hc
  clear hc
  rcases hv with rfl | ⟨t, a, rfl⟩
  all_goals
    go_enter_defers Tryd.func85, Tryd.ntmps85
    go_wp2_with fail
    refine (otherUnwrap_any b _ _ (((Gr.refl w).alloc _).cell HC.out)).mono ?_
    rintro e w1 ⟨rfl, rfl⟩
    go_wp2
    refine leaves_cons (f := 86) (args := #[.pointer (some ⟨w.heap.size, 0, none⟩)]) (by simp) (by simp [go_sem]) ?_
    refine (catch_idle ⟨w.heap.size, 0, none⟩ _).mono ?_
    rintro e u' w'' ⟨rfl, rfl, rfl⟩
    simp [Leaves, settle, results, Tryd.results85, go_sem]
    exact (Gr.refl _).alloc _
/-- A chain's links: an error of another kind, or a fault's code and place. -/
inductive Lk
  | other
  | fault (c : Int) (s : ByteArray)
/-- An error's chain lies in memory. -/
def Chain (w : World) : Value → List Lk → Prop
  | v, [] => v = .nilIface
  | v, .other :: L => ∃ b u, v = .iface 58 (.pointer (some ⟨b, 0, none⟩)) ∧ w.cell? ⟨b, 0, none⟩ = some u ∧ Chain w u L
  | v, .fault c s :: L => ∃ b u, v = .iface 45 (.pointer (some ⟨b, 0, none⟩)) ∧ w.cell? ⟨b, 0, none⟩ = some (.int .i64 c) ∧ w.cell? ⟨b, 1, none⟩ = some (.string s) ∧ w.cell? ⟨b, 2, none⟩ = some u ∧ Chain w u L
theorem Chain.isErr {w : World} : ∀ {L : List Lk} {v : Value}, Chain w v L → IsErr v
  | [], _, h => .inl h
  | .other :: _, _, ⟨_, _, h, _⟩ => .inr ⟨_, _, h⟩
  | .fault _ _ :: _, _, ⟨_, _, h, _⟩ => .inr ⟨_, _, h⟩
theorem Chain.gr {w w' : World} (hg : Gr w w') : ∀ {L : List Lk} {v : Value}, Chain w v L → Chain w' v L
  | [], _, h => h
  | .other :: _, _, ⟨b, u, h, c, r⟩ => ⟨b, u, h, hg.cell c, Chain.gr hg r⟩
  | .fault _ _ :: _, _, ⟨b, u, h, c0, c1, c2, r⟩ => ⟨b, u, h, hg.cell c0, hg.cell c1, hg.cell c2, Chain.gr hg r⟩
/-- What inner returns: the rest of the chain. -/
theorem inner_any (v : Value) (L : List Lk) (W w : World) (h : Chain W v L) (hw : Gr W w) :
    Calls Tryd.prog 85 #[v] w fun e w' => (∃ u, e = .returned u ∧ Chain W u (L.drop 1)) ∧ Gr w w' := by
  match L, h with
  | [], h =>
    obtain rfl : v = .nilIface := h
    exact (inner_nil w).mono fun e w' ⟨he, hg⟩ => ⟨⟨_, he, rfl⟩, hg⟩
  | .other :: L, ⟨b, u, h, c, r⟩ =>
    subst h
    exact (inner_other b u w r.isErr (hw.cell c)).mono fun e w' ⟨he, hg⟩ => ⟨⟨_, he, r⟩, hg⟩
  | .fault _ _ :: L, ⟨b, u, h, c0, c1, c2, r⟩ =>
    subst h
    exact (inner_fault b u w r.isErr (hw.cell c2)).mono fun e w' ⟨he, hg⟩ => ⟨⟨_, he, r⟩, hg⟩
end Go.Proofs.YtgbicckclepplaaDoor
