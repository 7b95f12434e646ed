import Derived.Test.YtmgpnpmdmelnkaaGreatDoorK1
import Derived.WalkKit
import Derived.ProofKit
import Derived.LoopTactic
import Derived.Outline
import Derived.WalkSpells
import Derived.WalkLawsBesides
import Derived.Lib.Hide
import Derived.Deep.LoopGhost
import Derived.Deep.QuietTactic
import Derived.BigQuiet
import Derived.ShutString
import Derived.Defers
import Derived.Recover
import Derived.LaidEql
import Derived.Stop.Asserts
import Derived.RowKitTokens
import Derived.Laws.Pointers
namespace Go.Proofs.YtmgpnpmdmelnkaaGreatDoor
open Go.ChangeShapes Go.WideShapes Go.ChangeAt Go.RowKit Go.Extern.Stop Go.Stop Go.Extern
set_option linter.unusedVariables false
theorem assFF (a : Option Addr) (w : World) : (Instr.typeAssert (.iface 137 (.pointer a)) 89 137 true).run Tryz.prog w = .ok (.tuple #[.pointer a, .bool true]) w := by kernel_rfl
theorem assNF (w : World) : (Instr.typeAssert .nilIface 89 137 true).run Tryz.prog w = .ok (.tuple #[.pointer none, .bool false]) w := by kernel_rfl
theorem assTT (a : Option Addr) (w : World) : (Instr.typeAssert (.iface 151 (.pointer a)) 20 151 true).run Tryz.prog w = .ok (.tuple #[.pointer a, .bool true]) w := by kernel_rfl
theorem assFU (v : Value) (w : World) : (Instr.typeAssert (.iface 137 v) 89 177 true).run Tryz.prog w = .ok (.tuple #[.iface 137 v, .bool true]) w :=
  run_typeAssert_hasB Tryz.underlying177 (by kernel_rfl) v _ w
theorem assNU (w : World) : (Instr.typeAssert .nilIface 89 177 true).run Tryz.prog w = .ok (.tuple #[.nilIface, .bool false]) w := by kernel_rfl
theorem assLU (v : Value) (w : World) : (Instr.typeAssert (.iface 150 v) 89 177 true).run Tryz.prog w = .ok (.tuple #[.iface 150 v, .bool true]) w :=
  run_typeAssert_hasB Tryz.underlying177 (by kernel_rfl) v _ w
theorem assLA (v : Value) (w : World) : (Instr.typeAssert (.iface 150 v) 89 174 true).run Tryz.prog w = .ok (.tuple #[.iface 150 v, .bool true]) w :=
  run_typeAssert_hasB Tryz.underlying174 (by kernel_rfl) v _ w
theorem nahFU (a : Option Addr) (w : World) : (nilAhead 314 137 (.pointer a) "Unwrap").run Tryz.prog w = .ok (some false) w := by kernel_rfl
theorem metFU (a : Option Addr) (w : World) : (Go.method 314 137 (.pointer a) "Unwrap").run Tryz.prog w = .ok (137, .pointer a) w := by kernel_rfl
theorem itself_fault (a : Option Addr) (w : World) :
    Calls Tryz.prog 141 #[.iface 137 (.pointer a)] w fun e w' => e = .returned (.pointer a) ∧ w = w' := by
  have h := assFF
  go_enter Tryz.func141, Tryz.ntmps141
  go_wp2
  go_ret
  exact ⟨rfl, rfl⟩
theorem itself_nil (w : World) :
    Calls Tryz.prog 141 #[.nilIface] w fun e w' => e = .returned (.pointer none) ∧ w = w' := by
  have h := assNF
  go_enter Tryz.func141, Tryz.ntmps141
  go_wp2
  go_ret
  exact ⟨rfl, rfl⟩
theorem catch_idle (p : Addr) (w : World) :
    CallsD Tryz.prog 143 #[.pointer (some p)] .returning w fun e u' w' => e = .returned (.tuple #[]) ∧ u' = .returning ∧ w' = w := by
  refine callsD_of_wpS Tryz.func143 rfl fun c₀ cs hu => ?_
  apply wpS_seq
  apply wpS_region
  simp [wpOpsS, go_sem, recoverD, hu, Tryz.ntmps143, Exit.thenS]
  refine wpS_cond (t := false) (by simp [Act.eval, Array.replicate]) ?_
  simp only [Bool.false_eq_true, if_false]
  refine wpS_of_wp (wp_skip ?_)
  cases c₀
  simp_all [bodyPostS, results, Tryz.results143]
theorem faultUnwrap_any (b : Nat) (v : Value) (w : World) (hc : w.cell? ⟨b, 2, none⟩ = some v) :
    Calls Tryz.prog 137 #[.pointer (some ⟨b, 0, none⟩)] w fun e w' => e = .returned v ∧ w = w' := by
  go_enter Tryz.func137, Tryz.ntmps137
  go_wp2
  go_ret
  exact ⟨rfl, rfl⟩
theorem inner_nil (w : World) :
    Calls Tryz.prog 142 #[.nilIface] w fun e w' => e = .returned .nilIface ∧ Gr w w' := by
  have hmf : ∀ (fn : Fn) (first cap : Array Value) (w : World), (Instr.makeFunc fn first cap).run Tryz.prog w = .ok (.func fn first cap) w := fun _ _ _ _ => rfl
  have aN := assNU
  go_enter_defers Tryz.func142, Tryz.ntmps142
  go_wp2
  refine leaves_cons (f := 143) (args := #[.pointer (some ⟨w.heap.size, 0, none⟩)]) (by simp) (by simp [go_sem]) ?_
  refine (catch_idle ⟨w.heap.size, 0, none⟩ _).mono ?_
  rintro e u' w'' ⟨rfl, rfl, rfl⟩
  simp [Leaves, settle, results, Tryz.results142, go_sem]
  exact (Gr.refl _).alloc _
/-- An error's value, as this program makes them. -/
def IsErr (v : Value) : Prop := v = .nilIface ∨ ∃ t a, v = .iface t (.pointer a)
theorem inner_fault (b : Nat) (v : Value) (w : World) (hv : IsErr v) (hc : w.cell? ⟨b, 2, none⟩ = some v) :
    Calls Tryz.prog 142 #[.iface 137 (.pointer (some ⟨b, 0, none⟩))] w fun e w' => e = .returned v ∧ Gr w w' := by
  have hmf : ∀ (fn : Fn) (first cap : Array Value) (w : World), (Instr.makeFunc fn first cap).run Tryz.prog w = .ok (.func fn first cap) w := fun _ _ _ _ => rfl
  have hb := cell_lt hc
  have aF := assFU
  have n1 := nahFU
  have m1 := metFU
  have HC := Lib.hid hc
  clear hc
  rcases hv with rfl | ⟨t, a, rfl⟩
  all_goals
    go_enter_defers Tryz.func142, Tryz.ntmps142
    go_wp2_with fail
    refine (faultUnwrap_any b _ _ (((Gr.refl w).alloc _).cell HC.out)).mono ?_
    rintro e w1 ⟨rfl, rfl⟩
    go_wp2
    refine leaves_cons (f := 143) (args := #[.pointer (some ⟨w.heap.size, 0, none⟩)]) (by simp) (by simp [go_sem]) ?_
    refine (catch_idle ⟨w.heap.size, 0, none⟩ _).mono ?_
    rintro e u' w'' ⟨rfl, rfl, rfl⟩
    simp [Leaves, settle, results, Tryz.results142, go_sem]
    exact (Gr.refl _).alloc _
/-- A chain's links: a fault's code and place. -/
inductive Lk
  | fault (c : Int) (s : ByteArray)
/-- An error's chain lies in memory. -/
def Chain (w : World) : Value → List Lk → Prop
  | v, [] => v = .nilIface
  | v, .fault c s :: L => ∃ b u, v = .iface 137 (.pointer (some ⟨b, 0, none⟩)) ∧ w.cell? ⟨b, 0, none⟩ = some (.int .i64 c) ∧ w.cell? ⟨b, 1, none⟩ = some (.string s) ∧ w.cell? ⟨b, 2, none⟩ = some u ∧ Chain w u L
theorem Chain.isErr {w : World} : ∀ {L : List Lk} {v : Value}, Chain w v L → IsErr v
  | [], _, h => .inl h
  | .fault _ _ :: _, _, ⟨_, _, h, _⟩ => .inr ⟨_, _, h⟩
theorem Chain.gr {w w' : World} (hg : Gr w w') : ∀ {L : List Lk} {v : Value}, Chain w v L → Chain w' v L
  | [], _, h => h
  | .fault _ _ :: _, _, ⟨b, u, h, c0, c1, c2, r⟩ => ⟨b, u, h, hg.cell c0, hg.cell c1, hg.cell c2, Chain.gr hg r⟩
/-- What inner returns: the rest of the chain. -/
theorem inner_any (v : Value) (L : List Lk) (W w : World) (h : Chain W v L) (hw : Gr W w) :
    Calls Tryz.prog 142 #[v] w fun e w' => (∃ u, e = .returned u ∧ Chain W u (L.drop 1)) ∧ Gr w w' := by
  match L, h with
  | [], h =>
    obtain rfl : v = .nilIface := h
    exact (inner_nil w).mono fun e w' ⟨he, hg⟩ => ⟨⟨_, he, rfl⟩, hg⟩
  | .fault _ _ :: L, ⟨b, u, h, c0, c1, c2, r⟩ =>
    subst h
    exact (inner_fault b u w r.isErr (hw.cell c2)).mono fun e w' ⟨he, hg⟩ => ⟨⟨_, he, r⟩, hg⟩
end Go.Proofs.YtmgpnpmdmelnkaaGreatDoor
