import Derived.Test.YtmgpnpmdmelnkaaGreatDoorG03
import Derived.Test.YtmgpnpmdmelnkaaGreatDoorC07
import Derived.WalkKit
import Derived.ProofKit
import Derived.LoopTactic
import Derived.Outline
import Derived.WalkSpells
import Derived.WalkLawsBesides
import Derived.Lib.Hide
import Derived.Deep.LoopGhost
import Derived.Deep.QuietTactic
import Derived.BigQuiet
import Derived.ShutString
import Derived.LaidEql
import Derived.Stop.Asserts
import Derived.RowKitTokens
import Derived.Laws.Pointers
namespace Go.Proofs.YtmgpnpmdmelnkaaGreatDoor
open Go.ChangeShapes Go.WideShapes Go.ChangeAt Go.RowKit Go.Extern.Stop Go.Stop Go.Extern
set_option linter.unusedVariables false
/-- The next link of a chain. -/
def NextIs (W : World) (n : Int) (L : List Lk) (w : World) (e : Ending) (w' : World) : Prop :=
  Gr w w' ∧ (L.length ≤ 1 ∧ e = .returned .nilIface ∨ ∃ u, 2 ≤ L.length ∧ e = .returned (.iface 150 (.agg #[u, .int .i64 (n - 1)])) ∧ Chain W u (L.drop 1))
theorem eqNN (w : World) : (binOp .eql 89 .nilIface .nilIface).run Tryz.prog w = .ok (.bool true) w := by kernel_rfl
theorem eqIN (t : TypeId) (a : Option Addr) (w : World) : (binOp .eql 89 (.iface t (.pointer a)) .nilIface).run Tryz.prog w = .ok (.bool false) w := by kernel_rfl
theorem linkUnwrap_any (v : Value) (L : List Lk) (n : Int) (W w : World) (hn : 1 ≤ n) (hn2 : n ≤ 1000000) (h : Chain W v L) (hw : Gr W w) :
    Calls Tryz.prog 140 #[.agg #[v, .int .i64 n]] w (NextIs W n L w) := by
  have q1 := eqNN
  have q2 := eqIN
  have H := Lib.hid h
  rcases h.isErr with rfl | ⟨t, a, rfl⟩
  all_goals
    clear h
    go_enter Tryz.func140, Tryz.ntmps140
    go_wp2_with fail
    refine (inner_any _ L W _ H.out (hw.alloc _)).mono ?_
    rintro e w1 ⟨⟨u, rfl, hu⟩, hg⟩
    have c0 : w1.cell? ⟨w.heap.size, 0, none⟩ = _ := hg.own.1 0 _ rfl
    have c1 : w1.cell? ⟨w.heap.size, 1, none⟩ = some (.int .i64 n) := hg.own.1 1 _ rfl
    have hgw := Lib.hid (((Gr.refl w).alloc _).trans hg)
    have HU := Lib.hid hu
    rcases hu.isErr with rfl | ⟨t2, a2, rfl⟩
    · have hL : L.drop 1 = [] := by
        match hD : L.drop 1, hu with
        | [], _ => rfl
        | .fault _ _ :: _, ⟨_, _, h, _⟩ => cases h
      have hl : L.length ≤ 1 := by have := congrArg List.length hL; simp at this; omega
      clear hu hg hL
      go_wp2
      go_ret
      exact ⟨hgw.out, .inl ⟨hl, rfl⟩⟩
    · have hl : 2 ≤ L.length := by
        rcases Nat.lt_or_ge L.length 2 with h1 | h1
        · exfalso
          have hd : L.drop 1 = [] := List.drop_eq_nil_of_le (by omega)
          rw [hd] at hu; cases hu
        · exact h1
      have t1 : (n == 0) = false := by simp; omega
      clear hu hg
      go_wp2
      go_ret
      exact ⟨hgw.out, .inr ⟨_, hl, rfl, HU.out⟩⟩
/-- A link that is no fault. -/
theorem linkAs_not (n : Int) (t : Addr) (w : World) :
    Calls Tryz.prog 138 #[.agg #[.nilIface, .int .i64 n], .iface 151 (.pointer (some t))] w fun e w' => e = .returned (.bool false) ∧ Gr w w' := by
  have aT := assTT
  go_enter Tryz.func138, Tryz.ntmps138
  go_wp2_with fail
  refine (itself_nil _).mono ?_
  rintro e w1 ⟨rfl, rfl⟩
  go_wp2
  go_ret
  exact ⟨rfl, (Gr.refl _).alloc _⟩
theorem linkAs_fault (b : Nat) (n : Int) (t : Nat) (old : Value) (w : World) (hc : w.cell? ⟨t, 0, none⟩ = some old) (hf : w.frozen? ⟨t, 0, none⟩ = false) :
    Calls Tryz.prog 138 #[.agg #[.iface 137 (.pointer (some ⟨b, 0, none⟩)), .int .i64 n], .iface 151 (.pointer (some ⟨t, 0, none⟩))] w fun e w' =>
      e = .returned (.bool true) ∧ Hits t (.pointer (some ⟨b, 0, none⟩)) w w' := by
  have aT := assTT
  have hlt := cell_lt hc
  have HC := Lib.hid hc
  have HF := Lib.hid hf
  go_enter Tryz.func138, Tryz.ntmps138
  go_wp2_with fail
  refine (itself_fault _ _).mono ?_
  rintro e w1 ⟨rfl, rfl⟩
  go_wp2
  go_ret
  exact ⟨rfl, (Hits.of_set HC.out HF.out).after hlt ((Gr.refl _).alloc _)⟩
end Go.Proofs.YtmgpnpmdmelnkaaGreatDoor
