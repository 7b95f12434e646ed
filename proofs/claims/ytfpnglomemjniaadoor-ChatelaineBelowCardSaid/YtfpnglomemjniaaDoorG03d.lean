import Derived.Test.YtfpnglomemjniaaDoorG03c
import Derived.WalkKit
import Derived.ProofKit
import Derived.LoopTactic
import Derived.Outline
import Derived.WalkSpells
import Derived.WalkLawsBesides
import Derived.Lib.Hide
import Derived.Deep.LoopGhost
import Derived.Deep.QuietTactic
import Derived.BigQuiet
import Derived.ShutString
import Derived.LaidEql
import Derived.Stop.Asserts
import Derived.RowKitTokens
import Derived.Laws.Pointers
namespace Go.Proofs.YtfpnglomemjniaaDoor
open Go.ChangeShapes Go.WideShapes Go.ChangeAt Go.RowKit Go.Extern.Stop Go.Stop Go.Extern
set_option linter.unusedVariables false
/-- The handle of the type error lies in its variable. -/
def ET (w : World) : Prop := w.cell? ⟨0, 0, none⟩ = some (.iface 113 (.agg #[.pointer (some ⟨4, 26, none⟩)]))
theorem ET.gr {w w' : World} (h : ET w) (hg : Gr w w') : ET w' := hg.cell h
theorem valueOfT (t : Addr) (w : World) : (ReflectliteValue.unpack (.iface 88 (.pointer (some t)))).run Tryd.prog w
    = .ok (.agg #[.pointer (some ⟨4, 88, none⟩), .pointer (some ⟨w.heap.size, 0, none⟩), .int .u64 150]) (w.alloc (.cells #[.pointer (some t)] 88)) := by kernel_rfl
theorem typeT (a : Addr) (w : World) : (ReflectliteValue.methodAny (ReflectliteValue.valueError "reflectlite.Value.Type" 0) (fun t _ _ _ => ReflectliteType.toType t) #[.agg #[.pointer (some ⟨4, 88, none⟩), .pointer (some a), .int .u64 150]]).run Tryd.prog w
    = .ok (.iface 113 (.agg #[.pointer (some ⟨4, 88, none⟩)])) w := by kernel_rfl
theorem metKind (h : Value) (w : World) : (Go.method 261 113 (.agg #[h]) "Kind").run Tryd.prog w = .ok (103, h) w := by kernel_rfl
theorem kindTT (w : World) : ((ReflectliteType.abiMethod fun t => (fun a : Nat => Value.int IntKind.u8 (a : Int)) <$> Rtype.kind t) #[.pointer (some ⟨4, 88, none⟩)]).run Tryd.prog w = .ok (.int .u8 22) w := by kernel_rfl
theorem kindFF (w : World) : ((ReflectliteType.abiMethod fun t => (fun a : Nat => Value.int IntKind.u8 (a : Int)) <$> Rtype.kind t) #[.pointer (some ⟨4, 68, none⟩)]).run Tryd.prog w = .ok (.int .u8 22) w := by kernel_rfl
theorem rlm (z : Sem Value) (f : TypeId → Addr → Nat → Nat → Sem Value) (v : Value) :
    ReflectliteValue.method z f #[v] = (do match ← ReflectliteValue.parts v with | none => z | some (t, a, fl) => f t a fl (fl % 32)) := rfl
theorem partsT (a : Addr) (w : World) : (ReflectliteValue.parts (.agg #[.pointer (some ⟨4, 88, none⟩), .pointer (some a), .int .u64 150])).run Tryd.prog w = .ok (some (88, a, 150)) w := by kernel_rfl
theorem isNilT (a p : Addr) (W : World) (ha : W.cell? a = some (.pointer (some p))) :
    (ReflectliteValue.method (ReflectliteValue.valueError "reflectlite.Value.IsNil" 0) ReflectliteValue.isNil #[.agg #[.pointer (some ⟨4, 88, none⟩), .pointer (some a), .int .u64 150]]).run Tryd.prog W = .ok (.bool false) W := by
  rw [rlm]
  simp only [Sem.run_bind, partsT, Result.andThen]
  simp [ReflectliteValue.isNil, loadVar, isAgg, underlying, Tryd.underlying88, ha, Result.andThen]
theorem metElem (h : Value) (w : World) : (Go.method 261 113 (.agg #[h]) "Elem").run Tryd.prog w = .ok (120, .agg #[h]) w := by kernel_rfl
theorem metImpl (h : Value) (w : World) : (Go.method 261 113 (.agg #[h]) "Implements").run Tryd.prog w = .ok (121, .agg #[h]) w := by kernel_rfl
theorem elemT (w : World) : (ReflectliteType.method ReflectliteType.elem #[.agg #[.pointer (some ⟨4, 88, none⟩)]]).run Tryd.prog w = .ok (.iface 113 (.agg #[.pointer (some ⟨4, 68, none⟩)])) w := by kernel_rfl
theorem implF (w : World) : (ReflectliteType.relation "Implements" ReflectliteType.implements_ #[.agg #[.pointer (some ⟨4, 68, none⟩)], .iface 113 (.agg #[.pointer (some ⟨4, 26, none⟩)])]).run Tryd.prog w = .ok (.bool true) w := by kernel_rfl
theorem eqTN (a : Option Addr) (w : World) : (binOp .eql 20 (.iface 88 (.pointer a)) .nilIface).run Tryd.prog w = .ok (.bool false) w := by kernel_rfl
theorem AsIs.shape {W : World} {t : Nat} {L : List Lk} {w0 w w' : World} {e : Ending} (h : AsIs W t L w e w') (hg : Gr w0 w) : ∃ z : Bool, e = .returned (.bool z) ∧ AsIs W t L w0 (.returned (.bool z)) w' := by
  unfold AsIs at h ⊢
  cases hF : firstF L with
  | none => rw [hF] at h; exact ⟨false, h.1, rfl, hg.trans h.2⟩
  | some x =>
    obtain ⟨c, s, L'⟩ := x
    rw [hF] at h
    obtain ⟨h1, b, h2, h3⟩ := h
    exact ⟨true, h1, rfl, b, h2, h3.before hg⟩
set_option maxRecDepth 100000 in
set_option maxHeartbeats 2000000 in
/-- errors.As on a chain of links. -/
theorem as_link (v : Value) (L : List Lk) (n : Int) (t : Nat) (old : Value) (W w : World) (hn : L.length + 1 ≤ n) (hn2 : n ≤ 1000000) (h : Chain W v L) (hw : Gr W w) (ht : W.heap.size ≤ t) (hc : w.cell? ⟨t, 0, none⟩ = some old) (hf : w.frozen? ⟨t, 0, none⟩ = false) (he : ET w) :
    Calls Tryd.prog 58 #[.iface 87 (.agg #[v, .int .i64 n]), .iface 88 (.pointer (some ⟨t, 0, none⟩))] w (AsIs W t L w) := by
  have e1 := @run_callFunc_extern Tryd.prog 71 _ (fun args => ReflectliteValue.unpack (args.getD 0 (.tuple #[]))) Tryd.func71 (by kernel_rfl) (by kernel_rfl) (by kernel_rfl) (by kernel_rfl)
  have e2 := @run_callFunc_extern Tryd.prog 72 _ (ReflectliteValue.methodAny (ReflectliteValue.valueError "reflectlite.Value.Type" 0) (fun t _ _ _ => ReflectliteType.toType t)) Tryd.func72 (by kernel_rfl) (by kernel_rfl) (by kernel_rfl) (by kernel_rfl)
  have e3 := @run_callFunc_extern Tryd.prog 73 _ (ReflectliteValue.method (ReflectliteValue.valueError "reflectlite.Value.IsNil" 0) ReflectliteValue.isNil) Tryd.func73 (by kernel_rfl) (by kernel_rfl) (by kernel_rfl) (by kernel_rfl)
  have e4 := @run_callFunc_extern Tryd.prog 103 _ (ReflectliteType.abiMethod fun t => do pure (.int .u8 (← Rtype.kind t))) Tryd.func103 (by kernel_rfl) (by kernel_rfl) (by kernel_rfl) (by kernel_rfl)
  have e5 := @run_callFunc_extern Tryd.prog 120 _ (ReflectliteType.method ReflectliteType.elem) Tryd.func120 (by kernel_rfl) (by kernel_rfl) (by kernel_rfl) (by kernel_rfl)
  have e6 := @run_callFunc_extern Tryd.prog 121 _ (ReflectliteType.relation "Implements" ReflectliteType.implements_) Tryd.func121 (by kernel_rfl) (by kernel_rfl) (by kernel_rfl) (by kernel_rfl)
  have f1 := valueOfT
  have f2 := typeT
  have f3 := metKind
  have f4 := kindTT
  have f5 := kindFF
  have f6 := metElem
  have f7 := metImpl
  have f8 := elemT
  have f9 := implF
  have f10 := eqTN
  have f11 := eqLN
  have hlt := cell_lt hc
  have hglt := cell_lt he
  have n8 := isNilT ⟨w.heap.size, 0, none⟩ ⟨t, 0, none⟩ ((w.alloc (.cells #[.pointer (some ⟨t, 0, none⟩)] 88)).alloc (.cells #[.pointer (some ⟨4, 88, none⟩), .pointer (some ⟨w.heap.size, 0, none⟩), .int .u64 150] 98)) (by simp)
  have he2 : ((w.alloc (.cells #[.pointer (some ⟨t, 0, none⟩)] 88)).alloc (.cells #[.pointer (some ⟨4, 88, none⟩), .pointer (some ⟨w.heap.size, 0, none⟩), .int .u64 150] 98)).cell? ⟨0, 0, none⟩ = some (.iface 113 (.agg #[.pointer (some ⟨4, 26, none⟩)])) := he.gr (((Gr.refl w).alloc _).alloc _)
  have HV := Lib.hid h
  have HC := Lib.hid hc
  have HF := Lib.hid hf
  have HW := Lib.hid hw
  clear h hc hf he hw
  go_enter Tryd.func58, Tryd.ntmps58
  go_wp2_with fail
  refine (as_links v L n t old _ W _ hn hn2 HV.out ((HW.out.alloc _).alloc _) ht ((((Gr.refl w).alloc _).alloc _).cell HC.out) (((((Gr.refl w).alloc _).alloc _).frozen hlt).trans HF.out) _ _ _ rfl).mono ?_
  intro e w3 hA
  obtain ⟨z, rfl, hA2⟩ := hA.shape (((Gr.refl w).alloc _).alloc _)
  clear hA
  have HA := Lib.hid hA2
  clear hA2
  go_wp2
  go_ret
  exact HA.out
/-- What first returns. -/
def FirstIs (W : World) (L : List Lk) (w : World) (e : Ending) (w' : World) : Prop :=
  match firstF L with
  | none => e = .returned (.pointer none) ∧ Gr w w'
  | some (c, s, L') => ∃ b, e = .returned (.pointer (some ⟨b, 0, none⟩)) ∧ FaultAt W b c s L' ∧ Gr w w'
theorem firstIs_mk {L : List Lk} {W w w1 w' : World} {t : Nat} {z : Bool} {p : Option Addr} (h : AsIs W t L w1 (.returned (.bool z)) w') (hg : Gr w w1) (ht : w.heap.size ≤ t) (hz : z = false ∧ p = none ∨ z = true ∧ w'.cell? ⟨t, 0, none⟩ = some (.pointer p)) : FirstIs W L w (.returned (.pointer p)) w' := by
  unfold AsIs at h
  unfold FirstIs
  cases hF : firstF L with
  | none =>
    rw [hF] at h
    obtain ⟨h1, h2⟩ := h
    rcases hz with ⟨rfl, rfl⟩ | ⟨rfl, _⟩
    · exact ⟨rfl, hg.trans h2⟩
    · cases h1
  | some x =>
    obtain ⟨c, s, L'⟩ := x
    rw [hF] at h
    obtain ⟨h1, b, h2, h3⟩ := h
    rcases hz with ⟨rfl, _⟩ | ⟨rfl, hc⟩
    · cases h1
    · have hb := h3.2.1
      rw [hc] at hb
      simp only [Option.some.injEq, Value.pointer.injEq] at hb
      subst hb
      have hg2 : Gr w w' := h3.gr hg ht
      exact ⟨b, rfl, h2, hg2⟩
set_option maxRecDepth 100000 in
theorem first_any (v : Value) (L : List Lk) (W w : World) (hL : L.length ≤ 1000) (h : Chain W v L) (hw : Gr W w) (he : ET w) :
    Calls Tryd.prog 41 #[v] w (FirstIs W L w) := by
  have HV := Lib.hid h
  have HE := Lib.hid he
  rcases h.isErr with rfl | ⟨t, a, rfl⟩
  all_goals
    clear h he
    go_enter Tryd.func41, Tryd.ntmps41
    go_wp2_with fail
    refine (as_link _ L _ w.heap.size (.pointer none) W _ (by omega) (by omega) HV.out (hw.alloc _) hw.size (new_cell rfl rfl) (new_free rfl) (HE.out.gr ((Gr.refl w).alloc _))).mono ?_
    intro e w3 hA
    obtain ⟨z, rfl, hA2⟩ := hA.shape (Gr.refl _)
    clear hA
    have HA := Lib.hid hA2
    cases z
    · clear hA2
      go_wp2
      go_ret
      exact firstIs_mk HA.out ((Gr.refl w).alloc _) (Nat.le_refl _) (.inl ⟨rfl, rfl⟩)
    · have hp : ∃ p, w3.cell? ⟨w.heap.size, 0, none⟩ = some (.pointer p) := by
        unfold AsIs at hA2
        cases hF : firstF L with
        | none => rw [hF] at hA2; exact absurd hA2.1 (by simp)
        | some x =>
          obtain ⟨c, s, L'⟩ := x
          rw [hF] at hA2
          obtain ⟨_, b, _, h3⟩ := hA2
          exact ⟨_, h3.2.1⟩
      obtain ⟨p, hp⟩ := hp
      clear hA2
      go_wp2
      go_ret
      exact firstIs_mk HA.out ((Gr.refl w).alloc _) (Nat.le_refl _) (.inr ⟨rfl, hp⟩)
end Go.Proofs.YtfpnglomemjniaaDoor
