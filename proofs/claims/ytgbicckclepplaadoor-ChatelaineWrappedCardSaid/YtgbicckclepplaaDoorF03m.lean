import Derived.Test.YtgbicckclepplaaDoorF03l
import Derived.WalkKit
import Derived.ProofKit
import Derived.LoopTactic
import Derived.Outline
import Derived.WalkSpells
import Derived.WalkLawsBesides
import Derived.Lib.Hide
import Derived.Deep.LoopGhost
import Derived.Deep.QuietTactic
import Derived.BigQuiet
import Derived.ShutString
import Derived.LaidEql
import Derived.Stop.Asserts
import Derived.RowKitTokens
import Derived.Laws.Pointers
namespace Go.Proofs.YtgbicckclepplaaDoor
open Go.ChangeShapes Go.WideShapes Go.ChangeAt Go.RowKit Go.Extern.Stop Go.Stop Go.Extern
set_option linter.unusedVariables false
theorem typeOfO (v : Value) (w : World) : (ReflectliteType.typeOf #[.iface 58 v]).run Tryd.prog w = .ok (.iface 87 (.agg #[.pointer (some ⟨4, 58, none⟩)])) w := by kernel_rfl
theorem assignO (w : World) : (ReflectliteType.relation "AssignableTo" ReflectliteType.assignableTo #[.agg #[.pointer (some ⟨4, 58, none⟩)], .iface 87 (.agg #[.pointer (some ⟨4, 45, none⟩)])]).run Tryd.prog w = .ok (.bool false) w := by kernel_rfl
theorem assignF (w : World) : (ReflectliteType.relation "AssignableTo" ReflectliteType.assignableTo #[.agg #[.pointer (some ⟨4, 45, none⟩)], .iface 87 (.agg #[.pointer (some ⟨4, 45, none⟩)])]).run Tryd.prog w = .ok (.bool true) w := by kernel_rfl
theorem valueOfF (e : Addr) (w : World) : (ReflectliteValue.unpack (.iface 45 (.pointer (some e)))).run Tryd.prog w
    = .ok (.agg #[.pointer (some ⟨4, 45, none⟩), .pointer (some ⟨w.heap.size, 0, none⟩), .int .u64 150]) (w.alloc (.cells #[.pointer (some e)] 45)) := by kernel_rfl
theorem elemOfT (w : World) : (Rtype.elem? 47).run Tryd.prog w = .ok (some 45) w := by kernel_rfl
theorem mkF (p : Addr) (w : World) : (ReflectliteValue.mk 45 p ReflectliteValue.flagAddr).run Tryd.prog w = .ok (.agg #[.pointer (some ⟨4, 45, none⟩), .pointer (some p), .int .u64 406]) w := by kernel_rfl
theorem elemVT (a p : Addr) (W : World) (ha : W.cell? a = some (.pointer (some p))) :
    (ReflectliteValue.method (ReflectliteValue.valueError "reflectlite.Value.Elem" 0) ReflectliteValue.elem #[.agg #[.pointer (some ⟨4, 47, none⟩), .pointer (some a), .int .u64 150]]).run Tryd.prog W
      = .ok (.agg #[.pointer (some ⟨4, 45, none⟩), .pointer (some p), .int .u64 406]) W := by
  rw [rlm]
  simp only [Sem.run_bind, partsT, Result.andThen]
  simp [ReflectliteValue.elem, loadVar, isAgg, underlying, Tryd.underlying47, ha, Result.andThen, elemOfT, mkF]
theorem rls (v x : Value) : ReflectliteValue.set #[v, x] = (do
    let (some (dst, a, fl), some (src, b, _)) := (← ReflectliteValue.parts v, ← ReflectliteValue.parts x)
      | unsupported (.noEntry "extern/(internal/reflectlite.Value).Set.zeroValue")
    if fl / ReflectliteValue.flagAddr % 2 == 0 then unsupported (.noEntry "extern/(internal/reflectlite.Value).Set.unaddressable")
    let val ← loadVar src b
    if ← Rtype.directlyAssignable dst src then storeVar dst a val
    else if ← Rtype.implements dst src then
      if (← Rtype.kind src) == 20 then
        match val with
        | .nilIface => unsupported (.noEntry "extern/reflectlite: a nil value of one interface type handed on as a value of another")
        | _ => storeVar dst a val
      else storeVar dst a (.iface src val)
    else panicString ("reflectlite.Set: value of type " ++ (← Rtype.spelt src) ++ " is not assignable to type " ++ (← Rtype.spelt dst))
    pure (.tuple #[])) := rfl
theorem partsFa (a : Addr) (w : World) : (ReflectliteValue.parts (.agg #[.pointer (some ⟨4, 45, none⟩), .pointer (some a), .int .u64 406])).run Tryd.prog w = .ok (some (45, a, 406)) w := by kernel_rfl
theorem partsF (a : Addr) (w : World) : (ReflectliteValue.parts (.agg #[.pointer (some ⟨4, 45, none⟩), .pointer (some a), .int .u64 150])).run Tryd.prog w = .ok (some (45, a, 150)) w := by kernel_rfl
theorem directF (w : World) : (Rtype.directlyAssignable 45 45).run Tryd.prog w = .ok true w := by kernel_rfl
theorem setF (ta b e : Addr) (old : Value) (W : World) (hb : W.cell? b = some (.pointer (some e))) (ht : W.cell? ta = some old) (hf : W.frozen? ta = false) :
    (ReflectliteValue.set #[.agg #[.pointer (some ⟨4, 45, none⟩), .pointer (some ta), .int .u64 406], .agg #[.pointer (some ⟨4, 45, none⟩), .pointer (some b), .int .u64 150]]).run Tryd.prog W
      = .ok (.tuple #[]) (W.setCell ta (.pointer (some e))) := by
  rw [rls]
  simp only [Sem.run_bind, partsFa, partsF, Result.andThen]
  simp [ReflectliteValue.flagAddr, loadVar, isAgg, underlying, Tryd.underlying45, hb, Result.andThen, directF, storeVar, Value.cells, storeCells, Addr.add]
  rw [run_store Tryd.prog W ta _ _ (by rfl)]
  simp [ht, hf]
set_option maxRecDepth 100000 in
set_option maxHeartbeats 1000000 in
theorem asC_any (u : Value) (M : List Lk) (t va : Nat) (old : Value) (W w : World) (hM : M ≠ []) (h : Chain W u M) (hw : Gr W w) (hc : w.cell? ⟨t, 0, none⟩ = some old) (hf : w.frozen? ⟨t, 0, none⟩ = false) (hv : w.cell? ⟨va, 0, none⟩ = some (.pointer (some ⟨t, 0, none⟩))) :
    Calls Tryd.prog 39 #[u, .iface 47 (.pointer (some ⟨t, 0, none⟩)), .agg #[.pointer (some ⟨4, 47, none⟩), .pointer (some ⟨va, 0, none⟩), .int .u64 150], .iface 87 (.agg #[.pointer (some ⟨4, 45, none⟩)])] w (AsIs W t M w) := by
  have e1 := @run_callFunc_extern Tryd.prog 34 _ ReflectliteType.typeOf Tryd.func34 (by kernel_rfl) (by kernel_rfl) (by kernel_rfl) (by kernel_rfl)
  have e2 := @run_callFunc_extern Tryd.prog 88 _ (ReflectliteType.relation "AssignableTo" ReflectliteType.assignableTo) Tryd.func88 (by kernel_rfl) (by kernel_rfl) (by kernel_rfl) (by kernel_rfl)
  have e3 := @run_callFunc_extern Tryd.prog 36 _ (fun args => ReflectliteValue.unpack (args.getD 0 (.tuple #[]))) Tryd.func36 (by kernel_rfl) (by kernel_rfl) (by kernel_rfl) (by kernel_rfl)
  have e4 := @run_callFunc_extern Tryd.prog 42 _ (ReflectliteValue.method (ReflectliteValue.valueError "reflectlite.Value.Elem" 0) ReflectliteValue.elem) Tryd.func42 (by kernel_rfl) (by kernel_rfl) (by kernel_rfl) (by kernel_rfl)
  have e5 := @run_callFunc_extern Tryd.prog 43 _ ReflectliteValue.set Tryd.func43 (by kernel_rfl) (by kernel_rfl) (by kernel_rfl) (by kernel_rfl)
  have f0 := typeOfO
  have f1 := typeOfF
  have f2 := metAssign
  have f3 := assignO
  have f4 := assignF
  have f5 := valueOfF
  have f6 := assOA
  have f7 := assOU
  have f8 := nahOU
  have f9 := metOU
  have f10 := eqNN
  have f11 := eqIN
  have HB := Lib.hid h
  have HW := Lib.hid hw
  have HM := Lib.hid hM
  have HC := Lib.hid hc
  have HF := Lib.hid hf
  have HV := Lib.hid hv
  have hlt := cell_lt hc
  have hvl := cell_lt hv
  clear h hw hM hc hf hv
  go_enter Tryd.func39, Tryd.ntmps39
  go_wp2
  go_loopg [0] M.length (fun k x wr => ∃ (v : Value) (L1 : List Lk), x = v ∧ L1.length = k ∧ Hid (L1 ≠ []) ∧ Hid (Chain W v L1) ∧ Hid (firstF L1 = firstF M) ∧ Hid (Gr (w.alloc (.cells #[.pointer (some ⟨4, 47, none⟩), .pointer (some ⟨va, 0, none⟩), .int .u64 150] 76)) wr))
  case atStart => exact ⟨u, M, rfl, rfl, HM, HB, Lib.hid rfl, Lib.hid (Gr.refl _)⟩
  case round =>
    obtain ⟨v, L1, rfl, hk, hne, hB, hH, hGB⟩ := hrel
    have hG := Lib.hid (((Gr.refl w).alloc _).trans hGB.out)
    match L1, hB, hne, hk, hH with
    | [], hB, hne, hk, hH => exact absurd rfl hne.out
    | .other :: L2, hB, hne, hk, hH =>
      obtain ⟨b, v2, rfl, hc, hr⟩ := hB.out
      have HC2 := Lib.hid hc
      have HR := Lib.hid hr
      have HH := Lib.hid (show firstF L2 = firstF M from hH.out)
      have hk2 : L2.length + 1 = gk := hk
      have hie := hr.isErr
      clear hB hne hH hc hr hk
      rcases hie with rfl | ⟨t2, a2, rfl⟩
      · have HFN := Lib.hid (show firstF M = none by rw [← HH.out, chain_nil HR.out]; rfl)
        go_wp2_with fail
        refine (otherUnwrap_any b _ _ ((HW.out.trans hG.out).cell HC2.out)).mono ?_
        rintro e w5 ⟨rfl, rfl⟩
        go_wp2
        go_ret
        exact asIs_no HFN hG.out
      · have HN := Lib.hid (chain_iface HR.out)
        go_wp2_with fail
        refine (otherUnwrap_any b _ _ ((HW.out.trans hG.out).cell HC2.out)).mono ?_
        rintro e w5 ⟨rfl, rfl⟩
        go_wp2
        go_roundg L2.length
        case measure => omega
        case rel => exact ⟨_, L2, rfl, rfl, HN, HR, HH, hGB⟩
    | .fault d s :: L2, hB, hne, hk, hH =>
      obtain ⟨b, v2, rfl, c0, c1, c2, cr⟩ := hB.out
      have HFA := Lib.hid (show FaultAt W b d s L2 from ⟨c0, c1, v2, c2, cr⟩)
      have HFF := Lib.hid (hH.out.symm.trans (show firstF (.fault d s :: L2) = some (d, s, L2) from rfl))
      clear c0 c1 c2 cr hB hH hne
      have b0 : wr.cell? ⟨w.heap.size, 0, none⟩ = some (.pointer (some ⟨4, 47, none⟩)) := hGB.out.own.1 0 _ rfl
      have b1 : wr.cell? ⟨w.heap.size, 1, none⟩ = some (.pointer (some ⟨va, 0, none⟩)) := hGB.out.own.1 1 _ rfl
      have b2 : wr.cell? ⟨w.heap.size, 2, none⟩ = some (.int .u64 150) := hGB.out.own.1 2 _ rfl
      have g1 := elemVT ⟨va, 0, none⟩ ⟨t, 0, none⟩ wr (hG.out.cell HV.out)
      have g2 := setF ⟨t, 0, none⟩ ⟨wr.heap.size, 0, none⟩ ⟨b, 0, none⟩ old (wr.alloc (.cells #[.pointer (some ⟨b, 0, none⟩)] 45)) (new_cell rfl rfl) ((hG.out.alloc _).cell HC.out) (((hG.out.alloc _).frozen hlt).trans HF.out)
      have HHit := Lib.hid ((Hits.of_set (v := .pointer (some ⟨b, 0, none⟩)) ((hG.out.alloc (.cells #[.pointer (some ⟨b, 0, none⟩)] 45)).cell HC.out) (((hG.out.alloc (.cells #[.pointer (some ⟨b, 0, none⟩)] 45)).frozen hlt).trans HF.out)).before (hG.out.alloc (.cells #[.pointer (some ⟨b, 0, none⟩)] 45)))
      go_wp2
      go_ret
      exact asIs_yes HFF HFA.out HHit.out
set_option maxRecDepth 100000 in
set_option maxHeartbeats 2000000 in
/-- errors.As on a chain. -/
theorem asTop_any (u : Value) (M : List Lk) (t : Nat) (old : Value) (W w : World) (h : Chain W u M) (hw : Gr W w) (hc : w.cell? ⟨t, 0, none⟩ = some old) (hf : w.frozen? ⟨t, 0, none⟩ = false) (he : ET w) :
    Calls Tryd.prog 24 #[u, .iface 47 (.pointer (some ⟨t, 0, none⟩))] w (AsIs W t M w) := by
  have e1 := @run_callFunc_extern Tryd.prog 36 _ (fun args => ReflectliteValue.unpack (args.getD 0 (.tuple #[]))) Tryd.func36 (by kernel_rfl) (by kernel_rfl) (by kernel_rfl) (by kernel_rfl)
  have e2 := @run_callFunc_extern Tryd.prog 37 _ (ReflectliteValue.methodAny (ReflectliteValue.valueError "reflectlite.Value.Type" 0) (fun t _ _ _ => ReflectliteType.toType t)) Tryd.func37 (by kernel_rfl) (by kernel_rfl) (by kernel_rfl) (by kernel_rfl)
  have e3 := @run_callFunc_extern Tryd.prog 38 _ (ReflectliteValue.method (ReflectliteValue.valueError "reflectlite.Value.IsNil" 0) ReflectliteValue.isNil) Tryd.func38 (by kernel_rfl) (by kernel_rfl) (by kernel_rfl) (by kernel_rfl)
  have e4 := @run_callFunc_extern Tryd.prog 71 _ (ReflectliteType.abiMethod fun t => do pure (.int .u8 (← Rtype.kind t))) Tryd.func71 (by kernel_rfl) (by kernel_rfl) (by kernel_rfl) (by kernel_rfl)
  have e5 := @run_callFunc_extern Tryd.prog 90 _ (ReflectliteType.method ReflectliteType.elem) Tryd.func90 (by kernel_rfl) (by kernel_rfl) (by kernel_rfl) (by kernel_rfl)
  have e6 := @run_callFunc_extern Tryd.prog 91 _ (ReflectliteType.relation "Implements" ReflectliteType.implements_) Tryd.func91 (by kernel_rfl) (by kernel_rfl) (by kernel_rfl) (by kernel_rfl)
  have f1 := valueOfT
  have f2 := typeT
  have f3 := metKind
  have f4 := kindTT
  have f5 := kindFF
  have f6 := metElem
  have f7 := metImpl
  have f8 := elemT
  have f9 := implF
  have f10 := eqTN
  have f11 := eqIN
  have f12 := eqNN
  have hlt := cell_lt hc
  have hglt := cell_lt he
  have n8 := isNilT ⟨w.heap.size, 0, none⟩ ⟨t, 0, none⟩ ((w.alloc (.cells #[.pointer (some ⟨t, 0, none⟩)] 47)).alloc (.cells #[.pointer (some ⟨4, 47, none⟩), .pointer (some ⟨w.heap.size, 0, none⟩), .int .u64 150] 76)) (by simp)
  have he2 : ((w.alloc (.cells #[.pointer (some ⟨t, 0, none⟩)] 47)).alloc (.cells #[.pointer (some ⟨4, 47, none⟩), .pointer (some ⟨w.heap.size, 0, none⟩), .int .u64 150] 76)).cell? ⟨0, 0, none⟩ = some (.iface 87 (.agg #[.pointer (some ⟨4, 26, none⟩)])) := he.gr (((Gr.refl w).alloc _).alloc _)
  have HV := Lib.hid h
  have HC := Lib.hid hc
  have HF := Lib.hid hf
  have HW := Lib.hid hw
  rcases h.isErr with rfl | ⟨ut, ua, rfl⟩
  · have hM := chain_nil h
    subst hM
    clear h hc hf he hw
    go_enter Tryd.func24, Tryd.ntmps24
    go_wp2
    go_ret
    exact asIs_no (Lib.hid rfl) (Gr.refl _)
  · have HM := Lib.hid (chain_iface h)
    clear h hc hf he hw
    go_enter Tryd.func24, Tryd.ntmps24
    go_wp2_with fail
    refine (asC_any _ M t w.heap.size old W _ HM.out HV.out ((HW.out.alloc _).alloc _) ((((Gr.refl w).alloc _).alloc _).cell HC.out) (((((Gr.refl w).alloc _).alloc _).frozen hlt).trans HF.out) (((Gr.refl _).alloc _).cell (new_cell rfl rfl))).mono ?_
    intro e w3 hA
    obtain ⟨z, rfl, hA2⟩ := hA.shape (((Gr.refl w).alloc _).alloc _)
    clear hA
    have HA := Lib.hid hA2
    clear hA2
    go_wp2
    go_ret
    exact HA.out
end Go.Proofs.YtgbicckclepplaaDoor
