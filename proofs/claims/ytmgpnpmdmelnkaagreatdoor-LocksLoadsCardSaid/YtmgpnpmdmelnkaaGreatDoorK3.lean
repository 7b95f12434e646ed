import Derived.Test.YtmgpnpmdmelnkaaGreatDoorG03
import Derived.Test.YtmgpnpmdmelnkaaGreatDoorC07
import Derived.WalkKit
import Derived.ProofKit
import Derived.LoopTactic
import Derived.Outline
import Derived.WalkSpells
import Derived.WalkLawsBesides
import Derived.Lib.Hide
import Derived.Deep.LoopGhost
import Derived.Deep.QuietTactic
import Derived.BigQuiet
import Derived.ShutString
import Derived.LaidEql
import Derived.Stop.Asserts
import Derived.RowKitTokens
import Derived.Laws.Pointers
import Derived.Test.YtmgpnpmdmelnkaaGreatDoorC02
namespace Go.Proofs.YtmgpnpmdmelnkaaGreatDoor
open Go.ChangeShapes Go.WideShapes Go.ChangeAt Go.RowKit Go.Extern.Stop Go.Stop Go.Extern
set_option linter.unusedVariables false
/-- The next link of a chain. -/
def NextIs (W : World) (n : Int) (L : List Lk) (w : World) (e : Ending) (w' : World) : Prop :=
  Gr w w' ∧ (L.length ≤ 1 ∧ e = .returned .nilIface ∨ ∃ u, 2 ≤ L.length ∧ e = .returned (.iface 150 (.agg #[u, .int .i64 (n - 1)])) ∧ Chain W u (L.drop 1))
theorem eqNN (w : World) : (binOp .eql 89 .nilIface .nilIface).run Tryz.prog w = .ok (.bool true) w := by kernel_rfl
theorem eqIN (t : TypeId) (a : Option Addr) (w : World) : (binOp .eql 89 (.iface t (.pointer a)) .nilIface).run Tryz.prog w = .ok (.bool false) w := by kernel_rfl
theorem linkUnwrap_any (v : Value) (L : List Lk) (n : Int) (W w : World) (hn : 1 ≤ n) (hn2 : n ≤ 1000000) (h : Chain W v L) (hw : Gr W w) :
    Calls Tryz.prog 140 #[.agg #[v, .int .i64 n]] w (NextIs W n L w) := by
  have q1 := eqNN
  have q2 := eqIN
  have H := Lib.hid h
  rcases h.isErr with rfl | ⟨t, a, rfl⟩
  all_goals
    clear h
    go_enter Tryz.func140, Tryz.ntmps140
    go_wp2_with fail
    refine (inner_any _ L W _ H.out (hw.alloc _)).mono ?_
    rintro e w1 ⟨⟨u, rfl, hu⟩, hg⟩
    have c0 : w1.cell? ⟨w.heap.size, 0, none⟩ = _ := hg.own.1 0 _ rfl
    have c1 : w1.cell? ⟨w.heap.size, 1, none⟩ = some (.int .i64 n) := hg.own.1 1 _ rfl
    have hgw := Lib.hid (((Gr.refl w).alloc _).trans hg)
    have HU := Lib.hid hu
    rcases hu.isErr with rfl | ⟨t2, a2, rfl⟩
    · have hL : L.drop 1 = [] := by
        match hD : L.drop 1, hu with
        | [], _ => rfl
        | .fault _ _ :: _, ⟨_, _, h, _⟩ => cases h
      have hl : L.length ≤ 1 := by have := congrArg List.length hL; simp at this; omega
      clear hu hg hL
      go_wp2
      go_ret
      exact ⟨hgw.out, .inl ⟨hl, rfl⟩⟩
    · have hl : 2 ≤ L.length := by
        rcases Nat.lt_or_ge L.length 2 with h1 | h1
        · exfalso
          have hd : L.drop 1 = [] := List.drop_eq_nil_of_le (by omega)
          rw [hd] at hu; cases hu
        · exact h1
      have t1 : (n == 0) = false := by simp; omega
      clear hu hg
      go_wp2
      go_ret
      exact ⟨hgw.out, .inr ⟨_, hl, rfl, HU.out⟩⟩
/-- A link that is no fault. -/
theorem linkAs_not (n : Int) (t : Addr) (w : World) :
    Calls Tryz.prog 138 #[.agg #[.nilIface, .int .i64 n], .iface 151 (.pointer (some t))] w fun e w' => e = .returned (.bool false) ∧ Gr w w' := by
  have aT := assTT
  go_enter Tryz.func138, Tryz.ntmps138
  go_wp2_with fail
  refine (itself_nil _).mono ?_
  rintro e w1 ⟨rfl, rfl⟩
  go_wp2
  go_ret
  exact ⟨rfl, (Gr.refl _).alloc _⟩
theorem linkAs_fault (b : Nat) (n : Int) (t : Nat) (old : Value) (w : World) (hc : w.cell? ⟨t, 0, none⟩ = some old) (hf : w.frozen? ⟨t, 0, none⟩ = false) :
    Calls Tryz.prog 138 #[.agg #[.iface 137 (.pointer (some ⟨b, 0, none⟩)), .int .i64 n], .iface 151 (.pointer (some ⟨t, 0, none⟩))] w fun e w' =>
      e = .returned (.bool true) ∧ Hits t (.pointer (some ⟨b, 0, none⟩)) w w' := by
  have aT := assTT
  have hlt := cell_lt hc
  have HC := Lib.hid hc
  have HF := Lib.hid hf
  go_enter Tryz.func138, Tryz.ntmps138
  go_wp2_with fail
  refine (itself_fault _ _).mono ?_
  rintro e w1 ⟨rfl, rfl⟩
  go_wp2
  go_ret
  exact ⟨rfl, (Hits.of_set HC.out HF.out).after hlt ((Gr.refl _).alloc _)⟩
end Go.Proofs.YtmgpnpmdmelnkaaGreatDoor
namespace Go.Proofs.YtmgpnpmdmelnkaaGreatDoor
open Go.ChangeShapes Go.WideShapes Go.ChangeAt Go.RowKit Go.Extern.Stop Go.Stop Go.Extern
set_option linter.unusedVariables false
/-- The handle of a type. -/
theorem typeOfL (v : Value) (w : World) : (ReflectliteType.typeOf #[.iface 150 v]).run Tryz.prog w = .ok (.iface 169 (.agg #[.pointer (some ⟨4, 150, none⟩)])) w := by kernel_rfl
theorem metAssign (h : Value) (w : World) : (Go.method 314 169 (.agg #[h]) "AssignableTo").run Tryz.prog w = .ok (148, .agg #[h]) w := by kernel_rfl
theorem assignL (w : World) : (ReflectliteType.relation "AssignableTo" ReflectliteType.assignableTo #[.agg #[.pointer (some ⟨4, 150, none⟩)], .iface 169 (.agg #[.pointer (some ⟨4, 137, none⟩)])]).run Tryz.prog w = .ok (.bool false) w := by kernel_rfl
theorem metLA (a b : Value) (w : World) : (Go.method 314 150 (.agg #[a, b]) "As").run Tryz.prog w = .ok (138, .agg #[a, b]) w := by kernel_rfl
theorem metLU (a b : Value) (w : World) : (Go.method 314 150 (.agg #[a, b]) "Unwrap").run Tryz.prog w = .ok (140, .agg #[a, b]) w := by kernel_rfl
theorem nahLA (a b : Value) (w : World) : (nilAhead 314 150 (.agg #[a, b]) "As").run Tryz.prog w = .ok (some false) w := by kernel_rfl
theorem nahLU (a b : Value) (w : World) : (nilAhead 314 150 (.agg #[a, b]) "Unwrap").run Tryz.prog w = .ok (some false) w := by kernel_rfl
theorem eqLN (a b : Value) (w : World) : (binOp .eql 89 (.iface 150 (.agg #[a, b])) .nilIface).run Tryz.prog w = .ok (.bool false) w := by kernel_rfl
/-- The first fault of a chain. -/
def firstF : List Lk → Option (Int × ByteArray × List Lk)
  | [] => none
  | .fault c s :: L => some (c, s, L)
/-- A fault lies in block b. -/
def FaultAt (w : World) (b : Nat) (c : Int) (s : ByteArray) (L : List Lk) : Prop :=
  w.cell? ⟨b, 0, none⟩ = some (.int .i64 c) ∧ w.cell? ⟨b, 1, none⟩ = some (.string s) ∧ ∃ u, w.cell? ⟨b, 2, none⟩ = some u ∧ Chain w u L
theorem FaultAt.gr {w w' : World} {b : Nat} {c : Int} {s : ByteArray} {L : List Lk} (h : FaultAt w b c s L) (hg : Gr w w') : FaultAt w' b c s L := by
  obtain ⟨h0, h1, u, h2, h3⟩ := h
  exact ⟨hg.cell h0, hg.cell h1, u, hg.cell h2, h3.gr hg⟩
/-- What errors.as answers of a chain of links, the target in block t. -/
def AsIs (W : World) (t : Nat) (L : List Lk) (w : World) (e : Ending) (w' : World) : Prop :=
  match firstF L with
  | none => e = .returned (.bool false) ∧ Gr w w'
  | some (c, s, L') => e = .returned (.bool true) ∧ ∃ b, FaultAt W b c s L' ∧ Hits t (.pointer (some ⟨b, 0, none⟩)) w w'
theorem asIs_no {W : World} {t : Nat} {L : List Lk} {w w' : World} (h : Hid (firstF L = none)) (hg : Gr w w') : AsIs W t L w (.returned (.bool false)) w' := by
  unfold AsIs; rw [h.out]; exact ⟨rfl, hg⟩
theorem asIs_yes {W : World} {t b : Nat} {L L' : List Lk} {c : Int} {s : ByteArray} {w w' : World} (h : Hid (firstF L = some (c, s, L'))) (hf : FaultAt W b c s L') (hh : Hits t (.pointer (some ⟨b, 0, none⟩)) w w') : AsIs W t L w (.returned (.bool true)) w' := by
  unfold AsIs; rw [h.out]; exact ⟨rfl, b, hf, hh⟩
/-- How many links are left. -/
def leftOf (v : Value) : Nat := match v with
  | .iface _ (.agg a) => (intOf (a.getD 1 (.int .i64 0))).toNat
  | _ => 0
set_option maxRecDepth 100000 in
set_option maxHeartbeats 1000000 in
theorem as_links (v : Value) (L : List Lk) (n : Int) (t : Nat) (old tv : Value) (W w : World) (hn : L.length + 1 ≤ n) (hn2 : n ≤ 1000000) (h : Chain W v L) (hw : Gr W w) (ht : W.heap.size ≤ t) (hc : w.cell? ⟨t, 0, none⟩ = some old) (hf : w.frozen? ⟨t, 0, none⟩ = false) (a0 a1 a2 : Value) (htv : tv = .agg #[a0, a1, a2]) :
    Calls Tryz.prog 112 #[.iface 150 (.agg #[v, .int .i64 n]), .iface 151 (.pointer (some ⟨t, 0, none⟩)), tv, .iface 169 (.agg #[.pointer (some ⟨4, 137, none⟩)])] w (AsIs W t L w) := by
  subst htv
  have h34 := @run_callFunc_extern Tryz.prog 115 _ ReflectliteType.typeOf Tryz.func115 (by kernel_rfl) (by kernel_rfl) (by kernel_rfl) (by kernel_rfl)
  have h88 := @run_callFunc_extern Tryz.prog 148 _ (ReflectliteType.relation "AssignableTo" ReflectliteType.assignableTo) Tryz.func148 (by kernel_rfl) (by kernel_rfl) (by kernel_rfl) (by kernel_rfl)
  have f1 := typeOfL
  have f2 := metAssign
  have f3 := assignL
  have f4 := metLA
  have f5 := metLU
  have f6 := nahLA
  have f7 := nahLU
  have f8 := eqLN
  have f9 := assLU
  have f10 := assLA
  have f11 := eqNN
  have HV := Lib.hid h
  have HC := Lib.hid hc
  have HF := Lib.hid hf
  have hlt := cell_lt hc
  clear h hc hf
  go_enter Tryz.func112, Tryz.ntmps112
  go_wp2
  go_loopw [0] (fun x wr => ∃ (u : Value) (L1 : List Lk) (m : Int), x = .iface 150 (.agg #[u, .int .i64 m]) ∧ Hid (Chain W u L1) ∧ Hid (firstF L1 = firstF L) ∧ (L1.length + 1 ≤ m ∧ m ≤ 1000000) ∧ Hid (Gr w wr)) (fun x _ => leftOf x)
  case atStart => exact ⟨v, L, n, rfl, HV, Lib.hid rfl, ⟨hn, hn2⟩, Lib.hid ((Gr.refl _).alloc _)⟩
  case round =>
    obtain ⟨u, L1, m, rfl, hC, hF1, ⟨hm1, hm2⟩, hg⟩ := hrel
    match L1, hC, hF1, hm1 with
    | [], hC, hF1, hm1 =>
      obtain rfl : u = .nilIface := hC.out
      have HFF := Lib.hid (show firstF L = none from hF1.out.symm)
      clear hF1
      simp only [List.length_nil] at hm1
      go_wp2_with fail
      refine (linkAs_not _ ⟨t, 0, none⟩ _).mono ?_
      rintro e w4 ⟨rfl, g4⟩
      have hg4 := Lib.hid (hg.out.trans g4)
      clear g4
      go_wp2_with fail
      refine (linkUnwrap_any _ [] m W _ (by omega) hm2 hC.out (hw.trans hg4.out)).mono ?_
      rintro e w5 ⟨g5, h5⟩
      rcases h5 with ⟨_, rfl⟩ | ⟨u, hl, _⟩
      · have hg5 := Lib.hid (hg4.out.trans g5)
        clear g5
        go_wp2
        go_ret
        exact asIs_no HFF hg5.out
      · exfalso; simp at hl
    | .fault c s :: L2, hC, hF1, hm1 =>
      obtain ⟨b, u2, rfl, c0, c1, c2, cr⟩ := hC.out
      have HFA := Lib.hid (show FaultAt W b c s L2 from ⟨c0, c1, u2, c2, cr⟩)
      have HFF := Lib.hid (hF1.out.symm.trans (show firstF (.fault c s :: L2) = some (c, s, L2) from rfl))
      clear c0 c1 c2 cr hC hF1
      go_wp2_with fail
      refine (linkAs_fault b m t old _ (hg.out.cell HC.out) ((hg.out.frozen hlt).trans HF.out)).mono ?_
      rintro e w4 ⟨rfl, hh⟩
      have HH := Lib.hid (hh.before hg.out)
      clear hh
      go_wp2
      go_ret
      exact asIs_yes HFF HFA.out HH.out
end Go.Proofs.YtmgpnpmdmelnkaaGreatDoor
namespace Go.Proofs.YtmgpnpmdmelnkaaGreatDoor
open Go.ChangeShapes Go.WideShapes Go.ChangeAt Go.RowKit Go.Extern.Stop Go.Stop Go.Extern
set_option linter.unusedVariables false
/-- The handle of the type error lies in its variable. -/
def ET (w : World) : Prop := w.cell? ⟨1, 0, none⟩ = some (.iface 169 (.agg #[.pointer (some ⟨4, 89, none⟩)]))
theorem ET.gr {w w' : World} (h : ET w) (hg : Gr w w') : ET w' := hg.cell h
theorem valueOfT (t : Addr) (w : World) : (ReflectliteValue.unpack (.iface 151 (.pointer (some t)))).run Tryz.prog w
    = .ok (.agg #[.pointer (some ⟨4, 151, none⟩), .pointer (some ⟨w.heap.size, 0, none⟩), .int .u64 150]) (w.alloc (.cells #[.pointer (some t)] 151)) := by kernel_rfl
theorem typeT (a : Addr) (w : World) : (ReflectliteValue.methodAny (ReflectliteValue.valueError "reflectlite.Value.Type" 0) (fun t _ _ _ => ReflectliteType.toType t) #[.agg #[.pointer (some ⟨4, 151, none⟩), .pointer (some a), .int .u64 150]]).run Tryz.prog w
    = .ok (.iface 169 (.agg #[.pointer (some ⟨4, 151, none⟩)])) w := by kernel_rfl
theorem metKind (h : Value) (w : World) : (Go.method 314 169 (.agg #[h]) "Kind").run Tryz.prog w = .ok (132, h) w := by kernel_rfl
theorem kindTT (w : World) : ((ReflectliteType.abiMethod fun t => (fun a : Nat => Value.int IntKind.u8 (a : Int)) <$> Rtype.kind t) #[.pointer (some ⟨4, 151, none⟩)]).run Tryz.prog w = .ok (.int .u8 22) w := by kernel_rfl
theorem kindFF (w : World) : ((ReflectliteType.abiMethod fun t => (fun a : Nat => Value.int IntKind.u8 (a : Int)) <$> Rtype.kind t) #[.pointer (some ⟨4, 137, none⟩)]).run Tryz.prog w = .ok (.int .u8 22) w := by kernel_rfl
theorem rlm (z : Sem Value) (f : TypeId → Addr → Nat → Nat → Sem Value) (v : Value) :
    ReflectliteValue.method z f #[v] = (do match ← ReflectliteValue.parts v with | none => z | some (t, a, fl) => f t a fl (fl % 32)) := rfl
theorem partsT (a : Addr) (w : World) : (ReflectliteValue.parts (.agg #[.pointer (some ⟨4, 151, none⟩), .pointer (some a), .int .u64 150])).run Tryz.prog w = .ok (some (151, a, 150)) w := by kernel_rfl
theorem isNilT (a p : Addr) (W : World) (ha : W.cell? a = some (.pointer (some p))) :
    (ReflectliteValue.method (ReflectliteValue.valueError "reflectlite.Value.IsNil" 0) ReflectliteValue.isNil #[.agg #[.pointer (some ⟨4, 151, none⟩), .pointer (some a), .int .u64 150]]).run Tryz.prog W = .ok (.bool false) W := by
  rw [rlm]
  simp only [Sem.run_bind, partsT, Result.andThen]
  simp [ReflectliteValue.isNil, loadVar, isAgg, underlying, Tryz.underlying151, ha, Result.andThen]
theorem metElem (h : Value) (w : World) : (Go.method 314 169 (.agg #[h]) "Elem").run Tryz.prog w = .ok (150, .agg #[h]) w := by kernel_rfl
theorem metImpl (h : Value) (w : World) : (Go.method 314 169 (.agg #[h]) "Implements").run Tryz.prog w = .ok (151, .agg #[h]) w := by kernel_rfl
theorem elemT (w : World) : (ReflectliteType.method ReflectliteType.elem #[.agg #[.pointer (some ⟨4, 151, none⟩)]]).run Tryz.prog w = .ok (.iface 169 (.agg #[.pointer (some ⟨4, 137, none⟩)])) w := by kernel_rfl
theorem implF (w : World) : (ReflectliteType.relation "Implements" ReflectliteType.implements_ #[.agg #[.pointer (some ⟨4, 137, none⟩)], .iface 169 (.agg #[.pointer (some ⟨4, 89, none⟩)])]).run Tryz.prog w = .ok (.bool true) w := by kernel_rfl
theorem eqTN (a : Option Addr) (w : World) : (binOp .eql 20 (.iface 151 (.pointer a)) .nilIface).run Tryz.prog w = .ok (.bool false) w := by kernel_rfl
theorem AsIs.shape {W : World} {t : Nat} {L : List Lk} {w0 w w' : World} {e : Ending} (h : AsIs W t L w e w') (hg : Gr w0 w) : ∃ z : Bool, e = .returned (.bool z) ∧ AsIs W t L w0 (.returned (.bool z)) w' := by
  unfold AsIs at h ⊢
  cases hF : firstF L with
  | none => rw [hF] at h; exact ⟨false, h.1, rfl, hg.trans h.2⟩
  | some x =>
    obtain ⟨c, s, L'⟩ := x
    rw [hF] at h
    obtain ⟨h1, b, h2, h3⟩ := h
    exact ⟨true, h1, rfl, b, h2, h3.before hg⟩
set_option maxRecDepth 100000 in
set_option maxHeartbeats 2000000 in
/-- errors.As on a chain of links. -/
theorem as_link (v : Value) (L : List Lk) (n : Int) (t : Nat) (old : Value) (W w : World) (hn : L.length + 1 ≤ n) (hn2 : n ≤ 1000000) (h : Chain W v L) (hw : Gr W w) (ht : W.heap.size ≤ t) (hc : w.cell? ⟨t, 0, none⟩ = some old) (hf : w.frozen? ⟨t, 0, none⟩ = false) (he : ET w) :
    Calls Tryz.prog 103 #[.iface 150 (.agg #[v, .int .i64 n]), .iface 151 (.pointer (some ⟨t, 0, none⟩))] w (AsIs W t L w) := by
  have e1 := @run_callFunc_extern Tryz.prog 109 _ (fun args => ReflectliteValue.unpack (args.getD 0 (.tuple #[]))) Tryz.func109 (by kernel_rfl) (by kernel_rfl) (by kernel_rfl) (by kernel_rfl)
  have e2 := @run_callFunc_extern Tryz.prog 110 _ (ReflectliteValue.methodAny (ReflectliteValue.valueError "reflectlite.Value.Type" 0) (fun t _ _ _ => ReflectliteType.toType t)) Tryz.func110 (by kernel_rfl) (by kernel_rfl) (by kernel_rfl) (by kernel_rfl)
  have e3 := @run_callFunc_extern Tryz.prog 111 _ (ReflectliteValue.method (ReflectliteValue.valueError "reflectlite.Value.IsNil" 0) ReflectliteValue.isNil) Tryz.func111 (by kernel_rfl) (by kernel_rfl) (by kernel_rfl) (by kernel_rfl)
  have e4 := @run_callFunc_extern Tryz.prog 132 _ (ReflectliteType.abiMethod fun t => do pure (.int .u8 (← Rtype.kind t))) Tryz.func132 (by kernel_rfl) (by kernel_rfl) (by kernel_rfl) (by kernel_rfl)
  have e5 := @run_callFunc_extern Tryz.prog 150 _ (ReflectliteType.method ReflectliteType.elem) Tryz.func150 (by kernel_rfl) (by kernel_rfl) (by kernel_rfl) (by kernel_rfl)
  have e6 := @run_callFunc_extern Tryz.prog 151 _ (ReflectliteType.relation "Implements" ReflectliteType.implements_) Tryz.func151 (by kernel_rfl) (by kernel_rfl) (by kernel_rfl) (by kernel_rfl)
  have f1 := valueOfT
  have f2 := typeT
  have f3 := metKind
  have f4 := kindTT
  have f5 := kindFF
  have f6 := metElem
  have f7 := metImpl
  have f8 := elemT
  have f9 := implF
  have f10 := eqTN
  have f11 := eqLN
  have hlt := cell_lt hc
  have hglt := cell_lt he
  have n8 := isNilT ⟨w.heap.size, 0, none⟩ ⟨t, 0, none⟩ ((w.alloc (.cells #[.pointer (some ⟨t, 0, none⟩)] 151)).alloc (.cells #[.pointer (some ⟨4, 151, none⟩), .pointer (some ⟨w.heap.size, 0, none⟩), .int .u64 150] 155)) (by simp)
  have he2 : ((w.alloc (.cells #[.pointer (some ⟨t, 0, none⟩)] 151)).alloc (.cells #[.pointer (some ⟨4, 151, none⟩), .pointer (some ⟨w.heap.size, 0, none⟩), .int .u64 150] 155)).cell? ⟨1, 0, none⟩ = some (.iface 169 (.agg #[.pointer (some ⟨4, 89, none⟩)])) := he.gr (((Gr.refl w).alloc _).alloc _)
  have HV := Lib.hid h
  have HC := Lib.hid hc
  have HF := Lib.hid hf
  have HW := Lib.hid hw
  clear h hc hf he hw
  go_enter Tryz.func103, Tryz.ntmps103
  go_wp2_with fail
  refine (as_links v L n t old _ W _ hn hn2 HV.out ((HW.out.alloc _).alloc _) ht ((((Gr.refl w).alloc _).alloc _).cell HC.out) (((((Gr.refl w).alloc _).alloc _).frozen hlt).trans HF.out) _ _ _ rfl).mono ?_
  intro e w3 hA
  obtain ⟨z, rfl, hA2⟩ := hA.shape (((Gr.refl w).alloc _).alloc _)
  clear hA
  have HA := Lib.hid hA2
  clear hA2
  go_wp2
  go_ret
  exact HA.out
/-- What first returns. -/
def FirstIs (W : World) (L : List Lk) (w : World) (e : Ending) (w' : World) : Prop :=
  match firstF L with
  | none => e = .returned (.pointer none) ∧ Gr w w'
  | some (c, s, L') => ∃ b, e = .returned (.pointer (some ⟨b, 0, none⟩)) ∧ FaultAt W b c s L' ∧ Gr w w'
theorem firstIs_mk {L : List Lk} {W w w1 w' : World} {t : Nat} {z : Bool} {p : Option Addr} (h : AsIs W t L w1 (.returned (.bool z)) w') (hg : Gr w w1) (ht : w.heap.size ≤ t) (hz : z = false ∧ p = none ∨ z = true ∧ w'.cell? ⟨t, 0, none⟩ = some (.pointer p)) : FirstIs W L w (.returned (.pointer p)) w' := by
  unfold AsIs at h
  unfold FirstIs
  cases hF : firstF L with
  | none =>
    rw [hF] at h
    obtain ⟨h1, h2⟩ := h
    rcases hz with ⟨rfl, rfl⟩ | ⟨rfl, _⟩
    · exact ⟨rfl, hg.trans h2⟩
    · cases h1
  | some x =>
    obtain ⟨c, s, L'⟩ := x
    rw [hF] at h
    obtain ⟨h1, b, h2, h3⟩ := h
    rcases hz with ⟨rfl, _⟩ | ⟨rfl, hc⟩
    · cases h1
    · have hb := h3.2.1
      rw [hc] at hb
      simp only [Option.some.injEq, Value.pointer.injEq] at hb
      subst hb
      have hg2 : Gr w w' := h3.gr hg ht
      exact ⟨b, rfl, h2, hg2⟩
set_option maxRecDepth 100000 in
theorem first_any (v : Value) (L : List Lk) (W w : World) (hL : L.length ≤ 1000) (h : Chain W v L) (hw : Gr W w) (he : ET w) :
    Calls Tryz.prog 97 #[v] w (FirstIs W L w) := by
  have HV := Lib.hid h
  have HE := Lib.hid he
  rcases h.isErr with rfl | ⟨t, a, rfl⟩
  all_goals
    clear h he
    go_enter Tryz.func97, Tryz.ntmps97
    go_wp2_with fail
    refine (as_link _ L _ w.heap.size (.pointer none) W _ (by omega) (by omega) HV.out (hw.alloc _) hw.size (new_cell rfl rfl) (new_free rfl) (HE.out.gr ((Gr.refl w).alloc _))).mono ?_
    intro e w3 hA
    obtain ⟨z, rfl, hA2⟩ := hA.shape (Gr.refl _)
    clear hA
    have HA := Lib.hid hA2
    cases z
    · clear hA2
      go_wp2
      go_ret
      exact firstIs_mk HA.out ((Gr.refl w).alloc _) (Nat.le_refl _) (.inl ⟨rfl, rfl⟩)
    · have hp : ∃ p, w3.cell? ⟨w.heap.size, 0, none⟩ = some (.pointer p) := by
        unfold AsIs at hA2
        cases hF : firstF L with
        | none => rw [hF] at hA2; exact absurd hA2.1 (by simp)
        | some x =>
          obtain ⟨c, s, L'⟩ := x
          rw [hF] at hA2
          obtain ⟨_, b, _, h3⟩ := hA2
          exact ⟨_, h3.2.1⟩
      obtain ⟨p, hp⟩ := hp
      clear hA2
      go_wp2
      go_ret
      exact firstIs_mk HA.out ((Gr.refl w).alloc _) (Nat.le_refl _) (.inr ⟨rfl, hp⟩)
end Go.Proofs.YtmgpnpmdmelnkaaGreatDoor
namespace Go.Proofs.YtmgpnpmdmelnkaaGreatDoor
open Go.ChangeShapes Go.WideShapes Go.ChangeAt Go.RowKit Go.Extern.Stop Go.Stop Go.Extern
set_option linter.unusedVariables false
/-- The code of a chain. -/
def codeOf (L : List Lk) : Int := match L, firstF L with
  | [], _ => 0
  | _ :: _, none => 1
  | _ :: _, some (c, _, _) => c
theorem first_none {L : List Lk} (h : firstF L = none) {W w w' : World} {e : Ending} (hf : FirstIs W L w e w') : e = .returned (.pointer none) ∧ Gr w w' := by
  unfold FirstIs at hf; rw [h] at hf; exact hf
theorem first_some {L L' : List Lk} {c : Int} {s : ByteArray} (h : firstF L = some (c, s, L')) {W w w' : World} {e : Ending} (hf : FirstIs W L w e w') : ∃ b, e = .returned (.pointer (some ⟨b, 0, none⟩)) ∧ FaultAt W b c s L' ∧ Gr w w' := by
  unfold FirstIs at hf; rw [h] at hf; exact hf
theorem chain_nil {w : World} {L : List Lk} (h : Chain w .nilIface L) : L = [] := by
  match L, h with
  | [], _ => rfl
  | .fault _ _ :: _, ⟨_, _, h, _⟩ => cases h
theorem chain_iface {w : World} {L : List Lk} {t : TypeId} {v : Value} (h : Chain w (.iface t v) L) : L ≠ [] := by
  rintro rfl; cases h
set_option maxRecDepth 100000 in
theorem code_any (v : Value) (L : List Lk) (w : World) (hL : L.length ≤ 1000) (h : Chain w v L) (he : ET w) :
    Calls Tryz.prog 91 #[v] w fun e w' => e = .returned (.int .i64 (codeOf L)) ∧ Gr w w' := by
  have HV := Lib.hid h
  have q1 := eqNN
  have q2 := eqIN
  rcases h.isErr with rfl | ⟨t, a, rfl⟩
  · obtain rfl := chain_nil h
    clear h he
    have E := Lib.hid (show codeOf [] = 0 from rfl)
    rw [E.out]
    go_enter Tryz.func91, Tryz.ntmps91
    go_wp2
    go_ret
    exact ⟨rfl, Gr.refl _⟩
  · have hne := chain_iface h
    clear h
    cases hF : firstF L with
    | none =>
      have E : codeOf L = 1 := by unfold codeOf; cases L with
        | nil => exact absurd rfl hne
        | cons x t => simp only [hF]
      rw [E]; clear E
      have HF := Lib.hid hF
      have HE := Lib.hid he
      clear hF he hne
      go_enter Tryz.func91, Tryz.ntmps91
      go_wp2_with fail
      refine (first_any _ L w _ hL HV.out (Gr.refl w) HE.out).mono ?_
      intro e w1 hf
      obtain ⟨rfl, hg⟩ := first_none HF.out hf
      clear hf
      go_wp2
      go_ret
      exact ⟨rfl, hg⟩
    | some x =>
      obtain ⟨c, s, L'⟩ := x
      have E : codeOf L = c := by unfold codeOf; cases L with
        | nil => exact absurd rfl hne
        | cons x t => simp only [hF]
      rw [E]; clear E
      have HF := Lib.hid hF
      have HE := Lib.hid he
      clear hF he hne
      go_enter Tryz.func91, Tryz.ntmps91
      go_wp2_with fail
      refine (first_any _ L w _ hL HV.out (Gr.refl w) HE.out).mono ?_
      intro e w1 hf
      obtain ⟨b, rfl, hfa, hg⟩ := first_some HF.out hf
      obtain ⟨k0, k1, _⟩ := hfa.gr hg
      clear hfa
      clear hf
      go_wp2
      go_ret
      exact ⟨rfl, hg⟩
def ChainIs (L : List Lk) (w : World) (e : Ending) (w' : World) : Prop := ∃ u, e = .returned u ∧ Chain w' u L ∧ Gr w w'
theorem fault_new {w : World} {c : Int} {s : ByteArray} {v : Value} {L : List Lk} {t : TypeId} (h : Chain w v L) : Chain (w.alloc (.cells #[.int .i64 c, .string s, v] t)) (.iface 137 (.pointer (some ⟨w.heap.size, 0, none⟩))) (.fault c s :: L) :=
  ⟨_, v, rfl, new_cell rfl rfl, new_cell rfl rfl, new_cell rfl rfl, h.gr ((Gr.refl w).alloc _)⟩
theorem new_any (c : Int) (s : ByteArray) (w : World) (hc : (c == 0) = false) : Calls Tryz.prog 92 #[.int .i64 c, .string s] w (ChainIs [.fault c s] w) := by
  go_enter Tryz.func92, Tryz.ntmps92
  go_wp2
  go_ret
  exact ⟨_, rfl, fault_new (L := []) rfl, (Gr.refl _).alloc _⟩
theorem of_any (c : Int) (w : World) (hc : (c == 0) = false) : Calls Tryz.prog 80 #[.int .i64 c] w (ChainIs [.fault c ⟨#[]⟩] w) := by
  go_enter Tryz.func80, Tryz.ntmps80
  go_wp2_with fail
  refine (new_any c _ _ hc).mono ?_
  rintro e w1 ⟨u, rfl, hu, hg⟩
  have HU := Lib.hid hu
  clear hu
  go_wp2
  go_ret
  exact ⟨_, rfl, HU.out, hg⟩
theorem wrap_any (v : Value) (L : List Lk) (s : ByteArray) (w : World) (hL : L.length ≤ 1000) (hne : L ≠ []) (h : Chain w v L) (he : ET w) :
    Calls Tryz.prog 79 #[v, .string s] w (ChainIs (.fault (codeOf L) s :: L) w) := by
  have HV := Lib.hid h
  have HE := Lib.hid he
  have q2 := eqIN
  rcases h.isErr with rfl | ⟨t, a, rfl⟩
  · exact absurd (chain_nil h) hne
  · clear h he hne
    go_enter Tryz.func79, Tryz.ntmps79
    go_wp2_with fail
    refine (code_any _ L _ hL HV.out HE.out).mono ?_
    rintro e w1 ⟨rfl, hg⟩
    have HV2 := Lib.hid (HV.out.gr hg)
    go_wp2
    go_ret
    exact ⟨_, rfl, fault_new HV2.out, hg.alloc _⟩
end Go.Proofs.YtmgpnpmdmelnkaaGreatDoor
