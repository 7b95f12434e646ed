import Derived.Test.YtgbicckclepplaaDoorF03k
import Derived.WalkKit
import Derived.ProofKit
import Derived.LoopTactic
import Derived.Outline
import Derived.WalkSpells
import Derived.WalkLawsBesides
import Derived.Lib.Hide
import Derived.Deep.LoopGhost
import Derived.Deep.QuietTactic
import Derived.BigQuiet
import Derived.ShutString
import Derived.LaidEql
import Derived.Stop.Asserts
import Derived.RowKitTokens
import Derived.Laws.Pointers
namespace Go.Proofs.YtgbicckclepplaaDoor
open Go.ChangeShapes Go.WideShapes Go.ChangeAt Go.RowKit Go.Extern.Stop Go.Stop Go.Extern
set_option linter.unusedVariables false
theorem assFI (v : Value) (w : World) : (Instr.typeAssert (.iface 45 v) 26 89 true).run Tryd.prog w = .ok (.tuple #[.iface 45 v, .bool true]) w :=
  run_typeAssert_hasB Tryd.underlying89 (by kernel_rfl) v _ w
theorem assOI (v : Value) (w : World) : (Instr.typeAssert (.iface 58 v) 26 89 true).run Tryd.prog w = .ok (.tuple #[.nilIface, .bool false]) w :=
  run_typeAssert_lacksB Tryd.underlying89 (by kernel_rfl) (by kernel_rfl) v _ w
theorem assOA (v : Value) (w : World) : (Instr.typeAssert (.iface 58 v) 26 98 true).run Tryd.prog w = .ok (.tuple #[.nilIface, .bool false]) w :=
  run_typeAssert_lacksB Tryd.underlying98 (by kernel_rfl) (by kernel_rfl) v _ w
theorem nahFI (a : Option Addr) (w : World) : (nilAhead 248 45 (.pointer a) "Is").run Tryd.prog w = .ok (some false) w := by kernel_rfl
theorem metFI (a : Option Addr) (w : World) : (Go.method 248 45 (.pointer a) "Is").run Tryd.prog w = .ok (74, .pointer a) w := by kernel_rfl
theorem eqOF (v u : Value) (w : World) : (binOp .eql 26 (.iface 58 v) (.iface 45 u)).run Tryd.prog w = .ok (.bool false) w :=
  run_eql_iface_types 58 45 v u Tryd.underlying26 (by decide) w
theorem cmp_F : (Tryd.prog.info? 45).map (·.comparable) = some true := by kernel_rfl
theorem siz_F : (Tryd.prog.info? 49).map (·.size) = some 3 := by kernel_rfl
theorem eqFF {a b : Nat} {ca cb : Array Value} {ta tb : TypeId} (w : World) (hne : a ≠ b) (ha : w.heap[a]? = some (.cells ca ta (0, 0))) (hb : w.heap[b]? = some (.cells cb tb (0, 0))) :
    (binOp .eql 26 (.iface 45 (.pointer (some ⟨a, 0, none⟩))) (.iface 45 (.pointer (some ⟨b, 0, none⟩)))).run Tryd.prog w = .ok (.bool false) w := by
  obtain ⟨i, hi, hic⟩ := Option.map_eq_some_iff.1 cmp_F
  obtain ⟨j, hj, hjs⟩ := Option.map_eq_some_iff.1 siz_F
  exact run_eql_iface_ptr_other w Tryd.underlying26 Tryd.underlying45 hi hic hj (by omega) (by intro e; cases e; exact hne rfl) ha hb
theorem hasOf_fault (d c : Int) (s : ByteArray) (L : List Lk) : hasOf (.fault d s :: L) c = ((d == c) || hasOf L c) := rfl
theorem hasOf_other (c : Int) (L : List Lk) : hasOf (.other :: L) c = hasOf L c := rfl
/-- What a target holds: its code, no place (or one), no cause. -/
def Target (w : World) (tb : Nat) (ct : Int) (pl : Bool) : Prop := ∃ s : ByteArray, w.heap[tb]? = some (.cells #[.int .i64 ct, .string s, .nilIface] 49 (0, 0)) ∧ (pl = true ∧ s = ⟨#[]⟩ ∨ pl = false ∧ s.toList.isEmpty = false)
theorem Target.gr {w w' : World} {tb : Nat} {ct : Int} {pl : Bool} (h : Target w tb ct pl) (hg : Gr w w') : Target w' tb ct pl := by
  obtain ⟨s, hb, hs⟩ := h
  exact ⟨s, (Below.block hg tb (Array.getElem?_eq_some_iff.1 hb).1).trans hb, hs⟩
theorem isM_any (b tb : Nat) (c ct : Int) (pl : Bool) (w : World) (hc : w.cell? ⟨b, 0, none⟩ = some (.int .i64 c)) (ht : Target w tb ct pl) :
    Calls Tryd.prog 74 #[.pointer (some ⟨b, 0, none⟩), .iface 45 (.pointer (some ⟨tb, 0, none⟩))] w fun e w' => e = .returned (.bool (pl && (c == ct))) ∧ Gr w w' := by
  obtain ⟨s, hb, ⟨rfl, rfl⟩ | ⟨rfl, hs⟩⟩ := ht
  · refine (faultIs_plain b tb c ct w hc (blk_cell hb 0) (blk_cell hb 1) (blk_cell hb 2)).mono fun e w' ⟨h1, h2⟩ => ⟨?_, h2⟩
    rw [h1]
    congr 2
    rw [Bool.eq_iff_iff]; simp; exact eq_comm
  · exact (faultIs_placed b tb c ct s hs w hc (blk_cell hb 0) (blk_cell hb 1) (blk_cell hb 2)).mono fun e w' ⟨h1, h2⟩ => ⟨h1, h2⟩
set_option maxRecDepth 100000 in
set_option maxHeartbeats 1000000 in
theorem is_any (u : Value) (M : List Lk) (tb : Nat) (ct : Int) (pl : Bool) (W w : World) (hM : M ≠ []) (h : Blk (· ≠ tb) W u M) (hw : Gr W w) (ht : Target w tb ct pl) :
    Calls Tryd.prog 35 #[u, .iface 45 (.pointer (some ⟨tb, 0, none⟩)), .bool true] w fun e w' => e = .returned (.bool (pl && hasOf M ct)) ∧ Gr w w' := by
  have f1 := assFI
  have f2 := assOI
  have f3 := nahFI
  have f4 := metFI
  have f5 := eqOF
  have f6 := assFU
  have f7 := assOU
  have f8 := nahFU
  have f9 := nahOU
  have f10 := metFU
  have f11 := metOU
  have f12 := eqNN
  have f13 := eqIN
  have HB := Lib.hid h
  have HT := Lib.hid ht
  have HW := Lib.hid hw
  have HM := Lib.hid hM
  clear h ht hw hM
  go_enter Tryd.func35, Tryd.ntmps35
  go_wp2
  go_loopg [0] M.length (fun k x wr => ∃ (v : Value) (L1 : List Lk), x = v ∧ L1.length = k ∧ Hid (L1 ≠ []) ∧ Hid (Blk (· ≠ tb) W v L1) ∧ Hid ((pl && hasOf L1 ct) = (pl && hasOf M ct)) ∧ Hid (Gr w wr))
  case atStart => exact ⟨u, M, rfl, rfl, HM, HB, Lib.hid rfl, Lib.hid (Gr.refl _)⟩
  case round =>
    obtain ⟨v, L1, rfl, hk, hne, hB, hH, hG⟩ := hrel
    have next : ∀ (b : Nat) (v2 : Value) (L2 : List Lk) (w2 : World), Blk (· ≠ tb) W v2 L2 → IsErr v2 := fun _ _ _ _ h => h.chain.isErr
    clear next
    match L1, hB, hne, hk, hH with
    | [], hB, hne, hk, hH => exact absurd rfl hne.out
    | .other :: L2, hB, hne, hk, hH =>
      obtain ⟨b, v2, rfl, hb, hc, hr⟩ := hB.out
      have HC := Lib.hid ((blk_cell hc 0 : W.cell? ⟨b, 0, none⟩ = some v2))
      have HR := Lib.hid hr
      have HH := Lib.hid (show (pl && hasOf L2 ct) = (pl && hasOf M ct) from hH.out)
      have hk2 : L2.length + 1 = gk := hk
      have hie := hr.chain.isErr
      clear hB hne hH hc hr hb hk
      rcases hie with rfl | ⟨t2, a2, rfl⟩
      · have hL2 := chain_nil HR.out.chain
        have HF := Lib.hid (show (pl && hasOf M ct) = false by rw [← HH.out, hL2]; simp [hasOf])
        clear hL2
        go_wp2_with fail
        refine (otherUnwrap_any b _ _ ((HW.out.trans hG.out).cell HC.out)).mono ?_
        rintro e w5 ⟨rfl, rfl⟩
        go_wp2
        go_ret
        exact ⟨by rw [HF.out]; rfl, hG.out⟩
      · have HN := Lib.hid (chain_iface HR.out.chain)
        go_wp2_with fail
        refine (otherUnwrap_any b _ _ ((HW.out.trans hG.out).cell HC.out)).mono ?_
        rintro e w5 ⟨rfl, rfl⟩
        go_wp2
        go_roundg L2.length
        case measure => omega
        case rel => exact ⟨_, L2, rfl, rfl, HN, HR, HH, hG⟩
    | .fault d s :: L2, hB, hne, hk, hH =>
      obtain ⟨b, v2, rfl, hb, hc, hr⟩ := hB.out
      have hcW := (Below.block (HW.out.trans hG.out) b (Array.getElem?_eq_some_iff.1 hc).1).trans hc
      obtain ⟨ts, htb, hts⟩ := HT.out.gr hG.out
      have q := eqFF wr hb hcW htb
      have C0 := Lib.hid (blk_cell hcW 0)
      have C2 := Lib.hid (blk_cell hcW 2)
      have HR := Lib.hid hr
      have HH := Lib.hid (show (pl && ((d == ct) || hasOf L2 ct)) = (pl && hasOf M ct) from hH.out)
      have hk2 : L2.length + 1 = gk := hk
      have hie := hr.chain.isErr
      clear hB hne hH hc hr hb hk hcW htb hts
      cases hz : (pl && (d == ct))
      · have HZ := Lib.hid (show (pl && hasOf L2 ct) = (pl && hasOf M ct) by
          rw [← HH.out]
          cases pl
          · rfl
          · simp only [Bool.true_and] at hz; rw [hz]; rfl)
        rcases hie with rfl | ⟨t2, a2, rfl⟩
        · have hL2 := chain_nil HR.out.chain
          have HF := Lib.hid (show (pl && hasOf M ct) = false by rw [← HZ.out, hL2]; simp [hasOf])
          have HI := Lib.hid hz
          clear hL2 hz
          go_wp2_with fail
          refine (isM_any b tb d ct pl _ C0.out (HT.out.gr hG.out)).mono ?_
          rintro e w4 ⟨rfl, hg4⟩
          rw [HI.out]
          have C2b := Lib.hid (hg4.cell C2.out)
          have HG4 := Lib.hid (hG.out.trans hg4)
          clear hg4
          go_wp2_with fail
          refine (faultUnwrap_any b _ _ C2b.out).mono ?_
          rintro e w5 ⟨rfl, rfl⟩
          go_wp2
          go_ret
          exact ⟨by rw [HF.out]; rfl, HG4.out⟩
        · have HN := Lib.hid (chain_iface HR.out.chain)
          have HI := Lib.hid hz
          clear hz
          go_wp2_with fail
          refine (isM_any b tb d ct pl _ C0.out (HT.out.gr hG.out)).mono ?_
          rintro e w4 ⟨rfl, hg4⟩
          rw [HI.out]
          have C2b := Lib.hid (hg4.cell C2.out)
          have HG4 := Lib.hid (hG.out.trans hg4)
          clear hg4
          go_wp2_with fail
          refine (faultUnwrap_any b _ _ C2b.out).mono ?_
          rintro e w5 ⟨rfl, rfl⟩
          go_wp2
          go_roundg L2.length
          case measure => omega
          case rel => exact ⟨_, L2, rfl, rfl, HN, HR, HZ, HG4⟩
      · have HF := Lib.hid (show (pl && hasOf M ct) = true by
          rw [← HH.out]
          cases pl
          · cases hz
          · simp only [Bool.true_and] at hz; rw [hz]; rfl)
        have HI := Lib.hid hz
        clear hz
        go_wp2_with fail
        refine (isM_any b tb d ct pl _ C0.out (HT.out.gr hG.out)).mono ?_
        rintro e w4 ⟨rfl, hg4⟩
        rw [HI.out]
        have HG4 := Lib.hid (hG.out.trans hg4)
        clear hg4
        go_wp2
        go_ret
        exact ⟨by rw [HF.out]; rfl, HG4.out⟩
theorem metComp (h : Value) (w : World) : (Go.method 248 87 (.agg #[h]) "Comparable").run Tryd.prog w = .ok (89, .agg #[h]) w := by kernel_rfl
theorem typeOfF (v : Value) (w : World) : (ReflectliteType.typeOf #[.iface 45 v]).run Tryd.prog w = .ok (.iface 87 (.agg #[.pointer (some ⟨4, 45, none⟩)])) w := by kernel_rfl
theorem compF (w : World) : (callFunc 89 #[.agg #[.pointer (some ⟨4, 45, none⟩)]]).run Tryd.prog w = .ok (.value (.bool true)) w := by kernel_rfl
set_option maxRecDepth 100000 in
theorem isTop_any (u : Value) (M : List Lk) (tb : Nat) (ct : Int) (pl : Bool) (W w : World) (h : Blk (· ≠ tb) W u M) (hw : Gr W w) (ht : Target w tb ct pl) :
    Calls Tryd.prog 20 #[u, .iface 45 (.pointer (some ⟨tb, 0, none⟩))] w fun e w' => e = .returned (.bool (pl && hasOf M ct)) ∧ Gr w w' := by
  have f0 := @run_callFunc_extern Tryd.prog 34 _ ReflectliteType.typeOf Tryd.func34 (by kernel_rfl) (by kernel_rfl) (by kernel_rfl) (by kernel_rfl)
  have f7 := compF
  have f1 := metComp
  have f2 := typeOfF
  have f3 := eqNN
  have f4 := eqIN
  have f5 : ∀ (v : Value) (w : World), (binOp .eql 26 .nilIface (.iface 45 v)).run Tryd.prog w = .ok (.bool false) w := fun v w => run_eql_iface_nil_left w 45 v Tryd.underlying26
  have HB := Lib.hid h
  have HT := Lib.hid ht
  have HW := Lib.hid hw
  rcases h.chain.isErr with rfl | ⟨t2, a2, rfl⟩
  · have hM := chain_nil h.chain
    subst hM
    have HF := Lib.hid (show (pl && hasOf [] ct) = false by simp [hasOf])
    clear h ht hw
    go_enter Tryd.func20, Tryd.ntmps20
    go_wp2
    go_ret
    exact ⟨by rw [HF.out]; rfl, Gr.refl _⟩
  · have HM := Lib.hid (chain_iface h.chain)
    clear h ht hw
    go_enter Tryd.func20, Tryd.ntmps20
    go_wp2_with fail
    refine (is_any _ M tb ct pl W _ HM.out HB.out HW.out HT.out).mono ?_
    rintro e w3 ⟨rfl, hg⟩
    generalize hz : (pl && hasOf M ct) = z at *
    have HZ := Lib.hid hz
    clear hz
    go_wp2
    go_ret
    exact ⟨by rw [HZ.out]; rfl, hg⟩
end Go.Proofs.YtgbicckclepplaaDoor
