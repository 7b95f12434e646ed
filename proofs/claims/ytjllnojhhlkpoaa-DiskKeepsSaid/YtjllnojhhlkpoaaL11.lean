import Derived.Test.YtjllnojhhlkpoaaF11zc
import Derived.WalkKit
import Derived.ProofKit
import Derived.LoopTactic
import Derived.Outline
import Derived.WalkSpells
import Derived.WalkLawsBesides
import Derived.Lib.Hide
import Derived.Deep.LoopGhost
import Derived.Deep.QuietTactic
import Derived.BigQuiet
import Derived.ShutString
import Derived.IntWalk
import Derived.Lib.MinMax
import Derived.StillTailTactics
import Derived.Deep.RegionWith
import Derived.Deep.RegionHeld3
namespace Go.Proofs.Ytjllnojhhlkpoaa
open Go.ChangeShapes Go.WideShapes Go.ChangeAt Go.RowKit
open Dk
set_option linter.unusedVariables false
set_option linter.unusedSimpArgs false
theorem ActRow.get {w : World} {a : Option Addr} {L : List ActD} (h : ActRow w a L) (i : Nat) (hi : i < L.length) : ∃ b off, a = some ⟨b, off, none⟩ ∧ b < w.heap.size ∧ ActAt w b (off + i * 5) L[i] ∧ L[i].ok := by
  obtain ⟨_, h2, rfl | ⟨b, off, rfl, hc⟩⟩ := h
  · simp at hi
  · exact ⟨b, off, rfl, cell_lt (hc i hi).1, hc i hi, h2 _ (List.getElem_mem hi)⟩
theorem ints_off {w : World} {a : Option Addr} {C : List Int} {b : Nat} (h : Ints w a C) (hb : w.heap.size ≤ b) : C = [] ∨ Off a b := by
  obtain ⟨_, _, rfl | ⟨bb, off, rfl, hc⟩⟩ := h
  · exact .inl rfl
  · rcases C with _ | ⟨x, C⟩
    · exact .inl rfl
    · refine .inr fun b2 o2 e => ?_
      simp only [Option.some.injEq, Addr.mk.injEq] at e
      have := cell_lt (hc 0 (by simp))
      omega
/-- The reference's disk lies in a block of the call's own. -/
structure BoxIs (w : World) (n : Nat) (v : Value) (d : D) : Prop where
  is : RkIs w v d
  blk : ∃ g off cap, v = .agg #[.slice (some ⟨g, off, none⟩) 4 cap, .int .i64 (d.room : Nat), .int .i64 ((d.fail : Nat) - 1)] ∧ Blk w n #[.slice (some ⟨g, off, none⟩) 4 cap, .int .i64 (d.room : Nat), .int .i64 ((d.fail : Nat) - 1)] 28
theorem BoxIs.gr {w w' : World} {n : Nat} {v : Value} {d : D} (h : BoxIs w n v d) (hg : Gr w w') : BoxIs w' n v d := by
  obtain ⟨h1, g, off, cap, h2, h3⟩ := h
  exact ⟨h1.gr hg, g, off, cap, h2, h3.gr hg⟩
/-- What the box holds, and the world behind a store into it. -/
theorem BoxIs.cells {w : World} {n : Nat} {v : Value} {d : D} (h : BoxIs w n v d) : ∃ g off cap, v = .agg #[.slice (some ⟨g, off, none⟩) 4 cap, .int .i64 (d.room : Nat), .int .i64 ((d.fail : Nat) - 1)] ∧ RkAt w g off d.fs ∧
    Blk w n #[.slice (some ⟨g, off, none⟩) 4 cap, .int .i64 (d.room : Nat), .int .i64 ((d.fail : Nat) - 1)] 28 := by
  obtain ⟨⟨g1, o1, c1, e1, h1⟩, g, off, cap, h2, h3⟩ := h
  rw [h2] at e1
  simp only [Value.agg.injEq] at e1
  have e2 := congrArg (fun a : Array Value => a[0]?) e1
  simp at e2
  obtain ⟨⟨rfl, rfl⟩, rfl⟩ := e2
  exact ⟨g, off, cap, h2, h1, h3⟩
set_option maxRecDepth 100000 in
set_option maxHeartbeats 2000000 in
theorem room_walk (L : List ActD) (a : Option Addr) (cap : Nat) (room : Int) (w : World) (hL : ActRow w a L) :
    Calls Try.prog 3 #[.slice a L.length cap, .int .i64 room] w fun e w' => e = .returned (.bool true) ∧ Gr w w' := by
  obtain ⟨r, hr⟩ : ∃ r : Nat, max 0 (min room 300) = (r : Int) := ⟨(max 0 (min room 300)).toNat, by omega⟩
  have hr300 : r ≤ 300 := by omega
  have HL := Lib.hid hL
  have hll := hL.1
  clear hL
  go_enter Try.func3, Try.ntmps3
  go_wp2_with fail
  refine (awake11 _).mono ?_
  rintro e w1 ⟨rfl, hg1⟩
  have HG1 := Lib.hid hg1
  clear hg1
  go_wp2_with (simp only [hr])
  refine (new_any r (by omega) _).mono ?_
  rintro e w2 ⟨b, rfl, hb, hd2, hg2⟩
  have HD2 := Lib.hid hd2
  have HG2 := Lib.hid (HG1.out.trans hg2)
  have HB := Lib.hid (show w.heap.size ≤ b by have := HG1.out.size; omega)
  have HBL := Lib.hid (cell_lt hd2.room)
  clear hb hd2 hg2
  go_wp2_with fail
  refine (refNew_any r _).mono ?_
  rintro e w3 ⟨v, rfl, hr3, hg3, hn3⟩
  obtain ⟨g, off, rc, rfl, ha3⟩ := hr3
  have HA3 := Lib.hid ha3
  have HD3 := Lib.hid (HD2.out.gr hg3)
  have HG3 := Lib.hid (HG2.out.trans hg3)
  have HR3 := Lib.hid (show g ≠ b by have := HBL.out; have h9 : w2.heap.size ≤ g := hn3; omega)
  have HN3 := Lib.hid (show b < w3.heap.size from Nat.lt_of_lt_of_le HBL.out hg3.size)
  clear ha3 hg3 hn3
  go_wp2_with fail
  have HBX := Lib.hid (Blk.new w3 #[.slice (some ⟨g, off, none⟩) 4 rc, .int .i64 ((new r).room : Nat), .int .i64 (((new r).fail : Nat) - 1)] 28)
  have HA4 := Lib.hid (HA3.out.gr ((Gr.refl w3).alloc (.cells #[.slice (some ⟨g, off, none⟩) 4 rc, .int .i64 ((new r).room : Nat), .int .i64 (((new r).fail : Nat) - 1)] 28)))
  have HD4 := Lib.hid (HD3.out.gr ((Gr.refl w3).alloc (.cells #[.slice (some ⟨g, off, none⟩) 4 rc, .int .i64 ((new r).room : Nat), .int .i64 (((new r).fail : Nat) - 1)] 28)))
  have HG4 := Lib.hid (HG3.out.alloc (.cells #[.slice (some ⟨g, off, none⟩) 4 rc, .int .i64 ((new r).room : Nat), .int .i64 (((new r).fail : Nat) - 1)] 28))
  have HNB := Lib.hid (show w3.heap.size ≠ b ∧ w.heap.size ≤ w3.heap.size from ⟨by have := HN3.out; omega, HG3.out.size⟩)
  generalize hnb : w3.heap.size = nb at *
  generalize w3.alloc (.cells #[.slice (some ⟨g, off, none⟩) 4 rc, .int .i64 ((new r).room : Nat), .int .i64 (((new r).fail : Nat) - 1)] 28) = w4 at *
  clear hnb HA3 HD3 HG3 HN3 HD2 HG2 HBL HG1
  go_loopw [7] (fun i wr => ∃ (k : Nat) (d : D) (g off rc : Nat), k ≤ L.length ∧ k ≤ 40 ∧ i = .int .i64 (k : Nat) ∧ Hid (DkIs wr b d) ∧ Hid (d.room = r) ∧ Hid (RkAt wr g off d.fs) ∧ Hid (Blk wr nb #[.slice (some ⟨g, off, none⟩) 4 rc, .int .i64 (d.room : Nat), .int .i64 ((d.fail : Nat) - 1)] 28) ∧ Hid (g ≠ b) ∧ Hid (Gr w wr)) (fun i _ => L.length - (intOf i).toNat)
  case atStart => exact ⟨0, new r, g, off, rc, by omega, by omega, rfl, HD4, Lib.hid rfl, HA4, HBX, HR3, HG4⟩
  case round =>
    clear HD4 HA4 HBX HR3 HG4
    obtain ⟨k, d, g, off, rc, hk, hk40, rfl, HD, HDR, HA, HBX, HR, HG⟩ := hrel
    by_cases hlt : k < L.length
    · by_cases h40 : k < 40
      · obtain ⟨bb, oo, rfl, hbb, hat, hok⟩ := HL.out.get k hlt
        obtain ⟨c0, c1, c2, c3, ca, cc, c4, hcc, hci⟩ := hat
        have HOF := Lib.hid (ints_off (b := b) hci HB.out)
        replace c0 := HG.out.cell c0
        replace c1 := HG.out.cell c1
        replace c2 := HG.out.cell c2
        replace c3 := HG.out.cell c3
        replace c4 := HG.out.cell c4
        replace hci := hci.gr HG.out
        generalize L[k] = p at *
        have HP := Lib.hid hok
        have HCI := Lib.hid hci
        clear hok hci
        have d0 := HBX.out.cell (i := 0) rfl
        have d1 := HBX.out.cell (i := 1) rfl
        have d2 := HBX.out.cell (i := 2) rfl
        have HRK : Hid (RkIs wr (.agg #[.slice (some ⟨g, off, none⟩) 4 rc, .int .i64 (d.room : Nat), .int .i64 ((d.fail : Nat) - 1)]) d) := Lib.hid ⟨g, off, rc, rfl, HA.out⟩
        have HDO := Lib.hid (fun (w9 : World) (hg : Gr wr w9) => lawDo_any p HP.out ca cc _ w9 (HD.out.gr hg) (HRK.out.gr hg) HR.out (HCI.out.gr hg) hcc HOF.out)
        obtain ⟨d9, hd9⟩ : ∃ d9, step d p = d9 := ⟨_, rfl⟩
        have hrm := step_room d p
        have hok9 := step_ok HD.out.ok p
        rw [hd9] at HDO hrm hok9
        have HUS := Lib.hid (show ((used d9.fs : Nat) : Int) ≤ (r : Int) by have h1 := hok9.used; rw [hrm, HDR.out] at h1; omega)
        have HDR9 := Lib.hid (hrm.trans HDR.out)
        clear hd9 hrm hok9
        generalize hRR : ((d.room : Nat) : Int) = R at *
        generalize hFF : ((d.fail : Nat) : Int) - 1 = fv at *
        generalize p.C.length = cl at *
        have hk4 : (k : Int) < (L.length : Int) := by omega
        have HBB := Lib.hid (show bb ≠ b by have := HB.out; omega)
        have HX : Hid (∀ w0 w9 : World, Sole b w0 w9 → (fun w9 => Sole b wr w9 ∧ w9.cell? ⟨nb, 0, none⟩ = some (.slice (some ⟨g, off, none⟩) 4 rc) ∧ w9.cell? ⟨nb, 1, none⟩ = some (.int .i64 R) ∧ w9.cell? ⟨nb, 2, none⟩ = some (.int .i64 fv) ∧ w9.cell? ⟨bb, oo + k * 5, none⟩ = some (.int .i64 p.K) ∧ w9.cell? ⟨bb, oo + k * 5 + 1, none⟩ = some (.int .i64 p.F) ∧ w9.cell? ⟨bb, oo + k * 5 + 2, none⟩ = some (.int .i64 p.N) ∧ w9.cell? ⟨bb, oo + k * 5 + 3, none⟩ = some (.string p.S) ∧ w9.cell? ⟨bb, oo + k * 5 + 4, none⟩ = some (.slice ca cl cc)) w0 → (fun w9 => Sole b wr w9 ∧ w9.cell? ⟨nb, 0, none⟩ = some (.slice (some ⟨g, off, none⟩) 4 rc) ∧ w9.cell? ⟨nb, 1, none⟩ = some (.int .i64 R) ∧ w9.cell? ⟨nb, 2, none⟩ = some (.int .i64 fv) ∧ w9.cell? ⟨bb, oo + k * 5, none⟩ = some (.int .i64 p.K) ∧ w9.cell? ⟨bb, oo + k * 5 + 1, none⟩ = some (.int .i64 p.F) ∧ w9.cell? ⟨bb, oo + k * 5 + 2, none⟩ = some (.int .i64 p.N) ∧ w9.cell? ⟨bb, oo + k * 5 + 3, none⟩ = some (.string p.S) ∧ w9.cell? ⟨bb, oo + k * 5 + 4, none⟩ = some (.slice ca cl cc)) w9) := Lib.hid fun w0 w9 hg ⟨h, q0, q1, q2, q3, q4, q5, q6, q7⟩ => ⟨h.trans hg, hg.cell HNB.out.1 q0, hg.cell HNB.out.1 q1, hg.cell HNB.out.1 q2, hg.cell HBB.out q3, hg.cell HBB.out q4, hg.cell HBB.out q5, hg.cell HBB.out q6, hg.cell HBB.out q7⟩
        have HS0 : (fun w9 => Sole b wr w9 ∧ w9.cell? ⟨nb, 0, none⟩ = some (.slice (some ⟨g, off, none⟩) 4 rc) ∧ w9.cell? ⟨nb, 1, none⟩ = some (.int .i64 R) ∧ w9.cell? ⟨nb, 2, none⟩ = some (.int .i64 fv) ∧ w9.cell? ⟨bb, oo + k * 5, none⟩ = some (.int .i64 p.K) ∧ w9.cell? ⟨bb, oo + k * 5 + 1, none⟩ = some (.int .i64 p.F) ∧ w9.cell? ⟨bb, oo + k * 5 + 2, none⟩ = some (.int .i64 p.N) ∧ w9.cell? ⟨bb, oo + k * 5 + 3, none⟩ = some (.string p.S) ∧ w9.cell? ⟨bb, oo + k * 5 + 4, none⟩ = some (.slice ca cl cc)) wr := And.intro (Sole.refl _ _) (And.intro (d0) (And.intro (d1) (And.intro (d2) (And.intro (c0) (And.intro (c1) (And.intro (c2) (And.intro (c3) (c4))))))))
        clear d0 d1 d2 c0 c1 c2 c3 c4
        go_wp2_with fail
        refine late_start (fun i => decide (8 ≤ i)) (fun w9 => Sole b wr w9 ∧ w9.cell? ⟨nb, 0, none⟩ = some (.slice (some ⟨g, off, none⟩) 4 rc) ∧ w9.cell? ⟨nb, 1, none⟩ = some (.int .i64 R) ∧ w9.cell? ⟨nb, 2, none⟩ = some (.int .i64 fv) ∧ w9.cell? ⟨bb, oo + k * 5, none⟩ = some (.int .i64 p.K) ∧ w9.cell? ⟨bb, oo + k * 5 + 1, none⟩ = some (.int .i64 p.F) ∧ w9.cell? ⟨bb, oo + k * 5 + 2, none⟩ = some (.int .i64 p.N) ∧ w9.cell? ⟨bb, oo + k * 5 + 3, none⟩ = some (.string p.S) ∧ w9.cell? ⟨bb, oo + k * 5 + 4, none⟩ = some (.slice ca cl cc)) (by kernel_rfl) ?inva (fun h0 => ?_)
        case inva => ((try dsimp only); (exact HX.out _ _ (Sole.of_gr (Gr.refl _).drew) HS0))
        refine late_take (i := 0) (oi := { dst := some 30, op := Go.Op.move (Go.Operand.tmp 5), type := 24, pos := "law.go:143", after := #[], guard := none }) (v := ?va1) rfl (by kernel_rfl) (by kernel_rfl) (by kernel_rfl) (by kernel_rfl) (by kernel_rfl) (fun _ _ _ h => h) (Or.inl ⟨by rfl, ?ra1⟩) (by assumption) ?_
        case ra1 => (intro w hSw; (try dsimp only at hSw); (go_simp <;> with_reducible rfl))
        try simp only [Act.put, List.setIfInBounds_toArray, List.set_cons_zero, List.set_cons_succ]
        refine late_take (i := 1) (oi := { dst := some 31, op := Go.Op.load 28 (Go.Operand.tmp 6), type := 28, pos := "law.go:143", after := #[], guard := none }) (v := ?va2) rfl (by kernel_rfl) (by kernel_rfl) (by kernel_rfl) (by kernel_rfl) (by kernel_rfl) (fun _ _ _ h => h) (Or.inl ⟨by rfl, ?ra2⟩) (by assumption) ?_
        case ra2 => (intro w hSw; (try dsimp only at hSw); (go_simp <;> with_reducible rfl))
        try simp only [Act.put, List.setIfInBounds_toArray, List.set_cons_zero, List.set_cons_succ]
        refine late_take (i := 2) (oi := { dst := some 32, op := Go.Op.move (Go.Operand.tmp 0), type := 22, pos := "law.go:143", after := #[], guard := none }) (v := ?va3) rfl (by kernel_rfl) (by kernel_rfl) (by kernel_rfl) (by kernel_rfl) (by kernel_rfl) (fun _ _ _ h => h) (Or.inl ⟨by rfl, ?ra3⟩) (by assumption) ?_
        case ra3 => (intro w hSw; (try dsimp only at hSw); (go_simp <;> with_reducible rfl))
        try simp only [Act.put, List.setIfInBounds_toArray, List.set_cons_zero, List.set_cons_succ]
        refine late_take (i := 3) (oi := { dst := some 33, op := Go.Op.move (Go.Operand.tmp 7), type := 3, pos := "law.go:143", after := #[], guard := none }) (v := ?va4) rfl (by kernel_rfl) (by kernel_rfl) (by kernel_rfl) (by kernel_rfl) (by kernel_rfl) (fun _ _ _ h => h) (Or.inl ⟨by rfl, ?ra4⟩) (by assumption) ?_
        case ra4 => (intro w hSw; (try dsimp only at hSw); (go_simp <;> with_reducible rfl))
        try simp only [Act.put, List.setIfInBounds_toArray, List.set_cons_zero, List.set_cons_succ]
        refine late_take (i := 4) (oi := { dst := some 34, op := Go.Op.indexAddr 22 (Go.Operand.tmp 32) (Go.Operand.tmp 33), type := 0, pos := "law.go:143", after := #[{ on := 2, ground := Go.Ground.data }, { on := 3, ground := Go.Ground.data }], guard := none }) (v := ?va5) rfl (by kernel_rfl) (by kernel_rfl) (by kernel_rfl) (by kernel_rfl) (by kernel_rfl) (fun _ _ _ h => h) (Or.inl ⟨by rfl, ?ra5⟩) (by assumption) ?_
        case ra5 => (intro w hSw; (try dsimp only at hSw); (go_simp <;> with_reducible rfl))
        try simp only [Act.put, List.setIfInBounds_toArray, List.set_cons_zero, List.set_cons_succ]
        refine late_take (i := 5) (oi := { dst := some 35, op := Go.Op.load 34 (Go.Operand.tmp 34), type := 34, pos := "law.go:143", after := #[{ on := 4, ground := Go.Ground.data }], guard := none }) (v := ?va6) rfl (by kernel_rfl) (by kernel_rfl) (by kernel_rfl) (by kernel_rfl) (by kernel_rfl) (fun _ _ _ h => h) (Or.inl ⟨by rfl, ?ra6⟩) (by assumption) ?_
        case ra6 => (intro w hSw; (try dsimp only at hSw); (go_simp <;> with_reducible rfl))
        try simp only [Act.put, List.setIfInBounds_toArray, List.set_cons_zero, List.set_cons_succ]
        refine late_ready (rs := [6]) (by kernel_rfl) (by simp) ?_
        refine LateAll.cons (o := { dst := some 36, op := Go.Op.call { callee := Go.Callee.value (Go.Operand.func 14), args := #[Go.Operand.tmp 30, Go.Operand.tmp 31, Go.Operand.tmp 35], argTypes := #[24, 28, 34] }, type := 30, pos := "law.go:143", after := #[{ on := 0, ground := Go.Ground.data }, { on := 1, ground := Go.Ground.data }, { on := 5, ground := Go.Ground.data }], guard := none }) rfl (fun K hK => ?_) LateAll.nil
        go_simp
        (go_at_call 14; refine (HDO.out _ ((Gr.refl _).drew)).mono ?_; rintro e w9 ⟨v9, rfl, hd9, hr9, hs9, hn9⟩; obtain ⟨g9, off9, rc9, rfl, ha9⟩ := hr9; have HD9 := Lib.hid hd9; have HA9 := Lib.hid ha9; have HS9 := Lib.hid ((Sole.of_gr (p := b) (Gr.refl wr).drew).trans hs9); have HN9 := Lib.hid hn9; have HBX9 := Lib.hid (HBX.out.sole HS9.out HNB.out.1); clear hd9 ha9 hn9; generalize hR9 : ((d9.room : Nat) : Int) = R9 at *; generalize hF9 : ((d9.fail : Nat) : Int) - 1 = F9 at *; have HR9 := Lib.hid hR9; have HF9 := Lib.hid hF9; clear hR9 hF9)
        first | refine hK.out _ _ ?sa7 (fun h7 => ?_) | (go_wp2_with fail; refine hK.out _ _ ?sa7 (fun h7 => ?_))
        case sa7 => ((try dsimp only); exact HX.out _ _ hs9 h0)
        clear hK K h0
        try simp only [Act.put, List.setIfInBounds_toArray, List.set_cons_zero, List.set_cons_succ]
        refine late_take (i := 7) (oi := { dst := some 29, op := Go.Op.move (Go.Operand.tmp 36), type := 30, pos := "law.go:143", after := #[{ on := 6, ground := Go.Ground.data }], guard := none }) (v := ?va8) rfl (by kernel_rfl) (by kernel_rfl) (by kernel_rfl) (by kernel_rfl) (by kernel_rfl) (fun _ _ _ h => h) (Or.inl ⟨by rfl, ?ra8⟩) (by assumption) ?_
        case ra8 => (intro w hSw; (try dsimp only at hSw); (go_simp <;> with_reducible rfl))
        try simp only [Act.put, List.setIfInBounds_toArray, List.set_cons_zero, List.set_cons_succ]
        have x0 := HBX9.out.cell (i := 0) rfl
        have x1 := HBX9.out.cell (i := 1) rfl
        have x2 := HBX9.out.cell (i := 2) rfl
        have f0 := HBX9.out.free 0
        have f1 := HBX9.out.free 1
        have f2 := HBX9.out.free 2
        clear hs9 h7 HX HS0
        refine late_go (by kernel_rfl) ?_
        refine wpAny_take (i := 8) (v := ?vla8) rfl (by kernel_rfl) (by kernel_rfl) (by kernel_rfl) (fun _ _ _ h => h) (Or.inl ⟨by rfl, ?rla8⟩) ?_
        case rla8 => (intro w; (go_simp <;> with_reducible rfl))
        try simp only [Act.put, List.setIfInBounds_toArray, List.set_cons_zero, List.set_cons_succ]
        refine wpAny_take (i := 9) (v := ?vla9) rfl (by kernel_rfl) (by kernel_rfl) (by kernel_rfl) (fun _ _ _ h => h) (Or.inl ⟨by rfl, ?rla9⟩) ?_
        case rla9 => (intro w; (go_simp <;> with_reducible rfl))
        try simp only [Act.put, List.setIfInBounds_toArray, List.set_cons_zero, List.set_cons_succ]
        refine any_one (i := 10) (o := { dst := none, op := Go.Op.store 28 (Go.Operand.tmp 6) (Go.Operand.tmp 37), type := 0, pos := "law.go:143", after := #[{ on := 8, ground := Go.Ground.data }, { on := 6, ground := Go.Ground.chain }, { on := 0, ground := Go.Ground.phase }, { on := 1, ground := Go.Ground.phase }, { on := 2, ground := Go.Ground.phase }, { on := 3, ground := Go.Ground.phase }, { on := 4, ground := Go.Ground.phase }, { on := 5, ground := Go.Ground.phase }, { on := 6, ground := Go.Ground.phase }, { on := 7, ground := Go.Ground.phase }, { on := 8, ground := Go.Ground.phase }, { on := 9, ground := Go.Ground.textOnly Go.Departure.lateStores }], guard := none }) (by kernel_rfl) rfl (fun K hK => ?_)
        go_simp
        refine hK.out _ _ ?_
        clear hK K
        try simp only [Act.put, List.setIfInBounds_toArray, List.set_cons_zero, List.set_cons_succ]
        refine any_done (by kernel_rfl) ?_
        have HST := Lib.hid (stored (d := d9) (R := R9) (fv := F9) (cap := rc9) HBX9.out HA9.out)
        have HDX := Lib.hid (HD9.out.sole (store3_sole w9 nb (.slice (some ⟨g9, off9, none⟩) 4 rc9) (.int .i64 R9) (.int .i64 F9)) HNB.out.1.symm)
        have HGX := Lib.hid ((HS9.out.gr HG.out HB.out).store3 (b := nb) HNB.out.2 (.slice (some ⟨g9, off9, none⟩) 4 rc9) (.int .i64 R9) (.int .i64 F9))
        have HRX := Lib.hid (show g9 ≠ b from by
          rcases HN9.out with h1 | h1
          · have h2 : g9 = g := h1
            rw [h2]; exact HR.out
          · have h2 : wr.heap.size ≤ g9 := h1
            have := cell_lt HD.out.room
            omega)
        clear x0 x1 x2 f0 f1 f2
        generalize ((w9.setCell ⟨nb, 0, none⟩ (.slice (some ⟨g9, off9, none⟩) 4 rc9)).setCell ⟨nb, 1, none⟩ (.int .i64 R9)).setCell ⟨nb, 2, none⟩ (.int .i64 F9) = w8 at *
        have hus := HUS.out
        go_wp2_with fail
        refine (used_any _ HDX.out).mono ?_
        rintro e w7 ⟨rfl, hg7⟩
        have hD7 := HDX.out.gr hg7
        have hS7 := (HST.out.2).gr hg7
        have hB7 := (HST.out.1).gr hg7
        have hG7 := HGX.out.trans hg7
        have HD7 := Lib.hid hD7
        have HS7 := Lib.hid hS7
        have HB7 := Lib.hid (show Blk w7 nb #[.slice (some ⟨g9, off9, none⟩) 4 rc9, .int .i64 (d9.room : Nat), .int .i64 ((d9.fail : Nat) - 1)] 28 by rw [HR9.out, HF9.out]; exact hB7)
        have HG7 := Lib.hid hG7
        clear hD7 hS7 hB7 hG7 hg7
        go_wp2
        go_roundw
        case rel => exact ⟨k + 1, d9, g9, off9, rc9, by omega, by omega, by go_num, HD7, HDR9, HS7, HB7, HRX, HG7⟩
        case measure => simp [intOf]; omega
      · obtain rfl : k = 40 := by omega
        go_wp2
        go_ret
        exact ⟨rfl, HG.out⟩
    · obtain rfl : k = L.length := by omega
      go_wp2
      go_ret
      exact ⟨rfl, HG.out⟩
end Go.Proofs.Ytjllnojhhlkpoaa
