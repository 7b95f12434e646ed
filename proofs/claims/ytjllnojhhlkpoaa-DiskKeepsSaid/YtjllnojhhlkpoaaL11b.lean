import Derived.Test.YtjllnojhhlkpoaaL11
import Derived.WalkKit
import Derived.ProofKit
import Derived.LoopTactic
import Derived.Outline
import Derived.WalkSpells
import Derived.WalkLawsBesides
import Derived.Lib.Hide
import Derived.Deep.LoopGhost
import Derived.Deep.QuietTactic
import Derived.BigQuiet
import Derived.ShutString
import Derived.IntWalk
import Derived.Lib.MinMax
import Derived.Laws.Bits128
import Derived.Deep.RegionWith
import Derived.Deep.RegionHeld3
namespace Go.Proofs.Ytjllnojhhlkpoaa
open Go.ChangeShapes Go.WideShapes Go.ChangeAt Go.RowKit
open Dk
set_option linter.unusedVariables false
set_option linter.unusedSimpArgs false
theorem i64_and3 (n : Int) : bits .and .i64 n 3 = n % 4 := by
  have h3 : (BitVec.ofInt 64 3).toNat = 2 ^ 2 - 1 := by decide
  have key : (BitVec.ofInt 64 n &&& BitVec.ofInt 64 3).toNat = (n % ((2 ^ 64 : Nat) : Int)).toNat % 2 ^ 2 := by
    rw [BitVec.toNat_and, BitVec.toNat_ofInt, h3, Nat.and_two_pow_sub_one_eq_mod]
  show IntKind.i64.wrap ((BitVec.ofInt 64 n &&& BitVec.ofInt 64 3).toNat : Nat) = n % 4
  rw [key, IntKind.wrap_i64]
  omega
theorem sync_keep {d : D} (h : d.Ok) (h0 : d.fail = 0) (k : Nat) (hk : k < 4) : ∃ d', act d (k : Nat) gKeep = (d', 0) ∧ (d'.fs k).now = (d.fs k).now ∧ Kept k (d.fs k).now d' := by
  refine ⟨_, act_yes gKeep hk (by omega) (full_keep (tick_ok h) k _ (gKeep_size _)), ?_, ?_⟩
  · show (upd d.fs k _ k).now = _
    rw [upd_same]; rfl
  · unfold Kept
    show bytesOf (d.fs k).now <+: bytesOf (upd d.fs k _ k).sure ∧ (upd d.fs k _ k).put = false
    rw [upd_same]; exact ⟨List.prefix_rfl, rfl⟩
set_option maxRecDepth 100000 in
set_option maxHeartbeats 2000000 in
theorem keeps_walk (L : List ActD) (a : Option Addr) (cap : Nat) (M : List ActD) (ma : Option Addr) (mcap : Nat) (f : Int) (w : World) (hL : ActRow w a L) (hM : ActRow w ma M) :
    Calls Try.prog 4 #[.slice a L.length cap, .slice ma M.length mcap, .int .i64 f] w fun e w' => e = .returned (.bool true) ∧ Gr w w' := by
  obtain ⟨kf, hkf⟩ : ∃ k : Nat, bits .and .i64 f 3 = (k : Int) ∧ k < 4 := ⟨(f % 4).toNat, by rw [i64_and3]; omega⟩
  obtain ⟨hkf, hkf4⟩ := hkf
  have HKF := Lib.hid hkf
  clear hkf
  have HL := Lib.hid hL
  have hll := hL.1
  have HM := Lib.hid hM
  have hml := hM.1
  clear hL hM
  go_enter Try.func4, Try.ntmps4
  go_wp2_with fail
  refine (awake11 _).mono ?_
  rintro e w1 ⟨rfl, hg1⟩
  have HG1 := Lib.hid hg1
  clear hg1
  go_wp2_with fail
  refine (new_any 2000 (by decide) _).mono ?_
  rintro e w2 ⟨b, rfl, hb, hd2, hg2⟩
  have HD2 := Lib.hid hd2
  have HG2 := Lib.hid (HG1.out.trans hg2)
  have HB := Lib.hid (show w.heap.size ≤ b by have := HG1.out.size; omega)
  have HBL := Lib.hid (cell_lt hd2.room)
  clear hb hd2 hg2
  go_wp2_with fail
  refine (refNew_any 2000 _).mono ?_
  rintro e w3 ⟨v, rfl, hr3, hg3, hn3⟩
  obtain ⟨g, off, rc, rfl, ha3⟩ := hr3
  have HA3 := Lib.hid ha3
  have HD3 := Lib.hid (HD2.out.gr hg3)
  have HG3 := Lib.hid (HG2.out.trans hg3)
  have HR3 := Lib.hid (show g ≠ b by have := HBL.out; have h9 : w2.heap.size ≤ g := hn3; omega)
  have HN3 := Lib.hid (show b < w3.heap.size from Nat.lt_of_lt_of_le HBL.out hg3.size)
  clear ha3 hg3 hn3
  have HBX := Lib.hid (Blk.new w3 #[.slice (some ⟨g, off, none⟩) 4 rc, .int .i64 ((new 2000).room : Nat), .int .i64 (((new 2000).fail : Nat) - 1)] 28)
  have HA4 := Lib.hid (HA3.out.gr ((Gr.refl w3).alloc (.cells #[.slice (some ⟨g, off, none⟩) 4 rc, .int .i64 ((new 2000).room : Nat), .int .i64 (((new 2000).fail : Nat) - 1)] 28)))
  have HD4 := Lib.hid (HD3.out.gr ((Gr.refl w3).alloc (.cells #[.slice (some ⟨g, off, none⟩) 4 rc, .int .i64 ((new 2000).room : Nat), .int .i64 (((new 2000).fail : Nat) - 1)] 28)))
  have HG4 := Lib.hid (HG3.out.alloc (.cells #[.slice (some ⟨g, off, none⟩) 4 rc, .int .i64 ((new 2000).room : Nat), .int .i64 (((new 2000).fail : Nat) - 1)] 28))
  have HNB := Lib.hid (show w3.heap.size ≠ b ∧ w.heap.size ≤ w3.heap.size from ⟨by have := HN3.out; omega, HG3.out.size⟩)
  go_wp2_with (simp only [HKF.out])
  generalize hnb : w3.heap.size = nb at *
  generalize w3.alloc (.cells #[.slice (some ⟨g, off, none⟩) 4 rc, .int .i64 ((new 2000).room : Nat), .int .i64 (((new 2000).fail : Nat) - 1)] 28) = w4 at *
  clear hnb HA3 HD3 HG3 HN3 HD2 HG2 HBL HG1 HKF
  go_loopw [9] (fun i wr => ∃ (k : Nat) (d : D) (g off rc : Nat), k ≤ L.length ∧ k ≤ 20 ∧ i = .int .i64 (k : Nat) ∧ Hid (DkIs wr b d) ∧ Hid (RkAt wr g off d.fs) ∧ Hid (Blk wr nb #[.slice (some ⟨g, off, none⟩) 4 rc, .int .i64 (d.room : Nat), .int .i64 ((d.fail : Nat) - 1)] 28) ∧ Hid (g ≠ b) ∧ Hid (Gr w wr)) (fun i _ => L.length - (intOf i).toNat)
  case atStart => exact ⟨0, new 2000, g, off, rc, by omega, by omega, rfl, HD4, HA4, HBX, HR3, HG4⟩
  case round =>
    clear HD4 HA4 HBX HR3 HG4
    obtain ⟨k, d, g, off, rc, hk, hk20, rfl, HD, HA, HBX, HR, HG⟩ := hrel
    by_cases hlt : k < L.length
    · by_cases h20 : k < 20
      · obtain ⟨bb, oo, rfl, hbb, hat, hok⟩ := HL.out.get k hlt
        obtain ⟨c0, c1, c2, c3, ca, cc, c4, hcc, hci⟩ := hat
        have HOF := Lib.hid (ints_off (b := b) hci HB.out)
        replace c0 := HG.out.cell c0
        replace c1 := HG.out.cell c1
        replace c2 := HG.out.cell c2
        replace c3 := HG.out.cell c3
        replace c4 := HG.out.cell c4
        replace hci := hci.gr HG.out
        generalize L[k] = p at *
        have HP := Lib.hid hok
        have HCI := Lib.hid hci
        clear hok hci
        have d0 := HBX.out.cell (i := 0) rfl
        have d1 := HBX.out.cell (i := 1) rfl
        have d2 := HBX.out.cell (i := 2) rfl
        have HRK : Hid (RkIs wr (.agg #[.slice (some ⟨g, off, none⟩) 4 rc, .int .i64 (d.room : Nat), .int .i64 ((d.fail : Nat) - 1)]) d) := Lib.hid ⟨g, off, rc, rfl, HA.out⟩
        have HDO := Lib.hid (fun (w9 : World) (hg : Gr wr w9) => lawDo_any p HP.out ca cc _ w9 (HD.out.gr hg) (HRK.out.gr hg) HR.out (HCI.out.gr hg) hcc HOF.out)
        obtain ⟨d9, hd9⟩ : ∃ d9, step d p = d9 := ⟨_, rfl⟩
        rw [hd9] at HDO
        clear hd9
        generalize hRR : ((d.room : Nat) : Int) = R at *
        generalize hFF : ((d.fail : Nat) : Int) - 1 = fv at *
        generalize p.C.length = cl at *
        have hk4 : (k : Int) < (L.length : Int) := by omega
        have HBB := Lib.hid (show bb ≠ b by have := HB.out; omega)
        have HX : Hid (∀ w0 w9 : World, Sole b w0 w9 → (fun w9 => Sole b wr w9 ∧ w9.cell? ⟨nb, 0, none⟩ = some (.slice (some ⟨g, off, none⟩) 4 rc) ∧ w9.cell? ⟨nb, 1, none⟩ = some (.int .i64 R) ∧ w9.cell? ⟨nb, 2, none⟩ = some (.int .i64 fv) ∧ w9.cell? ⟨bb, oo + k * 5, none⟩ = some (.int .i64 p.K) ∧ w9.cell? ⟨bb, oo + k * 5 + 1, none⟩ = some (.int .i64 p.F) ∧ w9.cell? ⟨bb, oo + k * 5 + 2, none⟩ = some (.int .i64 p.N) ∧ w9.cell? ⟨bb, oo + k * 5 + 3, none⟩ = some (.string p.S) ∧ w9.cell? ⟨bb, oo + k * 5 + 4, none⟩ = some (.slice ca cl cc)) w0 → (fun w9 => Sole b wr w9 ∧ w9.cell? ⟨nb, 0, none⟩ = some (.slice (some ⟨g, off, none⟩) 4 rc) ∧ w9.cell? ⟨nb, 1, none⟩ = some (.int .i64 R) ∧ w9.cell? ⟨nb, 2, none⟩ = some (.int .i64 fv) ∧ w9.cell? ⟨bb, oo + k * 5, none⟩ = some (.int .i64 p.K) ∧ w9.cell? ⟨bb, oo + k * 5 + 1, none⟩ = some (.int .i64 p.F) ∧ w9.cell? ⟨bb, oo + k * 5 + 2, none⟩ = some (.int .i64 p.N) ∧ w9.cell? ⟨bb, oo + k * 5 + 3, none⟩ = some (.string p.S) ∧ w9.cell? ⟨bb, oo + k * 5 + 4, none⟩ = some (.slice ca cl cc)) w9) := Lib.hid fun w0 w9 hg ⟨h, q0, q1, q2, q3, q4, q5, q6, q7⟩ => ⟨h.trans hg, hg.cell HNB.out.1 q0, hg.cell HNB.out.1 q1, hg.cell HNB.out.1 q2, hg.cell HBB.out q3, hg.cell HBB.out q4, hg.cell HBB.out q5, hg.cell HBB.out q6, hg.cell HBB.out q7⟩
        have HS0 : (fun w9 => Sole b wr w9 ∧ w9.cell? ⟨nb, 0, none⟩ = some (.slice (some ⟨g, off, none⟩) 4 rc) ∧ w9.cell? ⟨nb, 1, none⟩ = some (.int .i64 R) ∧ w9.cell? ⟨nb, 2, none⟩ = some (.int .i64 fv) ∧ w9.cell? ⟨bb, oo + k * 5, none⟩ = some (.int .i64 p.K) ∧ w9.cell? ⟨bb, oo + k * 5 + 1, none⟩ = some (.int .i64 p.F) ∧ w9.cell? ⟨bb, oo + k * 5 + 2, none⟩ = some (.int .i64 p.N) ∧ w9.cell? ⟨bb, oo + k * 5 + 3, none⟩ = some (.string p.S) ∧ w9.cell? ⟨bb, oo + k * 5 + 4, none⟩ = some (.slice ca cl cc)) wr := And.intro (Sole.refl _ _) (And.intro (d0) (And.intro (d1) (And.intro (d2) (And.intro (c0) (And.intro (c1) (And.intro (c2) (And.intro (c3) (c4))))))))
        clear d0 d1 d2 c0 c1 c2 c3 c4
        go_wp2_with fail
        refine late_start (fun i => decide (8 ≤ i)) (fun w9 => Sole b wr w9 ∧ w9.cell? ⟨nb, 0, none⟩ = some (.slice (some ⟨g, off, none⟩) 4 rc) ∧ w9.cell? ⟨nb, 1, none⟩ = some (.int .i64 R) ∧ w9.cell? ⟨nb, 2, none⟩ = some (.int .i64 fv) ∧ w9.cell? ⟨bb, oo + k * 5, none⟩ = some (.int .i64 p.K) ∧ w9.cell? ⟨bb, oo + k * 5 + 1, none⟩ = some (.int .i64 p.F) ∧ w9.cell? ⟨bb, oo + k * 5 + 2, none⟩ = some (.int .i64 p.N) ∧ w9.cell? ⟨bb, oo + k * 5 + 3, none⟩ = some (.string p.S) ∧ w9.cell? ⟨bb, oo + k * 5 + 4, none⟩ = some (.slice ca cl cc)) (by kernel_rfl) ?inva (fun h0 => ?_)
        case inva => ((try dsimp only); (exact HX.out _ _ (Sole.of_gr (Gr.refl _).drew) HS0))
        refine late_take (i := 0) (oi := { dst := some 33, op := Go.Op.move (Go.Operand.tmp 7), type := 24, pos := "law.go:109", after := #[], guard := none }) (v := ?va1) rfl (by kernel_rfl) (by kernel_rfl) (by kernel_rfl) (by kernel_rfl) (by kernel_rfl) (fun _ _ _ h => h) (Or.inl ⟨by rfl, ?ra1⟩) (by assumption) ?_
        case ra1 => (intro w hSw; (try dsimp only at hSw); (go_simp <;> with_reducible rfl))
        try simp only [Act.put, List.setIfInBounds_toArray, List.set_cons_zero, List.set_cons_succ]
        refine late_take (i := 1) (oi := { dst := some 34, op := Go.Op.load 28 (Go.Operand.tmp 8), type := 28, pos := "law.go:109", after := #[], guard := none }) (v := ?va2) rfl (by kernel_rfl) (by kernel_rfl) (by kernel_rfl) (by kernel_rfl) (by kernel_rfl) (fun _ _ _ h => h) (Or.inl ⟨by rfl, ?ra2⟩) (by assumption) ?_
        case ra2 => (intro w hSw; (try dsimp only at hSw); (go_simp <;> with_reducible rfl))
        try simp only [Act.put, List.setIfInBounds_toArray, List.set_cons_zero, List.set_cons_succ]
        refine late_take (i := 2) (oi := { dst := some 35, op := Go.Op.move (Go.Operand.tmp 0), type := 22, pos := "law.go:109", after := #[], guard := none }) (v := ?va3) rfl (by kernel_rfl) (by kernel_rfl) (by kernel_rfl) (by kernel_rfl) (by kernel_rfl) (fun _ _ _ h => h) (Or.inl ⟨by rfl, ?ra3⟩) (by assumption) ?_
        case ra3 => (intro w hSw; (try dsimp only at hSw); (go_simp <;> with_reducible rfl))
        try simp only [Act.put, List.setIfInBounds_toArray, List.set_cons_zero, List.set_cons_succ]
        refine late_take (i := 3) (oi := { dst := some 36, op := Go.Op.move (Go.Operand.tmp 9), type := 3, pos := "law.go:109", after := #[], guard := none }) (v := ?va4) rfl (by kernel_rfl) (by kernel_rfl) (by kernel_rfl) (by kernel_rfl) (by kernel_rfl) (fun _ _ _ h => h) (Or.inl ⟨by rfl, ?ra4⟩) (by assumption) ?_
        case ra4 => (intro w hSw; (try dsimp only at hSw); (go_simp <;> with_reducible rfl))
        try simp only [Act.put, List.setIfInBounds_toArray, List.set_cons_zero, List.set_cons_succ]
        refine late_take (i := 4) (oi := { dst := some 37, op := Go.Op.indexAddr 22 (Go.Operand.tmp 35) (Go.Operand.tmp 36), type := 0, pos := "law.go:109", after := #[{ on := 2, ground := Go.Ground.data }, { on := 3, ground := Go.Ground.data }], guard := none }) (v := ?va5) rfl (by kernel_rfl) (by kernel_rfl) (by kernel_rfl) (by kernel_rfl) (by kernel_rfl) (fun _ _ _ h => h) (Or.inl ⟨by rfl, ?ra5⟩) (by assumption) ?_
        case ra5 => (intro w hSw; (try dsimp only at hSw); (go_simp <;> with_reducible rfl))
        try simp only [Act.put, List.setIfInBounds_toArray, List.set_cons_zero, List.set_cons_succ]
        refine late_take (i := 5) (oi := { dst := some 38, op := Go.Op.load 34 (Go.Operand.tmp 37), type := 34, pos := "law.go:109", after := #[{ on := 4, ground := Go.Ground.data }], guard := none }) (v := ?va6) rfl (by kernel_rfl) (by kernel_rfl) (by kernel_rfl) (by kernel_rfl) (by kernel_rfl) (fun _ _ _ h => h) (Or.inl ⟨by rfl, ?ra6⟩) (by assumption) ?_
        case ra6 => (intro w hSw; (try dsimp only at hSw); (go_simp <;> with_reducible rfl))
        try simp only [Act.put, List.setIfInBounds_toArray, List.set_cons_zero, List.set_cons_succ]
        refine late_ready (rs := [6]) (by kernel_rfl) (by simp) ?_
        refine LateAll.cons (o := { dst := some 39, op := Go.Op.call { callee := Go.Callee.value (Go.Operand.func 14), args := #[Go.Operand.tmp 33, Go.Operand.tmp 34, Go.Operand.tmp 38], argTypes := #[24, 28, 34] }, type := 30, pos := "law.go:109", after := #[{ on := 0, ground := Go.Ground.data }, { on := 1, ground := Go.Ground.data }, { on := 5, ground := Go.Ground.data }], guard := none }) rfl (fun K hK => ?_) LateAll.nil
        go_simp
        (go_at_call 14; refine (HDO.out _ ((Gr.refl _).drew)).mono ?_; rintro e w9 ⟨v9, rfl, hd9, hr9, hs9, hn9⟩; obtain ⟨g9, off9, rc9, rfl, ha9⟩ := hr9; have HD9 := Lib.hid hd9; have HA9 := Lib.hid ha9; have HS9 := Lib.hid ((Sole.of_gr (p := b) (Gr.refl wr).drew).trans hs9); have HN9 := Lib.hid hn9; have HBX9 := Lib.hid (HBX.out.sole HS9.out HNB.out.1); clear hd9 ha9 hn9; generalize hR9 : ((d9.room : Nat) : Int) = R9 at *; generalize hF9 : ((d9.fail : Nat) : Int) - 1 = F9 at *; have HR9 := Lib.hid hR9; have HF9 := Lib.hid hF9; clear hR9 hF9)
        first | refine hK.out _ _ ?sa7 (fun h7 => ?_) | (go_wp2_with fail; refine hK.out _ _ ?sa7 (fun h7 => ?_))
        case sa7 => ((try dsimp only); exact HX.out _ _ hs9 h0)
        clear hK K h0
        try simp only [Act.put, List.setIfInBounds_toArray, List.set_cons_zero, List.set_cons_succ]
        refine late_take (i := 7) (oi := { dst := some 32, op := Go.Op.move (Go.Operand.tmp 39), type := 30, pos := "law.go:109", after := #[{ on := 6, ground := Go.Ground.data }], guard := none }) (v := ?va8) rfl (by kernel_rfl) (by kernel_rfl) (by kernel_rfl) (by kernel_rfl) (by kernel_rfl) (fun _ _ _ h => h) (Or.inl ⟨by rfl, ?ra8⟩) (by assumption) ?_
        case ra8 => (intro w hSw; (try dsimp only at hSw); (go_simp <;> with_reducible rfl))
        try simp only [Act.put, List.setIfInBounds_toArray, List.set_cons_zero, List.set_cons_succ]
        have x0 := HBX9.out.cell (i := 0) rfl
        have x1 := HBX9.out.cell (i := 1) rfl
        have x2 := HBX9.out.cell (i := 2) rfl
        have f0 := HBX9.out.free 0
        have f1 := HBX9.out.free 1
        have f2 := HBX9.out.free 2
        clear hs9 h7 HX HS0
        refine late_go (by kernel_rfl) ?_
        refine wpAny_take (i := 8) (v := ?vla8) rfl (by kernel_rfl) (by kernel_rfl) (by kernel_rfl) (fun _ _ _ h => h) (Or.inl ⟨by rfl, ?rla8⟩) ?_
        case rla8 => (intro w; (go_simp <;> with_reducible rfl))
        try simp only [Act.put, List.setIfInBounds_toArray, List.set_cons_zero, List.set_cons_succ]
        refine wpAny_take (i := 9) (v := ?vla9) rfl (by kernel_rfl) (by kernel_rfl) (by kernel_rfl) (fun _ _ _ h => h) (Or.inl ⟨by rfl, ?rla9⟩) ?_
        case rla9 => (intro w; (go_simp <;> with_reducible rfl))
        try simp only [Act.put, List.setIfInBounds_toArray, List.set_cons_zero, List.set_cons_succ]
        refine any_one (i := 10) (o := { dst := none, op := Go.Op.store 28 (Go.Operand.tmp 8) (Go.Operand.tmp 40), type := 0, pos := "law.go:109", after := #[{ on := 8, ground := Go.Ground.data }, { on := 6, ground := Go.Ground.chain }, { on := 0, ground := Go.Ground.phase }, { on := 1, ground := Go.Ground.phase }, { on := 2, ground := Go.Ground.phase }, { on := 3, ground := Go.Ground.phase }, { on := 4, ground := Go.Ground.phase }, { on := 5, ground := Go.Ground.phase }, { on := 6, ground := Go.Ground.phase }, { on := 7, ground := Go.Ground.phase }, { on := 8, ground := Go.Ground.phase }, { on := 9, ground := Go.Ground.textOnly Go.Departure.lateStores }], guard := none }) (by kernel_rfl) rfl (fun K hK => ?_)
        go_simp
        refine hK.out _ _ ?_
        clear hK K
        try simp only [Act.put, List.setIfInBounds_toArray, List.set_cons_zero, List.set_cons_succ]
        refine any_done (by kernel_rfl) ?_
        have HST := Lib.hid (stored (d := d9) (R := R9) (fv := F9) (cap := rc9) HBX9.out HA9.out)
        have HDX := Lib.hid (HD9.out.sole (store3_sole w9 nb (.slice (some ⟨g9, off9, none⟩) 4 rc9) (.int .i64 R9) (.int .i64 F9)) HNB.out.1.symm)
        have HGX := Lib.hid ((HS9.out.gr HG.out HB.out).store3 (b := nb) HNB.out.2 (.slice (some ⟨g9, off9, none⟩) 4 rc9) (.int .i64 R9) (.int .i64 F9))
        have HRX := Lib.hid (show g9 ≠ b from by
          rcases HN9.out with h1 | h1
          · have h2 : g9 = g := h1
            rw [h2]; exact HR.out
          · have h2 : wr.heap.size ≤ g9 := h1
            have := cell_lt HD.out.room
            omega)
        clear x0 x1 x2 f0 f1 f2
        generalize ((w9.setCell ⟨nb, 0, none⟩ (.slice (some ⟨g9, off9, none⟩) 4 rc9)).setCell ⟨nb, 1, none⟩ (.int .i64 R9)).setCell ⟨nb, 2, none⟩ (.int .i64 F9) = w8 at *
        have HB8 := Lib.hid (show Blk w8 nb #[.slice (some ⟨g9, off9, none⟩) 4 rc9, .int .i64 (d9.room : Nat), .int .i64 ((d9.fail : Nat) - 1)] 28 by rw [HR9.out, HF9.out]; exact HST.out.1)
        have HS8 := Lib.hid HST.out.2
        go_wp2
        go_roundw
        case rel => exact ⟨k + 1, d9, g9, off9, rc9, by omega, by omega, by go_num, HDX, HS8, HB8, HRX, HGX⟩
        case measure => simp [intOf]; omega
      · obtain rfl : k = 20 := by omega
        have d2 := HBX.out.cell (i := 2) rfl
        have f2 := HBX.out.free 2
        go_wp2_with fail
        refine (fail_any11 (-1) (by decide) _ HD.out).mono ?_
        rintro e w5 ⟨rfl, hd5, hs5⟩
        obtain ⟨d5, e5, q1, q2, q3⟩ : ∃ d5, setFail d (-1) = d5 ∧ d5.fail = 0 ∧ d5.fs = d.fs ∧ d5.room = d.room := ⟨_, rfl, rfl, rfl, rfl⟩
        rw [e5] at hd5
        obtain ⟨d6, e6, hnow, hkept⟩ := sync_keep hd5.ok q1 kf hkf4
        have HBX5 := Lib.hid (HBX.out.sole hs5 HNB.out.1)
        have HA5 := Lib.hid (HA.out.sole hs5 HR.out)
        have HBX6 := Lib.hid (show Blk (w5.setCell ⟨nb, 2, none⟩ (.int .i64 (-1))) nb #[.slice (some ⟨g, off, none⟩) 4 rc, .int .i64 ((d5).room : Nat), .int .i64 (((d5).fail : Nat) - 1)] 28 from by
          have h1 := HBX5.out.set 2 (.int .i64 (-1))
          rw [q1, q3]
          exact h1)
        have HA6 := Lib.hid (show RkAt (w5.setCell ⟨nb, 2, none⟩ (.int .i64 (-1))) g off d5.fs from by rw [q2]; exact HA5.out.sole (Sole.setCell nb 2 w5 _) (HA5.out.ne HBX5.out))
        have HD6 := Lib.hid (hd5.sole (Sole.setCell nb 2 w5 (.int .i64 (-1))) HNB.out.1.symm)
        have HG6 := Lib.hid ((hs5.gr HG.out HB.out).setCell (p := ⟨nb, 2, none⟩) HNB.out.2 (.int .i64 (-1)))
        have HE6 := Lib.hid e6
        have HNW := Lib.hid hnow
        have HKP := Lib.hid hkept
        have d2 := HBX5.out.cell (i := 2) rfl
        have f2 := HBX5.out.free 2
        clear hs5 hd5 e5 q1 q2 q3 e6 hnow hkept HD HA HBX HBX5 HA5 HG
        go_wp2_with fail
        generalize w5.setCell ⟨nb, 2, none⟩ (.int .i64 (-1)) = w6 at *
        clear d2 f2
        refine (sync_any11 (kf : Nat) _ HD6.out).mono ?_
        intro e w7 hact
        obtain ⟨rfl, hd7, hs7⟩ := act_to hact HE6.out
        have HD7 := Lib.hid hd7
        have HBX7 := Lib.hid (HBX6.out.sole hs7 HNB.out.1)
        have HA7 := Lib.hid (HA6.out.sole hs7 HR.out)
        have HG7 := Lib.hid (hs7.gr HG6.out HB.out)
        clear hact hd7 hs7
        go_wp2_with fail
        refine (read_in kf hkf4 _ HD7.out).mono ?_
        rintro e w8 ⟨rfl, hg8⟩
        rw [HNW.out]
        generalize (d5.fs kf).now = sk at *
        have HD8 := Lib.hid (HD7.out.gr hg8)
        have HBX8 := Lib.hid (HBX7.out.gr hg8)
        have HA8 := Lib.hid (HA7.out.gr hg8)
        have HG8 := Lib.hid (HG7.out.trans hg8)
        have d0 := HBX8.out.cell (i := 0) rfl
        have d1 := HBX8.out.cell (i := 1) rfl
        have d2 := HBX8.out.cell (i := 2) rfl
        clear hg8
        go_wp2_with fail
        refine (refDo_sync_any (kf : Nat) ⟨#[]⟩ _ _ ⟨g, off, rc, rfl, HA8.out⟩ HD6.out.ok).mono ?_
        rintro e w9 hdo
        unfold RDo at hdo
        rw [HE6.out] at hdo
        obtain ⟨v9, rfl, hr9, hg9, hn9⟩ := hdo
        obtain ⟨g9, off9, rc9, rfl, ha9⟩ := hr9
        have HBX9 := Lib.hid (HBX8.out.gr hg9)
        have HD9 := Lib.hid (HD8.out.gr hg9)
        have HG9 := Lib.hid (HG8.out.trans hg9)
        have HA9 := Lib.hid ha9
        have HRX := Lib.hid (show g9 ≠ b from by
          rcases hn9 with h1 | h1
          · have h2 : g9 = g := h1
            rw [h2]; exact HR.out
          · have h2 : w8.heap.size ≤ g9 := h1
            have := cell_lt HD8.out.room
            omega)
        have HST := Lib.hid (stored (d := d6) (R := (d6.room : Nat)) (fv := (d6.fail : Nat) - 1) (cap := rc9) HBX9.out HA9.out)
        have HDX := Lib.hid (HD9.out.sole (store3_sole w9 nb (.slice (some ⟨g9, off9, none⟩) 4 rc9) (.int .i64 (d6.room : Nat)) (.int .i64 ((d6.fail : Nat) - 1))) HNB.out.1.symm)
        have HGX := Lib.hid (HG9.out.store3 (b := nb) HNB.out.2 (.slice (some ⟨g9, off9, none⟩) 4 rc9) (.int .i64 (d6.room : Nat)) (.int .i64 ((d6.fail : Nat) - 1)))
        have d0 := HBX9.out.cell (i := 0) rfl
        have d1 := HBX9.out.cell (i := 1) rfl
        have d2 := HBX9.out.cell (i := 2) rfl
        have f0 := HBX9.out.free 0
        have f1 := HBX9.out.free 1
        have f2 := HBX9.out.free 2
        clear ha9 hg9 hn9 HE6 HNW
        go_wp2_with fail
        generalize ((w9.setCell ⟨nb, 0, none⟩ (.slice (some ⟨g9, off9, none⟩) 4 rc9)).setCell ⟨nb, 1, none⟩ (.int .i64 (d6.room : Nat))).setCell ⟨nb, 2, none⟩ (.int .i64 ((d6.fail : Nat) - 1)) = w10 at *
        clear d0 d1 d2 f0 f1 f2 HD6 HD7 HD8 HD9 HBX6 HBX7 HBX8 HBX9 HA6 HA7 HA8 HA9 HG6 HG7 HG8 HG9
        go_loopw [12] (fun i wr => ∃ (k : Nat) (d : D) (g off rc : Nat), k ≤ M.length ∧ k ≤ 20 ∧ i = .int .i64 (k : Nat) ∧ Hid (DkIs wr b d) ∧ Hid (Kept kf sk d) ∧ Hid (RkAt wr g off d.fs) ∧ Hid (Blk wr nb #[.slice (some ⟨g, off, none⟩) 4 rc, .int .i64 ((d).room : Nat), .int .i64 (((d).fail : Nat) - 1)] 28) ∧ Hid (g ≠ b) ∧ Hid (Gr w wr)) (fun i _ => M.length - (intOf i).toNat)
        case atStart => exact ⟨0, d6, g9, off9, rc9, by omega, by omega, rfl, HDX, HKP, Lib.hid HST.out.2, Lib.hid HST.out.1, HRX, HGX⟩
        case round =>
          clear HDX HKP HST HRX HGX HR
          obtain ⟨k, d, g, off, rc, hk, hk20, rfl, HD, HKP, HA, HBX, HR, HG⟩ := hrel
          by_cases hlt : k < M.length
          · by_cases h20 : k < 20
            · obtain ⟨bb, oo, rfl, hbb, hat, hok⟩ := HM.out.get k hlt
              obtain ⟨c0, c1, c2, c3, ca, cc, c4, hcc, hci⟩ := hat
              have HOF := Lib.hid (ints_off (b := b) hci HB.out)
              replace c0 := HG.out.cell c0
              replace c1 := HG.out.cell c1
              replace c2 := HG.out.cell c2
              replace c3 := HG.out.cell c3
              replace c4 := HG.out.cell c4
              replace hci := hci.gr HG.out
              generalize M[k] = p at *
              have HP := Lib.hid hok
              have HCI := Lib.hid hci
              have hk4 : (k : Int) < (M.length : Int) := by omega
              have HRK : Hid (RkIs wr (.agg #[.slice (some ⟨g, off, none⟩) 4 rc, .int .i64 ((d).room : Nat), .int .i64 (((d).fail : Nat) - 1)]) d) := Lib.hid ⟨g, off, rc, rfl, HA.out⟩
              have HDO := Lib.hid (fun (w9 : World) (hg : Gr wr w9) => lawDo_any p HP.out ca cc _ w9 (HD.out.gr hg) (HRK.out.gr hg) HR.out (HCI.out.gr hg) hcc HOF.out)
              have HSK := Lib.hid (fun (h5 : p.K ≠ 5) (h1 : p.K ≠ 1 ∨ p.F ≠ (kf : Int)) => step_kept HKP.out HD.out.ok hkf4 p h5 h1)
              obtain ⟨d9, hd9⟩ : ∃ d9, step d p = d9 := ⟨_, rfl⟩
              rw [hd9] at HDO HSK
              clear hok hci hd9 hcc HCI HP HOF
              generalize p.C.length = cl at *
              obtain ⟨pK, pF, pN, pS, pC⟩ := p
              simp only at c0 c1 c2 c3 c4 HDO HSK
              have HBX5 := Lib.hid (HBX.out.gr ((Gr.refl wr).alloc (.cells #[.int .i64 pK, .int .i64 pF, .int .i64 pN, .string pS, .slice ca cl cc] 34)))
              have HA5 := Lib.hid (HA.out.gr ((Gr.refl wr).alloc (.cells #[.int .i64 pK, .int .i64 pF, .int .i64 pN, .string pS, .slice ca cl cc] 34)))
              have HD5 := Lib.hid (HD.out.gr ((Gr.refl wr).alloc (.cells #[.int .i64 pK, .int .i64 pF, .int .i64 pN, .string pS, .slice ca cl cc] 34)))
              have HG5 := Lib.hid (HG.out.alloc (.cells #[.int .i64 pK, .int .i64 pF, .int .i64 pN, .string pS, .slice ca cl cc] 34))
              have d0 := HBX5.out.cell (i := 0) rfl
              have d1 := HBX5.out.cell (i := 1) rfl
              have d2 := HBX5.out.cell (i := 2) rfl
              by_cases h5 : pK = 5
              · subst h5
                clear HDO HSK
                clear d0 d1 d2
                go_wp2
                go_roundw
                case rel => exact ⟨k + 1, d, g, off, rc, by omega, by omega, by go_num, HD5, HKP, HA5, HBX5, HR, HG5⟩
                case measure => simp [intOf]; omega
              · have n5 : (pK != 5) = true := by simp [h5]
                by_cases h1 : pK = 1
                · subst h1
                  by_cases hF : pF = (kf : Int)
                  · subst hF
                    clear HDO HSK
                    clear d0 d1 d2
                    go_wp2
                    go_roundw
                    case rel => exact ⟨k + 1, d, g, off, rc, by omega, by omega, by go_num, HD5, HKP, HA5, HBX5, HR, HG5⟩
                    case measure => simp [intOf]; omega
                  · have nF : (pF != (kf : Int)) = true := by simp [hF]
                    have HK9 := Lib.hid (HSK.out h5 (.inr hF))
                    clear HSK h5 hF n5
                    go_wp2_with fail
                    refine (HDO.out _ ((Gr.refl wr).alloc (.cells #[.int .i64 1, .int .i64 pF, .int .i64 pN, .string pS, .slice ca cl cc] 34))).mono ?_
                    rintro e w9 ⟨v9, rfl, hd9, hr9, hs9, hn9⟩
                    obtain ⟨g9, off9, rc9, rfl, ha9⟩ := hr9
                    have HBX9 := Lib.hid (HBX5.out.sole hs9 HNB.out.1)
                    have HST := Lib.hid (stored (d := d9) (R := (d9.room : Nat)) (fv := (d9.fail : Nat) - 1) (cap := rc9) HBX9.out ha9)
                    have HDX := Lib.hid (hd9.sole (store3_sole w9 nb (.slice (some ⟨g9, off9, none⟩) 4 rc9) (.int .i64 (d9.room : Nat)) (.int .i64 ((d9.fail : Nat) - 1))) HNB.out.1.symm)
                    have HGX := Lib.hid ((hs9.gr HG5.out HB.out).store3 (b := nb) HNB.out.2 (.slice (some ⟨g9, off9, none⟩) 4 rc9) (.int .i64 (d9.room : Nat)) (.int .i64 ((d9.fail : Nat) - 1)))
                    have HRX := Lib.hid (show g9 ≠ b from by
                      rcases hn9 with h1 | h1
                      · have h2 : g9 = g := h1
                        rw [h2]; exact HR.out
                      · have h2 : (wr.alloc (.cells #[.int .i64 1, .int .i64 pF, .int .i64 pN, .string pS, .slice ca cl cc] 34)).heap.size ≤ g9 := h1
                        have := cell_lt HD5.out.room
                        omega)
                    replace d0 := HBX9.out.cell (i := 0) rfl
                    replace d1 := HBX9.out.cell (i := 1) rfl
                    replace d2 := HBX9.out.cell (i := 2) rfl
                    have f0 := HBX9.out.free 0
                    have f1 := HBX9.out.free 1
                    have f2 := HBX9.out.free 2
                    clear hd9 ha9 hs9 hn9 c0 c1 c2 c3 c4
                    go_wp2
                    generalize ((w9.setCell ⟨nb, 0, none⟩ (.slice (some ⟨g9, off9, none⟩) 4 rc9)).setCell ⟨nb, 1, none⟩ (.int .i64 (d9.room : Nat))).setCell ⟨nb, 2, none⟩ (.int .i64 ((d9.fail : Nat) - 1)) = w8 at *
                    go_roundw
                    case rel => exact ⟨k + 1, d9, g9, off9, rc9, by omega, by omega, by go_num, HDX, HK9, Lib.hid HST.out.2, Lib.hid HST.out.1, HRX, HGX⟩
                    case measure => simp [intOf]; omega
                · have n1 : (pK != 1) = true := by simp [h1]
                  have HK9 := Lib.hid (HSK.out h5 (.inl h1))
                  clear HSK h5 h1
                  go_wp2_with fail
                  refine (HDO.out _ ((Gr.refl wr).alloc (.cells #[.int .i64 pK, .int .i64 pF, .int .i64 pN, .string pS, .slice ca cl cc] 34))).mono ?_
                  rintro e w9 ⟨v9, rfl, hd9, hr9, hs9, hn9⟩
                  obtain ⟨g9, off9, rc9, rfl, ha9⟩ := hr9
                  have HBX9 := Lib.hid (HBX5.out.sole hs9 HNB.out.1)
                  have HST := Lib.hid (stored (d := d9) (R := (d9.room : Nat)) (fv := (d9.fail : Nat) - 1) (cap := rc9) HBX9.out ha9)
                  have HDX := Lib.hid (hd9.sole (store3_sole w9 nb (.slice (some ⟨g9, off9, none⟩) 4 rc9) (.int .i64 (d9.room : Nat)) (.int .i64 ((d9.fail : Nat) - 1))) HNB.out.1.symm)
                  have HGX := Lib.hid ((hs9.gr HG5.out HB.out).store3 (b := nb) HNB.out.2 (.slice (some ⟨g9, off9, none⟩) 4 rc9) (.int .i64 (d9.room : Nat)) (.int .i64 ((d9.fail : Nat) - 1)))
                  have HRX := Lib.hid (show g9 ≠ b from by
                    rcases hn9 with h1 | h1
                    · have h2 : g9 = g := h1
                      rw [h2]; exact HR.out
                    · have h2 : (wr.alloc (.cells #[.int .i64 pK, .int .i64 pF, .int .i64 pN, .string pS, .slice ca cl cc] 34)).heap.size ≤ g9 := h1
                      have := cell_lt HD5.out.room
                      omega)
                  replace d0 := HBX9.out.cell (i := 0) rfl
                  replace d1 := HBX9.out.cell (i := 1) rfl
                  replace d2 := HBX9.out.cell (i := 2) rfl
                  have f0 := HBX9.out.free 0
                  have f1 := HBX9.out.free 1
                  have f2 := HBX9.out.free 2
                  clear hd9 ha9 hs9 hn9 c0 c1 c2 c3 c4
                  go_wp2
                  generalize ((w9.setCell ⟨nb, 0, none⟩ (.slice (some ⟨g9, off9, none⟩) 4 rc9)).setCell ⟨nb, 1, none⟩ (.int .i64 (d9.room : Nat))).setCell ⟨nb, 2, none⟩ (.int .i64 ((d9.fail : Nat) - 1)) = w8 at *
                  go_roundw
                  case rel => exact ⟨k + 1, d9, g9, off9, rc9, by omega, by omega, by go_num, HDX, HK9, Lib.hid HST.out.2, Lib.hid HST.out.1, HRX, HGX⟩
                  case measure => simp [intOf]; omega
            · obtain rfl : k = 20 := by omega
              by_cases hml0 : M.length = 0
              · have HM2 : Hid True := Lib.hid trivial
                clear HM
                generalize M.length = ml at *
                subst hml0
                go_wp2_with fail
                refine (crash_any [] none 0 _ ⟨by simp, by simp, .inl rfl⟩ (Nat.le_refl _) (.inl rfl) HD.out).mono ?_
                rintro e w5 ⟨rfl, hd5, hs5⟩
                have HD5 := Lib.hid hd5
                have HG5 := Lib.hid (hs5.gr HG.out HB.out)
                clear hd5 hs5
                obtain ⟨x1, x2, x3⟩ := kept_end HKP.out HD.out.ok hkf4 []
                have RD := Lib.hid (fun (w : World) (h : DkIs w b (crash d [])) => read_in kf hkf4 w h)
                have SD := Lib.hid (fun (w : World) (h : DkIs w b (crash d [])) => sure_in kf hkf4 w h)
                rw [decide_eq_true x3] at SD
                clear x3
                generalize ((crash d []).fs kf).now = s2 at *
                have x4 : (sk.toList == sk.toList) = true := by simp
                have x5 : (sk.size : Int) ≤ (s2.size : Int) := by omega
                go_wp2_with fail
                refine (RD.out _ HD5.out).mono ?_
                rintro e w6 ⟨rfl, hg6⟩
                have HD6 := Lib.hid (HD5.out.gr hg6)
                have HG6 := Lib.hid (HG5.out.trans hg6)
                clear hg6
                go_wp2_with fail
                refine (SD.out _ HD6.out).mono ?_
                rintro e w7 ⟨rfl, hg7⟩
                have HG7 := Lib.hid (HG6.out.trans hg7)
                clear hg7
                go_wp2
                go_ret
                exact ⟨rfl, HG7.out⟩
              · have h0l : 0 < M.length := by omega
                obtain ⟨bb, oo, rfl, hbb, hat, hok⟩ := HM.out.get 0 h0l
                obtain ⟨-, -, -, -, ca, cc, c4, hcc, hci⟩ := hat
                have HOF := Lib.hid (ints_off (b := b) hci HB.out)
                replace c4 := HG.out.cell c4
                replace hci := hci.gr HG.out
                have c5 : wr.cell? ⟨bb, oo + 4, none⟩ = some (.slice ca M[0].C.length cc) := by simpa using c4
                generalize M[0].C = C at *
                have HCI := Lib.hid hci
                have h0i : (0 : Int) < (M.length : Int) := by omega
                clear hci hok c4 hml0
                by_cases h8 : C.length < 8
                · generalize hcl : C.length = cl at *
                  have HCR := Lib.hid (show Calls Try.prog 20 #[.pointer (some ⟨b, 0, none⟩), .slice ca cl cc] wr fun e w' => e = .returned (.tuple #[]) ∧ DkIs w' b (crash d C) ∧ Sole b wr w' from by rw [← hcl]; exact crash_any C ca cc _ HCI.out (by omega) HOF.out HD.out)
                  clear hcl
                  have h8i : (cl : Int) < 8 := by omega
                  go_wp2_with fail
                  refine HCR.out.mono ?_
                  rintro e w5 ⟨rfl, hd5, hs5⟩
                  have HD5 := Lib.hid hd5
                  have HG5 := Lib.hid (hs5.gr HG.out HB.out)
                  clear hd5 hs5
                  obtain ⟨x1, x2, x3⟩ := kept_end HKP.out HD.out.ok hkf4 C
                  have RD := Lib.hid (fun (w : World) (h : DkIs w b (crash d C)) => read_in kf hkf4 w h)
                  have SD := Lib.hid (fun (w : World) (h : DkIs w b (crash d C)) => sure_in kf hkf4 w h)
                  rw [decide_eq_true x3] at SD
                  clear x3
                  generalize ((crash d C).fs kf).now = s2 at *
                  have x4 : (sk.toList == sk.toList) = true := by simp
                  have x5 : (sk.size : Int) ≤ (s2.size : Int) := by omega
                  go_wp2_with fail
                  refine (RD.out _ HD5.out).mono ?_
                  rintro e w6 ⟨rfl, hg6⟩
                  have HD6 := Lib.hid (HD5.out.gr hg6)
                  have HG6 := Lib.hid (HG5.out.trans hg6)
                  clear hg6
                  go_wp2_with fail
                  refine (SD.out _ HD6.out).mono ?_
                  rintro e w7 ⟨rfl, hg7⟩
                  have HG7 := Lib.hid (HG6.out.trans hg7)
                  clear hg7
                  go_wp2
                  go_ret
                  exact ⟨rfl, HG7.out⟩
                · generalize C.length = cl at *
                  have h8i : ¬ (cl : Int) < 8 := by omega
                  go_wp2_with fail
                  refine (crash_any [] none 0 _ ⟨by simp, by simp, .inl rfl⟩ (Nat.le_refl _) (.inl rfl) HD.out).mono ?_
                  rintro e w5 ⟨rfl, hd5, hs5⟩
                  have HD5 := Lib.hid hd5
                  have HG5 := Lib.hid (hs5.gr HG.out HB.out)
                  clear hd5 hs5
                  obtain ⟨x1, x2, x3⟩ := kept_end HKP.out HD.out.ok hkf4 []
                  have RD := Lib.hid (fun (w : World) (h : DkIs w b (crash d [])) => read_in kf hkf4 w h)
                  have SD := Lib.hid (fun (w : World) (h : DkIs w b (crash d [])) => sure_in kf hkf4 w h)
                  rw [decide_eq_true x3] at SD
                  clear x3
                  generalize ((crash d []).fs kf).now = s2 at *
                  have x4 : (sk.toList == sk.toList) = true := by simp
                  have x5 : (sk.size : Int) ≤ (s2.size : Int) := by omega
                  go_wp2_with fail
                  refine (RD.out _ HD5.out).mono ?_
                  rintro e w6 ⟨rfl, hg6⟩
                  have HD6 := Lib.hid (HD5.out.gr hg6)
                  have HG6 := Lib.hid (HG5.out.trans hg6)
                  clear hg6
                  go_wp2_with fail
                  refine (SD.out _ HD6.out).mono ?_
                  rintro e w7 ⟨rfl, hg7⟩
                  have HG7 := Lib.hid (HG6.out.trans hg7)
                  clear hg7
                  go_wp2
                  go_ret
                  exact ⟨rfl, HG7.out⟩
          · obtain rfl : k = M.length := by omega
            by_cases hml0 : M.length = 0
            · have HM2 : Hid True := Lib.hid trivial
              clear HM
              generalize M.length = ml at *
              subst hml0
              go_wp2_with fail
              refine (crash_any [] none 0 _ ⟨by simp, by simp, .inl rfl⟩ (Nat.le_refl _) (.inl rfl) HD.out).mono ?_
              rintro e w5 ⟨rfl, hd5, hs5⟩
              have HD5 := Lib.hid hd5
              have HG5 := Lib.hid (hs5.gr HG.out HB.out)
              clear hd5 hs5
              obtain ⟨x1, x2, x3⟩ := kept_end HKP.out HD.out.ok hkf4 []
              have RD := Lib.hid (fun (w : World) (h : DkIs w b (crash d [])) => read_in kf hkf4 w h)
              have SD := Lib.hid (fun (w : World) (h : DkIs w b (crash d [])) => sure_in kf hkf4 w h)
              rw [decide_eq_true x3] at SD
              clear x3
              generalize ((crash d []).fs kf).now = s2 at *
              have x4 : (sk.toList == sk.toList) = true := by simp
              have x5 : (sk.size : Int) ≤ (s2.size : Int) := by omega
              go_wp2_with fail
              refine (RD.out _ HD5.out).mono ?_
              rintro e w6 ⟨rfl, hg6⟩
              have HD6 := Lib.hid (HD5.out.gr hg6)
              have HG6 := Lib.hid (HG5.out.trans hg6)
              clear hg6
              go_wp2_with fail
              refine (SD.out _ HD6.out).mono ?_
              rintro e w7 ⟨rfl, hg7⟩
              have HG7 := Lib.hid (HG6.out.trans hg7)
              clear hg7
              go_wp2
              go_ret
              exact ⟨rfl, HG7.out⟩
            · have h0l : 0 < M.length := by omega
              obtain ⟨bb, oo, rfl, hbb, hat, hok⟩ := HM.out.get 0 h0l
              obtain ⟨-, -, -, -, ca, cc, c4, hcc, hci⟩ := hat
              have HOF := Lib.hid (ints_off (b := b) hci HB.out)
              replace c4 := HG.out.cell c4
              replace hci := hci.gr HG.out
              have c5 : wr.cell? ⟨bb, oo + 4, none⟩ = some (.slice ca M[0].C.length cc) := by simpa using c4
              generalize M[0].C = C at *
              have HCI := Lib.hid hci
              have h0i : (0 : Int) < (M.length : Int) := by omega
              clear hci hok c4 hml0
              by_cases h8 : C.length < 8
              · generalize hcl : C.length = cl at *
                have HCR := Lib.hid (show Calls Try.prog 20 #[.pointer (some ⟨b, 0, none⟩), .slice ca cl cc] wr fun e w' => e = .returned (.tuple #[]) ∧ DkIs w' b (crash d C) ∧ Sole b wr w' from by rw [← hcl]; exact crash_any C ca cc _ HCI.out (by omega) HOF.out HD.out)
                clear hcl
                have h8i : (cl : Int) < 8 := by omega
                go_wp2_with fail
                refine HCR.out.mono ?_
                rintro e w5 ⟨rfl, hd5, hs5⟩
                have HD5 := Lib.hid hd5
                have HG5 := Lib.hid (hs5.gr HG.out HB.out)
                clear hd5 hs5
                obtain ⟨x1, x2, x3⟩ := kept_end HKP.out HD.out.ok hkf4 C
                have RD := Lib.hid (fun (w : World) (h : DkIs w b (crash d C)) => read_in kf hkf4 w h)
                have SD := Lib.hid (fun (w : World) (h : DkIs w b (crash d C)) => sure_in kf hkf4 w h)
                rw [decide_eq_true x3] at SD
                clear x3
                generalize ((crash d C).fs kf).now = s2 at *
                have x4 : (sk.toList == sk.toList) = true := by simp
                have x5 : (sk.size : Int) ≤ (s2.size : Int) := by omega
                go_wp2_with fail
                refine (RD.out _ HD5.out).mono ?_
                rintro e w6 ⟨rfl, hg6⟩
                have HD6 := Lib.hid (HD5.out.gr hg6)
                have HG6 := Lib.hid (HG5.out.trans hg6)
                clear hg6
                go_wp2_with fail
                refine (SD.out _ HD6.out).mono ?_
                rintro e w7 ⟨rfl, hg7⟩
                have HG7 := Lib.hid (HG6.out.trans hg7)
                clear hg7
                go_wp2
                go_ret
                exact ⟨rfl, HG7.out⟩
              · generalize C.length = cl at *
                have h8i : ¬ (cl : Int) < 8 := by omega
                go_wp2_with fail
                refine (crash_any [] none 0 _ ⟨by simp, by simp, .inl rfl⟩ (Nat.le_refl _) (.inl rfl) HD.out).mono ?_
                rintro e w5 ⟨rfl, hd5, hs5⟩
                have HD5 := Lib.hid hd5
                have HG5 := Lib.hid (hs5.gr HG.out HB.out)
                clear hd5 hs5
                obtain ⟨x1, x2, x3⟩ := kept_end HKP.out HD.out.ok hkf4 []
                have RD := Lib.hid (fun (w : World) (h : DkIs w b (crash d [])) => read_in kf hkf4 w h)
                have SD := Lib.hid (fun (w : World) (h : DkIs w b (crash d [])) => sure_in kf hkf4 w h)
                rw [decide_eq_true x3] at SD
                clear x3
                generalize ((crash d []).fs kf).now = s2 at *
                have x4 : (sk.toList == sk.toList) = true := by simp
                have x5 : (sk.size : Int) ≤ (s2.size : Int) := by omega
                go_wp2_with fail
                refine (RD.out _ HD5.out).mono ?_
                rintro e w6 ⟨rfl, hg6⟩
                have HD6 := Lib.hid (HD5.out.gr hg6)
                have HG6 := Lib.hid (HG5.out.trans hg6)
                clear hg6
                go_wp2_with fail
                refine (SD.out _ HD6.out).mono ?_
                rintro e w7 ⟨rfl, hg7⟩
                have HG7 := Lib.hid (HG6.out.trans hg7)
                clear hg7
                go_wp2
                go_ret
                exact ⟨rfl, HG7.out⟩
    · obtain rfl : k = L.length := by omega
      have d2 := HBX.out.cell (i := 2) rfl
      have f2 := HBX.out.free 2
      go_wp2_with fail
      refine (fail_any11 (-1) (by decide) _ HD.out).mono ?_
      rintro e w5 ⟨rfl, hd5, hs5⟩
      obtain ⟨d5, e5, q1, q2, q3⟩ : ∃ d5, setFail d (-1) = d5 ∧ d5.fail = 0 ∧ d5.fs = d.fs ∧ d5.room = d.room := ⟨_, rfl, rfl, rfl, rfl⟩
      rw [e5] at hd5
      obtain ⟨d6, e6, hnow, hkept⟩ := sync_keep hd5.ok q1 kf hkf4
      have HBX5 := Lib.hid (HBX.out.sole hs5 HNB.out.1)
      have HA5 := Lib.hid (HA.out.sole hs5 HR.out)
      have HBX6 := Lib.hid (show Blk (w5.setCell ⟨nb, 2, none⟩ (.int .i64 (-1))) nb #[.slice (some ⟨g, off, none⟩) 4 rc, .int .i64 ((d5).room : Nat), .int .i64 (((d5).fail : Nat) - 1)] 28 from by
        have h1 := HBX5.out.set 2 (.int .i64 (-1))
        rw [q1, q3]
        exact h1)
      have HA6 := Lib.hid (show RkAt (w5.setCell ⟨nb, 2, none⟩ (.int .i64 (-1))) g off d5.fs from by rw [q2]; exact HA5.out.sole (Sole.setCell nb 2 w5 _) (HA5.out.ne HBX5.out))
      have HD6 := Lib.hid (hd5.sole (Sole.setCell nb 2 w5 (.int .i64 (-1))) HNB.out.1.symm)
      have HG6 := Lib.hid ((hs5.gr HG.out HB.out).setCell (p := ⟨nb, 2, none⟩) HNB.out.2 (.int .i64 (-1)))
      have HE6 := Lib.hid e6
      have HNW := Lib.hid hnow
      have HKP := Lib.hid hkept
      have d2 := HBX5.out.cell (i := 2) rfl
      have f2 := HBX5.out.free 2
      clear hs5 hd5 e5 q1 q2 q3 e6 hnow hkept HD HA HBX HBX5 HA5 HG
      go_wp2_with fail
      generalize w5.setCell ⟨nb, 2, none⟩ (.int .i64 (-1)) = w6 at *
      clear d2 f2
      refine (sync_any11 (kf : Nat) _ HD6.out).mono ?_
      intro e w7 hact
      obtain ⟨rfl, hd7, hs7⟩ := act_to hact HE6.out
      have HD7 := Lib.hid hd7
      have HBX7 := Lib.hid (HBX6.out.sole hs7 HNB.out.1)
      have HA7 := Lib.hid (HA6.out.sole hs7 HR.out)
      have HG7 := Lib.hid (hs7.gr HG6.out HB.out)
      clear hact hd7 hs7
      go_wp2_with fail
      refine (read_in kf hkf4 _ HD7.out).mono ?_
      rintro e w8 ⟨rfl, hg8⟩
      rw [HNW.out]
      generalize (d5.fs kf).now = sk at *
      have HD8 := Lib.hid (HD7.out.gr hg8)
      have HBX8 := Lib.hid (HBX7.out.gr hg8)
      have HA8 := Lib.hid (HA7.out.gr hg8)
      have HG8 := Lib.hid (HG7.out.trans hg8)
      have d0 := HBX8.out.cell (i := 0) rfl
      have d1 := HBX8.out.cell (i := 1) rfl
      have d2 := HBX8.out.cell (i := 2) rfl
      clear hg8
      go_wp2_with fail
      refine (refDo_sync_any (kf : Nat) ⟨#[]⟩ _ _ ⟨g, off, rc, rfl, HA8.out⟩ HD6.out.ok).mono ?_
      rintro e w9 hdo
      unfold RDo at hdo
      rw [HE6.out] at hdo
      obtain ⟨v9, rfl, hr9, hg9, hn9⟩ := hdo
      obtain ⟨g9, off9, rc9, rfl, ha9⟩ := hr9
      have HBX9 := Lib.hid (HBX8.out.gr hg9)
      have HD9 := Lib.hid (HD8.out.gr hg9)
      have HG9 := Lib.hid (HG8.out.trans hg9)
      have HA9 := Lib.hid ha9
      have HRX := Lib.hid (show g9 ≠ b from by
        rcases hn9 with h1 | h1
        · have h2 : g9 = g := h1
          rw [h2]; exact HR.out
        · have h2 : w8.heap.size ≤ g9 := h1
          have := cell_lt HD8.out.room
          omega)
      have HST := Lib.hid (stored (d := d6) (R := (d6.room : Nat)) (fv := (d6.fail : Nat) - 1) (cap := rc9) HBX9.out HA9.out)
      have HDX := Lib.hid (HD9.out.sole (store3_sole w9 nb (.slice (some ⟨g9, off9, none⟩) 4 rc9) (.int .i64 (d6.room : Nat)) (.int .i64 ((d6.fail : Nat) - 1))) HNB.out.1.symm)
      have HGX := Lib.hid (HG9.out.store3 (b := nb) HNB.out.2 (.slice (some ⟨g9, off9, none⟩) 4 rc9) (.int .i64 (d6.room : Nat)) (.int .i64 ((d6.fail : Nat) - 1)))
      have d0 := HBX9.out.cell (i := 0) rfl
      have d1 := HBX9.out.cell (i := 1) rfl
      have d2 := HBX9.out.cell (i := 2) rfl
      have f0 := HBX9.out.free 0
      have f1 := HBX9.out.free 1
      have f2 := HBX9.out.free 2
      clear ha9 hg9 hn9 HE6 HNW
      go_wp2_with fail
      generalize ((w9.setCell ⟨nb, 0, none⟩ (.slice (some ⟨g9, off9, none⟩) 4 rc9)).setCell ⟨nb, 1, none⟩ (.int .i64 (d6.room : Nat))).setCell ⟨nb, 2, none⟩ (.int .i64 ((d6.fail : Nat) - 1)) = w10 at *
      clear d0 d1 d2 f0 f1 f2 HD6 HD7 HD8 HD9 HBX6 HBX7 HBX8 HBX9 HA6 HA7 HA8 HA9 HG6 HG7 HG8 HG9
      go_loopw [12] (fun i wr => ∃ (k : Nat) (d : D) (g off rc : Nat), k ≤ M.length ∧ k ≤ 20 ∧ i = .int .i64 (k : Nat) ∧ Hid (DkIs wr b d) ∧ Hid (Kept kf sk d) ∧ Hid (RkAt wr g off d.fs) ∧ Hid (Blk wr nb #[.slice (some ⟨g, off, none⟩) 4 rc, .int .i64 ((d).room : Nat), .int .i64 (((d).fail : Nat) - 1)] 28) ∧ Hid (g ≠ b) ∧ Hid (Gr w wr)) (fun i _ => M.length - (intOf i).toNat)
      case atStart => exact ⟨0, d6, g9, off9, rc9, by omega, by omega, rfl, HDX, HKP, Lib.hid HST.out.2, Lib.hid HST.out.1, HRX, HGX⟩
      case round =>
        clear HDX HKP HST HRX HGX HR
        obtain ⟨k, d, g, off, rc, hk, hk20, rfl, HD, HKP, HA, HBX, HR, HG⟩ := hrel
        by_cases hlt : k < M.length
        · by_cases h20 : k < 20
          · obtain ⟨bb, oo, rfl, hbb, hat, hok⟩ := HM.out.get k hlt
            obtain ⟨c0, c1, c2, c3, ca, cc, c4, hcc, hci⟩ := hat
            have HOF := Lib.hid (ints_off (b := b) hci HB.out)
            replace c0 := HG.out.cell c0
            replace c1 := HG.out.cell c1
            replace c2 := HG.out.cell c2
            replace c3 := HG.out.cell c3
            replace c4 := HG.out.cell c4
            replace hci := hci.gr HG.out
            generalize M[k] = p at *
            have HP := Lib.hid hok
            have HCI := Lib.hid hci
            have hk4 : (k : Int) < (M.length : Int) := by omega
            have HRK : Hid (RkIs wr (.agg #[.slice (some ⟨g, off, none⟩) 4 rc, .int .i64 ((d).room : Nat), .int .i64 (((d).fail : Nat) - 1)]) d) := Lib.hid ⟨g, off, rc, rfl, HA.out⟩
            have HDO := Lib.hid (fun (w9 : World) (hg : Gr wr w9) => lawDo_any p HP.out ca cc _ w9 (HD.out.gr hg) (HRK.out.gr hg) HR.out (HCI.out.gr hg) hcc HOF.out)
            have HSK := Lib.hid (fun (h5 : p.K ≠ 5) (h1 : p.K ≠ 1 ∨ p.F ≠ (kf : Int)) => step_kept HKP.out HD.out.ok hkf4 p h5 h1)
            obtain ⟨d9, hd9⟩ : ∃ d9, step d p = d9 := ⟨_, rfl⟩
            rw [hd9] at HDO HSK
            clear hok hci hd9 hcc HCI HP HOF
            generalize p.C.length = cl at *
            obtain ⟨pK, pF, pN, pS, pC⟩ := p
            simp only at c0 c1 c2 c3 c4 HDO HSK
            have HBX5 := Lib.hid (HBX.out.gr ((Gr.refl wr).alloc (.cells #[.int .i64 pK, .int .i64 pF, .int .i64 pN, .string pS, .slice ca cl cc] 34)))
            have HA5 := Lib.hid (HA.out.gr ((Gr.refl wr).alloc (.cells #[.int .i64 pK, .int .i64 pF, .int .i64 pN, .string pS, .slice ca cl cc] 34)))
            have HD5 := Lib.hid (HD.out.gr ((Gr.refl wr).alloc (.cells #[.int .i64 pK, .int .i64 pF, .int .i64 pN, .string pS, .slice ca cl cc] 34)))
            have HG5 := Lib.hid (HG.out.alloc (.cells #[.int .i64 pK, .int .i64 pF, .int .i64 pN, .string pS, .slice ca cl cc] 34))
            have d0 := HBX5.out.cell (i := 0) rfl
            have d1 := HBX5.out.cell (i := 1) rfl
            have d2 := HBX5.out.cell (i := 2) rfl
            by_cases h5 : pK = 5
            · subst h5
              clear HDO HSK
              clear d0 d1 d2
              go_wp2
              go_roundw
              case rel => exact ⟨k + 1, d, g, off, rc, by omega, by omega, by go_num, HD5, HKP, HA5, HBX5, HR, HG5⟩
              case measure => simp [intOf]; omega
            · have n5 : (pK != 5) = true := by simp [h5]
              by_cases h1 : pK = 1
              · subst h1
                by_cases hF : pF = (kf : Int)
                · subst hF
                  clear HDO HSK
                  clear d0 d1 d2
                  go_wp2
                  go_roundw
                  case rel => exact ⟨k + 1, d, g, off, rc, by omega, by omega, by go_num, HD5, HKP, HA5, HBX5, HR, HG5⟩
                  case measure => simp [intOf]; omega
                · have nF : (pF != (kf : Int)) = true := by simp [hF]
                  have HK9 := Lib.hid (HSK.out h5 (.inr hF))
                  clear HSK h5 hF n5
                  go_wp2_with fail
                  refine (HDO.out _ ((Gr.refl wr).alloc (.cells #[.int .i64 1, .int .i64 pF, .int .i64 pN, .string pS, .slice ca cl cc] 34))).mono ?_
                  rintro e w9 ⟨v9, rfl, hd9, hr9, hs9, hn9⟩
                  obtain ⟨g9, off9, rc9, rfl, ha9⟩ := hr9
                  have HBX9 := Lib.hid (HBX5.out.sole hs9 HNB.out.1)
                  have HST := Lib.hid (stored (d := d9) (R := (d9.room : Nat)) (fv := (d9.fail : Nat) - 1) (cap := rc9) HBX9.out ha9)
                  have HDX := Lib.hid (hd9.sole (store3_sole w9 nb (.slice (some ⟨g9, off9, none⟩) 4 rc9) (.int .i64 (d9.room : Nat)) (.int .i64 ((d9.fail : Nat) - 1))) HNB.out.1.symm)
                  have HGX := Lib.hid ((hs9.gr HG5.out HB.out).store3 (b := nb) HNB.out.2 (.slice (some ⟨g9, off9, none⟩) 4 rc9) (.int .i64 (d9.room : Nat)) (.int .i64 ((d9.fail : Nat) - 1)))
                  have HRX := Lib.hid (show g9 ≠ b from by
                    rcases hn9 with h1 | h1
                    · have h2 : g9 = g := h1
                      rw [h2]; exact HR.out
                    · have h2 : (wr.alloc (.cells #[.int .i64 1, .int .i64 pF, .int .i64 pN, .string pS, .slice ca cl cc] 34)).heap.size ≤ g9 := h1
                      have := cell_lt HD5.out.room
                      omega)
                  replace d0 := HBX9.out.cell (i := 0) rfl
                  replace d1 := HBX9.out.cell (i := 1) rfl
                  replace d2 := HBX9.out.cell (i := 2) rfl
                  have f0 := HBX9.out.free 0
                  have f1 := HBX9.out.free 1
                  have f2 := HBX9.out.free 2
                  clear hd9 ha9 hs9 hn9 c0 c1 c2 c3 c4
                  go_wp2
                  generalize ((w9.setCell ⟨nb, 0, none⟩ (.slice (some ⟨g9, off9, none⟩) 4 rc9)).setCell ⟨nb, 1, none⟩ (.int .i64 (d9.room : Nat))).setCell ⟨nb, 2, none⟩ (.int .i64 ((d9.fail : Nat) - 1)) = w8 at *
                  go_roundw
                  case rel => exact ⟨k + 1, d9, g9, off9, rc9, by omega, by omega, by go_num, HDX, HK9, Lib.hid HST.out.2, Lib.hid HST.out.1, HRX, HGX⟩
                  case measure => simp [intOf]; omega
              · have n1 : (pK != 1) = true := by simp [h1]
                have HK9 := Lib.hid (HSK.out h5 (.inl h1))
                clear HSK h5 h1
                go_wp2_with fail
                refine (HDO.out _ ((Gr.refl wr).alloc (.cells #[.int .i64 pK, .int .i64 pF, .int .i64 pN, .string pS, .slice ca cl cc] 34))).mono ?_
                rintro e w9 ⟨v9, rfl, hd9, hr9, hs9, hn9⟩
                obtain ⟨g9, off9, rc9, rfl, ha9⟩ := hr9
                have HBX9 := Lib.hid (HBX5.out.sole hs9 HNB.out.1)
                have HST := Lib.hid (stored (d := d9) (R := (d9.room : Nat)) (fv := (d9.fail : Nat) - 1) (cap := rc9) HBX9.out ha9)
                have HDX := Lib.hid (hd9.sole (store3_sole w9 nb (.slice (some ⟨g9, off9, none⟩) 4 rc9) (.int .i64 (d9.room : Nat)) (.int .i64 ((d9.fail : Nat) - 1))) HNB.out.1.symm)
                have HGX := Lib.hid ((hs9.gr HG5.out HB.out).store3 (b := nb) HNB.out.2 (.slice (some ⟨g9, off9, none⟩) 4 rc9) (.int .i64 (d9.room : Nat)) (.int .i64 ((d9.fail : Nat) - 1)))
                have HRX := Lib.hid (show g9 ≠ b from by
                  rcases hn9 with h1 | h1
                  · have h2 : g9 = g := h1
                    rw [h2]; exact HR.out
                  · have h2 : (wr.alloc (.cells #[.int .i64 pK, .int .i64 pF, .int .i64 pN, .string pS, .slice ca cl cc] 34)).heap.size ≤ g9 := h1
                    have := cell_lt HD5.out.room
                    omega)
                replace d0 := HBX9.out.cell (i := 0) rfl
                replace d1 := HBX9.out.cell (i := 1) rfl
                replace d2 := HBX9.out.cell (i := 2) rfl
                have f0 := HBX9.out.free 0
                have f1 := HBX9.out.free 1
                have f2 := HBX9.out.free 2
                clear hd9 ha9 hs9 hn9 c0 c1 c2 c3 c4
                go_wp2
                generalize ((w9.setCell ⟨nb, 0, none⟩ (.slice (some ⟨g9, off9, none⟩) 4 rc9)).setCell ⟨nb, 1, none⟩ (.int .i64 (d9.room : Nat))).setCell ⟨nb, 2, none⟩ (.int .i64 ((d9.fail : Nat) - 1)) = w8 at *
                go_roundw
                case rel => exact ⟨k + 1, d9, g9, off9, rc9, by omega, by omega, by go_num, HDX, HK9, Lib.hid HST.out.2, Lib.hid HST.out.1, HRX, HGX⟩
                case measure => simp [intOf]; omega
          · obtain rfl : k = 20 := by omega
            by_cases hml0 : M.length = 0
            · have HM2 : Hid True := Lib.hid trivial
              clear HM
              generalize M.length = ml at *
              subst hml0
              go_wp2_with fail
              refine (crash_any [] none 0 _ ⟨by simp, by simp, .inl rfl⟩ (Nat.le_refl _) (.inl rfl) HD.out).mono ?_
              rintro e w5 ⟨rfl, hd5, hs5⟩
              have HD5 := Lib.hid hd5
              have HG5 := Lib.hid (hs5.gr HG.out HB.out)
              clear hd5 hs5
              obtain ⟨x1, x2, x3⟩ := kept_end HKP.out HD.out.ok hkf4 []
              have RD := Lib.hid (fun (w : World) (h : DkIs w b (crash d [])) => read_in kf hkf4 w h)
              have SD := Lib.hid (fun (w : World) (h : DkIs w b (crash d [])) => sure_in kf hkf4 w h)
              rw [decide_eq_true x3] at SD
              clear x3
              generalize ((crash d []).fs kf).now = s2 at *
              have x4 : (sk.toList == sk.toList) = true := by simp
              have x5 : (sk.size : Int) ≤ (s2.size : Int) := by omega
              go_wp2_with fail
              refine (RD.out _ HD5.out).mono ?_
              rintro e w6 ⟨rfl, hg6⟩
              have HD6 := Lib.hid (HD5.out.gr hg6)
              have HG6 := Lib.hid (HG5.out.trans hg6)
              clear hg6
              go_wp2_with fail
              refine (SD.out _ HD6.out).mono ?_
              rintro e w7 ⟨rfl, hg7⟩
              have HG7 := Lib.hid (HG6.out.trans hg7)
              clear hg7
              go_wp2
              go_ret
              exact ⟨rfl, HG7.out⟩
            · have h0l : 0 < M.length := by omega
              obtain ⟨bb, oo, rfl, hbb, hat, hok⟩ := HM.out.get 0 h0l
              obtain ⟨-, -, -, -, ca, cc, c4, hcc, hci⟩ := hat
              have HOF := Lib.hid (ints_off (b := b) hci HB.out)
              replace c4 := HG.out.cell c4
              replace hci := hci.gr HG.out
              have c5 : wr.cell? ⟨bb, oo + 4, none⟩ = some (.slice ca M[0].C.length cc) := by simpa using c4
              generalize M[0].C = C at *
              have HCI := Lib.hid hci
              have h0i : (0 : Int) < (M.length : Int) := by omega
              clear hci hok c4 hml0
              by_cases h8 : C.length < 8
              · generalize hcl : C.length = cl at *
                have HCR := Lib.hid (show Calls Try.prog 20 #[.pointer (some ⟨b, 0, none⟩), .slice ca cl cc] wr fun e w' => e = .returned (.tuple #[]) ∧ DkIs w' b (crash d C) ∧ Sole b wr w' from by rw [← hcl]; exact crash_any C ca cc _ HCI.out (by omega) HOF.out HD.out)
                clear hcl
                have h8i : (cl : Int) < 8 := by omega
                go_wp2_with fail
                refine HCR.out.mono ?_
                rintro e w5 ⟨rfl, hd5, hs5⟩
                have HD5 := Lib.hid hd5
                have HG5 := Lib.hid (hs5.gr HG.out HB.out)
                clear hd5 hs5
                obtain ⟨x1, x2, x3⟩ := kept_end HKP.out HD.out.ok hkf4 C
                have RD := Lib.hid (fun (w : World) (h : DkIs w b (crash d C)) => read_in kf hkf4 w h)
                have SD := Lib.hid (fun (w : World) (h : DkIs w b (crash d C)) => sure_in kf hkf4 w h)
                rw [decide_eq_true x3] at SD
                clear x3
                generalize ((crash d C).fs kf).now = s2 at *
                have x4 : (sk.toList == sk.toList) = true := by simp
                have x5 : (sk.size : Int) ≤ (s2.size : Int) := by omega
                go_wp2_with fail
                refine (RD.out _ HD5.out).mono ?_
                rintro e w6 ⟨rfl, hg6⟩
                have HD6 := Lib.hid (HD5.out.gr hg6)
                have HG6 := Lib.hid (HG5.out.trans hg6)
                clear hg6
                go_wp2_with fail
                refine (SD.out _ HD6.out).mono ?_
                rintro e w7 ⟨rfl, hg7⟩
                have HG7 := Lib.hid (HG6.out.trans hg7)
                clear hg7
                go_wp2
                go_ret
                exact ⟨rfl, HG7.out⟩
              · generalize C.length = cl at *
                have h8i : ¬ (cl : Int) < 8 := by omega
                go_wp2_with fail
                refine (crash_any [] none 0 _ ⟨by simp, by simp, .inl rfl⟩ (Nat.le_refl _) (.inl rfl) HD.out).mono ?_
                rintro e w5 ⟨rfl, hd5, hs5⟩
                have HD5 := Lib.hid hd5
                have HG5 := Lib.hid (hs5.gr HG.out HB.out)
                clear hd5 hs5
                obtain ⟨x1, x2, x3⟩ := kept_end HKP.out HD.out.ok hkf4 []
                have RD := Lib.hid (fun (w : World) (h : DkIs w b (crash d [])) => read_in kf hkf4 w h)
                have SD := Lib.hid (fun (w : World) (h : DkIs w b (crash d [])) => sure_in kf hkf4 w h)
                rw [decide_eq_true x3] at SD
                clear x3
                generalize ((crash d []).fs kf).now = s2 at *
                have x4 : (sk.toList == sk.toList) = true := by simp
                have x5 : (sk.size : Int) ≤ (s2.size : Int) := by omega
                go_wp2_with fail
                refine (RD.out _ HD5.out).mono ?_
                rintro e w6 ⟨rfl, hg6⟩
                have HD6 := Lib.hid (HD5.out.gr hg6)
                have HG6 := Lib.hid (HG5.out.trans hg6)
                clear hg6
                go_wp2_with fail
                refine (SD.out _ HD6.out).mono ?_
                rintro e w7 ⟨rfl, hg7⟩
                have HG7 := Lib.hid (HG6.out.trans hg7)
                clear hg7
                go_wp2
                go_ret
                exact ⟨rfl, HG7.out⟩
        · obtain rfl : k = M.length := by omega
          by_cases hml0 : M.length = 0
          · have HM2 : Hid True := Lib.hid trivial
            clear HM
            generalize M.length = ml at *
            subst hml0
            go_wp2_with fail
            refine (crash_any [] none 0 _ ⟨by simp, by simp, .inl rfl⟩ (Nat.le_refl _) (.inl rfl) HD.out).mono ?_
            rintro e w5 ⟨rfl, hd5, hs5⟩
            have HD5 := Lib.hid hd5
            have HG5 := Lib.hid (hs5.gr HG.out HB.out)
            clear hd5 hs5
            obtain ⟨x1, x2, x3⟩ := kept_end HKP.out HD.out.ok hkf4 []
            have RD := Lib.hid (fun (w : World) (h : DkIs w b (crash d [])) => read_in kf hkf4 w h)
            have SD := Lib.hid (fun (w : World) (h : DkIs w b (crash d [])) => sure_in kf hkf4 w h)
            rw [decide_eq_true x3] at SD
            clear x3
            generalize ((crash d []).fs kf).now = s2 at *
            have x4 : (sk.toList == sk.toList) = true := by simp
            have x5 : (sk.size : Int) ≤ (s2.size : Int) := by omega
            go_wp2_with fail
            refine (RD.out _ HD5.out).mono ?_
            rintro e w6 ⟨rfl, hg6⟩
            have HD6 := Lib.hid (HD5.out.gr hg6)
            have HG6 := Lib.hid (HG5.out.trans hg6)
            clear hg6
            go_wp2_with fail
            refine (SD.out _ HD6.out).mono ?_
            rintro e w7 ⟨rfl, hg7⟩
            have HG7 := Lib.hid (HG6.out.trans hg7)
            clear hg7
            go_wp2
            go_ret
            exact ⟨rfl, HG7.out⟩
          · have h0l : 0 < M.length := by omega
            obtain ⟨bb, oo, rfl, hbb, hat, hok⟩ := HM.out.get 0 h0l
            obtain ⟨-, -, -, -, ca, cc, c4, hcc, hci⟩ := hat
            have HOF := Lib.hid (ints_off (b := b) hci HB.out)
            replace c4 := HG.out.cell c4
            replace hci := hci.gr HG.out
            have c5 : wr.cell? ⟨bb, oo + 4, none⟩ = some (.slice ca M[0].C.length cc) := by simpa using c4
            generalize M[0].C = C at *
            have HCI := Lib.hid hci
            have h0i : (0 : Int) < (M.length : Int) := by omega
            clear hci hok c4 hml0
            by_cases h8 : C.length < 8
            · generalize hcl : C.length = cl at *
              have HCR := Lib.hid (show Calls Try.prog 20 #[.pointer (some ⟨b, 0, none⟩), .slice ca cl cc] wr fun e w' => e = .returned (.tuple #[]) ∧ DkIs w' b (crash d C) ∧ Sole b wr w' from by rw [← hcl]; exact crash_any C ca cc _ HCI.out (by omega) HOF.out HD.out)
              clear hcl
              have h8i : (cl : Int) < 8 := by omega
              go_wp2_with fail
              refine HCR.out.mono ?_
              rintro e w5 ⟨rfl, hd5, hs5⟩
              have HD5 := Lib.hid hd5
              have HG5 := Lib.hid (hs5.gr HG.out HB.out)
              clear hd5 hs5
              obtain ⟨x1, x2, x3⟩ := kept_end HKP.out HD.out.ok hkf4 C
              have RD := Lib.hid (fun (w : World) (h : DkIs w b (crash d C)) => read_in kf hkf4 w h)
              have SD := Lib.hid (fun (w : World) (h : DkIs w b (crash d C)) => sure_in kf hkf4 w h)
              rw [decide_eq_true x3] at SD
              clear x3
              generalize ((crash d C).fs kf).now = s2 at *
              have x4 : (sk.toList == sk.toList) = true := by simp
              have x5 : (sk.size : Int) ≤ (s2.size : Int) := by omega
              go_wp2_with fail
              refine (RD.out _ HD5.out).mono ?_
              rintro e w6 ⟨rfl, hg6⟩
              have HD6 := Lib.hid (HD5.out.gr hg6)
              have HG6 := Lib.hid (HG5.out.trans hg6)
              clear hg6
              go_wp2_with fail
              refine (SD.out _ HD6.out).mono ?_
              rintro e w7 ⟨rfl, hg7⟩
              have HG7 := Lib.hid (HG6.out.trans hg7)
              clear hg7
              go_wp2
              go_ret
              exact ⟨rfl, HG7.out⟩
            · generalize C.length = cl at *
              have h8i : ¬ (cl : Int) < 8 := by omega
              go_wp2_with fail
              refine (crash_any [] none 0 _ ⟨by simp, by simp, .inl rfl⟩ (Nat.le_refl _) (.inl rfl) HD.out).mono ?_
              rintro e w5 ⟨rfl, hd5, hs5⟩
              have HD5 := Lib.hid hd5
              have HG5 := Lib.hid (hs5.gr HG.out HB.out)
              clear hd5 hs5
              obtain ⟨x1, x2, x3⟩ := kept_end HKP.out HD.out.ok hkf4 []
              have RD := Lib.hid (fun (w : World) (h : DkIs w b (crash d [])) => read_in kf hkf4 w h)
              have SD := Lib.hid (fun (w : World) (h : DkIs w b (crash d [])) => sure_in kf hkf4 w h)
              rw [decide_eq_true x3] at SD
              clear x3
              generalize ((crash d []).fs kf).now = s2 at *
              have x4 : (sk.toList == sk.toList) = true := by simp
              have x5 : (sk.size : Int) ≤ (s2.size : Int) := by omega
              go_wp2_with fail
              refine (RD.out _ HD5.out).mono ?_
              rintro e w6 ⟨rfl, hg6⟩
              have HD6 := Lib.hid (HD5.out.gr hg6)
              have HG6 := Lib.hid (HG5.out.trans hg6)
              clear hg6
              go_wp2_with fail
              refine (SD.out _ HD6.out).mono ?_
              rintro e w7 ⟨rfl, hg7⟩
              have HG7 := Lib.hid (HG6.out.trans hg7)
              clear hg7
              go_wp2
              go_ret
              exact ⟨rfl, HG7.out⟩
end Go.Proofs.Ytjllnojhhlkpoaa
