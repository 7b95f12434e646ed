import Derived.Test.YtkfkedpldndgiaaL08f
import Derived.Test.YtkfkedpldndgiaaC12
import Derived.WalkKit
import Derived.ProofKit
import Derived.LoopTactic
import Derived.Outline
import Derived.WalkSpells
import Derived.WalkLawsBesides
import Derived.Lib.Hide
import Derived.Deep.LoopGhost
import Derived.Deep.QuietTactic
import Derived.BigQuiet
import Derived.ShutString
import Derived.IntWalk
import Derived.OpenShut
import Derived.Deep.RegionHeld3
namespace Go.Proofs.Ytkfkedpldndgiaa
open Go.ChangeShapes Go.WideShapes Go.ChangeAt Go.RowKit
open Enc Bal
set_option linter.unusedVariables false
set_option linter.unusedSimpArgs false
theorem getS_back (c m : Nat) (hc : c < 18446744073709551616) (hm : m ≤ 11) (h0 : c = 0 → m = 0) : getS (ofL (encU c ++ encN (m : Int))) 0 = (ofL [], 0, c, m) := by
  have h1 := uS_back (ofL (encU c ++ encN (m : Int))) c (encN (m : Int)) hc (bytesOf_ofL _)
  have h2 : nS (ofL (encN (m : Int))) 0 11 = (ofL [], 0, m) := nS_back _ m [] 11 (by omega) (by omega) (by rw [bytesOf_ofL, List.append_nil]; unfold encN; rw [show (max (m : Int) 0).toNat = m by omega])
  unfold getS
  rw [h1]
  simp only
  rw [h2]
  simp only [ne_eq, not_true_eq_false, if_false]
  rw [if_neg (by omega)]
theorem get_to {p : Nat} {r a : ByteArray} {e b c n : Nat} (h : getS r e = (a, b, c, n)) (w : World) (hR : RdIs w p r e) :
    Calls Try.prog 56 #[.pointer (some ⟨p, 0, none⟩)] w fun en w' => en = .returned (.agg #[.int .u64 (c : Int), .int .i64 (n : Int)]) ∧ RdIs w' p a b ∧ Only p w w' := by
  have := get_any p r e w hR
  unfold GetIs at this
  rwa [h] at this
theorem rget_to {r a : ByteArray} {e b c n : Nat} (h : getS r e = (a, b, c, n)) (hr : r.size ≤ 1000000) (w : World) :
    Calls Try.prog 57 #[.agg #[.string r, .int .i64 (e : Int)]] w fun en w' => en = .returned (.tuple #[.agg #[.string a, .int .i64 (b : Int)], .agg #[.int .u64 (c : Int), .int .i64 (n : Int)]]) ∧ Gr w w' := by
  have := refGet_any r e w hr
  unfold RGetIs at this
  rwa [h] at this
set_option maxRecDepth 100000 in
set_option maxHeartbeats 4000000 in
theorem ballotBytes_walk (C N : Int) (s : ByteArray) (w : World) (hC : (Lit.int .u64 C).wf = true) (_hN : (Lit.int .i64 N).wf = true) (hs : s.size ≤ 9223372036854775807) :
    Calls Try.prog 10 #[.agg #[.int .u64 C, .int .i64 N], .string s] w fun e w' => e = .returned (.bool true) ∧ Gr w w' := by
  have bc := bounds_u64 hC
  obtain ⟨c, rfl⟩ := Int.eq_ofNat_of_zero_le bc.1
  have RI := Lib.hid (right08_any N c)
  have hcut := cutB_le s 40
  have CU := Lib.hid (fun w => cut_any s 40 w hs (by decide))
  clear hC _hN
  go_enter Try.func10, Try.ntmps10
  go_wp2_with fail
  refine (awake08_any _).mono ?_
  rintro e w1 ⟨rfl, hg1⟩
  have k0 := hg1.own.1 0 _ rfl
  have k1 := hg1.own.1 1 _ rfl
  go_wp2_with fail
  refine (RI.out _).mono ?_
  rintro e w2 ⟨m, hm, h0, rfl, hg2⟩
  have hg12 := hg1.trans hg2
  clear hg1 hg2 k0 k1
  have k0 := hg12.own.1 0 _ rfl
  have k1 := hg12.own.1 1 _ rfl
  have f0 := hg12.own.2.1 0
  have f1 := hg12.own.2.1 1
  have HG2 := Lib.hid (((Gr.refl w).alloc (.cells #[.int .u64 c, .int .i64 N] 67)).trans hg12)
  clear hg12
  have GB := getS_back c m (by omega) hm h0
  have T0 : ∃ T, Hid (ofL (encU c ++ encN (m : Int)) = T) := ⟨_, Lib.hid rfl⟩
  obtain ⟨T, HT⟩ := T0
  rw [HT.out] at GB
  have hTs : T.size ≤ 18 := by rw [← HT.out, ofL_size, List.length_append]; have h1 := encU_le c; have h2 := encU_le (max (m : Int) 0).toNat; unfold encN; omega
  have RP := Lib.hid (fun w => refPut_any c m w (by omega) hm)
  rw [HT.out] at RP
  have PU := Lib.hid (fun p w (h : WrIs w p []) => put_any p c m [] w h (by simp) hm)
  clear bc hm RI
  obtain ⟨⟨q0, q1⟩, -, -, hgr⟩ := put2 k0 k1 (rfl : ((w2.setCell ⟨w.heap.size, 0, none⟩ (.int .u64 (c : Nat))).setCell ⟨w.heap.size, 1, none⟩ (.int .i64 (m : Nat))) = _)
  have HG3 := Lib.hid (hgr _ HG2.out (Nat.le_refl _))
  have z0 := ((Gr.refl ((w2.setCell ⟨w.heap.size, 0, none⟩ (.int .u64 (c : Nat))).setCell ⟨w.heap.size, 1, none⟩ (.int .i64 (m : Nat)))).alloc (.cells #[.slice none 0 0] 81)).cell q0
  have z1 := ((Gr.refl ((w2.setCell ⟨w.heap.size, 0, none⟩ (.int .u64 (c : Nat))).setCell ⟨w.heap.size, 1, none⟩ (.int .i64 (m : Nat)))).alloc (.cells #[.slice none 0 0] 81)).cell q1
  clear hgr
  go_wp2_with fail
  have hsz : w2.heap.size = ((w2.setCell ⟨w.heap.size, 0, none⟩ (.int .u64 (c : Nat))).setCell ⟨w.heap.size, 1, none⟩ (.int .i64 (m : Nat))).heap.size := by simp
  generalize ((w2.setCell ⟨w.heap.size, 0, none⟩ (.int .u64 (c : Nat))).setCell ⟨w.heap.size, 1, none⟩ (.int .i64 (m : Nat))) = w3 at *
  clear z0 z1 k0 k1 f0 f1
  rw [hsz]
  clear hsz
  refine (PU.out w3.heap.size _ (new_writer w3)).mono ?_
  rintro e w5 ⟨rfl, hW, hB⟩
  have hz := (Gr.refl w3).alloc (.cells #[.slice none 0 0] 81)
  have hbw : w.heap.size < w3.heap.size := cell_lt q0
  replace q0 := (Below.cell hB (p := ⟨w.heap.size, 0, none⟩) hbw).trans (hz.cell q0)
  replace q1 := (Below.cell hB (p := ⟨w.heap.size, 1, none⟩) hbw).trans (hz.cell q1)
  have HG5 : Hid (Gr w w5) := Lib.hid (Below.trans (HG3.out.trans hz) (hB.mono HG3.out.size))
  have hW' : WrIs w5 w3.heap.size (encU c ++ encN (m : Int)) := by simpa using hW
  have HW := Lib.hid hW'
  have TX : Hid (∀ w9 : World, WrIs w9 w3.heap.size (encU c ++ encN (m : Int)) → Calls Try.prog 54 #[.pointer (some ⟨w3.heap.size, 0, none⟩)] w9 fun e w' => e = .returned (.string T) ∧ Gr w9 w') := Lib.hid (fun w9 h => by have := calls_gr (wText_any w3.heap.size (encU c ++ encN (m : Int)) w9 h); rw [← HT.out]; exact this)
  clear hz hB hW hW' hbw
  go_wp2_with fail
  refine (TX.out _ HW.out).mono ?_
  rintro e w6 ⟨rfl, hg6⟩
  replace q0 := hg6.cell q0
  replace q1 := hg6.cell q1
  have HW6 := Lib.hid (HW.out.gr hg6)
  have HG6 := Lib.hid (HG5.out.trans hg6)
  clear hg6
  go_wp2_with fail
  refine (read_any T _ (by omega)).mono ?_
  rintro e w7 ⟨rfl, hR7, hg7⟩
  replace q0 := hg7.cell q0
  replace q1 := hg7.cell q1
  have hbq : w.heap.size ≠ w6.heap.size := Nat.ne_of_lt (by have h7 := HG6.out.size; have h8 := cell_lt q0; have h9 := HW6.out; have h10 := wrLt h9; have h11 := HG3.out.size; omega)
  have hq0 : w.heap.size ≤ w6.heap.size := HG6.out.size
  have HW7 := Lib.hid (HW6.out.gr hg7)
  have HG7 := Lib.hid (HG6.out.trans hg7)
  have HR7 := Lib.hid hR7
  clear hg7 hR7
  have GT := Lib.hid (fun w9 (h : RdIs w9 w6.heap.size T 0) => get_to (p := w6.heap.size) GB w9 h)
  have DN := Lib.hid (fun w9 (h : RdIs w9 w6.heap.size (ofL []) 0) => rDone_any w6.heap.size (ofL []) 0 w9 h)
  have hd0 : doneE (ofL []) 0 = 0 := rfl
  rw [hd0] at DN
  go_wp2
  have HS7 := And.intro q0 q1
  have HWx := Lib.hid (HW7.out.gr (Gr.refl w7).drew)
  have HRd := Lib.hid (HR7.out.gr (Gr.refl w7).drew)
  have HGd := Lib.hid (HG7.out.trans (Gr.refl w7).drew)
  generalize hbb : w.heap.size = b at *
  clear q0 q1
  refine wp_region_held_drew (S := (fun w9 => w9.cell? ⟨b, 0, none⟩ = some (.int .u64 (c : Nat)) ∧ w9.cell? ⟨b, 1, none⟩ = some (.int .i64 (m : Nat)))) (by kernel_rfl) ?inva (fun h0 => ?_)
  case inva => ((try dsimp only); exact HS7)
  refine wpAnyH_take (i := 1) (oi := { dst := some 20, op := Go.Op.load 67 (Go.Operand.tmp 2), type := 67, pos := "law.go:72", after := #[], guard := none }) (v := ?va1) rfl (by kernel_rfl) (by kernel_rfl) (by kernel_rfl) (fun _ _ _ h => h) (Or.inl ⟨by rfl, ?ra1⟩) (by assumption) ?_
  case ra1 => (intro w hSw; (try dsimp only at hSw); (go_simp <;> with_reducible rfl))
  try simp only [Act.put, List.setIfInBounds_toArray, List.set_cons_zero, List.set_cons_succ]
  refine wpAnyH_ready (rs := [0]) (by kernel_rfl) (by simp) ?_
  refine AllReadyH.cons (o := { dst := some 19, op := Go.Op.call { callee := Go.Callee.value (Go.Operand.func 54), args := #[Go.Operand.tmp 5], argTypes := #[81] }, type := 9, pos := "law.go:72", after := #[], guard := none }) rfl (fun K hK => ?_) AllReadyH.nil
  go_simp
  (go_at_call 54; refine (TX.out _ HWx.out).mono ?_; rintro e w21 ⟨rfl, hg21⟩; have hgN := hg21; have HR21 := Lib.hid (HRd.out.gr hg21); have HG21 := Lib.hid (HGd.out.trans hg21))
  first | refine hK.out _ _ ?sa2 (fun h2 => ?_) | (go_wp2_with fail; refine hK.out _ _ ?sa2 (fun h2 => ?_))
  case sa2 => ((try dsimp only); (first | exact ⟨hgN.cell h0.1, hgN.cell h0.2⟩ | exact ⟨hO23.cell hbq h0.1, hO23.cell hbq h0.2⟩ | exact ⟨hO24.cell hbq h0.1, hO24.cell hbq h0.2⟩))
  clear hK K h0
  try simp only [Act.put, List.setIfInBounds_toArray, List.set_cons_zero, List.set_cons_succ]
  refine wpAnyH_ready (rs := [2]) (by kernel_rfl) (by simp) ?_
  refine AllReadyH.cons (o := { dst := some 21, op := Go.Op.call { callee := Go.Callee.value (Go.Operand.func 55), args := #[Go.Operand.tmp 20], argTypes := #[67] }, type := 9, pos := "law.go:72", after := #[{ on := 1, ground := Go.Ground.data }, { on := 0, ground := Go.Ground.chain }], guard := none }) rfl (fun K hK => ?_) AllReadyH.nil
  go_simp
  (go_at_call 55; refine (RP.out _).mono ?_; rintro e w22 ⟨rfl, hg22⟩; have hgN := hg22; have HR22 := Lib.hid (HR21.out.gr hg22); have HG22 := Lib.hid (HG21.out.trans hg22))
  first | refine hK.out _ _ ?sa3 (fun h3 => ?_) | (go_wp2_with fail; refine hK.out _ _ ?sa3 (fun h3 => ?_))
  case sa3 => ((try dsimp only); (first | exact ⟨hgN.cell h2.1, hgN.cell h2.2⟩ | exact ⟨hO23.cell hbq h2.1, hO23.cell hbq h2.2⟩ | exact ⟨hO24.cell hbq h2.1, hO24.cell hbq h2.2⟩))
  clear hK K h2
  try simp only [Act.put, List.setIfInBounds_toArray, List.set_cons_zero, List.set_cons_succ]
  refine wpAnyH_take (i := 3) (oi := { dst := some 22, op := Go.Op.binOp Go.BinOp.neq 9 (Go.Operand.tmp 19) (Go.Operand.tmp 21) 9, type := 4, pos := "law.go:72", after := #[{ on := 0, ground := Go.Ground.data }, { on := 2, ground := Go.Ground.data }], guard := none }) (v := (.bool false)) rfl (by kernel_rfl) (by kernel_rfl) (by kernel_rfl) (fun _ _ _ h => h) (Or.inl ⟨by rfl, ?ra4⟩) (by assumption) ?_
  case ra4 => (intro w hSw; (try dsimp only at hSw); go_simp; try simp)
  try simp only [Act.put, List.setIfInBounds_toArray, List.set_cons_zero, List.set_cons_succ]
  refine wpAnyH_take (i := 4) (oi := { dst := some 23, op := Go.Op.move (Go.Operand.tmp 22), type := 4, pos := "law.go:72", after := #[{ on := 3, ground := Go.Ground.data }, { on := 2, ground := Go.Ground.chain }], guard := none }) (v := ?va5) rfl (by kernel_rfl) (by kernel_rfl) (by kernel_rfl) (fun _ _ _ h => h) (Or.inl ⟨by rfl, ?ra5⟩) (by assumption) ?_
  case ra5 => (intro w hSw; (try dsimp only at hSw); (go_simp <;> with_reducible rfl))
  try simp only [Act.put, List.setIfInBounds_toArray, List.set_cons_zero, List.set_cons_succ]
  refine wpAnyH_take (i := 5) (oi := { dst := some 24, op := Go.Op.move (Go.Operand.tmp 6), type := 25, pos := "law.go:72", after := #[{ on := 4, ground := Go.Ground.guard }], guard := some (4, false) }) (v := ?va6) rfl (by kernel_rfl) (by kernel_rfl) (by kernel_rfl) (fun _ _ _ h => h) (Or.inl ⟨by rfl, ?ra6⟩) (by assumption) ?_
  case ra6 => (intro w hSw; (try dsimp only at hSw); (go_simp <;> with_reducible rfl))
  try simp only [Act.put, List.setIfInBounds_toArray, List.set_cons_zero, List.set_cons_succ]
  refine wpAnyH_take (i := 7) (oi := { dst := some 26, op := Go.Op.load 67 (Go.Operand.tmp 2), type := 67, pos := "law.go:72", after := #[{ on := 4, ground := Go.Ground.guard }], guard := some (4, false) }) (v := ?va7) rfl (by kernel_rfl) (by kernel_rfl) (by kernel_rfl) (fun _ _ _ h => h) (Or.inl ⟨by rfl, ?ra7⟩) (by assumption) ?_
  case ra7 => (intro w hSw; (try dsimp only at hSw); (go_simp <;> with_reducible rfl))
  try simp only [Act.put, List.setIfInBounds_toArray, List.set_cons_zero, List.set_cons_succ]
  refine wpAnyH_ready (rs := [6]) (by kernel_rfl) (by simp) ?_
  refine AllReadyH.cons (o := { dst := some 25, op := Go.Op.call { callee := Go.Callee.value (Go.Operand.func 56), args := #[Go.Operand.tmp 24], argTypes := #[25] }, type := 69, pos := "law.go:72", after := #[{ on := 5, ground := Go.Ground.data }, { on := 4, ground := Go.Ground.chain }, { on := 4, ground := Go.Ground.guard }], guard := some (4, false) }) rfl (fun K hK => ?_) AllReadyH.nil
  go_simp
  (go_at_call 56; refine (GT.out _ HR22.out).mono ?_; rintro e w23 ⟨rfl, hR23, hO23⟩; have HR23 := Lib.hid hR23; have HO23 := Lib.hid hO23; have HG23 := Lib.hid (hO23.gr HG22.out (Nat.le_trans (Nat.le_of_eq hbb) hq0)))
  first | refine hK.out _ _ ?sa8 (fun h8 => ?_) | (go_wp2_with fail; refine hK.out _ _ ?sa8 (fun h8 => ?_))
  case sa8 => ((try dsimp only); (first | exact ⟨hgN.cell h3.1, hgN.cell h3.2⟩ | exact ⟨hO23.cell hbq h3.1, hO23.cell hbq h3.2⟩ | exact ⟨hO24.cell hbq h3.1, hO24.cell hbq h3.2⟩))
  clear hK K h3
  try simp only [Act.put, List.setIfInBounds_toArray, List.set_cons_zero, List.set_cons_succ]
  refine wpAnyH_take (i := 8) (oi := { dst := some 27, op := Go.Op.binOp Go.BinOp.neq 69 (Go.Operand.tmp 25) (Go.Operand.tmp 26) 69, type := 4, pos := "law.go:72", after := #[{ on := 6, ground := Go.Ground.data }, { on := 7, ground := Go.Ground.data }, { on := 4, ground := Go.Ground.guard }], guard := some (4, false) }) (v := (.bool false)) rfl (by kernel_rfl) (by kernel_rfl) (by kernel_rfl) (fun _ _ _ h => h) (Or.inl ⟨by rfl, ?ra9⟩) (by assumption) ?_
  case ra9 => (intro w hSw; (try dsimp only at hSw); go_simp; try simp)
  try simp only [Act.put, List.setIfInBounds_toArray, List.set_cons_zero, List.set_cons_succ]
  refine wpAnyH_take (i := 9) (oi := { dst := some 28, op := Go.Op.pick (Go.Operand.tmp 23) (Go.Operand.const (Go.Value.bool true)) (Go.Operand.tmp 27), type := 4, pos := "law.go:72", after := #[{ on := 4, ground := Go.Ground.data }, { on := 8, ground := Go.Ground.data }], guard := none }) (v := ?va10) rfl (by kernel_rfl) (by kernel_rfl) (by kernel_rfl) (fun _ _ _ h => h) (Or.inl ⟨by rfl, ?ra10⟩) (by assumption) ?_
  case ra10 => (intro w hSw; (try dsimp only at hSw); (go_simp <;> with_reducible rfl))
  try simp only [Act.put, List.setIfInBounds_toArray, List.set_cons_zero, List.set_cons_succ]
  refine wpAnyH_take (i := 10) (oi := { dst := some 29, op := Go.Op.move (Go.Operand.tmp 28), type := 4, pos := "law.go:72", after := #[{ on := 9, ground := Go.Ground.data }, { on := 6, ground := Go.Ground.chain }], guard := none }) (v := ?va11) rfl (by kernel_rfl) (by kernel_rfl) (by kernel_rfl) (fun _ _ _ h => h) (Or.inl ⟨by rfl, ?ra11⟩) (by assumption) ?_
  case ra11 => (intro w hSw; (try dsimp only at hSw); (go_simp <;> with_reducible rfl))
  try simp only [Act.put, List.setIfInBounds_toArray, List.set_cons_zero, List.set_cons_succ]
  refine wpAnyH_take (i := 11) (oi := { dst := some 30, op := Go.Op.move (Go.Operand.tmp 6), type := 25, pos := "law.go:72", after := #[{ on := 10, ground := Go.Ground.guard }], guard := some (10, false) }) (v := ?va12) rfl (by kernel_rfl) (by kernel_rfl) (by kernel_rfl) (fun _ _ _ h => h) (Or.inl ⟨by rfl, ?ra12⟩) (by assumption) ?_
  case ra12 => (intro w hSw; (try dsimp only at hSw); (go_simp <;> with_reducible rfl))
  try simp only [Act.put, List.setIfInBounds_toArray, List.set_cons_zero, List.set_cons_succ]
  refine wpAnyH_ready (rs := [12]) (by kernel_rfl) (by simp) ?_
  refine AllReadyH.cons (o := { dst := some 31, op := Go.Op.call { callee := Go.Callee.value (Go.Operand.func 29), args := #[Go.Operand.tmp 30], argTypes := #[25] }, type := 44, pos := "law.go:72", after := #[{ on := 11, ground := Go.Ground.data }, { on := 10, ground := Go.Ground.chain }, { on := 10, ground := Go.Ground.guard }], guard := some (10, false) }) rfl (fun K hK => ?_) AllReadyH.nil
  go_simp
  (go_at_call 29; refine (DN.out _ HR23.out).mono ?_; rintro e w24 ⟨rfl, hR24, hO24⟩; have HG24 := Lib.hid (hO24.gr HG23.out (Nat.le_trans (Nat.le_of_eq hbb) hq0)))
  first | refine hK.out _ _ ?sa13 (fun h13 => ?_) | (go_wp2_with fail; refine hK.out _ _ ?sa13 (fun h13 => ?_))
  case sa13 => ((try dsimp only); (first | exact ⟨hgN.cell h8.1, hgN.cell h8.2⟩ | exact ⟨hO23.cell hbq h8.1, hO23.cell hbq h8.2⟩ | exact ⟨hO24.cell hbq h8.1, hO24.cell hbq h8.2⟩))
  clear hK K h8
  try simp only [Act.put, List.setIfInBounds_toArray, List.set_cons_zero, List.set_cons_succ]
  refine wpAnyH_take (i := 13) (oi := { dst := some 32, op := Go.Op.binOp Go.BinOp.neq 44 (Go.Operand.tmp 31) (Go.Operand.const (Go.Value.int Go.IntKind.i64 0)) 44, type := 4, pos := "law.go:72", after := #[{ on := 12, ground := Go.Ground.data }, { on := 10, ground := Go.Ground.guard }], guard := some (10, false) }) (v := (.bool false)) rfl (by kernel_rfl) (by kernel_rfl) (by kernel_rfl) (fun _ _ _ h => h) (Or.inl ⟨by rfl, ?ra14⟩) (by assumption) ?_
  case ra14 => (intro w hSw; (try dsimp only at hSw); go_simp; try simp)
  try simp only [Act.put, List.setIfInBounds_toArray, List.set_cons_zero, List.set_cons_succ]
  refine wpAnyH_take (i := 14) (oi := { dst := some 33, op := Go.Op.pick (Go.Operand.tmp 29) (Go.Operand.const (Go.Value.bool true)) (Go.Operand.tmp 32), type := 4, pos := "law.go:72", after := #[{ on := 10, ground := Go.Ground.data }, { on := 13, ground := Go.Ground.data }], guard := none }) (v := ?va15) rfl (by kernel_rfl) (by kernel_rfl) (by kernel_rfl) (fun _ _ _ h => h) (Or.inl ⟨by rfl, ?ra15⟩) (by assumption) ?_
  case ra15 => (intro w hSw; (try dsimp only at hSw); (go_simp <;> with_reducible rfl))
  try simp only [Act.put, List.setIfInBounds_toArray, List.set_cons_zero, List.set_cons_succ]
  refine wpAnyH_done (by kernel_rfl) ?_ _
  have HGf := HG24
  clear h13
  generalize w24 = w25 at *
  clear hgN
  go_wp2_with fail
  refine (calls_gr (CU.out _)).mono ?_
  rintro e w26 ⟨rfl, hg26⟩
  have HG26 := Lib.hid (HGf.out.trans hg26)
  clear hg26
  go_wp2_with fail
  refine (read_any (cutB s 40) _ (by omega)).mono ?_
  rintro e w27 ⟨rfl, hR27, hg27⟩
  have HG27 := Lib.hid (HG26.out.trans hg27)
  have HR27 := Lib.hid hR27
  have hq2 : b ≤ w26.heap.size := Nat.le_trans (Nat.le_of_eq hbb.symm) HG26.out.size
  clear hg27 hR27
  obtain ⟨r2, e2, c2, n2, hG⟩ : ∃ r2 e2 c2 n2, getS (cutB s 40) 0 = (r2, e2, c2, n2) := ⟨_, _, _, _, rfl⟩
  have GT2 := Lib.hid (fun w9 (h : RdIs w9 w26.heap.size (cutB s 40) 0) => get_to (p := w26.heap.size) hG w9 h)
  have RG2 := Lib.hid (fun w => rget_to hG (by omega) w)
  generalize hqq : w26.heap.size = q2 at *
  go_wp2_with fail
  refine (GT2.out _ HR27.out).mono ?_
  rintro e w28 ⟨rfl, hR28, hO28⟩
  have HG28 := Lib.hid (hO28.gr HG27.out (Nat.le_trans (Nat.le_of_eq hbb) hq2))
  have HR28 := Lib.hid hR28
  clear hO28 hR28
  go_wp2_with fail
  refine (RG2.out _).mono ?_
  rintro e w29 ⟨rfl, hg29⟩
  have k0 := hg29.own.1 0 _ rfl
  have k1 := hg29.own.1 1 _ rfl
  have hg29' := ((Gr.refl w28).alloc _).trans hg29
  have HG29 := Lib.hid (HG28.out.trans hg29')
  have HR29 := Lib.hid (HR28.out.gr hg29')
  have h89 : w28.heap.size < w29.heap.size := cell_lt k0
  clear hg29 hg29' GT2 RG2 GT DN TX RP PU GB
  have g0 := ((Gr.refl w29).alloc (.cells #[.string r2, .int .i64 (e2 : Nat)] 28)).alloc (.cells #[.int .u64 (c2 : Nat), .int .i64 (n2 : Nat)] 67)
  have a8 := g0.cell (show w29.cell? ⟨w28.heap.size, 0, none⟩ = some (.int .u64 (c2 : Nat)) from k0)
  have b8 := g0.cell (show w29.cell? ⟨w28.heap.size, 1, none⟩ = some (.int .i64 (n2 : Nat)) from k1)
  have gt := (Gr.refl (w29.alloc (.cells #[.string r2, .int .i64 (e2 : Nat)] 28))).alloc (.cells #[.int .u64 (c2 : Nat), .int .i64 (n2 : Nat)] 67)
  have a9 := gt.cell (new_cell (w := w29) (c := #[.string r2, .int .i64 (e2 : Nat)]) (t := 28) (i := 0) (v := .string r2) rfl rfl)
  have b9 := gt.cell (new_cell (w := w29) (c := #[.string r2, .int .i64 (e2 : Nat)]) (t := 28) (i := 1) (v := .int .i64 (e2 : Nat)) rfl rfl)
  have a10 := new_cell (w := w29.alloc (.cells #[.string r2, .int .i64 (e2 : Nat)] 28)) (n := w29.heap.size + 1) (c := #[.int .u64 (c2 : Nat), .int .i64 (n2 : Nat)]) (t := 67) (i := 0) (v := .int .u64 (c2 : Nat)) (by simp) rfl
  have b10 := new_cell (w := w29.alloc (.cells #[.string r2, .int .i64 (e2 : Nat)] 28)) (n := w29.heap.size + 1) (c := #[.int .u64 (c2 : Nat), .int .i64 (n2 : Nat)]) (t := 67) (i := 1) (v := .int .i64 (n2 : Nat)) (by simp) rfl
  go_wp2
  have HGk := Lib.hid (HG29.out.trans g0)
  have HRk := Lib.hid (HR29.out.gr g0)
  clear k0 k1 g0 gt h89 HG29 HR29
  generalize ((w29.alloc (.cells #[.string r2, .int .i64 (e2 : Nat)] 28)).alloc (.cells #[.int .u64 (c2 : Nat), .int .i64 (n2 : Nat)] 67)) = wk at *
  generalize w28.heap.size = x8 at *
  generalize w29.heap.size + 1 = x10 at *
  generalize w29.heap.size = x9 at *
  have HX13 : Hid (∀ w0 w9 : World, Gr w0 w9 → (fun w9 => Gr wk w9 ∧ w9.cell? ⟨x8, 0, none⟩ = some (.int .u64 (c2 : Nat)) ∧ w9.cell? ⟨x8, 1, none⟩ = some (.int .i64 (n2 : Nat)) ∧ w9.cell? ⟨x9, 0, none⟩ = some (.string r2) ∧ w9.cell? ⟨x9, 1, none⟩ = some (.int .i64 (e2 : Nat)) ∧ w9.cell? ⟨x10, 0, none⟩ = some (.int .u64 (c2 : Nat)) ∧ w9.cell? ⟨x10, 1, none⟩ = some (.int .i64 (n2 : Nat))) w0 → (fun w9 => Gr wk w9 ∧ w9.cell? ⟨x8, 0, none⟩ = some (.int .u64 (c2 : Nat)) ∧ w9.cell? ⟨x8, 1, none⟩ = some (.int .i64 (n2 : Nat)) ∧ w9.cell? ⟨x9, 0, none⟩ = some (.string r2) ∧ w9.cell? ⟨x9, 1, none⟩ = some (.int .i64 (e2 : Nat)) ∧ w9.cell? ⟨x10, 0, none⟩ = some (.int .u64 (c2 : Nat)) ∧ w9.cell? ⟨x10, 1, none⟩ = some (.int .i64 (n2 : Nat))) w9) := Lib.hid fun w0 w9 hg ⟨h, a1, a2, a3, a4, a5, a6⟩ => ⟨h.trans hg, hg.cell a1, hg.cell a2, hg.cell a3, hg.cell a4, hg.cell a5, hg.cell a6⟩
  have HS13 := (show (fun w9 => Gr wk w9 ∧ w9.cell? ⟨x8, 0, none⟩ = some (.int .u64 (c2 : Nat)) ∧ w9.cell? ⟨x8, 1, none⟩ = some (.int .i64 (n2 : Nat)) ∧ w9.cell? ⟨x9, 0, none⟩ = some (.string r2) ∧ w9.cell? ⟨x9, 1, none⟩ = some (.int .i64 (e2 : Nat)) ∧ w9.cell? ⟨x10, 0, none⟩ = some (.int .u64 (c2 : Nat)) ∧ w9.cell? ⟨x10, 1, none⟩ = some (.int .i64 (n2 : Nat))) wk from ⟨Gr.refl wk, a8, b8, a9, b9, a10, b10⟩)
  clear a8 b8 a9 b9 a10 b10
  obtain he | he : e2 = 0 ∨ e2 ≠ 0 := by omega
  · have he' : (((e2 : Nat) : Int) != 0) = false := by simp [he]
    refine wp_region_held_drew (S := (fun w9 => Gr wk w9 ∧ w9.cell? ⟨x8, 0, none⟩ = some (.int .u64 (c2 : Nat)) ∧ w9.cell? ⟨x8, 1, none⟩ = some (.int .i64 (n2 : Nat)) ∧ w9.cell? ⟨x9, 0, none⟩ = some (.string r2) ∧ w9.cell? ⟨x9, 1, none⟩ = some (.int .i64 (e2 : Nat)) ∧ w9.cell? ⟨x10, 0, none⟩ = some (.int .u64 (c2 : Nat)) ∧ w9.cell? ⟨x10, 1, none⟩ = some (.int .i64 (n2 : Nat)))) (by kernel_rfl) ?invc (fun h0 => ?_)
    case invc => ((try dsimp only); (first | exact HS13 | exact HX13.out _ _ ((Gr.refl _).drew) HS13))
    refine wpAnyH_take (i := 0) (oi := { dst := some 46, op := Go.Op.load 69 (Go.Operand.tmp 8), type := 69, pos := "law.go:79", after := #[], guard := none }) (v := ?vc1) rfl (by kernel_rfl) (by kernel_rfl) (by kernel_rfl) (fun _ _ _ h => h) (Or.inl ⟨by rfl, ?rc1⟩) (by assumption) ?_
    case rc1 => (intro w hSw; (try dsimp only at hSw); (go_simp <;> with_reducible rfl))
    try simp only [Act.put, List.setIfInBounds_toArray, List.set_cons_zero, List.set_cons_succ]
    refine wpAnyH_take (i := 1) (oi := { dst := some 47, op := Go.Op.load 67 (Go.Operand.tmp 10), type := 67, pos := "law.go:79", after := #[], guard := none }) (v := ?vc2) rfl (by kernel_rfl) (by kernel_rfl) (by kernel_rfl) (fun _ _ _ h => h) (Or.inl ⟨by rfl, ?rc2⟩) (by assumption) ?_
    case rc2 => (intro w hSw; (try dsimp only at hSw); (go_simp <;> with_reducible rfl))
    try simp only [Act.put, List.setIfInBounds_toArray, List.set_cons_zero, List.set_cons_succ]
    refine wpAnyH_take (i := 2) (oi := { dst := some 48, op := Go.Op.binOp Go.BinOp.eql 69 (Go.Operand.tmp 46) (Go.Operand.tmp 47) 69, type := 4, pos := "law.go:79", after := #[{ on := 0, ground := Go.Ground.data }, { on := 1, ground := Go.Ground.data }], guard := none }) (v := (.bool true)) rfl (by kernel_rfl) (by kernel_rfl) (by kernel_rfl) (fun _ _ _ h => h) (Or.inl ⟨by rfl, ?rc3⟩) (by assumption) ?_
    case rc3 => (intro w hSw; (try dsimp only at hSw); go_simp; try simp)
    try simp only [Act.put, List.setIfInBounds_toArray, List.set_cons_zero, List.set_cons_succ]
    refine wpAnyH_take (i := 3) (oi := { dst := some 49, op := Go.Op.move (Go.Operand.tmp 48), type := 4, pos := "law.go:79", after := #[{ on := 2, ground := Go.Ground.data }], guard := none }) (v := ?vc4) rfl (by kernel_rfl) (by kernel_rfl) (by kernel_rfl) (fun _ _ _ h => h) (Or.inl ⟨by rfl, ?rc4⟩) (by assumption) ?_
    case rc4 => (intro w hSw; (try dsimp only at hSw); (go_simp <;> with_reducible rfl))
    try simp only [Act.put, List.setIfInBounds_toArray, List.set_cons_zero, List.set_cons_succ]
    refine wpAnyH_take (i := 4) (oi := { dst := some 50, op := Go.Op.move (Go.Operand.tmp 7), type := 25, pos := "law.go:79", after := #[{ on := 3, ground := Go.Ground.guard }], guard := some (3, true) }) (v := ?vc5) rfl (by kernel_rfl) (by kernel_rfl) (by kernel_rfl) (fun _ _ _ h => h) (Or.inl ⟨by rfl, ?rc5⟩) (by assumption) ?_
    case rc5 => (intro w hSw; (try dsimp only at hSw); (go_simp <;> with_reducible rfl))
    try simp only [Act.put, List.setIfInBounds_toArray, List.set_cons_zero, List.set_cons_succ]
    refine wpAnyH_take (i := 6) (oi := { dst := some 52, op := Go.Op.fieldAddr 28 (Go.Operand.tmp 9) 1, type := 0, pos := "law.go:79", after := #[{ on := 3, ground := Go.Ground.guard }], guard := some (3, true) }) (v := ?vc6) rfl (by kernel_rfl) (by kernel_rfl) (by kernel_rfl) (fun _ _ _ h => h) (Or.inl ⟨by rfl, ?rc6⟩) (by assumption) ?_
    case rc6 => (intro w hSw; (try dsimp only at hSw); (go_simp <;> with_reducible rfl))
    try simp only [Act.put, List.setIfInBounds_toArray, List.set_cons_zero, List.set_cons_succ]
    refine wpAnyH_take (i := 7) (oi := { dst := some 53, op := Go.Op.load 3 (Go.Operand.tmp 52), type := 3, pos := "law.go:79", after := #[{ on := 6, ground := Go.Ground.data }, { on := 3, ground := Go.Ground.guard }], guard := some (3, true) }) (v := ?vc7) rfl (by kernel_rfl) (by kernel_rfl) (by kernel_rfl) (fun _ _ _ h => h) (Or.inl ⟨by rfl, ?rc7⟩) (by assumption) ?_
    case rc7 => (intro w hSw; (try dsimp only at hSw); (go_simp <;> with_reducible rfl))
    try simp only [Act.put, List.setIfInBounds_toArray, List.set_cons_zero, List.set_cons_succ]
    refine wpAnyH_ready (rs := [5]) (by kernel_rfl) (by simp) ?_
    refine AllReadyH.cons (o := { dst := some 51, op := Go.Op.call { callee := Go.Callee.value (Go.Operand.func 26), args := #[Go.Operand.tmp 50], argTypes := #[25] }, type := 44, pos := "law.go:79", after := #[{ on := 4, ground := Go.Ground.data }, { on := 3, ground := Go.Ground.chain }, { on := 3, ground := Go.Ground.guard }], guard := some (3, true) }) rfl (fun K hK => ?_) AllReadyH.nil
    go_simp
    (go_at_call 26; refine (calls_gr (err_any q2 r2 e2 _ (HRk.out.gr h0.1))).mono ?_; rintro e w31 ⟨rfl, hgN⟩)
    first | refine hK.out _ _ ?sc8 (fun h8 => ?_) | (go_wp2_with fail; refine hK.out _ _ ?sc8 (fun h8 => ?_))
    case sc8 => ((try dsimp only); exact HX13.out _ _ hgN h0)
    clear hK K h0
    try simp only [Act.put, List.setIfInBounds_toArray, List.set_cons_zero, List.set_cons_succ]
    refine wpAnyH_take (i := 8) (oi := { dst := some 54, op := Go.Op.binOp Go.BinOp.eql 3 (Go.Operand.tmp 51) (Go.Operand.tmp 53) 3, type := 4, pos := "law.go:79", after := #[{ on := 5, ground := Go.Ground.data }, { on := 7, ground := Go.Ground.data }, { on := 3, ground := Go.Ground.guard }], guard := some (3, true) }) (v := (.bool true)) rfl (by kernel_rfl) (by kernel_rfl) (by kernel_rfl) (fun _ _ _ h => h) (Or.inl ⟨by rfl, ?rc9⟩) (by assumption) ?_
    case rc9 => (intro w hSw; (try dsimp only at hSw); go_simp; try simp)
    try simp only [Act.put, List.setIfInBounds_toArray, List.set_cons_zero, List.set_cons_succ]
    refine wpAnyH_take (i := 9) (oi := { dst := some 55, op := Go.Op.pick (Go.Operand.tmp 49) (Go.Operand.tmp 54) (Go.Operand.const (Go.Value.bool false)), type := 4, pos := "law.go:79", after := #[{ on := 3, ground := Go.Ground.data }, { on := 8, ground := Go.Ground.data }], guard := none }) (v := ?vc10) rfl (by kernel_rfl) (by kernel_rfl) (by kernel_rfl) (fun _ _ _ h => h) (Or.inl ⟨by rfl, ?rc10⟩) (by assumption) ?_
    case rc10 => (intro w hSw; (try dsimp only at hSw); (go_simp <;> with_reducible rfl))
    try simp only [Act.put, List.setIfInBounds_toArray, List.set_cons_zero, List.set_cons_succ]
    refine wpAnyH_take (i := 10) (oi := { dst := some 56, op := Go.Op.move (Go.Operand.tmp 55), type := 4, pos := "law.go:79", after := #[{ on := 9, ground := Go.Ground.data }, { on := 5, ground := Go.Ground.chain }], guard := none }) (v := ?vc11) rfl (by kernel_rfl) (by kernel_rfl) (by kernel_rfl) (fun _ _ _ h => h) (Or.inl ⟨by rfl, ?rc11⟩) (by assumption) ?_
    case rc11 => (intro w hSw; (try dsimp only at hSw); (go_simp <;> with_reducible rfl))
    try simp only [Act.put, List.setIfInBounds_toArray, List.set_cons_zero, List.set_cons_succ]
    refine wpAnyH_take (i := 11) (oi := { dst := some 57, op := Go.Op.fieldAddr 28 (Go.Operand.tmp 9) 1, type := 0, pos := "law.go:79", after := #[{ on := 10, ground := Go.Ground.guard }], guard := some (10, true) }) (v := ?vc12) rfl (by kernel_rfl) (by kernel_rfl) (by kernel_rfl) (fun _ _ _ h => h) (Or.inl ⟨by rfl, ?rc12⟩) (by assumption) ?_
    case rc12 => (intro w hSw; (try dsimp only at hSw); (go_simp <;> with_reducible rfl))
    try simp only [Act.put, List.setIfInBounds_toArray, List.set_cons_zero, List.set_cons_succ]
    refine wpAnyH_take (i := 12) (oi := { dst := some 58, op := Go.Op.load 3 (Go.Operand.tmp 57), type := 3, pos := "law.go:79", after := #[{ on := 11, ground := Go.Ground.data }, { on := 10, ground := Go.Ground.guard }], guard := some (10, true) }) (v := ?vc13) rfl (by kernel_rfl) (by kernel_rfl) (by kernel_rfl) (fun _ _ _ h => h) (Or.inl ⟨by rfl, ?rc13⟩) (by assumption) ?_
    case rc13 => (intro w hSw; (try dsimp only at hSw); (go_simp <;> with_reducible rfl))
    try simp only [Act.put, List.setIfInBounds_toArray, List.set_cons_zero, List.set_cons_succ]
    refine wpAnyH_take (i := 13) (oi := { dst := some 59, op := Go.Op.binOp Go.BinOp.neq 3 (Go.Operand.tmp 58) (Go.Operand.const (Go.Value.int Go.IntKind.i64 0)) 3, type := 4, pos := "law.go:79", after := #[{ on := 12, ground := Go.Ground.data }, { on := 10, ground := Go.Ground.guard }], guard := some (10, true) }) (v := (.bool false)) rfl (by kernel_rfl) (by kernel_rfl) (by kernel_rfl) (fun _ _ _ h => h) (Or.inl ⟨by rfl, ?rc14⟩) (by assumption) ?_
    case rc14 => (intro w hSw; (try dsimp only at hSw); go_simp; try simp [he])
    try simp only [Act.put, List.setIfInBounds_toArray, List.set_cons_zero, List.set_cons_succ]
    refine wpAnyH_take (i := 14) (oi := { dst := some 60, op := Go.Op.move (Go.Operand.tmp 59), type := 4, pos := "law.go:79", after := #[{ on := 13, ground := Go.Ground.data }, { on := 10, ground := Go.Ground.chain }, { on := 10, ground := Go.Ground.guard }], guard := some (10, true) }) (v := ?vc15) rfl (by kernel_rfl) (by kernel_rfl) (by kernel_rfl) (fun _ _ _ h => h) (Or.inl ⟨by rfl, ?rc15⟩) (by assumption) ?_
    case rc15 => (intro w hSw; (try dsimp only at hSw); (go_simp <;> with_reducible rfl))
    try simp only [Act.put, List.setIfInBounds_toArray, List.set_cons_zero, List.set_cons_succ]
    refine wpAnyH_take (i := 15) (oi := { dst := some 61, op := Go.Op.move (Go.Operand.tmp 7), type := 25, pos := "law.go:79", after := #[{ on := 14, ground := Go.Ground.guard }], guard := some (14, false) }) (v := ?vc16) rfl (by kernel_rfl) (by kernel_rfl) (by kernel_rfl) (fun _ _ _ h => h) (Or.inl ⟨by rfl, ?rc16⟩) (by assumption) ?_
    case rc16 => (intro w hSw; (try dsimp only at hSw); (go_simp <;> with_reducible rfl))
    try simp only [Act.put, List.setIfInBounds_toArray, List.set_cons_zero, List.set_cons_succ]
    refine wpAnyH_take (i := 17) (oi := { dst := some 63, op := Go.Op.fieldAddr 28 (Go.Operand.tmp 9) 0, type := 0, pos := "law.go:79", after := #[{ on := 14, ground := Go.Ground.guard }], guard := some (14, false) }) (v := ?vc17) rfl (by kernel_rfl) (by kernel_rfl) (by kernel_rfl) (fun _ _ _ h => h) (Or.inl ⟨by rfl, ?rc17⟩) (by assumption) ?_
    case rc17 => (intro w hSw; (try dsimp only at hSw); (go_simp <;> with_reducible rfl))
    try simp only [Act.put, List.setIfInBounds_toArray, List.set_cons_zero, List.set_cons_succ]
    refine wpAnyH_take (i := 18) (oi := { dst := some 64, op := Go.Op.load 9 (Go.Operand.tmp 63), type := 9, pos := "law.go:79", after := #[{ on := 17, ground := Go.Ground.data }, { on := 14, ground := Go.Ground.guard }], guard := some (14, false) }) (v := ?vc18) rfl (by kernel_rfl) (by kernel_rfl) (by kernel_rfl) (fun _ _ _ h => h) (Or.inl ⟨by rfl, ?rc18⟩) (by assumption) ?_
    case rc18 => (intro w hSw; (try dsimp only at hSw); (go_simp <;> with_reducible rfl))
    try simp only [Act.put, List.setIfInBounds_toArray, List.set_cons_zero, List.set_cons_succ]
    refine wpAnyH_take (i := 19) (oi := { dst := some 65, op := Go.Op.call { callee := Go.Callee.builtin Go.Builtin.len, args := #[Go.Operand.tmp 64], argTypes := #[9] }, type := 3, pos := "law.go:79", after := #[{ on := 18, ground := Go.Ground.data }, { on := 14, ground := Go.Ground.guard }], guard := some (14, false) }) (v := ?vc19) rfl (by kernel_rfl) (by kernel_rfl) (by kernel_rfl) (fun _ _ _ h => h) (Or.inl ⟨by rfl, ?rc19⟩) (by assumption) ?_
    case rc19 => (intro w hSw; (try dsimp only at hSw); (go_simp <;> with_reducible rfl))
    try simp only [Act.put, List.setIfInBounds_toArray, List.set_cons_zero, List.set_cons_succ]
    refine wpAnyH_ready (rs := [16]) (by kernel_rfl) (by simp) ?_
    refine AllReadyH.cons (o := { dst := some 62, op := Go.Op.call { callee := Go.Callee.value (Go.Operand.func 27), args := #[Go.Operand.tmp 61], argTypes := #[25] }, type := 3, pos := "law.go:79", after := #[{ on := 15, ground := Go.Ground.data }, { on := 14, ground := Go.Ground.chain }, { on := 14, ground := Go.Ground.guard }], guard := some (14, false) }) rfl (fun K hK => ?_) AllReadyH.nil
    go_simp
    (go_at_call 27; refine (calls_gr (left_any q2 r2 e2 _ (HRk.out.gr h8.1))).mono ?_; rintro e w32 ⟨rfl, hgN⟩)
    first | refine hK.out _ _ ?sc20 (fun h20 => ?_) | (go_wp2_with fail; refine hK.out _ _ ?sc20 (fun h20 => ?_))
    case sc20 => ((try dsimp only); exact HX13.out _ _ hgN h8)
    clear hK K h8
    try simp only [Act.put, List.setIfInBounds_toArray, List.set_cons_zero, List.set_cons_succ]
    refine wpAnyH_take (i := 20) (oi := { dst := some 66, op := Go.Op.binOp Go.BinOp.eql 3 (Go.Operand.tmp 62) (Go.Operand.tmp 65) 3, type := 4, pos := "law.go:79", after := #[{ on := 16, ground := Go.Ground.data }, { on := 19, ground := Go.Ground.data }, { on := 14, ground := Go.Ground.guard }], guard := some (14, false) }) (v := (.bool true)) rfl (by kernel_rfl) (by kernel_rfl) (by kernel_rfl) (fun _ _ _ h => h) (Or.inl ⟨by rfl, ?rc21⟩) (by assumption) ?_
    case rc21 => (intro w hSw; (try dsimp only at hSw); go_simp; try simp)
    try simp only [Act.put, List.setIfInBounds_toArray, List.set_cons_zero, List.set_cons_succ]
    refine wpAnyH_take (i := 21) (oi := { dst := some 67, op := Go.Op.pick (Go.Operand.tmp 60) (Go.Operand.const (Go.Value.bool true)) (Go.Operand.tmp 66), type := 4, pos := "law.go:79", after := #[{ on := 14, ground := Go.Ground.data }, { on := 20, ground := Go.Ground.data }, { on := 10, ground := Go.Ground.guard }], guard := some (10, true) }) (v := ?vc22) rfl (by kernel_rfl) (by kernel_rfl) (by kernel_rfl) (fun _ _ _ h => h) (Or.inl ⟨by rfl, ?rc22⟩) (by assumption) ?_
    case rc22 => (intro w hSw; (try dsimp only at hSw); (go_simp <;> with_reducible rfl))
    try simp only [Act.put, List.setIfInBounds_toArray, List.set_cons_zero, List.set_cons_succ]
    refine wpAnyH_take (i := 22) (oi := { dst := some 68, op := Go.Op.pick (Go.Operand.tmp 56) (Go.Operand.tmp 67) (Go.Operand.const (Go.Value.bool false)), type := 4, pos := "law.go:79", after := #[{ on := 10, ground := Go.Ground.data }, { on := 21, ground := Go.Ground.data }], guard := none }) (v := ?vc23) rfl (by kernel_rfl) (by kernel_rfl) (by kernel_rfl) (fun _ _ _ h => h) (Or.inl ⟨by rfl, ?rc23⟩) (by assumption) ?_
    case rc23 => (intro w hSw; (try dsimp only at hSw); (go_simp <;> with_reducible rfl))
    try simp only [Act.put, List.setIfInBounds_toArray, List.set_cons_zero, List.set_cons_succ]
    refine wpAnyH_take (i := 23) (oi := { dst := some 4, op := Go.Op.assign (Go.Operand.tmp 68), type := 4, pos := "law.go:79", after := #[{ on := 22, ground := Go.Ground.data }, { on := 16, ground := Go.Ground.chain }, { on := 0, ground := Go.Ground.phase }, { on := 1, ground := Go.Ground.phase }, { on := 2, ground := Go.Ground.phase }, { on := 3, ground := Go.Ground.phase }, { on := 4, ground := Go.Ground.phase }, { on := 5, ground := Go.Ground.phase }, { on := 6, ground := Go.Ground.phase }, { on := 7, ground := Go.Ground.phase }, { on := 8, ground := Go.Ground.phase }, { on := 9, ground := Go.Ground.phase }, { on := 10, ground := Go.Ground.phase }, { on := 11, ground := Go.Ground.phase }, { on := 12, ground := Go.Ground.phase }, { on := 13, ground := Go.Ground.phase }, { on := 14, ground := Go.Ground.phase }, { on := 15, ground := Go.Ground.phase }, { on := 16, ground := Go.Ground.phase }, { on := 17, ground := Go.Ground.phase }, { on := 18, ground := Go.Ground.phase }, { on := 19, ground := Go.Ground.phase }, { on := 20, ground := Go.Ground.phase }, { on := 21, ground := Go.Ground.phase }, { on := 22, ground := Go.Ground.phase }], guard := none }) (v := ?vc24) rfl (by kernel_rfl) (by kernel_rfl) (by kernel_rfl) (fun _ _ _ h => h) (Or.inl ⟨by rfl, ?rc24⟩) (by assumption) ?_
    case rc24 => (intro w hSw; (try dsimp only at hSw); (go_simp <;> with_reducible rfl))
    try simp only [Act.put, List.setIfInBounds_toArray, List.set_cons_zero, List.set_cons_succ]
    refine wpAnyH_done (by kernel_rfl) ?_ _
    have G9 := Lib.hid (h20).1
    clear h20
    go_wp2
    go_ret
    exact ⟨by first | rfl | (simp; done), HGk.out.trans G9.out⟩
  · have he' : (((e2 : Nat) : Int) != 0) = true := by simp [he]
    refine wp_region_held_drew (S := (fun w9 => Gr wk w9 ∧ w9.cell? ⟨x8, 0, none⟩ = some (.int .u64 (c2 : Nat)) ∧ w9.cell? ⟨x8, 1, none⟩ = some (.int .i64 (n2 : Nat)) ∧ w9.cell? ⟨x9, 0, none⟩ = some (.string r2) ∧ w9.cell? ⟨x9, 1, none⟩ = some (.int .i64 (e2 : Nat)) ∧ w9.cell? ⟨x10, 0, none⟩ = some (.int .u64 (c2 : Nat)) ∧ w9.cell? ⟨x10, 1, none⟩ = some (.int .i64 (n2 : Nat)))) (by kernel_rfl) ?invd (fun h0 => ?_)
    case invd => ((try dsimp only); (first | exact HS13 | exact HX13.out _ _ ((Gr.refl _).drew) HS13))
    refine wpAnyH_take (i := 0) (oi := { dst := some 46, op := Go.Op.load 69 (Go.Operand.tmp 8), type := 69, pos := "law.go:79", after := #[], guard := none }) (v := ?vd1) rfl (by kernel_rfl) (by kernel_rfl) (by kernel_rfl) (fun _ _ _ h => h) (Or.inl ⟨by rfl, ?rd1⟩) (by assumption) ?_
    case rd1 => (intro w hSw; (try dsimp only at hSw); (go_simp <;> with_reducible rfl))
    try simp only [Act.put, List.setIfInBounds_toArray, List.set_cons_zero, List.set_cons_succ]
    refine wpAnyH_take (i := 1) (oi := { dst := some 47, op := Go.Op.load 67 (Go.Operand.tmp 10), type := 67, pos := "law.go:79", after := #[], guard := none }) (v := ?vd2) rfl (by kernel_rfl) (by kernel_rfl) (by kernel_rfl) (fun _ _ _ h => h) (Or.inl ⟨by rfl, ?rd2⟩) (by assumption) ?_
    case rd2 => (intro w hSw; (try dsimp only at hSw); (go_simp <;> with_reducible rfl))
    try simp only [Act.put, List.setIfInBounds_toArray, List.set_cons_zero, List.set_cons_succ]
    refine wpAnyH_take (i := 2) (oi := { dst := some 48, op := Go.Op.binOp Go.BinOp.eql 69 (Go.Operand.tmp 46) (Go.Operand.tmp 47) 69, type := 4, pos := "law.go:79", after := #[{ on := 0, ground := Go.Ground.data }, { on := 1, ground := Go.Ground.data }], guard := none }) (v := (.bool true)) rfl (by kernel_rfl) (by kernel_rfl) (by kernel_rfl) (fun _ _ _ h => h) (Or.inl ⟨by rfl, ?rd3⟩) (by assumption) ?_
    case rd3 => (intro w hSw; (try dsimp only at hSw); go_simp; try simp)
    try simp only [Act.put, List.setIfInBounds_toArray, List.set_cons_zero, List.set_cons_succ]
    refine wpAnyH_take (i := 3) (oi := { dst := some 49, op := Go.Op.move (Go.Operand.tmp 48), type := 4, pos := "law.go:79", after := #[{ on := 2, ground := Go.Ground.data }], guard := none }) (v := ?vd4) rfl (by kernel_rfl) (by kernel_rfl) (by kernel_rfl) (fun _ _ _ h => h) (Or.inl ⟨by rfl, ?rd4⟩) (by assumption) ?_
    case rd4 => (intro w hSw; (try dsimp only at hSw); (go_simp <;> with_reducible rfl))
    try simp only [Act.put, List.setIfInBounds_toArray, List.set_cons_zero, List.set_cons_succ]
    refine wpAnyH_take (i := 4) (oi := { dst := some 50, op := Go.Op.move (Go.Operand.tmp 7), type := 25, pos := "law.go:79", after := #[{ on := 3, ground := Go.Ground.guard }], guard := some (3, true) }) (v := ?vd5) rfl (by kernel_rfl) (by kernel_rfl) (by kernel_rfl) (fun _ _ _ h => h) (Or.inl ⟨by rfl, ?rd5⟩) (by assumption) ?_
    case rd5 => (intro w hSw; (try dsimp only at hSw); (go_simp <;> with_reducible rfl))
    try simp only [Act.put, List.setIfInBounds_toArray, List.set_cons_zero, List.set_cons_succ]
    refine wpAnyH_take (i := 6) (oi := { dst := some 52, op := Go.Op.fieldAddr 28 (Go.Operand.tmp 9) 1, type := 0, pos := "law.go:79", after := #[{ on := 3, ground := Go.Ground.guard }], guard := some (3, true) }) (v := ?vd6) rfl (by kernel_rfl) (by kernel_rfl) (by kernel_rfl) (fun _ _ _ h => h) (Or.inl ⟨by rfl, ?rd6⟩) (by assumption) ?_
    case rd6 => (intro w hSw; (try dsimp only at hSw); (go_simp <;> with_reducible rfl))
    try simp only [Act.put, List.setIfInBounds_toArray, List.set_cons_zero, List.set_cons_succ]
    refine wpAnyH_take (i := 7) (oi := { dst := some 53, op := Go.Op.load 3 (Go.Operand.tmp 52), type := 3, pos := "law.go:79", after := #[{ on := 6, ground := Go.Ground.data }, { on := 3, ground := Go.Ground.guard }], guard := some (3, true) }) (v := ?vd7) rfl (by kernel_rfl) (by kernel_rfl) (by kernel_rfl) (fun _ _ _ h => h) (Or.inl ⟨by rfl, ?rd7⟩) (by assumption) ?_
    case rd7 => (intro w hSw; (try dsimp only at hSw); (go_simp <;> with_reducible rfl))
    try simp only [Act.put, List.setIfInBounds_toArray, List.set_cons_zero, List.set_cons_succ]
    refine wpAnyH_ready (rs := [5]) (by kernel_rfl) (by simp) ?_
    refine AllReadyH.cons (o := { dst := some 51, op := Go.Op.call { callee := Go.Callee.value (Go.Operand.func 26), args := #[Go.Operand.tmp 50], argTypes := #[25] }, type := 44, pos := "law.go:79", after := #[{ on := 4, ground := Go.Ground.data }, { on := 3, ground := Go.Ground.chain }, { on := 3, ground := Go.Ground.guard }], guard := some (3, true) }) rfl (fun K hK => ?_) AllReadyH.nil
    go_simp
    (go_at_call 26; refine (calls_gr (err_any q2 r2 e2 _ (HRk.out.gr h0.1))).mono ?_; rintro e w31 ⟨rfl, hgN⟩)
    first | refine hK.out _ _ ?sd8 (fun h8 => ?_) | (go_wp2_with fail; refine hK.out _ _ ?sd8 (fun h8 => ?_))
    case sd8 => ((try dsimp only); exact HX13.out _ _ hgN h0)
    clear hK K h0
    try simp only [Act.put, List.setIfInBounds_toArray, List.set_cons_zero, List.set_cons_succ]
    refine wpAnyH_take (i := 8) (oi := { dst := some 54, op := Go.Op.binOp Go.BinOp.eql 3 (Go.Operand.tmp 51) (Go.Operand.tmp 53) 3, type := 4, pos := "law.go:79", after := #[{ on := 5, ground := Go.Ground.data }, { on := 7, ground := Go.Ground.data }, { on := 3, ground := Go.Ground.guard }], guard := some (3, true) }) (v := (.bool true)) rfl (by kernel_rfl) (by kernel_rfl) (by kernel_rfl) (fun _ _ _ h => h) (Or.inl ⟨by rfl, ?rd9⟩) (by assumption) ?_
    case rd9 => (intro w hSw; (try dsimp only at hSw); go_simp; try simp)
    try simp only [Act.put, List.setIfInBounds_toArray, List.set_cons_zero, List.set_cons_succ]
    refine wpAnyH_take (i := 9) (oi := { dst := some 55, op := Go.Op.pick (Go.Operand.tmp 49) (Go.Operand.tmp 54) (Go.Operand.const (Go.Value.bool false)), type := 4, pos := "law.go:79", after := #[{ on := 3, ground := Go.Ground.data }, { on := 8, ground := Go.Ground.data }], guard := none }) (v := ?vd10) rfl (by kernel_rfl) (by kernel_rfl) (by kernel_rfl) (fun _ _ _ h => h) (Or.inl ⟨by rfl, ?rd10⟩) (by assumption) ?_
    case rd10 => (intro w hSw; (try dsimp only at hSw); (go_simp <;> with_reducible rfl))
    try simp only [Act.put, List.setIfInBounds_toArray, List.set_cons_zero, List.set_cons_succ]
    refine wpAnyH_take (i := 10) (oi := { dst := some 56, op := Go.Op.move (Go.Operand.tmp 55), type := 4, pos := "law.go:79", after := #[{ on := 9, ground := Go.Ground.data }, { on := 5, ground := Go.Ground.chain }], guard := none }) (v := ?vd11) rfl (by kernel_rfl) (by kernel_rfl) (by kernel_rfl) (fun _ _ _ h => h) (Or.inl ⟨by rfl, ?rd11⟩) (by assumption) ?_
    case rd11 => (intro w hSw; (try dsimp only at hSw); (go_simp <;> with_reducible rfl))
    try simp only [Act.put, List.setIfInBounds_toArray, List.set_cons_zero, List.set_cons_succ]
    refine wpAnyH_take (i := 11) (oi := { dst := some 57, op := Go.Op.fieldAddr 28 (Go.Operand.tmp 9) 1, type := 0, pos := "law.go:79", after := #[{ on := 10, ground := Go.Ground.guard }], guard := some (10, true) }) (v := ?vd12) rfl (by kernel_rfl) (by kernel_rfl) (by kernel_rfl) (fun _ _ _ h => h) (Or.inl ⟨by rfl, ?rd12⟩) (by assumption) ?_
    case rd12 => (intro w hSw; (try dsimp only at hSw); (go_simp <;> with_reducible rfl))
    try simp only [Act.put, List.setIfInBounds_toArray, List.set_cons_zero, List.set_cons_succ]
    refine wpAnyH_take (i := 12) (oi := { dst := some 58, op := Go.Op.load 3 (Go.Operand.tmp 57), type := 3, pos := "law.go:79", after := #[{ on := 11, ground := Go.Ground.data }, { on := 10, ground := Go.Ground.guard }], guard := some (10, true) }) (v := ?vd13) rfl (by kernel_rfl) (by kernel_rfl) (by kernel_rfl) (fun _ _ _ h => h) (Or.inl ⟨by rfl, ?rd13⟩) (by assumption) ?_
    case rd13 => (intro w hSw; (try dsimp only at hSw); (go_simp <;> with_reducible rfl))
    try simp only [Act.put, List.setIfInBounds_toArray, List.set_cons_zero, List.set_cons_succ]
    refine wpAnyH_take (i := 13) (oi := { dst := some 59, op := Go.Op.binOp Go.BinOp.neq 3 (Go.Operand.tmp 58) (Go.Operand.const (Go.Value.int Go.IntKind.i64 0)) 3, type := 4, pos := "law.go:79", after := #[{ on := 12, ground := Go.Ground.data }, { on := 10, ground := Go.Ground.guard }], guard := some (10, true) }) (v := (.bool true)) rfl (by kernel_rfl) (by kernel_rfl) (by kernel_rfl) (fun _ _ _ h => h) (Or.inl ⟨by rfl, ?rd14⟩) (by assumption) ?_
    case rd14 => (intro w hSw; (try dsimp only at hSw); go_simp; try simp [he])
    try simp only [Act.put, List.setIfInBounds_toArray, List.set_cons_zero, List.set_cons_succ]
    refine wpAnyH_take (i := 14) (oi := { dst := some 60, op := Go.Op.move (Go.Operand.tmp 59), type := 4, pos := "law.go:79", after := #[{ on := 13, ground := Go.Ground.data }, { on := 10, ground := Go.Ground.chain }, { on := 10, ground := Go.Ground.guard }], guard := some (10, true) }) (v := ?vd15) rfl (by kernel_rfl) (by kernel_rfl) (by kernel_rfl) (fun _ _ _ h => h) (Or.inl ⟨by rfl, ?rd15⟩) (by assumption) ?_
    case rd15 => (intro w hSw; (try dsimp only at hSw); (go_simp <;> with_reducible rfl))
    try simp only [Act.put, List.setIfInBounds_toArray, List.set_cons_zero, List.set_cons_succ]
    refine wpAnyH_take (i := 15) (oi := { dst := some 61, op := Go.Op.move (Go.Operand.tmp 7), type := 25, pos := "law.go:79", after := #[{ on := 14, ground := Go.Ground.guard }], guard := some (14, false) }) (v := undef) rfl (by kernel_rfl) (by kernel_rfl) (by kernel_rfl) (fun _ _ _ h => h) (Or.inr ⟨by rfl, rfl⟩) (by assumption) ?_
    try simp only [Act.put, List.setIfInBounds_toArray, List.set_cons_zero, List.set_cons_succ]
    refine wpAnyH_take (i := 16) (oi := { dst := some 62, op := Go.Op.call { callee := Go.Callee.value (Go.Operand.func 27), args := #[Go.Operand.tmp 61], argTypes := #[25] }, type := 3, pos := "law.go:79", after := #[{ on := 15, ground := Go.Ground.data }, { on := 14, ground := Go.Ground.chain }, { on := 14, ground := Go.Ground.guard }], guard := some (14, false) }) (v := undef) rfl (by kernel_rfl) (by kernel_rfl) (by kernel_rfl) (fun _ _ _ h => h) (Or.inr ⟨by rfl, rfl⟩) (by assumption) ?_
    try simp only [Act.put, List.setIfInBounds_toArray, List.set_cons_zero, List.set_cons_succ]
    refine wpAnyH_take (i := 17) (oi := { dst := some 63, op := Go.Op.fieldAddr 28 (Go.Operand.tmp 9) 0, type := 0, pos := "law.go:79", after := #[{ on := 14, ground := Go.Ground.guard }], guard := some (14, false) }) (v := undef) rfl (by kernel_rfl) (by kernel_rfl) (by kernel_rfl) (fun _ _ _ h => h) (Or.inr ⟨by rfl, rfl⟩) (by assumption) ?_
    try simp only [Act.put, List.setIfInBounds_toArray, List.set_cons_zero, List.set_cons_succ]
    refine wpAnyH_take (i := 18) (oi := { dst := some 64, op := Go.Op.load 9 (Go.Operand.tmp 63), type := 9, pos := "law.go:79", after := #[{ on := 17, ground := Go.Ground.data }, { on := 14, ground := Go.Ground.guard }], guard := some (14, false) }) (v := undef) rfl (by kernel_rfl) (by kernel_rfl) (by kernel_rfl) (fun _ _ _ h => h) (Or.inr ⟨by rfl, rfl⟩) (by assumption) ?_
    try simp only [Act.put, List.setIfInBounds_toArray, List.set_cons_zero, List.set_cons_succ]
    refine wpAnyH_take (i := 19) (oi := { dst := some 65, op := Go.Op.call { callee := Go.Callee.builtin Go.Builtin.len, args := #[Go.Operand.tmp 64], argTypes := #[9] }, type := 3, pos := "law.go:79", after := #[{ on := 18, ground := Go.Ground.data }, { on := 14, ground := Go.Ground.guard }], guard := some (14, false) }) (v := undef) rfl (by kernel_rfl) (by kernel_rfl) (by kernel_rfl) (fun _ _ _ h => h) (Or.inr ⟨by rfl, rfl⟩) (by assumption) ?_
    try simp only [Act.put, List.setIfInBounds_toArray, List.set_cons_zero, List.set_cons_succ]
    refine wpAnyH_take (i := 20) (oi := { dst := some 66, op := Go.Op.binOp Go.BinOp.eql 3 (Go.Operand.tmp 62) (Go.Operand.tmp 65) 3, type := 4, pos := "law.go:79", after := #[{ on := 16, ground := Go.Ground.data }, { on := 19, ground := Go.Ground.data }, { on := 14, ground := Go.Ground.guard }], guard := some (14, false) }) (v := undef) rfl (by kernel_rfl) (by kernel_rfl) (by kernel_rfl) (fun _ _ _ h => h) (Or.inr ⟨by rfl, rfl⟩) (by assumption) ?_
    try simp only [Act.put, List.setIfInBounds_toArray, List.set_cons_zero, List.set_cons_succ]
    refine wpAnyH_take (i := 21) (oi := { dst := some 67, op := Go.Op.pick (Go.Operand.tmp 60) (Go.Operand.const (Go.Value.bool true)) (Go.Operand.tmp 66), type := 4, pos := "law.go:79", after := #[{ on := 14, ground := Go.Ground.data }, { on := 20, ground := Go.Ground.data }, { on := 10, ground := Go.Ground.guard }], guard := some (10, true) }) (v := ?vd16) rfl (by kernel_rfl) (by kernel_rfl) (by kernel_rfl) (fun _ _ _ h => h) (Or.inl ⟨by rfl, ?rd16⟩) (by assumption) ?_
    case rd16 => (intro w hSw; (try dsimp only at hSw); (go_simp <;> with_reducible rfl))
    try simp only [Act.put, List.setIfInBounds_toArray, List.set_cons_zero, List.set_cons_succ]
    refine wpAnyH_take (i := 22) (oi := { dst := some 68, op := Go.Op.pick (Go.Operand.tmp 56) (Go.Operand.tmp 67) (Go.Operand.const (Go.Value.bool false)), type := 4, pos := "law.go:79", after := #[{ on := 10, ground := Go.Ground.data }, { on := 21, ground := Go.Ground.data }], guard := none }) (v := ?vd17) rfl (by kernel_rfl) (by kernel_rfl) (by kernel_rfl) (fun _ _ _ h => h) (Or.inl ⟨by rfl, ?rd17⟩) (by assumption) ?_
    case rd17 => (intro w hSw; (try dsimp only at hSw); (go_simp <;> with_reducible rfl))
    try simp only [Act.put, List.setIfInBounds_toArray, List.set_cons_zero, List.set_cons_succ]
    refine wpAnyH_take (i := 23) (oi := { dst := some 4, op := Go.Op.assign (Go.Operand.tmp 68), type := 4, pos := "law.go:79", after := #[{ on := 22, ground := Go.Ground.data }, { on := 16, ground := Go.Ground.chain }, { on := 0, ground := Go.Ground.phase }, { on := 1, ground := Go.Ground.phase }, { on := 2, ground := Go.Ground.phase }, { on := 3, ground := Go.Ground.phase }, { on := 4, ground := Go.Ground.phase }, { on := 5, ground := Go.Ground.phase }, { on := 6, ground := Go.Ground.phase }, { on := 7, ground := Go.Ground.phase }, { on := 8, ground := Go.Ground.phase }, { on := 9, ground := Go.Ground.phase }, { on := 10, ground := Go.Ground.phase }, { on := 11, ground := Go.Ground.phase }, { on := 12, ground := Go.Ground.phase }, { on := 13, ground := Go.Ground.phase }, { on := 14, ground := Go.Ground.phase }, { on := 15, ground := Go.Ground.phase }, { on := 16, ground := Go.Ground.phase }, { on := 17, ground := Go.Ground.phase }, { on := 18, ground := Go.Ground.phase }, { on := 19, ground := Go.Ground.phase }, { on := 20, ground := Go.Ground.phase }, { on := 21, ground := Go.Ground.phase }, { on := 22, ground := Go.Ground.phase }], guard := none }) (v := ?vd18) rfl (by kernel_rfl) (by kernel_rfl) (by kernel_rfl) (fun _ _ _ h => h) (Or.inl ⟨by rfl, ?rd18⟩) (by assumption) ?_
    case rd18 => (intro w hSw; (try dsimp only at hSw); (go_simp <;> with_reducible rfl))
    try simp only [Act.put, List.setIfInBounds_toArray, List.set_cons_zero, List.set_cons_succ]
    refine wpAnyH_done (by kernel_rfl) ?_ _
    have G9 := Lib.hid (h8).1
    clear h8
    go_wp2
    go_ret
    exact ⟨by first | rfl | (simp; done), HGk.out.trans G9.out⟩
end Go.Proofs.Ytkfkedpldndgiaa
