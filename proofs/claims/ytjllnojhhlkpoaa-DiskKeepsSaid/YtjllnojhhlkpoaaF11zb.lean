import Derived.Test.YtjllnojhhlkpoaaF11za
import Derived.Test.YtjllnojhhlkpoaaC17
import Derived.WalkKit
import Derived.ProofKit
import Derived.LoopTactic
import Derived.Outline
import Derived.WalkSpells
import Derived.WalkLawsBesides
import Derived.Lib.Hide
import Derived.Deep.LoopGhost
import Derived.Deep.QuietTactic
import Derived.BigQuiet
import Derived.ShutString
import Derived.IntWalk
import Derived.Lib.MinMax
import Derived.BigQuiet
import Derived.Deep.RegionWith
import Derived.Deep.RegionHeld3
namespace Go.Proofs.Ytjllnojhhlkpoaa
open Go.ChangeShapes Go.WideShapes Go.ChangeAt Go.RowKit
open Dk
set_option linter.unusedVariables false
set_option linter.unusedSimpArgs false
set_option maxRecDepth 100000 in
set_option maxHeartbeats 4000000 in
theorem lawDo_spoil_yes {b : Nat} {d : D} (k m : Nat) (S : ByteArray) (a : Option Addr) (n c : Nat) (v : Value) (w : World) (h : DkIs w b d) (hr : RkIs w v d) (hab : rowOf v ≠ b) (hS : S.size ≤ 9223372036854775807) (hk : k < 4) (hne : (d.fs k).now = (d.fs k).sure) (hm : m < (d.fs k).now.size) :
    Calls Try.prog 14 #[.pointer (some ⟨b, 0, none⟩), v, .agg #[.int .i64 5, .int .i64 (k : Nat), .int .i64 (m : Nat), .string S, .slice a n c]] w (LDo b (spoil d k m (UInt8.ofNat (cutB S 60).size)) v w) := by
  have hcan : can d k m = true := decide_eq_true ⟨by omega, by omega, hne, by omega, by show (m : Int) < _; have : d.fs (k : Int).toNat = d.fs k := rfl; rw [this]; omega⟩
  have HSP := Lib.hid (fun (w : World) (h : DkIs w b d) => spoil_any (k : Nat) (m : Nat) (cutB S 60).size (by have := cutB_le S 60; omega) w h)
  unfold SpoilIs at HSP
  rw [hcan, spoil_eq _ hk hne hm] at HSP
  rw [spoil_eq _ hk hne hm]
  clear hcan
  have hsw : IntKind.u8.wrap ((cutB S 60).size : Int) = ((cutB S 60).size : Int) := IntWalk.u8_in _ (by have := cutB_le S 60; omega)
  have hk4 : (k : Int) < 4 := by omega
  have hnb := ok_now h.ok k hk
  have HWT := Lib.hid (fun (z : ByteArray) (v : Value) (w : World) (h : RkIs w v d) => refWith_any k hk ⟨z, z, false⟩ d v w h)
  obtain ⟨V, hV⟩ : ∃ V : Nat, (((d.fs k).now.data[m]'hm) ^^^ UInt8.ofNat (cutB S 60).size).toNat = V := ⟨_, rfl⟩
  have HV := Lib.hid hV
  have HXR := Lib.hid (show bits .xor .u8 (((d.fs k).now.data[m]'hm).toNat : Int) ((cutB S 60).size : Int) = (V : Int) by rw [← hV, xor_u8 _ _ ((d.fs k).now.data[m]'hm).toNat_lt (by have := cutB_le S 60; omega)]; simp)
  clear hV
  generalize hnw : (d.fs k).now = nw at *
  generalize hsu : (d.fs k).sure = su at *
  have HNW := Lib.hid hnw
  have HSU0 := Lib.hid hsu
  clear hnw hsu
  subst hne
  have hm4 : (m : Int) < nw.size := by omega
  have hconv := fun w : World => run_bytes_of_string (P := Try.prog) w 9 48 5 nw Try.underlying9 Try.underlying48 Try.underlying5
  have HCV := Lib.hid hconv
  clear hconv
  obtain ⟨gb, off, cap, rfl, ha⟩ := hr
  have hgb : gb ≠ b := hab
  have HD := Lib.hid h
  have HA := Lib.hid ha
  have hbl := cell_lt h.room
  have CU := Lib.hid (fun w => cut_any S 60 w hS (by decide))
  have hcs := cutB_le S 60
  generalize cutB S 60 = s at *
  generalize hx0 : UInt8.ofNat s.size = x at *
  have HX0 := Lib.hid hx0
  clear hx0
  have HRK : Hid (∀ W, Gr w W → RkIs W (.agg #[.slice (some ⟨gb, off, none⟩) 4 cap, .int .i64 (d.room : Nat), .int .i64 ((d.fail : Nat) - 1)]) d) := Lib.hid fun W hW => ⟨gb, off, cap, rfl, HA.out.gr hW⟩
  generalize hr : ((d.room : Nat) : Int) = R at *
  generalize hf : ((d.fail : Nat) : Int) - 1 = fv at *
  have HR := Lib.hid hr
  have HF := Lib.hid hf
  have HNE : Hid (w.heap.size ≠ b ∧ w.heap.size + 1 ≠ b ∧ w.heap.size + 1 + 1 ≠ b) := Lib.hid ⟨by omega, by omega, by omega⟩
  obtain ⟨t4, t5, t6, tg⟩ := three w #[.slice (some ⟨gb, off, none⟩) 4 cap, .int .i64 R, .int .i64 fv] #[.int .i64 5, .int .i64 (k : Nat), .int .i64 (m : Nat), .string s, .slice a n c] #[.slice none 0 0, .int .i64 0, .int .i64 0] 28 34 28
  have HB4 := Lib.hid t4
  have HB5 := Lib.hid t5
  have HB6 := Lib.hid t6
  have HG := Lib.hid tg
  clear h ha hr hf t4 t5 t6 tg hbl
  obtain ⟨DD, hDD⟩ : ∃ DD, putF d k ⟨Dk.flip nw m x, Dk.flip nw m x, false⟩ = DD := ⟨_, rfl⟩
  rw [hDD] at HSP ⊢
  have HDD := Lib.hid hDD
  clear hDD
  go_enter Try.func14, Try.ntmps14
  go_wp2_with fail
  refine (CU.out _).mono ?_
  rintro e w1 ⟨rfl, rfl⟩
  go_wp2_with fail
  generalize ((w.alloc (.cells #[.slice (some ⟨gb, off, none⟩) 4 cap, .int .i64 R, .int .i64 fv] 28)).alloc (.cells #[.int .i64 5, .int .i64 (k : Nat), .int .i64 (m : Nat), .string s, .slice a n c] 34)).alloc (.cells #[.slice none 0 0, .int .i64 0, .int .i64 0] 28) = w2 at *
  refine (HSP.out _ (HD.out.gr HG.out)).mono ?_
  rintro e w3 ⟨rfl, hd3, hs3⟩
  have HD3 := Lib.hid hd3
  have HS3 := Lib.hid ((Sole.of_gr (p := b) HG.out).trans hs3)
  have HB43 := Lib.hid (HB4.out.sole hs3 HNE.out.1)
  have HB53 := Lib.hid (HB5.out.sole hs3 HNE.out.2.1)
  have HB63 := Lib.hid (HB6.out.sole hs3 HNE.out.2.2)
  have HA3 := Lib.hid ((HA.out.gr HG.out).sole hs3 (by have := cell_lt (HA.out 0 (by decide)).1; exact hgb))
  clear hd3 hs3
  have d0 : w3.cell? ⟨w.heap.size, 0, none⟩ = some (.slice (some ⟨gb, off, none⟩) 4 cap) := HB43.out.cell rfl
  have d1 : w3.cell? ⟨w.heap.size, 1, none⟩ = some (.int .i64 R) := HB43.out.cell rfl
  have d2 : w3.cell? ⟨w.heap.size, 2, none⟩ = some (.int .i64 fv) := HB43.out.cell rfl
  have a1 : w3.cell? ⟨w.heap.size + 1, 1, none⟩ = some (.int .i64 (k : Nat)) := HB53.out.cell rfl
  have a2 : w3.cell? ⟨w.heap.size + 1, 2, none⟩ = some (.int .i64 (m : Nat)) := HB53.out.cell rfl
  have a3 : w3.cell? ⟨w.heap.size + 1, 3, none⟩ = some (.string s) := HB53.out.cell rfl
  have a4 : w3.cell? ⟨w.heap.size + 1, 4, none⟩ = some (.slice a n c) := HB53.out.cell rfl
  have q0 := (HA3.out k hk).1
  have q1 := (HA3.out k hk).2.1
  rw [HNW.out] at q0
  rw [HSU0.out] at q1
  have HX : Hid (∀ w0 w9 : World, Gr w0 w9 → (fun w9 => Gr w3 w9 ∧ w9.cell? ⟨w.heap.size, 0, none⟩ = some (.slice (some ⟨gb, off, none⟩) 4 cap) ∧ w9.cell? ⟨w.heap.size + 1, 1, none⟩ = some (.int .i64 (k : Nat)) ∧ w9.cell? ⟨w.heap.size + 1, 2, none⟩ = some (.int .i64 (m : Nat)) ∧ w9.cell? ⟨w.heap.size + 1, 3, none⟩ = some (.string s) ∧ w9.cell? ⟨gb, off + k * 3, none⟩ = some (.string nw) ∧ w9.cell? ⟨gb, off + k * 3 + 1, none⟩ = some (.string nw)) w0 → (fun w9 => Gr w3 w9 ∧ w9.cell? ⟨w.heap.size, 0, none⟩ = some (.slice (some ⟨gb, off, none⟩) 4 cap) ∧ w9.cell? ⟨w.heap.size + 1, 1, none⟩ = some (.int .i64 (k : Nat)) ∧ w9.cell? ⟨w.heap.size + 1, 2, none⟩ = some (.int .i64 (m : Nat)) ∧ w9.cell? ⟨w.heap.size + 1, 3, none⟩ = some (.string s) ∧ w9.cell? ⟨gb, off + k * 3, none⟩ = some (.string nw) ∧ w9.cell? ⟨gb, off + k * 3 + 1, none⟩ = some (.string nw)) w9) := Lib.hid fun w0 w9 hg ⟨h, q0, q1, q2, q3, q4, q5⟩ => ⟨h.trans hg, hg.cell q0, hg.cell q1, hg.cell q2, hg.cell q3, hg.cell q4, hg.cell q5⟩
  have HS0 : (fun w9 => Gr w3 w9 ∧ w9.cell? ⟨w.heap.size, 0, none⟩ = some (.slice (some ⟨gb, off, none⟩) 4 cap) ∧ w9.cell? ⟨w.heap.size + 1, 1, none⟩ = some (.int .i64 (k : Nat)) ∧ w9.cell? ⟨w.heap.size + 1, 2, none⟩ = some (.int .i64 (m : Nat)) ∧ w9.cell? ⟨w.heap.size + 1, 3, none⟩ = some (.string s) ∧ w9.cell? ⟨gb, off + k * 3, none⟩ = some (.string nw) ∧ w9.cell? ⟨gb, off + k * 3 + 1, none⟩ = some (.string nw)) w3 := And.intro (Gr.refl _) (And.intro (HB43.out.cell rfl) (And.intro (HB53.out.cell rfl) (And.intro (HB53.out.cell rfl) (And.intro (HB53.out.cell rfl) (And.intro (q0) (q1))))))
  clear d0 d1 d2 a1 a2 a3 a4 q0 q1
  go_wp2_with fail
  refine wp_region_held_drew (S := (fun w9 => Gr w3 w9 ∧ w9.cell? ⟨w.heap.size, 0, none⟩ = some (.slice (some ⟨gb, off, none⟩) 4 cap) ∧ w9.cell? ⟨w.heap.size + 1, 1, none⟩ = some (.int .i64 (k : Nat)) ∧ w9.cell? ⟨w.heap.size + 1, 2, none⟩ = some (.int .i64 (m : Nat)) ∧ w9.cell? ⟨w.heap.size + 1, 3, none⟩ = some (.string s) ∧ w9.cell? ⟨gb, off + k * 3, none⟩ = some (.string nw) ∧ w9.cell? ⟨gb, off + k * 3 + 1, none⟩ = some (.string nw))) (by kernel_rfl) ?inva (fun h0 => ?_)
  case inva => ((try dsimp only); (first | exact HS0 | exact HX.out _ _ ((Gr.refl _).drew) HS0))
  refine wpAnyH_take (i := 0) (oi := { dst := some 107, op := Go.Op.fieldAddr 34 (Go.Operand.tmp 5) 1, type := 0, pos := "law.go:54", after := #[], guard := none }) (v := ?va1) rfl (by kernel_rfl) (by kernel_rfl) (by kernel_rfl) (fun _ _ _ h => h) (Or.inl ⟨by rfl, ?ra1⟩) (by assumption) ?_
  case ra1 => (intro w hSw; (try dsimp only at hSw); (go_simp <;> with_reducible rfl))
  try simp only [Act.put, List.setIfInBounds_toArray, List.set_cons_zero, List.set_cons_succ]
  refine wpAnyH_take (i := 1) (oi := { dst := some 108, op := Go.Op.load 3 (Go.Operand.tmp 107), type := 3, pos := "law.go:54", after := #[{ on := 0, ground := Go.Ground.data }], guard := none }) (v := ?va2) rfl (by kernel_rfl) (by kernel_rfl) (by kernel_rfl) (fun _ _ _ h => h) (Or.inl ⟨by rfl, ?ra2⟩) (by assumption) ?_
  case ra2 => (intro w hSw; (try dsimp only at hSw); (go_simp <;> with_reducible rfl))
  try simp only [Act.put, List.setIfInBounds_toArray, List.set_cons_zero, List.set_cons_succ]
  refine wpAnyH_take (i := 2) (oi := { dst := some 109, op := Go.Op.binOp Go.BinOp.geq 3 (Go.Operand.tmp 108) (Go.Operand.const (Go.Value.int Go.IntKind.i64 0)) 3, type := 4, pos := "law.go:54", after := #[{ on := 1, ground := Go.Ground.data }], guard := none }) (v := (.bool true)) rfl (by kernel_rfl) (by kernel_rfl) (by kernel_rfl) (fun _ _ _ h => h) (Or.inl ⟨by rfl, ?ra3⟩) (by assumption) ?_
  case ra3 => (intro w hSw; (try dsimp only at hSw); go_simp; all_goals first | rfl | (simp; omega) | (simp; done) | omega)
  try simp only [Act.put, List.setIfInBounds_toArray, List.set_cons_zero, List.set_cons_succ]
  refine wpAnyH_take (i := 3) (oi := { dst := some 110, op := Go.Op.move (Go.Operand.tmp 109), type := 4, pos := "law.go:54", after := #[{ on := 2, ground := Go.Ground.data }], guard := none }) (v := ?va4) rfl (by kernel_rfl) (by kernel_rfl) (by kernel_rfl) (fun _ _ _ h => h) (Or.inl ⟨by rfl, ?ra4⟩) (by assumption) ?_
  case ra4 => (intro w hSw; (try dsimp only at hSw); (go_simp <;> with_reducible rfl))
  try simp only [Act.put, List.setIfInBounds_toArray, List.set_cons_zero, List.set_cons_succ]
  refine wpAnyH_take (i := 4) (oi := { dst := some 111, op := Go.Op.fieldAddr 34 (Go.Operand.tmp 5) 1, type := 0, pos := "law.go:54", after := #[{ on := 3, ground := Go.Ground.guard }], guard := some (3, true) }) (v := ?va5) rfl (by kernel_rfl) (by kernel_rfl) (by kernel_rfl) (fun _ _ _ h => h) (Or.inl ⟨by rfl, ?ra5⟩) (by assumption) ?_
  case ra5 => (intro w hSw; (try dsimp only at hSw); (go_simp <;> with_reducible rfl))
  try simp only [Act.put, List.setIfInBounds_toArray, List.set_cons_zero, List.set_cons_succ]
  refine wpAnyH_take (i := 5) (oi := { dst := some 112, op := Go.Op.load 3 (Go.Operand.tmp 111), type := 3, pos := "law.go:54", after := #[{ on := 4, ground := Go.Ground.data }, { on := 3, ground := Go.Ground.guard }], guard := some (3, true) }) (v := ?va6) rfl (by kernel_rfl) (by kernel_rfl) (by kernel_rfl) (fun _ _ _ h => h) (Or.inl ⟨by rfl, ?ra6⟩) (by assumption) ?_
  case ra6 => (intro w hSw; (try dsimp only at hSw); (go_simp <;> with_reducible rfl))
  try simp only [Act.put, List.setIfInBounds_toArray, List.set_cons_zero, List.set_cons_succ]
  refine wpAnyH_take (i := 6) (oi := { dst := some 113, op := Go.Op.binOp Go.BinOp.lss 3 (Go.Operand.tmp 112) (Go.Operand.const (Go.Value.int Go.IntKind.i64 4)) 3, type := 4, pos := "law.go:54", after := #[{ on := 5, ground := Go.Ground.data }, { on := 3, ground := Go.Ground.guard }], guard := some (3, true) }) (v := (.bool true)) rfl (by kernel_rfl) (by kernel_rfl) (by kernel_rfl) (fun _ _ _ h => h) (Or.inl ⟨by rfl, ?ra7⟩) (by assumption) ?_
  case ra7 => (intro w hSw; (try dsimp only at hSw); go_simp; all_goals first | rfl | (simp; omega) | (simp; done) | omega)
  try simp only [Act.put, List.setIfInBounds_toArray, List.set_cons_zero, List.set_cons_succ]
  refine wpAnyH_take (i := 7) (oi := { dst := some 114, op := Go.Op.pick (Go.Operand.tmp 110) (Go.Operand.tmp 113) (Go.Operand.const (Go.Value.bool false)), type := 4, pos := "law.go:54", after := #[{ on := 3, ground := Go.Ground.data }, { on := 6, ground := Go.Ground.data }], guard := none }) (v := ?va8) rfl (by kernel_rfl) (by kernel_rfl) (by kernel_rfl) (fun _ _ _ h => h) (Or.inl ⟨by rfl, ?ra8⟩) (by assumption) ?_
  case ra8 => (intro w hSw; (try dsimp only at hSw); (go_simp <;> with_reducible rfl))
  try simp only [Act.put, List.setIfInBounds_toArray, List.set_cons_zero, List.set_cons_succ]
  refine wpAnyH_take (i := 8) (oi := { dst := some 115, op := Go.Op.move (Go.Operand.tmp 114), type := 4, pos := "law.go:54", after := #[{ on := 7, ground := Go.Ground.data }, { on := 3, ground := Go.Ground.chain }], guard := none }) (v := ?va9) rfl (by kernel_rfl) (by kernel_rfl) (by kernel_rfl) (fun _ _ _ h => h) (Or.inl ⟨by rfl, ?ra9⟩) (by assumption) ?_
  case ra9 => (intro w hSw; (try dsimp only at hSw); (go_simp <;> with_reducible rfl))
  try simp only [Act.put, List.setIfInBounds_toArray, List.set_cons_zero, List.set_cons_succ]
  refine wpAnyH_take (i := 9) (oi := { dst := some 116, op := Go.Op.fieldAddr 28 (Go.Operand.tmp 4) 0, type := 0, pos := "law.go:54", after := #[{ on := 8, ground := Go.Ground.guard }], guard := some (8, true) }) (v := ?va10) rfl (by kernel_rfl) (by kernel_rfl) (by kernel_rfl) (fun _ _ _ h => h) (Or.inl ⟨by rfl, ?ra10⟩) (by assumption) ?_
  case ra10 => (intro w hSw; (try dsimp only at hSw); (go_simp <;> with_reducible rfl))
  try simp only [Act.put, List.setIfInBounds_toArray, List.set_cons_zero, List.set_cons_succ]
  refine wpAnyH_take (i := 10) (oi := { dst := some 117, op := Go.Op.load 26 (Go.Operand.tmp 116), type := 26, pos := "law.go:54", after := #[{ on := 9, ground := Go.Ground.data }, { on := 8, ground := Go.Ground.guard }], guard := some (8, true) }) (v := ?va11) rfl (by kernel_rfl) (by kernel_rfl) (by kernel_rfl) (fun _ _ _ h => h) (Or.inl ⟨by rfl, ?ra11⟩) (by assumption) ?_
  case ra11 => (intro w hSw; (try dsimp only at hSw); (go_simp <;> with_reducible rfl))
  try simp only [Act.put, List.setIfInBounds_toArray, List.set_cons_zero, List.set_cons_succ]
  refine wpAnyH_take (i := 11) (oi := { dst := some 118, op := Go.Op.fieldAddr 34 (Go.Operand.tmp 5) 1, type := 0, pos := "law.go:54", after := #[{ on := 8, ground := Go.Ground.guard }], guard := some (8, true) }) (v := ?va12) rfl (by kernel_rfl) (by kernel_rfl) (by kernel_rfl) (fun _ _ _ h => h) (Or.inl ⟨by rfl, ?ra12⟩) (by assumption) ?_
  case ra12 => (intro w hSw; (try dsimp only at hSw); (go_simp <;> with_reducible rfl))
  try simp only [Act.put, List.setIfInBounds_toArray, List.set_cons_zero, List.set_cons_succ]
  refine wpAnyH_take (i := 12) (oi := { dst := some 119, op := Go.Op.load 3 (Go.Operand.tmp 118), type := 3, pos := "law.go:54", after := #[{ on := 11, ground := Go.Ground.data }, { on := 8, ground := Go.Ground.guard }], guard := some (8, true) }) (v := ?va13) rfl (by kernel_rfl) (by kernel_rfl) (by kernel_rfl) (fun _ _ _ h => h) (Or.inl ⟨by rfl, ?ra13⟩) (by assumption) ?_
  case ra13 => (intro w hSw; (try dsimp only at hSw); (go_simp <;> with_reducible rfl))
  try simp only [Act.put, List.setIfInBounds_toArray, List.set_cons_zero, List.set_cons_succ]
  refine wpAnyH_take (i := 13) (oi := { dst := some 120, op := Go.Op.indexAddr 26 (Go.Operand.tmp 117) (Go.Operand.tmp 119), type := 0, pos := "law.go:54", after := #[{ on := 10, ground := Go.Ground.data }, { on := 12, ground := Go.Ground.data }, { on := 8, ground := Go.Ground.guard }], guard := some (8, true) }) (v := ?va14) rfl (by kernel_rfl) (by kernel_rfl) (by kernel_rfl) (fun _ _ _ h => h) (Or.inl ⟨by rfl, ?ra14⟩) (by assumption) ?_
  case ra14 => (intro w hSw; (try dsimp only at hSw); (go_simp <;> with_reducible rfl))
  try simp only [Act.put, List.setIfInBounds_toArray, List.set_cons_zero, List.set_cons_succ]
  refine wpAnyH_take (i := 14) (oi := { dst := some 121, op := Go.Op.fieldAddr 106 (Go.Operand.tmp 120) 0, type := 0, pos := "law.go:54", after := #[{ on := 13, ground := Go.Ground.data }, { on := 8, ground := Go.Ground.guard }], guard := some (8, true) }) (v := ?va15) rfl (by kernel_rfl) (by kernel_rfl) (by kernel_rfl) (fun _ _ _ h => h) (Or.inl ⟨by rfl, ?ra15⟩) (by assumption) ?_
  case ra15 => (intro w hSw; (try dsimp only at hSw); (go_simp <;> with_reducible rfl))
  try simp only [Act.put, List.setIfInBounds_toArray, List.set_cons_zero, List.set_cons_succ]
  refine wpAnyH_take (i := 15) (oi := { dst := some 122, op := Go.Op.load 9 (Go.Operand.tmp 121), type := 9, pos := "law.go:54", after := #[{ on := 14, ground := Go.Ground.data }, { on := 8, ground := Go.Ground.guard }], guard := some (8, true) }) (v := ?va16) rfl (by kernel_rfl) (by kernel_rfl) (by kernel_rfl) (fun _ _ _ h => h) (Or.inl ⟨by rfl, ?ra16⟩) (by assumption) ?_
  case ra16 => (intro w hSw; (try dsimp only at hSw); (go_simp <;> with_reducible rfl))
  try simp only [Act.put, List.setIfInBounds_toArray, List.set_cons_zero, List.set_cons_succ]
  refine wpAnyH_take (i := 16) (oi := { dst := some 123, op := Go.Op.fieldAddr 28 (Go.Operand.tmp 4) 0, type := 0, pos := "law.go:54", after := #[{ on := 8, ground := Go.Ground.guard }], guard := some (8, true) }) (v := ?va17) rfl (by kernel_rfl) (by kernel_rfl) (by kernel_rfl) (fun _ _ _ h => h) (Or.inl ⟨by rfl, ?ra17⟩) (by assumption) ?_
  case ra17 => (intro w hSw; (try dsimp only at hSw); (go_simp <;> with_reducible rfl))
  try simp only [Act.put, List.setIfInBounds_toArray, List.set_cons_zero, List.set_cons_succ]
  refine wpAnyH_take (i := 17) (oi := { dst := some 124, op := Go.Op.load 26 (Go.Operand.tmp 123), type := 26, pos := "law.go:54", after := #[{ on := 16, ground := Go.Ground.data }, { on := 8, ground := Go.Ground.guard }], guard := some (8, true) }) (v := ?va18) rfl (by kernel_rfl) (by kernel_rfl) (by kernel_rfl) (fun _ _ _ h => h) (Or.inl ⟨by rfl, ?ra18⟩) (by assumption) ?_
  case ra18 => (intro w hSw; (try dsimp only at hSw); (go_simp <;> with_reducible rfl))
  try simp only [Act.put, List.setIfInBounds_toArray, List.set_cons_zero, List.set_cons_succ]
  refine wpAnyH_take (i := 18) (oi := { dst := some 125, op := Go.Op.fieldAddr 34 (Go.Operand.tmp 5) 1, type := 0, pos := "law.go:54", after := #[{ on := 8, ground := Go.Ground.guard }], guard := some (8, true) }) (v := ?va19) rfl (by kernel_rfl) (by kernel_rfl) (by kernel_rfl) (fun _ _ _ h => h) (Or.inl ⟨by rfl, ?ra19⟩) (by assumption) ?_
  case ra19 => (intro w hSw; (try dsimp only at hSw); (go_simp <;> with_reducible rfl))
  try simp only [Act.put, List.setIfInBounds_toArray, List.set_cons_zero, List.set_cons_succ]
  refine wpAnyH_take (i := 19) (oi := { dst := some 126, op := Go.Op.load 3 (Go.Operand.tmp 125), type := 3, pos := "law.go:54", after := #[{ on := 18, ground := Go.Ground.data }, { on := 8, ground := Go.Ground.guard }], guard := some (8, true) }) (v := ?va20) rfl (by kernel_rfl) (by kernel_rfl) (by kernel_rfl) (fun _ _ _ h => h) (Or.inl ⟨by rfl, ?ra20⟩) (by assumption) ?_
  case ra20 => (intro w hSw; (try dsimp only at hSw); (go_simp <;> with_reducible rfl))
  try simp only [Act.put, List.setIfInBounds_toArray, List.set_cons_zero, List.set_cons_succ]
  refine wpAnyH_take (i := 20) (oi := { dst := some 127, op := Go.Op.indexAddr 26 (Go.Operand.tmp 124) (Go.Operand.tmp 126), type := 0, pos := "law.go:54", after := #[{ on := 17, ground := Go.Ground.data }, { on := 19, ground := Go.Ground.data }, { on := 8, ground := Go.Ground.guard }], guard := some (8, true) }) (v := ?va21) rfl (by kernel_rfl) (by kernel_rfl) (by kernel_rfl) (fun _ _ _ h => h) (Or.inl ⟨by rfl, ?ra21⟩) (by assumption) ?_
  case ra21 => (intro w hSw; (try dsimp only at hSw); (go_simp <;> with_reducible rfl))
  try simp only [Act.put, List.setIfInBounds_toArray, List.set_cons_zero, List.set_cons_succ]
  refine wpAnyH_take (i := 21) (oi := { dst := some 128, op := Go.Op.fieldAddr 106 (Go.Operand.tmp 127) 1, type := 0, pos := "law.go:54", after := #[{ on := 20, ground := Go.Ground.data }, { on := 8, ground := Go.Ground.guard }], guard := some (8, true) }) (v := ?va22) rfl (by kernel_rfl) (by kernel_rfl) (by kernel_rfl) (fun _ _ _ h => h) (Or.inl ⟨by rfl, ?ra22⟩) (by assumption) ?_
  case ra22 => (intro w hSw; (try dsimp only at hSw); (go_simp <;> with_reducible rfl))
  try simp only [Act.put, List.setIfInBounds_toArray, List.set_cons_zero, List.set_cons_succ]
  refine wpAnyH_take (i := 22) (oi := { dst := some 129, op := Go.Op.load 9 (Go.Operand.tmp 128), type := 9, pos := "law.go:54", after := #[{ on := 21, ground := Go.Ground.data }, { on := 8, ground := Go.Ground.guard }], guard := some (8, true) }) (v := ?va23) rfl (by kernel_rfl) (by kernel_rfl) (by kernel_rfl) (fun _ _ _ h => h) (Or.inl ⟨by rfl, ?ra23⟩) (by assumption) ?_
  case ra23 => (intro w hSw; (try dsimp only at hSw); (go_simp <;> with_reducible rfl))
  try simp only [Act.put, List.setIfInBounds_toArray, List.set_cons_zero, List.set_cons_succ]
  refine wpAnyH_take (i := 23) (oi := { dst := some 130, op := Go.Op.binOp Go.BinOp.eql 9 (Go.Operand.tmp 122) (Go.Operand.tmp 129) 9, type := 4, pos := "law.go:54", after := #[{ on := 15, ground := Go.Ground.data }, { on := 22, ground := Go.Ground.data }, { on := 8, ground := Go.Ground.guard }], guard := some (8, true) }) (v := (.bool true)) rfl (by kernel_rfl) (by kernel_rfl) (by kernel_rfl) (fun _ _ _ h => h) (Or.inl ⟨by rfl, ?ra24⟩) (by assumption) ?_
  case ra24 => (intro w hSw; (try dsimp only at hSw); go_simp; all_goals first | rfl | (simp; omega) | (simp; done) | omega)
  try simp only [Act.put, List.setIfInBounds_toArray, List.set_cons_zero, List.set_cons_succ]
  refine wpAnyH_take (i := 24) (oi := { dst := some 131, op := Go.Op.pick (Go.Operand.tmp 115) (Go.Operand.tmp 130) (Go.Operand.const (Go.Value.bool false)), type := 4, pos := "law.go:54", after := #[{ on := 8, ground := Go.Ground.data }, { on := 23, ground := Go.Ground.data }], guard := none }) (v := ?va25) rfl (by kernel_rfl) (by kernel_rfl) (by kernel_rfl) (fun _ _ _ h => h) (Or.inl ⟨by rfl, ?ra25⟩) (by assumption) ?_
  case ra25 => (intro w hSw; (try dsimp only at hSw); (go_simp <;> with_reducible rfl))
  try simp only [Act.put, List.setIfInBounds_toArray, List.set_cons_zero, List.set_cons_succ]
  refine wpAnyH_take (i := 25) (oi := { dst := some 132, op := Go.Op.move (Go.Operand.tmp 131), type := 4, pos := "law.go:54", after := #[{ on := 24, ground := Go.Ground.data }, { on := 8, ground := Go.Ground.chain }], guard := none }) (v := ?va26) rfl (by kernel_rfl) (by kernel_rfl) (by kernel_rfl) (fun _ _ _ h => h) (Or.inl ⟨by rfl, ?ra26⟩) (by assumption) ?_
  case ra26 => (intro w hSw; (try dsimp only at hSw); (go_simp <;> with_reducible rfl))
  try simp only [Act.put, List.setIfInBounds_toArray, List.set_cons_zero, List.set_cons_succ]
  refine wpAnyH_take (i := 26) (oi := { dst := some 133, op := Go.Op.fieldAddr 34 (Go.Operand.tmp 5) 2, type := 0, pos := "law.go:54", after := #[{ on := 25, ground := Go.Ground.guard }], guard := some (25, true) }) (v := ?va27) rfl (by kernel_rfl) (by kernel_rfl) (by kernel_rfl) (fun _ _ _ h => h) (Or.inl ⟨by rfl, ?ra27⟩) (by assumption) ?_
  case ra27 => (intro w hSw; (try dsimp only at hSw); (go_simp <;> with_reducible rfl))
  try simp only [Act.put, List.setIfInBounds_toArray, List.set_cons_zero, List.set_cons_succ]
  refine wpAnyH_take (i := 27) (oi := { dst := some 134, op := Go.Op.load 3 (Go.Operand.tmp 133), type := 3, pos := "law.go:54", after := #[{ on := 26, ground := Go.Ground.data }, { on := 25, ground := Go.Ground.guard }], guard := some (25, true) }) (v := ?va28) rfl (by kernel_rfl) (by kernel_rfl) (by kernel_rfl) (fun _ _ _ h => h) (Or.inl ⟨by rfl, ?ra28⟩) (by assumption) ?_
  case ra28 => (intro w hSw; (try dsimp only at hSw); (go_simp <;> with_reducible rfl))
  try simp only [Act.put, List.setIfInBounds_toArray, List.set_cons_zero, List.set_cons_succ]
  refine wpAnyH_take (i := 28) (oi := { dst := some 135, op := Go.Op.binOp Go.BinOp.geq 3 (Go.Operand.tmp 134) (Go.Operand.const (Go.Value.int Go.IntKind.i64 0)) 3, type := 4, pos := "law.go:54", after := #[{ on := 27, ground := Go.Ground.data }, { on := 25, ground := Go.Ground.guard }], guard := some (25, true) }) (v := (.bool true)) rfl (by kernel_rfl) (by kernel_rfl) (by kernel_rfl) (fun _ _ _ h => h) (Or.inl ⟨by rfl, ?ra29⟩) (by assumption) ?_
  case ra29 => (intro w hSw; (try dsimp only at hSw); go_simp; all_goals first | rfl | (simp; omega) | (simp; done) | omega)
  try simp only [Act.put, List.setIfInBounds_toArray, List.set_cons_zero, List.set_cons_succ]
  refine wpAnyH_take (i := 29) (oi := { dst := some 136, op := Go.Op.pick (Go.Operand.tmp 132) (Go.Operand.tmp 135) (Go.Operand.const (Go.Value.bool false)), type := 4, pos := "law.go:54", after := #[{ on := 25, ground := Go.Ground.data }, { on := 28, ground := Go.Ground.data }], guard := none }) (v := ?va30) rfl (by kernel_rfl) (by kernel_rfl) (by kernel_rfl) (fun _ _ _ h => h) (Or.inl ⟨by rfl, ?ra30⟩) (by assumption) ?_
  case ra30 => (intro w hSw; (try dsimp only at hSw); (go_simp <;> with_reducible rfl))
  try simp only [Act.put, List.setIfInBounds_toArray, List.set_cons_zero, List.set_cons_succ]
  refine wpAnyH_take (i := 30) (oi := { dst := some 137, op := Go.Op.move (Go.Operand.tmp 136), type := 4, pos := "law.go:54", after := #[{ on := 29, ground := Go.Ground.data }, { on := 25, ground := Go.Ground.chain }], guard := none }) (v := ?va31) rfl (by kernel_rfl) (by kernel_rfl) (by kernel_rfl) (fun _ _ _ h => h) (Or.inl ⟨by rfl, ?ra31⟩) (by assumption) ?_
  case ra31 => (intro w hSw; (try dsimp only at hSw); (go_simp <;> with_reducible rfl))
  try simp only [Act.put, List.setIfInBounds_toArray, List.set_cons_zero, List.set_cons_succ]
  refine wpAnyH_take (i := 31) (oi := { dst := some 138, op := Go.Op.fieldAddr 34 (Go.Operand.tmp 5) 2, type := 0, pos := "law.go:54", after := #[{ on := 30, ground := Go.Ground.guard }], guard := some (30, true) }) (v := ?va32) rfl (by kernel_rfl) (by kernel_rfl) (by kernel_rfl) (fun _ _ _ h => h) (Or.inl ⟨by rfl, ?ra32⟩) (by assumption) ?_
  case ra32 => (intro w hSw; (try dsimp only at hSw); (go_simp <;> with_reducible rfl))
  try simp only [Act.put, List.setIfInBounds_toArray, List.set_cons_zero, List.set_cons_succ]
  refine wpAnyH_take (i := 32) (oi := { dst := some 139, op := Go.Op.load 3 (Go.Operand.tmp 138), type := 3, pos := "law.go:54", after := #[{ on := 31, ground := Go.Ground.data }, { on := 30, ground := Go.Ground.guard }], guard := some (30, true) }) (v := ?va33) rfl (by kernel_rfl) (by kernel_rfl) (by kernel_rfl) (fun _ _ _ h => h) (Or.inl ⟨by rfl, ?ra33⟩) (by assumption) ?_
  case ra33 => (intro w hSw; (try dsimp only at hSw); (go_simp <;> with_reducible rfl))
  try simp only [Act.put, List.setIfInBounds_toArray, List.set_cons_zero, List.set_cons_succ]
  refine wpAnyH_take (i := 33) (oi := { dst := some 140, op := Go.Op.fieldAddr 28 (Go.Operand.tmp 4) 0, type := 0, pos := "law.go:54", after := #[{ on := 30, ground := Go.Ground.guard }], guard := some (30, true) }) (v := ?va34) rfl (by kernel_rfl) (by kernel_rfl) (by kernel_rfl) (fun _ _ _ h => h) (Or.inl ⟨by rfl, ?ra34⟩) (by assumption) ?_
  case ra34 => (intro w hSw; (try dsimp only at hSw); (go_simp <;> with_reducible rfl))
  try simp only [Act.put, List.setIfInBounds_toArray, List.set_cons_zero, List.set_cons_succ]
  refine wpAnyH_take (i := 34) (oi := { dst := some 141, op := Go.Op.load 26 (Go.Operand.tmp 140), type := 26, pos := "law.go:54", after := #[{ on := 33, ground := Go.Ground.data }, { on := 30, ground := Go.Ground.guard }], guard := some (30, true) }) (v := ?va35) rfl (by kernel_rfl) (by kernel_rfl) (by kernel_rfl) (fun _ _ _ h => h) (Or.inl ⟨by rfl, ?ra35⟩) (by assumption) ?_
  case ra35 => (intro w hSw; (try dsimp only at hSw); (go_simp <;> with_reducible rfl))
  try simp only [Act.put, List.setIfInBounds_toArray, List.set_cons_zero, List.set_cons_succ]
  refine wpAnyH_take (i := 35) (oi := { dst := some 142, op := Go.Op.fieldAddr 34 (Go.Operand.tmp 5) 1, type := 0, pos := "law.go:54", after := #[{ on := 30, ground := Go.Ground.guard }], guard := some (30, true) }) (v := ?va36) rfl (by kernel_rfl) (by kernel_rfl) (by kernel_rfl) (fun _ _ _ h => h) (Or.inl ⟨by rfl, ?ra36⟩) (by assumption) ?_
  case ra36 => (intro w hSw; (try dsimp only at hSw); (go_simp <;> with_reducible rfl))
  try simp only [Act.put, List.setIfInBounds_toArray, List.set_cons_zero, List.set_cons_succ]
  refine wpAnyH_take (i := 36) (oi := { dst := some 143, op := Go.Op.load 3 (Go.Operand.tmp 142), type := 3, pos := "law.go:54", after := #[{ on := 35, ground := Go.Ground.data }, { on := 30, ground := Go.Ground.guard }], guard := some (30, true) }) (v := ?va37) rfl (by kernel_rfl) (by kernel_rfl) (by kernel_rfl) (fun _ _ _ h => h) (Or.inl ⟨by rfl, ?ra37⟩) (by assumption) ?_
  case ra37 => (intro w hSw; (try dsimp only at hSw); (go_simp <;> with_reducible rfl))
  try simp only [Act.put, List.setIfInBounds_toArray, List.set_cons_zero, List.set_cons_succ]
  refine wpAnyH_take (i := 37) (oi := { dst := some 144, op := Go.Op.indexAddr 26 (Go.Operand.tmp 141) (Go.Operand.tmp 143), type := 0, pos := "law.go:54", after := #[{ on := 34, ground := Go.Ground.data }, { on := 36, ground := Go.Ground.data }, { on := 30, ground := Go.Ground.guard }], guard := some (30, true) }) (v := ?va38) rfl (by kernel_rfl) (by kernel_rfl) (by kernel_rfl) (fun _ _ _ h => h) (Or.inl ⟨by rfl, ?ra38⟩) (by assumption) ?_
  case ra38 => (intro w hSw; (try dsimp only at hSw); (go_simp <;> with_reducible rfl))
  try simp only [Act.put, List.setIfInBounds_toArray, List.set_cons_zero, List.set_cons_succ]
  refine wpAnyH_take (i := 38) (oi := { dst := some 145, op := Go.Op.fieldAddr 106 (Go.Operand.tmp 144) 0, type := 0, pos := "law.go:54", after := #[{ on := 37, ground := Go.Ground.data }, { on := 30, ground := Go.Ground.guard }], guard := some (30, true) }) (v := ?va39) rfl (by kernel_rfl) (by kernel_rfl) (by kernel_rfl) (fun _ _ _ h => h) (Or.inl ⟨by rfl, ?ra39⟩) (by assumption) ?_
  case ra39 => (intro w hSw; (try dsimp only at hSw); (go_simp <;> with_reducible rfl))
  try simp only [Act.put, List.setIfInBounds_toArray, List.set_cons_zero, List.set_cons_succ]
  refine wpAnyH_take (i := 39) (oi := { dst := some 146, op := Go.Op.load 9 (Go.Operand.tmp 145), type := 9, pos := "law.go:54", after := #[{ on := 38, ground := Go.Ground.data }, { on := 30, ground := Go.Ground.guard }], guard := some (30, true) }) (v := ?va40) rfl (by kernel_rfl) (by kernel_rfl) (by kernel_rfl) (fun _ _ _ h => h) (Or.inl ⟨by rfl, ?ra40⟩) (by assumption) ?_
  case ra40 => (intro w hSw; (try dsimp only at hSw); (go_simp <;> with_reducible rfl))
  try simp only [Act.put, List.setIfInBounds_toArray, List.set_cons_zero, List.set_cons_succ]
  refine wpAnyH_take (i := 40) (oi := { dst := some 147, op := Go.Op.call { callee := Go.Callee.builtin Go.Builtin.len, args := #[Go.Operand.tmp 146], argTypes := #[9] }, type := 3, pos := "law.go:54", after := #[{ on := 39, ground := Go.Ground.data }, { on := 30, ground := Go.Ground.guard }], guard := some (30, true) }) (v := ?va41) rfl (by kernel_rfl) (by kernel_rfl) (by kernel_rfl) (fun _ _ _ h => h) (Or.inl ⟨by rfl, ?ra41⟩) (by assumption) ?_
  case ra41 => (intro w hSw; (try dsimp only at hSw); (go_simp <;> with_reducible rfl))
  try simp only [Act.put, List.setIfInBounds_toArray, List.set_cons_zero, List.set_cons_succ]
  refine wpAnyH_take (i := 41) (oi := { dst := some 148, op := Go.Op.binOp Go.BinOp.lss 3 (Go.Operand.tmp 139) (Go.Operand.tmp 147) 3, type := 4, pos := "law.go:54", after := #[{ on := 32, ground := Go.Ground.data }, { on := 40, ground := Go.Ground.data }, { on := 30, ground := Go.Ground.guard }], guard := some (30, true) }) (v := (.bool true)) rfl (by kernel_rfl) (by kernel_rfl) (by kernel_rfl) (fun _ _ _ h => h) (Or.inl ⟨by rfl, ?ra42⟩) (by assumption) ?_
  case ra42 => (intro w hSw; (try dsimp only at hSw); go_simp; all_goals first | rfl | (simp; omega) | (simp; done) | omega)
  try simp only [Act.put, List.setIfInBounds_toArray, List.set_cons_zero, List.set_cons_succ]
  refine wpAnyH_take (i := 42) (oi := { dst := some 149, op := Go.Op.pick (Go.Operand.tmp 137) (Go.Operand.tmp 148) (Go.Operand.const (Go.Value.bool false)), type := 4, pos := "law.go:54", after := #[{ on := 30, ground := Go.Ground.data }, { on := 41, ground := Go.Ground.data }], guard := none }) (v := ?va43) rfl (by kernel_rfl) (by kernel_rfl) (by kernel_rfl) (fun _ _ _ h => h) (Or.inl ⟨by rfl, ?ra43⟩) (by assumption) ?_
  case ra43 => (intro w hSw; (try dsimp only at hSw); (go_simp <;> with_reducible rfl))
  try simp only [Act.put, List.setIfInBounds_toArray, List.set_cons_zero, List.set_cons_succ]
  refine wpAnyH_take (i := 43) (oi := { dst := some 11, op := Go.Op.assign (Go.Operand.tmp 149), type := 4, pos := "law.go:54", after := #[{ on := 42, ground := Go.Ground.data }, { on := 30, ground := Go.Ground.chain }, { on := 0, ground := Go.Ground.phase }, { on := 1, ground := Go.Ground.phase }, { on := 2, ground := Go.Ground.phase }, { on := 3, ground := Go.Ground.phase }, { on := 4, ground := Go.Ground.phase }, { on := 5, ground := Go.Ground.phase }, { on := 6, ground := Go.Ground.phase }, { on := 7, ground := Go.Ground.phase }, { on := 8, ground := Go.Ground.phase }, { on := 9, ground := Go.Ground.phase }, { on := 10, ground := Go.Ground.phase }, { on := 11, ground := Go.Ground.phase }, { on := 12, ground := Go.Ground.phase }, { on := 13, ground := Go.Ground.phase }, { on := 14, ground := Go.Ground.phase }, { on := 15, ground := Go.Ground.phase }, { on := 16, ground := Go.Ground.phase }, { on := 17, ground := Go.Ground.phase }, { on := 18, ground := Go.Ground.phase }, { on := 19, ground := Go.Ground.phase }, { on := 20, ground := Go.Ground.phase }, { on := 21, ground := Go.Ground.phase }, { on := 22, ground := Go.Ground.phase }, { on := 23, ground := Go.Ground.phase }, { on := 24, ground := Go.Ground.phase }, { on := 25, ground := Go.Ground.phase }, { on := 26, ground := Go.Ground.phase }, { on := 27, ground := Go.Ground.phase }, { on := 28, ground := Go.Ground.phase }, { on := 29, ground := Go.Ground.phase }, { on := 30, ground := Go.Ground.phase }, { on := 31, ground := Go.Ground.phase }, { on := 32, ground := Go.Ground.phase }, { on := 33, ground := Go.Ground.phase }, { on := 34, ground := Go.Ground.phase }, { on := 35, ground := Go.Ground.phase }, { on := 36, ground := Go.Ground.phase }, { on := 37, ground := Go.Ground.phase }, { on := 38, ground := Go.Ground.phase }, { on := 39, ground := Go.Ground.phase }, { on := 40, ground := Go.Ground.phase }, { on := 41, ground := Go.Ground.phase }, { on := 42, ground := Go.Ground.phase }], guard := none }) (v := ?va44) rfl (by kernel_rfl) (by kernel_rfl) (by kernel_rfl) (fun _ _ _ h => h) (Or.inl ⟨by rfl, ?ra44⟩) (by assumption) ?_
  case ra44 => (intro w hSw; (try dsimp only at hSw); (go_simp <;> with_reducible rfl))
  try simp only [Act.put, List.setIfInBounds_toArray, List.set_cons_zero, List.set_cons_succ]
  refine wpAnyH_done (by kernel_rfl) ?_ _
  clear h0 HX HS0
  have hg4 : Gr w3 w3.drew := (Gr.refl _).drew
  have HD4 := Lib.hid (HD3.out.gr hg4)
  have HS4 := Lib.hid (HS3.out.trans (Sole.of_gr hg4))
  have HB44 := Lib.hid (HB43.out.gr hg4)
  have HB54 := Lib.hid (HB53.out.gr hg4)
  have HB64 := Lib.hid (HB63.out.gr hg4)
  have HA4 := Lib.hid (HA3.out.gr hg4)
  generalize w3.drew = w4 at *
  clear hg4
  have d0 : w4.cell? ⟨w.heap.size, 0, none⟩ = some (.slice (some ⟨gb, off, none⟩) 4 cap) := HB44.out.cell rfl
  have a1 : w4.cell? ⟨w.heap.size + 1, 1, none⟩ = some (.int .i64 (k : Nat)) := HB54.out.cell rfl
  have q0 := (HA4.out k hk).1
  rw [HNW.out] at q0
  have hconv := HCV.out
  go_wp2_with fail
  clear hconv d0 a1 q0
  have HR := Lib.hid (fun j (hj : j < nw.data.size) => row_at w4 nw (grownCap w4 nw.size 0 5) j hj 5)
  have hx := (HR.out m hm).1
  have hxf := (HR.out m hm).2
  have HBK := Lib.hid (back_of (w := w4.alloc (.cells (bytesRow nw (grownCap w4 nw.size 0 5)) 5 ((bytesRow nw (grownCap w4 nw.size 0 5)).size, (bytesRow nw (grownCap w4 nw.size 0 5)).size + 1))) (nb := w4.heap.size) (cap := grownCap w4 nw.size 0 5) (x := x) hm HV.out (fun j hj => (HR.out j hj).1))
  have HG6 := Lib.hid ((Gr.refl w4).alloc (.cells (bytesRow nw (grownCap w4 nw.size 0 5)) 5 ((bytesRow nw (grownCap w4 nw.size 0 5)).size, (bytesRow nw (grownCap w4 nw.size 0 5)).size + 1)))
  clear HR
  generalize (w4.alloc (.cells (bytesRow nw (grownCap w4 nw.size 0 5)) 5 ((bytesRow nw (grownCap w4 nw.size 0 5)).size, (bytesRow nw (grownCap w4 nw.size 0 5)).size + 1))) = w6 at *
  generalize grownCap w4 nw.size 0 5 = gc at *
  generalize hnb9 : w4.heap.size = nb at *
  have HNB := Lib.hid hnb9
  clear hnb9
  have m2 : w6.cell? ⟨w.heap.size + 1, 2, none⟩ = some (.int .i64 (m : Nat)) := HG6.out.cell (HB54.out.cell rfl)
  have m3 : w6.cell? ⟨w.heap.size + 1, 3, none⟩ = some (.string s) := HG6.out.cell (HB54.out.cell rfl)
  refine late_start (fun i => decide (11 ≤ i)) (fun w9 => Gr w6 w9 ∧ w9.cell? ⟨w.heap.size + 1, 2, none⟩ = some (.int .i64 (m : Nat)) ∧ w9.cell? ⟨w.heap.size + 1, 3, none⟩ = some (.string s) ∧ w9.cell? ⟨nb, m, none⟩ = some (.int .u8 ((nw.data[m]'hm).toNat : Int))) (by kernel_rfl) ?invz (fun h0 => ?_)
  case invz => ((try dsimp only); (first | exact HS28 | exact ⟨((Gr.refl _).drew).drew, m2, m3, hx⟩))
  refine late_take (i := 0) (oi := { dst := some 163, op := Go.Op.move (Go.Operand.tmp 12), type := 48, pos := "law.go:60", after := #[], guard := none }) (v := ?vz1) rfl (by kernel_rfl) (by kernel_rfl) (by kernel_rfl) (by kernel_rfl) (by kernel_rfl) (fun _ _ _ h => h) (Or.inl ⟨by rfl, ?rz1⟩) (by assumption) ?_
  case rz1 => (intro w hSw; (try dsimp only at hSw); (go_simp <;> with_reducible rfl))
  try simp only [Act.put, List.setIfInBounds_toArray, List.set_cons_zero, List.set_cons_succ]
  refine late_take (i := 1) (oi := { dst := some 164, op := Go.Op.fieldAddr 34 (Go.Operand.tmp 5) 2, type := 0, pos := "law.go:60", after := #[], guard := none }) (v := ?vz2) rfl (by kernel_rfl) (by kernel_rfl) (by kernel_rfl) (by kernel_rfl) (by kernel_rfl) (fun _ _ _ h => h) (Or.inl ⟨by rfl, ?rz2⟩) (by assumption) ?_
  case rz2 => (intro w hSw; (try dsimp only at hSw); (go_simp <;> with_reducible rfl))
  try simp only [Act.put, List.setIfInBounds_toArray, List.set_cons_zero, List.set_cons_succ]
  refine late_take (i := 2) (oi := { dst := some 165, op := Go.Op.load 3 (Go.Operand.tmp 164), type := 3, pos := "law.go:60", after := #[{ on := 1, ground := Go.Ground.data }], guard := none }) (v := ?vz3) rfl (by kernel_rfl) (by kernel_rfl) (by kernel_rfl) (by kernel_rfl) (by kernel_rfl) (fun _ _ _ h => h) (Or.inl ⟨by rfl, ?rz3⟩) (by assumption) ?_
  case rz3 => (intro w hSw; (try dsimp only at hSw); (go_simp <;> with_reducible rfl))
  try simp only [Act.put, List.setIfInBounds_toArray, List.set_cons_zero, List.set_cons_succ]
  refine late_take (i := 3) (oi := { dst := some 166, op := Go.Op.indexAddr 48 (Go.Operand.tmp 163) (Go.Operand.tmp 165), type := 0, pos := "law.go:60", after := #[{ on := 0, ground := Go.Ground.data }, { on := 2, ground := Go.Ground.data }], guard := none }) (v := ?vz4) rfl (by kernel_rfl) (by kernel_rfl) (by kernel_rfl) (by kernel_rfl) (by kernel_rfl) (fun _ _ _ h => h) (Or.inl ⟨by rfl, ?rz4⟩) (by assumption) ?_
  case rz4 => (intro w hSw; (try dsimp only at hSw); (go_simp <;> with_reducible rfl))
  try simp only [Act.put, List.setIfInBounds_toArray, List.set_cons_zero, List.set_cons_succ]
  refine late_take (i := 4) (oi := { dst := some 167, op := Go.Op.load 5 (Go.Operand.tmp 166), type := 5, pos := "law.go:60", after := #[{ on := 3, ground := Go.Ground.data }], guard := none }) (v := ?vz5) rfl (by kernel_rfl) (by kernel_rfl) (by kernel_rfl) (by kernel_rfl) (by kernel_rfl) (fun _ _ _ h => h) (Or.inl ⟨by rfl, ?rz5⟩) (by assumption) ?_
  case rz5 => (intro w hSw; (try dsimp only at hSw); (go_simp <;> with_reducible rfl))
  try simp only [Act.put, List.setIfInBounds_toArray, List.set_cons_zero, List.set_cons_succ]
  refine late_take (i := 5) (oi := { dst := some 168, op := Go.Op.fieldAddr 34 (Go.Operand.tmp 5) 3, type := 0, pos := "law.go:60", after := #[], guard := none }) (v := ?vz6) rfl (by kernel_rfl) (by kernel_rfl) (by kernel_rfl) (by kernel_rfl) (by kernel_rfl) (fun _ _ _ h => h) (Or.inl ⟨by rfl, ?rz6⟩) (by assumption) ?_
  case rz6 => (intro w hSw; (try dsimp only at hSw); (go_simp <;> with_reducible rfl))
  try simp only [Act.put, List.setIfInBounds_toArray, List.set_cons_zero, List.set_cons_succ]
  refine late_take (i := 6) (oi := { dst := some 169, op := Go.Op.load 9 (Go.Operand.tmp 168), type := 9, pos := "law.go:60", after := #[{ on := 5, ground := Go.Ground.data }], guard := none }) (v := ?vz7) rfl (by kernel_rfl) (by kernel_rfl) (by kernel_rfl) (by kernel_rfl) (by kernel_rfl) (fun _ _ _ h => h) (Or.inl ⟨by rfl, ?rz7⟩) (by assumption) ?_
  case rz7 => (intro w hSw; (try dsimp only at hSw); (go_simp <;> with_reducible rfl))
  try simp only [Act.put, List.setIfInBounds_toArray, List.set_cons_zero, List.set_cons_succ]
  refine late_take (i := 7) (oi := { dst := some 170, op := Go.Op.call { callee := Go.Callee.builtin Go.Builtin.len, args := #[Go.Operand.tmp 169], argTypes := #[9] }, type := 3, pos := "law.go:60", after := #[{ on := 6, ground := Go.Ground.data }], guard := none }) (v := ?vz8) rfl (by kernel_rfl) (by kernel_rfl) (by kernel_rfl) (by kernel_rfl) (by kernel_rfl) (fun _ _ _ h => h) (Or.inl ⟨by rfl, ?rz8⟩) (by assumption) ?_
  case rz8 => (intro w hSw; (try dsimp only at hSw); (go_simp <;> with_reducible rfl))
  try simp only [Act.put, List.setIfInBounds_toArray, List.set_cons_zero, List.set_cons_succ]
  refine late_take (i := 8) (oi := { dst := some 171, op := Go.Op.convert 3 5 (Go.Operand.tmp 170), type := 5, pos := "law.go:60", after := #[{ on := 7, ground := Go.Ground.data }], guard := none }) (v := ?vz9) rfl (by kernel_rfl) (by kernel_rfl) (by kernel_rfl) (by kernel_rfl) (by kernel_rfl) (fun _ _ _ h => h) (Or.inl ⟨by rfl, ?rz9⟩) (by assumption) ?_
  case rz9 => (intro w hSw; (try dsimp only at hSw); (go_simp <;> with_reducible rfl))
  try simp only [Act.put, List.setIfInBounds_toArray, List.set_cons_zero, List.set_cons_succ]
  refine late_take (i := 9) (oi := { dst := some 172, op := Go.Op.binOp Go.BinOp.xor 5 (Go.Operand.tmp 167) (Go.Operand.tmp 171) 5, type := 5, pos := "law.go:60", after := #[{ on := 4, ground := Go.Ground.data }, { on := 8, ground := Go.Ground.data }], guard := none }) (v := (.int .u8 (V : Int))) rfl (by kernel_rfl) (by kernel_rfl) (by kernel_rfl) (by kernel_rfl) (by kernel_rfl) (fun _ _ _ h => h) (Or.inl ⟨by rfl, ?rz10⟩) (by assumption) ?_
  case rz10 => (intro w hSw; (try dsimp only at hSw); go_simp; simp only [HXR.out])
  try simp only [Act.put, List.setIfInBounds_toArray, List.set_cons_zero, List.set_cons_succ]
  refine late_take (i := 10) (oi := { dst := some 173, op := Go.Op.indexAddr 48 (Go.Operand.tmp 163) (Go.Operand.tmp 165), type := 0, pos := "law.go:60", after := #[{ on := 0, ground := Go.Ground.data }, { on := 2, ground := Go.Ground.data }, { on := 0, ground := Go.Ground.phase }, { on := 1, ground := Go.Ground.phase }, { on := 2, ground := Go.Ground.phase }, { on := 3, ground := Go.Ground.phase }, { on := 4, ground := Go.Ground.phase }, { on := 5, ground := Go.Ground.phase }, { on := 6, ground := Go.Ground.phase }, { on := 7, ground := Go.Ground.phase }, { on := 8, ground := Go.Ground.phase }, { on := 9, ground := Go.Ground.phase }], guard := none }) (v := ?vz11) rfl (by kernel_rfl) (by kernel_rfl) (by kernel_rfl) (by kernel_rfl) (by kernel_rfl) (fun _ _ _ h => h) (Or.inl ⟨by rfl, ?rz11⟩) (by assumption) ?_
  case rz11 => (intro w hSw; (try dsimp only at hSw); (go_simp <;> with_reducible rfl))
  try simp only [Act.put, List.setIfInBounds_toArray, List.set_cons_zero, List.set_cons_succ]
  have m9 := h0.2.2.2
  have m8 := (h0.1.frozen (cell_lt hx) (o := m)).trans hxf
  refine late_go (by kernel_rfl) ?_
  refine any_one (i := 11) (o := { dst := none, op := Go.Op.store 5 (Go.Operand.tmp 173) (Go.Operand.tmp 172), type := 0, pos := "law.go:60", after := #[{ on := 10, ground := Go.Ground.data }, { on := 9, ground := Go.Ground.data }, { on := 0, ground := Go.Ground.phase }, { on := 1, ground := Go.Ground.phase }, { on := 2, ground := Go.Ground.phase }, { on := 3, ground := Go.Ground.phase }, { on := 4, ground := Go.Ground.phase }, { on := 5, ground := Go.Ground.phase }, { on := 6, ground := Go.Ground.phase }, { on := 7, ground := Go.Ground.phase }, { on := 8, ground := Go.Ground.phase }, { on := 9, ground := Go.Ground.phase }], guard := none }) (by kernel_rfl) rfl (fun K hK => ?_)
  go_simp
  refine hK.out _ _ ?_
  clear hK K
  try simp only [Act.put, List.setIfInBounds_toArray, List.set_cons_zero, List.set_cons_succ]
  refine any_done (by kernel_rfl) ?_
  clear h0
  have k1 := HBK.out (w6.setCell ⟨nb, m, none⟩ (.int .u8 (V : Int))).drew.drew (.inr (.inr rfl))
  have hgz : Gr w4 (w6.setCell ⟨nb, m, none⟩ (.int .u8 (V : Int))).drew.drew := ((HG6.out.setCell (p := ⟨nb, m, none⟩) (Nat.le_of_eq HNB.out) _).drew).drew
  generalize (w6.setCell ⟨nb, m, none⟩ (.int .u8 (V : Int))).drew.drew = w7 at *
  generalize hzf : Dk.flip nw m x = z at *
  have HZF := Lib.hid hzf
  clear hzf
  have HD7 := Lib.hid (HD4.out.gr hgz)
  have HS7 := Lib.hid (HS4.out.trans (Sole.of_gr hgz))
  have HB47 := Lib.hid (HB44.out.gr hgz)
  have HB57 := Lib.hid (HB54.out.gr hgz)
  have HB67 := Lib.hid (HB64.out.gr hgz)
  have HA7 := Lib.hid (HA4.out.gr hgz)
  clear hgz
  have d0 : w7.cell? ⟨w.heap.size, 0, none⟩ = some (.slice (some ⟨gb, off, none⟩) 4 cap) := HB47.out.cell rfl
  have d1 : w7.cell? ⟨w.heap.size, 1, none⟩ = some (.int .i64 R) := HB47.out.cell rfl
  have d2 : w7.cell? ⟨w.heap.size, 2, none⟩ = some (.int .i64 fv) := HB47.out.cell rfl
  have a1 : w7.cell? ⟨w.heap.size + 1, 1, none⟩ = some (.int .i64 (k : Nat)) := HB57.out.cell rfl
  go_wp2_with fail
  have hrk7 : RkIs w7 (.agg #[.slice (some ⟨gb, off, none⟩) 4 cap, .int .i64 R, .int .i64 fv]) d := ⟨gb, off, cap, by rw [HR.out, HF.out], HA7.out⟩
  refine (HWT.out z _ _ hrk7).mono ?_
  rintro e w8 ⟨v8, rfl, hr8, hg8, hn8⟩
  rw [HDD.out] at hr8
  obtain ⟨g8, off8, cap8, rfl, ha8⟩ := hr8
  have HN8 : Hid (g8 = gb ∨ w.heap.size ≤ g8) := Lib.hid (.inr (Nat.le_trans HS7.out.size hn8))
  have HA8 := Lib.hid ha8
  have HD8 := Lib.hid (HD7.out.gr hg8)
  have HB48 := Lib.hid (HB47.out.gr hg8)
  have HB68 := Lib.hid (HB67.out.gr hg8)
  have HS8 := Lib.hid (HS7.out.trans (Sole.of_gr hg8))
  generalize hR8 : ((DD.room : Nat) : Int) = R8 at *
  generalize hF8 : ((DD.fail : Nat) : Int) - 1 = F8 at *
  have HR8 := Lib.hid hR8
  have HF8 := Lib.hid hF8
  clear hR8 hF8 ha8 hg8 hrk7 hn8 k1
  have HST := Lib.hid (stored (d := DD) (R := R8) (fv := F8) (cap := cap8) HB48.out HA8.out)
  have HB65 := Lib.hid (HB68.out.sole (store3_sole w8 w.heap.size (.slice (some ⟨g8, off8, none⟩) 4 cap8) (.int .i64 R8) (.int .i64 F8)) (by omega))
  have HSU := Lib.hid (stored (d := DD) (R := R8) (fv := F8) (cap := cap8) HB65.out HST.out.2)
  have HD6 := Lib.hid ((HD8.out.sole (store3_sole w8 w.heap.size (.slice (some ⟨g8, off8, none⟩) 4 cap8) (.int .i64 R8) (.int .i64 F8)) HNE.out.1.symm).sole (store3_sole _ (w.heap.size + 1 + 1) (.slice (some ⟨g8, off8, none⟩) 4 cap8) (.int .i64 R8) (.int .i64 F8)) HNE.out.2.2.symm)
  have HS6 := Lib.hid ((HS8.out.new (store3_sole w8 w.heap.size (.slice (some ⟨g8, off8, none⟩) 4 cap8) (.int .i64 R8) (.int .i64 F8)) (by omega)).new (store3_sole _ (w.heap.size + 1 + 1) (.slice (some ⟨g8, off8, none⟩) 4 cap8) (.int .i64 R8) (.int .i64 F8)) (by omega))
  have b0 : w8.cell? ⟨w.heap.size, 0, none⟩ = some (.slice (some ⟨gb, off, none⟩) 4 cap) := HB48.out.cell rfl
  have b1 : w8.cell? ⟨w.heap.size, 1, none⟩ = some (.int .i64 R) := HB48.out.cell rfl
  have b2 : w8.cell? ⟨w.heap.size, 2, none⟩ = some (.int .i64 fv) := HB48.out.cell rfl
  have f0 := HB48.out.free 0
  have f1 := HB48.out.free 1
  have f2 := HB48.out.free 2
  have x0 := HST.out.1.cell (i := 0) (v := .slice (some ⟨g8, off8, none⟩) 4 cap8) rfl
  have x1 := HST.out.1.cell (i := 1) (v := .int .i64 R8) rfl
  have x2 := HST.out.1.cell (i := 2) (v := .int .i64 F8) rfl
  have y0 := HB65.out.cell (i := 0) (v := .slice none 0 0) rfl
  have y1 := HB65.out.cell (i := 1) (v := .int .i64 0) rfl
  have y2 := HB65.out.cell (i := 2) (v := .int .i64 0) rfl
  have h0 := HB65.out.free 0
  have h1 := HB65.out.free 1
  have h2 := HB65.out.free 2
  clear d0 d1 d2 a1
  go_wp2
  have r0 := HSU.out.1.cell (i := 0) (v := .slice (some ⟨g8, off8, none⟩) 4 cap8) rfl
  have r1 := HSU.out.1.cell (i := 1) (v := .int .i64 R8) rfl
  have r2 := HSU.out.1.cell (i := 2) (v := .int .i64 F8) rfl
  refine bodyPost_ret (v := .tuple #[.agg #[.slice (some ⟨g8, off8, none⟩) 4 cap8, .int .i64 R8, .int .i64 F8], .bool true]) (by simp [results, Try.results14, go_sem, r0, r1, r2]; try rfl) rfl ?_
  exact ⟨_, rfl, HD6.out, ⟨g8, off8, cap8, by rw [HR8.out, HF8.out], HSU.out.2⟩, HS6.out, by exact HN8.out⟩
end Go.Proofs.Ytjllnojhhlkpoaa
