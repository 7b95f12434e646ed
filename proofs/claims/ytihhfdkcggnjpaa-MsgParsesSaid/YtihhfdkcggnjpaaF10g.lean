import Derived.Test.YtihhfdkcggnjpaaK3
import Derived.Test.YtihhfdkcggnjpaaF10f
import Derived.WalkKit
import Derived.ProofKit
import Derived.LoopTactic
import Derived.Outline
import Derived.WalkSpells
import Derived.WalkLawsBesides
import Derived.Lib.Hide
import Derived.Deep.LoopGhost
import Derived.Deep.QuietTactic
import Derived.BigQuiet
import Derived.ShutString
import Derived.IntWalk
import Derived.Deep.RegionHeld3
namespace Go.Proofs.Ytihhfdkcggnjpaa
open Go.ChangeShapes Go.WideShapes Go.ChangeAt Go.RowKit
open Enc Bal
set_option linter.unusedVariables false
set_option linter.unusedSimpArgs false
def insE (y : E) : List UInt8 := encN y.slot ++ (encU y.c.toNat ++ encN y.n) ++ encS (bytesOf y.text)
def inHead (frm tt sub : Int) (c n : Nat) (slot time : Int) (ok : Bool) (text : ByteArray) (m : Nat) : List UInt8 :=
  encN frm ++ encN tt ++ encN sub ++ (encU c ++ encN (n : Int)) ++ encN slot ++ encN time ++ encB ok ++ encS (bytesOf text) ++ encN (m : Int)
theorem encN_le9 (n : Int) : (encN n).length ≤ 9 := encU_le _
theorem encS_le9 (s : ByteArray) : (encS (bytesOf s)).length ≤ s.size + 9 := by unfold encS; rw [List.length_append, lenB]; have := encU_le s.size; omega
theorem insE_le (y : E) (h : y.text.size ≤ 1000) : (insE y).length ≤ 1100 := by
  unfold insE
  simp only [List.length_append]
  have := encN_le9 y.slot; have := encN_le9 y.n; have := encU_le y.c.toNat; have := encS_le9 y.text
  omega
theorem insL_le : ∀ L : List E, (∀ y ∈ L, y.text.size ≤ 1000) → (L.flatMap insE).length ≤ L.length * 1100
  | [], _ => by simp
  | y :: t, h => by
    rw [List.flatMap_cons, List.length_append, List.length_cons]
    have := insE_le y (h y (by simp)); have := insL_le t (fun z hz => h z (by simp [hz]))
    omega
theorem inHead_le (frm tt sub : Int) (c n : Nat) (slot time : Int) (ok : Bool) (text : ByteArray) (m : Nat) (h : text.size ≤ 1000) : (inHead frm tt sub c n slot time ok text m).length ≤ 1300 := by
  unfold inHead
  simp only [List.length_append]
  have := encN_le9 frm; have := encN_le9 tt; have := encN_le9 sub; have := encN_le9 (n : Int); have := encU_le c; have := encN_le9 slot; have := encN_le9 time; have := encS_le9 text; have := encN_le9 (m : Int)
  have : (encB ok).length = 1 := rfl
  omega
def EOk (y : E) : Prop := (Lit.int .i64 y.slot).wf = true ∧ 0 ≤ y.c ∧ y.c < 18446744073709551616 ∧ 0 ≤ y.n ∧ y.n ≤ 11 ∧ y.text.size ≤ 1000
set_option maxRecDepth 100000 in
set_option maxHeartbeats 4000000 in
theorem inside_any {base : Nat} {a : Option Addr} {q : Nat} (kd frm tt sub : Int) (c n : Nat) (slot time : Int) (ok : Bool) (text : ByteArray) (L : List E) (w : World) (h : w.ownsRow base 164 4 (.slice a L.length q) L.length (rcells encE L)) (hl : L.length ≤ 100)
    (w0 : (Lit.int .i64 frm).wf = true) (w1 : (Lit.int .i64 tt).wf = true) (w2 : (Lit.int .i64 sub).wf = true) (w3 : (Lit.int .i64 slot).wf = true) (w4 : (Lit.int .i64 time).wf = true) (hc : c < 18446744073709551616) (hn : n ≤ 11) (ht : text.size ≤ 1000) (hE : ∀ y ∈ L, EOk y) :
    Calls Try.prog 103 #[.agg #[.int .i64 kd, .int .i64 frm, .int .i64 tt, .int .i64 sub, .int .u64 (c : Nat), .int .i64 (n : Nat), .int .i64 slot, .int .i64 time, .bool ok, .string text, .slice a L.length q]] w fun e w' => e = .returned (.string (ofL (inHead frm tt sub c n slot time ok text L.length ++ L.flatMap insE))) ∧ Gr w w' := by
  have HR := Lib.hid fun w9 (hg : Gr w w9) k hk => erow_T (ownsRow_gr hg h) k hk
  have HA := Lib.hid ((Gr.refl w).alloc (.cells #[.int .i64 kd, .int .i64 frm, .int .i64 tt, .int .i64 sub, .int .u64 (c : Nat), .int .i64 (n : Nat), .int .i64 slot, .int .i64 time, .bool ok, .string text, .slice a L.length q] 81))
  have HE := Lib.hid hE
  have HL := Lib.hid hl
  have HHL := Lib.hid (inHead_le frm tt sub c n slot time ok text L.length ht)
  have N0 := Lib.hid (fun w => refN_any frm w w0)
  have N1 := Lib.hid (fun w => refN_any tt w w1)
  have N2 := Lib.hid (fun w => refN_any sub w w2)
  have NP := Lib.hid (fun w => refPut_any c n w hc hn)
  have N3 := Lib.hid (fun w => refN_any slot w w3)
  have N4 := Lib.hid (fun w => refN_any time w w4)
  have NB := Lib.hid (fun w => refB10_any ok w)
  have NS1 := Lib.hid (fun w => refS10_any text w (by omega))
  have N5 := Lib.hid (fun w => refN_any (L.length : Int) w (WalkArith.wf_i64 (by omega)))
  have s0 : (ofL (encN frm)).size ≤ 9 := by rw [ofL_size]; exact encN_le9 _
  have s1 : (ofL (encN tt)).size ≤ 9 := by rw [ofL_size]; exact encN_le9 _
  have s2 : (ofL (encN sub)).size ≤ 9 := by rw [ofL_size]; exact encN_le9 _
  have s3 : (ofL (encU c ++ encN (n : Int))).size ≤ 18 := by rw [ofL_size, List.length_append]; have := encU_le c; have := encN_le9 (n : Int); omega
  have s4 : (ofL (encN slot)).size ≤ 9 := by rw [ofL_size]; exact encN_le9 _
  have s5 : (ofL (encN time)).size ≤ 9 := by rw [ofL_size]; exact encN_le9 _
  have s6 : (ofL (encB ok)).size ≤ 9 := by rw [ofL_size]; show 1 ≤ 9; omega
  have s7 : (ofL (encS (bytesOf text))).size ≤ 1009 := by rw [ofL_size]; have := encS_le9 text; omega
  have s8 : (ofL (encN (L.length : Int))).size ≤ 9 := by rw [ofL_size]; exact encN_le9 _
  have HH := Lib.hid (rfl : inHead frm tt sub c n slot time ok text L.length = inHead frm tt sub c n slot time ok text L.length)
  have hV : ((((((((ofL (encN frm) ++ ofL (encN tt)) ++ ofL (encN sub)) ++ ofL (encU c ++ encN (n : Int))) ++ ofL (encN slot)) ++ ofL (encN time)) ++ ofL (encB ok)) ++ ofL (encS (bytesOf text))) ++ ofL (encN (L.length : Int))) = ofL (inHead frm tt sub c n slot time ok text L.length) := by
    simp only [ofL_app]; rfl
  have HV := Lib.hid hV
  clear hV h hE hl w0 w1 w2 w3 w4 hc hn ht
  generalize ofL (encN frm) = X0 at *
  generalize ofL (encN tt) = X1 at *
  generalize ofL (encN sub) = X2 at *
  generalize ofL (encU c ++ encN (n : Int)) = X3 at *
  generalize ofL (encN slot) = X4 at *
  generalize ofL (encN time) = X5 at *
  generalize ofL (encB ok) = X6 at *
  generalize ofL (encS (bytesOf text)) = X7 at *
  generalize ofL (encN (L.length : Int)) = X8 at *
  go_enter Try.func103, Try.ntmps103
  go_wp2
  have hz := Gr.refl (w.alloc (.cells #[.int .i64 kd, .int .i64 frm, .int .i64 tt, .int .i64 sub, .int .u64 (c : Nat), .int .i64 (n : Nat), .int .i64 slot, .int .i64 time, .bool ok, .string text, .slice a L.length q] 81))
  have k0 := hz.own.1 0 _ rfl
  have k1 := hz.own.1 1 _ rfl
  have k2 := hz.own.1 2 _ rfl
  have k3 := hz.own.1 3 _ rfl
  have k4 := hz.own.1 4 _ rfl
  have k5 := hz.own.1 5 _ rfl
  have k6 := hz.own.1 6 _ rfl
  have k7 := hz.own.1 7 _ rfl
  have k8 := hz.own.1 8 _ rfl
  have k9 := hz.own.1 9 _ rfl
  have k10 := hz.own.1 10 _ rfl
  clear hz
  generalize w.heap.size = b at *
  generalize w.alloc (.cells #[.int .i64 kd, .int .i64 frm, .int .i64 tt, .int .i64 sub, .int .u64 (c : Nat), .int .i64 (n : Nat), .int .i64 slot, .int .i64 time, .bool ok, .string text, .slice a L.length q] 81) = wz at *
  have HX1 : Hid (∀ w0 w9 : World, Gr w0 w9 → (fun w9 => Gr wz w9 ∧ w9.cell? ⟨b, 0, none⟩ = some (.int .i64 kd) ∧ w9.cell? ⟨b, 1, none⟩ = some (.int .i64 frm) ∧ w9.cell? ⟨b, 2, none⟩ = some (.int .i64 tt) ∧ w9.cell? ⟨b, 3, none⟩ = some (.int .i64 sub) ∧ w9.cell? ⟨b, 4, none⟩ = some (.int .u64 (c : Nat)) ∧ w9.cell? ⟨b, 5, none⟩ = some (.int .i64 (n : Nat)) ∧ w9.cell? ⟨b, 6, none⟩ = some (.int .i64 slot) ∧ w9.cell? ⟨b, 7, none⟩ = some (.int .i64 time) ∧ w9.cell? ⟨b, 8, none⟩ = some (.bool ok) ∧ w9.cell? ⟨b, 9, none⟩ = some (.string text) ∧ w9.cell? ⟨b, 10, none⟩ = some (.slice a L.length q)) w0 → (fun w9 => Gr wz w9 ∧ w9.cell? ⟨b, 0, none⟩ = some (.int .i64 kd) ∧ w9.cell? ⟨b, 1, none⟩ = some (.int .i64 frm) ∧ w9.cell? ⟨b, 2, none⟩ = some (.int .i64 tt) ∧ w9.cell? ⟨b, 3, none⟩ = some (.int .i64 sub) ∧ w9.cell? ⟨b, 4, none⟩ = some (.int .u64 (c : Nat)) ∧ w9.cell? ⟨b, 5, none⟩ = some (.int .i64 (n : Nat)) ∧ w9.cell? ⟨b, 6, none⟩ = some (.int .i64 slot) ∧ w9.cell? ⟨b, 7, none⟩ = some (.int .i64 time) ∧ w9.cell? ⟨b, 8, none⟩ = some (.bool ok) ∧ w9.cell? ⟨b, 9, none⟩ = some (.string text) ∧ w9.cell? ⟨b, 10, none⟩ = some (.slice a L.length q)) w9) := Lib.hid fun w0 w9 hg ⟨h, q0, q1, q2, q3, q4, q5, q6, q7, q8, q9, q10⟩ => ⟨h.trans hg, hg.cell q0, hg.cell q1, hg.cell q2, hg.cell q3, hg.cell q4, hg.cell q5, hg.cell q6, hg.cell q7, hg.cell q8, hg.cell q9, hg.cell q10⟩
  have HS1 := And.intro (Gr.refl wz) (And.intro (k0) (And.intro (k1) (And.intro (k2) (And.intro (k3) (And.intro (k4) (And.intro (k5) (And.intro (k6) (And.intro (k7) (And.intro (k8) (And.intro (k9) (k10)))))))))))
  clear k0 k1 k2 k3 k4 k5 k6 k7 k8 k9 k10
  refine wp_region_held_drew (S := (fun w9 => Gr wz w9 ∧ w9.cell? ⟨b, 0, none⟩ = some (.int .i64 kd) ∧ w9.cell? ⟨b, 1, none⟩ = some (.int .i64 frm) ∧ w9.cell? ⟨b, 2, none⟩ = some (.int .i64 tt) ∧ w9.cell? ⟨b, 3, none⟩ = some (.int .i64 sub) ∧ w9.cell? ⟨b, 4, none⟩ = some (.int .u64 (c : Nat)) ∧ w9.cell? ⟨b, 5, none⟩ = some (.int .i64 (n : Nat)) ∧ w9.cell? ⟨b, 6, none⟩ = some (.int .i64 slot) ∧ w9.cell? ⟨b, 7, none⟩ = some (.int .i64 time) ∧ w9.cell? ⟨b, 8, none⟩ = some (.bool ok) ∧ w9.cell? ⟨b, 9, none⟩ = some (.string text) ∧ w9.cell? ⟨b, 10, none⟩ = some (.slice a L.length q))) (by kernel_rfl) ?inva (fun h0 => ?_)
  case inva => ((try dsimp only); (first | exact HS1 | exact HX1.out _ _ ((Gr.refl _).drew) HS1))
  refine wpAnyH_take (i := 0) (oi := { dst := some 6, op := Go.Op.fieldAddr 81 (Go.Operand.tmp 1) 1, type := 0, pos := "ref.go:66", after := #[], guard := none }) (v := ?va1) rfl (by kernel_rfl) (by kernel_rfl) (by kernel_rfl) (fun _ _ _ h => h) (Or.inl ⟨by rfl, ?ra1⟩) (by assumption) ?_
  case ra1 => (intro w hSw; (try dsimp only at hSw); (go_simp <;> with_reducible rfl))
  try simp only [Act.put, List.setIfInBounds_toArray, List.set_cons_zero, List.set_cons_succ]
  refine wpAnyH_take (i := 1) (oi := { dst := some 7, op := Go.Op.load 3 (Go.Operand.tmp 6), type := 3, pos := "ref.go:66", after := #[{ on := 0, ground := Go.Ground.data }], guard := none }) (v := ?va2) rfl (by kernel_rfl) (by kernel_rfl) (by kernel_rfl) (fun _ _ _ h => h) (Or.inl ⟨by rfl, ?ra2⟩) (by assumption) ?_
  case ra2 => (intro w hSw; (try dsimp only at hSw); (go_simp <;> with_reducible rfl))
  try simp only [Act.put, List.setIfInBounds_toArray, List.set_cons_zero, List.set_cons_succ]
  refine wpAnyH_take (i := 3) (oi := { dst := some 9, op := Go.Op.fieldAddr 81 (Go.Operand.tmp 1) 2, type := 0, pos := "ref.go:66", after := #[], guard := none }) (v := ?va3) rfl (by kernel_rfl) (by kernel_rfl) (by kernel_rfl) (fun _ _ _ h => h) (Or.inl ⟨by rfl, ?ra3⟩) (by assumption) ?_
  case ra3 => (intro w hSw; (try dsimp only at hSw); (go_simp <;> with_reducible rfl))
  try simp only [Act.put, List.setIfInBounds_toArray, List.set_cons_zero, List.set_cons_succ]
  refine wpAnyH_take (i := 4) (oi := { dst := some 10, op := Go.Op.load 3 (Go.Operand.tmp 9), type := 3, pos := "ref.go:66", after := #[{ on := 3, ground := Go.Ground.data }], guard := none }) (v := ?va4) rfl (by kernel_rfl) (by kernel_rfl) (by kernel_rfl) (fun _ _ _ h => h) (Or.inl ⟨by rfl, ?ra4⟩) (by assumption) ?_
  case ra4 => (intro w hSw; (try dsimp only at hSw); (go_simp <;> with_reducible rfl))
  try simp only [Act.put, List.setIfInBounds_toArray, List.set_cons_zero, List.set_cons_succ]
  refine wpAnyH_take (i := 7) (oi := { dst := some 13, op := Go.Op.fieldAddr 81 (Go.Operand.tmp 1) 3, type := 0, pos := "ref.go:66", after := #[], guard := none }) (v := ?va5) rfl (by kernel_rfl) (by kernel_rfl) (by kernel_rfl) (fun _ _ _ h => h) (Or.inl ⟨by rfl, ?ra5⟩) (by assumption) ?_
  case ra5 => (intro w hSw; (try dsimp only at hSw); (go_simp <;> with_reducible rfl))
  try simp only [Act.put, List.setIfInBounds_toArray, List.set_cons_zero, List.set_cons_succ]
  refine wpAnyH_take (i := 8) (oi := { dst := some 14, op := Go.Op.load 3 (Go.Operand.tmp 13), type := 3, pos := "ref.go:66", after := #[{ on := 7, ground := Go.Ground.data }], guard := none }) (v := ?va6) rfl (by kernel_rfl) (by kernel_rfl) (by kernel_rfl) (fun _ _ _ h => h) (Or.inl ⟨by rfl, ?ra6⟩) (by assumption) ?_
  case ra6 => (intro w hSw; (try dsimp only at hSw); (go_simp <;> with_reducible rfl))
  try simp only [Act.put, List.setIfInBounds_toArray, List.set_cons_zero, List.set_cons_succ]
  refine wpAnyH_take (i := 11) (oi := { dst := some 17, op := Go.Op.fieldAddr 81 (Go.Operand.tmp 1) 4, type := 0, pos := "ref.go:66", after := #[], guard := none }) (v := ?va7) rfl (by kernel_rfl) (by kernel_rfl) (by kernel_rfl) (fun _ _ _ h => h) (Or.inl ⟨by rfl, ?ra7⟩) (by assumption) ?_
  case ra7 => (intro w hSw; (try dsimp only at hSw); (go_simp <;> with_reducible rfl))
  try simp only [Act.put, List.setIfInBounds_toArray, List.set_cons_zero, List.set_cons_succ]
  refine wpAnyH_take (i := 12) (oi := { dst := some 18, op := Go.Op.load 78 (Go.Operand.tmp 17), type := 78, pos := "ref.go:66", after := #[{ on := 11, ground := Go.Ground.data }], guard := none }) (v := ?va8) rfl (by kernel_rfl) (by kernel_rfl) (by kernel_rfl) (fun _ _ _ h => h) (Or.inl ⟨by rfl, ?ra8⟩) (by assumption) ?_
  case ra8 => (intro w hSw; (try dsimp only at hSw); (go_simp <;> with_reducible rfl))
  try simp only [Act.put, List.setIfInBounds_toArray, List.set_cons_zero, List.set_cons_succ]
  refine wpAnyH_take (i := 15) (oi := { dst := some 21, op := Go.Op.fieldAddr 81 (Go.Operand.tmp 1) 5, type := 0, pos := "ref.go:66", after := #[], guard := none }) (v := ?va9) rfl (by kernel_rfl) (by kernel_rfl) (by kernel_rfl) (fun _ _ _ h => h) (Or.inl ⟨by rfl, ?ra9⟩) (by assumption) ?_
  case ra9 => (intro w hSw; (try dsimp only at hSw); (go_simp <;> with_reducible rfl))
  try simp only [Act.put, List.setIfInBounds_toArray, List.set_cons_zero, List.set_cons_succ]
  refine wpAnyH_take (i := 16) (oi := { dst := some 22, op := Go.Op.load 3 (Go.Operand.tmp 21), type := 3, pos := "ref.go:66", after := #[{ on := 15, ground := Go.Ground.data }], guard := none }) (v := ?va10) rfl (by kernel_rfl) (by kernel_rfl) (by kernel_rfl) (fun _ _ _ h => h) (Or.inl ⟨by rfl, ?ra10⟩) (by assumption) ?_
  case ra10 => (intro w hSw; (try dsimp only at hSw); (go_simp <;> with_reducible rfl))
  try simp only [Act.put, List.setIfInBounds_toArray, List.set_cons_zero, List.set_cons_succ]
  refine wpAnyH_take (i := 19) (oi := { dst := some 25, op := Go.Op.fieldAddr 81 (Go.Operand.tmp 1) 6, type := 0, pos := "ref.go:66", after := #[], guard := none }) (v := ?va11) rfl (by kernel_rfl) (by kernel_rfl) (by kernel_rfl) (fun _ _ _ h => h) (Or.inl ⟨by rfl, ?ra11⟩) (by assumption) ?_
  case ra11 => (intro w hSw; (try dsimp only at hSw); (go_simp <;> with_reducible rfl))
  try simp only [Act.put, List.setIfInBounds_toArray, List.set_cons_zero, List.set_cons_succ]
  refine wpAnyH_take (i := 20) (oi := { dst := some 26, op := Go.Op.load 3 (Go.Operand.tmp 25), type := 3, pos := "ref.go:66", after := #[{ on := 19, ground := Go.Ground.data }], guard := none }) (v := ?va12) rfl (by kernel_rfl) (by kernel_rfl) (by kernel_rfl) (fun _ _ _ h => h) (Or.inl ⟨by rfl, ?ra12⟩) (by assumption) ?_
  case ra12 => (intro w hSw; (try dsimp only at hSw); (go_simp <;> with_reducible rfl))
  try simp only [Act.put, List.setIfInBounds_toArray, List.set_cons_zero, List.set_cons_succ]
  refine wpAnyH_take (i := 23) (oi := { dst := some 29, op := Go.Op.fieldAddr 81 (Go.Operand.tmp 1) 7, type := 0, pos := "ref.go:66", after := #[], guard := none }) (v := ?va13) rfl (by kernel_rfl) (by kernel_rfl) (by kernel_rfl) (fun _ _ _ h => h) (Or.inl ⟨by rfl, ?ra13⟩) (by assumption) ?_
  case ra13 => (intro w hSw; (try dsimp only at hSw); (go_simp <;> with_reducible rfl))
  try simp only [Act.put, List.setIfInBounds_toArray, List.set_cons_zero, List.set_cons_succ]
  refine wpAnyH_take (i := 24) (oi := { dst := some 30, op := Go.Op.load 4 (Go.Operand.tmp 29), type := 4, pos := "ref.go:66", after := #[{ on := 23, ground := Go.Ground.data }], guard := none }) (v := ?va14) rfl (by kernel_rfl) (by kernel_rfl) (by kernel_rfl) (fun _ _ _ h => h) (Or.inl ⟨by rfl, ?ra14⟩) (by assumption) ?_
  case ra14 => (intro w hSw; (try dsimp only at hSw); (go_simp <;> with_reducible rfl))
  try simp only [Act.put, List.setIfInBounds_toArray, List.set_cons_zero, List.set_cons_succ]
  refine wpAnyH_take (i := 27) (oi := { dst := some 33, op := Go.Op.fieldAddr 81 (Go.Operand.tmp 1) 8, type := 0, pos := "ref.go:66", after := #[], guard := none }) (v := ?va15) rfl (by kernel_rfl) (by kernel_rfl) (by kernel_rfl) (fun _ _ _ h => h) (Or.inl ⟨by rfl, ?ra15⟩) (by assumption) ?_
  case ra15 => (intro w hSw; (try dsimp only at hSw); (go_simp <;> with_reducible rfl))
  try simp only [Act.put, List.setIfInBounds_toArray, List.set_cons_zero, List.set_cons_succ]
  refine wpAnyH_take (i := 28) (oi := { dst := some 34, op := Go.Op.load 9 (Go.Operand.tmp 33), type := 9, pos := "ref.go:66", after := #[{ on := 27, ground := Go.Ground.data }], guard := none }) (v := ?va16) rfl (by kernel_rfl) (by kernel_rfl) (by kernel_rfl) (fun _ _ _ h => h) (Or.inl ⟨by rfl, ?ra16⟩) (by assumption) ?_
  case ra16 => (intro w hSw; (try dsimp only at hSw); (go_simp <;> with_reducible rfl))
  try simp only [Act.put, List.setIfInBounds_toArray, List.set_cons_zero, List.set_cons_succ]
  refine wpAnyH_take (i := 31) (oi := { dst := some 37, op := Go.Op.fieldAddr 81 (Go.Operand.tmp 1) 9, type := 0, pos := "ref.go:66", after := #[], guard := none }) (v := ?va17) rfl (by kernel_rfl) (by kernel_rfl) (by kernel_rfl) (fun _ _ _ h => h) (Or.inl ⟨by rfl, ?ra17⟩) (by assumption) ?_
  case ra17 => (intro w hSw; (try dsimp only at hSw); (go_simp <;> with_reducible rfl))
  try simp only [Act.put, List.setIfInBounds_toArray, List.set_cons_zero, List.set_cons_succ]
  refine wpAnyH_take (i := 32) (oi := { dst := some 38, op := Go.Op.load 79 (Go.Operand.tmp 37), type := 79, pos := "ref.go:66", after := #[{ on := 31, ground := Go.Ground.data }], guard := none }) (v := ?va18) rfl (by kernel_rfl) (by kernel_rfl) (by kernel_rfl) (fun _ _ _ h => h) (Or.inl ⟨by rfl, ?ra18⟩) (by assumption) ?_
  case ra18 => (intro w hSw; (try dsimp only at hSw); (go_simp <;> with_reducible rfl))
  try simp only [Act.put, List.setIfInBounds_toArray, List.set_cons_zero, List.set_cons_succ]
  refine wpAnyH_take (i := 33) (oi := { dst := some 39, op := Go.Op.call { callee := Go.Callee.builtin Go.Builtin.len, args := #[Go.Operand.tmp 38], argTypes := #[79] }, type := 3, pos := "ref.go:66", after := #[{ on := 32, ground := Go.Ground.data }], guard := none }) (v := ?va19) rfl (by kernel_rfl) (by kernel_rfl) (by kernel_rfl) (fun _ _ _ h => h) (Or.inl ⟨by rfl, ?ra19⟩) (by assumption) ?_
  case ra19 => (intro w hSw; (try dsimp only at hSw); (go_simp <;> with_reducible rfl))
  try simp only [Act.put, List.setIfInBounds_toArray, List.set_cons_zero, List.set_cons_succ]
  refine wpAnyH_ready (rs := [2]) (by kernel_rfl) (by simp) ?_
  refine AllReadyH.cons (o := { dst := some 8, op := Go.Op.call { callee := Go.Callee.value (Go.Operand.func 134), args := #[Go.Operand.tmp 7], argTypes := #[3] }, type := 9, pos := "ref.go:66", after := #[{ on := 1, ground := Go.Ground.data }], guard := none }) rfl (fun K hK => ?_) AllReadyH.nil
  go_simp
  (go_at_call 134; refine (N0.out _).mono ?_; rintro e w9 ⟨rfl, hgN⟩)
  first | refine hK.out _ _ ?sa20 (fun h20 => ?_) | (go_wp2_with fail; refine hK.out _ _ ?sa20 (fun h20 => ?_))
  case sa20 => ((try dsimp only); exact HX1.out _ _ hgN h0)
  clear hK K h0
  try simp only [Act.put, List.setIfInBounds_toArray, List.set_cons_zero, List.set_cons_succ]
  refine wpAnyH_ready (rs := [5]) (by kernel_rfl) (by simp) ?_
  refine AllReadyH.cons (o := { dst := some 11, op := Go.Op.call { callee := Go.Callee.value (Go.Operand.func 134), args := #[Go.Operand.tmp 10], argTypes := #[3] }, type := 9, pos := "ref.go:66", after := #[{ on := 4, ground := Go.Ground.data }, { on := 2, ground := Go.Ground.chain }], guard := none }) rfl (fun K hK => ?_) AllReadyH.nil
  go_simp
  (go_at_call 134; refine (N1.out _).mono ?_; rintro e w9 ⟨rfl, hgN⟩)
  first | refine hK.out _ _ ?sa21 (fun h21 => ?_) | (go_wp2_with fail; refine hK.out _ _ ?sa21 (fun h21 => ?_))
  case sa21 => ((try dsimp only); exact HX1.out _ _ hgN h20)
  clear hK K h20
  try simp only [Act.put, List.setIfInBounds_toArray, List.set_cons_zero, List.set_cons_succ]
  refine wpAnyH_take (i := 6) (oi := { dst := some 12, op := Go.Op.binOp Go.BinOp.add 9 (Go.Operand.tmp 8) (Go.Operand.tmp 11) 9, type := 9, pos := "ref.go:66", after := #[{ on := 2, ground := Go.Ground.data }, { on := 5, ground := Go.Ground.data }], guard := none }) (v := (.string (X0 ++ X1))) rfl (by kernel_rfl) (by kernel_rfl) (by kernel_rfl) (fun _ _ _ h => h) (Or.inl ⟨by rfl, ?ra22⟩) (by assumption) ?_
  case ra22 => (intro w hSw; (try dsimp only at hSw); go_simp; first | omega | (simp only [ByteArray.size_append]; omega) | (simp; omega))
  try simp only [Act.put, List.setIfInBounds_toArray, List.set_cons_zero, List.set_cons_succ]
  refine wpAnyH_ready (rs := [9]) (by kernel_rfl) (by simp) ?_
  refine AllReadyH.cons (o := { dst := some 15, op := Go.Op.call { callee := Go.Callee.value (Go.Operand.func 134), args := #[Go.Operand.tmp 14], argTypes := #[3] }, type := 9, pos := "ref.go:66", after := #[{ on := 8, ground := Go.Ground.data }, { on := 5, ground := Go.Ground.chain }], guard := none }) rfl (fun K hK => ?_) AllReadyH.nil
  go_simp
  (go_at_call 134; refine (N2.out _).mono ?_; rintro e w9 ⟨rfl, hgN⟩)
  first | refine hK.out _ _ ?sa23 (fun h23 => ?_) | (go_wp2_with fail; refine hK.out _ _ ?sa23 (fun h23 => ?_))
  case sa23 => ((try dsimp only); exact HX1.out _ _ hgN h21)
  clear hK K h21
  try simp only [Act.put, List.setIfInBounds_toArray, List.set_cons_zero, List.set_cons_succ]
  refine wpAnyH_take (i := 10) (oi := { dst := some 16, op := Go.Op.binOp Go.BinOp.add 9 (Go.Operand.tmp 12) (Go.Operand.tmp 15) 9, type := 9, pos := "ref.go:66", after := #[{ on := 6, ground := Go.Ground.data }, { on := 9, ground := Go.Ground.data }], guard := none }) (v := (.string ((X0 ++ X1) ++ X2))) rfl (by kernel_rfl) (by kernel_rfl) (by kernel_rfl) (fun _ _ _ h => h) (Or.inl ⟨by rfl, ?ra24⟩) (by assumption) ?_
  case ra24 => (intro w hSw; (try dsimp only at hSw); go_simp; first | omega | (simp only [ByteArray.size_append]; omega) | (simp; omega))
  try simp only [Act.put, List.setIfInBounds_toArray, List.set_cons_zero, List.set_cons_succ]
  refine wpAnyH_ready (rs := [13]) (by kernel_rfl) (by simp) ?_
  refine AllReadyH.cons (o := { dst := some 19, op := Go.Op.call { callee := Go.Callee.value (Go.Operand.func 133), args := #[Go.Operand.tmp 18], argTypes := #[78] }, type := 9, pos := "ref.go:66", after := #[{ on := 12, ground := Go.Ground.data }, { on := 9, ground := Go.Ground.chain }], guard := none }) rfl (fun K hK => ?_) AllReadyH.nil
  go_simp
  (go_at_call 133; refine (NP.out _).mono ?_; rintro e w9 ⟨rfl, hgN⟩)
  first | refine hK.out _ _ ?sa25 (fun h25 => ?_) | (go_wp2_with fail; refine hK.out _ _ ?sa25 (fun h25 => ?_))
  case sa25 => ((try dsimp only); exact HX1.out _ _ hgN h23)
  clear hK K h23
  try simp only [Act.put, List.setIfInBounds_toArray, List.set_cons_zero, List.set_cons_succ]
  refine wpAnyH_take (i := 14) (oi := { dst := some 20, op := Go.Op.binOp Go.BinOp.add 9 (Go.Operand.tmp 16) (Go.Operand.tmp 19) 9, type := 9, pos := "ref.go:66", after := #[{ on := 10, ground := Go.Ground.data }, { on := 13, ground := Go.Ground.data }], guard := none }) (v := (.string (((X0 ++ X1) ++ X2) ++ X3))) rfl (by kernel_rfl) (by kernel_rfl) (by kernel_rfl) (fun _ _ _ h => h) (Or.inl ⟨by rfl, ?ra26⟩) (by assumption) ?_
  case ra26 => (intro w hSw; (try dsimp only at hSw); go_simp; first | omega | (simp only [ByteArray.size_append]; omega) | (simp; omega))
  try simp only [Act.put, List.setIfInBounds_toArray, List.set_cons_zero, List.set_cons_succ]
  refine wpAnyH_ready (rs := [17]) (by kernel_rfl) (by simp) ?_
  refine AllReadyH.cons (o := { dst := some 23, op := Go.Op.call { callee := Go.Callee.value (Go.Operand.func 134), args := #[Go.Operand.tmp 22], argTypes := #[3] }, type := 9, pos := "ref.go:66", after := #[{ on := 16, ground := Go.Ground.data }, { on := 13, ground := Go.Ground.chain }], guard := none }) rfl (fun K hK => ?_) AllReadyH.nil
  go_simp
  (go_at_call 134; refine (N3.out _).mono ?_; rintro e w9 ⟨rfl, hgN⟩)
  first | refine hK.out _ _ ?sa27 (fun h27 => ?_) | (go_wp2_with fail; refine hK.out _ _ ?sa27 (fun h27 => ?_))
  case sa27 => ((try dsimp only); exact HX1.out _ _ hgN h25)
  clear hK K h25
  try simp only [Act.put, List.setIfInBounds_toArray, List.set_cons_zero, List.set_cons_succ]
  refine wpAnyH_take (i := 18) (oi := { dst := some 24, op := Go.Op.binOp Go.BinOp.add 9 (Go.Operand.tmp 20) (Go.Operand.tmp 23) 9, type := 9, pos := "ref.go:66", after := #[{ on := 14, ground := Go.Ground.data }, { on := 17, ground := Go.Ground.data }], guard := none }) (v := (.string ((((X0 ++ X1) ++ X2) ++ X3) ++ X4))) rfl (by kernel_rfl) (by kernel_rfl) (by kernel_rfl) (fun _ _ _ h => h) (Or.inl ⟨by rfl, ?ra28⟩) (by assumption) ?_
  case ra28 => (intro w hSw; (try dsimp only at hSw); go_simp; first | omega | (simp only [ByteArray.size_append]; omega) | (simp; omega))
  try simp only [Act.put, List.setIfInBounds_toArray, List.set_cons_zero, List.set_cons_succ]
  refine wpAnyH_ready (rs := [21]) (by kernel_rfl) (by simp) ?_
  refine AllReadyH.cons (o := { dst := some 27, op := Go.Op.call { callee := Go.Callee.value (Go.Operand.func 134), args := #[Go.Operand.tmp 26], argTypes := #[3] }, type := 9, pos := "ref.go:66", after := #[{ on := 20, ground := Go.Ground.data }, { on := 17, ground := Go.Ground.chain }], guard := none }) rfl (fun K hK => ?_) AllReadyH.nil
  go_simp
  (go_at_call 134; refine (N4.out _).mono ?_; rintro e w9 ⟨rfl, hgN⟩)
  first | refine hK.out _ _ ?sa29 (fun h29 => ?_) | (go_wp2_with fail; refine hK.out _ _ ?sa29 (fun h29 => ?_))
  case sa29 => ((try dsimp only); exact HX1.out _ _ hgN h27)
  clear hK K h27
  try simp only [Act.put, List.setIfInBounds_toArray, List.set_cons_zero, List.set_cons_succ]
  refine wpAnyH_take (i := 22) (oi := { dst := some 28, op := Go.Op.binOp Go.BinOp.add 9 (Go.Operand.tmp 24) (Go.Operand.tmp 27) 9, type := 9, pos := "ref.go:66", after := #[{ on := 18, ground := Go.Ground.data }, { on := 21, ground := Go.Ground.data }], guard := none }) (v := (.string (((((X0 ++ X1) ++ X2) ++ X3) ++ X4) ++ X5))) rfl (by kernel_rfl) (by kernel_rfl) (by kernel_rfl) (fun _ _ _ h => h) (Or.inl ⟨by rfl, ?ra30⟩) (by assumption) ?_
  case ra30 => (intro w hSw; (try dsimp only at hSw); go_simp; first | omega | (simp only [ByteArray.size_append]; omega) | (simp; omega))
  try simp only [Act.put, List.setIfInBounds_toArray, List.set_cons_zero, List.set_cons_succ]
  refine wpAnyH_ready (rs := [25]) (by kernel_rfl) (by simp) ?_
  refine AllReadyH.cons (o := { dst := some 31, op := Go.Op.call { callee := Go.Callee.value (Go.Operand.func 163), args := #[Go.Operand.tmp 30], argTypes := #[4] }, type := 9, pos := "ref.go:66", after := #[{ on := 24, ground := Go.Ground.data }, { on := 21, ground := Go.Ground.chain }], guard := none }) rfl (fun K hK => ?_) AllReadyH.nil
  go_simp
  (go_at_call 163; refine (NB.out _).mono ?_; rintro e w9 ⟨rfl, hgN⟩)
  first | refine hK.out _ _ ?sa31 (fun h31 => ?_) | (go_wp2_with fail; refine hK.out _ _ ?sa31 (fun h31 => ?_))
  case sa31 => ((try dsimp only); exact HX1.out _ _ hgN h29)
  clear hK K h29
  try simp only [Act.put, List.setIfInBounds_toArray, List.set_cons_zero, List.set_cons_succ]
  refine wpAnyH_take (i := 26) (oi := { dst := some 32, op := Go.Op.binOp Go.BinOp.add 9 (Go.Operand.tmp 28) (Go.Operand.tmp 31) 9, type := 9, pos := "ref.go:66", after := #[{ on := 22, ground := Go.Ground.data }, { on := 25, ground := Go.Ground.data }], guard := none }) (v := (.string ((((((X0 ++ X1) ++ X2) ++ X3) ++ X4) ++ X5) ++ X6))) rfl (by kernel_rfl) (by kernel_rfl) (by kernel_rfl) (fun _ _ _ h => h) (Or.inl ⟨by rfl, ?ra32⟩) (by assumption) ?_
  case ra32 => (intro w hSw; (try dsimp only at hSw); go_simp; first | omega | (simp only [ByteArray.size_append]; omega) | (simp; omega))
  try simp only [Act.put, List.setIfInBounds_toArray, List.set_cons_zero, List.set_cons_succ]
  refine wpAnyH_ready (rs := [29]) (by kernel_rfl) (by simp) ?_
  refine AllReadyH.cons (o := { dst := some 35, op := Go.Op.call { callee := Go.Callee.value (Go.Operand.func 135), args := #[Go.Operand.tmp 34], argTypes := #[9] }, type := 9, pos := "ref.go:66", after := #[{ on := 28, ground := Go.Ground.data }, { on := 25, ground := Go.Ground.chain }], guard := none }) rfl (fun K hK => ?_) AllReadyH.nil
  go_simp
  (go_at_call 135; refine (NS1.out _).mono ?_; rintro e w9 ⟨rfl, hgN⟩)
  first | refine hK.out _ _ ?sa33 (fun h33 => ?_) | (go_wp2_with fail; refine hK.out _ _ ?sa33 (fun h33 => ?_))
  case sa33 => ((try dsimp only); exact HX1.out _ _ hgN h31)
  clear hK K h31
  try simp only [Act.put, List.setIfInBounds_toArray, List.set_cons_zero, List.set_cons_succ]
  refine wpAnyH_take (i := 30) (oi := { dst := some 36, op := Go.Op.binOp Go.BinOp.add 9 (Go.Operand.tmp 32) (Go.Operand.tmp 35) 9, type := 9, pos := "ref.go:66", after := #[{ on := 26, ground := Go.Ground.data }, { on := 29, ground := Go.Ground.data }], guard := none }) (v := (.string (((((((X0 ++ X1) ++ X2) ++ X3) ++ X4) ++ X5) ++ X6) ++ X7))) rfl (by kernel_rfl) (by kernel_rfl) (by kernel_rfl) (fun _ _ _ h => h) (Or.inl ⟨by rfl, ?ra34⟩) (by assumption) ?_
  case ra34 => (intro w hSw; (try dsimp only at hSw); go_simp; first | omega | (simp only [ByteArray.size_append]; omega) | (simp; omega))
  try simp only [Act.put, List.setIfInBounds_toArray, List.set_cons_zero, List.set_cons_succ]
  refine wpAnyH_ready (rs := [34]) (by kernel_rfl) (by simp) ?_
  refine AllReadyH.cons (o := { dst := some 40, op := Go.Op.call { callee := Go.Callee.value (Go.Operand.func 134), args := #[Go.Operand.tmp 39], argTypes := #[3] }, type := 9, pos := "ref.go:66", after := #[{ on := 33, ground := Go.Ground.data }, { on := 29, ground := Go.Ground.chain }], guard := none }) rfl (fun K hK => ?_) AllReadyH.nil
  go_simp
  (go_at_call 134; refine (N5.out _).mono ?_; rintro e w9 ⟨rfl, hgN⟩)
  first | refine hK.out _ _ ?sa35 (fun h35 => ?_) | (go_wp2_with fail; refine hK.out _ _ ?sa35 (fun h35 => ?_))
  case sa35 => ((try dsimp only); exact HX1.out _ _ hgN h33)
  clear hK K h33
  try simp only [Act.put, List.setIfInBounds_toArray, List.set_cons_zero, List.set_cons_succ]
  refine wpAnyH_take (i := 35) (oi := { dst := some 41, op := Go.Op.binOp Go.BinOp.add 9 (Go.Operand.tmp 36) (Go.Operand.tmp 40) 9, type := 9, pos := "ref.go:66", after := #[{ on := 30, ground := Go.Ground.data }, { on := 34, ground := Go.Ground.data }], guard := none }) (v := (.string ((((((((X0 ++ X1) ++ X2) ++ X3) ++ X4) ++ X5) ++ X6) ++ X7) ++ X8))) rfl (by kernel_rfl) (by kernel_rfl) (by kernel_rfl) (fun _ _ _ h => h) (Or.inl ⟨by rfl, ?ra36⟩) (by assumption) ?_
  case ra36 => (intro w hSw; (try dsimp only at hSw); go_simp; first | omega | (simp only [ByteArray.size_append]; omega) | (simp; omega))
  try simp only [Act.put, List.setIfInBounds_toArray, List.set_cons_zero, List.set_cons_succ]
  refine wpAnyH_take (i := 36) (oi := { dst := some 3, op := Go.Op.assign (Go.Operand.tmp 41), type := 9, pos := "ref.go:66", after := #[{ on := 35, ground := Go.Ground.data }, { on := 34, ground := Go.Ground.chain }, { on := 0, ground := Go.Ground.phase }, { on := 1, ground := Go.Ground.phase }, { on := 2, ground := Go.Ground.phase }, { on := 3, ground := Go.Ground.phase }, { on := 4, ground := Go.Ground.phase }, { on := 5, ground := Go.Ground.phase }, { on := 6, ground := Go.Ground.phase }, { on := 7, ground := Go.Ground.phase }, { on := 8, ground := Go.Ground.phase }, { on := 9, ground := Go.Ground.phase }, { on := 10, ground := Go.Ground.phase }, { on := 11, ground := Go.Ground.phase }, { on := 12, ground := Go.Ground.phase }, { on := 13, ground := Go.Ground.phase }, { on := 14, ground := Go.Ground.phase }, { on := 15, ground := Go.Ground.phase }, { on := 16, ground := Go.Ground.phase }, { on := 17, ground := Go.Ground.phase }, { on := 18, ground := Go.Ground.phase }, { on := 19, ground := Go.Ground.phase }, { on := 20, ground := Go.Ground.phase }, { on := 21, ground := Go.Ground.phase }, { on := 22, ground := Go.Ground.phase }, { on := 23, ground := Go.Ground.phase }, { on := 24, ground := Go.Ground.phase }, { on := 25, ground := Go.Ground.phase }, { on := 26, ground := Go.Ground.phase }, { on := 27, ground := Go.Ground.phase }, { on := 28, ground := Go.Ground.phase }, { on := 29, ground := Go.Ground.phase }, { on := 30, ground := Go.Ground.phase }, { on := 31, ground := Go.Ground.phase }, { on := 32, ground := Go.Ground.phase }, { on := 33, ground := Go.Ground.phase }, { on := 34, ground := Go.Ground.phase }, { on := 35, ground := Go.Ground.phase }], guard := none }) (v := ?va37) rfl (by kernel_rfl) (by kernel_rfl) (by kernel_rfl) (fun _ _ _ h => h) (Or.inl ⟨by rfl, ?ra37⟩) (by assumption) ?_
  case ra37 => (intro w hSw; (try dsimp only at hSw); (go_simp <;> with_reducible rfl))
  try simp only [Act.put, List.setIfInBounds_toArray, List.set_cons_zero, List.set_cons_succ]
  refine wpAnyH_done (by kernel_rfl) ?_ _
  have HF1 := Lib.hid (h35).1
  have k10 := (h35).2.2.2.2.2.2.2.2.2.2.2
  clear h35 HX1
  rw [HV.out] at *
  go_wp2
  clear k10
  go_loopw [45, 3] (fun u45 u3 wr => ∃ k : Nat, k ≤ L.length ∧ u45 = .int .i64 (k : Nat) ∧ u3 = .string (ofL (inHead frm tt sub c n slot time ok text L.length ++ (L.take k).flatMap insE)) ∧ Hid (Gr wz wr)) (fun u45 _ _ => L.length - (intOf u45).toNat)
  case atStart => exact ⟨0, by omega, rfl, by simp [HH.out], HF1⟩
  case round =>
    clear HF1
    obtain ⟨k, hk, rfl, rfl, HG⟩ := hrel
    by_cases hlt : k < L.length
    · have hk4 : (k : Int) < (L.length : Int) := by omega
      obtain ⟨g, cap, hv, c0, c1, c2, c3⟩ := HR.out _ (HA.out.trans HG.out) k hlt
      simp only [Value.slice.injEq, true_and] at hv
      obtain ⟨rfl, rfl⟩ := hv
      have hE := HE.out _ (List.getElem_mem hlt)
      have hZ : ofL (inHead frm tt sub c n slot time ok text L.length ++ (L.take (k + 1)).flatMap insE) = ofL (inHead frm tt sub c n slot time ok text L.length ++ (L.take k).flatMap insE) ++ ofL (insE L[k]) := by
        rw [List.take_succ_eq_append_getElem hlt, List.flatMap_append, ofL_app, List.append_assoc]; simp
      have hzs : (ofL (inHead frm tt sub c n slot time ok text L.length ++ (L.take k).flatMap insE)).size ≤ 1300 + k * 1100 := by
        rw [ofL_size, List.length_append]
        have h1 := HHL.out
        have h2 := insL_le (L.take k) (fun y hy => (HE.out y (List.mem_of_mem_take hy)).2.2.2.2.2)
        rw [List.length_take, Nat.min_eq_left hk] at h2
        omega
      generalize L[k] = y at *
      obtain ⟨ys, yc, yn, yt⟩ := y
      obtain ⟨hE1, hE2, hE3, hE4, hE5, hE6⟩ := hE
      simp only at hE1 hE2 hE3 hE4 hE5 hE6 c0 c1 c2 c3
      obtain ⟨yc, rfl⟩ : ∃ m : Nat, yc = m := ⟨yc.toNat, by omega⟩
      obtain ⟨yn, rfl⟩ : ∃ m : Nat, yn = m := ⟨yn.toNat, by omega⟩
      have M0 := Lib.hid (fun w => refN_any ys w hE1)
      have MP := Lib.hid (fun w => refPut_any yc yn w (by omega) (by omega))
      have MS := Lib.hid (fun w => refS10_any yt w (by omega))
      have t0 : (ofL (encN ys)).size ≤ 9 := by rw [ofL_size]; exact encU_le _
      have t1 : (ofL (encU yc ++ encN (yn : Int))).size ≤ 18 := by
        rw [ofL_size, List.length_append]; have := encU_le yc; have : (encN (yn : Int)).length ≤ 9 := encU_le _; omega
      have t2 : (ofL (encS (bytesOf yt))).size ≤ yt.size + 9 := by
        rw [ofL_size]; unfold encS; rw [List.length_append, lenB]; have := encU_le yt.size; omega
      have hI : ofL (insE ⟨ys, yc, yn, yt⟩) = (ofL (encN ys) ++ ofL (encU yc ++ encN (yn : Int))) ++ ofL (encS (bytesOf yt)) := by
        rw [ofL_app, ofL_app]; rfl
      rw [hI] at hZ
      have HZ := Lib.hid hZ
      clear hZ hI hE1 hE2 hE3 hE4 hE5
      have hkk : k * 1100 ≤ 110000 := by have := HL.out; omega
      generalize ofL (inHead frm tt sub c n slot time ok text L.length ++ (L.take k).flatMap insE) = Z at *
      generalize ofL (encN ys) = Y0 at *
      generalize ofL (encU yc ++ encN (yn : Int)) = Y1 at *
      generalize ofL (encS (bytesOf yt)) = Y2 at *
      go_wp2
      clear c0 c1 c2 c3
      have hz := Gr.refl (wr.alloc (.cells #[.int .i64 ys, .int .u64 (yc : Nat), .int .i64 (yn : Nat), .string yt] 164))
      have k0 := hz.own.1 0 _ rfl
      have k1 := hz.own.1 1 _ rfl
      have k2 := hz.own.1 2 _ rfl
      have k3 := hz.own.1 3 _ rfl
      clear hz
      have HGA := Lib.hid (HG.out.alloc (.cells #[.int .i64 ys, .int .u64 (yc : Nat), .int .i64 (yn : Nat), .string yt] 164))
      generalize hb2 : wr.heap.size = b2 at *
      generalize hwz2 : wr.alloc (.cells #[.int .i64 ys, .int .u64 (yc : Nat), .int .i64 (yn : Nat), .string yt] 164) = wz2 at *
      have HX2 : Hid (∀ w0 w9 : World, Gr w0 w9 → (fun w9 => Gr wz2 w9 ∧ w9.cell? ⟨b2, 0, none⟩ = some (.int .i64 ys) ∧ w9.cell? ⟨b2, 1, none⟩ = some (.int .u64 (yc : Nat)) ∧ w9.cell? ⟨b2, 2, none⟩ = some (.int .i64 (yn : Nat)) ∧ w9.cell? ⟨b2, 3, none⟩ = some (.string yt)) w0 → (fun w9 => Gr wz2 w9 ∧ w9.cell? ⟨b2, 0, none⟩ = some (.int .i64 ys) ∧ w9.cell? ⟨b2, 1, none⟩ = some (.int .u64 (yc : Nat)) ∧ w9.cell? ⟨b2, 2, none⟩ = some (.int .i64 (yn : Nat)) ∧ w9.cell? ⟨b2, 3, none⟩ = some (.string yt)) w9) := Lib.hid fun w0 w9 hg ⟨h, q0, q1, q2, q3⟩ => ⟨h.trans hg, hg.cell q0, hg.cell q1, hg.cell q2, hg.cell q3⟩
      have HS2 := And.intro (Gr.refl wz2) (And.intro (k0) (And.intro (k1) (And.intro (k2) (k3))))
      clear k0 k1 k2 k3
      refine wp_region_held_drew (S := (fun w9 => Gr wz2 w9 ∧ w9.cell? ⟨b2, 0, none⟩ = some (.int .i64 ys) ∧ w9.cell? ⟨b2, 1, none⟩ = some (.int .u64 (yc : Nat)) ∧ w9.cell? ⟨b2, 2, none⟩ = some (.int .i64 (yn : Nat)) ∧ w9.cell? ⟨b2, 3, none⟩ = some (.string yt))) (by kernel_rfl) ?invb (fun h0 => ?_)
      case invb => ((try dsimp only); (first | exact HS2 | exact HX2.out _ _ ((Gr.refl _).drew) HS2))
      refine wpAnyH_take (i := 0) (oi := { dst := some 49, op := Go.Op.move (Go.Operand.tmp 3), type := 9, pos := "ref.go:68", after := #[], guard := none }) (v := ?vb1) rfl (by kernel_rfl) (by kernel_rfl) (by kernel_rfl) (fun _ _ _ h => h) (Or.inl ⟨by rfl, ?rb1⟩) (by assumption) ?_
      case rb1 => (intro w hSw; (try dsimp only at hSw); (go_simp <;> with_reducible rfl))
      try simp only [Act.put, List.setIfInBounds_toArray, List.set_cons_zero, List.set_cons_succ]
      refine wpAnyH_take (i := 1) (oi := { dst := some 50, op := Go.Op.fieldAddr 164 (Go.Operand.tmp 5) 0, type := 0, pos := "ref.go:68", after := #[], guard := none }) (v := ?vb2) rfl (by kernel_rfl) (by kernel_rfl) (by kernel_rfl) (fun _ _ _ h => h) (Or.inl ⟨by rfl, ?rb2⟩) (by assumption) ?_
      case rb2 => (intro w hSw; (try dsimp only at hSw); (go_simp <;> with_reducible rfl))
      try simp only [Act.put, List.setIfInBounds_toArray, List.set_cons_zero, List.set_cons_succ]
      refine wpAnyH_take (i := 2) (oi := { dst := some 51, op := Go.Op.load 3 (Go.Operand.tmp 50), type := 3, pos := "ref.go:68", after := #[{ on := 1, ground := Go.Ground.data }], guard := none }) (v := ?vb3) rfl (by kernel_rfl) (by kernel_rfl) (by kernel_rfl) (fun _ _ _ h => h) (Or.inl ⟨by rfl, ?rb3⟩) (by assumption) ?_
      case rb3 => (intro w hSw; (try dsimp only at hSw); (go_simp <;> with_reducible rfl))
      try simp only [Act.put, List.setIfInBounds_toArray, List.set_cons_zero, List.set_cons_succ]
      refine wpAnyH_take (i := 4) (oi := { dst := some 53, op := Go.Op.fieldAddr 164 (Go.Operand.tmp 5) 1, type := 0, pos := "ref.go:68", after := #[], guard := none }) (v := ?vb4) rfl (by kernel_rfl) (by kernel_rfl) (by kernel_rfl) (fun _ _ _ h => h) (Or.inl ⟨by rfl, ?rb4⟩) (by assumption) ?_
      case rb4 => (intro w hSw; (try dsimp only at hSw); (go_simp <;> with_reducible rfl))
      try simp only [Act.put, List.setIfInBounds_toArray, List.set_cons_zero, List.set_cons_succ]
      refine wpAnyH_take (i := 5) (oi := { dst := some 54, op := Go.Op.load 78 (Go.Operand.tmp 53), type := 78, pos := "ref.go:68", after := #[{ on := 4, ground := Go.Ground.data }], guard := none }) (v := ?vb5) rfl (by kernel_rfl) (by kernel_rfl) (by kernel_rfl) (fun _ _ _ h => h) (Or.inl ⟨by rfl, ?rb5⟩) (by assumption) ?_
      case rb5 => (intro w hSw; (try dsimp only at hSw); (go_simp <;> with_reducible rfl))
      try simp only [Act.put, List.setIfInBounds_toArray, List.set_cons_zero, List.set_cons_succ]
      refine wpAnyH_take (i := 8) (oi := { dst := some 57, op := Go.Op.fieldAddr 164 (Go.Operand.tmp 5) 2, type := 0, pos := "ref.go:68", after := #[], guard := none }) (v := ?vb6) rfl (by kernel_rfl) (by kernel_rfl) (by kernel_rfl) (fun _ _ _ h => h) (Or.inl ⟨by rfl, ?rb6⟩) (by assumption) ?_
      case rb6 => (intro w hSw; (try dsimp only at hSw); (go_simp <;> with_reducible rfl))
      try simp only [Act.put, List.setIfInBounds_toArray, List.set_cons_zero, List.set_cons_succ]
      refine wpAnyH_take (i := 9) (oi := { dst := some 58, op := Go.Op.load 9 (Go.Operand.tmp 57), type := 9, pos := "ref.go:68", after := #[{ on := 8, ground := Go.Ground.data }], guard := none }) (v := ?vb7) rfl (by kernel_rfl) (by kernel_rfl) (by kernel_rfl) (fun _ _ _ h => h) (Or.inl ⟨by rfl, ?rb7⟩) (by assumption) ?_
      case rb7 => (intro w hSw; (try dsimp only at hSw); (go_simp <;> with_reducible rfl))
      try simp only [Act.put, List.setIfInBounds_toArray, List.set_cons_zero, List.set_cons_succ]
      refine wpAnyH_ready (rs := [3]) (by kernel_rfl) (by simp) ?_
      refine AllReadyH.cons (o := { dst := some 52, op := Go.Op.call { callee := Go.Callee.value (Go.Operand.func 134), args := #[Go.Operand.tmp 51], argTypes := #[3] }, type := 9, pos := "ref.go:68", after := #[{ on := 2, ground := Go.Ground.data }], guard := none }) rfl (fun K hK => ?_) AllReadyH.nil
      go_simp
      (go_at_call 134; refine (M0.out _).mono ?_; rintro e w9 ⟨rfl, hgN⟩)
      first | refine hK.out _ _ ?sb8 (fun h8 => ?_) | (go_wp2_with fail; refine hK.out _ _ ?sb8 (fun h8 => ?_))
      case sb8 => ((try dsimp only); exact HX2.out _ _ hgN h0)
      clear hK K h0
      try simp only [Act.put, List.setIfInBounds_toArray, List.set_cons_zero, List.set_cons_succ]
      refine wpAnyH_ready (rs := [6]) (by kernel_rfl) (by simp) ?_
      refine AllReadyH.cons (o := { dst := some 55, op := Go.Op.call { callee := Go.Callee.value (Go.Operand.func 133), args := #[Go.Operand.tmp 54], argTypes := #[78] }, type := 9, pos := "ref.go:68", after := #[{ on := 5, ground := Go.Ground.data }, { on := 3, ground := Go.Ground.chain }], guard := none }) rfl (fun K hK => ?_) AllReadyH.nil
      go_simp
      (go_at_call 133; refine (MP.out _).mono ?_; rintro e w9 ⟨rfl, hgN⟩)
      first | refine hK.out _ _ ?sb9 (fun h9 => ?_) | (go_wp2_with fail; refine hK.out _ _ ?sb9 (fun h9 => ?_))
      case sb9 => ((try dsimp only); exact HX2.out _ _ hgN h8)
      clear hK K h8
      try simp only [Act.put, List.setIfInBounds_toArray, List.set_cons_zero, List.set_cons_succ]
      refine wpAnyH_take (i := 7) (oi := { dst := some 56, op := Go.Op.binOp Go.BinOp.add 9 (Go.Operand.tmp 52) (Go.Operand.tmp 55) 9, type := 9, pos := "ref.go:68", after := #[{ on := 3, ground := Go.Ground.data }, { on := 6, ground := Go.Ground.data }], guard := none }) (v := (.string (Y0 ++ Y1))) rfl (by kernel_rfl) (by kernel_rfl) (by kernel_rfl) (fun _ _ _ h => h) (Or.inl ⟨by rfl, ?rb10⟩) (by assumption) ?_
      case rb10 => (intro w hSw; (try dsimp only at hSw); go_simp; omega)
      try simp only [Act.put, List.setIfInBounds_toArray, List.set_cons_zero, List.set_cons_succ]
      refine wpAnyH_ready (rs := [10]) (by kernel_rfl) (by simp) ?_
      refine AllReadyH.cons (o := { dst := some 59, op := Go.Op.call { callee := Go.Callee.value (Go.Operand.func 135), args := #[Go.Operand.tmp 58], argTypes := #[9] }, type := 9, pos := "ref.go:68", after := #[{ on := 9, ground := Go.Ground.data }, { on := 6, ground := Go.Ground.chain }], guard := none }) rfl (fun K hK => ?_) AllReadyH.nil
      go_simp
      (go_at_call 135; refine (MS.out _).mono ?_; rintro e w9 ⟨rfl, hgN⟩)
      first | refine hK.out _ _ ?sb11 (fun h11 => ?_) | (go_wp2_with fail; refine hK.out _ _ ?sb11 (fun h11 => ?_))
      case sb11 => ((try dsimp only); exact HX2.out _ _ hgN h9)
      clear hK K h9
      try simp only [Act.put, List.setIfInBounds_toArray, List.set_cons_zero, List.set_cons_succ]
      refine wpAnyH_take (i := 11) (oi := { dst := some 60, op := Go.Op.binOp Go.BinOp.add 9 (Go.Operand.tmp 56) (Go.Operand.tmp 59) 9, type := 9, pos := "ref.go:68", after := #[{ on := 7, ground := Go.Ground.data }, { on := 10, ground := Go.Ground.data }], guard := none }) (v := (.string ((Y0 ++ Y1) ++ Y2))) rfl (by kernel_rfl) (by kernel_rfl) (by kernel_rfl) (fun _ _ _ h => h) (Or.inl ⟨by rfl, ?rb12⟩) (by assumption) ?_
      case rb12 => (intro w hSw; (try dsimp only at hSw); go_simp; first | omega | (simp only [ByteArray.size_append]; omega) | (simp; omega))
      try simp only [Act.put, List.setIfInBounds_toArray, List.set_cons_zero, List.set_cons_succ]
      refine wpAnyH_take (i := 12) (oi := { dst := some 61, op := Go.Op.binOp Go.BinOp.add 9 (Go.Operand.tmp 49) (Go.Operand.tmp 60) 9, type := 9, pos := "ref.go:68", after := #[{ on := 0, ground := Go.Ground.data }, { on := 11, ground := Go.Ground.data }], guard := none }) (v := (.string (Z ++ ((Y0 ++ Y1) ++ Y2)))) rfl (by kernel_rfl) (by kernel_rfl) (by kernel_rfl) (fun _ _ _ h => h) (Or.inl ⟨by rfl, ?rb13⟩) (by assumption) ?_
      case rb13 => (intro w hSw; (try dsimp only at hSw); go_simp; first | omega | (simp only [ByteArray.size_append]; omega) | (simp; omega))
      try simp only [Act.put, List.setIfInBounds_toArray, List.set_cons_zero, List.set_cons_succ]
      refine wpAnyH_take (i := 13) (oi := { dst := some 3, op := Go.Op.assign (Go.Operand.tmp 61), type := 9, pos := "ref.go:68", after := #[{ on := 12, ground := Go.Ground.data }, { on := 10, ground := Go.Ground.chain }, { on := 0, ground := Go.Ground.phase }, { on := 1, ground := Go.Ground.phase }, { on := 2, ground := Go.Ground.phase }, { on := 3, ground := Go.Ground.phase }, { on := 4, ground := Go.Ground.phase }, { on := 5, ground := Go.Ground.phase }, { on := 6, ground := Go.Ground.phase }, { on := 7, ground := Go.Ground.phase }, { on := 8, ground := Go.Ground.phase }, { on := 9, ground := Go.Ground.phase }, { on := 10, ground := Go.Ground.phase }, { on := 11, ground := Go.Ground.phase }, { on := 12, ground := Go.Ground.phase }], guard := none }) (v := ?vb14) rfl (by kernel_rfl) (by kernel_rfl) (by kernel_rfl) (fun _ _ _ h => h) (Or.inl ⟨by rfl, ?rb14⟩) (by assumption) ?_
      case rb14 => (intro w hSw; (try dsimp only at hSw); (go_simp <;> with_reducible rfl))
      try simp only [Act.put, List.setIfInBounds_toArray, List.set_cons_zero, List.set_cons_succ]
      refine wpAnyH_done (by kernel_rfl) ?_ _
      have HF := Lib.hid (h11).1
      clear h11
      go_wp2
      go_roundw
      case rel => exact ⟨k + 1, by omega, by go_num, by rw [HZ.out], Lib.hid (HGA.out.trans HF.out)⟩
      case measure => simp [intOf]; omega
    · have hk5 : ¬ (k : Int) < (L.length : Int) := by omega
      obtain rfl : k = L.length := by omega
      rw [List.take_length]
      go_wp2
      go_ret
      exact ⟨rfl, HA.out.trans HG.out⟩
end Go.Proofs.Ytihhfdkcggnjpaa
