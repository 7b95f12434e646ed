import Derived.Test.YtnanclgnjchpeaaF19b
import Derived.Test.YtnanclgnjchpeaaC17
import Derived.WalkKit
import Derived.ProofKit
import Derived.LoopTactic
import Derived.Outline
import Derived.WalkSpells
import Derived.WalkLawsBesides
import Derived.Lib.Hide
import Derived.Deep.LoopGhost
import Derived.Deep.QuietTactic
import Derived.BigQuiet
import Derived.ShutString
import Derived.IntWalk
import Derived.BigQuiet
import Derived.Laws.OwnMore
import Derived.Deep.RegionWith
import Derived.Deep.RegionHeld3
namespace Go.Proofs.Ytnanclgnjchpeaa
open Go.ChangeShapes Go.WideShapes Go.ChangeAt Go.RowKit
open Bal
set_option linter.unusedVariables false
set_option linter.unusedSimpArgs false
section
variable {w0 : World} {b : Nat} {v : Value} {a : Ln}
set_option maxRecDepth 100000 in
set_option maxHeartbeats 2000000 in
theorem learn_base (slot : Int) (text : ByteArray) (w : World) (h : LnIs w0 w b v a) (hl : a.L.length ≤ 900) (ha : Asc a.L) (hd : 0 ≤ a.dn ∧ a.dn ≤ 1000000) (hs : 0 ≤ slot ∧ slot ≤ 1000000) (hx : slot ≤ a.ba) :
    Calls Try.prog 18 #[.pointer (some ⟨b, 0, none⟩), .int .i64 slot, .string text] w fun e w' => e = .returned (.int .i64 0) ∧ Gr w w' := by
  have HH0 := Lib.hid h
  have HI := Lib.hid h
  have HASC := Lib.hid ha
  obtain ⟨ba, dn, L⟩ := a
  replace HI : Hid (LnIs w0 w b v ⟨ba, dn, L⟩) := HI
  replace HASC : Hid (Asc L) := HASC
  simp only at hl hd hx
  have e1 : IntKind.i64.wrap (slot - dn) = slot - dn := by rw [IntKind.wrap_i64]; omega
  clear h ha
  go_enter Try.func18, Try.ntmps18
  go_wp2_with fail
  refine (lfind_any slot _ HI.out (by show L.length ≤ 1000; omega) HASC.out).mono ?_
  rintro e w1 ⟨i, fd, rfl, hi, hcut, hfd, hg1⟩
  replace hi : i ≤ L.length := hi
  replace hfd : fd = true ↔ ∃ h : i < L.length, L[i].slot = slot := hfd
  have HG1 := Lib.hid hg1
  have HI1 := Lib.hid (HI.out.gr hg1)
  have b0 : w1.cell? ⟨b, 0, none⟩ = some (.int .i64 ba) := HI1.out.blk.cell (i := 0) rfl
  clear hi hcut hfd
  go_wp2
  go_ret
  exact ⟨rfl, HG1.out⟩
set_option maxRecDepth 100000 in
set_option maxHeartbeats 2000000 in
theorem learn_same (slot : Int) (text : ByteArray) (w : World) (h : LnIs w0 w b v a) (hl : a.L.length ≤ 900) (ha : Asc a.L) (hd : 0 ≤ a.dn ∧ a.dn ≤ 1000000) (hs : 0 ≤ slot ∧ slot ≤ 1000000) (hx : a.ba < slot) (hh : hasE a.L slot = true) (ho : (oldE a.L slot).text.toList = text.toList) :
    Calls Try.prog 18 #[.pointer (some ⟨b, 0, none⟩), .int .i64 slot, .string text] w fun e w' => e = .returned (.int .i64 0) ∧ Gr w w' := by
  have HH0 := Lib.hid h
  have HI := Lib.hid h
  have HASC := Lib.hid ha
  obtain ⟨ba, dn, L⟩ := a
  replace HI : Hid (LnIs w0 w b v ⟨ba, dn, L⟩) := HI
  replace HASC : Hid (Asc L) := HASC
  simp only at hl hd hx hh ho
  have e1 : IntKind.i64.wrap (slot - dn) = slot - dn := by rw [IntKind.wrap_i64]; omega
  clear h ha
  have HH := Lib.hid hh
  clear hh
  have HX := Lib.hid ho
  clear ho
  have hx2 : ¬ slot ≤ ba := by omega
  go_enter Try.func18, Try.ntmps18
  go_wp2_with fail
  refine (lfind_any slot _ HI.out (by show L.length ≤ 1000; omega) HASC.out).mono ?_
  rintro e w1 ⟨i, fd, rfl, hi, hcut, hfd, hg1⟩
  replace hi : i ≤ L.length := hi
  replace hfd : fd = true ↔ ∃ h : i < L.length, L[i].slot = slot := hfd
  have HG1 := Lib.hid hg1
  have HI1 := Lib.hid (HI.out.gr hg1)
  have b0 : w1.cell? ⟨b, 0, none⟩ = some (.int .i64 ba) := HI1.out.blk.cell (i := 0) rfl
  have hfd2 : fd = true := hfd.2 ((has_cut HASC.out hcut).1 HH.out)
  subst hfd2
  obtain ⟨hil, hsl⟩ := hfd.1 rfl
  have HOLD := Lib.hid (old_in HASC.out hil hsl)
  have b2 := HI1.out.blk.cell (i := 2) rfl
  obtain ⟨g, cap, hv, hc0, hc1, hc2, hc3⟩ := erow_at HI1.out.row i hil
  replace hv : v = .slice (some ⟨g, 0, none⟩) L.length cap := hv
  replace hc3 : w1.cell? ⟨g, i * 4 + 3, none⟩ = some (.string (L[i]'hil).text) := hc3
  subst hv
  replace b2 : w1.cell? ⟨b, 2, none⟩ = some (.slice (some ⟨g, 0, none⟩) L.length cap) := b2
  have hli : (i : Int) < (L.length : Int) := by omega
  have HEQ := Lib.hid (show ((L[i]'hil).text.toList == text.toList) = true by have := HX.out; rw [HOLD.out] at this; simpa using this)
  have heq := HEQ.out
  generalize (L[i]'hil).text = t at *
  clear hc0 hc1 hc2 hcut hfd hsl HOLD HX hi HEQ hil
  go_wp2
  go_ret
  exact ⟨rfl, HG1.out⟩
set_option maxRecDepth 100000 in
set_option maxHeartbeats 2000000 in
theorem learn_other (slot : Int) (text : ByteArray) (w : World) (h : LnIs w0 w b v a) (hl : a.L.length ≤ 900) (ha : Asc a.L) (hd : 0 ≤ a.dn ∧ a.dn ≤ 1000000) (hs : 0 ≤ slot ∧ slot ≤ 1000000) (hx : a.ba < slot) (hh : hasE a.L slot = true) (ho : (oldE a.L slot).text.toList ≠ text.toList) :
    Calls Try.prog 18 #[.pointer (some ⟨b, 0, none⟩), .int .i64 slot, .string text] w fun e w' => e = .returned (.int .i64 7) ∧ Gr w w' := by
  have HH0 := Lib.hid h
  have HI := Lib.hid h
  have HASC := Lib.hid ha
  obtain ⟨ba, dn, L⟩ := a
  replace HI : Hid (LnIs w0 w b v ⟨ba, dn, L⟩) := HI
  replace HASC : Hid (Asc L) := HASC
  simp only at hl hd hx hh ho
  have e1 : IntKind.i64.wrap (slot - dn) = slot - dn := by rw [IntKind.wrap_i64]; omega
  clear h ha
  have HH := Lib.hid hh
  clear hh
  have HX := Lib.hid ho
  clear ho
  have hx2 : ¬ slot ≤ ba := by omega
  go_enter Try.func18, Try.ntmps18
  go_wp2_with fail
  refine (lfind_any slot _ HI.out (by show L.length ≤ 1000; omega) HASC.out).mono ?_
  rintro e w1 ⟨i, fd, rfl, hi, hcut, hfd, hg1⟩
  replace hi : i ≤ L.length := hi
  replace hfd : fd = true ↔ ∃ h : i < L.length, L[i].slot = slot := hfd
  have HG1 := Lib.hid hg1
  have HI1 := Lib.hid (HI.out.gr hg1)
  have b0 : w1.cell? ⟨b, 0, none⟩ = some (.int .i64 ba) := HI1.out.blk.cell (i := 0) rfl
  have hfd2 : fd = true := hfd.2 ((has_cut HASC.out hcut).1 HH.out)
  subst hfd2
  obtain ⟨hil, hsl⟩ := hfd.1 rfl
  have HOLD := Lib.hid (old_in HASC.out hil hsl)
  have b2 := HI1.out.blk.cell (i := 2) rfl
  obtain ⟨g, cap, hv, hc0, hc1, hc2, hc3⟩ := erow_at HI1.out.row i hil
  replace hv : v = .slice (some ⟨g, 0, none⟩) L.length cap := hv
  replace hc3 : w1.cell? ⟨g, i * 4 + 3, none⟩ = some (.string (L[i]'hil).text) := hc3
  subst hv
  replace b2 : w1.cell? ⟨b, 2, none⟩ = some (.slice (some ⟨g, 0, none⟩) L.length cap) := b2
  have hli : (i : Int) < (L.length : Int) := by omega
  have HEQ := Lib.hid (show ((L[i]'hil).text.toList == text.toList) = false by have := HX.out; rw [HOLD.out] at this; simpa using this)
  have heq := HEQ.out
  generalize (L[i]'hil).text = t at *
  clear hc0 hc1 hc2 hcut hfd hsl HOLD HX hi HEQ hil
  go_wp2
  go_ret
  exact ⟨rfl, HG1.out⟩
set_option maxRecDepth 100000 in
set_option maxHeartbeats 2000000 in
theorem learn_far (slot : Int) (text : ByteArray) (w : World) (h : LnIs w0 w b v a) (hl : a.L.length ≤ 900) (ha : Asc a.L) (hd : 0 ≤ a.dn ∧ a.dn ≤ 1000000) (hs : 0 ≤ slot ∧ slot ≤ 1000000) (hx : a.ba < slot) (hh : hasE a.L slot = false) (hf : 1024 < slot - a.dn) :
    Calls Try.prog 18 #[.pointer (some ⟨b, 0, none⟩), .int .i64 slot, .string text] w fun e w' => e = .returned (.int .i64 6) ∧ Gr w w' := by
  have HH0 := Lib.hid h
  have HI := Lib.hid h
  have HASC := Lib.hid ha
  obtain ⟨ba, dn, L⟩ := a
  replace HI : Hid (LnIs w0 w b v ⟨ba, dn, L⟩) := HI
  replace HASC : Hid (Asc L) := HASC
  simp only at hl hd hx hh hf
  have e1 : IntKind.i64.wrap (slot - dn) = slot - dn := by rw [IntKind.wrap_i64]; omega
  clear h ha
  have HH := Lib.hid hh
  clear hh
  have hx2 : ¬ slot ≤ ba := by omega
  go_enter Try.func18, Try.ntmps18
  go_wp2_with fail
  refine (lfind_any slot _ HI.out (by show L.length ≤ 1000; omega) HASC.out).mono ?_
  rintro e w1 ⟨i, fd, rfl, hi, hcut, hfd, hg1⟩
  replace hi : i ≤ L.length := hi
  replace hfd : fd = true ↔ ∃ h : i < L.length, L[i].slot = slot := hfd
  have HG1 := Lib.hid hg1
  have HI1 := Lib.hid (HI.out.gr hg1)
  have b0 : w1.cell? ⟨b, 0, none⟩ = some (.int .i64 ba) := HI1.out.blk.cell (i := 0) rfl
  have hfd2 : fd = false := by
    cases fd
    · rfl
    · have := (has_cut HASC.out hcut).2 (hfd.1 rfl)
      rw [HH.out] at this
      exact absurd this (by simp)
  subst hfd2
  have b1 : w1.cell? ⟨b, 1, none⟩ = some (.int .i64 dn) := HI1.out.blk.cell (i := 1) rfl
  clear hi hcut hfd
  go_wp2
  go_ret
  exact ⟨rfl, HG1.out⟩
set_option maxRecDepth 100000 in
set_option maxHeartbeats 2000000 in
theorem learn_new (slot : Int) (text : ByteArray) (w : World) (h : LnIs w0 w b v a) (hl : a.L.length ≤ 900) (ha : Asc a.L) (hd : 0 ≤ a.dn ∧ a.dn ≤ 1000000) (hs : 0 ≤ slot ∧ slot ≤ 1000000) (hx : a.ba < slot) (hh : hasE a.L slot = false) (hf : slot - a.dn ≤ 1024) (ht : text.size ≤ 281474976710656) :
    Calls Try.prog 18 #[.pointer (some ⟨b, 0, none⟩), .int .i64 slot, .string text] w fun e w' => e = .returned (.int .i64 0) ∧ LnTo w0 w w' b v { a with L := setE a.L ⟨slot, 0, 0, text⟩ } := by
  have HH0 := Lib.hid h
  have HI := Lib.hid h
  have HASC := Lib.hid ha
  obtain ⟨ba, dn, L⟩ := a
  replace HI : Hid (LnIs w0 w b v ⟨ba, dn, L⟩) := HI
  replace HASC : Hid (Asc L) := HASC
  simp only at hl hd hx hh hf
  have e1 : IntKind.i64.wrap (slot - dn) = slot - dn := by rw [IntKind.wrap_i64]; omega
  clear h ha
  have HH := Lib.hid hh
  clear hh
  have HT := Lib.hid ht
  clear ht
  have hx2 : ¬ slot ≤ ba := by omega
  have hf2 : ¬ slot - dn > 1024 := by omega
  go_enter Try.func18, Try.ntmps18
  go_wp2_with fail
  refine (lfind_any slot _ HI.out (by show L.length ≤ 1000; omega) HASC.out).mono ?_
  rintro e w1 ⟨i, fd, rfl, hi, hcut, hfd, hg1⟩
  replace hi : i ≤ L.length := hi
  replace hfd : fd = true ↔ ∃ h : i < L.length, L[i].slot = slot := hfd
  have HG1 := Lib.hid hg1
  have HI1 := Lib.hid (HI.out.gr hg1)
  have b0 : w1.cell? ⟨b, 0, none⟩ = some (.int .i64 ba) := HI1.out.blk.cell (i := 0) rfl
  have hfd2 : fd = false := by
    cases fd
    · rfl
    · have := (has_cut HASC.out hcut).2 (hfd.1 rfl)
      rw [HH.out] at this
      exact absurd this (by simp)
  subst hfd2
  have b1 : w1.cell? ⟨b, 1, none⟩ = some (.int .i64 dn) := HI1.out.blk.cell (i := 1) rfl
  obtain ⟨va, vc, hv, _⟩ := ownsRow_slice HI1.out.row
  replace hv : v = .slice va L.length vc := hv
  subst hv
  have HNO := Lib.hid (show ¬ ∃ h : i < L.length, L[i].slot = slot from fun hx => by have := hfd.2 hx; exact absurd this (by simp))
  have HSET := Lib.hid (show setE L ⟨slot, 0, 0, text⟩ = ins L i ⟨slot, 0, 0, text⟩ by
    unfold setE ins
    rw [low_cut hcut hi, hi_cut_out HASC.out hcut hi HNO.out])
  have HI2 := Lib.hid (HI1.out.gr (Gr.refl w1).drew)
  have x2 : w1.drew.cell? ⟨b, 2, none⟩ = some (.slice va L.length vc) := HI2.out.blk.cell (i := 2) rfl
  clear hcut hfd HNO
  go_wp2_with fail
  refine late_start (fun i => decide (14 ≤ i)) (fun w9 => w9.cell? ⟨b, 2, none⟩ = some (.slice va L.length vc)) (by kernel_rfl) ?invb (fun h0 => ?_)
  case invb => ((try dsimp only); (exact x2))
  refine late_take (i := 0) (oi := { dst := some 46, op := Go.Op.move (Go.Operand.tmp 0), type := 27, pos := "learn.go:70", after := #[], guard := none }) (v := ?vb1) rfl (by kernel_rfl) (by kernel_rfl) (by kernel_rfl) (by kernel_rfl) (by kernel_rfl) (fun _ _ _ h => h) (Or.inl ⟨by rfl, ?rb1⟩) (by assumption) ?_
  case rb1 => (intro w hSw; (try dsimp only at hSw); (go_simp <;> with_reducible rfl))
  try simp only [Act.put, List.setIfInBounds_toArray, List.set_cons_zero, List.set_cons_succ]
  refine late_take (i := 1) (oi := { dst := some 47, op := Go.Op.move (Go.Operand.tmp 0), type := 27, pos := "learn.go:70", after := #[], guard := none }) (v := ?vb2) rfl (by kernel_rfl) (by kernel_rfl) (by kernel_rfl) (by kernel_rfl) (by kernel_rfl) (fun _ _ _ h => h) (Or.inl ⟨by rfl, ?rb2⟩) (by assumption) ?_
  case rb2 => (intro w hSw; (try dsimp only at hSw); (go_simp <;> with_reducible rfl))
  try simp only [Act.put, List.setIfInBounds_toArray, List.set_cons_zero, List.set_cons_succ]
  refine late_take (i := 2) (oi := { dst := some 48, op := Go.Op.nilCheck (Go.Operand.tmp 47), type := 0, pos := "learn.go:70", after := #[{ on := 1, ground := Go.Ground.data }], guard := none }) (v := ?vb3) rfl (by kernel_rfl) (by kernel_rfl) (by kernel_rfl) (by kernel_rfl) (by kernel_rfl) (fun _ _ _ h => h) (Or.inl ⟨by rfl, ?rb3⟩) (by assumption) ?_
  case rb3 => (intro w hSw; (try dsimp only at hSw); (go_simp <;> with_reducible rfl))
  try simp only [Act.put, List.setIfInBounds_toArray, List.set_cons_zero, List.set_cons_succ]
  refine late_take (i := 3) (oi := { dst := some 49, op := Go.Op.fieldAddr 114 (Go.Operand.tmp 48) 2, type := 0, pos := "learn.go:70", after := #[{ on := 2, ground := Go.Ground.data }], guard := none }) (v := ?vb4) rfl (by kernel_rfl) (by kernel_rfl) (by kernel_rfl) (by kernel_rfl) (by kernel_rfl) (fun _ _ _ h => h) (Or.inl ⟨by rfl, ?rb4⟩) (by assumption) ?_
  case rb4 => (intro w hSw; (try dsimp only at hSw); (go_simp <;> with_reducible rfl))
  try simp only [Act.put, List.setIfInBounds_toArray, List.set_cons_zero, List.set_cons_succ]
  refine late_take (i := 4) (oi := { dst := some 50, op := Go.Op.load 59 (Go.Operand.tmp 49), type := 59, pos := "learn.go:70", after := #[{ on := 3, ground := Go.Ground.data }], guard := none }) (v := ?vb5) rfl (by kernel_rfl) (by kernel_rfl) (by kernel_rfl) (by kernel_rfl) (by kernel_rfl) (fun _ _ _ h => h) (Or.inl ⟨by rfl, ?rb5⟩) (by assumption) ?_
  case rb5 => (intro w hSw; (try dsimp only at hSw); (go_simp <;> with_reducible rfl))
  try simp only [Act.put, List.setIfInBounds_toArray, List.set_cons_zero, List.set_cons_succ]
  refine late_take (i := 5) (oi := { dst := some 51, op := Go.Op.move (Go.Operand.tmp 7), type := 3, pos := "learn.go:70", after := #[], guard := none }) (v := ?vb6) rfl (by kernel_rfl) (by kernel_rfl) (by kernel_rfl) (by kernel_rfl) (by kernel_rfl) (fun _ _ _ h => h) (Or.inl ⟨by rfl, ?rb6⟩) (by assumption) ?_
  case rb6 => (intro w hSw; (try dsimp only at hSw); (go_simp <;> with_reducible rfl))
  try simp only [Act.put, List.setIfInBounds_toArray, List.set_cons_zero, List.set_cons_succ]
  refine late_take (i := 6) (oi := { dst := some 52, op := Go.Op.move (Go.Operand.tmp 1), type := 3, pos := "learn.go:70", after := #[], guard := none }) (v := ?vb7) rfl (by kernel_rfl) (by kernel_rfl) (by kernel_rfl) (by kernel_rfl) (by kernel_rfl) (fun _ _ _ h => h) (Or.inl ⟨by rfl, ?rb7⟩) (by assumption) ?_
  case rb7 => (intro w hSw; (try dsimp only at hSw); (go_simp <;> with_reducible rfl))
  try simp only [Act.put, List.setIfInBounds_toArray, List.set_cons_zero, List.set_cons_succ]
  refine late_take (i := 7) (oi := { dst := some 53, op := Go.Op.move (Go.Operand.tmp 2), type := 9, pos := "learn.go:70", after := #[], guard := none }) (v := ?vb8) rfl (by kernel_rfl) (by kernel_rfl) (by kernel_rfl) (by kernel_rfl) (by kernel_rfl) (fun _ _ _ h => h) (Or.inl ⟨by rfl, ?rb8⟩) (by assumption) ?_
  case rb8 => (intro w hSw; (try dsimp only at hSw); (go_simp <;> with_reducible rfl))
  try simp only [Act.put, List.setIfInBounds_toArray, List.set_cons_zero, List.set_cons_succ]
  refine late_take (i := 8) (oi := { dst := some 54, op := Go.Op.build 44 #[(0, Go.Operand.tmp 52), (2, Go.Operand.tmp 53)], type := 44, pos := "learn.go:70", after := #[{ on := 6, ground := Go.Ground.data }, { on := 7, ground := Go.Ground.data }], guard := none }) (v := ?vb9) rfl (by kernel_rfl) (by kernel_rfl) (by kernel_rfl) (by kernel_rfl) (by kernel_rfl) (fun _ _ _ h => h) (Or.inl ⟨by rfl, ?rb9⟩) (by assumption) ?_
  case rb9 => (intro w hSw; (try dsimp only at hSw); (go_simp <;> with_reducible rfl))
  try simp only [Act.put, List.setIfInBounds_toArray, List.set_cons_zero, List.set_cons_succ]
  refine late_ready (rs := [9]) (by kernel_rfl) (by simp) ?_
  refine LateAll.cons (o := { dst := some 55, op := Go.Op.call { callee := Go.Callee.value (Go.Operand.func 65), args := #[Go.Operand.tmp 54], argTypes := #[44] }, type := 44, pos := "learn.go:70", after := #[{ on := 8, ground := Go.Ground.data }], guard := none }) rfl (fun K hK => ?_) LateAll.nil
  go_simp
  go_at_call 65
  refine (lcopied_any ⟨slot, 0, 0, text⟩ _ HT.out).mono ?_
  rintro e w3 ⟨rfl, hg3⟩
  have HI3 := Lib.hid (HI2.out.gr hg3)
  have HG3 := Lib.hid ((HG1.out.trans (Gr.refl w1).drew).trans hg3)
  have HGA := Lib.hid ((Gr.refl w3).alloc (.cells #[.int .i64 slot, .int .u64 0, .int .i64 0, .string text] 44))
  have HA := Lib.hid (HI3.out.gr HGA.out)
  have HBA := Lib.hid (Blk.new w3 #[.int .i64 slot, .int .u64 0, .int .i64 0, .string text] 44)
  have HNA := Lib.hid (show (Value.slice va L.length vc).ownBlock ≠ some w3.heap.size from fun e => by have := (HI3.out.row.lt _ e).2; omega)
  have x3 := HI3.out.blk.cell (i := 2) rfl
  clear hg3
  first | refine hK.out _ _ ?sb10 (fun h10 => ?_) | (go_wp2_with fail; refine hK.out _ _ ?sb10 (fun h10 => ?_))
  case sb10 => ((try dsimp only); (first | exact QE | exact x3 | exact HGA.out.cell x3))
  clear hK K h0
  try simp only [Act.put, List.setIfInBounds_toArray, List.set_cons_zero, List.set_cons_succ]
  refine late_ready (rs := [10]) (by kernel_rfl) (by simp) ?_
  refine LateAll.cons (o := { dst := some 56, op := Go.Op.buildSlice 59 1 #[(0, Go.Operand.tmp 55)], type := 59, pos := "learn.go:70", after := #[{ on := 9, ground := Go.Ground.data }], guard := none }) rfl (fun K hK => ?_) LateAll.nil
  go_simp
  skip
  first | refine hK.out _ _ ?sb11 (fun h11 => ?_) | (go_wp2_with fail; refine hK.out _ _ ?sb11 (fun h11 => ?_))
  case sb11 => ((try dsimp only); (first | exact QE | exact x3 | exact HGA.out.cell x3))
  clear hK K h10
  try simp only [Act.put, List.setIfInBounds_toArray, List.set_cons_zero, List.set_cons_succ]
  refine late_ready (rs := [11]) (by kernel_rfl) (by simp) ?_
  refine LateAll.cons (o := { dst := some 57, op := Go.Op.call { callee := Go.Callee.value (Go.Operand.func 64), args := #[Go.Operand.tmp 50, Go.Operand.tmp 51, Go.Operand.tmp 56], argTypes := #[59, 3, 59] }, type := 59, pos := "learn.go:70", after := #[{ on := 4, ground := Go.Ground.data }, { on := 5, ground := Go.Ground.data }, { on := 10, ground := Go.Ground.data }, { on := 9, ground := Go.Ground.chain }], guard := none }) rfl (fun K hK => ?_) LateAll.nil
  go_simp
  go_at_call 64
  refine (insE_any (base := w0.heap.size) (i := i) L ⟨slot, 0, 0, text⟩ _ HA.out.row hi (by omega) (by have := HA.out.grown.size; exact this) HBA.out HNA.out).mono ?_
  rintro e w5 ⟨v5, rfl, hr, hgr, hfr⟩
  have HB5 := Lib.hid (HA.out.blk.grownB hgr HA.out.off)
  have QE : w5.cell? ⟨b, 2, none⟩ = some (.slice va L.length vc) := HB5.out.cell (i := 2) rfl
  have QF := HB5.out.free 2
  have HR5 := Lib.hid (show w5.ownsRow w0.heap.size 44 4 v5 (ins L i ⟨slot, 0, 0, text⟩).length (rcells encE (ins L i ⟨slot, 0, 0, text⟩)) by rw [ins_len L i _ hi]; exact hr)
  have HF5 := Lib.hid ((Far.of_gr (b := b) (v := .slice va L.length vc) (HG3.out.trans HGA.out)).trans (From.refl _ _) (Far.of_grown hgr))
  have HV5 := Lib.hid ((From.refl (.slice va L.length vc) w).trans (HG3.out.trans HGA.out).size hfr)
  obtain ⟨a5, n5, hv5, _⟩ := ownsRow_slice hr
  subst hv5
  clear hr hgr hfr
  first | refine hK.out _ _ ?sb12 (fun h12 => ?_) | (go_wp2_with fail; refine hK.out _ _ ?sb12 (fun h12 => ?_))
  case sb12 => ((try dsimp only); (first | exact QE | exact x3 | exact HGA.out.cell x3))
  clear hK K h11
  try simp only [Act.put, List.setIfInBounds_toArray, List.set_cons_zero, List.set_cons_succ]
  refine late_take (i := 12) (oi := { dst := some 58, op := Go.Op.nilCheck (Go.Operand.tmp 46), type := 0, pos := "learn.go:70", after := #[{ on := 0, ground := Go.Ground.data }, { on := 0, ground := Go.Ground.phase }, { on := 1, ground := Go.Ground.phase }, { on := 2, ground := Go.Ground.phase }, { on := 3, ground := Go.Ground.phase }, { on := 4, ground := Go.Ground.phase }, { on := 5, ground := Go.Ground.phase }, { on := 6, ground := Go.Ground.phase }, { on := 7, ground := Go.Ground.phase }, { on := 8, ground := Go.Ground.phase }, { on := 9, ground := Go.Ground.phase }, { on := 10, ground := Go.Ground.phase }, { on := 11, ground := Go.Ground.phase }], guard := none }) (v := ?vb13) rfl (by kernel_rfl) (by kernel_rfl) (by kernel_rfl) (by kernel_rfl) (by kernel_rfl) (fun _ _ _ h => h) (Or.inl ⟨by rfl, ?rb13⟩) (by assumption) ?_
  case rb13 => (intro w hSw; (try dsimp only at hSw); (go_simp <;> with_reducible rfl))
  try simp only [Act.put, List.setIfInBounds_toArray, List.set_cons_zero, List.set_cons_succ]
  refine late_take (i := 13) (oi := { dst := some 59, op := Go.Op.fieldAddr 114 (Go.Operand.tmp 58) 2, type := 0, pos := "learn.go:70", after := #[{ on := 12, ground := Go.Ground.data }, { on := 0, ground := Go.Ground.phase }, { on := 1, ground := Go.Ground.phase }, { on := 2, ground := Go.Ground.phase }, { on := 3, ground := Go.Ground.phase }, { on := 4, ground := Go.Ground.phase }, { on := 5, ground := Go.Ground.phase }, { on := 6, ground := Go.Ground.phase }, { on := 7, ground := Go.Ground.phase }, { on := 8, ground := Go.Ground.phase }, { on := 9, ground := Go.Ground.phase }, { on := 10, ground := Go.Ground.phase }, { on := 11, ground := Go.Ground.phase }], guard := none }) (v := ?vb14) rfl (by kernel_rfl) (by kernel_rfl) (by kernel_rfl) (by kernel_rfl) (by kernel_rfl) (fun _ _ _ h => h) (Or.inl ⟨by rfl, ?rb14⟩) (by assumption) ?_
  case rb14 => (intro w hSw; (try dsimp only at hSw); (go_simp <;> with_reducible rfl))
  try simp only [Act.put, List.setIfInBounds_toArray, List.set_cons_zero, List.set_cons_succ]
  have x0 := QE
  have x1 := QF
  refine late_go (by kernel_rfl) ?_
  refine any_one (i := 14) (o := { dst := none, op := Go.Op.store 59 (Go.Operand.tmp 59) (Go.Operand.tmp 57), type := 0, pos := "learn.go:70", after := #[{ on := 13, ground := Go.Ground.data }, { on := 11, ground := Go.Ground.data }, { on := 11, ground := Go.Ground.chain }, { on := 0, ground := Go.Ground.phase }, { on := 1, ground := Go.Ground.phase }, { on := 2, ground := Go.Ground.phase }, { on := 3, ground := Go.Ground.phase }, { on := 4, ground := Go.Ground.phase }, { on := 5, ground := Go.Ground.phase }, { on := 6, ground := Go.Ground.phase }, { on := 7, ground := Go.Ground.phase }, { on := 8, ground := Go.Ground.phase }, { on := 9, ground := Go.Ground.phase }, { on := 10, ground := Go.Ground.phase }, { on := 11, ground := Go.Ground.phase }], guard := none }) (by kernel_rfl) rfl (fun K hK => ?_)
  go_simp
  refine hK.out _ _ ?_
  clear hK K
  try simp only [Act.put, List.setIfInBounds_toArray, List.set_cons_zero, List.set_cons_succ]
  refine any_done (by kernel_rfl) ?_
  clear h12 x0 x1 QE QF
  go_wp2
  go_ret
  exact ⟨rfl, ln_to HH0.out.base HH0.out.grown HH0.out.row (by rw [HSET.out]; exact HB5.out.set 2 _) (by rw [HSET.out]; exact ownsRow_setCell_other (a := ⟨b, 2, none⟩) HR5.out (row_off HB5.out HR5.out (by decide)) _) (HF5.out.trans HV5.out (Far.setCell b 2 _ w5 _)) HV5.out⟩
end
end Go.Proofs.Ytnanclgnjchpeaa
