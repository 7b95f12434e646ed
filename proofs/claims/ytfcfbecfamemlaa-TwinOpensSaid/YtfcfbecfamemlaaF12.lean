import Derived.Test.YtfcfbecfamemlaaF11h
import Derived.Test.YtfcfbecfamemlaaF01k
import Derived.Test.YtfcfbecfamemlaaL01c
import Derived.Test.YtfcfbecfamemlaaF02f
import Derived.WalkKit
import Derived.ProofKit
import Derived.LoopTactic
import Derived.Outline
import Derived.WalkSpells
import Derived.WalkLawsBesides
import Derived.Lib.Hide
import Derived.Deep.LoopGhost
import Derived.Deep.QuietTactic
import Derived.BigQuiet
import Derived.ShutString
import Derived.IntWalk
import Derived.Deep.RegionHeld3
namespace Go.Proofs.Ytfcfbecfamemlaa
open Go.ChangeShapes Go.WideShapes Go.ChangeAt Go.RowKit
open Enc
set_option linter.unusedVariables false
set_option linter.unusedSimpArgs false
/-- The content of a half's frame, and the file's bytes. -/
def inner (v : Nat) (t : ByteArray) : ByteArray := ofL (encU v ++ encS (bytesOf t))
def spell (v : Nat) (t : ByteArray) : ByteArray := rframe 1 (inner v t)
theorem encS_le (t : ByteArray) : (encS (bytesOf t)).length ≤ t.size + 9 := by
  have := encU_le (bytesOf t).length; have h2 := bytesOf_length t; unfold encS; rw [List.length_append]; omega
theorem inner_le (v : Nat) (t : ByteArray) : (inner v t).size ≤ t.size + 18 := by
  unfold inner; rw [ofL_size, List.length_append]; have := encU_le v; have := encS_le t; omega
theorem frameR_any (k : Nat) (s : ByteArray) (w : World) (hk : k < 256) (hk1 : 1 ≤ k) (hs : s.size ≤ 1048576) :
    Calls Try.prog 32 #[.int .u8 k, .string s] w fun e w' => e = .returned (.string (rframe k s)) ∧ Gr w w' := by
  have := frame_any k s w hk hk1 hs
  rwa [frame_eq k s hk hs] at this
theorem wrLt {w : World} {p : Nat} {l : List UInt8} (h : WrIs w p l) : p < w.heap.size := by obtain ⟨_, _, _, _, hp, _⟩ := h; exact hp
theorem free_gr {w w' : World} {p b : Nat} {l : List UInt8} (hW : WrIs w p l) (hg : Gr w w') (hf : Free w p b) : Free w' p b := by
  obtain ⟨a, cap, hc, _⟩ := hW
  intro v hv
  have := hg.cell hc
  rw [this] at hv
  cases hv
  exact hf _ hc
set_option maxRecDepth 100000 in
set_option maxHeartbeats 2000000 in
theorem bytes_any (v : Nat) (t : ByteArray) (w : World) (hv : v < 18446744073709551616) (ht : t.size ≤ 1000000) :
    Calls Try.prog 81 #[.agg #[.int .u64 (v : Nat), .string t]] w fun e w' => e = .returned (.string (spell v t)) ∧ Gr w w' := by
  have hul := encU_le v
  have FR := Lib.hid (fun w => frameR_any 1 (inner v t) w (by decide) (by decide) (by have := inner_le v t; omega))
  have HT := Lib.hid ht
  go_enter Try.func81, Try.ntmps81
  go_wp2
  have hwr := new_writer (w.alloc (.cells #[.int .u64 (v : Nat), .string t] 106))
  have hFb := new_writer_free (w.alloc (.cells #[.int .u64 (v : Nat), .string t] 106)) w.heap.size
  have gz := (Gr.refl (w.alloc (.cells #[.int .u64 (v : Nat), .string t] 106))).alloc (.cells #[.slice none 0 0] 69)
  have k0 := gz.own.1 0 _ rfl
  have k1 := gz.own.1 1 _ rfl
  have HB0 := Lib.hid (((Gr.refl w).alloc (.cells #[.int .u64 (v : Nat), .string t] 106)).trans gz)
  have hsz : (w.alloc (.cells #[.int .u64 (v : Nat), .string t] 106)).heap.size = w.heap.size + 1 := by simp
  rw [hsz] at hwr hFb
  have hW := hwr
  have hbp : w.heap.size ≠ w.heap.size + 1 := by omega
  have hbl : w.heap.size ≤ w.heap.size + 1 := by omega
  clear hwr gz hsz
  generalize hp0 : w.heap.size + 1 = p at *
  generalize hb0 : w.heap.size = b at *
  have HWP := Lib.hid (show w.heap.size ≤ p by rw [hb0]; exact hbl)
  clear hb0 hbl
  generalize (w.alloc (.cells #[.int .u64 (v : Nat), .string t] 106)).alloc (.cells #[.slice none 0 0] 69) = wz at *
  clear hp0
  refine wp_region_held_drew (S := (fun w9 => w9.cell? ⟨b, 0, none⟩ = some (.int .u64 (v : Nat)) ∧ w9.cell? ⟨b, 1, none⟩ = some (.string t))) (by kernel_rfl) ?invp (fun h0 => ?_)
  case invp => exact ⟨k0, k1⟩
  have gd := (Gr.refl wz).drew
  replace hFb := free_gr hW gd hFb
  replace hW := hW.gr gd
  have HB := Lib.hid (HB0.out.trans gd)
  clear gd
  generalize wz.drew = wd at *
  refine wpAnyH_take (i := 0) (oi := { dst := some 4, op := Go.Op.fieldAddr 106 (Go.Operand.tmp 1) 0, type := 0, pos := "twin.go:28", after := #[], guard := none }) (v := ?vp0) rfl (by kernel_rfl) (by kernel_rfl) (by kernel_rfl) (fun _ _ _ h => h) (Or.inl ⟨by rfl, ?rp0⟩) (by assumption) ?_
  case rp0 => (intro w hSw; (try dsimp only at hSw); (go_simp <;> with_reducible rfl))
  try simp only [Act.put, List.setIfInBounds_toArray, List.set_cons_zero, List.set_cons_succ]
  refine wpAnyH_take (i := 1) (oi := { dst := some 5, op := Go.Op.load 52 (Go.Operand.tmp 4), type := 52, pos := "twin.go:28", after := #[{ on := 0, ground := Go.Ground.data }], guard := none }) (v := ?vp1) rfl (by kernel_rfl) (by kernel_rfl) (by kernel_rfl) (fun _ _ _ h => h) (Or.inl ⟨by rfl, ?rp1⟩) (by assumption) ?_
  case rp1 => (intro w hSw; (try dsimp only at hSw); (go_simp <;> with_reducible rfl))
  try simp only [Act.put, List.setIfInBounds_toArray, List.set_cons_zero, List.set_cons_succ]
  refine wpAnyH_take (i := 4) (oi := { dst := some 8, op := Go.Op.fieldAddr 106 (Go.Operand.tmp 1) 1, type := 0, pos := "twin.go:28", after := #[], guard := none }) (v := ?vp4) rfl (by kernel_rfl) (by kernel_rfl) (by kernel_rfl) (fun _ _ _ h => h) (Or.inl ⟨by rfl, ?rp4⟩) (by assumption) ?_
  case rp4 => (intro w hSw; (try dsimp only at hSw); (go_simp <;> with_reducible rfl))
  try simp only [Act.put, List.setIfInBounds_toArray, List.set_cons_zero, List.set_cons_succ]
  refine wpAnyH_take (i := 5) (oi := { dst := some 9, op := Go.Op.load 9 (Go.Operand.tmp 8), type := 9, pos := "twin.go:28", after := #[{ on := 4, ground := Go.Ground.data }], guard := none }) (v := ?vp5) rfl (by kernel_rfl) (by kernel_rfl) (by kernel_rfl) (fun _ _ _ h => h) (Or.inl ⟨by rfl, ?rp5⟩) (by assumption) ?_
  case rp5 => (intro w hSw; (try dsimp only at hSw); (go_simp <;> with_reducible rfl))
  try simp only [Act.put, List.setIfInBounds_toArray, List.set_cons_zero, List.set_cons_succ]
  refine wpAnyH_ready (rs := [2, 6]) (by kernel_rfl) (by simp) ?_
  refine AllReadyH.cons (o := { dst := some 6, op := Go.Op.buildSlice 151 1 #[(0, Go.Operand.tmp 5)], type := 151, pos := "twin.go:28", after := #[{ on := 1, ground := Go.Ground.data }], guard := none }) rfl (fun K hK => ?_) (AllReadyH.cons (o := { dst := some 10, op := Go.Op.buildSlice 58 1 #[(0, Go.Operand.tmp 9)], type := 58, pos := "twin.go:28", after := #[{ on := 5, ground := Go.Ground.data }], guard := none }) rfl (fun K hK => ?_) AllReadyH.nil)
  · skip
    go_simp
    obtain ⟨s2, hs2⟩ : ∃ s, s = wd.heap.size := ⟨_, rfl⟩
    rw [← hs2]
    obtain ⟨wp1, hw⟩ : ∃ wn, wn = wd.alloc (.cells #[.int .u64 (v : Nat)] 52) := ⟨_, rfl⟩
    rw [← hw]
    have gx : Gr wd wp1 := by rw [hw]; exact (Gr.refl _).alloc _
    have F2 : Free wp1 p s2 := by rw [hw, hs2]; exact free_new hW _
    have c2 : wp1.cell? ⟨s2, 0, none⟩ = some (.int .u64 (v : Nat)) := by rw [hw, hs2]; exact new_cell rfl rfl
    have d2 : s2 ≠ p := by have := (wrLt hW); omega
    have hFb := free_gr hW gx hFb
    have hk0 := gx.cell h0.1
    have hk1 := gx.cell h0.2
    have HB := Lib.hid (HB.out.trans gx)
    have hW := hW.gr gx
    clear gx hw hs2
    first | refine hK.out _ _ ?sp1 (fun hp1 => ?_) | (go_wp2_with fail; refine hK.out _ _ ?sp1 (fun hp1 => ?_))
    case sp1 => exact ⟨hk0, hk1⟩
    clear hK K
    try simp only [Act.put, List.setIfInBounds_toArray, List.set_cons_zero, List.set_cons_succ]
    refine wpAnyH_ready (rs := [3, 6]) (by kernel_rfl) (by simp) ?_
    refine AllReadyH.cons (o := { dst := some 7, op := Go.Op.call { callee := Go.Callee.value (Go.Operand.func 90), args := #[Go.Operand.tmp 3, Go.Operand.tmp 6], argTypes := #[69, 151] }, type := 71, pos := "twin.go:28", after := #[{ on := 2, ground := Go.Ground.data }], guard := none }) rfl (fun K hK => ?_) (AllReadyH.cons (o := { dst := some 10, op := Go.Op.buildSlice 58 1 #[(0, Go.Operand.tmp 9)], type := 58, pos := "twin.go:28", after := #[{ on := 5, ground := Go.Ground.data }], guard := none }) rfl (fun K hK => ?_) AllReadyH.nil)
    · skip
      go_simp
      go_at_call 90
      refine (wU_1 p v s2 [] _ hW d2 F2 (cell_lt c2) c2 (by decide)).mono ?_
      rintro e wp2 ⟨rfl, hW2, hB2, hK2⟩
      have hk0 := hK2.cell hbp hFb hp1.1
      have hk1 := hK2.cell hbp hFb hp1.2
      have hFb := (hK2.2 b (cell_lt hp1.1) hbp hFb).2
      have HB := Lib.hid (gr_below HB.out HWP.out hB2)
      have hW : WrIs wp2 p (encU v) := hW2
      clear hW2 hB2 hK2
      first | refine hK.out _ _ ?sp2 (fun hp2 => ?_) | (go_wp2_with fail; refine hK.out _ _ ?sp2 (fun hp2 => ?_))
      case sp2 => exact ⟨hk0, hk1⟩
      clear hK K
      try simp only [Act.put, List.setIfInBounds_toArray, List.set_cons_zero, List.set_cons_succ]
      refine wpAnyH_ready (rs := [6]) (by kernel_rfl) (by simp) ?_
      refine AllReadyH.cons (o := { dst := some 10, op := Go.Op.buildSlice 58 1 #[(0, Go.Operand.tmp 9)], type := 58, pos := "twin.go:28", after := #[{ on := 5, ground := Go.Ground.data }], guard := none }) rfl (fun K hK => ?_) AllReadyH.nil
      go_simp
      obtain ⟨s6, hs6⟩ : ∃ s, s = wp2.heap.size := ⟨_, rfl⟩
      rw [← hs6]
      obtain ⟨wp3, hw⟩ : ∃ wn, wn = wp2.alloc (.cells #[.string t] 9) := ⟨_, rfl⟩
      rw [← hw]
      have gx : Gr wp2 wp3 := by rw [hw]; exact (Gr.refl _).alloc _
      have F6 : Free wp3 p s6 := by rw [hw, hs6]; exact free_new hW _
      have c6 : wp3.cell? ⟨s6, 0, none⟩ = some (.string t) := by rw [hw, hs6]; exact new_cell rfl rfl
      have d6 : s6 ≠ p := by have := (wrLt hW); omega
      have hFb := free_gr hW gx hFb
      have hk0 := gx.cell hp2.1
      have hk1 := gx.cell hp2.2
      have HB := Lib.hid (HB.out.trans gx)
      have hW := hW.gr gx
      clear gx hw hs6
      first | refine hK.out _ _ ?sp3 (fun hp3 => ?_) | (go_wp2_with fail; refine hK.out _ _ ?sp3 (fun hp3 => ?_))
      case sp3 => exact ⟨hk0, hk1⟩
      clear hK K
      try simp only [Act.put, List.setIfInBounds_toArray, List.set_cons_zero, List.set_cons_succ]
      refine wpAnyH_ready (rs := [7]) (by kernel_rfl) (by simp) ?_
      refine AllReadyH.cons (o := { dst := some 11, op := Go.Op.call { callee := Go.Callee.value (Go.Operand.func 34), args := #[Go.Operand.tmp 7, Go.Operand.tmp 10], argTypes := #[71, 58] }, type := 71, pos := "twin.go:28", after := #[{ on := 3, ground := Go.Ground.data }, { on := 6, ground := Go.Ground.data }, { on := 3, ground := Go.Ground.chain }], guard := none }) rfl (fun K hK => ?_) AllReadyH.nil
      go_simp
      go_at_call 34
      refine (wS_keeps p s6 0 t (encU v) _ hW c6 (by omega) (by omega)).mono ?_
      rintro e wp4 ⟨rfl, hW2, hB2, hK2⟩
      have hk0 := hK2.cell hbp hFb hp3.1
      have hk1 := hK2.cell hbp hFb hp3.2
      have hFb := (hK2.2 b (cell_lt hp3.1) hbp hFb).2
      have HB := Lib.hid (gr_below HB.out HWP.out hB2)
      have hW := hW2
      clear hW2 hB2 hK2
      first | refine hK.out _ _ ?sp4 (fun hp4 => ?_) | (go_wp2_with fail; refine hK.out _ _ ?sp4 (fun hp4 => ?_))
      case sp4 => exact ⟨hk0, hk1⟩
      clear hK K
      try simp only [Act.put, List.setIfInBounds_toArray, List.set_cons_zero, List.set_cons_succ]
      refine wpAnyH_ready (rs := [8]) (by kernel_rfl) (by simp) ?_
      refine AllReadyH.cons (o := { dst := some 12, op := Go.Op.call { callee := Go.Callee.value (Go.Operand.func 36), args := #[Go.Operand.tmp 11], argTypes := #[71] }, type := 9, pos := "twin.go:28", after := #[{ on := 7, ground := Go.Ground.data }, { on := 7, ground := Go.Ground.chain }], guard := none }) rfl (fun K hK => ?_) AllReadyH.nil
      go_simp
      go_at_call 36
      refine (wText_any p _ _ hW).mono ?_
      rintro e wp5 ⟨rfl, hweq⟩
      subst hweq
      have hk0 := hp4.1
      have hk1 := hp4.2
      first | refine hK.out _ _ ?sp5 (fun hp5 => ?_) | (go_wp2_with fail; refine hK.out _ _ ?sp5 (fun hp5 => ?_))
      case sp5 => exact ⟨hk0, hk1⟩
      clear hK K
      try simp only [Act.put, List.setIfInBounds_toArray, List.set_cons_zero, List.set_cons_succ]
      refine wpAnyH_ready (rs := [9]) (by kernel_rfl) (by simp) ?_
      refine AllReadyH.cons (o := { dst := some 13, op := Go.Op.call { callee := Go.Callee.value (Go.Operand.func 32), args := #[Go.Operand.const (Go.Value.int Go.IntKind.u8 1), Go.Operand.tmp 12], argTypes := #[5, 9] }, type := 9, pos := "twin.go:28", after := #[{ on := 8, ground := Go.Ground.data }, { on := 8, ground := Go.Ground.chain }], guard := none }) rfl (fun K hK => ?_) AllReadyH.nil
      go_simp
      go_at_call 32
      refine (FR.out _).mono ?_
      rintro e wp6 ⟨rfl, hgN⟩
      have hk0 := hgN.cell hp5.1
      have hk1 := hgN.cell hp5.2
      have HB := Lib.hid (HB.out.trans hgN)
      clear hgN
      first | refine hK.out _ _ ?sp6 (fun hp6 => ?_) | (go_wp2_with fail; refine hK.out _ _ ?sp6 (fun hp6 => ?_))
      case sp6 => exact ⟨hk0, hk1⟩
      clear hK K
      try simp only [Act.put, List.setIfInBounds_toArray, List.set_cons_zero, List.set_cons_succ]
      refine wpAnyH_take (i := 10) (oi := { dst := some 2, op := Go.Op.assign (Go.Operand.tmp 13), type := 9, pos := "twin.go:28", after := #[{ on := 9, ground := Go.Ground.data }, { on := 9, ground := Go.Ground.chain }, { on := 0, ground := Go.Ground.phase }, { on := 1, ground := Go.Ground.phase }, { on := 2, ground := Go.Ground.phase }, { on := 3, ground := Go.Ground.phase }, { on := 4, ground := Go.Ground.phase }, { on := 5, ground := Go.Ground.phase }, { on := 6, ground := Go.Ground.phase }, { on := 7, ground := Go.Ground.phase }, { on := 8, ground := Go.Ground.phase }, { on := 9, ground := Go.Ground.phase }], guard := none }) (v := ?vp10z7) rfl (by kernel_rfl) (by kernel_rfl) (by kernel_rfl) (fun _ _ _ h => h) (Or.inl ⟨by rfl, ?rp10z7⟩) (by assumption) ?_
      case rp10z7 => (intro w hSw; (try dsimp only at hSw); (go_simp <;> with_reducible rfl))
      try simp only [Act.put, List.setIfInBounds_toArray, List.set_cons_zero, List.set_cons_succ]
      refine wpAnyH_done (by kernel_rfl) ?_ _
      go_wp2
      go_ret
      exact ⟨rfl, HB.out⟩
    · skip
      go_simp
      obtain ⟨s6, hs6⟩ : ∃ s, s = wp1.heap.size := ⟨_, rfl⟩
      rw [← hs6]
      obtain ⟨wp8, hw⟩ : ∃ wn, wn = wp1.alloc (.cells #[.string t] 9) := ⟨_, rfl⟩
      rw [← hw]
      have gx : Gr wp1 wp8 := by rw [hw]; exact (Gr.refl _).alloc _
      have c2 := gx.cell c2
      have F2 := free_gr hW gx F2
      have F6 : Free wp8 p s6 := by rw [hw, hs6]; exact free_new hW _
      have c6 : wp8.cell? ⟨s6, 0, none⟩ = some (.string t) := by rw [hw, hs6]; exact new_cell rfl rfl
      have d6 : s6 ≠ p := by have := (wrLt hW); omega
      have hFb := free_gr hW gx hFb
      have hk0 := gx.cell hp1.1
      have hk1 := gx.cell hp1.2
      have HB := Lib.hid (HB.out.trans gx)
      have hW := hW.gr gx
      clear gx hw hs6
      first | refine hK.out _ _ ?sp8 (fun hp8 => ?_) | (go_wp2_with fail; refine hK.out _ _ ?sp8 (fun hp8 => ?_))
      case sp8 => exact ⟨hk0, hk1⟩
      clear hK K
      try simp only [Act.put, List.setIfInBounds_toArray, List.set_cons_zero, List.set_cons_succ]
      refine wpAnyH_ready (rs := [3]) (by kernel_rfl) (by simp) ?_
      refine AllReadyH.cons (o := { dst := some 7, op := Go.Op.call { callee := Go.Callee.value (Go.Operand.func 90), args := #[Go.Operand.tmp 3, Go.Operand.tmp 6], argTypes := #[69, 151] }, type := 71, pos := "twin.go:28", after := #[{ on := 2, ground := Go.Ground.data }], guard := none }) rfl (fun K hK => ?_) AllReadyH.nil
      go_simp
      go_at_call 90
      refine (wU_1 p v s2 [] _ hW d2 F2 (cell_lt c2) c2 (by decide)).mono ?_
      rintro e wp9 ⟨rfl, hW2, hB2, hK2⟩
      have hl6 := cell_lt c6
      have c6 := hK2.cell d6 F6 c6
      have F6 := (hK2.2 s6 hl6 d6 F6).2
      have hk0 := hK2.cell hbp hFb hp8.1
      have hk1 := hK2.cell hbp hFb hp8.2
      have hFb := (hK2.2 b (cell_lt hp8.1) hbp hFb).2
      have HB := Lib.hid (gr_below HB.out HWP.out hB2)
      have hW : WrIs wp9 p (encU v) := hW2
      clear hW2 hB2 hK2
      first | refine hK.out _ _ ?sp9 (fun hp9 => ?_) | (go_wp2_with fail; refine hK.out _ _ ?sp9 (fun hp9 => ?_))
      case sp9 => exact ⟨hk0, hk1⟩
      clear hK K
      try simp only [Act.put, List.setIfInBounds_toArray, List.set_cons_zero, List.set_cons_succ]
      refine wpAnyH_ready (rs := [7]) (by kernel_rfl) (by simp) ?_
      refine AllReadyH.cons (o := { dst := some 11, op := Go.Op.call { callee := Go.Callee.value (Go.Operand.func 34), args := #[Go.Operand.tmp 7, Go.Operand.tmp 10], argTypes := #[71, 58] }, type := 71, pos := "twin.go:28", after := #[{ on := 3, ground := Go.Ground.data }, { on := 6, ground := Go.Ground.data }, { on := 3, ground := Go.Ground.chain }], guard := none }) rfl (fun K hK => ?_) AllReadyH.nil
      go_simp
      go_at_call 34
      refine (wS_keeps p s6 0 t (encU v) _ hW c6 (by omega) (by omega)).mono ?_
      rintro e wp10 ⟨rfl, hW2, hB2, hK2⟩
      have hk0 := hK2.cell hbp hFb hp9.1
      have hk1 := hK2.cell hbp hFb hp9.2
      have hFb := (hK2.2 b (cell_lt hp9.1) hbp hFb).2
      have HB := Lib.hid (gr_below HB.out HWP.out hB2)
      have hW := hW2
      clear hW2 hB2 hK2
      first | refine hK.out _ _ ?sp10 (fun hp10 => ?_) | (go_wp2_with fail; refine hK.out _ _ ?sp10 (fun hp10 => ?_))
      case sp10 => exact ⟨hk0, hk1⟩
      clear hK K
      try simp only [Act.put, List.setIfInBounds_toArray, List.set_cons_zero, List.set_cons_succ]
      refine wpAnyH_ready (rs := [8]) (by kernel_rfl) (by simp) ?_
      refine AllReadyH.cons (o := { dst := some 12, op := Go.Op.call { callee := Go.Callee.value (Go.Operand.func 36), args := #[Go.Operand.tmp 11], argTypes := #[71] }, type := 9, pos := "twin.go:28", after := #[{ on := 7, ground := Go.Ground.data }, { on := 7, ground := Go.Ground.chain }], guard := none }) rfl (fun K hK => ?_) AllReadyH.nil
      go_simp
      go_at_call 36
      refine (wText_any p _ _ hW).mono ?_
      rintro e wp11 ⟨rfl, hweq⟩
      subst hweq
      have hk0 := hp10.1
      have hk1 := hp10.2
      first | refine hK.out _ _ ?sp11 (fun hp11 => ?_) | (go_wp2_with fail; refine hK.out _ _ ?sp11 (fun hp11 => ?_))
      case sp11 => exact ⟨hk0, hk1⟩
      clear hK K
      try simp only [Act.put, List.setIfInBounds_toArray, List.set_cons_zero, List.set_cons_succ]
      refine wpAnyH_ready (rs := [9]) (by kernel_rfl) (by simp) ?_
      refine AllReadyH.cons (o := { dst := some 13, op := Go.Op.call { callee := Go.Callee.value (Go.Operand.func 32), args := #[Go.Operand.const (Go.Value.int Go.IntKind.u8 1), Go.Operand.tmp 12], argTypes := #[5, 9] }, type := 9, pos := "twin.go:28", after := #[{ on := 8, ground := Go.Ground.data }, { on := 8, ground := Go.Ground.chain }], guard := none }) rfl (fun K hK => ?_) AllReadyH.nil
      go_simp
      go_at_call 32
      refine (FR.out _).mono ?_
      rintro e wp12 ⟨rfl, hgN⟩
      have hk0 := hgN.cell hp11.1
      have hk1 := hgN.cell hp11.2
      have HB := Lib.hid (HB.out.trans hgN)
      clear hgN
      first | refine hK.out _ _ ?sp12 (fun hp12 => ?_) | (go_wp2_with fail; refine hK.out _ _ ?sp12 (fun hp12 => ?_))
      case sp12 => exact ⟨hk0, hk1⟩
      clear hK K
      try simp only [Act.put, List.setIfInBounds_toArray, List.set_cons_zero, List.set_cons_succ]
      refine wpAnyH_take (i := 10) (oi := { dst := some 2, op := Go.Op.assign (Go.Operand.tmp 13), type := 9, pos := "twin.go:28", after := #[{ on := 9, ground := Go.Ground.data }, { on := 9, ground := Go.Ground.chain }, { on := 0, ground := Go.Ground.phase }, { on := 1, ground := Go.Ground.phase }, { on := 2, ground := Go.Ground.phase }, { on := 3, ground := Go.Ground.phase }, { on := 4, ground := Go.Ground.phase }, { on := 5, ground := Go.Ground.phase }, { on := 6, ground := Go.Ground.phase }, { on := 7, ground := Go.Ground.phase }, { on := 8, ground := Go.Ground.phase }, { on := 9, ground := Go.Ground.phase }], guard := none }) (v := ?vp10z13) rfl (by kernel_rfl) (by kernel_rfl) (by kernel_rfl) (fun _ _ _ h => h) (Or.inl ⟨by rfl, ?rp10z13⟩) (by assumption) ?_
      case rp10z13 => (intro w hSw; (try dsimp only at hSw); (go_simp <;> with_reducible rfl))
      try simp only [Act.put, List.setIfInBounds_toArray, List.set_cons_zero, List.set_cons_succ]
      refine wpAnyH_done (by kernel_rfl) ?_ _
      go_wp2
      go_ret
      exact ⟨rfl, HB.out⟩
  · skip
    go_simp
    obtain ⟨s6, hs6⟩ : ∃ s, s = wd.heap.size := ⟨_, rfl⟩
    rw [← hs6]
    obtain ⟨wp14, hw⟩ : ∃ wn, wn = wd.alloc (.cells #[.string t] 9) := ⟨_, rfl⟩
    rw [← hw]
    have gx : Gr wd wp14 := by rw [hw]; exact (Gr.refl _).alloc _
    have F6 : Free wp14 p s6 := by rw [hw, hs6]; exact free_new hW _
    have c6 : wp14.cell? ⟨s6, 0, none⟩ = some (.string t) := by rw [hw, hs6]; exact new_cell rfl rfl
    have d6 : s6 ≠ p := by have := (wrLt hW); omega
    have hFb := free_gr hW gx hFb
    have hk0 := gx.cell h0.1
    have hk1 := gx.cell h0.2
    have HB := Lib.hid (HB.out.trans gx)
    have hW := hW.gr gx
    clear gx hw hs6
    first | refine hK.out _ _ ?sp14 (fun hp14 => ?_) | (go_wp2_with fail; refine hK.out _ _ ?sp14 (fun hp14 => ?_))
    case sp14 => exact ⟨hk0, hk1⟩
    clear hK K
    try simp only [Act.put, List.setIfInBounds_toArray, List.set_cons_zero, List.set_cons_succ]
    refine wpAnyH_ready (rs := [2]) (by kernel_rfl) (by simp) ?_
    refine AllReadyH.cons (o := { dst := some 6, op := Go.Op.buildSlice 151 1 #[(0, Go.Operand.tmp 5)], type := 151, pos := "twin.go:28", after := #[{ on := 1, ground := Go.Ground.data }], guard := none }) rfl (fun K hK => ?_) AllReadyH.nil
    go_simp
    obtain ⟨s2, hs2⟩ : ∃ s, s = wp14.heap.size := ⟨_, rfl⟩
    rw [← hs2]
    obtain ⟨wp15, hw⟩ : ∃ wn, wn = wp14.alloc (.cells #[.int .u64 (v : Nat)] 52) := ⟨_, rfl⟩
    rw [← hw]
    have gx : Gr wp14 wp15 := by rw [hw]; exact (Gr.refl _).alloc _
    have c6 := gx.cell c6
    have F6 := free_gr hW gx F6
    have F2 : Free wp15 p s2 := by rw [hw, hs2]; exact free_new hW _
    have c2 : wp15.cell? ⟨s2, 0, none⟩ = some (.int .u64 (v : Nat)) := by rw [hw, hs2]; exact new_cell rfl rfl
    have d2 : s2 ≠ p := by have := (wrLt hW); omega
    have hFb := free_gr hW gx hFb
    have hk0 := gx.cell hp14.1
    have hk1 := gx.cell hp14.2
    have HB := Lib.hid (HB.out.trans gx)
    have hW := hW.gr gx
    clear gx hw hs2
    first | refine hK.out _ _ ?sp15 (fun hp15 => ?_) | (go_wp2_with fail; refine hK.out _ _ ?sp15 (fun hp15 => ?_))
    case sp15 => exact ⟨hk0, hk1⟩
    clear hK K
    try simp only [Act.put, List.setIfInBounds_toArray, List.set_cons_zero, List.set_cons_succ]
    refine wpAnyH_ready (rs := [3]) (by kernel_rfl) (by simp) ?_
    refine AllReadyH.cons (o := { dst := some 7, op := Go.Op.call { callee := Go.Callee.value (Go.Operand.func 90), args := #[Go.Operand.tmp 3, Go.Operand.tmp 6], argTypes := #[69, 151] }, type := 71, pos := "twin.go:28", after := #[{ on := 2, ground := Go.Ground.data }], guard := none }) rfl (fun K hK => ?_) AllReadyH.nil
    go_simp
    go_at_call 90
    refine (wU_1 p v s2 [] _ hW d2 F2 (cell_lt c2) c2 (by decide)).mono ?_
    rintro e wp16 ⟨rfl, hW2, hB2, hK2⟩
    have hl6 := cell_lt c6
    have c6 := hK2.cell d6 F6 c6
    have F6 := (hK2.2 s6 hl6 d6 F6).2
    have hk0 := hK2.cell hbp hFb hp15.1
    have hk1 := hK2.cell hbp hFb hp15.2
    have hFb := (hK2.2 b (cell_lt hp15.1) hbp hFb).2
    have HB := Lib.hid (gr_below HB.out HWP.out hB2)
    have hW : WrIs wp16 p (encU v) := hW2
    clear hW2 hB2 hK2
    first | refine hK.out _ _ ?sp16 (fun hp16 => ?_) | (go_wp2_with fail; refine hK.out _ _ ?sp16 (fun hp16 => ?_))
    case sp16 => exact ⟨hk0, hk1⟩
    clear hK K
    try simp only [Act.put, List.setIfInBounds_toArray, List.set_cons_zero, List.set_cons_succ]
    refine wpAnyH_ready (rs := [7]) (by kernel_rfl) (by simp) ?_
    refine AllReadyH.cons (o := { dst := some 11, op := Go.Op.call { callee := Go.Callee.value (Go.Operand.func 34), args := #[Go.Operand.tmp 7, Go.Operand.tmp 10], argTypes := #[71, 58] }, type := 71, pos := "twin.go:28", after := #[{ on := 3, ground := Go.Ground.data }, { on := 6, ground := Go.Ground.data }, { on := 3, ground := Go.Ground.chain }], guard := none }) rfl (fun K hK => ?_) AllReadyH.nil
    go_simp
    go_at_call 34
    refine (wS_keeps p s6 0 t (encU v) _ hW c6 (by omega) (by omega)).mono ?_
    rintro e wp17 ⟨rfl, hW2, hB2, hK2⟩
    have hk0 := hK2.cell hbp hFb hp16.1
    have hk1 := hK2.cell hbp hFb hp16.2
    have hFb := (hK2.2 b (cell_lt hp16.1) hbp hFb).2
    have HB := Lib.hid (gr_below HB.out HWP.out hB2)
    have hW := hW2
    clear hW2 hB2 hK2
    first | refine hK.out _ _ ?sp17 (fun hp17 => ?_) | (go_wp2_with fail; refine hK.out _ _ ?sp17 (fun hp17 => ?_))
    case sp17 => exact ⟨hk0, hk1⟩
    clear hK K
    try simp only [Act.put, List.setIfInBounds_toArray, List.set_cons_zero, List.set_cons_succ]
    refine wpAnyH_ready (rs := [8]) (by kernel_rfl) (by simp) ?_
    refine AllReadyH.cons (o := { dst := some 12, op := Go.Op.call { callee := Go.Callee.value (Go.Operand.func 36), args := #[Go.Operand.tmp 11], argTypes := #[71] }, type := 9, pos := "twin.go:28", after := #[{ on := 7, ground := Go.Ground.data }, { on := 7, ground := Go.Ground.chain }], guard := none }) rfl (fun K hK => ?_) AllReadyH.nil
    go_simp
    go_at_call 36
    refine (wText_any p _ _ hW).mono ?_
    rintro e wp18 ⟨rfl, hweq⟩
    subst hweq
    have hk0 := hp17.1
    have hk1 := hp17.2
    first | refine hK.out _ _ ?sp18 (fun hp18 => ?_) | (go_wp2_with fail; refine hK.out _ _ ?sp18 (fun hp18 => ?_))
    case sp18 => exact ⟨hk0, hk1⟩
    clear hK K
    try simp only [Act.put, List.setIfInBounds_toArray, List.set_cons_zero, List.set_cons_succ]
    refine wpAnyH_ready (rs := [9]) (by kernel_rfl) (by simp) ?_
    refine AllReadyH.cons (o := { dst := some 13, op := Go.Op.call { callee := Go.Callee.value (Go.Operand.func 32), args := #[Go.Operand.const (Go.Value.int Go.IntKind.u8 1), Go.Operand.tmp 12], argTypes := #[5, 9] }, type := 9, pos := "twin.go:28", after := #[{ on := 8, ground := Go.Ground.data }, { on := 8, ground := Go.Ground.chain }], guard := none }) rfl (fun K hK => ?_) AllReadyH.nil
    go_simp
    go_at_call 32
    refine (FR.out _).mono ?_
    rintro e wp19 ⟨rfl, hgN⟩
    have hk0 := hgN.cell hp18.1
    have hk1 := hgN.cell hp18.2
    have HB := Lib.hid (HB.out.trans hgN)
    clear hgN
    first | refine hK.out _ _ ?sp19 (fun hp19 => ?_) | (go_wp2_with fail; refine hK.out _ _ ?sp19 (fun hp19 => ?_))
    case sp19 => exact ⟨hk0, hk1⟩
    clear hK K
    try simp only [Act.put, List.setIfInBounds_toArray, List.set_cons_zero, List.set_cons_succ]
    refine wpAnyH_take (i := 10) (oi := { dst := some 2, op := Go.Op.assign (Go.Operand.tmp 13), type := 9, pos := "twin.go:28", after := #[{ on := 9, ground := Go.Ground.data }, { on := 9, ground := Go.Ground.chain }, { on := 0, ground := Go.Ground.phase }, { on := 1, ground := Go.Ground.phase }, { on := 2, ground := Go.Ground.phase }, { on := 3, ground := Go.Ground.phase }, { on := 4, ground := Go.Ground.phase }, { on := 5, ground := Go.Ground.phase }, { on := 6, ground := Go.Ground.phase }, { on := 7, ground := Go.Ground.phase }, { on := 8, ground := Go.Ground.phase }, { on := 9, ground := Go.Ground.phase }], guard := none }) (v := ?vp10z20) rfl (by kernel_rfl) (by kernel_rfl) (by kernel_rfl) (fun _ _ _ h => h) (Or.inl ⟨by rfl, ?rp10z20⟩) (by assumption) ?_
    case rp10z20 => (intro w hSw; (try dsimp only at hSw); (go_simp <;> with_reducible rfl))
    try simp only [Act.put, List.setIfInBounds_toArray, List.set_cons_zero, List.set_cons_succ]
    refine wpAnyH_done (by kernel_rfl) ?_ _
    go_wp2
    go_ret
    exact ⟨rfl, HB.out⟩
end Go.Proofs.Ytfcfbecfamemlaa
