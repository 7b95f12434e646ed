import Derived.Test.YtjllnojhhlkpoaaL02d
import Derived.Test.YtjllnojhhlkpoaaL02c
import Derived.Test.YtjllnojhhlkpoaaF01k
import Derived.Test.YtjllnojhhlkpoaaF01g
import Derived.Test.YtjllnojhhlkpoaaL01b
import Derived.Test.YtjllnojhhlkpoaaL01c
import Derived.Test.YtjllnojhhlkpoaaL01g
import Derived.Test.YtjllnojhhlkpoaaC16
import Derived.Test.YtjllnojhhlkpoaaC18
import Derived.Test.YtjllnojhhlkpoaaC12
import Derived.WalkKit
import Derived.ProofKit
import Derived.LoopTactic
import Derived.Outline
import Derived.WalkSpells
import Derived.WalkLawsBesides
import Derived.Lib.Hide
import Derived.Deep.LoopGhost
import Derived.Deep.QuietTactic
import Derived.BigQuiet
import Derived.ShutString
import Derived.IntWalk
import Derived.Lib.MinMax
import Derived.Deep.AppendLies
import Derived.Deep.RegionHeld3
namespace Go.Proofs.Ytjllnojhhlkpoaa
open Go.ChangeShapes Go.WideShapes Go.ChangeAt Go.RowKit
open Enc Crc
set_option linter.unusedVariables false
set_option linter.unusedSimpArgs false
/-- What is written of the text at a place, and its frame's part. -/
def innerF (k : Nat) (t : ByteArray) : ByteArray := ofL (encN (k : Nat) ++ encS (bytesOf t) ++ encB (decide (3 < k)))
theorem encSF_le (t : ByteArray) : (encS (bytesOf t)).length ≤ t.size + 9 := by
  have := encU_le (bytesOf t).length; have h2 := bytesOf_length t; unfold encS; rw [List.length_append]; omega
theorem encNF_le (k : Nat) : (encN (k : Nat)).length ≤ 9 := by unfold encN; exact encU_le _
theorem innerF_le (k : Nat) (t : ByteArray) : (innerF k t).size ≤ t.size + 19 := by
  unfold innerF
  rw [ofL_size, List.length_append, List.length_append]
  have := encSF_le t; have := encNF_le k
  simp [encB]; omega
def partsF (ss : List ByteArray) : List (Nat × ByteArray) := (List.range (min ss.length 12)).map fun i => (1 + i, innerF i (cutB (ss.getD i ⟨#[]⟩) 80))
theorem partsF_len (ss : List ByteArray) : (partsF ss).length = min ss.length 12 := by simp [partsF]
theorem partsF_at (ss : List ByteArray) (i : Nat) (h : i < (partsF ss).length) : (partsF ss)[i] = (1 + i, innerF i (cutB (ss.getD i ⟨#[]⟩) 80)) := by simp [partsF]
theorem partsF_valid (ss : List ByteArray) : ∀ p ∈ partsF ss, 1 ≤ p.1 ∧ p.1 < 256 ∧ p.2.size ≤ 100 := by
  intro p hp
  obtain ⟨i, hi, rfl⟩ := List.getElem_of_mem hp
  rw [partsF_at]
  rw [partsF_len] at hi
  have := innerF_le i (cutB (ss.getD i ⟨#[]⟩) 80)
  have := cutB_le (ss.getD i ⟨#[]⟩) 80
  exact ⟨by show 1 ≤ 1 + i; omega, by show 1 + i < 256; omega, by show (innerF i _).size ≤ 100; omega⟩
theorem wrLtF {w : World} {p : Nat} {l : List UInt8} (h : WrIs w p l) : p < w.heap.size := by obtain ⟨_, _, _, _, hp, _⟩ := h; exact hp
theorem wN_1 (p b : Nat) (v : Int) (l : List UInt8) (w : World) (h : WrIs w p l) (hb : b ≠ p) (hfr : Free w p b) (hc : w.cell? ⟨b, 0, none⟩ = some (.int .i64 v)) (hl : l.length ≤ 1000000) (hv : v ≤ 9223372036854775807) :
    Calls Try.prog 23 #[.pointer (some ⟨p, 0, none⟩), .slice (some ⟨b, 0, none⟩) 1 1] w fun e w' => e = .returned (.pointer (some ⟨p, 0, none⟩)) ∧ WrIs w' p (l ++ encN v) ∧ Below p w w' ∧ Keeps p w w' := by
  have := wN_any p b 0 [v] l w h hb hfr (by intro i hi; match i, hi with | 0, _ => exact hc) hl (by simp) (by intro u hu; simp at hu; omega)
  have e1 : encNs [v] = encN v := by simp [encNs]
  rwa [e1] at this
theorem frameF_any (k : Nat) (s : ByteArray) (w : World) (hk : k < 256) (hk1 : 1 ≤ k) (hs : s.size ≤ 1048576) :
    Calls Try.prog 22 #[.int .u8 k, .string s] w fun e w' => e = .returned (.string (rframe k s)) ∧ Gr w w' := by
  have := frame_any k s w hk hk1 hs
  rwa [frame_eq k s hk hs] at this
theorem free_grF {w w' : World} {p b : Nat} {l : List UInt8} (hW : WrIs w p l) (hg : Gr w w') (hf : Free w p b) : Free w' p b := by
  obtain ⟨a, cap, hc, _⟩ := hW
  intro v hv
  have := hg.cell hc
  rw [this] at hv
  cases hv
  exact hf _ hc
theorem framesOf_leF (l : List (Nat × ByteArray)) (h : ∀ p ∈ l, p.2.size ≤ 100) : (framesOf l).size ≤ l.length * 108 := by
  induction l with
  | nil => exact Nat.zero_le _
  | cons p t ih =>
    have h1 := h p (by simp)
    have h2 := ih (fun q hq => h q (by simp [hq]))
    rw [framesOf, ByteArray.size_append, rframe_size, List.length_cons]; omega
theorem framesF_le (ss : List ByteArray) (k : Nat) : (framesOf ((partsF ss).take k)).size ≤ 1296 := by
  have h1 := framesOf_leF ((partsF ss).take k) (fun p hp => (partsF_valid ss p (List.mem_of_mem_take hp)).2.2)
  have h2 : ((partsF ss).take k).length ≤ 12 := by rw [List.length_take, partsF_len]; omega
  omega
/-- The ends of the frames. -/
def endF (ss : List ByteArray) (j : Nat) : Nat := (framesOf ((partsF ss).take (j + 1))).size
def endsF (ss : List ByteArray) (k : Nat) : List Value := (List.range k).map fun j => .int .i64 (endF ss j : Nat)
theorem endsF_succ (ss : List ByteArray) (k : Nat) : endsF ss (k + 1) = endsF ss k ++ [.int .i64 (endF ss k : Nat)] := by simp [endsF, List.range_succ]
theorem endsF_at (ss : List ByteArray) (k j : Nat) (h : j < k) : (endsF ss k)[j]? = some (.int .i64 (endF ss j : Nat)) := by simp [endsF, h]
theorem info_intF : (Try.prog.info? 3).map (fun i => (i.zero, i.size, i.bytes)) = some (some (.int .i64 0), 1, 8) := by kernel_rfl
set_option maxRecDepth 100000 in
set_option maxHeartbeats 8000000 in
theorem framesTop_walk (ss : List ByteArray) (a : Option Addr) (cap : Nat) (cut : Int) (w : World) (hst : Strs w a ss) :
    Calls Try.prog 5 #[.slice a ss.length cap, .int .i64 cut] w fun e w' => e = .returned (.bool true) ∧ Gr w w' := by
  obtain ⟨i0, hi, hz0, hz1, hz2⟩ := info_parts info_intF
  have HSUM := Lib.hid (show (4294967295 - crc 4294967295 (cat [⟨#[49, 50, 51, 52, 53, 54, 55, 56, 57]⟩]) : Nat) = 3421780262 by decide +kernel)
  have HST := Lib.hid hst
  have hsl := hst.2.1
  clear hst
  go_enter Try.func5, Try.ntmps5
  go_wp2
  go_loopw [5, 6, 7] (fun av ev i wr => ∃ k : Nat, k ≤ ss.length ∧ k ≤ 12 ∧ i = .int .i64 (k : Nat) ∧ av = .string (framesOf ((partsF ss).take k)) ∧ Hid (wr.ownsRow w.heap.size 3 1 ev k (endsF ss k)) ∧ Hid (Gr w wr)) (fun _ _ i _ => ss.length - (intOf i).toNat)
  case atStart => exact ⟨0, by omega, by omega, rfl, rfl, Lib.hid (World.ownsRow_nil _ _ _ _), Lib.hid (Gr.refl _)⟩
  case round =>
    obtain ⟨k, hk, hk12, rfl, rfl, HE, HG⟩ := hrel
    by_cases hlt : k < ss.length
    · by_cases h12 : k < 12
      · obtain ⟨bb, oo, rfl, hbb, hc0, hz0s⟩ := HST.out.at k hlt
        have k0c := HG.out.cell hc0
        have hpk : k < (partsF ss).length := by rw [partsF_len]; omega
        have hat := partsF_at ss k hpk
        rw [show ss.getD k ⟨#[]⟩ = ss[k] by rw [List.getD_eq_getElem?_getD, List.getElem?_eq_getElem hlt]; rfl] at hat
        have HSN := Lib.hid (show framesOf ((partsF ss).take (k + 1)) = framesOf ((partsF ss).take k) ++ rframe (1 + k) (innerF k (cutB ss[k] 80)) by rw [List.take_succ_eq_append_getElem hpk, framesOf_snoc, hat])
        have HFL := Lib.hid (framesF_le ss k)
        have HFL1 := Lib.hid (framesF_le ss (k + 1))
        have CU := Lib.hid (fun w => cut_any ss[k] 80 w hz0s (by decide))
        have hcs := cutB_le ss[k] 80
        clear hat hc0
        generalize ss[k] = x0 at *
        generalize cutB x0 80 = t at *
        obtain ⟨kk, hkk⟩ : ∃ kk, 1 + k = kk := ⟨_, rfl⟩
        have hrf : (rframe (1 + k) (innerF k t)).size ≤ 200 := by rw [rframe_size]; have := innerF_le k t; omega
        rw [hkk] at HSN hrf
        have FR0 := fun w => frameF_any kk (innerF k t) w (by omega) (by omega) (by have := innerF_le k t; omega)
        generalize hfr : rframe kk (innerF k t) = fr at *
        obtain ⟨tx, htx⟩ : ∃ tx : ByteArray, (⟨(encN (k : Nat) ++ encS (bytesOf t) ++ encB (decide (3 < k))).toArray⟩ : ByteArray) = tx := ⟨_, rfl⟩
        have HTX := Lib.hid htx
        have FR : Hid (∀ w, Calls Try.prog 22 #[.int .u8 kk, .string tx] w fun e w' => e = .returned (.string fr) ∧ Gr w w') := Lib.hid (by rw [← htx]; exact FR0)
        clear htx
        clear FR0 hfr
        have HEN := Lib.hid (encNF_le k)
        have HES := Lib.hid (encSF_le t)
        have hfl : (framesOf ((partsF ss).take k)).size ≤ 2000 := by have := HFL.out; omega
        generalize framesOf ((partsF ss).take k) = all at *
        have hsum : ¬ 9223372036854775807 < all.size + fr.size := by omega
        have hW := new_writer wr
        have hFb := new_writer_free wr bb
        have HB0 := Lib.hid ((Gr.refl wr).alloc (.cells #[.slice none 0 0] 50))
        have hbp : bb ≠ wr.heap.size := by have := cell_lt k0c; omega
        replace k0c := HB0.out.cell k0c
        have hk1w : IntKind.i64.wrap (1 + (k : Int)) = 1 + (k : Int) := IntWalk.i64_in _ (by omega)
        have hk8w : IntKind.u8.wrap (1 + (k : Int)) = (kk : Int) := by rw [IntWalk.u8_in _ (by omega)]; omega
        have hk4 : (k : Int) < (ss.length : Int) := by omega
        go_wp2_with fail
        generalize wr.alloc (.cells #[.slice none 0 0] 50) = wz at *
        generalize hp0 : wr.heap.size = p at *
        have HWP : Hid (wr.heap.size ≤ p) := Lib.hid (Nat.le_of_eq hp0)
        clear hp0
        apply cutS3 (fun _ _ _ w9 => Gr wr w9)
        case main =>
          intro HL2
          refine wp_region_held_drew (S := (fun w9 => w9.cell? ⟨bb, oo + k, none⟩ = some (.string x0))) (by kernel_rfl) ?invp (fun h0 => ?_)
          case invp => exact k0c
          have gd := (Gr.refl wz).drew
          replace hFb := free_grF hW gd hFb
          replace hW := hW.gr gd
          have HB := Lib.hid (HB0.out.trans gd)
          clear gd
          generalize wz.drew = wd at *
          refine wpAnyH_take (i := 0) (oi := { dst := some 28, op := Go.Op.move (Go.Operand.tmp 5), type := 9, pos := "top01.go:16", after := #[], guard := none }) (v := ?vp0) rfl (by kernel_rfl) (by kernel_rfl) (by kernel_rfl) (fun _ _ _ h => h) (Or.inl ⟨by rfl, ?rp0⟩) (by assumption) ?_
          case rp0 => (intro w hSw; (try dsimp only at hSw); (go_simp <;> with_reducible rfl))
          try simp only [Act.put, List.setIfInBounds_toArray, List.set_cons_zero, List.set_cons_succ]
          refine wpAnyH_take (i := 1) (oi := { dst := some 29, op := Go.Op.move (Go.Operand.tmp 7), type := 3, pos := "top01.go:16", after := #[], guard := none }) (v := ?vp1) rfl (by kernel_rfl) (by kernel_rfl) (by kernel_rfl) (fun _ _ _ h => h) (Or.inl ⟨by rfl, ?rp1⟩) (by assumption) ?_
          case rp1 => (intro w hSw; (try dsimp only at hSw); (go_simp <;> with_reducible rfl))
          try simp only [Act.put, List.setIfInBounds_toArray, List.set_cons_zero, List.set_cons_succ]
          refine wpAnyH_take (i := 2) (oi := { dst := some 30, op := Go.Op.binOp Go.BinOp.add 3 (Go.Operand.const (Go.Value.int Go.IntKind.i64 1)) (Go.Operand.tmp 29) 3, type := 3, pos := "top01.go:16", after := #[{ on := 1, ground := Go.Ground.data }], guard := none }) (v := (.int .i64 (1 + (k : Int)))) rfl (by kernel_rfl) (by kernel_rfl) (by kernel_rfl) (fun _ _ _ h => h) (Or.inl ⟨by rfl, ?rp2⟩) (by assumption) ?_
          case rp2 => (intro w hSw; (try dsimp only at hSw); go_simp; all_goals first | rfl | simp only [hk1w])
          try simp only [Act.put, List.setIfInBounds_toArray, List.set_cons_zero, List.set_cons_succ]
          refine wpAnyH_take (i := 3) (oi := { dst := some 31, op := Go.Op.convert 3 5 (Go.Operand.tmp 30), type := 5, pos := "top01.go:16", after := #[{ on := 2, ground := Go.Ground.data }], guard := none }) (v := (.int .u8 (kk : Nat))) rfl (by kernel_rfl) (by kernel_rfl) (by kernel_rfl) (fun _ _ _ h => h) (Or.inl ⟨by rfl, ?rp3⟩) (by assumption) ?_
          case rp3 => (intro w hSw; (try dsimp only at hSw); go_simp; all_goals first | rfl | simp only [hk8w])
          try simp only [Act.put, List.setIfInBounds_toArray, List.set_cons_zero, List.set_cons_succ]
          refine wpAnyH_take (i := 4) (oi := { dst := some 32, op := Go.Op.move (Go.Operand.tmp 7), type := 3, pos := "top01.go:16", after := #[], guard := none }) (v := ?vp4) rfl (by kernel_rfl) (by kernel_rfl) (by kernel_rfl) (fun _ _ _ h => h) (Or.inl ⟨by rfl, ?rp4⟩) (by assumption) ?_
          case rp4 => (intro w hSw; (try dsimp only at hSw); (go_simp <;> with_reducible rfl))
          try simp only [Act.put, List.setIfInBounds_toArray, List.set_cons_zero, List.set_cons_succ]
          refine wpAnyH_take (i := 7) (oi := { dst := some 35, op := Go.Op.move (Go.Operand.tmp 0), type := 47, pos := "top01.go:16", after := #[], guard := none }) (v := ?vp7) rfl (by kernel_rfl) (by kernel_rfl) (by kernel_rfl) (fun _ _ _ h => h) (Or.inl ⟨by rfl, ?rp7⟩) (by assumption) ?_
          case rp7 => (intro w hSw; (try dsimp only at hSw); (go_simp <;> with_reducible rfl))
          try simp only [Act.put, List.setIfInBounds_toArray, List.set_cons_zero, List.set_cons_succ]
          refine wpAnyH_take (i := 8) (oi := { dst := some 36, op := Go.Op.move (Go.Operand.tmp 7), type := 3, pos := "top01.go:16", after := #[], guard := none }) (v := ?vp8) rfl (by kernel_rfl) (by kernel_rfl) (by kernel_rfl) (fun _ _ _ h => h) (Or.inl ⟨by rfl, ?rp8⟩) (by assumption) ?_
          case rp8 => (intro w hSw; (try dsimp only at hSw); (go_simp <;> with_reducible rfl))
          try simp only [Act.put, List.setIfInBounds_toArray, List.set_cons_zero, List.set_cons_succ]
          refine wpAnyH_take (i := 9) (oi := { dst := some 37, op := Go.Op.indexAddr 47 (Go.Operand.tmp 35) (Go.Operand.tmp 36), type := 0, pos := "top01.go:16", after := #[{ on := 7, ground := Go.Ground.data }, { on := 8, ground := Go.Ground.data }], guard := none }) (v := ?vp9) rfl (by kernel_rfl) (by kernel_rfl) (by kernel_rfl) (fun _ _ _ h => h) (Or.inl ⟨by rfl, ?rp9⟩) (by assumption) ?_
          case rp9 => (intro w hSw; (try dsimp only at hSw); (go_simp <;> with_reducible rfl))
          try simp only [Act.put, List.setIfInBounds_toArray, List.set_cons_zero, List.set_cons_succ]
          refine wpAnyH_take (i := 10) (oi := { dst := some 38, op := Go.Op.load 9 (Go.Operand.tmp 37), type := 9, pos := "top01.go:16", after := #[{ on := 9, ground := Go.Ground.data }], guard := none }) (v := ?vp10) rfl (by kernel_rfl) (by kernel_rfl) (by kernel_rfl) (fun _ _ _ h => h) (Or.inl ⟨by rfl, ?rp10⟩) (by assumption) ?_
          case rp10 => (intro w hSw; (try dsimp only at hSw); (go_simp <;> with_reducible rfl))
          try simp only [Act.put, List.setIfInBounds_toArray, List.set_cons_zero, List.set_cons_succ]
          refine wpAnyH_take (i := 14) (oi := { dst := some 42, op := Go.Op.move (Go.Operand.tmp 7), type := 3, pos := "top01.go:16", after := #[], guard := none }) (v := ?vp14) rfl (by kernel_rfl) (by kernel_rfl) (by kernel_rfl) (fun _ _ _ h => h) (Or.inl ⟨by rfl, ?rp14⟩) (by assumption) ?_
          case rp14 => (intro w hSw; (try dsimp only at hSw); (go_simp <;> with_reducible rfl))
          try simp only [Act.put, List.setIfInBounds_toArray, List.set_cons_zero, List.set_cons_succ]
          refine wpAnyH_take (i := 15) (oi := { dst := some 43, op := Go.Op.binOp Go.BinOp.gtr 3 (Go.Operand.tmp 42) (Go.Operand.const (Go.Value.int Go.IntKind.i64 3)) 3, type := 4, pos := "top01.go:16", after := #[{ on := 14, ground := Go.Ground.data }], guard := none }) (v := (.bool (decide (3 < k)))) rfl (by kernel_rfl) (by kernel_rfl) (by kernel_rfl) (fun _ _ _ h => h) (Or.inl ⟨by rfl, ?rp15⟩) (by assumption) ?_
          case rp15 => (intro w hSw; (try dsimp only at hSw); go_simp; all_goals first | rfl | omega | exact congrArg Value.bool (decide_eq_decide.2 (by omega)) | (simp; omega) | trace_state)
          try simp only [Act.put, List.setIfInBounds_toArray, List.set_cons_zero, List.set_cons_succ]
          refine wpAnyH_ready (rs := [5, 16]) (by kernel_rfl) (by simp) ?_
          refine AllReadyH.cons (o := { dst := some 33, op := Go.Op.buildSlice 32 1 #[(0, Go.Operand.tmp 32)], type := 32, pos := "top01.go:16", after := #[{ on := 4, ground := Go.Ground.data }], guard := none }) rfl (fun K hK => ?_) (AllReadyH.cons (o := { dst := some 44, op := Go.Op.buildSlice 115 1 #[(0, Go.Operand.tmp 43)], type := 115, pos := "top01.go:16", after := #[{ on := 15, ground := Go.Ground.data }], guard := none }) rfl (fun K hK => ?_) AllReadyH.nil)
          · skip
            go_simp
            obtain ⟨s5, hs5⟩ : ∃ s, s = wd.heap.size := ⟨_, rfl⟩
            rw [← hs5]
            obtain ⟨wp1, hw⟩ : ∃ wn, wn = wd.alloc (.cells #[.int .i64 (k : Nat)] 3) := ⟨_, rfl⟩
            rw [← hw]
            have gx : Gr wd wp1 := by rw [hw]; exact (Gr.refl _).alloc _
            have F5 : Free wp1 p s5 := by rw [hw, hs5]; exact free_new hW _
            have c5 : wp1.cell? ⟨s5, 0, none⟩ = some (.int .i64 (k : Nat)) := by rw [hw, hs5]; exact new_cell rfl rfl
            have d5 : s5 ≠ p := by have := (wrLtF hW); omega
            have hFb := free_grF hW gx hFb
            have hk0 := gx.cell h0
            have HB := Lib.hid (HB.out.trans gx)
            have hW := hW.gr gx
            clear gx hw hs5
            first | refine hK.out _ _ ?sp1 (fun hp1 => ?_) | (go_wp2_with fail; refine hK.out _ _ ?sp1 (fun hp1 => ?_))
            case sp1 => exact hk0
            clear hK K
            try simp only [Act.put, List.setIfInBounds_toArray, List.set_cons_zero, List.set_cons_succ]
            refine wpAnyH_ready (rs := [6, 16]) (by kernel_rfl) (by simp) ?_
            refine AllReadyH.cons (o := { dst := some 34, op := Go.Op.call { callee := Go.Callee.value (Go.Operand.func 23), args := #[Go.Operand.tmp 8, Go.Operand.tmp 33], argTypes := #[50, 32] }, type := 52, pos := "top01.go:16", after := #[{ on := 5, ground := Go.Ground.data }], guard := none }) rfl (fun K hK => ?_) (AllReadyH.cons (o := { dst := some 44, op := Go.Op.buildSlice 115 1 #[(0, Go.Operand.tmp 43)], type := 115, pos := "top01.go:16", after := #[{ on := 15, ground := Go.Ground.data }], guard := none }) rfl (fun K hK => ?_) AllReadyH.nil)
            · skip
              go_simp
              go_at_call 23
              refine (wN_1 p s5 (k : Nat) [] _ hW d5 F5 c5 (by decide) (by omega)).mono ?_
              rintro e wp2 ⟨rfl, hW2, hB2, hK2⟩
              have hk0 := hK2.cell hbp hFb hp1
              have hFb := (hK2.2 bb (cell_lt hp1) hbp hFb).2
              have HB := Lib.hid (gr_below HB.out HWP.out hB2)
              have hW : WrIs wp2 p (encN (k : Nat)) := hW2
              clear hW2 hB2 hK2
              first | refine hK.out _ _ ?sp2 (fun hp2 => ?_) | (go_wp2_with fail; refine hK.out _ _ ?sp2 (fun hp2 => ?_))
              case sp2 => exact hk0
              clear hK K
              try simp only [Act.put, List.setIfInBounds_toArray, List.set_cons_zero, List.set_cons_succ]
              refine wpAnyH_ready (rs := [11, 16]) (by kernel_rfl) (by simp) ?_
              refine AllReadyH.cons (o := { dst := some 39, op := Go.Op.call { callee := Go.Callee.value (Go.Operand.func 25), args := #[Go.Operand.tmp 38, Go.Operand.const (Go.Value.int Go.IntKind.i64 80)], argTypes := #[9, 3] }, type := 9, pos := "top01.go:16", after := #[{ on := 10, ground := Go.Ground.data }, { on := 6, ground := Go.Ground.chain }], guard := none }) rfl (fun K hK => ?_) (AllReadyH.cons (o := { dst := some 44, op := Go.Op.buildSlice 115 1 #[(0, Go.Operand.tmp 43)], type := 115, pos := "top01.go:16", after := #[{ on := 15, ground := Go.Ground.data }], guard := none }) rfl (fun K hK => ?_) AllReadyH.nil)
              · skip
                go_simp
                go_at_call 25
                refine (CU.out _).mono ?_
                rintro e wp3 ⟨rfl, hweq⟩
                subst hweq
                have hk0 := hp2
                first | refine hK.out _ _ ?sp3 (fun hp3 => ?_) | (go_wp2_with fail; refine hK.out _ _ ?sp3 (fun hp3 => ?_))
                case sp3 => exact hk0
                clear hK K
                try simp only [Act.put, List.setIfInBounds_toArray, List.set_cons_zero, List.set_cons_succ]
                refine wpAnyH_ready (rs := [12, 16]) (by kernel_rfl) (by simp) ?_
                refine AllReadyH.cons (o := { dst := some 40, op := Go.Op.buildSlice 47 1 #[(0, Go.Operand.tmp 39)], type := 47, pos := "top01.go:16", after := #[{ on := 11, ground := Go.Ground.data }], guard := none }) rfl (fun K hK => ?_) (AllReadyH.cons (o := { dst := some 44, op := Go.Op.buildSlice 115 1 #[(0, Go.Operand.tmp 43)], type := 115, pos := "top01.go:16", after := #[{ on := 15, ground := Go.Ground.data }], guard := none }) rfl (fun K hK => ?_) AllReadyH.nil)
                · skip
                  go_simp
                  obtain ⟨s12, hs12⟩ : ∃ s, s = wp2.heap.size := ⟨_, rfl⟩
                  rw [← hs12]
                  obtain ⟨wp4, hw⟩ : ∃ wn, wn = wp2.alloc (.cells #[.string t] 9) := ⟨_, rfl⟩
                  rw [← hw]
                  have gx : Gr wp2 wp4 := by rw [hw]; exact (Gr.refl _).alloc _
                  have F12 : Free wp4 p s12 := by rw [hw, hs12]; exact free_new hW _
                  have c12 : wp4.cell? ⟨s12, 0, none⟩ = some (.string t) := by rw [hw, hs12]; exact new_cell rfl rfl
                  have d12 : s12 ≠ p := by have := (wrLtF hW); omega
                  have hFb := free_grF hW gx hFb
                  have hk0 := gx.cell hp3
                  have HB := Lib.hid (HB.out.trans gx)
                  have hW := hW.gr gx
                  clear gx hw hs12
                  first | refine hK.out _ _ ?sp4 (fun hp4 => ?_) | (go_wp2_with fail; refine hK.out _ _ ?sp4 (fun hp4 => ?_))
                  case sp4 => exact hk0
                  clear hK K
                  try simp only [Act.put, List.setIfInBounds_toArray, List.set_cons_zero, List.set_cons_succ]
                  refine wpAnyH_ready (rs := [13, 16]) (by kernel_rfl) (by simp) ?_
                  refine AllReadyH.cons (o := { dst := some 41, op := Go.Op.call { callee := Go.Callee.value (Go.Operand.func 24), args := #[Go.Operand.tmp 34, Go.Operand.tmp 40], argTypes := #[52, 47] }, type := 52, pos := "top01.go:16", after := #[{ on := 6, ground := Go.Ground.data }, { on := 12, ground := Go.Ground.data }, { on := 11, ground := Go.Ground.chain }], guard := none }) rfl (fun K hK => ?_) (AllReadyH.cons (o := { dst := some 44, op := Go.Op.buildSlice 115 1 #[(0, Go.Operand.tmp 43)], type := 115, pos := "top01.go:16", after := #[{ on := 15, ground := Go.Ground.data }], guard := none }) rfl (fun K hK => ?_) AllReadyH.nil)
                  · skip
                    go_simp
                    go_at_call 24
                    refine (wS_keeps p s12 0 t _ _ hW c12 (by have := HEN.out; omega) (by omega)).mono ?_
                    rintro e wp5 ⟨rfl, hW2, hB2, hK2⟩
                    have hk0 := hK2.cell hbp hFb hp4
                    have hFb := (hK2.2 bb (cell_lt hp4) hbp hFb).2
                    have HB := Lib.hid (gr_below HB.out HWP.out hB2)
                    have hW : WrIs wp5 p (encN (k : Nat) ++ encS (bytesOf t)) := hW2
                    clear hW2 hB2 hK2
                    first | refine hK.out _ _ ?sp5 (fun hp5 => ?_) | (go_wp2_with fail; refine hK.out _ _ ?sp5 (fun hp5 => ?_))
                    case sp5 => exact hk0
                    clear hK K
                    try simp only [Act.put, List.setIfInBounds_toArray, List.set_cons_zero, List.set_cons_succ]
                    refine wpAnyH_ready (rs := [16]) (by kernel_rfl) (by simp) ?_
                    refine AllReadyH.cons (o := { dst := some 44, op := Go.Op.buildSlice 115 1 #[(0, Go.Operand.tmp 43)], type := 115, pos := "top01.go:16", after := #[{ on := 15, ground := Go.Ground.data }], guard := none }) rfl (fun K hK => ?_) AllReadyH.nil
                    go_simp
                    obtain ⟨s16, hs16⟩ : ∃ s, s = wp5.heap.size := ⟨_, rfl⟩
                    rw [← hs16]
                    obtain ⟨wp6, hw⟩ : ∃ wn, wn = wp5.alloc (.cells #[.bool (decide (3 < k))] 4) := ⟨_, rfl⟩
                    rw [← hw]
                    have gx : Gr wp5 wp6 := by rw [hw]; exact (Gr.refl _).alloc _
                    have F16 : Free wp6 p s16 := by rw [hw, hs16]; exact free_new hW _
                    have c16 : wp6.cell? ⟨s16, 0, none⟩ = some (.bool (decide (3 < k))) := by rw [hw, hs16]; exact new_cell rfl rfl
                    have d16 : s16 ≠ p := by have := (wrLtF hW); omega
                    have hFb := free_grF hW gx hFb
                    have hk0 := gx.cell hp5
                    have HB := Lib.hid (HB.out.trans gx)
                    have hW := hW.gr gx
                    clear gx hw hs16
                    first | refine hK.out _ _ ?sp6 (fun hp6 => ?_) | (go_wp2_with fail; refine hK.out _ _ ?sp6 (fun hp6 => ?_))
                    case sp6 => exact hk0
                    clear hK K
                    try simp only [Act.put, List.setIfInBounds_toArray, List.set_cons_zero, List.set_cons_succ]
                    refine wpAnyH_ready (rs := [17]) (by kernel_rfl) (by simp) ?_
                    refine AllReadyH.cons (o := { dst := some 45, op := Go.Op.call { callee := Go.Callee.value (Go.Operand.func 26), args := #[Go.Operand.tmp 41, Go.Operand.tmp 44], argTypes := #[52, 115] }, type := 52, pos := "top01.go:16", after := #[{ on := 13, ground := Go.Ground.data }, { on := 16, ground := Go.Ground.data }, { on := 13, ground := Go.Ground.chain }], guard := none }) rfl (fun K hK => ?_) AllReadyH.nil
                    go_simp
                    go_at_call 26
                    refine (wB_one p s16 0 (decide (3 < k)) _ _ hW c16 (by have := HEN.out; have := HES.out; rw [List.length_append]; omega)).mono ?_
                    rintro e wp7 ⟨rfl, hW2, hB2, hK2⟩
                    have hk0 := hK2.cell hbp hFb hp6
                    have hFb := (hK2.2 bb (cell_lt hp6) hbp hFb).2
                    have HB := Lib.hid (gr_below HB.out HWP.out hB2)
                    have hW : WrIs wp7 p (encN (k : Nat) ++ encS (bytesOf t) ++ encB (decide (3 < k))) := hW2
                    clear hW2 hB2 hK2
                    first | refine hK.out _ _ ?sp7 (fun hp7 => ?_) | (go_wp2_with fail; refine hK.out _ _ ?sp7 (fun hp7 => ?_))
                    case sp7 => exact hk0
                    clear hK K
                    try simp only [Act.put, List.setIfInBounds_toArray, List.set_cons_zero, List.set_cons_succ]
                    refine wpAnyH_ready (rs := [18]) (by kernel_rfl) (by simp) ?_
                    refine AllReadyH.cons (o := { dst := some 46, op := Go.Op.call { callee := Go.Callee.value (Go.Operand.func 27), args := #[Go.Operand.tmp 45], argTypes := #[52] }, type := 9, pos := "top01.go:16", after := #[{ on := 17, ground := Go.Ground.data }, { on := 17, ground := Go.Ground.chain }], guard := none }) rfl (fun K hK => ?_) AllReadyH.nil
                    go_simp
                    go_at_call 27
                    refine (wText_any p _ _ hW).mono ?_
                    rintro e wp8 ⟨he, hweq⟩
                    rw [HTX.out] at he
                    subst he
                    subst hweq
                    have hk0 := hp7
                    first | refine hK.out _ _ ?sp8 (fun hp8 => ?_) | (go_wp2_with fail; refine hK.out _ _ ?sp8 (fun hp8 => ?_))
                    case sp8 => exact hk0
                    clear hK K
                    try simp only [Act.put, List.setIfInBounds_toArray, List.set_cons_zero, List.set_cons_succ]
                    refine wpAnyH_ready (rs := [19]) (by kernel_rfl) (by simp) ?_
                    refine AllReadyH.cons (o := { dst := some 47, op := Go.Op.call { callee := Go.Callee.value (Go.Operand.func 22), args := #[Go.Operand.tmp 31, Go.Operand.tmp 46], argTypes := #[5, 9] }, type := 9, pos := "top01.go:16", after := #[{ on := 3, ground := Go.Ground.data }, { on := 18, ground := Go.Ground.data }, { on := 18, ground := Go.Ground.chain }], guard := none }) rfl (fun K hK => ?_) AllReadyH.nil
                    go_simp
                    go_at_call 22
                    refine (FR.out _).mono ?_
                    rintro e wp9 ⟨rfl, hgN⟩
                    have hk0 := hgN.cell hp8
                    have HB := Lib.hid (HB.out.trans hgN)
                    clear hgN
                    first | refine hK.out _ _ ?sp9 (fun hp9 => ?_) | (go_wp2_with fail; refine hK.out _ _ ?sp9 (fun hp9 => ?_))
                    case sp9 => exact hk0
                    clear hK K
                    try simp only [Act.put, List.setIfInBounds_toArray, List.set_cons_zero, List.set_cons_succ]
                    refine wpAnyH_take (i := 20) (oi := { dst := some 48, op := Go.Op.binOp Go.BinOp.add 9 (Go.Operand.tmp 28) (Go.Operand.tmp 47) 9, type := 9, pos := "top01.go:16", after := #[{ on := 0, ground := Go.Ground.data }, { on := 19, ground := Go.Ground.data }], guard := none }) (v := ?vp20z10) rfl (by kernel_rfl) (by kernel_rfl) (by kernel_rfl) (fun _ _ _ h => h) (Or.inl ⟨by rfl, ?rp20z10⟩) (by assumption) ?_
                    case rp20z10 => (intro w hSw; (try dsimp only at hSw); (go_simp <;> with_reducible rfl))
                    try simp only [Act.put, List.setIfInBounds_toArray, List.set_cons_zero, List.set_cons_succ]
                    refine wpAnyH_take (i := 21) (oi := { dst := some 5, op := Go.Op.assign (Go.Operand.tmp 48), type := 9, pos := "top01.go:16", after := #[{ on := 20, ground := Go.Ground.data }, { on := 19, ground := Go.Ground.chain }, { on := 0, ground := Go.Ground.phase }, { on := 1, ground := Go.Ground.phase }, { on := 2, ground := Go.Ground.phase }, { on := 3, ground := Go.Ground.phase }, { on := 4, ground := Go.Ground.phase }, { on := 5, ground := Go.Ground.phase }, { on := 6, ground := Go.Ground.phase }, { on := 7, ground := Go.Ground.phase }, { on := 8, ground := Go.Ground.phase }, { on := 9, ground := Go.Ground.phase }, { on := 10, ground := Go.Ground.phase }, { on := 11, ground := Go.Ground.phase }, { on := 12, ground := Go.Ground.phase }, { on := 13, ground := Go.Ground.phase }, { on := 14, ground := Go.Ground.phase }, { on := 15, ground := Go.Ground.phase }, { on := 16, ground := Go.Ground.phase }, { on := 17, ground := Go.Ground.phase }, { on := 18, ground := Go.Ground.phase }, { on := 19, ground := Go.Ground.phase }, { on := 20, ground := Go.Ground.phase }], guard := none }) (v := ?vp21z10) rfl (by kernel_rfl) (by kernel_rfl) (by kernel_rfl) (fun _ _ _ h => h) (Or.inl ⟨by rfl, ?rp21z10⟩) (by assumption) ?_
                    case rp21z10 => (intro w hSw; (try dsimp only at hSw); (go_simp <;> with_reducible rfl))
                    try simp only [Act.put, List.setIfInBounds_toArray, List.set_cons_zero, List.set_cons_succ]
                    refine wpAnyH_done (by kernel_rfl) ?_ _
                    exact HL2 s5 s12 s16 _ HB.out
                  · skip
                    go_simp
                    obtain ⟨s16, hs16⟩ : ∃ s, s = wp4.heap.size := ⟨_, rfl⟩
                    rw [← hs16]
                    obtain ⟨wp11, hw⟩ : ∃ wn, wn = wp4.alloc (.cells #[.bool (decide (3 < k))] 4) := ⟨_, rfl⟩
                    rw [← hw]
                    have gx : Gr wp4 wp11 := by rw [hw]; exact (Gr.refl _).alloc _
                    have c12 := gx.cell c12
                    have F12 := free_grF hW gx F12
                    have F16 : Free wp11 p s16 := by rw [hw, hs16]; exact free_new hW _
                    have c16 : wp11.cell? ⟨s16, 0, none⟩ = some (.bool (decide (3 < k))) := by rw [hw, hs16]; exact new_cell rfl rfl
                    have d16 : s16 ≠ p := by have := (wrLtF hW); omega
                    have hFb := free_grF hW gx hFb
                    have hk0 := gx.cell hp4
                    have HB := Lib.hid (HB.out.trans gx)
                    have hW := hW.gr gx
                    clear gx hw hs16
                    first | refine hK.out _ _ ?sp11 (fun hp11 => ?_) | (go_wp2_with fail; refine hK.out _ _ ?sp11 (fun hp11 => ?_))
                    case sp11 => exact hk0
                    clear hK K
                    try simp only [Act.put, List.setIfInBounds_toArray, List.set_cons_zero, List.set_cons_succ]
                    refine wpAnyH_ready (rs := [13]) (by kernel_rfl) (by simp) ?_
                    refine AllReadyH.cons (o := { dst := some 41, op := Go.Op.call { callee := Go.Callee.value (Go.Operand.func 24), args := #[Go.Operand.tmp 34, Go.Operand.tmp 40], argTypes := #[52, 47] }, type := 52, pos := "top01.go:16", after := #[{ on := 6, ground := Go.Ground.data }, { on := 12, ground := Go.Ground.data }, { on := 11, ground := Go.Ground.chain }], guard := none }) rfl (fun K hK => ?_) AllReadyH.nil
                    go_simp
                    go_at_call 24
                    refine (wS_keeps p s12 0 t _ _ hW c12 (by have := HEN.out; omega) (by omega)).mono ?_
                    rintro e wp12 ⟨rfl, hW2, hB2, hK2⟩
                    have hl16 := cell_lt c16
                    have c16 := hK2.cell d16 F16 c16
                    have F16 := (hK2.2 s16 hl16 d16 F16).2
                    have hk0 := hK2.cell hbp hFb hp11
                    have hFb := (hK2.2 bb (cell_lt hp11) hbp hFb).2
                    have HB := Lib.hid (gr_below HB.out HWP.out hB2)
                    have hW : WrIs wp12 p (encN (k : Nat) ++ encS (bytesOf t)) := hW2
                    clear hW2 hB2 hK2
                    first | refine hK.out _ _ ?sp12 (fun hp12 => ?_) | (go_wp2_with fail; refine hK.out _ _ ?sp12 (fun hp12 => ?_))
                    case sp12 => exact hk0
                    clear hK K
                    try simp only [Act.put, List.setIfInBounds_toArray, List.set_cons_zero, List.set_cons_succ]
                    refine wpAnyH_ready (rs := [17]) (by kernel_rfl) (by simp) ?_
                    refine AllReadyH.cons (o := { dst := some 45, op := Go.Op.call { callee := Go.Callee.value (Go.Operand.func 26), args := #[Go.Operand.tmp 41, Go.Operand.tmp 44], argTypes := #[52, 115] }, type := 52, pos := "top01.go:16", after := #[{ on := 13, ground := Go.Ground.data }, { on := 16, ground := Go.Ground.data }, { on := 13, ground := Go.Ground.chain }], guard := none }) rfl (fun K hK => ?_) AllReadyH.nil
                    go_simp
                    go_at_call 26
                    refine (wB_one p s16 0 (decide (3 < k)) _ _ hW c16 (by have := HEN.out; have := HES.out; rw [List.length_append]; omega)).mono ?_
                    rintro e wp13 ⟨rfl, hW2, hB2, hK2⟩
                    have hk0 := hK2.cell hbp hFb hp12
                    have hFb := (hK2.2 bb (cell_lt hp12) hbp hFb).2
                    have HB := Lib.hid (gr_below HB.out HWP.out hB2)
                    have hW : WrIs wp13 p (encN (k : Nat) ++ encS (bytesOf t) ++ encB (decide (3 < k))) := hW2
                    clear hW2 hB2 hK2
                    first | refine hK.out _ _ ?sp13 (fun hp13 => ?_) | (go_wp2_with fail; refine hK.out _ _ ?sp13 (fun hp13 => ?_))
                    case sp13 => exact hk0
                    clear hK K
                    try simp only [Act.put, List.setIfInBounds_toArray, List.set_cons_zero, List.set_cons_succ]
                    refine wpAnyH_ready (rs := [18]) (by kernel_rfl) (by simp) ?_
                    refine AllReadyH.cons (o := { dst := some 46, op := Go.Op.call { callee := Go.Callee.value (Go.Operand.func 27), args := #[Go.Operand.tmp 45], argTypes := #[52] }, type := 9, pos := "top01.go:16", after := #[{ on := 17, ground := Go.Ground.data }, { on := 17, ground := Go.Ground.chain }], guard := none }) rfl (fun K hK => ?_) AllReadyH.nil
                    go_simp
                    go_at_call 27
                    refine (wText_any p _ _ hW).mono ?_
                    rintro e wp14 ⟨he, hweq⟩
                    rw [HTX.out] at he
                    subst he
                    subst hweq
                    have hk0 := hp13
                    first | refine hK.out _ _ ?sp14 (fun hp14 => ?_) | (go_wp2_with fail; refine hK.out _ _ ?sp14 (fun hp14 => ?_))
                    case sp14 => exact hk0
                    clear hK K
                    try simp only [Act.put, List.setIfInBounds_toArray, List.set_cons_zero, List.set_cons_succ]
                    refine wpAnyH_ready (rs := [19]) (by kernel_rfl) (by simp) ?_
                    refine AllReadyH.cons (o := { dst := some 47, op := Go.Op.call { callee := Go.Callee.value (Go.Operand.func 22), args := #[Go.Operand.tmp 31, Go.Operand.tmp 46], argTypes := #[5, 9] }, type := 9, pos := "top01.go:16", after := #[{ on := 3, ground := Go.Ground.data }, { on := 18, ground := Go.Ground.data }, { on := 18, ground := Go.Ground.chain }], guard := none }) rfl (fun K hK => ?_) AllReadyH.nil
                    go_simp
                    go_at_call 22
                    refine (FR.out _).mono ?_
                    rintro e wp15 ⟨rfl, hgN⟩
                    have hk0 := hgN.cell hp14
                    have HB := Lib.hid (HB.out.trans hgN)
                    clear hgN
                    first | refine hK.out _ _ ?sp15 (fun hp15 => ?_) | (go_wp2_with fail; refine hK.out _ _ ?sp15 (fun hp15 => ?_))
                    case sp15 => exact hk0
                    clear hK K
                    try simp only [Act.put, List.setIfInBounds_toArray, List.set_cons_zero, List.set_cons_succ]
                    refine wpAnyH_take (i := 20) (oi := { dst := some 48, op := Go.Op.binOp Go.BinOp.add 9 (Go.Operand.tmp 28) (Go.Operand.tmp 47) 9, type := 9, pos := "top01.go:16", after := #[{ on := 0, ground := Go.Ground.data }, { on := 19, ground := Go.Ground.data }], guard := none }) (v := ?vp20z16) rfl (by kernel_rfl) (by kernel_rfl) (by kernel_rfl) (fun _ _ _ h => h) (Or.inl ⟨by rfl, ?rp20z16⟩) (by assumption) ?_
                    case rp20z16 => (intro w hSw; (try dsimp only at hSw); (go_simp <;> with_reducible rfl))
                    try simp only [Act.put, List.setIfInBounds_toArray, List.set_cons_zero, List.set_cons_succ]
                    refine wpAnyH_take (i := 21) (oi := { dst := some 5, op := Go.Op.assign (Go.Operand.tmp 48), type := 9, pos := "top01.go:16", after := #[{ on := 20, ground := Go.Ground.data }, { on := 19, ground := Go.Ground.chain }, { on := 0, ground := Go.Ground.phase }, { on := 1, ground := Go.Ground.phase }, { on := 2, ground := Go.Ground.phase }, { on := 3, ground := Go.Ground.phase }, { on := 4, ground := Go.Ground.phase }, { on := 5, ground := Go.Ground.phase }, { on := 6, ground := Go.Ground.phase }, { on := 7, ground := Go.Ground.phase }, { on := 8, ground := Go.Ground.phase }, { on := 9, ground := Go.Ground.phase }, { on := 10, ground := Go.Ground.phase }, { on := 11, ground := Go.Ground.phase }, { on := 12, ground := Go.Ground.phase }, { on := 13, ground := Go.Ground.phase }, { on := 14, ground := Go.Ground.phase }, { on := 15, ground := Go.Ground.phase }, { on := 16, ground := Go.Ground.phase }, { on := 17, ground := Go.Ground.phase }, { on := 18, ground := Go.Ground.phase }, { on := 19, ground := Go.Ground.phase }, { on := 20, ground := Go.Ground.phase }], guard := none }) (v := ?vp21z16) rfl (by kernel_rfl) (by kernel_rfl) (by kernel_rfl) (fun _ _ _ h => h) (Or.inl ⟨by rfl, ?rp21z16⟩) (by assumption) ?_
                    case rp21z16 => (intro w hSw; (try dsimp only at hSw); (go_simp <;> with_reducible rfl))
                    try simp only [Act.put, List.setIfInBounds_toArray, List.set_cons_zero, List.set_cons_succ]
                    refine wpAnyH_done (by kernel_rfl) ?_ _
                    exact HL2 s5 s12 s16 _ HB.out
                · skip
                  go_simp
                  obtain ⟨s16, hs16⟩ : ∃ s, s = wp2.heap.size := ⟨_, rfl⟩
                  rw [← hs16]
                  obtain ⟨wp17, hw⟩ : ∃ wn, wn = wp2.alloc (.cells #[.bool (decide (3 < k))] 4) := ⟨_, rfl⟩
                  rw [← hw]
                  have gx : Gr wp2 wp17 := by rw [hw]; exact (Gr.refl _).alloc _
                  have F16 : Free wp17 p s16 := by rw [hw, hs16]; exact free_new hW _
                  have c16 : wp17.cell? ⟨s16, 0, none⟩ = some (.bool (decide (3 < k))) := by rw [hw, hs16]; exact new_cell rfl rfl
                  have d16 : s16 ≠ p := by have := (wrLtF hW); omega
                  have hFb := free_grF hW gx hFb
                  have hk0 := gx.cell hp3
                  have HB := Lib.hid (HB.out.trans gx)
                  have hW := hW.gr gx
                  clear gx hw hs16
                  first | refine hK.out _ _ ?sp17 (fun hp17 => ?_) | (go_wp2_with fail; refine hK.out _ _ ?sp17 (fun hp17 => ?_))
                  case sp17 => exact hk0
                  clear hK K
                  try simp only [Act.put, List.setIfInBounds_toArray, List.set_cons_zero, List.set_cons_succ]
                  refine wpAnyH_ready (rs := [12]) (by kernel_rfl) (by simp) ?_
                  refine AllReadyH.cons (o := { dst := some 40, op := Go.Op.buildSlice 47 1 #[(0, Go.Operand.tmp 39)], type := 47, pos := "top01.go:16", after := #[{ on := 11, ground := Go.Ground.data }], guard := none }) rfl (fun K hK => ?_) AllReadyH.nil
                  go_simp
                  obtain ⟨s12, hs12⟩ : ∃ s, s = wp17.heap.size := ⟨_, rfl⟩
                  rw [← hs12]
                  obtain ⟨wp18, hw⟩ : ∃ wn, wn = wp17.alloc (.cells #[.string t] 9) := ⟨_, rfl⟩
                  rw [← hw]
                  have gx : Gr wp17 wp18 := by rw [hw]; exact (Gr.refl _).alloc _
                  have c16 := gx.cell c16
                  have F16 := free_grF hW gx F16
                  have F12 : Free wp18 p s12 := by rw [hw, hs12]; exact free_new hW _
                  have c12 : wp18.cell? ⟨s12, 0, none⟩ = some (.string t) := by rw [hw, hs12]; exact new_cell rfl rfl
                  have d12 : s12 ≠ p := by have := (wrLtF hW); omega
                  have hFb := free_grF hW gx hFb
                  have hk0 := gx.cell hp17
                  have HB := Lib.hid (HB.out.trans gx)
                  have hW := hW.gr gx
                  clear gx hw hs12
                  first | refine hK.out _ _ ?sp18 (fun hp18 => ?_) | (go_wp2_with fail; refine hK.out _ _ ?sp18 (fun hp18 => ?_))
                  case sp18 => exact hk0
                  clear hK K
                  try simp only [Act.put, List.setIfInBounds_toArray, List.set_cons_zero, List.set_cons_succ]
                  refine wpAnyH_ready (rs := [13]) (by kernel_rfl) (by simp) ?_
                  refine AllReadyH.cons (o := { dst := some 41, op := Go.Op.call { callee := Go.Callee.value (Go.Operand.func 24), args := #[Go.Operand.tmp 34, Go.Operand.tmp 40], argTypes := #[52, 47] }, type := 52, pos := "top01.go:16", after := #[{ on := 6, ground := Go.Ground.data }, { on := 12, ground := Go.Ground.data }, { on := 11, ground := Go.Ground.chain }], guard := none }) rfl (fun K hK => ?_) AllReadyH.nil
                  go_simp
                  go_at_call 24
                  refine (wS_keeps p s12 0 t _ _ hW c12 (by have := HEN.out; omega) (by omega)).mono ?_
                  rintro e wp19 ⟨rfl, hW2, hB2, hK2⟩
                  have hl16 := cell_lt c16
                  have c16 := hK2.cell d16 F16 c16
                  have F16 := (hK2.2 s16 hl16 d16 F16).2
                  have hk0 := hK2.cell hbp hFb hp18
                  have hFb := (hK2.2 bb (cell_lt hp18) hbp hFb).2
                  have HB := Lib.hid (gr_below HB.out HWP.out hB2)
                  have hW : WrIs wp19 p (encN (k : Nat) ++ encS (bytesOf t)) := hW2
                  clear hW2 hB2 hK2
                  first | refine hK.out _ _ ?sp19 (fun hp19 => ?_) | (go_wp2_with fail; refine hK.out _ _ ?sp19 (fun hp19 => ?_))
                  case sp19 => exact hk0
                  clear hK K
                  try simp only [Act.put, List.setIfInBounds_toArray, List.set_cons_zero, List.set_cons_succ]
                  refine wpAnyH_ready (rs := [17]) (by kernel_rfl) (by simp) ?_
                  refine AllReadyH.cons (o := { dst := some 45, op := Go.Op.call { callee := Go.Callee.value (Go.Operand.func 26), args := #[Go.Operand.tmp 41, Go.Operand.tmp 44], argTypes := #[52, 115] }, type := 52, pos := "top01.go:16", after := #[{ on := 13, ground := Go.Ground.data }, { on := 16, ground := Go.Ground.data }, { on := 13, ground := Go.Ground.chain }], guard := none }) rfl (fun K hK => ?_) AllReadyH.nil
                  go_simp
                  go_at_call 26
                  refine (wB_one p s16 0 (decide (3 < k)) _ _ hW c16 (by have := HEN.out; have := HES.out; rw [List.length_append]; omega)).mono ?_
                  rintro e wp20 ⟨rfl, hW2, hB2, hK2⟩
                  have hk0 := hK2.cell hbp hFb hp19
                  have hFb := (hK2.2 bb (cell_lt hp19) hbp hFb).2
                  have HB := Lib.hid (gr_below HB.out HWP.out hB2)
                  have hW : WrIs wp20 p (encN (k : Nat) ++ encS (bytesOf t) ++ encB (decide (3 < k))) := hW2
                  clear hW2 hB2 hK2
                  first | refine hK.out _ _ ?sp20 (fun hp20 => ?_) | (go_wp2_with fail; refine hK.out _ _ ?sp20 (fun hp20 => ?_))
                  case sp20 => exact hk0
                  clear hK K
                  try simp only [Act.put, List.setIfInBounds_toArray, List.set_cons_zero, List.set_cons_succ]
                  refine wpAnyH_ready (rs := [18]) (by kernel_rfl) (by simp) ?_
                  refine AllReadyH.cons (o := { dst := some 46, op := Go.Op.call { callee := Go.Callee.value (Go.Operand.func 27), args := #[Go.Operand.tmp 45], argTypes := #[52] }, type := 9, pos := "top01.go:16", after := #[{ on := 17, ground := Go.Ground.data }, { on := 17, ground := Go.Ground.chain }], guard := none }) rfl (fun K hK => ?_) AllReadyH.nil
                  go_simp
                  go_at_call 27
                  refine (wText_any p _ _ hW).mono ?_
                  rintro e wp21 ⟨he, hweq⟩
                  rw [HTX.out] at he
                  subst he
                  subst hweq
                  have hk0 := hp20
                  first | refine hK.out _ _ ?sp21 (fun hp21 => ?_) | (go_wp2_with fail; refine hK.out _ _ ?sp21 (fun hp21 => ?_))
                  case sp21 => exact hk0
                  clear hK K
                  try simp only [Act.put, List.setIfInBounds_toArray, List.set_cons_zero, List.set_cons_succ]
                  refine wpAnyH_ready (rs := [19]) (by kernel_rfl) (by simp) ?_
                  refine AllReadyH.cons (o := { dst := some 47, op := Go.Op.call { callee := Go.Callee.value (Go.Operand.func 22), args := #[Go.Operand.tmp 31, Go.Operand.tmp 46], argTypes := #[5, 9] }, type := 9, pos := "top01.go:16", after := #[{ on := 3, ground := Go.Ground.data }, { on := 18, ground := Go.Ground.data }, { on := 18, ground := Go.Ground.chain }], guard := none }) rfl (fun K hK => ?_) AllReadyH.nil
                  go_simp
                  go_at_call 22
                  refine (FR.out _).mono ?_
                  rintro e wp22 ⟨rfl, hgN⟩
                  have hk0 := hgN.cell hp21
                  have HB := Lib.hid (HB.out.trans hgN)
                  clear hgN
                  first | refine hK.out _ _ ?sp22 (fun hp22 => ?_) | (go_wp2_with fail; refine hK.out _ _ ?sp22 (fun hp22 => ?_))
                  case sp22 => exact hk0
                  clear hK K
                  try simp only [Act.put, List.setIfInBounds_toArray, List.set_cons_zero, List.set_cons_succ]
                  refine wpAnyH_take (i := 20) (oi := { dst := some 48, op := Go.Op.binOp Go.BinOp.add 9 (Go.Operand.tmp 28) (Go.Operand.tmp 47) 9, type := 9, pos := "top01.go:16", after := #[{ on := 0, ground := Go.Ground.data }, { on := 19, ground := Go.Ground.data }], guard := none }) (v := ?vp20z23) rfl (by kernel_rfl) (by kernel_rfl) (by kernel_rfl) (fun _ _ _ h => h) (Or.inl ⟨by rfl, ?rp20z23⟩) (by assumption) ?_
                  case rp20z23 => (intro w hSw; (try dsimp only at hSw); (go_simp <;> with_reducible rfl))
                  try simp only [Act.put, List.setIfInBounds_toArray, List.set_cons_zero, List.set_cons_succ]
                  refine wpAnyH_take (i := 21) (oi := { dst := some 5, op := Go.Op.assign (Go.Operand.tmp 48), type := 9, pos := "top01.go:16", after := #[{ on := 20, ground := Go.Ground.data }, { on := 19, ground := Go.Ground.chain }, { on := 0, ground := Go.Ground.phase }, { on := 1, ground := Go.Ground.phase }, { on := 2, ground := Go.Ground.phase }, { on := 3, ground := Go.Ground.phase }, { on := 4, ground := Go.Ground.phase }, { on := 5, ground := Go.Ground.phase }, { on := 6, ground := Go.Ground.phase }, { on := 7, ground := Go.Ground.phase }, { on := 8, ground := Go.Ground.phase }, { on := 9, ground := Go.Ground.phase }, { on := 10, ground := Go.Ground.phase }, { on := 11, ground := Go.Ground.phase }, { on := 12, ground := Go.Ground.phase }, { on := 13, ground := Go.Ground.phase }, { on := 14, ground := Go.Ground.phase }, { on := 15, ground := Go.Ground.phase }, { on := 16, ground := Go.Ground.phase }, { on := 17, ground := Go.Ground.phase }, { on := 18, ground := Go.Ground.phase }, { on := 19, ground := Go.Ground.phase }, { on := 20, ground := Go.Ground.phase }], guard := none }) (v := ?vp21z23) rfl (by kernel_rfl) (by kernel_rfl) (by kernel_rfl) (fun _ _ _ h => h) (Or.inl ⟨by rfl, ?rp21z23⟩) (by assumption) ?_
                  case rp21z23 => (intro w hSw; (try dsimp only at hSw); (go_simp <;> with_reducible rfl))
                  try simp only [Act.put, List.setIfInBounds_toArray, List.set_cons_zero, List.set_cons_succ]
                  refine wpAnyH_done (by kernel_rfl) ?_ _
                  exact HL2 s5 s12 s16 _ HB.out
              · skip
                go_simp
                obtain ⟨s16, hs16⟩ : ∃ s, s = wp2.heap.size := ⟨_, rfl⟩
                rw [← hs16]
                obtain ⟨wp24, hw⟩ : ∃ wn, wn = wp2.alloc (.cells #[.bool (decide (3 < k))] 4) := ⟨_, rfl⟩
                rw [← hw]
                have gx : Gr wp2 wp24 := by rw [hw]; exact (Gr.refl _).alloc _
                have F16 : Free wp24 p s16 := by rw [hw, hs16]; exact free_new hW _
                have c16 : wp24.cell? ⟨s16, 0, none⟩ = some (.bool (decide (3 < k))) := by rw [hw, hs16]; exact new_cell rfl rfl
                have d16 : s16 ≠ p := by have := (wrLtF hW); omega
                have hFb := free_grF hW gx hFb
                have hk0 := gx.cell hp2
                have HB := Lib.hid (HB.out.trans gx)
                have hW := hW.gr gx
                clear gx hw hs16
                first | refine hK.out _ _ ?sp24 (fun hp24 => ?_) | (go_wp2_with fail; refine hK.out _ _ ?sp24 (fun hp24 => ?_))
                case sp24 => exact hk0
                clear hK K
                try simp only [Act.put, List.setIfInBounds_toArray, List.set_cons_zero, List.set_cons_succ]
                refine wpAnyH_ready (rs := [11]) (by kernel_rfl) (by simp) ?_
                refine AllReadyH.cons (o := { dst := some 39, op := Go.Op.call { callee := Go.Callee.value (Go.Operand.func 25), args := #[Go.Operand.tmp 38, Go.Operand.const (Go.Value.int Go.IntKind.i64 80)], argTypes := #[9, 3] }, type := 9, pos := "top01.go:16", after := #[{ on := 10, ground := Go.Ground.data }, { on := 6, ground := Go.Ground.chain }], guard := none }) rfl (fun K hK => ?_) AllReadyH.nil
                go_simp
                go_at_call 25
                refine (CU.out _).mono ?_
                rintro e wp25 ⟨rfl, hweq⟩
                subst hweq
                have hk0 := hp24
                first | refine hK.out _ _ ?sp25 (fun hp25 => ?_) | (go_wp2_with fail; refine hK.out _ _ ?sp25 (fun hp25 => ?_))
                case sp25 => exact hk0
                clear hK K
                try simp only [Act.put, List.setIfInBounds_toArray, List.set_cons_zero, List.set_cons_succ]
                refine wpAnyH_ready (rs := [12]) (by kernel_rfl) (by simp) ?_
                refine AllReadyH.cons (o := { dst := some 40, op := Go.Op.buildSlice 47 1 #[(0, Go.Operand.tmp 39)], type := 47, pos := "top01.go:16", after := #[{ on := 11, ground := Go.Ground.data }], guard := none }) rfl (fun K hK => ?_) AllReadyH.nil
                go_simp
                obtain ⟨s12, hs12⟩ : ∃ s, s = wp24.heap.size := ⟨_, rfl⟩
                rw [← hs12]
                obtain ⟨wp26, hw⟩ : ∃ wn, wn = wp24.alloc (.cells #[.string t] 9) := ⟨_, rfl⟩
                rw [← hw]
                have gx : Gr wp24 wp26 := by rw [hw]; exact (Gr.refl _).alloc _
                have c16 := gx.cell c16
                have F16 := free_grF hW gx F16
                have F12 : Free wp26 p s12 := by rw [hw, hs12]; exact free_new hW _
                have c12 : wp26.cell? ⟨s12, 0, none⟩ = some (.string t) := by rw [hw, hs12]; exact new_cell rfl rfl
                have d12 : s12 ≠ p := by have := (wrLtF hW); omega
                have hFb := free_grF hW gx hFb
                have hk0 := gx.cell hp25
                have HB := Lib.hid (HB.out.trans gx)
                have hW := hW.gr gx
                clear gx hw hs12
                first | refine hK.out _ _ ?sp26 (fun hp26 => ?_) | (go_wp2_with fail; refine hK.out _ _ ?sp26 (fun hp26 => ?_))
                case sp26 => exact hk0
                clear hK K
                try simp only [Act.put, List.setIfInBounds_toArray, List.set_cons_zero, List.set_cons_succ]
                refine wpAnyH_ready (rs := [13]) (by kernel_rfl) (by simp) ?_
                refine AllReadyH.cons (o := { dst := some 41, op := Go.Op.call { callee := Go.Callee.value (Go.Operand.func 24), args := #[Go.Operand.tmp 34, Go.Operand.tmp 40], argTypes := #[52, 47] }, type := 52, pos := "top01.go:16", after := #[{ on := 6, ground := Go.Ground.data }, { on := 12, ground := Go.Ground.data }, { on := 11, ground := Go.Ground.chain }], guard := none }) rfl (fun K hK => ?_) AllReadyH.nil
                go_simp
                go_at_call 24
                refine (wS_keeps p s12 0 t _ _ hW c12 (by have := HEN.out; omega) (by omega)).mono ?_
                rintro e wp27 ⟨rfl, hW2, hB2, hK2⟩
                have hl16 := cell_lt c16
                have c16 := hK2.cell d16 F16 c16
                have F16 := (hK2.2 s16 hl16 d16 F16).2
                have hk0 := hK2.cell hbp hFb hp26
                have hFb := (hK2.2 bb (cell_lt hp26) hbp hFb).2
                have HB := Lib.hid (gr_below HB.out HWP.out hB2)
                have hW : WrIs wp27 p (encN (k : Nat) ++ encS (bytesOf t)) := hW2
                clear hW2 hB2 hK2
                first | refine hK.out _ _ ?sp27 (fun hp27 => ?_) | (go_wp2_with fail; refine hK.out _ _ ?sp27 (fun hp27 => ?_))
                case sp27 => exact hk0
                clear hK K
                try simp only [Act.put, List.setIfInBounds_toArray, List.set_cons_zero, List.set_cons_succ]
                refine wpAnyH_ready (rs := [17]) (by kernel_rfl) (by simp) ?_
                refine AllReadyH.cons (o := { dst := some 45, op := Go.Op.call { callee := Go.Callee.value (Go.Operand.func 26), args := #[Go.Operand.tmp 41, Go.Operand.tmp 44], argTypes := #[52, 115] }, type := 52, pos := "top01.go:16", after := #[{ on := 13, ground := Go.Ground.data }, { on := 16, ground := Go.Ground.data }, { on := 13, ground := Go.Ground.chain }], guard := none }) rfl (fun K hK => ?_) AllReadyH.nil
                go_simp
                go_at_call 26
                refine (wB_one p s16 0 (decide (3 < k)) _ _ hW c16 (by have := HEN.out; have := HES.out; rw [List.length_append]; omega)).mono ?_
                rintro e wp28 ⟨rfl, hW2, hB2, hK2⟩
                have hk0 := hK2.cell hbp hFb hp27
                have hFb := (hK2.2 bb (cell_lt hp27) hbp hFb).2
                have HB := Lib.hid (gr_below HB.out HWP.out hB2)
                have hW : WrIs wp28 p (encN (k : Nat) ++ encS (bytesOf t) ++ encB (decide (3 < k))) := hW2
                clear hW2 hB2 hK2
                first | refine hK.out _ _ ?sp28 (fun hp28 => ?_) | (go_wp2_with fail; refine hK.out _ _ ?sp28 (fun hp28 => ?_))
                case sp28 => exact hk0
                clear hK K
                try simp only [Act.put, List.setIfInBounds_toArray, List.set_cons_zero, List.set_cons_succ]
                refine wpAnyH_ready (rs := [18]) (by kernel_rfl) (by simp) ?_
                refine AllReadyH.cons (o := { dst := some 46, op := Go.Op.call { callee := Go.Callee.value (Go.Operand.func 27), args := #[Go.Operand.tmp 45], argTypes := #[52] }, type := 9, pos := "top01.go:16", after := #[{ on := 17, ground := Go.Ground.data }, { on := 17, ground := Go.Ground.chain }], guard := none }) rfl (fun K hK => ?_) AllReadyH.nil
                go_simp
                go_at_call 27
                refine (wText_any p _ _ hW).mono ?_
                rintro e wp29 ⟨he, hweq⟩
                rw [HTX.out] at he
                subst he
                subst hweq
                have hk0 := hp28
                first | refine hK.out _ _ ?sp29 (fun hp29 => ?_) | (go_wp2_with fail; refine hK.out _ _ ?sp29 (fun hp29 => ?_))
                case sp29 => exact hk0
                clear hK K
                try simp only [Act.put, List.setIfInBounds_toArray, List.set_cons_zero, List.set_cons_succ]
                refine wpAnyH_ready (rs := [19]) (by kernel_rfl) (by simp) ?_
                refine AllReadyH.cons (o := { dst := some 47, op := Go.Op.call { callee := Go.Callee.value (Go.Operand.func 22), args := #[Go.Operand.tmp 31, Go.Operand.tmp 46], argTypes := #[5, 9] }, type := 9, pos := "top01.go:16", after := #[{ on := 3, ground := Go.Ground.data }, { on := 18, ground := Go.Ground.data }, { on := 18, ground := Go.Ground.chain }], guard := none }) rfl (fun K hK => ?_) AllReadyH.nil
                go_simp
                go_at_call 22
                refine (FR.out _).mono ?_
                rintro e wp30 ⟨rfl, hgN⟩
                have hk0 := hgN.cell hp29
                have HB := Lib.hid (HB.out.trans hgN)
                clear hgN
                first | refine hK.out _ _ ?sp30 (fun hp30 => ?_) | (go_wp2_with fail; refine hK.out _ _ ?sp30 (fun hp30 => ?_))
                case sp30 => exact hk0
                clear hK K
                try simp only [Act.put, List.setIfInBounds_toArray, List.set_cons_zero, List.set_cons_succ]
                refine wpAnyH_take (i := 20) (oi := { dst := some 48, op := Go.Op.binOp Go.BinOp.add 9 (Go.Operand.tmp 28) (Go.Operand.tmp 47) 9, type := 9, pos := "top01.go:16", after := #[{ on := 0, ground := Go.Ground.data }, { on := 19, ground := Go.Ground.data }], guard := none }) (v := ?vp20z31) rfl (by kernel_rfl) (by kernel_rfl) (by kernel_rfl) (fun _ _ _ h => h) (Or.inl ⟨by rfl, ?rp20z31⟩) (by assumption) ?_
                case rp20z31 => (intro w hSw; (try dsimp only at hSw); (go_simp <;> with_reducible rfl))
                try simp only [Act.put, List.setIfInBounds_toArray, List.set_cons_zero, List.set_cons_succ]
                refine wpAnyH_take (i := 21) (oi := { dst := some 5, op := Go.Op.assign (Go.Operand.tmp 48), type := 9, pos := "top01.go:16", after := #[{ on := 20, ground := Go.Ground.data }, { on := 19, ground := Go.Ground.chain }, { on := 0, ground := Go.Ground.phase }, { on := 1, ground := Go.Ground.phase }, { on := 2, ground := Go.Ground.phase }, { on := 3, ground := Go.Ground.phase }, { on := 4, ground := Go.Ground.phase }, { on := 5, ground := Go.Ground.phase }, { on := 6, ground := Go.Ground.phase }, { on := 7, ground := Go.Ground.phase }, { on := 8, ground := Go.Ground.phase }, { on := 9, ground := Go.Ground.phase }, { on := 10, ground := Go.Ground.phase }, { on := 11, ground := Go.Ground.phase }, { on := 12, ground := Go.Ground.phase }, { on := 13, ground := Go.Ground.phase }, { on := 14, ground := Go.Ground.phase }, { on := 15, ground := Go.Ground.phase }, { on := 16, ground := Go.Ground.phase }, { on := 17, ground := Go.Ground.phase }, { on := 18, ground := Go.Ground.phase }, { on := 19, ground := Go.Ground.phase }, { on := 20, ground := Go.Ground.phase }], guard := none }) (v := ?vp21z31) rfl (by kernel_rfl) (by kernel_rfl) (by kernel_rfl) (fun _ _ _ h => h) (Or.inl ⟨by rfl, ?rp21z31⟩) (by assumption) ?_
                case rp21z31 => (intro w hSw; (try dsimp only at hSw); (go_simp <;> with_reducible rfl))
                try simp only [Act.put, List.setIfInBounds_toArray, List.set_cons_zero, List.set_cons_succ]
                refine wpAnyH_done (by kernel_rfl) ?_ _
                exact HL2 s5 s12 s16 _ HB.out
            · skip
              go_simp
              obtain ⟨s16, hs16⟩ : ∃ s, s = wp1.heap.size := ⟨_, rfl⟩
              rw [← hs16]
              obtain ⟨wp32, hw⟩ : ∃ wn, wn = wp1.alloc (.cells #[.bool (decide (3 < k))] 4) := ⟨_, rfl⟩
              rw [← hw]
              have gx : Gr wp1 wp32 := by rw [hw]; exact (Gr.refl _).alloc _
              have c5 := gx.cell c5
              have F5 := free_grF hW gx F5
              have F16 : Free wp32 p s16 := by rw [hw, hs16]; exact free_new hW _
              have c16 : wp32.cell? ⟨s16, 0, none⟩ = some (.bool (decide (3 < k))) := by rw [hw, hs16]; exact new_cell rfl rfl
              have d16 : s16 ≠ p := by have := (wrLtF hW); omega
              have hFb := free_grF hW gx hFb
              have hk0 := gx.cell hp1
              have HB := Lib.hid (HB.out.trans gx)
              have hW := hW.gr gx
              clear gx hw hs16
              first | refine hK.out _ _ ?sp32 (fun hp32 => ?_) | (go_wp2_with fail; refine hK.out _ _ ?sp32 (fun hp32 => ?_))
              case sp32 => exact hk0
              clear hK K
              try simp only [Act.put, List.setIfInBounds_toArray, List.set_cons_zero, List.set_cons_succ]
              refine wpAnyH_ready (rs := [6]) (by kernel_rfl) (by simp) ?_
              refine AllReadyH.cons (o := { dst := some 34, op := Go.Op.call { callee := Go.Callee.value (Go.Operand.func 23), args := #[Go.Operand.tmp 8, Go.Operand.tmp 33], argTypes := #[50, 32] }, type := 52, pos := "top01.go:16", after := #[{ on := 5, ground := Go.Ground.data }], guard := none }) rfl (fun K hK => ?_) AllReadyH.nil
              go_simp
              go_at_call 23
              refine (wN_1 p s5 (k : Nat) [] _ hW d5 F5 c5 (by decide) (by omega)).mono ?_
              rintro e wp33 ⟨rfl, hW2, hB2, hK2⟩
              have hl16 := cell_lt c16
              have c16 := hK2.cell d16 F16 c16
              have F16 := (hK2.2 s16 hl16 d16 F16).2
              have hk0 := hK2.cell hbp hFb hp32
              have hFb := (hK2.2 bb (cell_lt hp32) hbp hFb).2
              have HB := Lib.hid (gr_below HB.out HWP.out hB2)
              have hW : WrIs wp33 p (encN (k : Nat)) := hW2
              clear hW2 hB2 hK2
              first | refine hK.out _ _ ?sp33 (fun hp33 => ?_) | (go_wp2_with fail; refine hK.out _ _ ?sp33 (fun hp33 => ?_))
              case sp33 => exact hk0
              clear hK K
              try simp only [Act.put, List.setIfInBounds_toArray, List.set_cons_zero, List.set_cons_succ]
              refine wpAnyH_ready (rs := [11]) (by kernel_rfl) (by simp) ?_
              refine AllReadyH.cons (o := { dst := some 39, op := Go.Op.call { callee := Go.Callee.value (Go.Operand.func 25), args := #[Go.Operand.tmp 38, Go.Operand.const (Go.Value.int Go.IntKind.i64 80)], argTypes := #[9, 3] }, type := 9, pos := "top01.go:16", after := #[{ on := 10, ground := Go.Ground.data }, { on := 6, ground := Go.Ground.chain }], guard := none }) rfl (fun K hK => ?_) AllReadyH.nil
              go_simp
              go_at_call 25
              refine (CU.out _).mono ?_
              rintro e wp34 ⟨rfl, hweq⟩
              subst hweq
              have hk0 := hp33
              first | refine hK.out _ _ ?sp34 (fun hp34 => ?_) | (go_wp2_with fail; refine hK.out _ _ ?sp34 (fun hp34 => ?_))
              case sp34 => exact hk0
              clear hK K
              try simp only [Act.put, List.setIfInBounds_toArray, List.set_cons_zero, List.set_cons_succ]
              refine wpAnyH_ready (rs := [12]) (by kernel_rfl) (by simp) ?_
              refine AllReadyH.cons (o := { dst := some 40, op := Go.Op.buildSlice 47 1 #[(0, Go.Operand.tmp 39)], type := 47, pos := "top01.go:16", after := #[{ on := 11, ground := Go.Ground.data }], guard := none }) rfl (fun K hK => ?_) AllReadyH.nil
              go_simp
              obtain ⟨s12, hs12⟩ : ∃ s, s = wp33.heap.size := ⟨_, rfl⟩
              rw [← hs12]
              obtain ⟨wp35, hw⟩ : ∃ wn, wn = wp33.alloc (.cells #[.string t] 9) := ⟨_, rfl⟩
              rw [← hw]
              have gx : Gr wp33 wp35 := by rw [hw]; exact (Gr.refl _).alloc _
              have c16 := gx.cell c16
              have F16 := free_grF hW gx F16
              have F12 : Free wp35 p s12 := by rw [hw, hs12]; exact free_new hW _
              have c12 : wp35.cell? ⟨s12, 0, none⟩ = some (.string t) := by rw [hw, hs12]; exact new_cell rfl rfl
              have d12 : s12 ≠ p := by have := (wrLtF hW); omega
              have hFb := free_grF hW gx hFb
              have hk0 := gx.cell hp34
              have HB := Lib.hid (HB.out.trans gx)
              have hW := hW.gr gx
              clear gx hw hs12
              first | refine hK.out _ _ ?sp35 (fun hp35 => ?_) | (go_wp2_with fail; refine hK.out _ _ ?sp35 (fun hp35 => ?_))
              case sp35 => exact hk0
              clear hK K
              try simp only [Act.put, List.setIfInBounds_toArray, List.set_cons_zero, List.set_cons_succ]
              refine wpAnyH_ready (rs := [13]) (by kernel_rfl) (by simp) ?_
              refine AllReadyH.cons (o := { dst := some 41, op := Go.Op.call { callee := Go.Callee.value (Go.Operand.func 24), args := #[Go.Operand.tmp 34, Go.Operand.tmp 40], argTypes := #[52, 47] }, type := 52, pos := "top01.go:16", after := #[{ on := 6, ground := Go.Ground.data }, { on := 12, ground := Go.Ground.data }, { on := 11, ground := Go.Ground.chain }], guard := none }) rfl (fun K hK => ?_) AllReadyH.nil
              go_simp
              go_at_call 24
              refine (wS_keeps p s12 0 t _ _ hW c12 (by have := HEN.out; omega) (by omega)).mono ?_
              rintro e wp36 ⟨rfl, hW2, hB2, hK2⟩
              have hl16 := cell_lt c16
              have c16 := hK2.cell d16 F16 c16
              have F16 := (hK2.2 s16 hl16 d16 F16).2
              have hk0 := hK2.cell hbp hFb hp35
              have hFb := (hK2.2 bb (cell_lt hp35) hbp hFb).2
              have HB := Lib.hid (gr_below HB.out HWP.out hB2)
              have hW : WrIs wp36 p (encN (k : Nat) ++ encS (bytesOf t)) := hW2
              clear hW2 hB2 hK2
              first | refine hK.out _ _ ?sp36 (fun hp36 => ?_) | (go_wp2_with fail; refine hK.out _ _ ?sp36 (fun hp36 => ?_))
              case sp36 => exact hk0
              clear hK K
              try simp only [Act.put, List.setIfInBounds_toArray, List.set_cons_zero, List.set_cons_succ]
              refine wpAnyH_ready (rs := [17]) (by kernel_rfl) (by simp) ?_
              refine AllReadyH.cons (o := { dst := some 45, op := Go.Op.call { callee := Go.Callee.value (Go.Operand.func 26), args := #[Go.Operand.tmp 41, Go.Operand.tmp 44], argTypes := #[52, 115] }, type := 52, pos := "top01.go:16", after := #[{ on := 13, ground := Go.Ground.data }, { on := 16, ground := Go.Ground.data }, { on := 13, ground := Go.Ground.chain }], guard := none }) rfl (fun K hK => ?_) AllReadyH.nil
              go_simp
              go_at_call 26
              refine (wB_one p s16 0 (decide (3 < k)) _ _ hW c16 (by have := HEN.out; have := HES.out; rw [List.length_append]; omega)).mono ?_
              rintro e wp37 ⟨rfl, hW2, hB2, hK2⟩
              have hk0 := hK2.cell hbp hFb hp36
              have hFb := (hK2.2 bb (cell_lt hp36) hbp hFb).2
              have HB := Lib.hid (gr_below HB.out HWP.out hB2)
              have hW : WrIs wp37 p (encN (k : Nat) ++ encS (bytesOf t) ++ encB (decide (3 < k))) := hW2
              clear hW2 hB2 hK2
              first | refine hK.out _ _ ?sp37 (fun hp37 => ?_) | (go_wp2_with fail; refine hK.out _ _ ?sp37 (fun hp37 => ?_))
              case sp37 => exact hk0
              clear hK K
              try simp only [Act.put, List.setIfInBounds_toArray, List.set_cons_zero, List.set_cons_succ]
              refine wpAnyH_ready (rs := [18]) (by kernel_rfl) (by simp) ?_
              refine AllReadyH.cons (o := { dst := some 46, op := Go.Op.call { callee := Go.Callee.value (Go.Operand.func 27), args := #[Go.Operand.tmp 45], argTypes := #[52] }, type := 9, pos := "top01.go:16", after := #[{ on := 17, ground := Go.Ground.data }, { on := 17, ground := Go.Ground.chain }], guard := none }) rfl (fun K hK => ?_) AllReadyH.nil
              go_simp
              go_at_call 27
              refine (wText_any p _ _ hW).mono ?_
              rintro e wp38 ⟨he, hweq⟩
              rw [HTX.out] at he
              subst he
              subst hweq
              have hk0 := hp37
              first | refine hK.out _ _ ?sp38 (fun hp38 => ?_) | (go_wp2_with fail; refine hK.out _ _ ?sp38 (fun hp38 => ?_))
              case sp38 => exact hk0
              clear hK K
              try simp only [Act.put, List.setIfInBounds_toArray, List.set_cons_zero, List.set_cons_succ]
              refine wpAnyH_ready (rs := [19]) (by kernel_rfl) (by simp) ?_
              refine AllReadyH.cons (o := { dst := some 47, op := Go.Op.call { callee := Go.Callee.value (Go.Operand.func 22), args := #[Go.Operand.tmp 31, Go.Operand.tmp 46], argTypes := #[5, 9] }, type := 9, pos := "top01.go:16", after := #[{ on := 3, ground := Go.Ground.data }, { on := 18, ground := Go.Ground.data }, { on := 18, ground := Go.Ground.chain }], guard := none }) rfl (fun K hK => ?_) AllReadyH.nil
              go_simp
              go_at_call 22
              refine (FR.out _).mono ?_
              rintro e wp39 ⟨rfl, hgN⟩
              have hk0 := hgN.cell hp38
              have HB := Lib.hid (HB.out.trans hgN)
              clear hgN
              first | refine hK.out _ _ ?sp39 (fun hp39 => ?_) | (go_wp2_with fail; refine hK.out _ _ ?sp39 (fun hp39 => ?_))
              case sp39 => exact hk0
              clear hK K
              try simp only [Act.put, List.setIfInBounds_toArray, List.set_cons_zero, List.set_cons_succ]
              refine wpAnyH_take (i := 20) (oi := { dst := some 48, op := Go.Op.binOp Go.BinOp.add 9 (Go.Operand.tmp 28) (Go.Operand.tmp 47) 9, type := 9, pos := "top01.go:16", after := #[{ on := 0, ground := Go.Ground.data }, { on := 19, ground := Go.Ground.data }], guard := none }) (v := ?vp20z40) rfl (by kernel_rfl) (by kernel_rfl) (by kernel_rfl) (fun _ _ _ h => h) (Or.inl ⟨by rfl, ?rp20z40⟩) (by assumption) ?_
              case rp20z40 => (intro w hSw; (try dsimp only at hSw); (go_simp <;> with_reducible rfl))
              try simp only [Act.put, List.setIfInBounds_toArray, List.set_cons_zero, List.set_cons_succ]
              refine wpAnyH_take (i := 21) (oi := { dst := some 5, op := Go.Op.assign (Go.Operand.tmp 48), type := 9, pos := "top01.go:16", after := #[{ on := 20, ground := Go.Ground.data }, { on := 19, ground := Go.Ground.chain }, { on := 0, ground := Go.Ground.phase }, { on := 1, ground := Go.Ground.phase }, { on := 2, ground := Go.Ground.phase }, { on := 3, ground := Go.Ground.phase }, { on := 4, ground := Go.Ground.phase }, { on := 5, ground := Go.Ground.phase }, { on := 6, ground := Go.Ground.phase }, { on := 7, ground := Go.Ground.phase }, { on := 8, ground := Go.Ground.phase }, { on := 9, ground := Go.Ground.phase }, { on := 10, ground := Go.Ground.phase }, { on := 11, ground := Go.Ground.phase }, { on := 12, ground := Go.Ground.phase }, { on := 13, ground := Go.Ground.phase }, { on := 14, ground := Go.Ground.phase }, { on := 15, ground := Go.Ground.phase }, { on := 16, ground := Go.Ground.phase }, { on := 17, ground := Go.Ground.phase }, { on := 18, ground := Go.Ground.phase }, { on := 19, ground := Go.Ground.phase }, { on := 20, ground := Go.Ground.phase }], guard := none }) (v := ?vp21z40) rfl (by kernel_rfl) (by kernel_rfl) (by kernel_rfl) (fun _ _ _ h => h) (Or.inl ⟨by rfl, ?rp21z40⟩) (by assumption) ?_
              case rp21z40 => (intro w hSw; (try dsimp only at hSw); (go_simp <;> with_reducible rfl))
              try simp only [Act.put, List.setIfInBounds_toArray, List.set_cons_zero, List.set_cons_succ]
              refine wpAnyH_done (by kernel_rfl) ?_ _
              exact HL2 s5 s12 s16 _ HB.out
          · skip
            go_simp
            obtain ⟨s16, hs16⟩ : ∃ s, s = wd.heap.size := ⟨_, rfl⟩
            rw [← hs16]
            obtain ⟨wp41, hw⟩ : ∃ wn, wn = wd.alloc (.cells #[.bool (decide (3 < k))] 4) := ⟨_, rfl⟩
            rw [← hw]
            have gx : Gr wd wp41 := by rw [hw]; exact (Gr.refl _).alloc _
            have F16 : Free wp41 p s16 := by rw [hw, hs16]; exact free_new hW _
            have c16 : wp41.cell? ⟨s16, 0, none⟩ = some (.bool (decide (3 < k))) := by rw [hw, hs16]; exact new_cell rfl rfl
            have d16 : s16 ≠ p := by have := (wrLtF hW); omega
            have hFb := free_grF hW gx hFb
            have hk0 := gx.cell h0
            have HB := Lib.hid (HB.out.trans gx)
            have hW := hW.gr gx
            clear gx hw hs16
            first | refine hK.out _ _ ?sp41 (fun hp41 => ?_) | (go_wp2_with fail; refine hK.out _ _ ?sp41 (fun hp41 => ?_))
            case sp41 => exact hk0
            clear hK K
            try simp only [Act.put, List.setIfInBounds_toArray, List.set_cons_zero, List.set_cons_succ]
            refine wpAnyH_ready (rs := [5]) (by kernel_rfl) (by simp) ?_
            refine AllReadyH.cons (o := { dst := some 33, op := Go.Op.buildSlice 32 1 #[(0, Go.Operand.tmp 32)], type := 32, pos := "top01.go:16", after := #[{ on := 4, ground := Go.Ground.data }], guard := none }) rfl (fun K hK => ?_) AllReadyH.nil
            go_simp
            obtain ⟨s5, hs5⟩ : ∃ s, s = wp41.heap.size := ⟨_, rfl⟩
            rw [← hs5]
            obtain ⟨wp42, hw⟩ : ∃ wn, wn = wp41.alloc (.cells #[.int .i64 (k : Nat)] 3) := ⟨_, rfl⟩
            rw [← hw]
            have gx : Gr wp41 wp42 := by rw [hw]; exact (Gr.refl _).alloc _
            have c16 := gx.cell c16
            have F16 := free_grF hW gx F16
            have F5 : Free wp42 p s5 := by rw [hw, hs5]; exact free_new hW _
            have c5 : wp42.cell? ⟨s5, 0, none⟩ = some (.int .i64 (k : Nat)) := by rw [hw, hs5]; exact new_cell rfl rfl
            have d5 : s5 ≠ p := by have := (wrLtF hW); omega
            have hFb := free_grF hW gx hFb
            have hk0 := gx.cell hp41
            have HB := Lib.hid (HB.out.trans gx)
            have hW := hW.gr gx
            clear gx hw hs5
            first | refine hK.out _ _ ?sp42 (fun hp42 => ?_) | (go_wp2_with fail; refine hK.out _ _ ?sp42 (fun hp42 => ?_))
            case sp42 => exact hk0
            clear hK K
            try simp only [Act.put, List.setIfInBounds_toArray, List.set_cons_zero, List.set_cons_succ]
            refine wpAnyH_ready (rs := [6]) (by kernel_rfl) (by simp) ?_
            refine AllReadyH.cons (o := { dst := some 34, op := Go.Op.call { callee := Go.Callee.value (Go.Operand.func 23), args := #[Go.Operand.tmp 8, Go.Operand.tmp 33], argTypes := #[50, 32] }, type := 52, pos := "top01.go:16", after := #[{ on := 5, ground := Go.Ground.data }], guard := none }) rfl (fun K hK => ?_) AllReadyH.nil
            go_simp
            go_at_call 23
            refine (wN_1 p s5 (k : Nat) [] _ hW d5 F5 c5 (by decide) (by omega)).mono ?_
            rintro e wp43 ⟨rfl, hW2, hB2, hK2⟩
            have hl16 := cell_lt c16
            have c16 := hK2.cell d16 F16 c16
            have F16 := (hK2.2 s16 hl16 d16 F16).2
            have hk0 := hK2.cell hbp hFb hp42
            have hFb := (hK2.2 bb (cell_lt hp42) hbp hFb).2
            have HB := Lib.hid (gr_below HB.out HWP.out hB2)
            have hW : WrIs wp43 p (encN (k : Nat)) := hW2
            clear hW2 hB2 hK2
            first | refine hK.out _ _ ?sp43 (fun hp43 => ?_) | (go_wp2_with fail; refine hK.out _ _ ?sp43 (fun hp43 => ?_))
            case sp43 => exact hk0
            clear hK K
            try simp only [Act.put, List.setIfInBounds_toArray, List.set_cons_zero, List.set_cons_succ]
            refine wpAnyH_ready (rs := [11]) (by kernel_rfl) (by simp) ?_
            refine AllReadyH.cons (o := { dst := some 39, op := Go.Op.call { callee := Go.Callee.value (Go.Operand.func 25), args := #[Go.Operand.tmp 38, Go.Operand.const (Go.Value.int Go.IntKind.i64 80)], argTypes := #[9, 3] }, type := 9, pos := "top01.go:16", after := #[{ on := 10, ground := Go.Ground.data }, { on := 6, ground := Go.Ground.chain }], guard := none }) rfl (fun K hK => ?_) AllReadyH.nil
            go_simp
            go_at_call 25
            refine (CU.out _).mono ?_
            rintro e wp44 ⟨rfl, hweq⟩
            subst hweq
            have hk0 := hp43
            first | refine hK.out _ _ ?sp44 (fun hp44 => ?_) | (go_wp2_with fail; refine hK.out _ _ ?sp44 (fun hp44 => ?_))
            case sp44 => exact hk0
            clear hK K
            try simp only [Act.put, List.setIfInBounds_toArray, List.set_cons_zero, List.set_cons_succ]
            refine wpAnyH_ready (rs := [12]) (by kernel_rfl) (by simp) ?_
            refine AllReadyH.cons (o := { dst := some 40, op := Go.Op.buildSlice 47 1 #[(0, Go.Operand.tmp 39)], type := 47, pos := "top01.go:16", after := #[{ on := 11, ground := Go.Ground.data }], guard := none }) rfl (fun K hK => ?_) AllReadyH.nil
            go_simp
            obtain ⟨s12, hs12⟩ : ∃ s, s = wp43.heap.size := ⟨_, rfl⟩
            rw [← hs12]
            obtain ⟨wp45, hw⟩ : ∃ wn, wn = wp43.alloc (.cells #[.string t] 9) := ⟨_, rfl⟩
            rw [← hw]
            have gx : Gr wp43 wp45 := by rw [hw]; exact (Gr.refl _).alloc _
            have c16 := gx.cell c16
            have F16 := free_grF hW gx F16
            have F12 : Free wp45 p s12 := by rw [hw, hs12]; exact free_new hW _
            have c12 : wp45.cell? ⟨s12, 0, none⟩ = some (.string t) := by rw [hw, hs12]; exact new_cell rfl rfl
            have d12 : s12 ≠ p := by have := (wrLtF hW); omega
            have hFb := free_grF hW gx hFb
            have hk0 := gx.cell hp44
            have HB := Lib.hid (HB.out.trans gx)
            have hW := hW.gr gx
            clear gx hw hs12
            first | refine hK.out _ _ ?sp45 (fun hp45 => ?_) | (go_wp2_with fail; refine hK.out _ _ ?sp45 (fun hp45 => ?_))
            case sp45 => exact hk0
            clear hK K
            try simp only [Act.put, List.setIfInBounds_toArray, List.set_cons_zero, List.set_cons_succ]
            refine wpAnyH_ready (rs := [13]) (by kernel_rfl) (by simp) ?_
            refine AllReadyH.cons (o := { dst := some 41, op := Go.Op.call { callee := Go.Callee.value (Go.Operand.func 24), args := #[Go.Operand.tmp 34, Go.Operand.tmp 40], argTypes := #[52, 47] }, type := 52, pos := "top01.go:16", after := #[{ on := 6, ground := Go.Ground.data }, { on := 12, ground := Go.Ground.data }, { on := 11, ground := Go.Ground.chain }], guard := none }) rfl (fun K hK => ?_) AllReadyH.nil
            go_simp
            go_at_call 24
            refine (wS_keeps p s12 0 t _ _ hW c12 (by have := HEN.out; omega) (by omega)).mono ?_
            rintro e wp46 ⟨rfl, hW2, hB2, hK2⟩
            have hl16 := cell_lt c16
            have c16 := hK2.cell d16 F16 c16
            have F16 := (hK2.2 s16 hl16 d16 F16).2
            have hk0 := hK2.cell hbp hFb hp45
            have hFb := (hK2.2 bb (cell_lt hp45) hbp hFb).2
            have HB := Lib.hid (gr_below HB.out HWP.out hB2)
            have hW : WrIs wp46 p (encN (k : Nat) ++ encS (bytesOf t)) := hW2
            clear hW2 hB2 hK2
            first | refine hK.out _ _ ?sp46 (fun hp46 => ?_) | (go_wp2_with fail; refine hK.out _ _ ?sp46 (fun hp46 => ?_))
            case sp46 => exact hk0
            clear hK K
            try simp only [Act.put, List.setIfInBounds_toArray, List.set_cons_zero, List.set_cons_succ]
            refine wpAnyH_ready (rs := [17]) (by kernel_rfl) (by simp) ?_
            refine AllReadyH.cons (o := { dst := some 45, op := Go.Op.call { callee := Go.Callee.value (Go.Operand.func 26), args := #[Go.Operand.tmp 41, Go.Operand.tmp 44], argTypes := #[52, 115] }, type := 52, pos := "top01.go:16", after := #[{ on := 13, ground := Go.Ground.data }, { on := 16, ground := Go.Ground.data }, { on := 13, ground := Go.Ground.chain }], guard := none }) rfl (fun K hK => ?_) AllReadyH.nil
            go_simp
            go_at_call 26
            refine (wB_one p s16 0 (decide (3 < k)) _ _ hW c16 (by have := HEN.out; have := HES.out; rw [List.length_append]; omega)).mono ?_
            rintro e wp47 ⟨rfl, hW2, hB2, hK2⟩
            have hk0 := hK2.cell hbp hFb hp46
            have hFb := (hK2.2 bb (cell_lt hp46) hbp hFb).2
            have HB := Lib.hid (gr_below HB.out HWP.out hB2)
            have hW : WrIs wp47 p (encN (k : Nat) ++ encS (bytesOf t) ++ encB (decide (3 < k))) := hW2
            clear hW2 hB2 hK2
            first | refine hK.out _ _ ?sp47 (fun hp47 => ?_) | (go_wp2_with fail; refine hK.out _ _ ?sp47 (fun hp47 => ?_))
            case sp47 => exact hk0
            clear hK K
            try simp only [Act.put, List.setIfInBounds_toArray, List.set_cons_zero, List.set_cons_succ]
            refine wpAnyH_ready (rs := [18]) (by kernel_rfl) (by simp) ?_
            refine AllReadyH.cons (o := { dst := some 46, op := Go.Op.call { callee := Go.Callee.value (Go.Operand.func 27), args := #[Go.Operand.tmp 45], argTypes := #[52] }, type := 9, pos := "top01.go:16", after := #[{ on := 17, ground := Go.Ground.data }, { on := 17, ground := Go.Ground.chain }], guard := none }) rfl (fun K hK => ?_) AllReadyH.nil
            go_simp
            go_at_call 27
            refine (wText_any p _ _ hW).mono ?_
            rintro e wp48 ⟨he, hweq⟩
            rw [HTX.out] at he
            subst he
            subst hweq
            have hk0 := hp47
            first | refine hK.out _ _ ?sp48 (fun hp48 => ?_) | (go_wp2_with fail; refine hK.out _ _ ?sp48 (fun hp48 => ?_))
            case sp48 => exact hk0
            clear hK K
            try simp only [Act.put, List.setIfInBounds_toArray, List.set_cons_zero, List.set_cons_succ]
            refine wpAnyH_ready (rs := [19]) (by kernel_rfl) (by simp) ?_
            refine AllReadyH.cons (o := { dst := some 47, op := Go.Op.call { callee := Go.Callee.value (Go.Operand.func 22), args := #[Go.Operand.tmp 31, Go.Operand.tmp 46], argTypes := #[5, 9] }, type := 9, pos := "top01.go:16", after := #[{ on := 3, ground := Go.Ground.data }, { on := 18, ground := Go.Ground.data }, { on := 18, ground := Go.Ground.chain }], guard := none }) rfl (fun K hK => ?_) AllReadyH.nil
            go_simp
            go_at_call 22
            refine (FR.out _).mono ?_
            rintro e wp49 ⟨rfl, hgN⟩
            have hk0 := hgN.cell hp48
            have HB := Lib.hid (HB.out.trans hgN)
            clear hgN
            first | refine hK.out _ _ ?sp49 (fun hp49 => ?_) | (go_wp2_with fail; refine hK.out _ _ ?sp49 (fun hp49 => ?_))
            case sp49 => exact hk0
            clear hK K
            try simp only [Act.put, List.setIfInBounds_toArray, List.set_cons_zero, List.set_cons_succ]
            refine wpAnyH_take (i := 20) (oi := { dst := some 48, op := Go.Op.binOp Go.BinOp.add 9 (Go.Operand.tmp 28) (Go.Operand.tmp 47) 9, type := 9, pos := "top01.go:16", after := #[{ on := 0, ground := Go.Ground.data }, { on := 19, ground := Go.Ground.data }], guard := none }) (v := ?vp20z50) rfl (by kernel_rfl) (by kernel_rfl) (by kernel_rfl) (fun _ _ _ h => h) (Or.inl ⟨by rfl, ?rp20z50⟩) (by assumption) ?_
            case rp20z50 => (intro w hSw; (try dsimp only at hSw); (go_simp <;> with_reducible rfl))
            try simp only [Act.put, List.setIfInBounds_toArray, List.set_cons_zero, List.set_cons_succ]
            refine wpAnyH_take (i := 21) (oi := { dst := some 5, op := Go.Op.assign (Go.Operand.tmp 48), type := 9, pos := "top01.go:16", after := #[{ on := 20, ground := Go.Ground.data }, { on := 19, ground := Go.Ground.chain }, { on := 0, ground := Go.Ground.phase }, { on := 1, ground := Go.Ground.phase }, { on := 2, ground := Go.Ground.phase }, { on := 3, ground := Go.Ground.phase }, { on := 4, ground := Go.Ground.phase }, { on := 5, ground := Go.Ground.phase }, { on := 6, ground := Go.Ground.phase }, { on := 7, ground := Go.Ground.phase }, { on := 8, ground := Go.Ground.phase }, { on := 9, ground := Go.Ground.phase }, { on := 10, ground := Go.Ground.phase }, { on := 11, ground := Go.Ground.phase }, { on := 12, ground := Go.Ground.phase }, { on := 13, ground := Go.Ground.phase }, { on := 14, ground := Go.Ground.phase }, { on := 15, ground := Go.Ground.phase }, { on := 16, ground := Go.Ground.phase }, { on := 17, ground := Go.Ground.phase }, { on := 18, ground := Go.Ground.phase }, { on := 19, ground := Go.Ground.phase }, { on := 20, ground := Go.Ground.phase }], guard := none }) (v := ?vp21z50) rfl (by kernel_rfl) (by kernel_rfl) (by kernel_rfl) (fun _ _ _ h => h) (Or.inl ⟨by rfl, ?rp21z50⟩) (by assumption) ?_
            case rp21z50 => (intro w hSw; (try dsimp only at hSw); (go_simp <;> with_reducible rfl))
            try simp only [Act.put, List.setIfInBounds_toArray, List.set_cons_zero, List.set_cons_succ]
            refine wpAnyH_done (by kernel_rfl) ?_ _
            exact HL2 s5 s12 s16 _ HB.out
        case rest =>
          intro s5 s12 s16 wy hgy
          have HG9 := Lib.hid (HG.out.trans hgy)
          have hrow := ownsRow_gr hgy HE.out
          have hal2 : (all ++ fr).size ≤ 1296 := by rw [← HSN.out]; exact HFL1.out
          have HEF := Lib.hid (show endsF ss (k + 1) = endsF ss k ++ [.int .i64 ((all ++ fr).size : Nat)] by rw [endsF_succ]; unfold endF; rw [HSN.out])
          clear hsum hfl
          generalize all ++ fr = al2 at *
          go_wp2_with (at_builtin; go_loud (refine wpList_append_lies _ rfl (.tmp 49) (.tmp 52) 32 rfl w.heap.size 3 i0 (.int .i64 0) 1 8 Try.underlying32 hi hz0 hz1 hz2 rfl (by decide) _ _ _ rfl (hrow.alloc _) ⟨wy.heap.size, 0, none⟩ 1 1 [.int .i64 (al2.size : Nat)] rfl rfl ?c1 ?c2 Nat.one_pos ?c3 ?c4 ?c5 _ rfl ?_))
          case c1 => exact World.news_of_block (cs := #[.int .i64 (al2.size : Nat)]) (t := 3) (fr := (0, 0)) (heap_alloc_new wy _)
          case c2 => intro u hu; simp at hu; subst hu; rfl
          case c3 => unfold maxLen; omega
          case c4 => omega
          case c5 => have := HG9.out.size; simp; omega
          intro g7 cap7 w7 hown7 hgrow7 hat7 hlt7
          have HG7 := Lib.hid ((HG9.out.alloc _).append (hrow.alloc _) hgrow7)
          have HE7 := Lib.hid (show w7.ownsRow w.heap.size 3 1 (.slice (some ⟨g7, 0, none⟩) (k + 1) cap7) (k + 1) (endsF ss (k + 1)) by rw [HEF.out]; exact hown7)
          clear hown7 hgrow7 hat7 hlt7 hrow
          go_wp2
          go_roundw
          case rel => exact ⟨k + 1, by omega, by omega, by go_num, by rw [HSN.out], HE7, HG7⟩
          case measure => simp [intOf]; omega
      · have hkx : min ss.length 12 = k := by omega
        have hpl : (partsF ss).length = k := by rw [partsF_len]; exact hkx
        have hVL := partsF_valid ss
        have hv1 : Valid (partsF ss) := fun p hp => ⟨(hVL p hp).1, (hVL p hp).2.1, by have := (hVL p hp).2.2; omega⟩
        have hal : framesOf ((partsF ss).take k) = framesOf (partsF ss) := by rw [List.take_of_length_le (by omega)]
        have hfs := framesF_le ss k
        rw [hal] at hfs ⊢
        obtain ⟨c, hc⟩ : ∃ c : Nat, max 0 (min cut ((framesOf (partsF ss)).size : Int)) = (c : Int) := ⟨(max 0 (min cut ((framesOf (partsF ss)).size : Int))).toNat, by omega⟩
        have hcl : c ≤ (framesOf (partsF ss)).size := by omega
        have hscn := scan_frames (partsF ss) c hv1 hcl
        have HSC : Hid (∀ w, Calls Try.prog 28 #[.string ((framesOf (partsF ss)).extract 0 c)] w fun e w' => ∃ v, e = .returned (.tuple #[v, .int .i64 (torn (partsF ss) c).2]) ∧ w'.ownsRow w.heap.size 62 2 v (torn (partsF ss) c).1.length (partCells (torn (partsF ss) c).1) ∧ Gr w w') := Lib.hid fun w => by
          have h1 := scan_any ((framesOf (partsF ss)).extract 0 c) w (by simp; omega)
          unfold ScanIs at h1
          rwa [hscn] at h1
        obtain ⟨ea, ec, rfl, hec⟩ := ownsRow_slice HE.out
        have HEC := Lib.hid hec
        have HPA := Lib.hid (partsF_at ss)
        have HEN := Lib.hid (show ∀ j, endF ss j = (framesOf ((partsF ss).take (j + 1))).size from fun j => rfl)
        have hc4 : (c : Int) ≤ ((framesOf (partsF ss)).size : Int) := by omega
        have hps : ((framesOf (partsF ss)).extract 0 c).size ≤ 1296 := by simp; omega
        clear hec hscn hal hVL hv1
        generalize partsF ss = PS at *
        generalize hfr : framesOf PS = all at *
        clear hfr
        go_wp2_with (simp only [hc])
        refine (HSC.out _).mono ?_
        rintro e w3 ⟨pv, rfl, hrow3, hg3⟩
        have HG3 := Lib.hid (HG.out.trans hg3)
        have HEC3 := Lib.hid (show ∀ j (hj : j < k), ∃ g, ea = some ⟨g, 0, none⟩ ∧ w3.cell? ⟨g, j, none⟩ = some (.int .i64 (endF ss j : Nat)) from fun j hj => by
          rcases HEC.out with ⟨-, h0⟩ | ⟨g, rfl, -, hcc⟩
          · omega
          · exact ⟨g, rfl, hg3.cell (hcc j _ (endsF_at ss k j hj))⟩)
        have HR3 := Lib.hid hrow3
        clear hrow3 hg3 HE HG HEC
        obtain ⟨TN, ZN, htz⟩ : ∃ TN ZN, torn PS c = (TN, ZN) := ⟨_, _, rfl⟩
        rw [htz] at HR3 ⊢
        have HTZ := Lib.hid htz
        clear htz HSC
        go_wp2
        go_loopw [11] (fun i wz => ∃ m : Nat, m ≤ k ∧ i = .int .i64 (m : Nat) ∧ wz = w3 ∧ Hid ((TN, ZN) = (PS.take m ++ (torn (PS.drop m) (c - (framesOf (PS.take m)).size)).1, (framesOf (PS.take m)).size + (torn (PS.drop m) (c - (framesOf (PS.take m)).size)).2)) ∧ Hid ((framesOf (PS.take m)).size ≤ c)) (fun i _ => k - (intOf i).toNat)
        case atStart => exact ⟨0, by omega, rfl, rfl, Lib.hid (by rw [← HTZ.out]; show _ = ([] ++ (torn PS (c - 0)).1, 0 + (torn PS (c - 0)).2); simp), Lib.hid (Nat.zero_le _)⟩
        case round =>
          obtain ⟨m, hm, rfl, rfl, HT, HZ⟩ := hrel
          by_cases hmk : m < k
          · obtain ⟨ge, rfl, he0⟩ := HEC3.out m hmk
            by_cases hle : endF ss m ≤ c
            · have hmp : m < PS.length := by omega
              have hst := torn_step PS m c (framesOf (PS.take m)).size hmp rfl (by
                have h1 := HEN.out m
                rw [List.take_succ_eq_append_getElem hmp, framesOf_snoc, ByteArray.size_append, rframe_size] at h1
                omega) (HTZ.out.trans HT.out)
              have HT2 := Lib.hid (show (TN, ZN) = (PS.take (m + 1) ++ (torn (PS.drop (m + 1)) (c - (framesOf (PS.take (m + 1))).size)).1, (framesOf (PS.take (m + 1))).size + (torn (PS.drop (m + 1)) (c - (framesOf (PS.take (m + 1))).size)).2) by rw [← HTZ.out, hst.1]; exact hst.2)
              have HZ2 := Lib.hid (show (framesOf (PS.take (m + 1))).size ≤ c by rw [← HEN.out m]; exact hle)
              clear hst
              have hle4 : ((endF ss m : Nat) : Int) ≤ (c : Int) := by omega
              generalize endF ss m = em at *
              have hmk4 : (m : Int) < (k : Int) := by omega
              go_wp2
              go_roundw
              case rel => exact ⟨m + 1, by omega, by go_num, trivial, HT2, HZ2⟩
              case measure => simp [intOf]; omega
            · have HL := Lib.hid (show TN = PS.take m ∧ ZN = (framesOf (PS.take m)).size from by
                have hmp : m < PS.length := by omega
                have h2 := torn_end (PS.drop m) (c - (framesOf (PS.take m)).size) (fun p t e => by
                  rw [List.drop_eq_getElem_cons hmp] at e
                  simp only [List.cons.injEq] at e
                  rw [← e.1]
                  have h1 := HEN.out m
                  rw [List.take_succ_eq_append_getElem hmp, framesOf_snoc, ByteArray.size_append, rframe_size] at h1
                  have := HZ.out
                  omega)
                have h3 := HT.out
                rw [h2] at h3
                simp only [List.append_nil, Nat.add_zero, Prod.mk.injEq] at h3
                exact h3)
              have hle4 : ¬ ((endF ss m : Nat) : Int) ≤ (c : Int) := by omega
              have hmk4 : (m : Int) < (k : Int) := by omega
              clear HT HZ HTZ
              obtain ⟨hl1, hl2⟩ := HL.out
              subst hl1 hl2
              have hlm : (PS.take m).length = m := by rw [List.length_take]; omega
              rw [hlm] at HR3
              obtain ⟨pa, pc, rfl, hpc⟩ := ownsRow_slice HR3.out
              have HPC := Lib.hid hpc
              clear hpc HR3 HL
              by_cases hm0 : m = 0
              · have hz0 : (framesOf (PS.take m)).size = 0 := by rw [hm0]; rfl
                generalize (framesOf (PS.take m)).size = z at *
                subst hz0 hm0
                go_wp2
                go_loopw [107] (fun i wz => i = .int .i64 0 ∧ wz = wr) (fun _ _ => 0)
                case atStart => exact ⟨rfl, rfl⟩
                case round =>
                  obtain ⟨rfl, rfl⟩ := hrel
                  go_wp2_with fail
                  refine (sum_one ⟨#[49, 50, 51, 52, 53, 54, 55, 56, 57]⟩ _ _ rfl (by decide)).mono ?_
                  rintro e w5 ⟨rfl, rfl⟩
                  rw [HSUM.out]
                  go_wp2
                  go_ret
                  exact ⟨rfl, HG3.out.alloc _⟩
              · obtain ⟨m', hm1⟩ : ∃ m', m = m' + 1 := ⟨m - 1, by omega⟩
                obtain ⟨ge2, hge2, he2⟩ := HEC3.out m' (by omega)
                have hz : endF ss m' = (framesOf (PS.take m)).size := by rw [HEN.out m', hm1]
                rw [hz] at he2
                first | (simp only [Option.some.injEq, Addr.mk.injEq, and_true] at hge2; subst hge2) | subst hge2
                have HM1 := Lib.hid hm1
                have hw1 : IntKind.i64.wrap ((m : Int) - 1) = (m' : Int) := by rw [IntWalk.i64_in _ (by omega)]; omega
                have hm4 : (m' : Int) < (k : Int) := by omega
                clear hz hm1
                generalize (framesOf (PS.take m)).size = z at *
                go_wp2
                go_loopw [107] (fun i wz => ∃ j : Nat, j ≤ m ∧ i = .int .i64 (j : Nat) ∧ Hid (Gr wr wz)) (fun i _ => m - (intOf i).toNat)
                case atStart => exact ⟨0, by omega, rfl, Lib.hid (Gr.refl _)⟩
                case round =>
                  obtain ⟨j, hj, rfl, HGZ⟩ := hrel
                  by_cases hjm : j < m
                  · rcases HPC.out with ⟨-, h0⟩ | ⟨pg, rfl, -, hpc⟩
                    · exfalso; omega
                    have hjp : j < PS.length := by omega
                    have hjt : j < (PS.take m).length := by omega
                    obtain ⟨q0, q1⟩ := partCells_at (PS.take m) j hjt
                    have p0 := HGZ.out.cell (hpc _ _ q0)
                    have p1 := HGZ.out.cell (hpc _ _ q1)
                    clear hpc q0 q1
                    have hpj : (PS.take m)[j] = PS[j] := List.getElem_take
                    rw [hpj, HPA.out j hjp] at p0 p1
                    have hjs : j < ss.length := by omega
                    rw [show ss.getD j ⟨#[]⟩ = ss[j] by rw [List.getD_eq_getElem?_getD, List.getElem?_eq_getElem hjs]; rfl] at p0 p1
                    obtain ⟨bb, oo, hab, hbb, hc0, hz0s⟩ := HST.out.at j hjs
                    subst hab
                    have k0c := (HG3.out.trans HGZ.out).cell hc0
                    have CU := Lib.hid (fun w => cut_any ss[j] 80 w hz0s (by decide))
                    have hcs := cutB_le ss[j] 80
                    clear hc0 hpj
                    generalize ss[j] = x0 at *
                    generalize cutB x0 80 = t at *
                    simp only at p0 p1
                    obtain ⟨q, hq⟩ : ∃ q, decide (3 < j) = q := ⟨_, rfl⟩
                    have hq2 : decide (3 < (j : Int)) = q := by rw [← hq]; exact decide_eq_decide.2 (by omega)
                    obtain ⟨R0, hR0⟩ : ∃ R0, innerF j t = R0 := ⟨_, rfl⟩
                    rw [hR0] at p1
                    have hR0s : R0.size ≤ 200 := by rw [← hR0]; have := innerF_le j t; omega
                    have hRb : bytesOf R0 = encU j ++ (encS (bytesOf t) ++ encB q) := by rw [← hR0]; unfold innerF; rw [bytesOf_ofL, List.append_assoc, hq]; unfold encN; rw [show (max (j : Int) 0).toNat = j by omega]
                    have HN1 := Lib.hid (nS_back R0 j _ 12 (by omega) (by omega) hRb)
                    have HN2 := Lib.hid (sS_back (ofL (encS (bytesOf t) ++ encB q)) t (encB q) 80 (by omega) (by omega) (bytesOf_ofL _))
                    have HN3 := Lib.hid (bS_back (ofL (encB q)) q [] (by rw [bytesOf_ofL, List.append_nil]))
                    have hR1s : (ofL (encS (bytesOf t) ++ encB q)).size ≤ 200 := by rw [ofL_size]; have h9 := congrArg List.length hRb; rw [bytesOf_length, List.length_append] at h9; omega
                    clear hR0 hRb hq
                    generalize ofL (encS (bytesOf t) ++ encB q) = R1 at *
                    generalize ofL (encB q) = R2 at *
                    have hjm4 : (j : Int) < (m : Int) := by omega
                    have hjs4 : (j : Int) < (ss.length : Int) := by omega
                    go_wp2_with fail
                    have hb0 : (wr.alloc (.cells #[.int .u8 (1 + (j : Int)), .string R0] 62)).cell? ⟨wr.heap.size, 0, none⟩ = some (.int .u8 (1 + (j : Int))) := new_cell rfl rfl
                    have HG5 := Lib.hid ((Gr.refl wr).alloc (.cells #[.int .u8 (1 + (j : Int)), .string R0] 62))
                    have k5c := HG5.out.cell k0c
                    clear p0 p1 k0c
                    generalize wr.alloc (.cells #[.int .u8 (1 + (j : Int)), .string R0] 62) = w5 at *
                    generalize wr.heap.size = nb at *
                    refine (read_any R0 _ (by omega)).mono ?_
                    rintro e w6 ⟨rfl, hrd, hg6⟩
                    have hbp : bb ≠ w5.heap.size := by have := cell_lt k5c; omega
                    have hnp : nb ≠ w5.heap.size := by have := cell_lt hb0; omega
                    have HPL := Lib.hid (HG5.out.size)
                    have k6c := hg6.cell k5c
                    have hb6 := hg6.cell hb0
                    have HG6 := Lib.hid (HG5.out.trans hg6)
                    clear k5c hb0 hg6
                    generalize w5.heap.size = rp at *
                    go_wp2_with fail
                    refine (rN_any rp R0 0 12 (by decide) _ hrd).mono ?_
                    rintro e w7 ⟨rfl, hrd7, ho7⟩
                    rw [HN1.out] at hrd7 ⊢
                    have k7c := ho7.cell hbp k6c
                    have hb7 := ho7.cell hnp hb6
                    have HG7 := Lib.hid (ho7.gr HG6.out HPL.out)
                    clear hrd ho7 k6c hb6
                    go_wp2_with fail
                    refine (rS_any rp R1 0 80 (by decide) (by omega) _ hrd7).mono ?_
                    rintro e w8 ⟨rfl, hrd8, ho8⟩
                    rw [HN2.out] at hrd8 ⊢
                    have k8c := ho8.cell hbp k7c
                    have hb8 := ho8.cell hnp hb7
                    have HG8 := Lib.hid (ho8.gr HG7.out HPL.out)
                    clear hrd7 ho8 k7c hb7
                    go_wp2_with fail
                    refine (rB_any rp R2 0 _ hrd8).mono ?_
                    rintro e w9 ⟨rfl, hrd9, ho9⟩
                    rw [HN3.out] at hrd9 ⊢
                    have k9c := ho9.cell hbp k8c
                    have hb9 := ho9.cell hnp hb8
                    have HG9 := Lib.hid (ho9.gr HG8.out HPL.out)
                    clear hrd8 ho9 k8c hb8
                    have htt : (t.toList == t.toList) = true := by simp
                    go_wp2_with fail
                    refine (CU.out _).mono ?_
                    rintro e w10 ⟨rfl, rfl⟩
                    go_wp2_with fail
                    refine (rDone_any rp _ 0 _ hrd9).mono ?_
                    rintro e w11 ⟨rfl, hrd11, ho11⟩
                    rw [show doneE (ofL []) 0 = 0 from rfl]
                    have hb11 := ho11.cell hnp hb9
                    have HG11 := Lib.hid (HGZ.out.trans (ho11.gr HG9.out HPL.out))
                    clear hrd9 hrd11 ho11 k9c hb9
                    go_wp2
                    go_roundw
                    case rel => exact ⟨j + 1, by omega, by go_num, HG11⟩
                    case measure => simp [intOf]; omega
                  · obtain rfl : j = m := by omega
                    go_wp2_with fail
                    refine (sum_one ⟨#[49, 50, 51, 52, 53, 54, 55, 56, 57]⟩ _ _ rfl (by decide)).mono ?_
                    rintro e w5 ⟨rfl, rfl⟩
                    rw [HSUM.out]
                    go_wp2
                    go_ret
                    exact ⟨rfl, (HG3.out.trans HGZ.out).alloc _⟩
          · obtain rfl : m = k := by omega
            have HL := Lib.hid (show TN = PS.take m ∧ ZN = (framesOf (PS.take m)).size from by
              have h3 := HT.out
              rw [List.drop_of_length_le (by omega)] at h3
              simp only [torn, List.append_nil, Nat.add_zero, Prod.mk.injEq] at h3
              exact h3)
            clear HT HZ HTZ
            obtain ⟨hl1, hl2⟩ := HL.out
            subst hl1 hl2
            have hlm : (PS.take m).length = m := by rw [List.length_take]; omega
            rw [hlm] at HR3
            obtain ⟨pa, pc, rfl, hpc⟩ := ownsRow_slice HR3.out
            have HPC := Lib.hid hpc
            clear hpc HR3 HL
            by_cases hm0 : m = 0
            · exfalso; omega
            · obtain ⟨m', hm1⟩ : ∃ m', m = m' + 1 := ⟨m - 1, by omega⟩
              obtain ⟨ge2, hge2, he2⟩ := HEC3.out m' (by omega)
              have hz : endF ss m' = (framesOf (PS.take m)).size := by rw [HEN.out m', hm1]
              rw [hz] at he2
              first | (simp only [Option.some.injEq, Addr.mk.injEq, and_true] at hge2; subst hge2) | subst hge2
              have HM1 := Lib.hid hm1
              have hw1 : IntKind.i64.wrap ((m : Int) - 1) = (m' : Int) := by rw [IntWalk.i64_in _ (by omega)]; omega
              have hm4 : (m' : Int) < (m : Int) := by omega
              clear hz hm1
              generalize (framesOf (PS.take m)).size = z at *
              go_wp2
              go_loopw [107] (fun i wz => ∃ j : Nat, j ≤ m ∧ i = .int .i64 (j : Nat) ∧ Hid (Gr wr wz)) (fun i _ => m - (intOf i).toNat)
              case atStart => exact ⟨0, by omega, rfl, Lib.hid (Gr.refl _)⟩
              case round =>
                obtain ⟨j, hj, rfl, HGZ⟩ := hrel
                by_cases hjm : j < m
                · rcases HPC.out with ⟨-, h0⟩ | ⟨pg, rfl, -, hpc⟩
                  · exfalso; omega
                  have hjp : j < PS.length := by omega
                  have hjt : j < (PS.take m).length := by omega
                  obtain ⟨q0, q1⟩ := partCells_at (PS.take m) j hjt
                  have p0 := HGZ.out.cell (hpc _ _ q0)
                  have p1 := HGZ.out.cell (hpc _ _ q1)
                  clear hpc q0 q1
                  have hpj : (PS.take m)[j] = PS[j] := List.getElem_take
                  rw [hpj, HPA.out j hjp] at p0 p1
                  have hjs : j < ss.length := by omega
                  rw [show ss.getD j ⟨#[]⟩ = ss[j] by rw [List.getD_eq_getElem?_getD, List.getElem?_eq_getElem hjs]; rfl] at p0 p1
                  obtain ⟨bb, oo, hab, hbb, hc0, hz0s⟩ := HST.out.at j hjs
                  subst hab
                  have k0c := (HG3.out.trans HGZ.out).cell hc0
                  have CU := Lib.hid (fun w => cut_any ss[j] 80 w hz0s (by decide))
                  have hcs := cutB_le ss[j] 80
                  clear hc0 hpj
                  generalize ss[j] = x0 at *
                  generalize cutB x0 80 = t at *
                  simp only at p0 p1
                  obtain ⟨q, hq⟩ : ∃ q, decide (3 < j) = q := ⟨_, rfl⟩
                  have hq2 : decide (3 < (j : Int)) = q := by rw [← hq]; exact decide_eq_decide.2 (by omega)
                  obtain ⟨R0, hR0⟩ : ∃ R0, innerF j t = R0 := ⟨_, rfl⟩
                  rw [hR0] at p1
                  have hR0s : R0.size ≤ 200 := by rw [← hR0]; have := innerF_le j t; omega
                  have hRb : bytesOf R0 = encU j ++ (encS (bytesOf t) ++ encB q) := by rw [← hR0]; unfold innerF; rw [bytesOf_ofL, List.append_assoc, hq]; unfold encN; rw [show (max (j : Int) 0).toNat = j by omega]
                  have HN1 := Lib.hid (nS_back R0 j _ 12 (by omega) (by omega) hRb)
                  have HN2 := Lib.hid (sS_back (ofL (encS (bytesOf t) ++ encB q)) t (encB q) 80 (by omega) (by omega) (bytesOf_ofL _))
                  have HN3 := Lib.hid (bS_back (ofL (encB q)) q [] (by rw [bytesOf_ofL, List.append_nil]))
                  have hR1s : (ofL (encS (bytesOf t) ++ encB q)).size ≤ 200 := by rw [ofL_size]; have h9 := congrArg List.length hRb; rw [bytesOf_length, List.length_append] at h9; omega
                  clear hR0 hRb hq
                  generalize ofL (encS (bytesOf t) ++ encB q) = R1 at *
                  generalize ofL (encB q) = R2 at *
                  have hjm4 : (j : Int) < (m : Int) := by omega
                  have hjs4 : (j : Int) < (ss.length : Int) := by omega
                  go_wp2_with fail
                  have hb0 : (wr.alloc (.cells #[.int .u8 (1 + (j : Int)), .string R0] 62)).cell? ⟨wr.heap.size, 0, none⟩ = some (.int .u8 (1 + (j : Int))) := new_cell rfl rfl
                  have HG5 := Lib.hid ((Gr.refl wr).alloc (.cells #[.int .u8 (1 + (j : Int)), .string R0] 62))
                  have k5c := HG5.out.cell k0c
                  clear p0 p1 k0c
                  generalize wr.alloc (.cells #[.int .u8 (1 + (j : Int)), .string R0] 62) = w5 at *
                  generalize wr.heap.size = nb at *
                  refine (read_any R0 _ (by omega)).mono ?_
                  rintro e w6 ⟨rfl, hrd, hg6⟩
                  have hbp : bb ≠ w5.heap.size := by have := cell_lt k5c; omega
                  have hnp : nb ≠ w5.heap.size := by have := cell_lt hb0; omega
                  have HPL := Lib.hid (HG5.out.size)
                  have k6c := hg6.cell k5c
                  have hb6 := hg6.cell hb0
                  have HG6 := Lib.hid (HG5.out.trans hg6)
                  clear k5c hb0 hg6
                  generalize w5.heap.size = rp at *
                  go_wp2_with fail
                  refine (rN_any rp R0 0 12 (by decide) _ hrd).mono ?_
                  rintro e w7 ⟨rfl, hrd7, ho7⟩
                  rw [HN1.out] at hrd7 ⊢
                  have k7c := ho7.cell hbp k6c
                  have hb7 := ho7.cell hnp hb6
                  have HG7 := Lib.hid (ho7.gr HG6.out HPL.out)
                  clear hrd ho7 k6c hb6
                  go_wp2_with fail
                  refine (rS_any rp R1 0 80 (by decide) (by omega) _ hrd7).mono ?_
                  rintro e w8 ⟨rfl, hrd8, ho8⟩
                  rw [HN2.out] at hrd8 ⊢
                  have k8c := ho8.cell hbp k7c
                  have hb8 := ho8.cell hnp hb7
                  have HG8 := Lib.hid (ho8.gr HG7.out HPL.out)
                  clear hrd7 ho8 k7c hb7
                  go_wp2_with fail
                  refine (rB_any rp R2 0 _ hrd8).mono ?_
                  rintro e w9 ⟨rfl, hrd9, ho9⟩
                  rw [HN3.out] at hrd9 ⊢
                  have k9c := ho9.cell hbp k8c
                  have hb9 := ho9.cell hnp hb8
                  have HG9 := Lib.hid (ho9.gr HG8.out HPL.out)
                  clear hrd8 ho9 k8c hb8
                  have htt : (t.toList == t.toList) = true := by simp
                  go_wp2_with fail
                  refine (CU.out _).mono ?_
                  rintro e w10 ⟨rfl, rfl⟩
                  go_wp2_with fail
                  refine (rDone_any rp _ 0 _ hrd9).mono ?_
                  rintro e w11 ⟨rfl, hrd11, ho11⟩
                  rw [show doneE (ofL []) 0 = 0 from rfl]
                  have hb11 := ho11.cell hnp hb9
                  have HG11 := Lib.hid (HGZ.out.trans (ho11.gr HG9.out HPL.out))
                  clear hrd9 hrd11 ho11 k9c hb9
                  go_wp2
                  go_roundw
                  case rel => exact ⟨j + 1, by omega, by go_num, HG11⟩
                  case measure => simp [intOf]; omega
                · obtain rfl : j = m := by omega
                  go_wp2_with fail
                  refine (sum_one ⟨#[49, 50, 51, 52, 53, 54, 55, 56, 57]⟩ _ _ rfl (by decide)).mono ?_
                  rintro e w5 ⟨rfl, rfl⟩
                  rw [HSUM.out]
                  go_wp2
                  go_ret
                  exact ⟨rfl, (HG3.out.trans HGZ.out).alloc _⟩
    · have hkx : min ss.length 12 = k := by omega
      have hpl : (partsF ss).length = k := by rw [partsF_len]; exact hkx
      have hVL := partsF_valid ss
      have hv1 : Valid (partsF ss) := fun p hp => ⟨(hVL p hp).1, (hVL p hp).2.1, by have := (hVL p hp).2.2; omega⟩
      have hal : framesOf ((partsF ss).take k) = framesOf (partsF ss) := by rw [List.take_of_length_le (by omega)]
      have hfs := framesF_le ss k
      rw [hal] at hfs ⊢
      obtain ⟨c, hc⟩ : ∃ c : Nat, max 0 (min cut ((framesOf (partsF ss)).size : Int)) = (c : Int) := ⟨(max 0 (min cut ((framesOf (partsF ss)).size : Int))).toNat, by omega⟩
      have hcl : c ≤ (framesOf (partsF ss)).size := by omega
      have hscn := scan_frames (partsF ss) c hv1 hcl
      have HSC : Hid (∀ w, Calls Try.prog 28 #[.string ((framesOf (partsF ss)).extract 0 c)] w fun e w' => ∃ v, e = .returned (.tuple #[v, .int .i64 (torn (partsF ss) c).2]) ∧ w'.ownsRow w.heap.size 62 2 v (torn (partsF ss) c).1.length (partCells (torn (partsF ss) c).1) ∧ Gr w w') := Lib.hid fun w => by
        have h1 := scan_any ((framesOf (partsF ss)).extract 0 c) w (by simp; omega)
        unfold ScanIs at h1
        rwa [hscn] at h1
      obtain ⟨ea, ec, rfl, hec⟩ := ownsRow_slice HE.out
      have HEC := Lib.hid hec
      have HPA := Lib.hid (partsF_at ss)
      have HEN := Lib.hid (show ∀ j, endF ss j = (framesOf ((partsF ss).take (j + 1))).size from fun j => rfl)
      have hc4 : (c : Int) ≤ ((framesOf (partsF ss)).size : Int) := by omega
      have hps : ((framesOf (partsF ss)).extract 0 c).size ≤ 1296 := by simp; omega
      clear hec hscn hal hVL hv1
      generalize partsF ss = PS at *
      generalize hfr : framesOf PS = all at *
      clear hfr
      go_wp2_with (simp only [hc])
      refine (HSC.out _).mono ?_
      rintro e w3 ⟨pv, rfl, hrow3, hg3⟩
      have HG3 := Lib.hid (HG.out.trans hg3)
      have HEC3 := Lib.hid (show ∀ j (hj : j < k), ∃ g, ea = some ⟨g, 0, none⟩ ∧ w3.cell? ⟨g, j, none⟩ = some (.int .i64 (endF ss j : Nat)) from fun j hj => by
        rcases HEC.out with ⟨-, h0⟩ | ⟨g, rfl, -, hcc⟩
        · omega
        · exact ⟨g, rfl, hg3.cell (hcc j _ (endsF_at ss k j hj))⟩)
      have HR3 := Lib.hid hrow3
      clear hrow3 hg3 HE HG HEC
      obtain ⟨TN, ZN, htz⟩ : ∃ TN ZN, torn PS c = (TN, ZN) := ⟨_, _, rfl⟩
      rw [htz] at HR3 ⊢
      have HTZ := Lib.hid htz
      clear htz HSC
      go_wp2
      go_loopw [11] (fun i wz => ∃ m : Nat, m ≤ k ∧ i = .int .i64 (m : Nat) ∧ wz = w3 ∧ Hid ((TN, ZN) = (PS.take m ++ (torn (PS.drop m) (c - (framesOf (PS.take m)).size)).1, (framesOf (PS.take m)).size + (torn (PS.drop m) (c - (framesOf (PS.take m)).size)).2)) ∧ Hid ((framesOf (PS.take m)).size ≤ c)) (fun i _ => k - (intOf i).toNat)
      case atStart => exact ⟨0, by omega, rfl, rfl, Lib.hid (by rw [← HTZ.out]; show _ = ([] ++ (torn PS (c - 0)).1, 0 + (torn PS (c - 0)).2); simp), Lib.hid (Nat.zero_le _)⟩
      case round =>
        obtain ⟨m, hm, rfl, rfl, HT, HZ⟩ := hrel
        by_cases hmk : m < k
        · obtain ⟨ge, rfl, he0⟩ := HEC3.out m hmk
          by_cases hle : endF ss m ≤ c
          · have hmp : m < PS.length := by omega
            have hst := torn_step PS m c (framesOf (PS.take m)).size hmp rfl (by
              have h1 := HEN.out m
              rw [List.take_succ_eq_append_getElem hmp, framesOf_snoc, ByteArray.size_append, rframe_size] at h1
              omega) (HTZ.out.trans HT.out)
            have HT2 := Lib.hid (show (TN, ZN) = (PS.take (m + 1) ++ (torn (PS.drop (m + 1)) (c - (framesOf (PS.take (m + 1))).size)).1, (framesOf (PS.take (m + 1))).size + (torn (PS.drop (m + 1)) (c - (framesOf (PS.take (m + 1))).size)).2) by rw [← HTZ.out, hst.1]; exact hst.2)
            have HZ2 := Lib.hid (show (framesOf (PS.take (m + 1))).size ≤ c by rw [← HEN.out m]; exact hle)
            clear hst
            have hle4 : ((endF ss m : Nat) : Int) ≤ (c : Int) := by omega
            generalize endF ss m = em at *
            have hmk4 : (m : Int) < (k : Int) := by omega
            go_wp2
            go_roundw
            case rel => exact ⟨m + 1, by omega, by go_num, trivial, HT2, HZ2⟩
            case measure => simp [intOf]; omega
          · have HL := Lib.hid (show TN = PS.take m ∧ ZN = (framesOf (PS.take m)).size from by
              have hmp : m < PS.length := by omega
              have h2 := torn_end (PS.drop m) (c - (framesOf (PS.take m)).size) (fun p t e => by
                rw [List.drop_eq_getElem_cons hmp] at e
                simp only [List.cons.injEq] at e
                rw [← e.1]
                have h1 := HEN.out m
                rw [List.take_succ_eq_append_getElem hmp, framesOf_snoc, ByteArray.size_append, rframe_size] at h1
                have := HZ.out
                omega)
              have h3 := HT.out
              rw [h2] at h3
              simp only [List.append_nil, Nat.add_zero, Prod.mk.injEq] at h3
              exact h3)
            have hle4 : ¬ ((endF ss m : Nat) : Int) ≤ (c : Int) := by omega
            have hmk4 : (m : Int) < (k : Int) := by omega
            clear HT HZ HTZ
            obtain ⟨hl1, hl2⟩ := HL.out
            subst hl1 hl2
            have hlm : (PS.take m).length = m := by rw [List.length_take]; omega
            rw [hlm] at HR3
            obtain ⟨pa, pc, rfl, hpc⟩ := ownsRow_slice HR3.out
            have HPC := Lib.hid hpc
            clear hpc HR3 HL
            by_cases hm0 : m = 0
            · have hz0 : (framesOf (PS.take m)).size = 0 := by rw [hm0]; rfl
              generalize (framesOf (PS.take m)).size = z at *
              subst hz0 hm0
              go_wp2
              go_loopw [107] (fun i wz => i = .int .i64 0 ∧ wz = wr) (fun _ _ => 0)
              case atStart => exact ⟨rfl, rfl⟩
              case round =>
                obtain ⟨rfl, rfl⟩ := hrel
                go_wp2_with fail
                refine (sum_one ⟨#[49, 50, 51, 52, 53, 54, 55, 56, 57]⟩ _ _ rfl (by decide)).mono ?_
                rintro e w5 ⟨rfl, rfl⟩
                rw [HSUM.out]
                go_wp2
                go_ret
                exact ⟨rfl, HG3.out.alloc _⟩
            · obtain ⟨m', hm1⟩ : ∃ m', m = m' + 1 := ⟨m - 1, by omega⟩
              obtain ⟨ge2, hge2, he2⟩ := HEC3.out m' (by omega)
              have hz : endF ss m' = (framesOf (PS.take m)).size := by rw [HEN.out m', hm1]
              rw [hz] at he2
              first | (simp only [Option.some.injEq, Addr.mk.injEq, and_true] at hge2; subst hge2) | subst hge2
              have HM1 := Lib.hid hm1
              have hw1 : IntKind.i64.wrap ((m : Int) - 1) = (m' : Int) := by rw [IntWalk.i64_in _ (by omega)]; omega
              have hm4 : (m' : Int) < (k : Int) := by omega
              clear hz hm1
              generalize (framesOf (PS.take m)).size = z at *
              go_wp2
              go_loopw [107] (fun i wz => ∃ j : Nat, j ≤ m ∧ i = .int .i64 (j : Nat) ∧ Hid (Gr wr wz)) (fun i _ => m - (intOf i).toNat)
              case atStart => exact ⟨0, by omega, rfl, Lib.hid (Gr.refl _)⟩
              case round =>
                obtain ⟨j, hj, rfl, HGZ⟩ := hrel
                by_cases hjm : j < m
                · rcases HPC.out with ⟨-, h0⟩ | ⟨pg, rfl, -, hpc⟩
                  · exfalso; omega
                  have hjp : j < PS.length := by omega
                  have hjt : j < (PS.take m).length := by omega
                  obtain ⟨q0, q1⟩ := partCells_at (PS.take m) j hjt
                  have p0 := HGZ.out.cell (hpc _ _ q0)
                  have p1 := HGZ.out.cell (hpc _ _ q1)
                  clear hpc q0 q1
                  have hpj : (PS.take m)[j] = PS[j] := List.getElem_take
                  rw [hpj, HPA.out j hjp] at p0 p1
                  have hjs : j < ss.length := by omega
                  rw [show ss.getD j ⟨#[]⟩ = ss[j] by rw [List.getD_eq_getElem?_getD, List.getElem?_eq_getElem hjs]; rfl] at p0 p1
                  obtain ⟨bb, oo, hab, hbb, hc0, hz0s⟩ := HST.out.at j hjs
                  subst hab
                  have k0c := (HG3.out.trans HGZ.out).cell hc0
                  have CU := Lib.hid (fun w => cut_any ss[j] 80 w hz0s (by decide))
                  have hcs := cutB_le ss[j] 80
                  clear hc0 hpj
                  generalize ss[j] = x0 at *
                  generalize cutB x0 80 = t at *
                  simp only at p0 p1
                  obtain ⟨q, hq⟩ : ∃ q, decide (3 < j) = q := ⟨_, rfl⟩
                  have hq2 : decide (3 < (j : Int)) = q := by rw [← hq]; exact decide_eq_decide.2 (by omega)
                  obtain ⟨R0, hR0⟩ : ∃ R0, innerF j t = R0 := ⟨_, rfl⟩
                  rw [hR0] at p1
                  have hR0s : R0.size ≤ 200 := by rw [← hR0]; have := innerF_le j t; omega
                  have hRb : bytesOf R0 = encU j ++ (encS (bytesOf t) ++ encB q) := by rw [← hR0]; unfold innerF; rw [bytesOf_ofL, List.append_assoc, hq]; unfold encN; rw [show (max (j : Int) 0).toNat = j by omega]
                  have HN1 := Lib.hid (nS_back R0 j _ 12 (by omega) (by omega) hRb)
                  have HN2 := Lib.hid (sS_back (ofL (encS (bytesOf t) ++ encB q)) t (encB q) 80 (by omega) (by omega) (bytesOf_ofL _))
                  have HN3 := Lib.hid (bS_back (ofL (encB q)) q [] (by rw [bytesOf_ofL, List.append_nil]))
                  have hR1s : (ofL (encS (bytesOf t) ++ encB q)).size ≤ 200 := by rw [ofL_size]; have h9 := congrArg List.length hRb; rw [bytesOf_length, List.length_append] at h9; omega
                  clear hR0 hRb hq
                  generalize ofL (encS (bytesOf t) ++ encB q) = R1 at *
                  generalize ofL (encB q) = R2 at *
                  have hjm4 : (j : Int) < (m : Int) := by omega
                  have hjs4 : (j : Int) < (ss.length : Int) := by omega
                  go_wp2_with fail
                  have hb0 : (wr.alloc (.cells #[.int .u8 (1 + (j : Int)), .string R0] 62)).cell? ⟨wr.heap.size, 0, none⟩ = some (.int .u8 (1 + (j : Int))) := new_cell rfl rfl
                  have HG5 := Lib.hid ((Gr.refl wr).alloc (.cells #[.int .u8 (1 + (j : Int)), .string R0] 62))
                  have k5c := HG5.out.cell k0c
                  clear p0 p1 k0c
                  generalize wr.alloc (.cells #[.int .u8 (1 + (j : Int)), .string R0] 62) = w5 at *
                  generalize wr.heap.size = nb at *
                  refine (read_any R0 _ (by omega)).mono ?_
                  rintro e w6 ⟨rfl, hrd, hg6⟩
                  have hbp : bb ≠ w5.heap.size := by have := cell_lt k5c; omega
                  have hnp : nb ≠ w5.heap.size := by have := cell_lt hb0; omega
                  have HPL := Lib.hid (HG5.out.size)
                  have k6c := hg6.cell k5c
                  have hb6 := hg6.cell hb0
                  have HG6 := Lib.hid (HG5.out.trans hg6)
                  clear k5c hb0 hg6
                  generalize w5.heap.size = rp at *
                  go_wp2_with fail
                  refine (rN_any rp R0 0 12 (by decide) _ hrd).mono ?_
                  rintro e w7 ⟨rfl, hrd7, ho7⟩
                  rw [HN1.out] at hrd7 ⊢
                  have k7c := ho7.cell hbp k6c
                  have hb7 := ho7.cell hnp hb6
                  have HG7 := Lib.hid (ho7.gr HG6.out HPL.out)
                  clear hrd ho7 k6c hb6
                  go_wp2_with fail
                  refine (rS_any rp R1 0 80 (by decide) (by omega) _ hrd7).mono ?_
                  rintro e w8 ⟨rfl, hrd8, ho8⟩
                  rw [HN2.out] at hrd8 ⊢
                  have k8c := ho8.cell hbp k7c
                  have hb8 := ho8.cell hnp hb7
                  have HG8 := Lib.hid (ho8.gr HG7.out HPL.out)
                  clear hrd7 ho8 k7c hb7
                  go_wp2_with fail
                  refine (rB_any rp R2 0 _ hrd8).mono ?_
                  rintro e w9 ⟨rfl, hrd9, ho9⟩
                  rw [HN3.out] at hrd9 ⊢
                  have k9c := ho9.cell hbp k8c
                  have hb9 := ho9.cell hnp hb8
                  have HG9 := Lib.hid (ho9.gr HG8.out HPL.out)
                  clear hrd8 ho9 k8c hb8
                  have htt : (t.toList == t.toList) = true := by simp
                  go_wp2_with fail
                  refine (CU.out _).mono ?_
                  rintro e w10 ⟨rfl, rfl⟩
                  go_wp2_with fail
                  refine (rDone_any rp _ 0 _ hrd9).mono ?_
                  rintro e w11 ⟨rfl, hrd11, ho11⟩
                  rw [show doneE (ofL []) 0 = 0 from rfl]
                  have hb11 := ho11.cell hnp hb9
                  have HG11 := Lib.hid (HGZ.out.trans (ho11.gr HG9.out HPL.out))
                  clear hrd9 hrd11 ho11 k9c hb9
                  go_wp2
                  go_roundw
                  case rel => exact ⟨j + 1, by omega, by go_num, HG11⟩
                  case measure => simp [intOf]; omega
                · obtain rfl : j = m := by omega
                  go_wp2_with fail
                  refine (sum_one ⟨#[49, 50, 51, 52, 53, 54, 55, 56, 57]⟩ _ _ rfl (by decide)).mono ?_
                  rintro e w5 ⟨rfl, rfl⟩
                  rw [HSUM.out]
                  go_wp2
                  go_ret
                  exact ⟨rfl, (HG3.out.trans HGZ.out).alloc _⟩
        · obtain rfl : m = k := by omega
          have HL := Lib.hid (show TN = PS.take m ∧ ZN = (framesOf (PS.take m)).size from by
            have h3 := HT.out
            rw [List.drop_of_length_le (by omega)] at h3
            simp only [torn, List.append_nil, Nat.add_zero, Prod.mk.injEq] at h3
            exact h3)
          clear HT HZ HTZ
          obtain ⟨hl1, hl2⟩ := HL.out
          subst hl1 hl2
          have hlm : (PS.take m).length = m := by rw [List.length_take]; omega
          rw [hlm] at HR3
          obtain ⟨pa, pc, rfl, hpc⟩ := ownsRow_slice HR3.out
          have HPC := Lib.hid hpc
          clear hpc HR3 HL
          by_cases hm0 : m = 0
          · have hz0 : (framesOf (PS.take m)).size = 0 := by rw [hm0]; rfl
            generalize (framesOf (PS.take m)).size = z at *
            subst hz0 hm0
            go_wp2
            go_loopw [107] (fun i wz => i = .int .i64 0 ∧ wz = wr) (fun _ _ => 0)
            case atStart => exact ⟨rfl, rfl⟩
            case round =>
              obtain ⟨rfl, rfl⟩ := hrel
              go_wp2_with fail
              refine (sum_one ⟨#[49, 50, 51, 52, 53, 54, 55, 56, 57]⟩ _ _ rfl (by decide)).mono ?_
              rintro e w5 ⟨rfl, rfl⟩
              rw [HSUM.out]
              go_wp2
              go_ret
              exact ⟨rfl, HG3.out.alloc _⟩
          · obtain ⟨m', hm1⟩ : ∃ m', m = m' + 1 := ⟨m - 1, by omega⟩
            obtain ⟨ge2, hge2, he2⟩ := HEC3.out m' (by omega)
            have hz : endF ss m' = (framesOf (PS.take m)).size := by rw [HEN.out m', hm1]
            rw [hz] at he2
            first | (simp only [Option.some.injEq, Addr.mk.injEq, and_true] at hge2; subst hge2) | subst hge2
            have HM1 := Lib.hid hm1
            have hw1 : IntKind.i64.wrap ((m : Int) - 1) = (m' : Int) := by rw [IntWalk.i64_in _ (by omega)]; omega
            have hm4 : (m' : Int) < (m : Int) := by omega
            clear hz hm1
            generalize (framesOf (PS.take m)).size = z at *
            go_wp2
            go_loopw [107] (fun i wz => ∃ j : Nat, j ≤ m ∧ i = .int .i64 (j : Nat) ∧ Hid (Gr wr wz)) (fun i _ => m - (intOf i).toNat)
            case atStart => exact ⟨0, by omega, rfl, Lib.hid (Gr.refl _)⟩
            case round =>
              obtain ⟨j, hj, rfl, HGZ⟩ := hrel
              by_cases hjm : j < m
              · rcases HPC.out with ⟨-, h0⟩ | ⟨pg, rfl, -, hpc⟩
                · exfalso; omega
                have hjp : j < PS.length := by omega
                have hjt : j < (PS.take m).length := by omega
                obtain ⟨q0, q1⟩ := partCells_at (PS.take m) j hjt
                have p0 := HGZ.out.cell (hpc _ _ q0)
                have p1 := HGZ.out.cell (hpc _ _ q1)
                clear hpc q0 q1
                have hpj : (PS.take m)[j] = PS[j] := List.getElem_take
                rw [hpj, HPA.out j hjp] at p0 p1
                have hjs : j < ss.length := by omega
                rw [show ss.getD j ⟨#[]⟩ = ss[j] by rw [List.getD_eq_getElem?_getD, List.getElem?_eq_getElem hjs]; rfl] at p0 p1
                obtain ⟨bb, oo, hab, hbb, hc0, hz0s⟩ := HST.out.at j hjs
                subst hab
                have k0c := (HG3.out.trans HGZ.out).cell hc0
                have CU := Lib.hid (fun w => cut_any ss[j] 80 w hz0s (by decide))
                have hcs := cutB_le ss[j] 80
                clear hc0 hpj
                generalize ss[j] = x0 at *
                generalize cutB x0 80 = t at *
                simp only at p0 p1
                obtain ⟨q, hq⟩ : ∃ q, decide (3 < j) = q := ⟨_, rfl⟩
                have hq2 : decide (3 < (j : Int)) = q := by rw [← hq]; exact decide_eq_decide.2 (by omega)
                obtain ⟨R0, hR0⟩ : ∃ R0, innerF j t = R0 := ⟨_, rfl⟩
                rw [hR0] at p1
                have hR0s : R0.size ≤ 200 := by rw [← hR0]; have := innerF_le j t; omega
                have hRb : bytesOf R0 = encU j ++ (encS (bytesOf t) ++ encB q) := by rw [← hR0]; unfold innerF; rw [bytesOf_ofL, List.append_assoc, hq]; unfold encN; rw [show (max (j : Int) 0).toNat = j by omega]
                have HN1 := Lib.hid (nS_back R0 j _ 12 (by omega) (by omega) hRb)
                have HN2 := Lib.hid (sS_back (ofL (encS (bytesOf t) ++ encB q)) t (encB q) 80 (by omega) (by omega) (bytesOf_ofL _))
                have HN3 := Lib.hid (bS_back (ofL (encB q)) q [] (by rw [bytesOf_ofL, List.append_nil]))
                have hR1s : (ofL (encS (bytesOf t) ++ encB q)).size ≤ 200 := by rw [ofL_size]; have h9 := congrArg List.length hRb; rw [bytesOf_length, List.length_append] at h9; omega
                clear hR0 hRb hq
                generalize ofL (encS (bytesOf t) ++ encB q) = R1 at *
                generalize ofL (encB q) = R2 at *
                have hjm4 : (j : Int) < (m : Int) := by omega
                have hjs4 : (j : Int) < (ss.length : Int) := by omega
                go_wp2_with fail
                have hb0 : (wr.alloc (.cells #[.int .u8 (1 + (j : Int)), .string R0] 62)).cell? ⟨wr.heap.size, 0, none⟩ = some (.int .u8 (1 + (j : Int))) := new_cell rfl rfl
                have HG5 := Lib.hid ((Gr.refl wr).alloc (.cells #[.int .u8 (1 + (j : Int)), .string R0] 62))
                have k5c := HG5.out.cell k0c
                clear p0 p1 k0c
                generalize wr.alloc (.cells #[.int .u8 (1 + (j : Int)), .string R0] 62) = w5 at *
                generalize wr.heap.size = nb at *
                refine (read_any R0 _ (by omega)).mono ?_
                rintro e w6 ⟨rfl, hrd, hg6⟩
                have hbp : bb ≠ w5.heap.size := by have := cell_lt k5c; omega
                have hnp : nb ≠ w5.heap.size := by have := cell_lt hb0; omega
                have HPL := Lib.hid (HG5.out.size)
                have k6c := hg6.cell k5c
                have hb6 := hg6.cell hb0
                have HG6 := Lib.hid (HG5.out.trans hg6)
                clear k5c hb0 hg6
                generalize w5.heap.size = rp at *
                go_wp2_with fail
                refine (rN_any rp R0 0 12 (by decide) _ hrd).mono ?_
                rintro e w7 ⟨rfl, hrd7, ho7⟩
                rw [HN1.out] at hrd7 ⊢
                have k7c := ho7.cell hbp k6c
                have hb7 := ho7.cell hnp hb6
                have HG7 := Lib.hid (ho7.gr HG6.out HPL.out)
                clear hrd ho7 k6c hb6
                go_wp2_with fail
                refine (rS_any rp R1 0 80 (by decide) (by omega) _ hrd7).mono ?_
                rintro e w8 ⟨rfl, hrd8, ho8⟩
                rw [HN2.out] at hrd8 ⊢
                have k8c := ho8.cell hbp k7c
                have hb8 := ho8.cell hnp hb7
                have HG8 := Lib.hid (ho8.gr HG7.out HPL.out)
                clear hrd7 ho8 k7c hb7
                go_wp2_with fail
                refine (rB_any rp R2 0 _ hrd8).mono ?_
                rintro e w9 ⟨rfl, hrd9, ho9⟩
                rw [HN3.out] at hrd9 ⊢
                have k9c := ho9.cell hbp k8c
                have hb9 := ho9.cell hnp hb8
                have HG9 := Lib.hid (ho9.gr HG8.out HPL.out)
                clear hrd8 ho9 k8c hb8
                have htt : (t.toList == t.toList) = true := by simp
                go_wp2_with fail
                refine (CU.out _).mono ?_
                rintro e w10 ⟨rfl, rfl⟩
                go_wp2_with fail
                refine (rDone_any rp _ 0 _ hrd9).mono ?_
                rintro e w11 ⟨rfl, hrd11, ho11⟩
                rw [show doneE (ofL []) 0 = 0 from rfl]
                have hb11 := ho11.cell hnp hb9
                have HG11 := Lib.hid (HGZ.out.trans (ho11.gr HG9.out HPL.out))
                clear hrd9 hrd11 ho11 k9c hb9
                go_wp2
                go_roundw
                case rel => exact ⟨j + 1, by omega, by go_num, HG11⟩
                case measure => simp [intOf]; omega
              · obtain rfl : j = m := by omega
                go_wp2_with fail
                refine (sum_one ⟨#[49, 50, 51, 52, 53, 54, 55, 56, 57]⟩ _ _ rfl (by decide)).mono ?_
                rintro e w5 ⟨rfl, rfl⟩
                rw [HSUM.out]
                go_wp2
                go_ret
                exact ⟨rfl, (HG3.out.trans HGZ.out).alloc _⟩
end Go.Proofs.Ytjllnojhhlkpoaa
