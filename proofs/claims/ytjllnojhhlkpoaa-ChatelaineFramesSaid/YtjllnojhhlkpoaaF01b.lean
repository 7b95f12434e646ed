import Derived.Test.YtjllnojhhlkpoaaF01
import Derived.WalkKit
import Derived.ProofKit
import Derived.LoopTactic
import Derived.Outline
import Derived.WalkSpells
import Derived.WalkLawsBesides
import Derived.Lib.Hide
import Derived.Deep.LoopGhost
import Derived.Deep.QuietTactic
import Derived.BigQuiet
import Derived.ShutString
import Derived.Deep.AppendLies
import Derived.Lib.AppendStr
namespace Go.Proofs.Ytjllnojhhlkpoaa
open Go.ChangeShapes Go.WideShapes Go.ChangeAt Go.RowKit
open Enc
set_option linter.unusedVariables false
def encNs (vs : List Int) : List UInt8 := vs.flatMap encN
theorem encNs_le (vs : List Int) : (encNs vs).length ≤ vs.length * 9 := by
  induction vs with
  | nil => simp [encNs]
  | cons v t ih => have := encU_le (max v 0).toNat; simp only [encNs, encN, List.flatMap_cons, List.length_append, List.length_cons] at *; omega
theorem encNs_snoc (vs : List Int) (k : Nat) (h : k < vs.length) : encNs (vs.take (k + 1)) = encNs (vs.take k) ++ encN vs[k] := by
  unfold encNs; rw [List.take_succ_eq_append_getElem h, List.flatMap_append, List.flatMap_cons, List.flatMap_nil, List.append_nil]
set_option maxRecDepth 100000 in
set_option maxHeartbeats 1000000 in
theorem wN_any (p b off : Nat) (vs : List Int) (l : List UInt8) (w : World) (h : WrIs w p l) (hb : b ≠ p) (hfr : Free w p b) (hc : NumRow w .i64 b off vs) (hl : l.length ≤ 1000000) (hv : vs.length ≤ 1000) (hbd : ∀ v ∈ vs, v ≤ 9223372036854775807) :
    Calls Try.prog 23 #[.pointer (some ⟨p, 0, none⟩), .slice (some ⟨b, off, none⟩) vs.length vs.length] w fun e w' => e = .returned (.pointer (some ⟨p, 0, none⟩)) ∧ WrIs w' p (l ++ encNs vs) ∧ Below p w w' ∧ Keeps p w w' := by
  have H := Lib.hid h
  have Hc := Lib.hid hc
  have HF := Lib.hid hfr
  have HBd := Lib.hid hbd
  clear h hc hfr hbd
  go_enter Try.func23, Try.ntmps23
  go_wp2
  go_loopw [9] (fun i wr => ∃ k : Nat, k ≤ vs.length ∧ i = .int .i64 (k : Nat) ∧ Hid (WrIs wr p (l ++ encNs (vs.take k))) ∧ Below p w wr ∧ Hid (Keeps p w wr)) (fun i _ => vs.length - (intOf i).toNat)
  case atStart => exact ⟨0, by omega, rfl, (by show WrIs _ _ _; simpa [encNs] using H.out), Below.refl _ _, Keeps.refl _ _⟩
  case round =>
    obtain ⟨k, hk, rfl, hW, hB, hK⟩ := hrel
    by_cases hlt : k < vs.length
    · have hcell := (Hc.out.keeps hK.out hb HF.out) k hlt
      have hsn := Lib.hid (encNs_snoc vs k hlt)
      have hle : (l ++ encNs (vs.take k)).length ≤ 1000000000 := by have := encNs_le (vs.take k); simp only [List.length_append, List.length_take] at *; omega
      have hbk := HBd.out vs[k] (List.getElem_mem hlt)
      generalize vs[k] = v at *
      generalize hLL : l ++ encNs (vs.take k) = L at *
      have HL := Lib.hid hLL; clear hLL
      obtain ⟨x, hx⟩ : ∃ x : Nat, (max v 0).toNat = x := ⟨_, rfl⟩
      have HX := Lib.hid hx
      rcases Int.lt_or_le v 0 with hneg | hpos
      · obtain rfl : x = 0 := by omega
        clear hx
        go_wp2_with fail
        refine (number_any p 0 L _ hW.out hle).mono ?_
        rintro e w1 ⟨rfl, hW1, hB1, hK1⟩
        have hB2 := hB.trans hB1
        have hK2 := Lib.hid (hK.out.trans hK1)
        have HW1 := Lib.hid hW1
        clear hW1 hB1 hK1
        go_wp2
        go_roundw
        case rel => exact ⟨k + 1, by omega, by go_num, by show WrIs w1 p _; rw [hsn.out, ← List.append_assoc, HL.out, encN, HX.out]; exact HW1.out, hB2, hK2⟩
        case measure => simp [intOf]; omega
      · obtain rfl : v = (x : Int) := by omega
        clear hx
        go_wp2_with fail
        refine (number_any p x L _ hW.out hle).mono ?_
        rintro e w1 ⟨rfl, hW1, hB1, hK1⟩
        have hB2 := hB.trans hB1
        have hK2 := Lib.hid (hK.out.trans hK1)
        have HW1 := Lib.hid hW1
        clear hW1 hB1 hK1
        go_wp2
        go_roundw
        case rel => exact ⟨k + 1, by omega, by go_num, by show WrIs w1 p _; rw [hsn.out, ← List.append_assoc, HL.out, encN, HX.out]; exact HW1.out, hB2, hK2⟩
        case measure => simp [intOf]; omega
    · obtain rfl : k = vs.length := by omega
      go_wp2
      go_ret
      exact ⟨rfl, by have := hW.out; rwa [List.take_length] at this, hB, hK.out⟩
theorem ownsRow_text {w : World} {base cap : Nat} {a : Option Addr} {l : List UInt8} (hown : w.ownsRow base 5 1 (.slice a l.length cap) l.length (bCells l)) :
    (convert 48 9 (.slice a l.length cap)).run Try.prog w = .ok (.string ⟨l.toArray⟩) w := by
  obtain ⟨a', cap', he, hc⟩ := ownsRow_slice hown
  simp only [Value.slice.injEq, true_and] at he
  obtain ⟨rfl, rfl⟩ := he
  rcases hc with ⟨rfl, h0⟩ | ⟨g, rfl, hg, hc⟩
  · have hl : l = [] := List.length_eq_zero_iff.1 h0
    subst hl
    show (convert 48 9 (.slice none 0 cap)).run Try.prog w = _
    rw [run_convert_bytes_string w _ _ _ none 0 cap Try.underlying48 Try.underlying5 Try.underlying9]
    rfl
  · refine run_convert_bytes_back (P := Try.prog) w _ _ 5 ⟨g, 0, none⟩ cap l Try.underlying48 Try.underlying5 Try.underlying9 (fun j hj => ?_)
    have hadd : (⟨g, 0, none⟩ : Addr).add j = ⟨g, j, none⟩ := by unfold Addr.add; split <;> simp_all
    rw [hadd]
    exact hc j _ (by simp [bCells, hj])
set_option maxRecDepth 100000 in
/-- Text of a Writer. -/
theorem wText_any (p : Nat) (l : List UInt8) (w : World) (h : WrIs w p l) :
    Calls Try.prog 27 #[.pointer (some ⟨p, 0, none⟩)] w fun e w' => e = .returned (.string ⟨l.toArray⟩) ∧ w = w' := by
  obtain ⟨a, cap, hc, hf, hp, hown⟩ := h
  have hr := ownsRow_text hown
  clear hown hf hp
  go_enter Try.func27, Try.ntmps27
  go_wp2
  go_ret
  exact ⟨rfl, rfl⟩
set_option maxRecDepth 100000 in
set_option maxHeartbeats 1000000 in
theorem wB_one (p b off : Nat) (x : Bool) (l : List UInt8) (w : World) (h : WrIs w p l) (hc : w.cell? ⟨b, off, none⟩ = some (.bool x)) (hl : l.length ≤ 1000000000) :
    Calls Try.prog 26 #[.pointer (some ⟨p, 0, none⟩), .slice (some ⟨b, off, none⟩) 1 1] w fun e w' => e = .returned (.pointer (some ⟨p, 0, none⟩)) ∧ WrIs w' p (l ++ encB x) ∧ Below p w w' ∧ Keeps p w w' := by
  obtain ⟨i0, hi, hz0, hz1, hz2⟩ := info_parts info_u8
  have H := Lib.hid h
  clear h
  go_enter Try.func26, Try.ntmps26
  go_wp2
  go_loopw [10] (fun i wr => (i = .int .i64 0 ∧ wr = w) ∨ (i = .int .i64 1 ∧ Hid (WrIs wr p (l ++ encB x)) ∧ Below p w wr ∧ Hid (Keeps p w wr))) (fun i _ => 1 - (intOf i).toNat)
  case atStart => exact .inl ⟨rfl, rfl⟩
  case round =>
    rcases hrel with ⟨rfl, rfl⟩ | ⟨rfl, hW, hB, hK⟩
    · obtain ⟨a0, c0, hcp, hf, hp, hown⟩ := H.out
      have Hcp := Lib.hid hcp
      cases x
      all_goals
        go_wp2_with (at_builtin; refine wpList_append_lies _ rfl (.tmp 19) (.tmp 21) 48 rfl (p + 1) 5 i0 (.int .u8 0) 1 1 Try.underlying48 hi hz0 hz1 hz2 rfl (by decide) _ _ _ rfl (hown.alloc _) ⟨wr.heap.size, 0, none⟩ 1 1 [.int .u8 _] rfl rfl (cells_one _ _ _) (by simp [Value.oneCell']) Nat.one_pos (by unfold maxLen; omega) (by omega) (by simp; omega) _ rfl ?_)
        intro g1 cap1 w1 hown1 hgrow hat1 _
        obtain ⟨hc1, hf1, hp1, hB1⟩ := wr_grow hp Hcp.out hf hown ((Gr.refl _).alloc _) hgrow
        have hK := wr_keeps (n := l.length + 1) (cap := cap1) Hcp.out ((Gr.refl _).alloc _) hgrow (hat1.imp id (fun h => by first | omega | (simp at h; omega))) hc1
        first | rw [show bCells l ++ [Value.int .u8 0] = bCells (l ++ encB false) by simp [bCells, encB]] at hown1 | rw [show bCells l ++ [Value.int .u8 1] = bCells (l ++ encB true) by simp [bCells, encB]] at hown1
        obtain ⟨hW2, hB2⟩ := wr_store hp1 hc1 hf1 (by simp [encB]) hown1
        have hB3 := hB1.trans hB2
        have HW2 := Lib.hid hW2
        have HK := Lib.hid hK
        clear hgrow hown hown1 hat1 hf hcp hB1 hB2 hK hW2
        go_wp2
        go_roundw
        case rel => exact .inr ⟨rfl, HW2.out, hB3, HK⟩
        case measure => simp [intOf]
    · go_wp2
      go_ret
      exact ⟨rfl, hW, hB, hK.out⟩
set_option maxRecDepth 100000 in
set_option maxHeartbeats 1000000 in
theorem wS_one (p b off : Nat) (s : ByteArray) (l : List UInt8) (w : World) (h : WrIs w p l) (hc : w.cell? ⟨b, off, none⟩ = some (.string s)) (hl : l.length ≤ 100000000) (hs : s.size ≤ 100000000) :
    Calls Try.prog 24 #[.pointer (some ⟨p, 0, none⟩), .slice (some ⟨b, off, none⟩) 1 1] w fun e w' => e = .returned (.pointer (some ⟨p, 0, none⟩)) ∧ WrIs w' p (l ++ encS (bytesOf s)) ∧ Below p w w' := by
  obtain ⟨i0, hi, hz0, hz1, hz2⟩ := info_parts info_u8
  have H := Lib.hid h
  clear h
  go_enter Try.func24, Try.ntmps24
  go_wp2
  go_loopw [9] (fun i wr => (i = .int .i64 0 ∧ wr = w) ∨ (i = .int .i64 1 ∧ Hid (WrIs wr p (l ++ encS (bytesOf s))) ∧ Below p w wr)) (fun i _ => 1 - (intOf i).toNat)
  case atStart => exact .inl ⟨rfl, rfl⟩
  case round =>
    rcases hrel with ⟨rfl, rfl⟩ | ⟨rfl, hW, hB⟩
    · go_wp2_with fail
      refine (number_any p s.size l _ H.out (by omega)).mono ?_
      rintro e w1 ⟨rfl, hW1, hB1, _⟩
      have hle := encU_le s.size
      have hL : (l ++ encU s.size).length ≤ 100000009 := by rw [List.length_append]; omega
      have HE := Lib.hid (show encS (bytesOf s) = encU s.size ++ bytesOf s by unfold encS; rw [show (bytesOf s).length = s.size by simp [bytesOf]])
      generalize hLL : l ++ encU s.size = L at *
      have HL := Lib.hid hLL; clear hLL hle
      obtain ⟨a0, c0, hcp, hf, hp, hown⟩ := hW1
      have Hcp := Lib.hid hcp
      go_wp2_with (refine Lib.wpList_append_own_string _ rfl (.tmp 22) (.tmp 23) 48 9 rfl (p + 1) 5 i0 Try.underlying48 Try.underlying9 hi hz0 hz1 hz2 _ _ _ rfl hown s rfl (by unfold maxLen; omega) (by omega) (by omega) ?_)
      intro v' w2 hown2 hgrow _
      obtain ⟨a2, c2, rfl, _⟩ := ownsRow_slice hown2
      obtain ⟨hc1, hf1, hp1, hB2⟩ := wr_grow hp Hcp.out hf hown (Gr.refl _) hgrow
      have hst : bCells L ++ Lib.strCells s = bCells (L ++ bytesOf s) := by simp [bCells, Lib.strCells, bytesOf]
      rw [hst] at hown2
      obtain ⟨hW2, hB3⟩ := wr_store hp1 hc1 hf1 (by simp [bytesOf]) hown2
      have hB4 := (hB1.trans hB2).trans hB3
      have HW2 := Lib.hid hW2
      clear hgrow hown hown2 hf hcp hB1 hB2 hB3 hW2 hst
      go_wp2
      go_roundw
      case rel => exact .inr ⟨rfl, by show WrIs _ p _; rw [HE.out, ← List.append_assoc, HL.out]; exact HW2.out, hB4⟩
      case measure => simp [intOf]
    · go_wp2
      go_ret
      exact ⟨rfl, hW, hB⟩
end Go.Proofs.Ytjllnojhhlkpoaa
