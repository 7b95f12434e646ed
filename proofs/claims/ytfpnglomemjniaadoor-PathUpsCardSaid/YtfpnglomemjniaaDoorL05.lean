import Derived.Test.YtfpnglomemjniaaDoorF05g
import Derived.Test.YtfpnglomemjniaaDoorF05h
import Derived.Test.YtfpnglomemjniaaDoorF05j
import Derived.Test.YtfpnglomemjniaaDoorF05k
import Derived.Test.YtfpnglomemjniaaDoorF05l
import Derived.WalkKit
import Derived.ProofKit
import Derived.LoopTactic
import Derived.Outline
import Derived.WalkSpells
import Derived.WalkLawsBesides
import Derived.Lib.Hide
import Derived.Deep.LoopGhost
import Derived.Deep.QuietTactic
import Derived.BigQuiet
import Derived.ShutString
import Derived.Deep.RegionHeld3
namespace Go.Proofs.YtfpnglomemjniaaDoor
open Go.ChangeShapes Go.WideShapes Go.ChangeAt Go.RowKit
set_option linter.unusedVariables false
set_option linter.unusedSimpArgs false
theorem take_ok {l : List ByteArray} (h : okParts l = true) (k : Nat) : okParts (l.take k) = true := by
  simp only [okParts, Bool.and_eq_true, decide_eq_true_eq, List.all_eq_true] at h ⊢
  exact ⟨by rw [List.length_take]; omega, fun s hs => h.2 s (List.mem_of_mem_take hs)⟩
theorem take_last {l : List ByteArray} {k : Nat} (h : k < l.length) : (l.take (k + 1)).dropLast = l.take k := by
  rw [List.take_succ_eq_append_getElem h, List.dropLast_concat]
theorem over_take (l : List ByteArray) (k : Nat) : overP (l.take k) (l.take (k + 1)) = true := by
  unfold overP
  rw [decide_eq_true_eq]
  exact List.take_prefix_take_left (Nat.le_succ k)
theorem over_take' {l : List ByteArray} {k : Nat} (h : k < l.length) : overP (l.take (k + 1)) (l.take k) = false := over_long (by rw [List.length_take, List.length_take]; omega)
theorem cmp_take {l : List ByteArray} {k : Nat} (h : k < l.length) : cmpP (l.take k) (l.take (k + 1)) = -1 := by
  rw [List.take_succ_eq_append_getElem h]; exact cmpP_snoc _ _
set_option maxRecDepth 100000 in
set_option maxHeartbeats 4000000 in
theorem pathUps_walk (ss : List ByteArray) (a : Option Addr) (c : Nat) (w : World) (h : Strs w a ss) (he : ET w) (hm : ML w) :
    Calls Tryd.prog 7 #[.slice a ss.length c] w fun e w' => e = .returned (.bool true) ∧ Gr w w' := by
  have HS := Lib.hid h
  have HE := Lib.hid he
  have HM := Lib.hid hm
  clear h he hm
  go_enter Tryd.func7, Tryd.ntmps7
  go_wp2_with fail
  refine (awake_any _ HE.out HM.out).mono ?_
  rintro e w1 ⟨rfl, hg1⟩
  have HG1 := Lib.hid hg1
  clear hg1
  go_wp2_with fail
  refine (lawMade_any a ss c _ (HS.out.gr HG1.out) (HE.out.gr HG1.out)).mono ?_
  rintro e w2 ⟨ao, co, rfl, hst, hg2⟩
  have hok := madeL_ok ss
  generalize madeL ss = L at *
  have HK := Lib.hid hok
  have l6 : L.length ≤ 6 := by simp only [okParts, Bool.and_eq_true, decide_eq_true_eq] at hok; exact hok.1
  obtain ⟨t0, ht0⟩ : ∃ t0, ptext L = t0 := ⟨_, rfl⟩
  rw [ht0]
  have HG3 := Lib.hid ((HG1.out.trans hg2).alloc (.cells #[.string t0] 24))
  have hsz3 := (HG1.out.trans hg2).size
  clear hst hg2 hok
  go_wp2
  have hc0 : (w2.alloc (.cells #[.string t0] 24)).cell? ⟨w2.heap.size, 0, none⟩ = some (.string t0) := new_cell rfl rfl
  have hf0 : (w2.alloc (.cells #[.string t0] 24)).frozen? ⟨w2.heap.size, 0, none⟩ = false := new_free rfl
  generalize hp : w2.heap.size = pb at *
  generalize (w2.alloc (.cells #[.string t0] 24)) = w3 at *
  go_loopw [5] (fun i wr => ∃ (k : Nat) (t : ByteArray), k ≤ L.length ∧ i = .int .i64 k ∧ Hid (t = ptext (L.take k)) ∧ Hid (Gr w wr) ∧ wr.cell? ⟨pb, 0, none⟩ = some (.string t) ∧ wr.frozen? ⟨pb, 0, none⟩ = false) (fun i _ => (intOf i).toNat)
  case atStart => exact ⟨L.length, t0, Nat.le_refl _, rfl, Lib.hid (by rw [List.take_length]; exact ht0.symm), HG3, hc0, hf0⟩
  case round =>
    obtain ⟨k, t, hk, rfl, ht, hG, c0, f0⟩ := hrel
    have hlt := cell_lt c0
    rcases k with _ | k
    · have ht2 := Lib.hid (show t = ⟨#[]⟩ from ht.out)
      clear ht hc0 hf0
      go_wp2
      rw [ht2.out] at c0
      have U0 := Lib.hid (fun w => (show Calls Tryd.prog 22 #[.agg #[.string ⟨#[]⟩]] w fun e w' => e = .returned (.agg #[.string ⟨#[]⟩]) ∧ Gr w w' from up_any [] w rfl))
      have T0 := Lib.hid (fun w => (show Calls Tryd.prog 17 #[.agg #[.string ⟨#[]⟩]] w fun e w' => e = .returned (.string ⟨#[47]⟩) ∧ Gr w w' from text_any [] w))
      have hg := hG.out
      go_region_held3 (fun w' => Gr w w' ∧ w'.cell? ⟨pb, 0, none⟩ = some (.string ⟨#[]⟩)) (first | exact ⟨hg, c0⟩ | exact ⟨hg.drew, c0⟩ | (go_split_ands; refine ⟨?_, ?_⟩ <;> assumption) | (go_split_ands; refine ⟨Gr.drew ?_, ?_⟩ <;> assumption) | (go_split_ands; refine ⟨Gr.trans ?_ hgN, hgN.cell ?_⟩ <;> assumption)) (first
        | (go_at_call 22; refine (U0.out _).mono ?_; rintro e w9 ⟨rfl, hgN⟩)
        | (go_at_call 17; refine (T0.out _).mono ?_; rintro e w9 ⟨rfl, hgN⟩))
      go_split_ands
      go_wp2
      go_ret
      exact ⟨by first | rfl | simp, by assumption⟩
    · have hk' : k < L.length := by omega
      have U := Lib.hid (fun w => up_any (L.take (k + 1)) w (take_ok HK.out _))
      have D := Lib.hid (fun w => depth_any (L.take k) w (take_ok HK.out _))
      have O1 := Lib.hid (fun w => over_any (L.take k) (L.take (k + 1)) w (take_ok HK.out _) (take_ok HK.out _))
      have O2 := Lib.hid (fun w => over_any (L.take (k + 1)) (L.take k) w (take_ok HK.out _) (take_ok HK.out _))
      have C := Lib.hid (fun w h => compare_any (L.take k) (L.take (k + 1)) w (take_ok HK.out _) (take_ok HK.out _) h)
      have eu : ∃ u, u = ptext (L.take k) := ⟨_, rfl⟩
      obtain ⟨u, hu⟩ := eu
      have HU := Lib.hid hu
      rw [take_last hk', ← ht.out, ← hu] at U
      rw [← hu, List.length_take, Nat.min_eq_left (Nat.le_of_lt hk')] at D
      rw [← hu, ← ht.out, over_take] at O1
      rw [← hu, ← ht.out, over_take' hk'] at O2
      rw [← hu, ← ht.out, cmp_take hk'] at C
      clear hu ht hc0 hf0
      go_wp2_with fail
      refine (U.out _).mono ?_
      rintro e w4 ⟨rfl, hg4⟩
      have c1 := ((hg4.alloc (.cells #[.string u] 24))).cell c0
      have c2 : (w4.alloc (.cells #[.string u] 24)).cell? ⟨w4.heap.size, 0, none⟩ = some (.string u) := new_cell rfl rfl
      have f1 := ((hg4.alloc (.cells #[.string u] 24)).frozen (o := 0) hlt).trans f0
      have HG4 := Lib.hid (hG.out.trans (hg4.alloc (.cells #[.string u] 24)))
      clear hg4 c0 f0
      go_wp2_with fail
      refine (D.out _).mono ?_
      rintro e w5 ⟨rfl, hg5⟩
      have c3 := hg5.cell c1
      have c4 := hg5.cell c2
      have f3 := (hg5.frozen (o := 0) (cell_lt c1)).trans f1
      have HG5 := Lib.hid (HG4.out.trans hg5)
      clear hg5 c1 c2 f1
      go_wp2_with fail
      refine (O1.out _).mono ?_
      rintro e w6 ⟨rfl, hg6⟩
      have c5 := hg6.cell c3
      have c6 := hg6.cell c4
      have f5 := (hg6.frozen (o := 0) (cell_lt c3)).trans f3
      have HG6 := Lib.hid (HG5.out.trans hg6)
      clear hg6 c3 c4 f3
      go_wp2_with fail
      refine (O2.out _).mono ?_
      rintro e w7 ⟨rfl, hg7⟩
      have c7 := hg7.cell c5
      have c8 := hg7.cell c6
      have f7 := (hg7.frozen (o := 0) (cell_lt c5)).trans f5
      have HG7 := Lib.hid (HG6.out.trans hg7)
      clear hg7 c5 c6 f5
      go_wp2_with fail
      refine (C.out _ (HM.out.gr HG7.out)).mono ?_
      rintro e w8 ⟨rfl, hg8⟩
      have c9 := hg8.cell c7
      have c10 := hg8.cell c8
      have f9 := (hg8.frozen (o := 0) (cell_lt c7)).trans f7
      have HG8 := Lib.hid (HG7.out.trans hg8)
      clear hg8 c7 c8 f7
      go_wp2
      go_roundw
      case rel => exact ⟨k, u, by omega, by go_num, HU, Lib.hid (HG8.out.setCell hsz3 _), World.cell?_setCell_same' _ _ _ (by rw [c9]; rfl), by rw [World.frozen?_setCell]; exact f9⟩
      case measure => simp [intOf]
end Go.Proofs.YtfpnglomemjniaaDoor
