import Derived.Test.YtabeapfnfcmgaaaF02i
import Derived.Test.YtabeapfnfcmgaaaC02
import Derived.Test.YtabeapfnfcmgaaaL02c
import Derived.WalkKit
import Derived.ProofKit
import Derived.LoopTactic
import Derived.Outline
import Derived.WalkSpells
import Derived.WalkLawsBesides
import Derived.Lib.Hide
import Derived.Deep.LoopGhost
import Derived.Deep.QuietTactic
import Derived.BigQuiet
import Derived.ShutString
import Derived.Deep.RegionWith
import Derived.Deep.RegionHeld3
namespace Go.Proofs.Ytabeapfnfcmgaaa
open Go.ChangeShapes Go.WideShapes Go.ChangeAt Go.RowKit
open Crc
set_option linter.unusedVariables false
/-- The parts of the texts: kinds by their numbers. -/
def partsOf (ss : List ByteArray) : List (Nat × ByteArray) := (ss.take 10).mapIdx fun i s => (1 + i, cutB s 60)
def frameL (l : List (Nat × ByteArray)) : List ByteArray := l.map fun p => rframe p.1 p.2
theorem partsOf_len (ss : List ByteArray) : (partsOf ss).length = min 10 ss.length := by simp [partsOf]
theorem partsOf_at (ss : List ByteArray) (i : Nat) (h : i < (partsOf ss).length) : ∃ h' : i < ss.length, (partsOf ss)[i] = (1 + i, cutB ss[i] 60) := by
  have h2 := h
  rw [partsOf_len] at h2
  exact ⟨by omega, by simp [partsOf]⟩
theorem valid_parts (ss : List ByteArray) : Valid (partsOf ss) := by
  intro p hp
  obtain ⟨i, hi, rfl⟩ := List.getElem_of_mem hp
  obtain ⟨h', e⟩ := partsOf_at ss i hi
  have := cutB_le ss[i] 60
  rw [partsOf_len] at hi
  rw [e]
  simp only
  omega
theorem info_str : (Try.prog.info? 9).map (fun i => (i.zero, i.size, i.bytes)) = some (some (.string ⟨#[]⟩), 1, 16) := by kernel_rfl
theorem cells_one (w : World) (x : Value) (t : TypeId) : ∀ (j : Nat) (u : Value), [x][j]? = some u → (w.alloc (.cells #[x] t)).cell? ((⟨w.heap.size, 0, none⟩ : Addr).add j) = some u := by
  intro j u hj
  match j, hj with
  | 0, hj => simp at hj; subst hj; exact new_cell rfl rfl
theorem frame_r (k : Nat) (s : ByteArray) (w : World) (hk : k < 256) (hk1 : 1 ≤ k) (hs : s.size ≤ 1048576) :
    Calls Try.prog 36 #[.int .u8 k, .string s] w fun e w' => e = .returned (.string (rframe k s)) ∧ Gr w w' := by
  rw [← frame_eq k s hk hs]; exact frame_any k s w hk hk1 hs
def FramesIs (ss : List ByteArray) (w : World) (e : Ending) (w' : World) : Prop :=
  ∃ a cap, e = .returned (.slice a (frameL (partsOf ss)).length cap) ∧ Strs w' a (frameL (partsOf ss)) ∧ Gr w w'
theorem framesIs_mk {ss : List ByteArray} {w w' : World} {v : Value} {l : List ByteArray} (hl : Hid (frameL (partsOf ss) = l)) (ho : w'.ownsRow w.heap.size 9 1 v l.length (strCells l)) (hg : Gr w w') : FramesIs ss w (.returned v) w' := by
  have hl' := hl.out
  subst hl'
  have hz : ∀ s ∈ frameL (partsOf ss), s.size ≤ 9223372036854775807 := by
    intro s hs
    simp only [frameL, List.mem_map] at hs
    obtain ⟨p, hp, rfl⟩ := hs
    have := valid_parts ss p hp
    rw [rframe_size]; omega
  obtain ⟨a, cap, rfl, h⟩ := strs_of_row ho hz (by simp [frameL, partsOf_len]; omega)
  exact ⟨a, cap, rfl, h, hg⟩
set_option maxRecDepth 100000 in
set_option maxHeartbeats 1000000 in
theorem frames_any (ss : List ByteArray) (a : Option Addr) (cap : Nat) (w : World) (hst : Strs w a ss) :
    Calls Try.prog 40 #[.slice a ss.length cap] w (FramesIs ss w) := by
  obtain ⟨i0, hi, hz0, hz1, hz2⟩ := info_parts info_str
  have hlen := partsOf_len ss
  have hSl : ss.length ≤ 9223372036854775807 := hst.2.1
  go_enter Try.func40, Try.ntmps40
  go_wp2
  go_loopw [3, 4] (fun v i wr => ∃ k, k ≤ (partsOf ss).length ∧ i = .int .i64 (k : Nat) ∧ wr.ownsRow w.heap.size 9 1 v k (strCells ((frameL (partsOf ss)).take k)) ∧ Gr w wr) (fun _ i _ => (partsOf ss).length - (intOf i).toNat)
  case atStart => exact ⟨0, by omega, rfl, World.ownsRow_nil _ _ _ _, Gr.refl _⟩
  case round =>
    obtain ⟨k, hk, rfl, hown, hg⟩ := hrel
    by_cases hlt : k < (partsOf ss).length
    · obtain ⟨hk', hpe⟩ := partsOf_at ss k hlt
      obtain ⟨b, off, rfl, hb, hc, hz⟩ := (hst.gr hg).at k hk'
      have hcl := cutB_le ss[k] 60
      have hk10 : k < 10 := by omega
      have hsn : strCells ((frameL (partsOf ss)).take (k + 1)) = strCells ((frameL (partsOf ss)).take k) ++ [.string (rframe (1 + k) (cutB ss[k] 60))] := by
        have hl : k < (frameL (partsOf ss)).length := by simpa [frameL] using hlt
        rw [List.take_succ_eq_append_getElem hl]
        simp [strCells, frameL, hpe]
      have Hsn := Lib.hid hsn
      have Hst := Lib.hid hst
      clear hpe hlen hsn hst
      generalize ss[k] = s at *
      have t1 : (k : Int) < ss.length := by omega
      have t2 : (k : Int) < 10 := by omega
      go_wp2_with fail
      refine (cut_any s 60 _ hz (by decide)).mono ?_
      rintro e w2 ⟨rfl, rfl⟩
      generalize cutB s 60 = t at *
      go_wp2_with fail
      rw [show (1 + (k : Int)) = ((1 + k : Nat) : Int) by omega]
      refine (frame_r (1 + k) t _ (by omega) (by omega) (by omega)).mono ?_
      rintro e w2 ⟨rfl, hg2⟩
      have hown2 := ownsRow_gr hg2 hown
      generalize rframe (1 + k) t = F at *
      go_wp2_with (at_builtin; refine wpList_append_own _ rfl (.tmp 15) (.tmp 25) 73 rfl w.heap.size 9 i0 (.string ⟨#[]⟩) 1 16 Try.underlying73 hi hz0 hz1 hz2 rfl (by decide) _ _ _ rfl (hown2.alloc _) ⟨w2.heap.size, 0, none⟩ 1 1 [.string F] rfl rfl ?c1 ?c2 ?c3 ?c4 ?c5 ?_)
      case c1 => exact cells_one w2 _ _
      case c2 => intro u hu; simp at hu; subst hu; rfl
      case c3 => unfold maxLen; omega
      case c4 => omega
      case c5 => have := (hg.trans hg2).size; simp; omega
      · intro v' w3 hown3 hgrow _
        have hg3 := ((hg.trans hg2).alloc (.cells #[.string F] 9)).append (hown2.alloc _) hgrow
        clear hgrow hown hown2
        go_wp2
        go_roundw
        case rel =>
          refine ⟨k + 1, by omega, by go_num, ?_, hg3⟩
          rw [Hsn.out]; exact hown3
        case measure => simp [intOf]; omega
    · obtain rfl : k = (partsOf ss).length := by omega
      have hfl : (frameL (partsOf ss)).length = (partsOf ss).length := by simp [frameL]
      have hta : (frameL (partsOf ss)).take (partsOf ss).length = frameL (partsOf ss) := List.take_of_length_le (by omega)
      rw [hta, ← hfl] at hown
      clear hta
      generalize hfr : frameL (partsOf ss) = fl at *
      have Hfr := Lib.hid hfr
      have Hfl := Lib.hid hfl
      have Hl := Lib.hid hlen
      rcases Nat.lt_or_ge ss.length 10 with h10 | h10
      · have e : (partsOf ss).length = ss.length := by omega
        rw [e] at *
        clear hlen hfl hfr e
        go_wp2
        go_ret
        exact framesIs_mk Hfr hown hg
      · have e : (partsOf ss).length = 10 := by omega
        rw [e] at *
        clear hlen hfl hfr e
        go_wp2
        all_goals
          go_ret
          exact framesIs_mk Hfr hown hg
set_option maxRecDepth 100000 in
set_option maxHeartbeats 1000000 in
theorem are_any (a1 : Option Addr) (c1 : Nat) (P : List (Nat × ByteArray)) (fl : List ByteArray) (a2 : Option Addr) (c2 n : Nat) (w : World) (hP : Valid P) (hPl : P.length ≤ 1000) (hfl : P.length ≤ fl.length)
    (hn : P.length = n) (he : ∀ i (h : i < P.length), fl[i]? = some (rframe P[i].1 P[i].2)) (hst : Strs w a2 fl)
    (hrow : a1 = none ∧ P.length = 0 ∨ ∃ g, a1 = some ⟨g, 0, none⟩ ∧ g < w.heap.size ∧ ∀ j u, (partCells P)[j]? = some u → w.cell? ⟨g, j, none⟩ = some u) :
    Calls Try.prog 42 #[.slice a1 P.length c1, .slice a2 fl.length c2, .int .i64 n] w fun e w' => e = .returned (.bool true) ∧ Gr w w' := by
  subst hn
  have hSl := hst.2.1
  go_enter Try.func42, Try.ntmps42
  go_wp2
  go_loopw [13] (fun i wr => ∃ k : Nat, k ≤ P.length ∧ i = .int .i64 (k : Nat) ∧ Gr w wr) (fun i _ => P.length - (intOf i).toNat)
  case atStart => exact ⟨0, by omega, rfl, Gr.refl _⟩
  case round =>
    obtain ⟨k, hk, rfl, hgr⟩ := hrel
    by_cases hlt : k < P.length
    · obtain ⟨p0, p1⟩ := partCells_at P k hlt
      obtain ⟨v1, v2, v3⟩ := hP P[k] (List.getElem_mem hlt)
      obtain ⟨hf, hfe⟩ := List.getElem?_eq_some_iff.1 (he k hlt)
      obtain ⟨b, off, rfl, hb, hcf, hfz⟩ := (hst.gr hgr).at k hf
      rcases hrow with ⟨_, h0⟩ | ⟨g1, rfl, hg1, hc1⟩
      · omega
      rw [hfe] at hcf
      have hgw := Nat.lt_of_lt_of_le hg1 hgr.size
      have t1 : (k : Int) < P.length := by omega
      have t3 : (k : Int) < fl.length := by omega
      have q0 := hgr.cell (hc1 _ _ p0)
      have q1 := hgr.cell (hc1 _ _ p1)
      have Hst := Lib.hid hst
      have HP := Lib.hid hP
      have He := Lib.hid he
      have Hc := Lib.hid hc1
      clear hc1 p0 p1 hfe hst hP he hfz
      generalize P[k].1 = K at *
      generalize P[k].2 = T at *
      have HF := Lib.hid (show rframe K T = rframe K T from rfl)
      generalize hR : rframe K T = R at *
      have HR := Lib.hid hR; clear hR HF
      go_wp2
      go_region_held3 (fun w' => Gr wr w' ∧ w'.cell? ⟨g1, k * 2, none⟩ = some (.int .u8 K) ∧ w'.cell? ⟨g1, k * 2 + 1, none⟩ = some (.string T) ∧ w'.cell? ⟨b, off + k, none⟩ = some (.string R)) (first | exact ⟨Gr.refl _, q0, q1, hcf⟩ | exact ⟨(Gr.refl _).drew, q0, q1, hcf⟩ | (go_split_ands; refine ⟨Gr.trans ?_ hg2, hg2.cell ?_, hg2.cell ?_, hg2.cell ?_⟩ <;> assumption)) (first | (go_at_call 36; refine (frame_r K T _ v2 v1 v3).mono ?_; rintro e w2 ⟨rfl, hg2⟩; rw [HR.out]))
      go_split_ands
      have hgn : Gr wr w2 := by assumption
      go_wp2
      go_roundw
      case rel => exact ⟨k + 1, by omega, by go_num, hgr.trans hgn⟩
      case measure => simp [intOf]; omega
    · obtain rfl : k = P.length := by omega
      clear he hrow
      go_wp2
      go_ret
      exact ⟨rfl, hgr⟩
end Go.Proofs.Ytabeapfnfcmgaaa
