import Derived.Test.YtabeapfnfcmgaaaF02j
import Derived.WalkKit
import Derived.ProofKit
import Derived.LoopTactic
import Derived.Outline
import Derived.WalkSpells
import Derived.WalkLawsBesides
import Derived.Lib.Hide
import Derived.Deep.LoopGhost
import Derived.Deep.QuietTactic
import Derived.BigQuiet
import Derived.ShutString
import Derived.OpenShut
namespace Go.Proofs.Ytabeapfnfcmgaaa
open Go.ChangeShapes Go.WideShapes Go.ChangeAt Go.RowKit
open Crc
set_option linter.unusedVariables false
theorem torn_end (l : List (Nat × ByteArray)) (c : Nat) (h : ∀ p t, l = p :: t → c < p.2.size + 8) : torn l c = ([], 0) := by
  cases l with
  | nil => rfl
  | cons p t => rw [torn, if_neg (by have := h p t rfl; omega)]
theorem torn_step (l : List (Nat × ByteArray)) (m c z : Nat) (hm : m < l.length) (hz : z = (framesOf (l.take m)).size) (hc : z + l[m].2.size + 8 ≤ c)
    (h : torn l c = (l.take m ++ (torn (l.drop m) (c - z)).1, z + (torn (l.drop m) (c - z)).2)) :
    (framesOf (l.take (m + 1))).size = z + (l[m].2.size + 8) ∧ torn l c = (l.take (m + 1) ++ (torn (l.drop (m + 1)) (c - (z + (l[m].2.size + 8)))).1, z + (l[m].2.size + 8) + (torn (l.drop (m + 1)) (c - (z + (l[m].2.size + 8)))).2) := by
  constructor
  · rw [List.take_succ_eq_append_getElem hm, framesOf_snoc, ByteArray.size_append, rframe_size, ← hz]
  · rw [h, List.drop_eq_getElem_cons hm, torn, if_pos (show l[m].2.size + 8 ≤ c - z by omega), List.take_succ_eq_append_getElem hm, Nat.sub_sub]
    simp only [Prod.mk.injEq, List.append_assoc, List.singleton_append, true_and]
    omega
theorem framesOf_le (l : List (Nat × ByteArray)) (h : ∀ p ∈ l, p.2.size ≤ 60) : (framesOf l).size ≤ l.length * 68 := by
  induction l with
  | nil => exact Nat.zero_le _
  | cons p t ih =>
    have h1 := h p (by simp)
    have h2 := ih (fun q hq => h q (by simp [hq]))
    rw [framesOf, ByteArray.size_append, rframe_size, List.length_cons]; omega
theorem partsOf_small (ss : List ByteArray) : ∀ p ∈ partsOf ss, p.2.size ≤ 60 := by
  intro p hp
  obtain ⟨i, hi, rfl⟩ := List.getElem_of_mem hp
  obtain ⟨h', e⟩ := partsOf_at ss i hi
  rw [e]; exact cutB_le _ _
set_option maxRecDepth 100000 in
set_option maxHeartbeats 1000000 in
theorem sealTorn_walk (ss : List ByteArray) (a : Option Addr) (cap : Nat) (cut : Int) (w : World) (hst : Strs w a ss) (hcut : (Lit.int .i64 cut).wf = true) :
    Calls Try.prog 10 #[.slice a ss.length cap, .int .i64 cut] w fun e w' => e = .returned (.bool true) ∧ Gr w w' := by
  go_enter Try.func10, Try.ntmps10
  go_wp2_with fail
  refine (awake2 w).mono ?_
  rintro e w1 ⟨rfl, hg⟩
  go_wp2_with fail
  refine (frames_any ss a cap _ (hst.gr hg)).mono ?_
  rintro e w2 ⟨a2, cap2, rfl, hst2, hg2⟩
  have hV := valid_parts ss
  have hS := partsOf_small ss
  have hL : (partsOf ss).length ≤ 10 := by rw [partsOf_len]; omega
  generalize partsOf ss = ps at *
  have HV := Lib.hid hV
  have HS := Lib.hid hS
  have Hst := Lib.hid hst
  have hll : (frameL ps).length = ps.length := by simp [frameL]
  rw [hll]
  clear hV hS hst hll
  go_wp2
  go_loop [6, 19] (fun s i => ∃ k : Nat, k ≤ ps.length ∧ i = .int .i64 k ∧ s = .string (framesOf (ps.take k))) (fun _ i => ps.length - (intOf i).toNat)
  case atStart => exact ⟨0, by omega, rfl, rfl⟩
  case round =>
    obtain ⟨k, hk, rfl, rfl⟩ := hrel
    by_cases hlt : k < ps.length
    · have hf : k < (frameL ps).length := by simpa [frameL] using hlt
      obtain ⟨b, off, rfl, hb, hc, hz⟩ := hst2.at k hf
      have he : (frameL ps)[k] = rframe ps[k].1 ps[k].2 := by simp [frameL]
      rw [he] at hc hz
      have z1 := framesOf_le (ps.take k) (fun p hp => HS.out p (List.mem_of_mem_take hp))
      have z2 : (framesOf (ps.take k)).size ≤ 680 := by have : (ps.take k).length ≤ 10 := by simp; omega
                                                        omega
      have z3 : (rframe ps[k].1 ps[k].2).size ≤ 68 := by rw [rframe_size]; have := HS.out ps[k] (List.getElem_mem hlt); omega
      have hsn : framesOf (ps.take (k + 1)) = framesOf (ps.take k) ++ rframe ps[k].1 ps[k].2 := by rw [List.take_succ_eq_append_getElem hlt, framesOf_snoc]
      have Hsn := Lib.hid hsn
      have Hst2 := Lib.hid hst2
      clear hsn hst2 z1 he hz
      generalize rframe ps[k].1 ps[k].2 = R at *
      generalize framesOf (ps.take k) = A at *
      go_wp2
      go_round
      case rel => exact ⟨k + 1, by omega, by go_num, by rw [Hsn.out]⟩
      case measure => simp [intOf]; omega
    · obtain rfl : k = ps.length := by omega
      clear hlt
      rw [List.take_length]
      have z1 := framesOf_le ps HS.out
      obtain ⟨A, hA⟩ : ∃ A, framesOf ps = A := ⟨_, rfl⟩
      rw [hA] at z1
      rw [hA]
      have z2 : A.size ≤ 680 := by omega
      obtain ⟨c, hc, hcA⟩ : ∃ c : Nat, max 0 (min cut (A.size : Int)) = (c : Int) ∧ c ≤ A.size := ⟨(max 0 (min cut (A.size : Int))).toNat, by omega, by omega⟩
      have HA := Lib.hid hA
      have HC := Lib.hid hc
      clear hA hc z1
      go_wp2
      rw [HC.out]
      go_loop [9, 10] (fun m z => ∃ k y : Nat, k ≤ ps.length ∧ y ≤ c ∧ m = .int .i64 k ∧ z = .int .i64 y ∧ Hid (y = (framesOf (ps.take k)).size ∧ torn ps c = (ps.take k ++ (torn (ps.drop k) (c - y)).1, y + (torn (ps.drop k) (c - y)).2))) (fun m _ => ps.length - (intOf m).toNat)
      case atStart => exact ⟨0, 0, by omega, by omega, rfl, rfl, ⟨rfl, by simp⟩⟩
      case round =>
        obtain ⟨k, y, hk, hy, rfl, rfl, hT⟩ := hrel
        by_cases hlt : k < ps.length
        · have hf : k < (frameL ps).length := by simpa [frameL] using hlt
          obtain ⟨b, off, rfl, hb, hc, hz⟩ := hst2.at k hf
          have he : (frameL ps)[k] = rframe ps[k].1 ps[k].2 := by simp [frameL]
          rw [he] at hc hz
          have z3 : (rframe ps[k].1 ps[k].2).size ≤ 68 := by rw [rframe_size]; have := HS.out ps[k] (List.getElem_mem hlt); omega
          have z4 : (rframe ps[k].1 ps[k].2).size = ps[k].2.size + 8 := rframe_size _ _
          have t1 : (k : Int) < ps.length := by omega
          have Hst2 := Lib.hid hst2
          rcases Nat.lt_or_ge c (y + (ps[k].2.size + 8)) with hcut | hcut
          · have hend : torn ps c = (ps.take k, y) := by
              obtain ⟨h1, h2⟩ := hT.out
              rw [h2, torn_end _ _ (by
                intro p t hp
                rw [List.drop_eq_getElem_cons hlt] at hp
                simp only [List.cons.injEq] at hp
                rw [← hp.1]; omega)]
              simp
            have Hend := Lib.hid hend
            have t2 : (c : Int) < (y : Int) + (rframe ps[k].1 ps[k].2).size := by omega
            clear hend he hz z4 hcut hst2
            generalize rframe ps[k].1 ps[k].2 = R at *
            go_wp2_with fail
            refine (scan_any _ _ (by simp; omega)).mono ?_
            rintro e w3 ⟨v, rfl, ho, hg3⟩
            have hsc := scan_frames ps c HV.out (by rw [HA.out]; exact hcA)
            rw [HA.out, Hend.out] at hsc
            rw [hsc] at ho
            rw [hsc]
            obtain ⟨a3, cap3, rfl, hc3⟩ := ownsRow_slice ho
            have hln : (ps.take k).length = k := by simp; omega
            have hfl : (frameL ps).length = ps.length := by simp [frameL]
            have hare := are_any a3 cap3 (ps.take k) (frameL ps) _ cap2 k w3 (fun p hp => HV.out p (List.mem_of_mem_take hp)) (by omega) (by omega) hln (by
              intro i hi
              have hi' : i < ps.length := by omega
              simp [frameL, hi']) (Hst2.out.gr hg3) hc3
            rw [hfl, hln] at hare
            rw [hln]
            have Hare := Lib.hid hare
            clear hare hsc ho hc3 hfl hln
            simp only
            go_wp2_with fail
            refine Hare.out.mono ?_
            rintro e w4 ⟨rfl, hg4⟩
            go_wp2
            go_ret
            exact ⟨rfl, ((hg.trans hg2).trans hg3).trans hg4⟩
          · have hnx := torn_step ps k c y hlt hT.out.1 (by omega) hT.out.2
            rw [← z4] at hnx
            have Hnx := Lib.hid hnx
            have t2 : (y : Int) + (rframe ps[k].1 ps[k].2).size ≤ (c : Int) := by omega
            clear hnx he hz z4 hcut hst2
            generalize rframe ps[k].1 ps[k].2 = R at *
            go_wp2
            go_round
            case rel => exact ⟨k + 1, y + R.size, by omega, by omega, by go_num, by go_num, ⟨Hnx.out.1.symm, Hnx.out.2⟩⟩
            case measure => simp [intOf]; omega
        · have hke : k = ps.length := by omega
          have hend : torn ps c = (ps.take k, y) := by
            obtain ⟨h1, h2⟩ := hT.out
            rw [h2, torn_end _ _ (by
              intro p t hp
              rw [List.drop_of_length_le (by omega)] at hp
              cases hp)]
            simp
          have Hend := Lib.hid hend
          have Hst2 := Lib.hid hst2
          have t1 : (ps.length : Int) ≤ k := by omega
          clear hend hst2 hke hlt
          go_wp2_with fail
          refine (scan_any _ _ (by simp; omega)).mono ?_
          rintro e w3 ⟨v, rfl, ho, hg3⟩
          have hsc := scan_frames ps c HV.out (by rw [HA.out]; exact hcA)
          rw [HA.out, Hend.out] at hsc
          rw [hsc] at ho
          rw [hsc]
          obtain ⟨a3, cap3, rfl, hc3⟩ := ownsRow_slice ho
          have hln : (ps.take k).length = k := by simp; omega
          have hfl : (frameL ps).length = ps.length := by simp [frameL]
          have hare := are_any a3 cap3 (ps.take k) (frameL ps) _ cap2 k w3 (fun p hp => HV.out p (List.mem_of_mem_take hp)) (by omega) (by omega) hln (by
            intro i hi
            have hi' : i < ps.length := by omega
            simp [frameL, hi']) (Hst2.out.gr hg3) hc3
          rw [hfl, hln] at hare
          rw [hln]
          have Hare := Lib.hid hare
          clear hare hsc ho hc3 hfl hln
          simp only
          go_wp2_with fail
          refine Hare.out.mono ?_
          rintro e w4 ⟨rfl, hg4⟩
          go_wp2
          go_ret
          exact ⟨rfl, ((hg.trans hg2).trans hg3).trans hg4⟩
end Go.Proofs.Ytabeapfnfcmgaaa
