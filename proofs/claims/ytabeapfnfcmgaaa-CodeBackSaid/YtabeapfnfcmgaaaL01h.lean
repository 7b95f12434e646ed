import Derived.Test.YtabeapfnfcmgaaaL01f
import Derived.Test.YtabeapfnfcmgaaaL01g
import Derived.WalkKit
import Derived.ProofKit
import Derived.LoopTactic
import Derived.Outline
import Derived.WalkSpells
import Derived.WalkLawsBesides
import Derived.Lib.Hide
import Derived.Deep.LoopGhost
import Derived.Deep.QuietTactic
import Derived.BigQuiet
import Derived.ShutString
import Derived.Deep.RegionWith
import Derived.Deep.RegionHeld3
namespace Go.Proofs.Ytabeapfnfcmgaaa
open Go.ChangeShapes Go.WideShapes Go.ChangeAt Go.RowKit
set_option linter.unusedVariables false
theorem encPs_drop (L : List PartD) (k : Nat) (h : k < L.length) : encPs (L.drop k) = encP L[k] ++ encPs (L.drop (k + 1)) := by
  unfold encPs; rw [List.drop_eq_getElem_cons h, List.flatMap_cons]
/-- A thing is read back. -/
def BackIs (v : Value) (p : Nat) (r : ByteArray) (w : World) (e : Ending) (w' : World) : Prop := e = .returned v ∧ RdIs w' p r 0 ∧ Only p w w'
theorem rU_back (p v : Nat) (R : ByteArray) (t : List UInt8) (w : World) (h : RdIs w p R 0) (hv : v < 18446744073709551616) (hb : bytesOf R = Enc.encU v ++ t) :
    Calls Try.prog 19 #[.pointer (some ⟨p, 0, none⟩)] w (BackIs (.int .u64 v) p (ofL t) w) := by
  have := rU_any p R 0 w h
  unfold UIs at this
  rw [uS_back R v t hv hb] at this
  exact this
theorem rN_back (p : Nat) (n : Int) (R : ByteArray) (t : List UInt8) (w : World) (h : RdIs w p R 0) (hn : n ≤ 9223372036854775807) (hb : bytesOf R = Enc.encN n ++ t) :
    Calls Try.prog 21 #[.pointer (some ⟨p, 0, none⟩), .int .i64 9223372036854775807] w (BackIs (.int .i64 (max n 0)) p (ofL t) w) := by
  have := rN_any p R 0 9223372036854775807 (by omega) w h
  unfold NIs at this
  rw [nS_back R (max n 0).toNat t _ (by omega) (by omega) hb] at this
  simp only at this
  rwa [show (((max n 0).toNat : Nat) : Int) = max n 0 by omega] at this
theorem rB_back (p : Nat) (b : Bool) (R : ByteArray) (t : List UInt8) (w : World) (h : RdIs w p R 0) (hb : bytesOf R = Enc.encB b ++ t) :
    Calls Try.prog 23 #[.pointer (some ⟨p, 0, none⟩)] w (BackIs (.bool b) p (ofL t) w) := by
  have := rB_any p R 0 w h
  unfold BIs at this
  rw [bS_back R b t hb] at this
  exact this
theorem rS_back (p : Nat) (S R : ByteArray) (t : List UInt8) (w : World) (h : RdIs w p R 0) (hS : S.size ≤ 300) (hz : R.size ≤ 10000) (hb : bytesOf R = Enc.encS (bytesOf S) ++ t) :
    Calls Try.prog 25 #[.pointer (some ⟨p, 0, none⟩), .int .i64 300] w (BackIs (.string S) p (ofL t) w) := by
  have := rS_any p R 0 300 (by omega) (by omega) w h
  unfold SIs at this
  rw [sS_back R S t 300 (by omega) (by omega) hb] at this
  exact this
theorem back_cell {wr w5 : World} {pr : Nat} {r r' : ByteArray} {cs : Array Value} {t : TypeId} {v : Value} {e : Ending} {x : Nat} (h : RdIs wr pr r' x) (hb : BackIs v pr r (wr.alloc (.cells cs t)).drew e w5) :
    ∀ i u, cs[i]? = some u → w5.cell? ⟨wr.heap.size, i, none⟩ = some u := by
  intro i u hu
  have hlt := cell_lt h.1
  exact hb.2.2.cell (by omega) (((Gr.refl _).drew).cell (new_cell rfl hu))
set_option maxRecDepth 100000 in
set_option maxHeartbeats 1000000 in
theorem codeBack_walk (L : List PartD) (a : Option Addr) (cap : Nat) (w : World) (hst : PartRow w a L) :
    Calls Try.prog 5 #[.slice a L.length cap] w fun e w' => e = .returned (.bool true) ∧ Gr w w' := by
  have h300 := fewL_300 L
  have hl30 : (fewL L).length ≤ 30 := by rw [fewL_len]; omega
  go_enter Try.func5, Try.ntmps5
  go_wp2_with fail
  refine (awake1 w).mono ?_
  rintro e w1 ⟨rfl, hg⟩
  have HST := Lib.hid (hst.gr hg)
  have HG := Lib.hid hg
  clear hst hg
  go_wp2_with fail
  refine (few_any L a cap _ HST.out).mono ?_
  rintro e w2 ⟨a2, cap2, rfl, hrow, hg2⟩
  generalize fewL L = F at *
  have HR := Lib.hid hrow
  have H3 := Lib.hid h300
  have HG2 := Lib.hid (HG.out.trans hg2)
  clear hrow h300 hg2
  go_wp2_with fail
  refine (written_any F a2 cap2 _ HR.out hl30 H3.out).mono ?_
  rintro e w3 ⟨rfl, hg3⟩
  have hsz : (ofL (encPs F)).size ≤ 10000 := by have := encPs_le F H3.out; rw [ofL_size]; omega
  have HB := Lib.hid (bytesOf_ofL (encPs F))
  generalize ofL (encPs F) = T at *
  go_wp2_with fail
  refine (read_any T _ (by omega)).mono ?_
  rintro e w4 ⟨rfl, hRd, hg4⟩
  have hpr : w2.heap.size ≤ w3.heap.size := hg3.size
  have HRd := Lib.hid hRd
  have HG4 := Lib.hid (hg3.trans hg4)
  clear hRd hg3 hg4
  generalize w3.heap.size = pr at *
  go_wp2
  go_loopw [22] (fun i wr => ∃ (k : Nat) (R : ByteArray), k ≤ F.length ∧ i = .int .i64 (k : Nat) ∧ R.size ≤ 10000 ∧ Hid (bytesOf R = encPs (F.drop k)) ∧ Hid (RdIs wr pr R 0) ∧ Hid (Gr w2 wr)) (fun i _ => F.length - (intOf i).toNat)
  case atStart => exact ⟨0, T, by omega, rfl, hsz, HB, HRd.out, HG4.out⟩
  case round =>
    obtain ⟨k, R, hk, rfl, hRz, hR, hRd, hG⟩ := hrel
    by_cases hlt : k < F.length
    · obtain ⟨-, hok, hcl⟩ := HR.out.gr hG.out
      obtain ⟨b, off, rfl, hc⟩ := hcl.resolve_left (by intro e; rw [e] at hlt; simp at hlt)
      obtain ⟨c0, c1, c2, c3⟩ := hc k hlt
      have hpok := hok F[k] (List.getElem_mem _)
      have hsk := H3.out F[k] (List.getElem_mem _)
      have Hdr := Lib.hid (hR.out.trans (encPs_drop F k hlt))
      clear hok hcl hc
      generalize F[k] = p at *
      generalize hAcc : encPs (F.drop (k + 1)) = acc at *
      obtain ⟨K, U, N, S⟩ := p
      simp only at c0 c1 c2 c3 hsk
      have haz : (ofL acc).size ≤ 10000 := by
        have h1 := congrArg List.length Hdr.out
        rw [lenB, List.length_append] at h1
        rw [ofL_size]; omega
      have HA := Lib.hid (show bytesOf (ofL acc) = encPs (F.drop (k + 1)) by rw [hAcc, bytesOf_ofL])
      clear hAcc
      have hrP : ∀ cs t, RdIs (wr.alloc (.cells cs t)) pr R 0 := fun cs t => hRd.out.gr ((Gr.refl wr).alloc _)
      have hrD : ∀ cs t, RdIs (wr.alloc (.cells cs t)).drew pr R 0 := fun cs t => (hrP cs t).gr ((Gr.refl _).drew)
      by_cases k0 : K = 0
      · subst k0
        have HBK := Lib.hid (show bytesOf R = Enc.encU U ++ acc from Hdr.out)
        clear Hdr
        go_wp2_with fail
        go_region_with (first | (go_at_call 19; refine (rU_back pr U R acc _ (hrD _ _) hpok.2.1 HBK.out).mono ?_; intro e w5 hB5; have hcell := back_cell hRd.out hB5 1 _ rfl; obtain ⟨rfl, hR5, hO5⟩ := hB5))
        all_goals
          have HR5 := Lib.hid hR5
          have HG5 := Lib.hid (hO5.gr ((hG.out.alloc _).drew) hpr)
          clear hR5 hO5
          go_wp2
          go_roundw
          case rel => exact ⟨k + 1, ofL acc, by omega, by go_num, haz, HA.out, HR5.out, HG5.out⟩
          case measure => simp [intOf]; omega
      by_cases k1 : K = 1
      · subst k1
        have HBK := Lib.hid (show bytesOf R = Enc.encN N ++ acc from Hdr.out)
        clear Hdr
        go_wp2_with fail
        go_region_with (first | (go_at_call 21; refine (rN_back pr N R acc _ (hrD _ _) (bounds_i64 hpok.2.2.1).2 HBK.out).mono ?_; intro e w5 hB5; have hcell := back_cell hRd.out hB5 2 _ rfl; obtain ⟨rfl, hR5, hO5⟩ := hB5))
        all_goals
          have HR5 := Lib.hid hR5
          have HG5 := Lib.hid (hO5.gr ((hG.out.alloc _).drew) hpr)
          clear hR5 hO5
          go_wp2
          go_roundw
          case rel => exact ⟨k + 1, ofL acc, by omega, by go_num, haz, HA.out, HR5.out, HG5.out⟩
          case measure => simp [intOf]; omega
      by_cases k2 : K = 2
      · subst k2
        have HBK := Lib.hid (show bytesOf R = Enc.encB (decide (0 < N)) ++ acc from Hdr.out)
        clear Hdr
        go_wp2_with fail
        go_region_with (first | (go_at_call 23; refine (rB_back pr _ R acc _ (hrD _ _) HBK.out).mono ?_; intro e w5 hB5; have hcell := back_cell hRd.out hB5 2 _ rfl; obtain ⟨rfl, hR5, hO5⟩ := hB5))
        all_goals
          have HR5 := Lib.hid hR5
          have HG5 := Lib.hid (hO5.gr ((hG.out.alloc _).drew) hpr)
          clear hR5 hO5
          go_wp2
          go_roundw
          case rel => exact ⟨k + 1, ofL acc, by omega, by go_num, haz, HA.out, HR5.out, HG5.out⟩
          case measure => simp [intOf]; omega
      · have hE0 : encP ⟨K, U, N, S⟩ = Enc.encS (bytesOf S) := by unfold encP; simp only; rw [if_neg k0, if_neg k1, if_neg k2]
        have hH := Hdr.out
        rw [hE0] at hH
        clear hE0
        have HBK := Lib.hid (show bytesOf R = Enc.encS (bytesOf S) ++ acc from hH)
        clear Hdr hH
        go_wp2_with fail
        go_region_with (first | (go_at_call 25; refine (rS_back pr S R acc _ (hrD _ _) hsk hRz HBK.out).mono ?_; intro e w5 hB5; have hcell := back_cell hRd.out hB5 3 _ rfl; obtain ⟨rfl, hR5, hO5⟩ := hB5))
        all_goals
          have HR5 := Lib.hid hR5
          have HG5 := Lib.hid (hO5.gr ((hG.out.alloc _).drew) hpr)
          clear hR5 hO5
          go_wp2
          go_roundw
          case rel => exact ⟨k + 1, ofL acc, by omega, by go_num, haz, HA.out, HR5.out, HG5.out⟩
          case measure => simp [intOf]; omega
    · obtain rfl : k = F.length := by omega
      have hz : R.size = 0 := by rw [← lenB, hR.out, List.drop_length]; rfl
      have hd : doneE R 0 = 0 := by unfold doneE; rw [if_neg (by omega)]
      have hDn := rDone_any pr R 0
      rw [hd] at hDn
      clear hd
      go_wp2_with fail
      refine (hDn _ hRd.out).mono ?_
      rintro e w5 ⟨rfl, _, hO5⟩
      have HG5 := Lib.hid (HG2.out.trans (hO5.gr hG.out hpr))
      go_wp2
      go_ret
      exact ⟨rfl, HG5.out⟩
end Go.Proofs.Ytabeapfnfcmgaaa
