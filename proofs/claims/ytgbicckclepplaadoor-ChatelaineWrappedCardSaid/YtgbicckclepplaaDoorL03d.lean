import Derived.Test.YtgbicckclepplaaDoorL03c
import Derived.Test.YtgbicckclepplaaDoorC10
import Derived.WalkKit
import Derived.ProofKit
import Derived.LoopTactic
import Derived.Outline
import Derived.WalkSpells
import Derived.WalkLawsBesides
import Derived.Lib.Hide
import Derived.Deep.LoopGhost
import Derived.Deep.QuietTactic
import Derived.BigQuiet
import Derived.ShutString
import Derived.Laws.Pointers
import Derived.OwnWalk
namespace Go.Proofs.YtgbicckclepplaaDoor
open Go.ChangeShapes Go.WideShapes Go.ChangeAt Go.RowKit
set_option linter.unusedVariables false
theorem neIN (t : TypeId) (a : Option Addr) (w : World) : (binOp .neq 26 (.iface t (.pointer a)) .nilIface).run Tryd.prog w = .ok (.bool true) w := by kernel_rfl
theorem own_one (w : World) (x0 x1 x2 : Value) : (w.alloc (.cells #[x0, x1, x2] 39)).ownsRow w.heap.size 39 3 (.slice (some ⟨w.heap.size, 0, none⟩) 1 1) 1 [x0, x1, x2] :=
  ⟨rfl, .inr ⟨_, 1, #[x0, x1, x2], rfl, Nat.le_refl _, heap_alloc_new w _, Nat.le_refl _, by unfold maxLen; omega, rfl, rfl⟩⟩
theorem trail_cons (c : Int) (s : ByteArray) (M : List Lk) : (trailOf M).length ≤ (trailOf (.fault c s :: M)).length := by
  show _ ≤ (if s.size = 0 then trailOf M else s :: trailOf M).length
  split <;> simp
theorem codeOf_cons (c : Int) (s : ByteArray) (M : List Lk) : codeOf (.fault c s :: M) = c := rfl
theorem code_small {K : List LinkD} (h : ∀ p ∈ K, p.small) (hne : K ≠ []) : 1 ≤ codeOf (K.map lkOf) ∧ codeOf (K.map lkOf) ≤ 22 := by
  unfold codeOf
  cases K with
  | nil => exact absurd rfl hne
  | cons x t =>
    rw [List.map_cons]
    cases hF : firstF (lkOf x :: List.map lkOf t) with
    | none => simp only; omega
    | some y =>
      obtain ⟨c, s, M'⟩ := y
      have hm := firstF_mem hF
      rw [← List.map_cons] at hm
      obtain ⟨p, hp, he⟩ := List.mem_map.1 hm
      unfold lkOf at he
      split at he
      · cases he
      · simp only [Lk.fault.injEq] at he
        obtain ⟨rfl, _⟩ := he
        obtain ⟨h1, h2, _⟩ := h p hp
        exact ⟨h1, h2⟩
theorem linkCells_len (L : List LinkD) : (linkCells L).length = L.length * 3 := by
  induction L with
  | nil => rfl
  | cons p t ih => show (linkVals p ++ linkCells t).length = _; rw [List.length_append, ih]; simp [linkVals]; omega
theorem src_cells {w : World} {a : Option Addr} {L : List LinkD} (h : LinkRow w a L) (hne : L ≠ []) : ∃ b off, a = some ⟨b, off, none⟩ ∧ ∀ (j : Nat) (u : Value), (linkCells L)[j]? = some u → w.cell? ((⟨b, off, none⟩ : Addr).add j) = some u := by
  obtain ⟨_, _, h0 | ⟨b, off, ha, hc⟩⟩ := h
  · exact absurd h0 hne
  · cases ha
    refine ⟨b, off, rfl, fun j u hj => ?_⟩
    rw [addr_add]
    have hl := linkCells_len L
    have hjl := (List.getElem?_eq_some_iff.1 hj).1
    have hi : j / 3 < L.length := by omega
    have hat := linkCells_at L (j / 3) hi (j % 3) (by omega)
    rw [show j / 3 * 3 + j % 3 = j by omega, hj] at hat
    obtain ⟨c0, c1, c2⟩ := hc (j / 3) hi
    have h3 : j % 3 = 0 ∨ j % 3 = 1 ∨ j % 3 = 2 := by omega
    rcases h3 with h3 | h3 | h3 <;> rw [h3] at hat <;> simp only [linkVals, List.getElem?_cons_zero, List.getElem?_cons_succ, Option.some.injEq] at hat <;> subst hat
    · rw [show off + j = off + j / 3 * 3 by omega]; exact c0
    · rw [show off + j = off + j / 3 * 3 + 1 by omega]; exact c1
    · rw [show off + j = off + j / 3 * 3 + 2 by omega]; exact c2
theorem linkCells_one {L : List LinkD} : ∀ u ∈ linkCells L, u.oneCell' = true := by
  intro u hu
  simp only [linkCells, List.mem_flatMap] at hu
  obtain ⟨p, _, hu⟩ := hu
  simp only [linkVals, List.mem_cons, List.not_mem_nil, or_false] at hu
  rcases hu with rfl | rfl | rfl <;> rfl
set_option maxRecDepth 100000 in
set_option maxHeartbeats 1000000 in
theorem faultWraps_in (L : List LinkD) (a : Option Addr) (cap : Nat) (s0 T : ByteArray) (w : World) (hst : LinkRow w a L) (hs : s0.size ≤ 9223372036854775807) (hT : 20 < s0.size ∧ s0.extract 0 20 = T ∨ s0.size ≤ 20 ∧ T = s0) (he : ET w) :
    Calls Tryd.prog 4 #[.slice a L.length cap, .string s0] w fun e w' => e = .returned (.bool true) ∧ Gr w w' := by
  obtain ⟨i0, hi, hz0, hz1, hz2⟩ := info_parts info_link
  have HST := Lib.hid hst
  have HE := Lib.hid he
  have hk := fewKs_small L
  have hkl := fewKs_len L
  have hT20 : T.size ≤ 20 := by
    rcases hT with ⟨h1, rfl⟩ | ⟨h1, rfl⟩
    · simp; omega
    · exact h1
  clear hst he
  rcases hT with ⟨h1, hT2⟩ | ⟨h1, rfl⟩
  all_goals
    go_enter Tryd.func4, Tryd.ntmps4
    go_wp2_with fail
    refine (awake3 _ HE.out).mono ?_
    rintro e w1 ⟨rfl, hg1⟩
    have HG1 := Lib.hid hg1
    clear hg1
    go_wp2_with fail
    refine (few3_any L a cap _ (HST.out.gr HG1.out)).mono ?_
    rintro e w2 ⟨a2, cap2, rfl, hrow, hg2⟩
    have HR := Lib.hid hrow
    have HG2 := Lib.hid (HG1.out.trans hg2)
    clear hrow hg2
    generalize fewKs L = K at *
    have HK := Lib.hid hk
    have hK10 : K.length ≤ 10 := by omega
    clear hk hkl
    go_wp2_with fail
    refine (chain_any K a2 cap2 _ HR.out (by omega)).mono ?_
    rintro e w3 ⟨u, rfl, hch, hg3⟩
    have HC := Lib.hid hch
    have HR3 := Lib.hid (HR.out.gr hg3)
    have HG3 := Lib.hid (HG2.out.trans hg3)
    clear hg3 hch
    have hml : (K.map lkOf).length ≤ 999 := by simp; omega
    by_cases hK0 : K = []
    · subst hK0
      obtain rfl : u = .nilIface := HC.out
      have q1 := eqNN
      go_wp2_with fail
      refine (wrap_nil _ _).mono ?_
      rintro e w4 ⟨rfl, rfl⟩
      go_wp2
      go_ret
      exact ⟨rfl, HG3.out⟩
    · have hMne : K.map lkOf ≠ [] := by simpa using hK0
      have hcs := code_small HK.out hK0
      have tK : ((K.length : Int) == 0) = false := by rw [beq_eq_false_iff_ne]; intro h; apply hK0; exact List.length_eq_zero_iff.1 (by omega)
      obtain ⟨c1, c2⟩ := hcs
      have HSH := Lib.hid (chain_short HK.out)
      have HCD := Lib.hid (codes_small HK.out)
      have HCC := Lib.hid (codeOf_cons (codeOf (K.map lkOf)) T (K.map lkOf))
      have HTC := Lib.hid (trail_cons (codeOf (K.map lkOf)) T (K.map lkOf))
      have HSH2 := Lib.hid (show Short 1000 (.fault (codeOf (K.map lkOf)) T :: K.map lkOf) from by
        intro c s hm
        rcases List.mem_cons.1 hm with h | h
        · cases h; omega
        · exact HSH.out c s h)
      have HCD2 := Lib.hid (show Codes (.fault (codeOf (K.map lkOf)) T :: K.map lkOf) from by
        intro c s hm
        rcases List.mem_cons.1 hm with h | h
        · cases h; omega
        · exact HCD.out c s h)
      have q2 := eqIN
      have q3 := neIN
      go_wp2_with fail
      refine (wrap_any u _ T _ (by omega) hMne HC.out (HE.out.gr HG3.out)).mono ?_
      rintro e w4 ⟨u2, rfl, hch2, hg4⟩
      have HX := Lib.hid hch2
      have HC4 := Lib.hid (HC.out.gr hg4)
      have HR4 := Lib.hid (HR3.out.gr hg4)
      have HG4 := Lib.hid (HG3.out.trans hg4)
      have hu2 := hch2
      clear hg4 hch2
      obtain ⟨b2, v2, rfl, -⟩ := hu2
      go_wp2_with fail
      refine (code_any _ _ _ (by simp; omega) HX.out (HE.out.gr HG4.out)).mono ?_
      rintro e w5 ⟨rfl, hg5⟩
      rw [HCC.out]
      have HX5 := Lib.hid (HX.out.gr hg5)
      have HC5 := Lib.hid (HC4.out.gr hg5)
      have HR5 := Lib.hid (HR4.out.gr hg5)
      have HG5 := Lib.hid (HG4.out.trans hg5)
      clear hg5
      go_wp2_with fail
      refine (code_any u _ _ (by omega) HC5.out (HE.out.gr HG5.out)).mono ?_
      rintro e w6 ⟨rfl, hg6⟩
      have HX6 := Lib.hid (HX5.out.gr hg6)
      have HC6 := Lib.hid (HC5.out.gr hg6)
      have HR6 := Lib.hid (HR5.out.gr hg6)
      have HG6 := Lib.hid (HG5.out.trans hg6)
      clear hg6
      go_wp2_with fail
      refine (text_all _ _ _ (by simp; omega) HSH2.out HCD2.out HX6.out (HE.out.gr HG6.out)).mono ?_
      rintro e w7 ⟨rfl, hg7⟩
      have HX7 := Lib.hid (HX6.out.gr hg7)
      have HC7 := Lib.hid (HC6.out.gr hg7)
      have HR7 := Lib.hid (HR6.out.gr hg7)
      have HG7 := Lib.hid (HG6.out.trans hg7)
      clear hg7
      go_wp2_with fail
      refine (refCode_any K a2 cap2 _ HR7.out).mono ?_
      rintro e w8 ⟨rfl, hg8⟩
      have HX8 := Lib.hid (HX7.out.gr hg8)
      have HC8 := Lib.hid (HC7.out.gr hg8)
      have HR8 := Lib.hid (HR7.out.gr hg8)
      have HG8 := Lib.hid (HG7.out.trans hg8)
      clear hg8
      have HSM := Lib.hid (show ∀ p ∈ (⟨false, codeOf (K.map lkOf), T⟩ :: K : List LinkD), p.small from by
        intro p hp
        rcases List.mem_cons.1 hp with rfl | hp
        · exact ⟨c1, c2, hT20⟩
        · exact HK.out p hp)
      have HMM := Lib.hid (show (⟨false, codeOf (K.map lkOf), T⟩ :: K : List LinkD).map lkOf = .fault (codeOf (K.map lkOf)) T :: K.map lkOf from rfl)
      generalize codeOf (K.map lkOf) = cd at *
      obtain ⟨bs, os, rfl, hsrc⟩ := src_cells (HR8.out.gr ((Gr.refl w8).alloc (.cells #[.bool false, .int .i64 cd, .string T] 39))) hK0
      have HSRC := Lib.hid hsrc
      have hown := own_one w8 (.bool false) (.int .i64 cd) (.string T)
      clear hsrc
      go_wp2_with (at_builtin; refine append_own_g (by rfl) _ _ 22 rfl w8.heap.size 39 i0 (.agg #[.bool false, .int .i64 0, .string ⟨#[]⟩]) 3 32 Tryd.underlying22 hi hz0 hz1 hz2 rfl (by decide) _ _ _ rfl hown ⟨bs, os, none⟩ K.length cap2 (linkCells K) rfl (linkCells_len K) HSRC.out linkCells_one ?c3 ?c4 ?c5 ?_)
      case c3 => unfold maxLen; omega
      case c4 => omega
      case c5 => simp
      intro v' w9 hown9 hgrow
      have HG9 := Lib.hid (((Gr.refl w8).alloc _).append hown hgrow)
      obtain ⟨a9, cap9, rfl, hr9⟩ := links_of_row (l := ⟨false, cd, T⟩ :: K) (by rw [List.length_cons, Nat.add_comm]; exact hown9) (fun p hp => small_ok (HSM.out p hp)) (by simp; omega)
      have HR9 := Lib.hid hr9
      have HX9 := Lib.hid (HX8.out.gr HG9.out)
      have HC9 := Lib.hid (HC8.out.gr HG9.out)
      have HGA := Lib.hid (HG8.out.trans HG9.out)
      clear hown9 hgrow hr9 hown
      go_wp2_with fail
      refine (refText_all _ a9 cap9 _ HR9.out (by simp; omega) HSM.out).mono ?_
      rintro e wa ⟨rfl, hga⟩
      rw [HMM.out]
      have HXa := Lib.hid (HX9.out.gr hga)
      have HCa := Lib.hid (HC9.out.gr hga)
      have HGB := Lib.hid (HGA.out.trans hga)
      clear hga
      generalize textP (.fault cd T :: K.map lkOf) = tx at *
      go_wp2_with fail
      refine (trail_any _ _ _ (by simp; omega) HSH2.out HXa.out (HE.out.gr HGB.out)).mono ?_
      rintro e wb ⟨ab, capb, rfl, -, -, hgb⟩
      have HCb := Lib.hid (HCa.out.gr hgb)
      have HGC := Lib.hid (HGB.out.trans hgb)
      clear hgb
      go_wp2_with fail
      refine (trail_any u _ _ (by omega) HSH.out HCb.out (HE.out.gr HGC.out)).mono ?_
      rintro e wc ⟨ac, capc, rfl, -, -, hgc⟩
      have HGD := Lib.hid (HGC.out.trans hgc)
      clear hgc
      have hlen := HTC.out
      go_wp2
      go_ret
      exact ⟨by first | rfl | (simp; done) | (simp; omega), HGD.out⟩
theorem faultWraps_walk (L : List LinkD) (a : Option Addr) (cap : Nat) (s0 : ByteArray) (w : World) (hst : LinkRow w a L) (hs : s0.size ≤ maxLen) (he : ET w) :
    Calls Tryd.prog 4 #[.slice a L.length cap, .string s0] w fun e w' => e = .returned (.bool true) ∧ Gr w w' := by
  by_cases h : 20 < s0.size
  · exact faultWraps_in L a cap s0 _ w hst hs (.inl ⟨h, rfl⟩) he
  · exact faultWraps_in L a cap s0 s0 w hst hs (.inr ⟨by omega, rfl⟩) he
end Go.Proofs.YtgbicckclepplaaDoor
