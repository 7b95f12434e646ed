import Derived.Test.YtgbicckclepplaaDoorL03f
import Derived.Test.YtgbicckclepplaaDoorL03e
import Derived.Test.YtgbicckclepplaaDoorC10
import Derived.WalkKit
import Derived.ProofKit
import Derived.LoopTactic
import Derived.Outline
import Derived.WalkSpells
import Derived.WalkLawsBesides
import Derived.Lib.Hide
import Derived.Deep.LoopGhost
import Derived.Deep.QuietTactic
import Derived.BigQuiet
import Derived.ShutString
import Derived.Laws.Pointers
import Derived.OwnWalk
import Derived.Laws.AppendOwnNone
namespace Go.Proofs.YtgbicckclepplaaDoor
open Go.ChangeShapes Go.WideShapes Go.ChangeAt Go.RowKit
set_option linter.unusedVariables false
theorem own_str (w : World) (s : ByteArray) : (w.alloc (.cells #[.string s] 9)).ownsRow w.heap.size 9 1 (.slice (some ⟨w.heap.size, 0, none⟩) 1 1) 1 [.string s] :=
  ⟨rfl, .inr ⟨_, 1, #[.string s], rfl, Nat.le_refl _, heap_alloc_new w _, Nat.le_refl _, by unfold maxLen; omega, rfl, rfl⟩⟩
/-- What has been wrapped so far: k faults round the first one, all of its code, their places short. -/
def WM (c : Int) (k : Nat) (M : List Lk) : Prop := M.length = k + 1 ∧ codeOf M = c ∧ Short 1000 M ∧ hasOf M c = true ∧ ∃ s t, firstF M = some (c, s, t)
theorem wm_one (c : Int) : WM c 0 [.fault c ⟨#[]⟩] := by
  refine ⟨rfl, rfl, ?_, by simp [hasOf_fault], _, _, rfl⟩
  intro c2 s2 hm; simp at hm; obtain ⟨_, rfl⟩ := hm; show 0 ≤ _; omega
theorem wm_step {c : Int} {k : Nat} {M : List Lk} (h : WM c k M) {s : ByteArray} (hs : s.size ≤ 20) : WM c (k + 1) (.fault c s :: M) := by
  obtain ⟨h1, h2, h3, h4, h5⟩ := h
  refine ⟨by simp [h1], rfl, ?_, by simp [hasOf_fault], _, _, rfl⟩
  intro c2 s2 hm
  rcases List.mem_cons.1 hm with hm | hm
  · cases hm; omega
  · exact h3 c2 s2 hm
theorem strs_src {w : World} {a : Option Addr} {L : List ByteArray} (h : Strs w a L) (hne : L ≠ []) : ∃ b off, a = some ⟨b, off, none⟩ ∧ ∀ (j : Nat) (u : Value), (strCells L)[j]? = some u → w.cell? ((⟨b, off, none⟩ : Addr).add j) = some u := by
  obtain ⟨_, _, rfl | ⟨b, off, rfl, hc⟩⟩ := h
  · exact absurd rfl hne
  · refine ⟨b, off, rfl, fun j u hj => ?_⟩
    rw [addr_add]
    obtain ⟨h1, h2⟩ := List.getElem?_eq_some_iff.1 hj
    have hj' : j < L.length := by simpa [strCells] using h1
    rw [hc j hj']
    simp [strCells] at h2
    rw [h2]
theorem strCells_one {L : List ByteArray} : ∀ u ∈ strCells L, u.oneCell' = true := by
  intro u hu
  simp only [strCells, List.mem_map] at hu
  obtain ⟨p, _, rfl⟩ := hu
  rfl
set_option maxRecDepth 100000 in
set_option maxHeartbeats 2000000 in
theorem wrapped_walk (c0 : Int) (P : List ByteArray) (a : Option Addr) (cap : Nat) (w : World) (hst : Strs w a P) (he : ET w) :
    Calls Tryd.prog 9 #[.int .i64 c0, .slice a P.length cap] w fun e w' => e = .returned (.bool true) ∧ Gr w w' := by
  obtain ⟨i0, hi, hz0, hz1, hz2⟩ := info_parts info_str3
  have HST := Lib.hid hst
  have HE := Lib.hid he
  have hPl := hst.2.1
  obtain ⟨m1, m2⟩ := tmod_bd c0
  have hcd : 1 ≤ 1 + c0.tmod 22 % 22 ∧ 1 + c0.tmod 22 % 22 ≤ 22 := by omega
  obtain ⟨d1, d2⟩ := hcd
  clear hst he
  go_enter Tryd.func9, Tryd.ntmps9
  go_wp2_with fail
  generalize 1 + c0.tmod 22 % 22 = cd at *
  have tc : (cd == 0) = false := by simp; omega
  refine (ofB_any cd _ tc).mono ?_
  rintro e w1 ⟨u, rfl, hu, hg1⟩
  have HU := Lib.hid hu
  have HG1 := Lib.hid hg1
  have hs1 := hg1.size
  clear hu hg1
  go_wp2
  go_loopw [6, 7, 8] (fun v x i wr => ∃ (k : Nat) (M : List Lk) (acc : List ByteArray) (a2 : Option Addr) (cap2 : Nat), k ≤ P.length ∧ k ≤ 20 ∧ i = .int .i64 (k : Nat) ∧ x = .slice a2 acc.length cap2 ∧ acc.length ≤ k ∧ (acc = [] ∧ a2 = none ∧ cap2 = 0 ∨ acc ≠ []) ∧ Hid (trailOf M = acc) ∧ Hid (WM cd k M) ∧ Hid (Blk (w.heap.size ≤ ·) wr v M) ∧ Hid (Strs wr a2 acc) ∧ Hid (Gr w wr)) (fun _ _ i _ => P.length - (intOf i).toNat)
  case atStart => exact ⟨0, _, [], none, 0, by omega, by omega, rfl, rfl, by simp, .inl ⟨rfl, rfl, rfl⟩, Lib.hid rfl, Lib.hid (wm_one cd), HU, Lib.hid ⟨by simp, by simp, .inl rfl⟩, HG1⟩
  case round =>
    obtain ⟨k, M, acc, a2, cap2, hk, hk20, rfl, rfl, hacc, hsh, hT, hW, hB, hS, hG⟩ := hrel
    have HM : (trailOf M).length ≤ 21 := by rw [hT.out]; omega
    obtain ⟨hM1, hM2, hM3, hM4, hM5⟩ := hW.out
    have hMne : M ≠ [] := by intro e; rw [e] at hM1; simp at hM1
    by_cases hlt : k < P.length ∧ k < 20
    · obtain ⟨hlt, hlt2⟩ := hlt
      obtain ⟨b, off, rfl, hb, hc, hz⟩ := (HST.out.gr hG.out).at k hlt
      generalize P[k] = S at *
      obtain ⟨T, hTT⟩ : ∃ T, 20 < S.size ∧ S.extract 0 20 = T ∨ S.size ≤ 20 ∧ T = S := by
        by_cases h : 20 < S.size
        · exact ⟨_, .inl ⟨h, rfl⟩⟩
        · exact ⟨_, .inr ⟨by omega, rfl⟩⟩
      have hT20 : T.size ≤ 20 := by
        rcases hTT with ⟨h1, rfl⟩ | ⟨h1, rfl⟩
        · simp; omega
        · exact h1
      have hws := hG.out.size
      have t3 : (k : Int) < P.length := by omega
      have t4 : (k : Int) < 20 := by omega
      rcases hTT with ⟨h1, hT2⟩ | ⟨h1, rfl⟩
      all_goals
        go_wp2_with fail
        refine (wrapB_any _ M T w.heap.size _ (by omega) hMne hB.out hws (HE.out.gr hG.out)).mono ?_
        rintro e w2 ⟨u2, rfl, hu2, hg2⟩
        rw [hM2] at hu2
        have HB2 := Lib.hid hu2
        have HG2 := Lib.hid (hG.out.trans hg2)
        have HS2 := Lib.hid (hS.out.gr hg2)
        have HW2 := Lib.hid (wm_step hW.out hT20)
        have hws2 := HG2.out.size
        clear hu2 hg2
        by_cases hs0 : T.size = 0
        · obtain rfl : T = ⟨#[]⟩ := ByteArray.ext (Array.eq_empty_of_size_eq_zero hs0)
          have HT2 := Lib.hid (show trailOf (.fault cd ⟨#[]⟩ :: M) = acc from hT.out)
          go_wp2
          go_roundw
          case rel => exact ⟨k + 1, _, acc, a2, cap2, by omega, by omega, by go_num, rfl, by omega, hsh, HT2, HW2, HB2, HS2, HG2⟩
          case measure => simp [intOf]; omega
        · have t1 : T.toList = [] → False := by
            intro e; apply hs0; have := (toList_iff T ⟨#[]⟩).1 (e.trans (by decide +kernel)); rw [this]; rfl
          have t2 : T.toList.isEmpty = false := by
            cases h : T.toList with
            | nil => exact absurd h t1
            | cons _ _ => rfl
          have HT2 := Lib.hid (show trailOf (.fault cd T :: M) = T :: acc by rw [← hT.out]; simp [trailOf, hs0])
          have hown := own_str w2 T
          rcases hsh with ⟨rfl, rfl, rfl⟩ | hne
          · go_wp2_with (at_builtin; refine wpList_append_own_none rfl _ _ 28 rfl w2.heap.size 9 i0 1 Tryd.underlying28 hi _ _ _ rfl hown rfl ?_)
            have HA := Lib.hid (show [T] ≠ [] by simp)
            have HS9 := Lib.hid (show Strs (w2.alloc (.cells #[.string T] 9)) (some ⟨w2.heap.size, 0, none⟩) [T] from by
              obtain ⟨a9, cap9, hv9, hr9⟩ := strs_of_row (l := [T]) (show _ from hown) (fun s hs => by simp at hs; subst hs; omega) (by simp)
              injection hv9 with hv9a hv9b hv9c
              subst hv9a
              exact hr9)
            have HG9 := Lib.hid (HG2.out.alloc (.cells #[.string T] 9))
            have HB9 := Lib.hid (HB2.out.gr ((Gr.refl w2).alloc (.cells #[.string T] 9)))
            clear hown
            go_wp2
            go_roundw
            case rel => exact ⟨k + 1, _, [T], _, 1, by omega, by omega, by go_num, rfl, by simp, .inr HA.out, HT2, HW2, HB9, HS9, HG9⟩
            case measure => simp [intOf]; omega
          · obtain ⟨bs, os, rfl, hsrc⟩ := strs_src (HS2.out.gr ((Gr.refl w2).alloc (.cells #[.string T] 9))) hne
            have HSRC := Lib.hid hsrc
            clear hsrc
            go_wp2_with (at_builtin; refine append_own_g (by rfl) _ _ 28 rfl w2.heap.size 9 i0 (.string ⟨#[]⟩) 1 16 Tryd.underlying28 hi hz0 hz1 hz2 rfl (by decide) _ _ _ rfl hown ⟨bs, os, none⟩ acc.length cap2 (strCells acc) rfl (by simp [strCells]) HSRC.out strCells_one ?c3 ?c4 ?c5 ?_)
            case c3 => unfold maxLen; omega
            case c4 => omega
            case c5 => simp
            intro v' w9 hown9 hgrow
            have HG9 := Lib.hid (((Gr.refl w2).alloc _).append hown hgrow)
            have hbd : ∀ s ∈ T :: acc, s.size ≤ 9223372036854775807 := by
              intro s hs
              rcases List.mem_cons.1 hs with rfl | hs
              · omega
              · exact HS2.out.1 s hs
            obtain ⟨a9, cap9, rfl, hr9⟩ := strs_of_row (l := T :: acc) (by rw [List.length_cons, Nat.add_comm]; exact hown9) hbd (by simp; omega)
            have HS9 := Lib.hid hr9
            have HB9 := Lib.hid (HB2.out.gr HG9.out)
            have HGA := Lib.hid (HG2.out.trans HG9.out)
            clear hown9 hgrow hr9 hown hbd
            go_wp2
            go_roundw
            case rel => exact ⟨k + 1, _, T :: acc, a9, cap9, by omega, by omega, by go_num, rfl, by simp; omega, .inr (by simp), HT2, HW2, HB9, HS9, HGA⟩
            case measure => simp [intOf]; omega
    · have hend : k = P.length ∨ k = 20 := by omega
      have HSH := Lib.hid hM3
      have HH := Lib.hid hM4
      have HC := Lib.hid hM2
      obtain ⟨sF, tF, hF⟩ := hM5
      have HF := Lib.hid hF
      have hws := hG.out.size
      clear hM2 hM3 hM4 hF hsh hlt
      have e1 : k = P.length ∨ k < P.length ∧ k = 20 := by omega
      rcases e1 with rfl | ⟨hlt, rfl⟩
      all_goals
        go_wp2_with fail
        refine (trail_any _ M _ (by omega) HSH.out hB.out.chain (HE.out.gr hG.out)).mono ?_
        rw [hT.out]
        rintro e w2 ⟨a4, cap4, rfl, hs4, -, hg2⟩
        have HS4 := Lib.hid hs4
        have HS2 := Lib.hid (hS.out.gr hg2)
        have HB2 := Lib.hid (hB.out.gr hg2)
        have HG2 := Lib.hid (hG.out.trans hg2)
        clear hg2 hs4
        have haccb : acc.length ≤ 1000 := by omega
        go_wp2
        go_loopw [57] (fun i wr => ∃ k : Nat, k ≤ acc.length ∧ i = .int .i64 (k : Nat) ∧ Hid (Gr w2 wr)) (fun i _ => acc.length - (intOf i).toNat)
        case atStart => exact ⟨0, by omega, rfl, Lib.hid (Gr.refl _)⟩
        case round =>
          obtain ⟨j, hj, rfl, hGr⟩ := hrel
          by_cases hjl : j < acc.length
          · obtain ⟨b, off, rfl, hb, hc, hz⟩ := (HS4.out.gr hGr.out).at j hjl
            obtain ⟨b2, off2, rfl, hb2, hc2, hz2⟩ := (HS2.out.gr hGr.out).at j hjl
            have t3 : (j : Int) < acc.length := by omega
            clear hz hz2
            generalize acc[j] = s at *
            go_wp2
            go_quiet (fail)
            go_wp2
            go_roundw
            case rel => exact ⟨j + 1, by omega, by go_num, Lib.hid (hGr.out.drewN _)⟩
            case measure => simp [intOf]; omega
          · obtain rfl : j = acc.length := by omega
            have HBr := Lib.hid (HB2.out.gr hGr.out)
            have HGr := Lib.hid (HG2.out.trans hGr.out)
            have hwr := HGr.out.size
            go_wp2_with fail
            refine (code_any _ M _ (by omega) (HBr.out.gr ((Gr.refl wr).alloc _)).chain ((HE.out.gr HGr.out).gr ((Gr.refl wr).alloc _))).mono ?_
            rintro e w4 ⟨rfl, hg4⟩
            rw [HC.out]
            have HG4 := Lib.hid hg4
            have HR4 := Lib.hid ((Gr.refl wr).alloc (.cells #[.pointer none] 45) |>.trans hg4)
            have hs4 := HR4.out.size
            clear hg4
            have q1 : (cd == cd) = true := by simp
            go_wp2_with fail
            refine (ofB_any cd _ tc).mono ?_
            rintro e w5 ⟨ut, rfl, hut, hg5⟩
            obtain ⟨nt, vt, rfl, hnt, hbt, hvt⟩ := hut
            obtain rfl : vt = .nilIface := hvt
            have HTg := Lib.hid (show Target w5 nt cd true from ⟨_, hbt, .inl ⟨rfl, rfl⟩⟩)
            have HR5 := Lib.hid (HR4.out.trans hg5)
            have HG5 := Lib.hid (HG4.out.trans hg5)
            have HN5 := Lib.hid ((HBr.out.mono (ok' := (· ≠ nt)) (fun b hb _ => by omega)).gr HR5.out)
            clear hg5 hbt
            go_wp2_with fail
            refine (isTop_any _ M nt cd true _ _ HN5.out (Gr.refl _) HTg.out).mono ?_
            rintro e w6 ⟨rfl, hg6⟩
            rw [HH.out, Bool.true_and]
            have HR6 := Lib.hid (HR5.out.trans hg6)
            have HG6 := Lib.hid (HG5.out.trans hg6)
            clear hg6
            go_wp2_with fail
            refine (asTop_any _ M wr.heap.size (.pointer none) wr _ HBr.out.chain HR6.out (HG6.out.cell (new_cell rfl rfl)) ((HG6.out.frozen (by simp)).trans (new_free rfl)) ((HE.out.gr HGr.out).gr HR6.out)).mono ?_
            intro e w7 hA
            obtain ⟨rfl, bf, hfa, hh⟩ := asIs_some HF.out hA
            have hgr := hh.gr HR6.out (Nat.le_refl _)
            obtain ⟨k0, -, -⟩ := hfa.gr hgr
            have fc := hh.2.1
            have HGE := Lib.hid (HGr.out.trans hgr)
            clear hA hh hgr hfa
            go_wp2
            go_ret
            exact ⟨by first | rfl | (simp; done), HGE.out⟩
end Go.Proofs.YtgbicckclepplaaDoor
