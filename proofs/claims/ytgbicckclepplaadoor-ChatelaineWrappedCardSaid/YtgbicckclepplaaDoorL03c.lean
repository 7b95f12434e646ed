import Derived.Test.YtgbicckclepplaaDoorF03j
import Derived.Test.YtgbicckclepplaaDoorL03a
import Derived.WalkKit
import Derived.ProofKit
import Derived.LoopTactic
import Derived.Outline
import Derived.WalkSpells
import Derived.WalkLawsBesides
import Derived.Lib.Hide
import Derived.Deep.LoopGhost
import Derived.Deep.QuietTactic
import Derived.BigQuiet
import Derived.ShutString
import Derived.Laws.Pointers
import Derived.Deep.QuietTactic
import Derived.BigQuiet
namespace Go.Proofs.YtgbicckclepplaaDoor
open Go.ChangeShapes Go.WideShapes Go.ChangeAt Go.RowKit
set_option linter.unusedVariables false
/-- The text of any chain: nothing for none. -/
def textP (M : List Lk) : ByteArray := match M with
  | [] => ⟨#[]⟩
  | _ :: _ => ofP (textOf M)
theorem textP_ne {M : List Lk} (h : M ≠ []) : textP M = ofP (textOf M) := by
  cases M with
  | nil => exact absurd rfl h
  | cons _ _ => rfl
theorem text_all (v : Value) (M : List Lk) (w : World) (hL : M.length ≤ 1000) (hs : Short 1000 M) (hc : Codes M) (h : Chain w v M) (he : ET w) :
    Calls Tryd.prog 17 #[v] w fun e w' => e = .returned (.string (textP M)) ∧ Gr w w' := by
  by_cases hne : M = []
  · subst hne
    obtain rfl : v = .nilIface := h
    exact (text_nil w).mono fun e w' ⟨h1, h2⟩ => ⟨h1, by subst h2; exact Gr.refl _⟩
  · obtain ⟨i, hi, hi2⟩ := code_nat hc
    rw [textP_ne hne]
    exact text_any v M i w hL hne hs hi hi2 h he
theorem refText_all (L : List LinkD) (a : Option Addr) (cap : Nat) (w : World) (hst : LinkRow w a L) (hL : L.length ≤ 1000) (hs : ∀ p ∈ L, p.small) :
    Calls Tryd.prog 18 #[.slice a L.length cap] w fun e w' => e = .returned (.string (textP (L.map lkOf))) ∧ Gr w w' := by
  by_cases hne : L = []
  · subst hne
    exact (refText_nil a cap w).mono fun e w' ⟨h1, h2⟩ => ⟨h1, by subst h2; exact Gr.refl _⟩
  · rw [textP_ne (by simpa using hne)]
    exact refText_any L a cap w hst hL hs hne
theorem textP_bd {M : List Lk} (hL : M.length ≤ 1000) (hs : Short 1000 M) (hc : Codes M) : (textP M).size ≤ 2000000 := by
  cases M with
  | nil => show 0 ≤ _; omega
  | cons x t =>
    obtain ⟨i, hi, hi2⟩ := code_nat hc
    have h1 := trail_short hs
    have h2 := placesOf_le _ h1.1
    have h3 := decDigits_le i hi2
    show (ofP (textOf (x :: t))).size ≤ _
    rw [ofP_size]
    unfold textOf
    rw [hi]
    simp only [List.length_append, List.length_cons, List.length_nil, Int.toNat_natCast]
    have h4 : (trailOf (x :: t)).length ≤ 1000 := Nat.le_trans h1.2 hL
    omega
set_option maxRecDepth 100000 in
set_option maxHeartbeats 1000000 in
theorem faultTells_walk (L : List LinkD) (a : Option Addr) (cap : Nat) (w : World) (hst : LinkRow w a L) (he : ET w) :
    Calls Tryd.prog 3 #[.slice a L.length cap] w fun e w' => e = .returned (.bool true) ∧ Gr w w' := by
  have HST := Lib.hid hst
  have HE := Lib.hid he
  have hk := fewKs_small L
  have hkl := fewKs_len L
  clear hst he
  go_enter Tryd.func3, Tryd.ntmps3
  go_wp2_with fail
  refine (awake3 _ HE.out).mono ?_
  rintro e w1 ⟨rfl, hg1⟩
  have HG1 := Lib.hid hg1
  clear hg1
  go_wp2_with fail
  refine (few3_any L a cap _ (HST.out.gr HG1.out)).mono ?_
  rintro e w2 ⟨a2, cap2, rfl, hrow, hg2⟩
  have HR := Lib.hid hrow
  have HG2 := Lib.hid (HG1.out.trans hg2)
  clear hrow hg2
  generalize fewKs L = K at *
  have HK := Lib.hid hk
  have hK10 : K.length ≤ 10 := by omega
  clear hk hkl
  go_wp2_with fail
  refine (chain_any K a2 cap2 _ HR.out (by omega)).mono ?_
  rintro e w3 ⟨u, rfl, hch, hg3⟩
  have HC := Lib.hid hch
  have HR3 := Lib.hid (HR.out.gr hg3)
  have HG3 := Lib.hid (HG2.out.trans hg3)
  clear hg3 hch
  have hml : (K.map lkOf).length ≤ 1000 := by simp; omega
  go_wp2_with fail
  refine (trail_any u _ _ hml (chain_short HK.out) HC.out (HE.out.gr HG3.out)).mono ?_
  rintro e w4 ⟨a4, cap4, rfl, hs4, -, hg4⟩
  have HS4 := Lib.hid hs4
  have HC4 := Lib.hid (HC.out.gr hg4)
  have HR4 := Lib.hid (HR3.out.gr hg4)
  have HG4 := Lib.hid (HG3.out.trans hg4)
  clear hg4 hs4
  go_wp2_with fail
  refine (refTrail_any K a2 cap2 _ HR4.out (by omega) (fun p hp => by have := (HK.out p hp).2.2; omega)).mono ?_
  rintro e w5 ⟨a5, cap5, rfl, hs5, -, hg5⟩
  have HS5 := Lib.hid hs5
  have HS4b := Lib.hid (HS4.out.gr hg5)
  have HC5 := Lib.hid (HC4.out.gr hg5)
  have HR5 := Lib.hid (HR4.out.gr hg5)
  have HG5 := Lib.hid (HG4.out.trans hg5)
  have HTL := Lib.hid (trail_short (chain_short HK.out))
  clear hg5 hs5
  generalize trailOf (K.map lkOf) = T at *
  have hTn : T.length ≤ 1000 := Nat.le_trans HTL.out.2 hml
  go_wp2
  go_loopw [24] (fun i wr => ∃ k : Nat, k ≤ T.length ∧ i = .int .i64 (k : Nat) ∧ Hid (Gr w5 wr)) (fun i _ => T.length - (intOf i).toNat)
  case atStart => exact ⟨0, by omega, rfl, Lib.hid (Gr.refl _)⟩
  case round =>
    obtain ⟨k, hk, rfl, hG⟩ := hrel
    by_cases hlt : k < T.length
    · obtain ⟨b, off, rfl, hb, hc, hz⟩ := (HS4b.out.gr hG.out).at k hlt
      obtain ⟨b2, off2, rfl, hb2, hc2, hz2⟩ := (HS5.out.gr hG.out).at k hlt
      have t3 : (k : Int) < T.length := by omega
      clear hz hz2
      generalize T[k] = s at *
      go_wp2
      go_quiet (fail)
      go_wp2
      go_roundw
      case rel => exact ⟨k + 1, by omega, by go_num, Lib.hid (hG.out.drewN _)⟩
      case measure => simp [intOf]; omega
    · obtain rfl : k = T.length := by omega
      have HB := Lib.hid (textP_bd hml (chain_short HK.out) (codes_small HK.out))
      have HG6 := Lib.hid (HG5.out.trans hG.out)
      go_wp2_with fail
      refine (code_any u _ _ hml (HC5.out.gr hG.out) (HE.out.gr HG6.out)).mono ?_
      rintro e w6 ⟨rfl, hg6⟩
      have HC6 := Lib.hid ((HC5.out.gr hG.out).gr hg6)
      have HR6 := Lib.hid ((HR5.out.gr hG.out).gr hg6)
      have HG7 := Lib.hid (HG6.out.trans hg6)
      clear hg6
      go_wp2_with fail
      refine (refCode_any K a2 cap2 _ HR6.out).mono ?_
      rintro e w7 ⟨rfl, hg7⟩
      have HC7 := Lib.hid (HC6.out.gr hg7)
      have HR7 := Lib.hid (HR6.out.gr hg7)
      have HG8 := Lib.hid (HG7.out.trans hg7)
      clear hg7
      generalize codeOf (K.map lkOf) = cd at *
      go_wp2_with fail
      refine (text_all u _ _ hml (chain_short HK.out) (codes_small HK.out) HC7.out (HE.out.gr HG8.out)).mono ?_
      rintro e w8 ⟨rfl, hg8⟩
      have HR8 := Lib.hid (HR7.out.gr hg8)
      have HG9 := Lib.hid (HG8.out.trans hg8)
      clear hg8
      go_wp2_with fail
      refine (refText_all K a2 cap2 _ HR8.out (by omega) HK.out).mono ?_
      rintro e w9 ⟨rfl, hg9⟩
      have HGA := Lib.hid (HG9.out.trans hg9)
      clear hg9
      generalize textP (K.map lkOf) = tx at *
      go_wp2
      go_ret
      exact ⟨by first | rfl | (simp; done), HGA.out⟩
end Go.Proofs.YtgbicckclepplaaDoor
