import Derived.Test.YtegapeplbincnaaDoorF07q
import Derived.Test.YtegapeplbincnaaDoorF07o
import Derived.WalkKit
import Derived.ProofKit
import Derived.LoopTactic
import Derived.Outline
import Derived.WalkSpells
import Derived.WalkLawsBesides
import Derived.Lib.Hide
import Derived.Deep.LoopGhost
import Derived.Deep.QuietTactic
import Derived.BigQuiet
import Derived.ShutString
import Derived.IntWalk
namespace Go.Proofs.YtegapeplbincnaaDoor
open Go.ChangeShapes Go.WideShapes Go.ChangeAt Go.RowKit
open Grids
set_option linter.unusedVariables false
set_option linter.unusedSimpArgs false
theorem set2_any (l : List Int) (n : Nat) (a : Option Addr) (cap : Nat) (w : World) (hn : n = l.length) (h : Ints w a l) :
    Calls Tryd.prog 8 #[.slice a n cap] w fun e w' => e = .returned (.int .u32 (setL l : Nat)) ∧ w = w' := by
  subst hn; exact set_any l a cap w h
theorem list2_any (x : Nat) (w : World) (hx : x < 4294967296) (hT : TB w) : Calls Tryd.prog 10 #[.int .u32 x] w fun e w' => ∃ a cap, e = .returned (.slice a (bitsL x).length cap) ∧ Ints w' a (ints (bitsL x)) ∧ Gr w w' :=
  (list_any x w hx hT).mono fun e w' ⟨a, cap, h1, h2, h3⟩ => ⟨a, cap, by rw [h1]; simp [ints], h2, h3⟩
/-- What the walk needs of a set's list. -/
def UpTo (B : List Int) (x : Nat) : Prop := (∀ i (h : i < B.length), ∃ m : Nat, B[i] = (m : Int) ∧ m < 32 ∧ x.testBit m = true) ∧ (∀ i j (h : i < j) (hj : j < B.length), B[i]'(Nat.lt_trans h hj) < B[j])
theorem upTo_bits (x : Nat) : UpTo (ints (bitsL x)) x := by
  refine ⟨fun i h => ?_, fun i j h hj => ?_⟩
  · have h' : i < (bitsL x).length := by simpa [ints] using h
    exact ⟨(bitsL x)[i], by simp [ints], bitsL_mem (List.getElem_mem h')⟩
  · have hj' : j < (bitsL x).length := by simpa [ints] using hj
    have := List.pairwise_iff_getElem.1 (bitsL_up x) i j (by omega) hj' h
    simpa [ints] using this
set_option maxRecDepth 100000 in
set_option maxHeartbeats 2000000 in
theorem gridSets_walk (l : List Int) (a : Option Addr) (cap : Nat) (x : Int) (w : World) (h : Ints w a l) (hcap : l.length ≤ cap) (wx : (Lit.int .u32 x).wf = true) (hT : TB w) :
    Calls Tryd.prog 3 #[.slice a l.length cap, .int .u32 x] w fun e w' => e = .returned (.bool true) ∧ Gr w w' := by
  have bx := bounds_u32 wx
  obtain ⟨x, rfl⟩ := Int.eq_ofNat_of_zero_le bx.1
  have hx : x < 4294967296 := by omega
  clear bx wx
  have hl := h.1
  by_cases h40 : 40 < l.length
  · skip
    obtain ⟨b0, off0, rfl⟩ : ∃ b off, a = some ⟨b, off, none⟩ := by
      rcases h.2.2 with e | ⟨b, off, e, _⟩
      · rw [e] at h40; simp at h40
      · exact ⟨b, off, e⟩
    have h0 := h.take 40
    have hn : 40 = (l.take 40).length := by simp; omega
    generalize l.take 40 = L at *
    have hN : 40 ≤ 40 := by omega
    have HN := Lib.hid hn
    have hNl : ∀ k : Nat, k < 40 → k < L.length := fun k hk => by omega
    have HNL := Lib.hid hNl
    have A1 := Lib.hid (fun i (hi : i < L.length) (h0 : 0 ≤ L[i]) (h1 : L[i] < 32) => (setL_bit L L[i].toNat).2 ⟨by omega, by rw [Int.toNat_of_nonneg h0]; exact List.getElem_mem hi⟩)
    have A2 := setL_lt L
    have A3 := Lib.hid (show (bitsL (setL L)).length ≤ 40 by rw [bitsL_len]; have := cnt_setL L; omega)
    clear hn hNl h
    go_enter Tryd.func3, Tryd.ntmps3
    go_wp2_with fail
    refine (awake07_any w).mono ?_
    rintro e w1 ⟨rfl, hg⟩
    have h1 := Lib.hid (h0.gr hg)
    have HT := Lib.hid (hT.gr hg)
    have HG := Lib.hid hg
    clear h0 hg hT
    go_wp2_with fail
    refine (set2_any L _ _ _ _ HN.out h1.out).mono ?_
    rintro e w2 ⟨rfl, rfl⟩
    generalize setL L = A at *
    go_wp2
    go_loop [23] (fun i => ∃ k : Nat, k ≤ 40 ∧ i = .int .i64 (k : Nat)) (fun i => 40 - (intOf i).toNat)
    case atStart => exact ⟨0, by omega, rfl⟩
    case round =>
      obtain ⟨k, hk, rfl⟩ := hrel
      by_cases hlt : k < 40
      · obtain ⟨-, -, hcl⟩ := h1.out
        have hkL := HNL.out k hlt
        obtain ⟨b, off, hab, hcc⟩ := hcl.resolve_left (by intro e; rw [e] at hkL; simp at hkL)
        simp only [Option.some.injEq, Addr.mk.injEq, and_true] at hab
        obtain ⟨rfl, rfl⟩ := hab
        have c0 := hcc k hkL
        have B1 := Lib.hid (A1.out k hkL)
        clear hcc hcl
        generalize L[k] = z at *
        clear hkL
        rcases (show z < 0 ∨ 32 ≤ z ∨ 0 ≤ z ∧ z < 32 by omega) with hz | hz | ⟨hz0, hz⟩
        · go_wp2
          go_round
          case rel => exact ⟨k + 1, by omega, by go_num⟩
          case measure => simp [intOf]; omega
        · go_wp2
          go_round
          case rel => exact ⟨k + 1, by omega, by go_num⟩
          case measure => simp [intOf]; omega
        · obtain ⟨m, rfl⟩ := Int.eq_ofNat_of_zero_le hz0
          have HH := Lib.hid (has_any A m w1 A2 (by omega))
          rw [show A.testBit m = true from B1.out hz0 hz] at HH
          go_wp2_with fail
          refine HH.out.mono ?_
          rintro e w3 ⟨rfl, rfl⟩
          go_wp2
          go_round
          case rel => exact ⟨k + 1, by omega, by go_num⟩
          case measure => simp [intOf]; omega
      · obtain rfl : k = 40 := by omega
        have U := Lib.hid (upTo_bits x)
        have SB := Lib.hid (show setL (ints (bitsL x)) = x from setL_bitsL hx)
        have UL := Lib.hid (show (bitsL x).length = (ints (bitsL x)).length by simp [ints])
        have U32 : (bitsL x).length ≤ 32 := by rw [bitsL_len]; exact cnt_le _ _
        go_wp2_with fail
        refine (list2_any x _ hx HT.out).mono ?_
        rintro e w2 ⟨a2, cap2, rfl, hi2, hg2⟩
        have I2 := Lib.hid hi2
        have HT2 := Lib.hid (HT.out.gr hg2)
        have HG2 := Lib.hid (HG.out.trans hg2)
        clear hi2 hg2 h1
        generalize ints (bitsL x) = B at *
        generalize (bitsL x).length = q at *
        go_wp2
        go_loop [9, 44] (fun v i => ∃ (k : Nat) (z : Int), k ≤ q ∧ i = .int .i64 (k : Nat) ∧ v = .int .i64 z ∧ Hid (∀ j (hj : j < B.length), k ≤ j → z < B[j])) (fun _ i => q - (intOf i).toNat)
        case atStart => exact ⟨0, -1, by omega, rfl, rfl, Lib.hid fun j hj _ => by obtain ⟨m, e, _⟩ := U.out.1 j hj; rw [e]; omega⟩
        case round =>
          obtain ⟨k, z, hk2, rfl, rfl, hz⟩ := hrel
          by_cases hlt2 : k < q
          · obtain ⟨-, -, hcl⟩ := I2.out
            have hkB : k < B.length := by rw [← UL.out]; exact hlt2
            obtain ⟨b, off, rfl, hcc⟩ := hcl.resolve_left (by intro e; rw [e] at hkB; simp at hkB)
            have c0 := hcc k hkB
            have hzk := hz.out k hkB (Nat.le_refl _)
            obtain ⟨m, hm, hm32, hbit⟩ := U.out.1 k hkB
            have HZ : Hid (∀ j (hj : j < B.length), k + 1 ≤ j → (m : Int) < B[j]) := Lib.hid fun j hj hkj => (by have := U.out.2 k j hkj hj; rw [hm] at this; exact this)
            rw [hm] at c0 hzk
            have HH := Lib.hid (has_any x m w2 hx (by omega))
            rw [hbit] at HH
            clear hcc hcl hkB hm hbit hz
            go_wp2_with fail
            refine HH.out.mono ?_
            rintro e w3 ⟨rfl, rfl⟩
            go_wp2
            go_round
            case rel => exact ⟨k + 1, m, by omega, by go_num, rfl, Lib.hid fun j hj hkj => HZ.out j hj hkj⟩
            case measure => simp [intOf]; omega
          · obtain rfl : k = q := by omega
            go_wp2_with fail
            refine (set2_any B _ _ _ _ UL.out I2.out).mono ?_
            rintro e w3 ⟨rfl, rfl⟩
            rw [SB.out]
            go_wp2_with fail
            refine (list2_any A _ A2 HT2.out).mono ?_
            rintro e w3 ⟨a3, cap3, rfl, -, hg3⟩
            have HG3 := Lib.hid (HG2.out.trans hg3)
            have A4 := A3.out
            generalize (bitsL A).length = q3 at *
            clear hg3
            go_wp2
            go_ret
            exact ⟨by first | rfl | (simp; omega), HG3.out⟩
  · skip
    obtain ⟨L, hLd⟩ : ∃ L, L = l := ⟨_, rfl⟩
    have h0 : Ints w a L := by rw [hLd]; exact h
    have hn : l.length = L.length := by rw [hLd]
    clear hLd
    have hN : l.length ≤ 40 := by omega
    have HN := Lib.hid hn
    have hNl : ∀ k : Nat, k < l.length → k < L.length := fun k hk => by omega
    have HNL := Lib.hid hNl
    have A1 := Lib.hid (fun i (hi : i < L.length) (h0 : 0 ≤ L[i]) (h1 : L[i] < 32) => (setL_bit L L[i].toNat).2 ⟨by omega, by rw [Int.toNat_of_nonneg h0]; exact List.getElem_mem hi⟩)
    have A2 := setL_lt L
    have A3 := Lib.hid (show (bitsL (setL L)).length ≤ l.length by rw [bitsL_len]; have := cnt_setL L; omega)
    clear hn hNl h
    go_enter Tryd.func3, Tryd.ntmps3
    go_wp2_with fail
    refine (awake07_any w).mono ?_
    rintro e w1 ⟨rfl, hg⟩
    have h1 := Lib.hid (h0.gr hg)
    have HT := Lib.hid (hT.gr hg)
    have HG := Lib.hid hg
    clear h0 hg hT
    go_wp2_with fail
    refine (set2_any L _ _ _ _ HN.out h1.out).mono ?_
    rintro e w2 ⟨rfl, rfl⟩
    generalize setL L = A at *
    go_wp2
    go_loop [23] (fun i => ∃ k : Nat, k ≤ l.length ∧ i = .int .i64 (k : Nat)) (fun i => l.length - (intOf i).toNat)
    case atStart => exact ⟨0, by omega, rfl⟩
    case round =>
      obtain ⟨k, hk, rfl⟩ := hrel
      by_cases hlt : k < l.length
      · obtain ⟨-, -, hcl⟩ := h1.out
        have hkL := HNL.out k hlt
        obtain ⟨b, off, rfl, hcc⟩ := hcl.resolve_left (by intro e; rw [e] at hkL; simp at hkL)
        have c0 := hcc k hkL
        have B1 := Lib.hid (A1.out k hkL)
        clear hcc hcl
        generalize L[k] = z at *
        clear hkL
        rcases (show z < 0 ∨ 32 ≤ z ∨ 0 ≤ z ∧ z < 32 by omega) with hz | hz | ⟨hz0, hz⟩
        · go_wp2
          go_round
          case rel => exact ⟨k + 1, by omega, by go_num⟩
          case measure => simp [intOf]; omega
        · go_wp2
          go_round
          case rel => exact ⟨k + 1, by omega, by go_num⟩
          case measure => simp [intOf]; omega
        · obtain ⟨m, rfl⟩ := Int.eq_ofNat_of_zero_le hz0
          have HH := Lib.hid (has_any A m w1 A2 (by omega))
          rw [show A.testBit m = true from B1.out hz0 hz] at HH
          go_wp2_with fail
          refine HH.out.mono ?_
          rintro e w3 ⟨rfl, rfl⟩
          go_wp2
          go_round
          case rel => exact ⟨k + 1, by omega, by go_num⟩
          case measure => simp [intOf]; omega
      · obtain rfl : k = l.length := by omega
        have U := Lib.hid (upTo_bits x)
        have SB := Lib.hid (show setL (ints (bitsL x)) = x from setL_bitsL hx)
        have UL := Lib.hid (show (bitsL x).length = (ints (bitsL x)).length by simp [ints])
        have U32 : (bitsL x).length ≤ 32 := by rw [bitsL_len]; exact cnt_le _ _
        go_wp2_with fail
        refine (list2_any x _ hx HT.out).mono ?_
        rintro e w2 ⟨a2, cap2, rfl, hi2, hg2⟩
        have I2 := Lib.hid hi2
        have HT2 := Lib.hid (HT.out.gr hg2)
        have HG2 := Lib.hid (HG.out.trans hg2)
        clear hi2 hg2 h1
        generalize ints (bitsL x) = B at *
        generalize (bitsL x).length = q at *
        go_wp2
        go_loop [9, 44] (fun v i => ∃ (k : Nat) (z : Int), k ≤ q ∧ i = .int .i64 (k : Nat) ∧ v = .int .i64 z ∧ Hid (∀ j (hj : j < B.length), k ≤ j → z < B[j])) (fun _ i => q - (intOf i).toNat)
        case atStart => exact ⟨0, -1, by omega, rfl, rfl, Lib.hid fun j hj _ => by obtain ⟨m, e, _⟩ := U.out.1 j hj; rw [e]; omega⟩
        case round =>
          obtain ⟨k, z, hk2, rfl, rfl, hz⟩ := hrel
          by_cases hlt2 : k < q
          · obtain ⟨-, -, hcl⟩ := I2.out
            have hkB : k < B.length := by rw [← UL.out]; exact hlt2
            obtain ⟨b, off, rfl, hcc⟩ := hcl.resolve_left (by intro e; rw [e] at hkB; simp at hkB)
            have c0 := hcc k hkB
            have hzk := hz.out k hkB (Nat.le_refl _)
            obtain ⟨m, hm, hm32, hbit⟩ := U.out.1 k hkB
            have HZ : Hid (∀ j (hj : j < B.length), k + 1 ≤ j → (m : Int) < B[j]) := Lib.hid fun j hj hkj => (by have := U.out.2 k j hkj hj; rw [hm] at this; exact this)
            rw [hm] at c0 hzk
            have HH := Lib.hid (has_any x m w2 hx (by omega))
            rw [hbit] at HH
            clear hcc hcl hkB hm hbit hz
            go_wp2_with fail
            refine HH.out.mono ?_
            rintro e w3 ⟨rfl, rfl⟩
            go_wp2
            go_round
            case rel => exact ⟨k + 1, m, by omega, by go_num, rfl, Lib.hid fun j hj hkj => HZ.out j hj hkj⟩
            case measure => simp [intOf]; omega
          · obtain rfl : k = q := by omega
            go_wp2_with fail
            refine (set2_any B _ _ _ _ UL.out I2.out).mono ?_
            rintro e w3 ⟨rfl, rfl⟩
            rw [SB.out]
            go_wp2_with fail
            refine (list2_any A _ A2 HT2.out).mono ?_
            rintro e w3 ⟨a3, cap3, rfl, -, hg3⟩
            have HG3 := Lib.hid (HG2.out.trans hg3)
            have A4 := A3.out
            generalize (bitsL A).length = q3 at *
            clear hg3
            go_wp2
            go_ret
            exact ⟨by first | rfl | (simp; omega), HG3.out⟩
end Go.Proofs.YtegapeplbincnaaDoor
