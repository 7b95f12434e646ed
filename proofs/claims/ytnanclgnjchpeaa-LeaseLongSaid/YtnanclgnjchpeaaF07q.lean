import Derived.Test.YtnanclgnjchpeaaC01
import Derived.Test.YtnanclgnjchpeaaF07p
import Derived.Test.YtnanclgnjchpeaaM07e
import Derived.Test.YtnanclgnjchpeaaM07b
import Derived.WalkKit
import Derived.ProofKit
import Derived.LoopTactic
import Derived.Outline
import Derived.WalkSpells
import Derived.WalkLawsBesides
import Derived.Lib.Hide
import Derived.Deep.LoopGhost
import Derived.Deep.QuietTactic
import Derived.BigQuiet
import Derived.ShutString
import Derived.IntWalk
import Derived.Laws.AppendOwn
import Derived.Laws.Bits64b
namespace Go.Proofs.Ytnanclgnjchpeaa
open Go.ChangeShapes Go.WideShapes Go.ChangeAt Go.RowKit
open Grids
set_option linter.unusedVariables false
set_option linter.unusedSimpArgs false
theorem w32_or (a b : Nat) (ha : a < 4294967296) (hb : b < 4294967296) : bits .or .u32 (a : Int) (b : Int) = ((a ||| b : Nat) : Int) :=
  (bits_nat .u32 32 (by decide) wraps_u32 a b ha hb).2
theorem set_step {l : List Int} {k : Nat} (h : k < l.length) : setL (l.take (k + 1)) = setL (l.take k) ||| one l[k] := by
  rw [List.take_succ_eq_append_getElem h, setL_snoc]
theorem one_in {n : Nat} (h : n < 32) : one (n : Int) = 2 ^ n := by unfold one; rw [if_pos (by omega)]; rfl
theorem one_out {z : Int} (h : z < 0 ∨ 32 ≤ z) : one z = 0 := by unfold one; rw [if_neg (by omega)]
set_option maxHeartbeats 1000000 in
theorem set_any (l : List Int) (a : Option Addr) (cap : Nat) (w : World) (h : Ints w a l) :
    Calls Try.prog 187 #[.slice a l.length cap] w fun e w' => e = .returned (.int .u32 (setL l : Nat)) ∧ w = w' := by
  obtain ⟨hl, -, hc⟩ := h
  have HE := Lib.hid (show setL l = setL (l.take l.length) by rw [List.take_length])
  go_enter Try.func187, Try.ntmps187
  go_wp2
  go_loop [3, 8] (fun v i => ∃ k : Nat, k ≤ l.length ∧ i = .int .i64 (k : Nat) ∧ v = .int .u32 (setL (l.take k) : Nat)) (fun _ i => l.length - (intOf i).toNat)
  case atStart => exact ⟨0, by omega, rfl, rfl⟩
  case round =>
    obtain ⟨k, hk, rfl, rfl⟩ := hrel
    by_cases hlt : k < l.length
    · obtain ⟨b, off, rfl, hcc⟩ := hc.resolve_left (by intro e; rw [e] at hlt; simp at hlt)
      have c0 := hcc k hlt
      have HS := Lib.hid (set_step hlt)
      have hsl := setL_lt (l.take k)
      clear hcc hc
      generalize l[k] = z at *
      generalize setL (l.take k) = s at *
      rcases (show z < 0 ∨ 32 ≤ z ∨ 0 ≤ z ∧ z < 32 by omega) with hz | hz | ⟨hz0, hz⟩
      · have E := Lib.hid (show s ||| one z = s by rw [one_out (.inl hz), Nat.or_zero])
        go_wp2
        go_round
        case rel => exact ⟨k + 1, by omega, by go_num, by rw [HS.out, E.out]⟩
        case measure => simp [intOf]; omega
      · have E := Lib.hid (show s ||| one z = s by rw [one_out (.inr hz), Nat.or_zero])
        go_wp2
        go_round
        case rel => exact ⟨k + 1, by omega, by go_num, by rw [HS.out, E.out]⟩
        case measure => simp [intOf]; omega
      · obtain ⟨n, rfl⟩ := Int.eq_ofNat_of_zero_le hz0
        have hn : n < 32 := by omega
        have hp : 2 ^ n < 4294967296 := Nat.lt_of_lt_of_le (Nat.pow_lt_pow_right (by decide) hn) (by decide)
        have hw := w32_or s (2 ^ n) hsl hp
        have hx : (2 : Int) ^ n % 4294967296 = ((2 ^ n : Nat) : Int) := by
          obtain ⟨m, e1, e2⟩ : ∃ m : Nat, 2 ^ n = m ∧ (2 : Int) ^ n = (m : Int) := ⟨2 ^ n, rfl, by simp⟩
          rw [e1] at hp ⊢; rw [e2]; omega
        rw [← hx] at hw
        clear hx
        have HW := Lib.hid hw
        clear hw
        have E := Lib.hid (show s ||| one (n : Int) = s ||| 2 ^ n by rw [one_in hn])
        clear hp
        go_wp2
        go_round
        case rel => exact ⟨k + 1, by omega, by go_num, by rw [HS.out, E.out, ← HW.out]⟩
        case measure => simp [intOf]; omega
    · obtain rfl : k = l.length := by omega
      go_wp2
      go_ret
      exact ⟨by rw [HE.out]; rfl, rfl⟩
/-- Nodes as numbers. -/
def ints (P : List Nat) : List Int := P.map fun n : Nat => (n : Int)
theorem ints_of_row {w : World} {base : Nat} {e : TypeId} {v : Value} {n : Nat} {l : List Int} (h : w.ownsRow base e 1 v n (l.map (Value.int .i64))) (hz : ∀ z ∈ l, (Lit.int .i64 z).wf = true) (hl : l.length ≤ 9223372036854775807) :
    ∃ a cap, v = .slice a n cap ∧ n = l.length ∧ Ints w a l := by
  have hn : n = l.length := by have := h.1; simpa using this.symm
  subst hn
  obtain ⟨a, cap, rfl, h1⟩ := ownsRow_slice h
  refine ⟨a, cap, rfl, rfl, hl, hz, ?_⟩
  rcases h1 with ⟨rfl, h0⟩ | ⟨g, rfl, _, hc⟩
  · exact .inl (List.length_eq_zero_iff.1 h0)
  · refine .inr ⟨g, 0, rfl, fun i hi => ?_⟩
    simp only [Nat.zero_add]
    exact hc i _ (by simp [hi])
theorem info_int : (Try.prog.info? 3).map (fun i => (i.zero, i.size, i.bytes)) = some (some (.int .i64 0), 1, 8) := by kernel_rfl
theorem ints_wf {P : List Nat} (h : ∀ n ∈ P, n < 32) : ∀ z ∈ ints P, (Lit.int .i64 z).wf = true := by
  intro z hz
  obtain ⟨n, hn, rfl⟩ := List.mem_map.1 hz
  have := h n hn
  simp [Lit.wf, IntKind.min, IntKind.max, IntKind.signed, IntKind.bits]
  omega
theorem and_less {y : Nat} (h : y ≠ 0) : y &&& (y - 1) < y := Nat.lt_of_le_of_lt Nat.and_le_right (by omega)
def ListIs (x : Nat) (w : World) (e : Ending) (w' : World) : Prop := ∃ a cap, e = .returned (.slice a (ints (bitsL x)).length cap) ∧ Ints w' a (ints (bitsL x)) ∧ Gr w w'
theorem listIs_mk {x : Nat} {P : List Nat} {v : Value} {w w' : World} (hP : P = bitsL x) (ho : w'.ownsRow w.heap.size 3 1 v P.length ((ints P).map (Value.int .i64))) (hg : Gr w w') : ListIs x w (.returned v) w' := by
  subst hP
  have hl : (ints (bitsL x)).length ≤ 9223372036854775807 := by
    have h1 := bitsL_len x
    have h2 := cnt_le x.testBit 32
    simp [ints]; omega
  obtain ⟨a, cap, rfl, hn, hi⟩ := ints_of_row ho (ints_wf fun n hn => (bitsL_mem hn).1) hl
  exact ⟨a, cap, by rw [hn], hi, hg⟩
end Go.Proofs.Ytnanclgnjchpeaa
