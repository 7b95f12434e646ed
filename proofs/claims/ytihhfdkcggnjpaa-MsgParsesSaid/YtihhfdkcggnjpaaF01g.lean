import Derived.Test.YtihhfdkcggnjpaaK1
import Derived.Test.YtihhfdkcggnjpaaSh0
import Derived.WalkKit
import Derived.ProofKit
import Derived.LoopTactic
import Derived.Outline
import Derived.WalkSpells
import Derived.WalkLawsBesides
import Derived.Lib.Hide
import Derived.Deep.LoopGhost
import Derived.Deep.QuietTactic
import Derived.BigQuiet
import Derived.ShutString
namespace Go.Proofs.Ytihhfdkcggnjpaa
open Go.ChangeShapes Go.WideShapes Go.ChangeAt Go.RowKit
open Enc
set_option linter.unusedVariables false
theorem clone_c (s : ByteArray) (w : World) (hlim : s.size ≤ 281474976710656) :
    Calls Try.prog 159 #[.string s] w fun e w' => e = .returned (.string s) ∧ Gr w w' := by
  go_enter Try.func159, Try.ntmps159
  go_wp2_with fail
  refine (Try.stringslite_Clone s _ hlim).mono ?_
  rintro e w' ⟨rfl, hb⟩
  go_wp2
  go_ret
  exact ⟨rfl, hb⟩
theorem ex_le (r : ByteArray) (a b : Nat) : (r.extract a b).size ≤ r.size := by simp; omega
theorem uR_le (r1 : ByteArray) (m : Nat) : (uR r1 m).1.size ≤ r1.size := by
  unfold uR
  by_cases h1 : more m = 0
  · rw [if_pos h1]
    by_cases h2 : first m = m
    · rw [if_pos h2]; exact Nat.le_refl _
    · rw [if_neg h2]; exact Nat.le_refl _
  · rw [if_neg h1]
    by_cases h2 : r1.size < more m
    · rw [if_pos h2]; exact Nat.le_refl _
    · rw [if_neg h2]
      by_cases h3 : first (num8 (bytesOf (r1.extract 0 (more m)))) = m
      · rw [if_pos h3]; exact ex_le _ _ _
      · rw [if_neg h3]; exact ex_le _ _ _
theorem uS_le (r : ByteArray) (e : Nat) : (uS r e).1.size ≤ r.size := by
  unfold uS
  by_cases h1 : e ≠ 0
  · rw [if_pos h1]; exact Nat.le_refl _
  · rw [if_neg h1]
    by_cases h2 : r.size < 1
    · rw [if_pos h2]; exact Nat.le_refl _
    · rw [if_neg h2]; exact Nat.le_trans (uR_le _ _) (ex_le _ _ _)
theorem nS_le (r : ByteArray) (e : Nat) (most : Int) : (nS r e most).1.size ≤ r.size := by
  unfold nS
  by_cases h : (max most 0).toNat < (uS r e).2.2
  · rw [if_pos h]; exact uS_le r e
  · rw [if_neg h]; exact uS_le r e
theorem takeS_le (r : ByteArray) (e n : Nat) : (takeS r e n).1.size ≤ r.size ∧ (takeS r e n).2.2.size ≤ r.size := by
  unfold takeS
  by_cases h1 : e ≠ 0
  · rw [if_pos h1]; exact ⟨Nat.le_refl _, Nat.zero_le _⟩
  · rw [if_neg h1]
    by_cases h2 : r.size < n
    · rw [if_pos h2]; exact ⟨Nat.le_refl _, Nat.zero_le _⟩
    · rw [if_neg h2]; exact ⟨ex_le _ _ _, ex_le _ _ _⟩
def sS (r : ByteArray) (e : Nat) (most : Int) : ByteArray × Nat × ByteArray := takeS (nS r e most).1 (nS r e most).2.1 (nS r e most).2.2
def SIs (p : Nat) (r : ByteArray) (e : Nat) (most : Int) (w : World) (en : Ending) (w' : World) : Prop :=
  en = .returned (.string (sS r e most).2.2) ∧ RdIs w' p (sS r e most).1 (sS r e most).2.1 ∧ Only p w w'
theorem rS_any (p : Nat) (r : ByteArray) (e : Nat) (most : Int) (hb : most ≤ 9223372036854775807) (hr : r.size ≤ 1000000000) (w : World) (h : RdIs w p r e) :
    Calls Try.prog 177 #[.pointer (some ⟨p, 0, none⟩), .int .i64 most] w (SIs p r e most w) := by
  have H := Lib.hid h
  clear h
  have hz : (takeS (nS r e most).1 (nS r e most).2.1 (nS r e most).2.2).2.2.size ≤ 1000000000 :=
    Nat.le_trans (takeS_le _ _ _).2 (Nat.le_trans (nS_le r e most) hr)
  have HZ := Lib.hid hz
  clear hz
  go_enter Try.func177, Try.ntmps177
  go_wp2_with fail
  refine (rN_any p r e most hb _ H.out).mono ?_
  rintro en w1 ⟨rfl, hR, hO⟩
  have HS : Hid (sS r e most = takeS (nS r e most).1 (nS r e most).2.1 (nS r e most).2.2) := rfl
  generalize (nS r e most).1 = r1 at *
  generalize (nS r e most).2.1 = e1 at *
  generalize (nS r e most).2.2 = n1 at *
  have HR := Lib.hid hR
  clear hR
  go_wp2_with fail
  refine (take_any p r1 e1 n1 _ rfl _ HR.out).mono ?_
  rintro en w2 ⟨rfl, hR2, hO2⟩
  obtain ⟨a, b, c, hT⟩ : ∃ a b c, takeS r1 e1 n1 = (a, b, c) := ⟨_, _, _, rfl⟩
  have HT := Lib.hid hT
  rw [hT] at hR2
  rw [hT]
  have HR2 := Lib.hid hR2
  have hcz : c.size ≤ 1000000000 := by have := HZ.out; rw [hT] at this; exact this
  clear hR2 hT
  go_wp2_with fail
  refine (clone_c c _ (by omega)).mono ?_
  rintro en w3 ⟨rfl, hg⟩
  go_wp2
  go_ret
  have hS : sS r e most = (a, b, c) := HS.out.trans HT.out
  exact ⟨by rw [hS]; rfl, by rw [hS]; exact HR2.out.gr hg, (hO.trans hO2).trans (Only.of_gr hg)⟩
theorem WrIs.gr {w w' : World} {p : Nat} {l : List UInt8} (h : WrIs w p l) (hg : Gr w w') : WrIs w' p l := by
  obtain ⟨a, c, hc, hf, hp, hown⟩ := h
  exact ⟨a, c, hg.cell hc, (hg.frozen hp).trans hf, Nat.lt_of_lt_of_le hp hg.size, ownsRow_gr hg hown⟩
theorem new_writer (w : World) : WrIs (w.alloc (.cells #[.slice none 0 0] 111)) w.heap.size [] :=
  ⟨none, 0, new_cell rfl rfl, new_free rfl, by simp, World.ownsRow_nil _ _ _ _⟩
theorem new_writer_free (w : World) (b : Nat) : Free (w.alloc (.cells #[.slice none 0 0] 111)) w.heap.size b := by
  intro v hv
  rw [new_cell (i := 0) rfl rfl] at hv
  simp only [Option.some.injEq] at hv
  subst hv
  simp [Value.ownBlock]
theorem Free.gr {w w' : World} {p b : Nat} (h : Free w p b) (hp : p < w.heap.size) (hg : Gr w w') : Free w' p b := by
  intro v hv
  rw [Below.cell hg (p := ⟨p, 0, none⟩) hp] at hv
  exact h v hv
/-- What the Writer in block p, which was made behind w0, turns is behind w0. -/
theorem gr_below {w0 w w' : World} {p : Nat} (hg : Gr w0 w) (hp : w0.heap.size ≤ p) (hb : Below p w w') : Gr w0 w' := Below.trans hg (hb.mono hp)
end Go.Proofs.Ytihhfdkcggnjpaa
