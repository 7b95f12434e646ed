import Derived.Test.YtfcfbecfamemlaaL01n
import Derived.WalkKit
import Derived.ProofKit
import Derived.LoopTactic
import Derived.Outline
import Derived.WalkSpells
import Derived.WalkLawsBesides
import Derived.Lib.Hide
import Derived.Deep.LoopGhost
import Derived.Deep.QuietTactic
import Derived.BigQuiet
import Derived.ShutString
namespace Go.Proofs.Ytfcfbecfamemlaa
open Go.ChangeShapes Go.WideShapes Go.ChangeAt Go.RowKit
open Enc
set_option linter.unusedVariables false
set_option linter.unusedSimpArgs false
theorem refTN_any (r : ByteArray) (e : Nat) (most : Int) (w : World) (hr : r.size ≤ 1000000) (hb : most ≤ 9223372036854775807) :
    Calls Try.prog 89 #[.agg #[.string r, .int .i64 (e : Int)], .int .i64 most] w (RNIs r e most w) := by
  have hz := uS_zero r e
  obtain ⟨a, b, c, hu⟩ : ∃ a b c, uS r e = (a, b, c) := ⟨_, _, _, rfl⟩
  have hN : nS r e most = if (max most 0).toNat < c then (a, 6, 0) else (a, b, c) := by unfold nS; rw [hu]
  rw [hu] at hz
  simp only at hz
  refine refN_walk r a e b c most (max most 0).toNat (by omega) hb w hr (Lib.hid hu) ?_
  by_cases hb0 : b = 0
  · subst hb0
    by_cases hlt : (max most 0).toNat < c
    · exact .inl ⟨rfl, hlt, Lib.hid (by rw [hN, if_pos hlt])⟩
    · exact .inr (.inl ⟨rfl, by omega, Lib.hid (by rw [hN, if_neg hlt])⟩)
  · have hc := hz hb0
    subst hc
    exact .inr (.inr ⟨hb0, Lib.hid (by rw [hN, if_neg (by omega)])⟩)
theorem rn_is {r a : ByteArray} {e b c : Nat} {most : Int} (h : nS r e most = (a, b, c)) (w : World) (hr : r.size ≤ 1000000) (hb : most ≤ 9223372036854775807) :
    Calls Try.prog 89 #[.agg #[.string r, .int .i64 (e : Int)], .int .i64 most] w fun en w' => en = .returned (.tuple #[.agg #[.string a, .int .i64 (b : Int)], .int .i64 (c : Int)]) ∧ Gr w w' := by
  have := refTN_any r e most w hr hb
  unfold RNIs at this
  rwa [h] at this
theorem takeS_left (r : ByteArray) (e n : Nat) : (takeS r e n).1.size ≤ r.size := by
  unfold takeS; split
  · exact Nat.le_refl _
  · split
    · exact Nat.le_refl _
    · simp
theorem uS_left (r : ByteArray) (e : Nat) : (uS r e).1.size ≤ r.size := by
  unfold uS; split
  · exact Nat.le_refl _
  · split
    · exact Nat.le_refl _
    · unfold uR; split
      · split <;> (simp; try omega)
      · split
        · simp
        · split <;> (simp; try omega)
theorem nS_left (r : ByteArray) (e : Nat) (most : Int) : (nS r e most).1.size ≤ r.size := by
  have := uS_left r e
  unfold nS; split <;> exact this
theorem nS_most (r : ByteArray) (e : Nat) (most : Int) : (nS r e most).2.2 ≤ (max most 0).toNat := by
  unfold nS; split
  · exact Nat.zero_le _
  · rename_i h; omega
set_option maxRecDepth 100000 in
set_option maxHeartbeats 1000000 in
theorem rs_is {r a S : ByteArray} {e b : Nat} {most : Int} (h : sS r e most = (a, b, S)) (w : World) (hr : r.size ≤ 1000000) (hb : most ≤ 9223372036854775807) :
    Calls Try.prog 75 #[.agg #[.string r, .int .i64 (e : Int)], .int .i64 most] w fun en w' => en = .returned (.tuple #[.agg #[.string a, .int .i64 (b : Int)], .string S]) ∧ Gr w w' := by
  obtain ⟨a1, b1, c1, hn⟩ : ∃ a b c, nS r e most = (a, b, c) := ⟨_, _, _, rfl⟩
  have hl := nS_left r e most
  have hm := nS_most r e most
  unfold sS at h
  rw [hn] at h hl hm
  simp only at h hl hm
  have NN := Lib.hid (fun w => rn_is hn w hr (by omega))
  have TT := Lib.hid (fun w => rtake_is h w (by omega) (by omega))
  clear h hn hl hm hr
  go_enter Try.func75, Try.ntmps75
  go_wp2_with fail
  refine (NN.out _).mono ?_
  rintro en w1 ⟨rfl, hg⟩
  have o0 : w1.cell? ⟨w.heap.size + 1, 0, none⟩ = some (.string ⟨#[]⟩) := by simpa using hg.own.1 0 _ rfl
  have o1 : w1.cell? ⟨w.heap.size + 1, 1, none⟩ = some (.int .i64 0) := by simpa using hg.own.1 1 _ rfl
  have o2 : w1.frozen? ⟨w.heap.size + 1, 0, none⟩ = false := by simpa using hg.own.2.1 0
  have o3 : w1.frozen? ⟨w.heap.size + 1, 1, none⟩ = false := by simpa using hg.own.2.1 1
  have ol2 : w.heap.size + 1 < w1.heap.size := by simpa using hg.own.2.2
  have HG := Lib.hid (((Gr.refl w).alloc _).alloc _ |>.trans hg)
  clear hg
  go_wp2_with fail
  refine (TT.out _).mono ?_
  rintro en w2 ⟨rfl, hg⟩
  have hx := ((Gr.refl w1).alloc (.cells #[.string a1, .int .i64 (b1 : Nat)] 133)).trans hg
  replace o2 := (hx.frozen (o := 0) (cell_lt o0)).trans o2
  replace o3 := (hx.frozen (o := 1) (cell_lt o1)).trans o3
  replace o0 := hx.cell o0
  replace o1 := hx.cell o1
  have HG2 := Lib.hid (HG.out.trans hx)
  clear hg hx ol2
  go_wp2
  exact bodyPost_ret (v := .tuple #[.agg #[.string a, .int .i64 (b : Nat)], .string S]) (by simp [results, Try.results75, go_sem, o0, o1, o2, o3]) rfl ⟨rfl, (HG2.out.setCell (Nat.le_succ _) _).setCell (Nat.le_succ _) _⟩
end Go.Proofs.Ytfcfbecfamemlaa
