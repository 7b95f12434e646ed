import Derived.Test.YtihhfdkcggnjpaaK2
import Derived.Test.YtihhfdkcggnjpaaF08e
import Derived.Test.YtihhfdkcggnjpaaF01g
import Derived.WalkKit
import Derived.ProofKit
import Derived.LoopTactic
import Derived.Outline
import Derived.WalkSpells
import Derived.WalkLawsBesides
import Derived.Lib.Hide
import Derived.Deep.LoopGhost
import Derived.Deep.QuietTactic
import Derived.BigQuiet
import Derived.ShutString
import Derived.IntWalk
namespace Go.Proofs.Ytihhfdkcggnjpaa
open Go.ChangeShapes Go.WideShapes Go.ChangeAt Go.RowKit
open Enc Bal
set_option linter.unusedVariables false
set_option linter.unusedSimpArgs false
/-- What reading a ballot gives: what is left, the error, the counter, the node. -/
def getS (r : ByteArray) (e : Nat) : ByteArray × Nat × Nat × Nat :=
  if (nS (uS r e).1 (uS r e).2.1 11).2.1 ≠ 0 then ((nS (uS r e).1 (uS r e).2.1 11).1, (nS (uS r e).1 (uS r e).2.1 11).2.1, 0, 0)
  else if (uS r e).2.2 = 0 ∧ (nS (uS r e).1 (uS r e).2.1 11).2.2 ≠ 0 then ((nS (uS r e).1 (uS r e).2.1 11).1, 4, 0, 0)
  else ((nS (uS r e).1 (uS r e).2.1 11).1, 0, (uS r e).2.2, (nS (uS r e).1 (uS r e).2.1 11).2.2)
theorem getS_ways (r : ByteArray) (e : Nat) : ∃ a b c a2 b2 n, uS r e = (a, b, c) ∧ nS a b 11 = (a2, b2, n) ∧ a.size ≤ r.size ∧ n ≤ 11 ∧
    (b2 ≠ 0 ∧ getS r e = (a2, b2, 0, 0) ∨ b2 = 0 ∧ c = 0 ∧ n ≠ 0 ∧ getS r e = (a2, 4, 0, 0) ∨ b2 = 0 ∧ ¬ (c = 0 ∧ n ≠ 0) ∧ getS r e = (a2, 0, c, n)) := by
  have hl := uS_left r e
  obtain ⟨a, b, c, hu⟩ : ∃ a b c, uS r e = (a, b, c) := ⟨_, _, _, rfl⟩
  obtain ⟨a2, b2, n, hn⟩ : ∃ a2 b2 n, nS a b 11 = (a2, b2, n) := ⟨_, _, _, rfl⟩
  have hm := nS_most a b 11
  have hG : getS r e = if b2 ≠ 0 then (a2, b2, 0, 0) else if c = 0 ∧ n ≠ 0 then (a2, 4, 0, 0) else (a2, 0, c, n) := by
    unfold getS; rw [hu]; simp only; rw [hn]
  rw [hu] at hl
  rw [hn] at hm
  refine ⟨a, b, c, a2, b2, n, hu, hn, hl, by simp only at hm; omega, ?_⟩
  by_cases h1 : b2 ≠ 0
  · exact .inl ⟨h1, by rw [hG, if_pos h1]⟩
  · rw [if_neg h1] at hG
    by_cases h2 : c = 0 ∧ n ≠ 0
    · exact .inr (.inl ⟨by omega, h2.1, h2.2, by rw [hG, if_pos h2]⟩)
    · exact .inr (.inr ⟨by omega, h2, by rw [hG, if_neg h2]⟩)
def RGetIs (r : ByteArray) (e : Nat) (w : World) (en : Ending) (w' : World) : Prop :=
  en = .returned (.tuple #[.agg #[.string (getS r e).1, .int .i64 ((getS r e).2.1 : Nat)], .agg #[.int .u64 ((getS r e).2.2.1 : Nat), .int .i64 ((getS r e).2.2.2 : Nat)]]) ∧ Gr w w'
theorem rgetIs_mk {r a : ByteArray} {e b c n : Nat} {w w' : World} (h : Hid (getS r e = (a, b, c, n))) (hg : Gr w w') : RGetIs r e w (.returned (.tuple #[.agg #[.string a, .int .i64 (b : Int)], .agg #[.int .u64 (c : Int), .int .i64 (n : Int)]])) w' := by
  unfold RGetIs; rw [h.out]; exact ⟨rfl, hg⟩
set_option maxRecDepth 100000 in
set_option maxHeartbeats 2000000 in
theorem refGet_any (r : ByteArray) (e : Nat) (w : World) (hr : r.size ≤ 1000000) :
    Calls Try.prog 119 #[.agg #[.string r, .int .i64 (e : Int)]] w (RGetIs r e w) := by
  obtain ⟨a, b, c, a2, b2, n, hu, hn, hl, hn11, hways⟩ := getS_ways r e
  have UU := Lib.hid (fun w => ru_is hu w hr)
  have NN := Lib.hid (fun w => rn_is hn w (Nat.le_trans hl hr) (by decide))
  clear hu hn hl
  rcases hways with ⟨h1, hE⟩ | ⟨rfl, rfl, h3, hE⟩ | ⟨rfl, h2, hE⟩
  · have E := Lib.hid hE
    have t1 : ((b2 : Int) == 0) = false := by simp; omega
    have t2 : ((b2 : Int) != 0) = true := by simp; omega
    clear hE h1
    go_enter Try.func119, Try.ntmps119
    go_wp2_with fail
    refine (UU.out _).mono ?_
    rintro en w1 ⟨rfl, hg⟩
    have hA := ((Gr.refl ((w.alloc (.cells #[.string r, .int .i64 (e : Int)] 181)).alloc (.cells #[.string ⟨#[]⟩, .int .i64 0] 181))).alloc (.cells #[.int .u64 0, .int .i64 0] 78)).trans hg
    have o0 : w1.cell? ⟨w.heap.size + 1, 0, none⟩ = some (.string ⟨#[]⟩) := by simpa using hA.own.1 0 _ rfl
    have o1 : w1.cell? ⟨w.heap.size + 1, 1, none⟩ = some (.int .i64 0) := by simpa using hA.own.1 1 _ rfl
    have o2 : w1.frozen? ⟨w.heap.size + 1, 0, none⟩ = false := by simpa using hA.own.2.1 0
    have o3 : w1.frozen? ⟨w.heap.size + 1, 1, none⟩ = false := by simpa using hA.own.2.1 1
    have s2 : ((w.alloc (.cells #[.string r, .int .i64 (e : Int)] 181)).alloc (.cells #[.string ⟨#[]⟩, .int .i64 0] 181)).heap.size = w.heap.size + 1 + 1 := by simp
    have j0 := hg.own.1 0 _ rfl
    have j1 := hg.own.1 1 _ rfl
    have f0 := hg.own.2.1 0
    have f1 := hg.own.2.1 1
    rw [s2] at j0 j1 f0 f1
    have HG := Lib.hid (((((Gr.refl w).alloc (.cells #[.string r, .int .i64 (e : Int)] 181)).alloc (.cells #[.string ⟨#[]⟩, .int .i64 0] 181)).alloc (.cells #[.int .u64 0, .int .i64 0] 78)).trans hg)
    clear hg hA s2
    go_wp2_with fail
    refine (NN.out _).mono ?_
    rintro en w2 ⟨rfl, hg⟩
    have hx := ((Gr.refl w1).alloc (.cells #[.string a, .int .i64 (b : Nat)] 181)).trans hg
    replace o2 := (hx.frozen (o := 0) (cell_lt o0)).trans o2
    replace o3 := (hx.frozen (o := 1) (cell_lt o1)).trans o3
    replace f0 := (hx.frozen (o := 0) (cell_lt j0)).trans f0
    replace f1 := (hx.frozen (o := 1) (cell_lt j1)).trans f1
    replace o0 := hx.cell o0
    replace o1 := hx.cell o1
    replace j0 := hx.cell j0
    replace j1 := hx.cell j1
    have HG2 := Lib.hid (HG.out.trans hx)
    clear hg hx
    have ol := cell_lt o0
    have ol2 := cell_lt j0
    have hl1 : w.heap.size ≤ w.heap.size + 1 := Nat.le_succ _
    have hl2 : w.heap.size ≤ w.heap.size + 1 + 1 := Nat.le_add_right _ 2
    go_wp2
    exact bodyPost_ret (v := .tuple #[.agg #[.string a2, .int .i64 (b2 : Nat)], .agg #[.int .u64 (0 : Nat), .int .i64 (0 : Nat)]]) (by simp [results, Try.results119, go_sem, o0, o1, j0, j1, ol, ol2, Nat.ne_of_lt ol, Nat.ne_of_gt ol, Nat.ne_of_lt ol2, Nat.ne_of_gt ol2]) rfl (rgetIs_mk E (((((HG2.out.setCell hl1 _).setCell hl1 _).setCell hl2 _).setCell hl2 _).alloc _))
  · have E := Lib.hid hE
    have t1 : (0 : Int) < (n : Int) := by omega
    clear hE h3
    go_enter Try.func119, Try.ntmps119
    go_wp2_with fail
    refine (UU.out _).mono ?_
    rintro en w1 ⟨rfl, hg⟩
    have hA := ((Gr.refl ((w.alloc (.cells #[.string r, .int .i64 (e : Int)] 181)).alloc (.cells #[.string ⟨#[]⟩, .int .i64 0] 181))).alloc (.cells #[.int .u64 0, .int .i64 0] 78)).trans hg
    have o0 : w1.cell? ⟨w.heap.size + 1, 0, none⟩ = some (.string ⟨#[]⟩) := by simpa using hA.own.1 0 _ rfl
    have o1 : w1.cell? ⟨w.heap.size + 1, 1, none⟩ = some (.int .i64 0) := by simpa using hA.own.1 1 _ rfl
    have o2 : w1.frozen? ⟨w.heap.size + 1, 0, none⟩ = false := by simpa using hA.own.2.1 0
    have o3 : w1.frozen? ⟨w.heap.size + 1, 1, none⟩ = false := by simpa using hA.own.2.1 1
    have s2 : ((w.alloc (.cells #[.string r, .int .i64 (e : Int)] 181)).alloc (.cells #[.string ⟨#[]⟩, .int .i64 0] 181)).heap.size = w.heap.size + 1 + 1 := by simp
    have j0 := hg.own.1 0 _ rfl
    have j1 := hg.own.1 1 _ rfl
    have f0 := hg.own.2.1 0
    have f1 := hg.own.2.1 1
    rw [s2] at j0 j1 f0 f1
    have HG := Lib.hid (((((Gr.refl w).alloc (.cells #[.string r, .int .i64 (e : Int)] 181)).alloc (.cells #[.string ⟨#[]⟩, .int .i64 0] 181)).alloc (.cells #[.int .u64 0, .int .i64 0] 78)).trans hg)
    clear hg hA s2
    go_wp2_with fail
    refine (NN.out _).mono ?_
    rintro en w2 ⟨rfl, hg⟩
    have hx := ((Gr.refl w1).alloc (.cells #[.string a, .int .i64 (b : Nat)] 181)).trans hg
    replace o2 := (hx.frozen (o := 0) (cell_lt o0)).trans o2
    replace o3 := (hx.frozen (o := 1) (cell_lt o1)).trans o3
    replace f0 := (hx.frozen (o := 0) (cell_lt j0)).trans f0
    replace f1 := (hx.frozen (o := 1) (cell_lt j1)).trans f1
    replace o0 := hx.cell o0
    replace o1 := hx.cell o1
    replace j0 := hx.cell j0
    replace j1 := hx.cell j1
    have HG2 := Lib.hid (HG.out.trans hx)
    clear hg hx
    have ol := cell_lt o0
    have ol2 := cell_lt j0
    have hl1 : w.heap.size ≤ w.heap.size + 1 := Nat.le_succ _
    have hl2 : w.heap.size ≤ w.heap.size + 1 + 1 := Nat.le_add_right _ 2
    go_wp2
    exact bodyPost_ret (v := .tuple #[.agg #[.string a2, .int .i64 (4 : Nat)], .agg #[.int .u64 (0 : Nat), .int .i64 (0 : Nat)]]) (by simp [results, Try.results119, go_sem, o0, o1, j0, j1, ol, ol2, Nat.ne_of_lt ol, Nat.ne_of_gt ol, Nat.ne_of_lt ol2, Nat.ne_of_gt ol2]) rfl (rgetIs_mk E (((((HG2.out.setCell hl1 _).setCell hl1 _).setCell hl2 _).setCell hl2 _).alloc _))
  · rcases (show c = 0 ∧ n = 0 ∨ 0 < c by omega) with ⟨rfl, rfl⟩ | h5
    · have E := Lib.hid hE
      clear hE h2
      go_enter Try.func119, Try.ntmps119
      go_wp2_with fail
      refine (UU.out _).mono ?_
      rintro en w1 ⟨rfl, hg⟩
      have hA := ((Gr.refl ((w.alloc (.cells #[.string r, .int .i64 (e : Int)] 181)).alloc (.cells #[.string ⟨#[]⟩, .int .i64 0] 181))).alloc (.cells #[.int .u64 0, .int .i64 0] 78)).trans hg
      have o0 : w1.cell? ⟨w.heap.size + 1, 0, none⟩ = some (.string ⟨#[]⟩) := by simpa using hA.own.1 0 _ rfl
      have o1 : w1.cell? ⟨w.heap.size + 1, 1, none⟩ = some (.int .i64 0) := by simpa using hA.own.1 1 _ rfl
      have o2 : w1.frozen? ⟨w.heap.size + 1, 0, none⟩ = false := by simpa using hA.own.2.1 0
      have o3 : w1.frozen? ⟨w.heap.size + 1, 1, none⟩ = false := by simpa using hA.own.2.1 1
      have s2 : ((w.alloc (.cells #[.string r, .int .i64 (e : Int)] 181)).alloc (.cells #[.string ⟨#[]⟩, .int .i64 0] 181)).heap.size = w.heap.size + 1 + 1 := by simp
      have j0 := hg.own.1 0 _ rfl
      have j1 := hg.own.1 1 _ rfl
      have f0 := hg.own.2.1 0
      have f1 := hg.own.2.1 1
      rw [s2] at j0 j1 f0 f1
      have HG := Lib.hid (((((Gr.refl w).alloc (.cells #[.string r, .int .i64 (e : Int)] 181)).alloc (.cells #[.string ⟨#[]⟩, .int .i64 0] 181)).alloc (.cells #[.int .u64 0, .int .i64 0] 78)).trans hg)
      clear hg hA s2
      go_wp2_with fail
      refine (NN.out _).mono ?_
      rintro en w2 ⟨rfl, hg⟩
      have hx := ((Gr.refl w1).alloc (.cells #[.string a, .int .i64 (b : Nat)] 181)).trans hg
      replace o2 := (hx.frozen (o := 0) (cell_lt o0)).trans o2
      replace o3 := (hx.frozen (o := 1) (cell_lt o1)).trans o3
      replace f0 := (hx.frozen (o := 0) (cell_lt j0)).trans f0
      replace f1 := (hx.frozen (o := 1) (cell_lt j1)).trans f1
      replace o0 := hx.cell o0
      replace o1 := hx.cell o1
      replace j0 := hx.cell j0
      replace j1 := hx.cell j1
      have HG2 := Lib.hid (HG.out.trans hx)
      clear hg hx
      have ol := cell_lt o0
      have ol2 := cell_lt j0
      have hl1 : w.heap.size ≤ w.heap.size + 1 := Nat.le_succ _
      have hl2 : w.heap.size ≤ w.heap.size + 1 + 1 := Nat.le_add_right _ 2
      go_wp2
      exact bodyPost_ret (v := .tuple #[.agg #[.string a2, .int .i64 (0 : Nat)], .agg #[.int .u64 (0 : Nat), .int .i64 (0 : Nat)]]) (by simp [results, Try.results119, go_sem, o0, o1, j0, j1, ol, ol2, Nat.ne_of_lt ol, Nat.ne_of_gt ol, Nat.ne_of_lt ol2, Nat.ne_of_gt ol2]) rfl (rgetIs_mk E (((((HG2.out.setCell hl1 _).setCell hl1 _).setCell hl2 _).setCell hl2 _).alloc _))
    · have E := Lib.hid hE
      have t1 : ((c : Int) == 0) = false := by simp; omega
      clear hE h2
      go_enter Try.func119, Try.ntmps119
      go_wp2_with fail
      refine (UU.out _).mono ?_
      rintro en w1 ⟨rfl, hg⟩
      have hA := ((Gr.refl ((w.alloc (.cells #[.string r, .int .i64 (e : Int)] 181)).alloc (.cells #[.string ⟨#[]⟩, .int .i64 0] 181))).alloc (.cells #[.int .u64 0, .int .i64 0] 78)).trans hg
      have o0 : w1.cell? ⟨w.heap.size + 1, 0, none⟩ = some (.string ⟨#[]⟩) := by simpa using hA.own.1 0 _ rfl
      have o1 : w1.cell? ⟨w.heap.size + 1, 1, none⟩ = some (.int .i64 0) := by simpa using hA.own.1 1 _ rfl
      have o2 : w1.frozen? ⟨w.heap.size + 1, 0, none⟩ = false := by simpa using hA.own.2.1 0
      have o3 : w1.frozen? ⟨w.heap.size + 1, 1, none⟩ = false := by simpa using hA.own.2.1 1
      have s2 : ((w.alloc (.cells #[.string r, .int .i64 (e : Int)] 181)).alloc (.cells #[.string ⟨#[]⟩, .int .i64 0] 181)).heap.size = w.heap.size + 1 + 1 := by simp
      have j0 := hg.own.1 0 _ rfl
      have j1 := hg.own.1 1 _ rfl
      have f0 := hg.own.2.1 0
      have f1 := hg.own.2.1 1
      rw [s2] at j0 j1 f0 f1
      have HG := Lib.hid (((((Gr.refl w).alloc (.cells #[.string r, .int .i64 (e : Int)] 181)).alloc (.cells #[.string ⟨#[]⟩, .int .i64 0] 181)).alloc (.cells #[.int .u64 0, .int .i64 0] 78)).trans hg)
      clear hg hA s2
      go_wp2_with fail
      refine (NN.out _).mono ?_
      rintro en w2 ⟨rfl, hg⟩
      have hx := ((Gr.refl w1).alloc (.cells #[.string a, .int .i64 (b : Nat)] 181)).trans hg
      replace o2 := (hx.frozen (o := 0) (cell_lt o0)).trans o2
      replace o3 := (hx.frozen (o := 1) (cell_lt o1)).trans o3
      replace f0 := (hx.frozen (o := 0) (cell_lt j0)).trans f0
      replace f1 := (hx.frozen (o := 1) (cell_lt j1)).trans f1
      replace o0 := hx.cell o0
      replace o1 := hx.cell o1
      replace j0 := hx.cell j0
      replace j1 := hx.cell j1
      have HG2 := Lib.hid (HG.out.trans hx)
      clear hg hx
      have ol := cell_lt o0
      have ol2 := cell_lt j0
      have hl1 : w.heap.size ≤ w.heap.size + 1 := Nat.le_succ _
      have hl2 : w.heap.size ≤ w.heap.size + 1 + 1 := Nat.le_add_right _ 2
      go_wp2
      exact bodyPost_ret (v := .tuple #[.agg #[.string a2, .int .i64 (0 : Nat)], .agg #[.int .u64 (c : Nat), .int .i64 (n : Nat)]]) (by simp [results, Try.results119, go_sem, o0, o1, j0, j1, ol, ol2, Nat.ne_of_lt ol, Nat.ne_of_gt ol, Nat.ne_of_lt ol2, Nat.ne_of_gt ol2]) rfl (rgetIs_mk E (((((HG2.out.setCell hl1 _).setCell hl1 _).setCell hl2 _).setCell hl2 _).alloc _))
end Go.Proofs.Ytihhfdkcggnjpaa
