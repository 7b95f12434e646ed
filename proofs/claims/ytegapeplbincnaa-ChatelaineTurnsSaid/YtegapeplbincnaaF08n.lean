import Derived.Test.YtegapeplbincnaaF08b
import Derived.WalkKit
import Derived.ProofKit
import Derived.LoopTactic
import Derived.Outline
import Derived.WalkSpells
import Derived.WalkLawsBesides
import Derived.Lib.Hide
import Derived.Deep.LoopGhost
import Derived.Deep.QuietTactic
import Derived.BigQuiet
import Derived.ShutString
import Derived.IntWalk
import Derived.Lib.MinMax
namespace Go.Proofs.Ytegapeplbincnaa
open Go.ChangeShapes Go.WideShapes Go.ChangeAt Go.RowKit
open Bal
set_option linter.unusedVariables false
set_option linter.unusedSimpArgs false
theorem mod12 (N : Int) : ∃ n : Nat, n ≤ 11 ∧ (wrap64 (N.tmod 12 + 12)).tmod 12 = (n : Int) := by
  have h1 := Int.tmod_lt_of_pos N (show (0 : Int) < 12 by decide)
  have h2 := Int.lt_tmod_of_pos N (show (0 : Int) < 12 by decide)
  generalize N.tmod 12 = t at *
  have hw : wrap64 (t + 12) = t + 12 := by unfold wrap64; omega
  rw [hw, Int.tmod_eq_emod_of_nonneg (by omega)]
  exact ⟨((t + 12) % 12).toNat, by omega, by omega⟩
set_option maxRecDepth 100000 in
set_option maxHeartbeats 2000000 in
theorem next_any (c m n : Int) (w : World) (hc : 0 ≤ c ∧ c ≤ 18446744073709551615) :
    Calls Try.prog 45 #[.agg #[.int .u64 c, .int .i64 m], .int .i64 n] w fun e w' => e = .returned (.tuple #[.agg #[.int .u64 (nextB c m n).1.1, .int .i64 (nextB c m n).1.2], .int .i64 (nextB c m n).2]) ∧ Gr w w' := by
  have CB := Lib.hid (compareB_any (max c 1) n c m)
  obtain ⟨c0, c1⟩ := hc
  have hx : max c 1 = c ∧ 1 ≤ c ∨ max c 1 = 1 ∧ c = 0 := by omega
  rcases nextB_ways c m n with ⟨h, e⟩ | ⟨h, e⟩ | ⟨h1, h2, h3, e⟩ | ⟨h1, h2, h3, h4, e⟩ | ⟨h1, h2, h3, h4, e⟩
  · rw [e]; clear e CB
    go_enter Try.func45, Try.ntmps45
    go_wp2
    exact bodyPost_ret (v := .tuple #[.agg #[.int .u64 0, .int .i64 0], .int .i64 2]) (by simp [results, Try.results45, go_sem]) rfl ⟨rfl, ((Gr.refl _).alloc _).alloc _⟩
  · rw [e]; clear e CB
    go_enter Try.func45, Try.ntmps45
    go_wp2
    exact bodyPost_ret (v := .tuple #[.agg #[.int .u64 0, .int .i64 0], .int .i64 2]) (by simp [results, Try.results45, go_sem]) rfl ⟨rfl, ((Gr.refl _).alloc _).alloc _⟩
  · rw [e]; clear e
    generalize cmpB (max c 1) n c m = v at *
    generalize hmx : max c 1 = mx at *
    go_enter Try.func45, Try.ntmps45
    go_wp2_with fail
    refine (CB.out _).mono ?_
    rintro e w1 ⟨rfl, hg⟩
    have HG := Lib.hid (((((Gr.refl w).alloc (.cells #[.int .u64 c, .int .i64 m] 55)).alloc (.cells #[.int .u64 0, .int .i64 0] 55)).alloc (.cells #[.int .u64 mx, .int .i64 n] 55)).trans hg)
    have g1 := (((Gr.refl (w.alloc (.cells #[.int .u64 c, .int .i64 m] 55))).alloc (.cells #[.int .u64 0, .int .i64 0] 55)).alloc (.cells #[.int .u64 mx, .int .i64 n] 55)).trans hg
    have g2 := ((Gr.refl ((w.alloc (.cells #[.int .u64 c, .int .i64 m] 55)).alloc (.cells #[.int .u64 0, .int .i64 0] 55))).alloc (.cells #[.int .u64 mx, .int .i64 n] 55)).trans hg
    have k0 := g1.own.1 0 _ rfl
    have k1 := g1.own.1 1 _ rfl
    have j0 := g2.own.1 0 _ rfl
    have j1 := g2.own.1 1 _ rfl
    have f0 := g2.own.2.1 0
    have f1 := g2.own.2.1 1
    have l0 := hg.own.1 0 _ rfl
    have l1 := hg.own.1 1 _ rfl
    have s2 : (w.alloc (.cells #[.int .u64 c, .int .i64 m] 55)).heap.size = w.heap.size + 1 := by simp
    have s3 : ((w.alloc (.cells #[.int .u64 c, .int .i64 m] 55)).alloc (.cells #[.int .u64 0, .int .i64 0] 55)).heap.size = w.heap.size + 1 + 1 := by simp
    rw [s2] at j0 j1 f0 f1
    rw [s3] at l0 l1
    have hle : w.heap.size ≤ w.heap.size + 1 := Nat.le_succ _
    clear s2 s3 g1 g2 hg
    go_wp2
    exact bodyPost_ret (v := .tuple #[.agg #[.int .u64 mx, .int .i64 n], .int .i64 0]) (by simp [results, Try.results45, go_sem, j0, j1]) rfl ⟨rfl, (HG.out.setCell hle _).setCell hle _⟩
  · rw [e]; clear e
    generalize cmpB (max c 1) n c m = v at *
    generalize hmx : max c 1 = mx at *
    have H4 := Lib.hid h4
    clear h4
    go_enter Try.func45, Try.ntmps45
    go_wp2_with fail
    refine (CB.out _).mono ?_
    rintro e w1 ⟨rfl, hg⟩
    have HG := Lib.hid (((((Gr.refl w).alloc (.cells #[.int .u64 c, .int .i64 m] 55)).alloc (.cells #[.int .u64 0, .int .i64 0] 55)).alloc (.cells #[.int .u64 mx, .int .i64 n] 55)).trans hg)
    have g1 := (((Gr.refl (w.alloc (.cells #[.int .u64 c, .int .i64 m] 55))).alloc (.cells #[.int .u64 0, .int .i64 0] 55)).alloc (.cells #[.int .u64 mx, .int .i64 n] 55)).trans hg
    have g2 := ((Gr.refl ((w.alloc (.cells #[.int .u64 c, .int .i64 m] 55)).alloc (.cells #[.int .u64 0, .int .i64 0] 55))).alloc (.cells #[.int .u64 mx, .int .i64 n] 55)).trans hg
    have k0 := g1.own.1 0 _ rfl
    have k1 := g1.own.1 1 _ rfl
    have j0 := g2.own.1 0 _ rfl
    have j1 := g2.own.1 1 _ rfl
    have f0 := g2.own.2.1 0
    have f1 := g2.own.2.1 1
    have l0 := hg.own.1 0 _ rfl
    have l1 := hg.own.1 1 _ rfl
    have s2 : (w.alloc (.cells #[.int .u64 c, .int .i64 m] 55)).heap.size = w.heap.size + 1 := by simp
    have s3 : ((w.alloc (.cells #[.int .u64 c, .int .i64 m] 55)).alloc (.cells #[.int .u64 0, .int .i64 0] 55)).heap.size = w.heap.size + 1 + 1 := by simp
    rw [s2] at j0 j1 f0 f1
    rw [s3] at l0 l1
    have hle : w.heap.size ≤ w.heap.size + 1 := Nat.le_succ _
    clear s2 s3 g1 g2 hg
    have h5 : (c == 18446744073709551615) = true := by simp [H4.out]
    go_wp2
    exact bodyPost_ret (v := .tuple #[.agg #[.int .u64 0, .int .i64 0], .int .i64 19]) (by simp [results, Try.results45, go_sem, j0, j1]) rfl ⟨rfl, (HG.out.setCell hle _).setCell hle _⟩
  · rw [e]; clear e
    generalize cmpB (max c 1) n c m = v at *
    generalize hmx : max c 1 = mx at *
    have H4 := Lib.hid h4
    clear h4
    go_enter Try.func45, Try.ntmps45
    go_wp2_with fail
    refine (CB.out _).mono ?_
    rintro e w1 ⟨rfl, hg⟩
    have HG := Lib.hid (((((Gr.refl w).alloc (.cells #[.int .u64 c, .int .i64 m] 55)).alloc (.cells #[.int .u64 0, .int .i64 0] 55)).alloc (.cells #[.int .u64 mx, .int .i64 n] 55)).trans hg)
    have g1 := (((Gr.refl (w.alloc (.cells #[.int .u64 c, .int .i64 m] 55))).alloc (.cells #[.int .u64 0, .int .i64 0] 55)).alloc (.cells #[.int .u64 mx, .int .i64 n] 55)).trans hg
    have g2 := ((Gr.refl ((w.alloc (.cells #[.int .u64 c, .int .i64 m] 55)).alloc (.cells #[.int .u64 0, .int .i64 0] 55))).alloc (.cells #[.int .u64 mx, .int .i64 n] 55)).trans hg
    have k0 := g1.own.1 0 _ rfl
    have k1 := g1.own.1 1 _ rfl
    have j0 := g2.own.1 0 _ rfl
    have j1 := g2.own.1 1 _ rfl
    have f0 := g2.own.2.1 0
    have f1 := g2.own.2.1 1
    have l0 := hg.own.1 0 _ rfl
    have l1 := hg.own.1 1 _ rfl
    have s2 : (w.alloc (.cells #[.int .u64 c, .int .i64 m] 55)).heap.size = w.heap.size + 1 := by simp
    have s3 : ((w.alloc (.cells #[.int .u64 c, .int .i64 m] 55)).alloc (.cells #[.int .u64 0, .int .i64 0] 55)).heap.size = w.heap.size + 1 + 1 := by simp
    rw [s2] at j0 j1 f0 f1
    rw [s3] at l0 l1
    have hle : w.heap.size ≤ w.heap.size + 1 := Nat.le_succ _
    clear s2 s3 g1 g2 hg
    have h5 : (c == 18446744073709551615) = false := by simp [H4.out]
    have h6 : c < 18446744073709551615 := by have := H4.out; omega
    go_wp2
    exact bodyPost_ret (v := .tuple #[.agg #[.int .u64 (c + 1), .int .i64 n], .int .i64 0]) (by simp [results, Try.results45, go_sem, j0, j1]) rfl ⟨rfl, (HG.out.setCell hle _).setCell hle _⟩
theorem next_to {c m n x y z : Int} (h : nextB c m n = ((x, y), z)) (hc : 0 ≤ c ∧ c ≤ 18446744073709551615) (w : World) :
    Calls Try.prog 45 #[.agg #[.int .u64 c, .int .i64 m], .int .i64 n] w fun e w' => e = .returned (.tuple #[.agg #[.int .u64 x, .int .i64 y], .int .i64 z]) ∧ Gr w w' := by
  have := next_any c m n w hc
  rw [h] at this; exact this
theorem next_good {c m n x y : Int} (hc : 0 ≤ c) (h0 : c = 0 → m = 0) (h : nextB c m n = ((x, y), 0)) : y = n ∧ 0 < x ∧ 0 < cmpB x n c m := by
  rcases nextB_plain (n := n) hc h0 with ⟨_, e⟩ | ⟨_, e⟩ | ⟨h1, h2, h3, h4, e⟩ | ⟨_, _, _, _, e⟩ | ⟨h1, h2, h3, h4, e⟩ <;> rw [e] at h <;> simp only [Prod.mk.injEq] at h
  · omega
  · omega
  · obtain ⟨⟨rfl, rfl⟩, _⟩ := h
    refine ⟨rfl, by omega, ?_⟩
    rcases cmpB_ways c n c m with ⟨g, e2⟩ | ⟨g, e2⟩ | ⟨g, e2⟩ <;> rw [e2] <;> omega
  · omega
  · obtain ⟨⟨rfl, rfl⟩, _⟩ := h
    refine ⟨rfl, by omega, ?_⟩
    rcases cmpB_ways (c + 1) n c m with ⟨g, e2⟩ | ⟨g, e2⟩ | ⟨g, e2⟩ <;> rw [e2] <;> omega
/-- Behind two stores into one block. -/
theorem put2 {w W : World} {b : Nat} {u0 u1 v0 v1 : Value} (k0 : w.cell? ⟨b, 0, none⟩ = some u0) (k1 : w.cell? ⟨b, 1, none⟩ = some u1) (hW : W = ((w.setCell ⟨b, 0, none⟩ v0).setCell ⟨b, 1, none⟩ v1)) :
    (W.cell? ⟨b, 0, none⟩ = some v0 ∧ W.cell? ⟨b, 1, none⟩ = some v1) ∧ (∀ d o x, d ≠ b → w.cell? ⟨d, o, none⟩ = some x → W.cell? ⟨d, o, none⟩ = some x) ∧ (∀ d o, W.frozen? ⟨d, o, none⟩ = w.frozen? ⟨d, o, none⟩) ∧ (∀ a, Gr a w → a.heap.size ≤ b → Gr a W) := by
  subst hW
  refine ⟨⟨by simp [go_sem, k0], by simp [go_sem, k1]⟩, fun d o x hd hx => ?_, fun d o => by simp only [World.frozen?_setCell], fun a h hb => (h.setCell hb _).setCell hb _⟩
  simp [go_sem, hx]
/-- The cells of a list of ballots, two each, lie behind an address. -/
def BRow (w : World) (a : Option Addr) (L : List (Int × Int)) : Prop :=
  L = [] ∨ ∃ b off, a = some ⟨b, off, none⟩ ∧ ∀ i (h : i < L.length), w.cell? ⟨b, off + i * 2, none⟩ = some (.int .u64 L[i].1) ∧ w.cell? ⟨b, off + i * 2 + 1, none⟩ = some (.int .i64 L[i].2)
theorem BRow.gr {w w' : World} {a : Option Addr} {L : List (Int × Int)} (h : BRow w a L) (hg : Gr w w') : BRow w' a L := by
  refine h.imp id ?_
  rintro ⟨b, off, rfl, hc⟩
  exact ⟨b, off, rfl, fun i hi => ⟨hg.cell (hc i hi).1, hg.cell (hc i hi).2⟩⟩
theorem brow_at {w : World} {a : Option Addr} {L : List (Int × Int)} (h : BRow w a L) (k : Nat) (hk : k < L.length) : ∃ b off, a = some ⟨b, off, none⟩ ∧ w.cell? ⟨b, off + k * 2, none⟩ = some (.int .u64 L[k].1) ∧ w.cell? ⟨b, off + k * 2 + 1, none⟩ = some (.int .i64 L[k].2) := by
  rcases h with rfl | ⟨b, off, rfl, hc⟩
  · simp at hk
  · exact ⟨b, off, rfl, (hc k hk).1, (hc k hk).2⟩
set_option maxRecDepth 100000 in
set_option maxHeartbeats 4000000 in
theorem max_any (L : List (Int × Int)) (a : Option Addr) (cap : Nat) (w : World) (hl : L.length ≤ 1000) (h : BRow w a L) :
    Calls Try.prog 47 #[.slice a L.length cap] w fun e w' => e = .returned (.agg #[.int .u64 (maxB L).1, .int .i64 (maxB L).2]) ∧ Gr w w' := by
  have HR := Lib.hid h
  clear h
  obtain ⟨N, hN⟩ : ∃ N, L.length = N := ⟨_, rfl⟩
  rw [hN] at hl ⊢
  have HN := Lib.hid hN
  clear hN
  go_enter Try.func47, Try.ntmps47
  go_wp2
  have hA := (Gr.refl (w.alloc (.cells #[.int .u64 0, .int .i64 0] 55))).alloc (.cells #[.int .u64 0, .int .i64 0] 55)
  have hB := Gr.refl ((w.alloc (.cells #[.int .u64 0, .int .i64 0] 55)).alloc (.cells #[.int .u64 0, .int .i64 0] 55))
  have k0 := hB.own.1 0 _ rfl
  have k1 := hB.own.1 1 _ rfl
  have f0 := hB.own.2.1 0
  have f1 := hB.own.2.1 1
  have hs : (w.alloc (.cells #[.int .u64 0, .int .i64 0] 55)).heap.size = w.heap.size + 1 := by simp
  rw [hs] at k0 k1 f0 f1
  have HG := Lib.hid (((Gr.refl w).alloc (.cells #[.int .u64 0, .int .i64 0] 55)).alloc (.cells #[.int .u64 0, .int .i64 0] 55))
  have HJ := Lib.hid (And.intro (And.intro (hA.own.1 0 _ rfl) (hA.own.1 1 _ rfl)) (And.intro (hA.own.2.1 0) (hA.own.2.1 1)))
  clear hs hA hB
  generalize (w.alloc (.cells #[.int .u64 0, .int .i64 0] 55)).alloc (.cells #[.int .u64 0, .int .i64 0] 55) = wz at *
  have hb1 : w.heap.size ≤ w.heap.size + 1 := Nat.le_succ _
  have HRz := Lib.hid (HR.out.gr HG.out)
  go_loopw [8] (fun i wr => ∃ k : Nat, k ≤ N ∧ i = .int .i64 k ∧ wr.cell? ⟨w.heap.size + 1, 0, none⟩ = some (.int .u64 (maxB (L.take k)).1) ∧ wr.cell? ⟨w.heap.size + 1, 1, none⟩ = some (.int .i64 (maxB (L.take k)).2) ∧ wr.frozen? ⟨w.heap.size + 1, 0, none⟩ = false ∧ wr.frozen? ⟨w.heap.size + 1, 1, none⟩ = false ∧
    Hid (Gr w wr ∧ ((∃ u0 u1, wr.cell? ⟨w.heap.size, 0, none⟩ = some u0 ∧ wr.cell? ⟨w.heap.size, 1, none⟩ = some u1) ∧ wr.frozen? ⟨w.heap.size, 0, none⟩ = false ∧ wr.frozen? ⟨w.heap.size, 1, none⟩ = false))) (fun i _ => N - (intOf i).toNat)
  case atStart => exact ⟨0, by omega, rfl, k0, k1, f0, f1, Lib.hid ⟨HG.out, ⟨_, _, HJ.out.1.1, HJ.out.1.2⟩, HJ.out.2.1, HJ.out.2.2⟩⟩
  case round =>
    clear k0 k1 f0 f1
    obtain ⟨k, hk, rfl, k0, k1, f0, f1, hH⟩ := hrel
    by_cases hlt : k < N
    · have hkL : k < L.length := by rw [HN.out]; exact hlt
      obtain ⟨b, off, rfl, c0, c1⟩ := brow_at (HR.out.gr hH.out.1) k hkL
      have HS := Lib.hid (maxB_snoc L k hkL)
      generalize maxB (L.take k) = M at *
      obtain ⟨mc, mn⟩ := M
      obtain ⟨c, n, hcn⟩ : ∃ c n, L[k] = (c, n) := ⟨_, _, rfl⟩
      rw [hcn] at HS c0 c1
      simp only at c0 c1 k0 k1
      have CB := Lib.hid (compareB_any c n mc mn)
      have HS' : Hid (maxB (L.take (k + 1)) = if 0 < cmpB c n mc mn then (c, n) else (mc, mn)) := Lib.hid (by rw [HS.out]; rfl)
      clear hcn HS
      generalize cmpB c n mc mn = v at *
      have hz := (Gr.refl wr).alloc (.cells #[.int .u64 c, .int .i64 n] 55)
      have z0 := hz.cell k0
      have z1 := hz.cell k1
      go_wp2_with fail
      refine (CB.out _).mono ?_
      rintro e w9 ⟨rfl, hg⟩
      have hx := hz.trans hg
      have l0 := hg.own.1 0 _ rfl
      have l1 := hg.own.1 1 _ rfl
      replace f0 := (hx.frozen (o := 0) (cell_lt k0)).trans f0
      replace f1 := (hx.frozen (o := 1) (cell_lt k1)).trans f1
      replace k0 := hx.cell k0
      replace k1 := hx.cell k1
      obtain ⟨hG, ⟨u0, u1, e0, e1⟩, e2, e3⟩ := hH.out
      replace e2 := (hx.frozen (o := 0) (cell_lt e0)).trans e2
      replace e3 := (hx.frozen (o := 1) (cell_lt e1)).trans e3
      replace e0 := hx.cell e0
      replace e1 := hx.cell e1
      replace hG := hG.trans hx
      have HH := Lib.hid (And.intro hG (And.intro e0 (And.intro e1 (And.intro e2 e3))))
      clear hx hz hg z0 z1 c0 c1 hG e0 e1 e2 e3 hH
      by_cases hv : 0 < v
      · have HS2 := Lib.hid (show maxB (L.take (k + 1)) = (c, n) by rw [HS'.out, if_pos hv])
        go_wp2
        obtain ⟨⟨q0, q1⟩, hoth, hfr, hgr⟩ := put2 k0 k1 (rfl : ((w9.setCell ⟨w.heap.size + 1, 0, none⟩ (.int .u64 c)).setCell ⟨w.heap.size + 1, 1, none⟩ (.int .i64 n)) = _)
        generalize ((w9.setCell ⟨w.heap.size + 1, 0, none⟩ (.int .u64 c)).setCell ⟨w.heap.size + 1, 1, none⟩ (.int .i64 n)) = w10 at *
        go_roundw
        case rel =>
          have hne : w.heap.size ≠ w.heap.size + 1 := by omega
          exact ⟨k + 1, by omega, by go_num, by rw [HS2.out]; exact q0, by rw [HS2.out]; exact q1, by rw [hfr]; exact f0, by rw [hfr]; exact f1, Lib.hid ⟨hgr _ HH.out.1 hb1, ⟨_, _, hoth _ _ _ hne HH.out.2.1, hoth _ _ _ hne HH.out.2.2.1⟩, by rw [hfr]; exact HH.out.2.2.2.1, by rw [hfr]; exact HH.out.2.2.2.2⟩⟩
        case measure => simp [intOf]; omega
      · have HS2 := Lib.hid (show maxB (L.take (k + 1)) = (mc, mn) by rw [HS'.out, if_neg hv])
        go_wp2
        go_roundw
        case rel => exact ⟨k + 1, by omega, by go_num, by rw [HS2.out]; exact k0, by rw [HS2.out]; exact k1, f0, f1, Lib.hid ⟨HH.out.1, ⟨_, _, HH.out.2.1, HH.out.2.2.1⟩, HH.out.2.2.2.1, HH.out.2.2.2.2⟩⟩
        case measure => simp [intOf]; omega
    · obtain rfl : k = N := by omega
      have HT := Lib.hid (show L.take k = L from List.take_of_length_le (by rw [HN.out]; exact Nat.le_refl _))
      rw [HT.out] at k0 k1
      obtain ⟨mc, mn, hM⟩ : ∃ mc mn, maxB L = (mc, mn) := ⟨_, _, rfl⟩
      rw [hM] at k0 k1
      have HM := Lib.hid hM
      clear hM
      simp only at k0 k1
      obtain ⟨hG, ⟨u0, u1, e0, e1⟩, e2, e3⟩ := hH.out
      have HG2 := Lib.hid hG
      clear hH hG
      go_wp2
      exact bodyPost_ret (v := .agg #[.int .u64 mc, .int .i64 mn]) (by simp [results, Try.results47, go_sem, e0, e1]) rfl ⟨by rw [HM.out], (HG2.out.setCell (Nat.le_refl _) _).setCell (Nat.le_refl _) _⟩
end Go.Proofs.Ytegapeplbincnaa
