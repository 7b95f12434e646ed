import Derived.Test.YtkfkedpldndgiaaF08e
import Derived.WalkKit
import Derived.ProofKit
import Derived.LoopTactic
import Derived.Outline
import Derived.WalkSpells
import Derived.WalkLawsBesides
import Derived.Lib.Hide
import Derived.Deep.LoopGhost
import Derived.Deep.QuietTactic
import Derived.BigQuiet
import Derived.ShutString
import Derived.IntWalk
namespace Go.Proofs.Ytkfkedpldndgiaa
open Go.ChangeShapes Go.WideShapes Go.ChangeAt Go.RowKit
open Bal
set_option linter.unusedVariables false
set_option linter.unusedSimpArgs false
/-- The cells of a list of ballots, two each, lie behind an address. -/
def BRow (w : World) (a : Option Addr) (L : List (Int × Int)) : Prop :=
  L = [] ∨ ∃ b off, a = some ⟨b, off, none⟩ ∧ ∀ i (h : i < L.length), w.cell? ⟨b, off + i * 2, none⟩ = some (.int .u64 L[i].1) ∧ w.cell? ⟨b, off + i * 2 + 1, none⟩ = some (.int .i64 L[i].2)
theorem BRow.gr {w w' : World} {a : Option Addr} {L : List (Int × Int)} (h : BRow w a L) (hg : Gr w w') : BRow w' a L := by
  refine h.imp id ?_
  rintro ⟨b, off, rfl, hc⟩
  exact ⟨b, off, rfl, fun i hi => ⟨hg.cell (hc i hi).1, hg.cell (hc i hi).2⟩⟩
theorem brow_at {w : World} {a : Option Addr} {L : List (Int × Int)} (h : BRow w a L) (k : Nat) (hk : k < L.length) : ∃ b off, a = some ⟨b, off, none⟩ ∧ w.cell? ⟨b, off + k * 2, none⟩ = some (.int .u64 L[k].1) ∧ w.cell? ⟨b, off + k * 2 + 1, none⟩ = some (.int .i64 L[k].2) := by
  rcases h with rfl | ⟨b, off, rfl, hc⟩
  · simp at hk
  · exact ⟨b, off, rfl, (hc k hk).1, (hc k hk).2⟩
set_option maxRecDepth 100000 in
set_option maxHeartbeats 4000000 in
theorem max_any (L : List (Int × Int)) (a : Option Addr) (cap : Nat) (w : World) (hl : L.length ≤ 1000) (h : BRow w a L) :
    Calls Try.prog 50 #[.slice a L.length cap] w fun e w' => e = .returned (.agg #[.int .u64 (maxB L).1, .int .i64 (maxB L).2]) ∧ Gr w w' := by
  have HR := Lib.hid h
  clear h
  obtain ⟨N, hN⟩ : ∃ N, L.length = N := ⟨_, rfl⟩
  rw [hN] at hl ⊢
  have HN := Lib.hid hN
  clear hN
  go_enter Try.func50, Try.ntmps50
  go_wp2
  have hA := (Gr.refl (w.alloc (.cells #[.int .u64 0, .int .i64 0] 69))).alloc (.cells #[.int .u64 0, .int .i64 0] 69)
  have hB := Gr.refl ((w.alloc (.cells #[.int .u64 0, .int .i64 0] 69)).alloc (.cells #[.int .u64 0, .int .i64 0] 69))
  have k0 := hB.own.1 0 _ rfl
  have k1 := hB.own.1 1 _ rfl
  have f0 := hB.own.2.1 0
  have f1 := hB.own.2.1 1
  have hs : (w.alloc (.cells #[.int .u64 0, .int .i64 0] 69)).heap.size = w.heap.size + 1 := by simp
  rw [hs] at k0 k1 f0 f1
  have HG := Lib.hid (((Gr.refl w).alloc (.cells #[.int .u64 0, .int .i64 0] 69)).alloc (.cells #[.int .u64 0, .int .i64 0] 69))
  have HJ := Lib.hid (And.intro (And.intro (hA.own.1 0 _ rfl) (hA.own.1 1 _ rfl)) (And.intro (hA.own.2.1 0) (hA.own.2.1 1)))
  clear hs hA hB
  generalize (w.alloc (.cells #[.int .u64 0, .int .i64 0] 69)).alloc (.cells #[.int .u64 0, .int .i64 0] 69) = wz at *
  have hb1 : w.heap.size ≤ w.heap.size + 1 := Nat.le_succ _
  have HRz := Lib.hid (HR.out.gr HG.out)
  go_loopw [8] (fun i wr => ∃ k : Nat, k ≤ N ∧ i = .int .i64 k ∧ wr.cell? ⟨w.heap.size + 1, 0, none⟩ = some (.int .u64 (maxB (L.take k)).1) ∧ wr.cell? ⟨w.heap.size + 1, 1, none⟩ = some (.int .i64 (maxB (L.take k)).2) ∧ wr.frozen? ⟨w.heap.size + 1, 0, none⟩ = false ∧ wr.frozen? ⟨w.heap.size + 1, 1, none⟩ = false ∧
    Hid (Gr w wr ∧ ((∃ u0 u1, wr.cell? ⟨w.heap.size, 0, none⟩ = some u0 ∧ wr.cell? ⟨w.heap.size, 1, none⟩ = some u1) ∧ wr.frozen? ⟨w.heap.size, 0, none⟩ = false ∧ wr.frozen? ⟨w.heap.size, 1, none⟩ = false))) (fun i _ => N - (intOf i).toNat)
  case atStart => exact ⟨0, by omega, rfl, k0, k1, f0, f1, Lib.hid ⟨HG.out, ⟨_, _, HJ.out.1.1, HJ.out.1.2⟩, HJ.out.2.1, HJ.out.2.2⟩⟩
  case round =>
    clear k0 k1 f0 f1
    obtain ⟨k, hk, rfl, k0, k1, f0, f1, hH⟩ := hrel
    by_cases hlt : k < N
    · have hkL : k < L.length := by rw [HN.out]; exact hlt
      obtain ⟨b, off, rfl, c0, c1⟩ := brow_at (HR.out.gr hH.out.1) k hkL
      have HS := Lib.hid (maxB_snoc L k hkL)
      generalize maxB (L.take k) = M at *
      obtain ⟨mc, mn⟩ := M
      obtain ⟨c, n, hcn⟩ : ∃ c n, L[k] = (c, n) := ⟨_, _, rfl⟩
      rw [hcn] at HS c0 c1
      simp only at c0 c1 k0 k1
      have CB := Lib.hid (compareB_any c n mc mn)
      have HS' : Hid (maxB (L.take (k + 1)) = if 0 < cmpB c n mc mn then (c, n) else (mc, mn)) := Lib.hid (by rw [HS.out]; rfl)
      clear hcn HS
      generalize cmpB c n mc mn = v at *
      have hz := (Gr.refl wr).alloc (.cells #[.int .u64 c, .int .i64 n] 69)
      have z0 := hz.cell k0
      have z1 := hz.cell k1
      go_wp2_with fail
      refine (CB.out _).mono ?_
      rintro e w9 ⟨rfl, hg⟩
      have hx := hz.trans hg
      have l0 := hg.own.1 0 _ rfl
      have l1 := hg.own.1 1 _ rfl
      replace f0 := (hx.frozen (o := 0) (cell_lt k0)).trans f0
      replace f1 := (hx.frozen (o := 1) (cell_lt k1)).trans f1
      replace k0 := hx.cell k0
      replace k1 := hx.cell k1
      obtain ⟨hG, ⟨u0, u1, e0, e1⟩, e2, e3⟩ := hH.out
      replace e2 := (hx.frozen (o := 0) (cell_lt e0)).trans e2
      replace e3 := (hx.frozen (o := 1) (cell_lt e1)).trans e3
      replace e0 := hx.cell e0
      replace e1 := hx.cell e1
      replace hG := hG.trans hx
      have HH := Lib.hid (And.intro hG (And.intro e0 (And.intro e1 (And.intro e2 e3))))
      clear hx hz hg z0 z1 c0 c1 hG e0 e1 e2 e3 hH
      by_cases hv : 0 < v
      · have HS2 := Lib.hid (show maxB (L.take (k + 1)) = (c, n) by rw [HS'.out, if_pos hv])
        go_wp2
        obtain ⟨⟨q0, q1⟩, hoth, hfr, hgr⟩ := put2 k0 k1 (rfl : ((w9.setCell ⟨w.heap.size + 1, 0, none⟩ (.int .u64 c)).setCell ⟨w.heap.size + 1, 1, none⟩ (.int .i64 n)) = _)
        generalize ((w9.setCell ⟨w.heap.size + 1, 0, none⟩ (.int .u64 c)).setCell ⟨w.heap.size + 1, 1, none⟩ (.int .i64 n)) = w10 at *
        go_roundw
        case rel =>
          have hne : w.heap.size ≠ w.heap.size + 1 := by omega
          exact ⟨k + 1, by omega, by go_num, by rw [HS2.out]; exact q0, by rw [HS2.out]; exact q1, by rw [hfr]; exact f0, by rw [hfr]; exact f1, Lib.hid ⟨hgr _ HH.out.1 hb1, ⟨_, _, hoth _ _ _ hne HH.out.2.1, hoth _ _ _ hne HH.out.2.2.1⟩, by rw [hfr]; exact HH.out.2.2.2.1, by rw [hfr]; exact HH.out.2.2.2.2⟩⟩
        case measure => simp [intOf]; omega
      · have HS2 := Lib.hid (show maxB (L.take (k + 1)) = (mc, mn) by rw [HS'.out, if_neg hv])
        go_wp2
        go_roundw
        case rel => exact ⟨k + 1, by omega, by go_num, by rw [HS2.out]; exact k0, by rw [HS2.out]; exact k1, f0, f1, Lib.hid ⟨HH.out.1, ⟨_, _, HH.out.2.1, HH.out.2.2.1⟩, HH.out.2.2.2.1, HH.out.2.2.2.2⟩⟩
        case measure => simp [intOf]; omega
    · obtain rfl : k = N := by omega
      have HT := Lib.hid (show L.take k = L from List.take_of_length_le (by rw [HN.out]; exact Nat.le_refl _))
      rw [HT.out] at k0 k1
      obtain ⟨mc, mn, hM⟩ : ∃ mc mn, maxB L = (mc, mn) := ⟨_, _, rfl⟩
      rw [hM] at k0 k1
      have HM := Lib.hid hM
      clear hM
      simp only at k0 k1
      obtain ⟨hG, ⟨u0, u1, e0, e1⟩, e2, e3⟩ := hH.out
      have HG2 := Lib.hid hG
      clear hH hG
      go_wp2
      exact bodyPost_ret (v := .agg #[.int .u64 mc, .int .i64 mn]) (by simp [results, Try.results50, go_sem, e0, e1]) rfl ⟨by rw [HM.out], (HG2.out.setCell (Nat.le_refl _) _).setCell (Nat.le_refl _) _⟩
end Go.Proofs.Ytkfkedpldndgiaa
