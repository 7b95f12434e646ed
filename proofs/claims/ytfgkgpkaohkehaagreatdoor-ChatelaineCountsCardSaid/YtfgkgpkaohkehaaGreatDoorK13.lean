import Derived.Test.YtfgkgpkaohkehaaGreatDoorK11
import Derived.Test.YtfgkgpkaohkehaaGreatDoorK12
import Derived.Test.YtfgkgpkaohkehaaGreatDoorK10
import Derived.WalkKit
import Derived.ProofKit
import Derived.LoopTactic
import Derived.Outline
import Derived.WalkSpells
import Derived.WalkLawsBesides
import Derived.Lib.Hide
import Derived.Deep.LoopGhost
import Derived.Deep.QuietTactic
import Derived.BigQuiet
import Derived.ShutString
import Derived.IntWalk
import Derived.Deep.RegionHeld3
namespace Go.Proofs.YtfgkgpkaohkehaaGreatDoor
open Go.ChangeShapes Go.WideShapes Go.ChangeAt Go.RowKit
open Enc Bal
set_option linter.unusedVariables false
set_option linter.unusedSimpArgs false
/-- What reading a ballot gives: what is left, the error, the counter, the node. -/
def getS (r : ByteArray) (e : Nat) : ByteArray × Nat × Nat × Nat :=
  if (nS (uS r e).1 (uS r e).2.1 11).2.1 ≠ 0 then ((nS (uS r e).1 (uS r e).2.1 11).1, (nS (uS r e).1 (uS r e).2.1 11).2.1, 0, 0)
  else if (uS r e).2.2 = 0 ∧ (nS (uS r e).1 (uS r e).2.1 11).2.2 ≠ 0 then ((nS (uS r e).1 (uS r e).2.1 11).1, 4, 0, 0)
  else ((nS (uS r e).1 (uS r e).2.1 11).1, 0, (uS r e).2.2, (nS (uS r e).1 (uS r e).2.1 11).2.2)
theorem getS_ways (r : ByteArray) (e : Nat) : ∃ a b c a2 b2 n, uS r e = (a, b, c) ∧ nS a b 11 = (a2, b2, n) ∧ a.size ≤ r.size ∧ n ≤ 11 ∧
    (b2 ≠ 0 ∧ getS r e = (a2, b2, 0, 0) ∨ b2 = 0 ∧ c = 0 ∧ n ≠ 0 ∧ getS r e = (a2, 4, 0, 0) ∨ b2 = 0 ∧ ¬ (c = 0 ∧ n ≠ 0) ∧ getS r e = (a2, 0, c, n)) := by
  have hl := uS_left r e
  obtain ⟨a, b, c, hu⟩ : ∃ a b c, uS r e = (a, b, c) := ⟨_, _, _, rfl⟩
  obtain ⟨a2, b2, n, hn⟩ : ∃ a2 b2 n, nS a b 11 = (a2, b2, n) := ⟨_, _, _, rfl⟩
  have hm := nS_most a b 11
  have hG : getS r e = if b2 ≠ 0 then (a2, b2, 0, 0) else if c = 0 ∧ n ≠ 0 then (a2, 4, 0, 0) else (a2, 0, c, n) := by
    unfold getS; rw [hu]; simp only; rw [hn]
  rw [hu] at hl
  rw [hn] at hm
  refine ⟨a, b, c, a2, b2, n, hu, hn, hl, by simp only at hm; omega, ?_⟩
  by_cases h1 : b2 ≠ 0
  · exact .inl ⟨h1, by rw [hG, if_pos h1]⟩
  · rw [if_neg h1] at hG
    by_cases h2 : c = 0 ∧ n ≠ 0
    · exact .inr (.inl ⟨by omega, h2.1, h2.2, by rw [hG, if_pos h2]⟩)
    · exact .inr (.inr ⟨by omega, h2, by rw [hG, if_neg h2]⟩)
def RGetIs (r : ByteArray) (e : Nat) (w : World) (en : Ending) (w' : World) : Prop :=
  en = .returned (.tuple #[.agg #[.string (getS r e).1, .int .i64 ((getS r e).2.1 : Nat)], .agg #[.int .u64 ((getS r e).2.2.1 : Nat), .int .i64 ((getS r e).2.2.2 : Nat)]]) ∧ Gr w w'
theorem rgetIs_mk {r a : ByteArray} {e b c n : Nat} {w w' : World} (h : Hid (getS r e = (a, b, c, n))) (hg : Gr w w') : RGetIs r e w (.returned (.tuple #[.agg #[.string a, .int .i64 (b : Int)], .agg #[.int .u64 (c : Int), .int .i64 (n : Int)]])) w' := by
  unfold RGetIs; rw [h.out]; exact ⟨rfl, hg⟩
end Go.Proofs.YtfgkgpkaohkehaaGreatDoor
namespace Go.Proofs.YtfgkgpkaohkehaaGreatDoor
open Go.ChangeShapes Go.WideShapes Go.ChangeAt Go.RowKit
open Enc Bal
set_option linter.unusedVariables false
set_option linter.unusedSimpArgs false
theorem Only.setNew {p q o : Nat} {w w' : World} (h : Only p w w') (hq : w.heap.size ≤ q) (v : Value) : Only p w (w'.setCell ⟨q, o, none⟩ v) :=
  ⟨h.os, h.tape, h.output, by have := h.size; simpa [World.setCell] using this, fun k hk hp => by rw [Below.heap_setCell _ _ _ _ (by show k ≠ q; omega)]; exact h.block k hk hp⟩
theorem Only.frozen {p b o : Nat} {w w' : World} (h : Only p w w') (hb : b ≠ p) (hlt : b < w.heap.size) : w'.frozen? ⟨b, o, none⟩ = w.frozen? ⟨b, o, none⟩ :=
  World.frozen?_of_block (w := w) (a := ⟨b, o, none⟩) (h.block b hlt hb)
theorem nS_zero (r : ByteArray) (e : Nat) (most : Int) (h : (nS r e most).2.1 ≠ 0) : (nS r e most).2.2 = 0 := by
  have hz := uS_zero r e
  unfold nS at *
  split
  · rfl
  · rename_i h1
    rw [if_neg h1] at h
    exact hz h
theorem nIs_is {p : Nat} {r : ByteArray} {e : Nat} {most : Int} {w w' : World} {en : Ending} {a : ByteArray} {b c : Nat} (h : Hid (nS r e most = (a, b, c))) (hu : NIs p r e most w en w') : en = .returned (.int .i64 (c : Int)) ∧ RdIs w' p a b ∧ Only p w w' := by
  have := h.out
  unfold NIs at hu; rwa [this] at hu
def GetIs (p : Nat) (r : ByteArray) (e : Nat) (w : World) (en : Ending) (w' : World) : Prop :=
  en = .returned (.agg #[.int .u64 ((getS r e).2.2.1 : Nat), .int .i64 ((getS r e).2.2.2 : Nat)]) ∧ RdIs w' p (getS r e).1 (getS r e).2.1 ∧ Only p w w'
theorem getIs_mk {p : Nat} {r a : ByteArray} {e b c n : Nat} {w w' : World} (h : Hid (getS r e = (a, b, c, n))) (h1 : RdIs w' p a b) (h2 : Only p w w') : GetIs p r e w (.returned (.agg #[.int .u64 (c : Int), .int .i64 (n : Int)])) w' := by
  unfold GetIs; rw [h.out]; exact ⟨rfl, h1, h2⟩
theorem rd_set {w : World} {p q o : Nat} {r : ByteArray} {e : Nat} (h : RdIs w p r e) (hq : p ≠ q) (v : Value) : RdIs (w.setCell ⟨q, o, none⟩ v) p r e := h.only (Only.setCell q o w v) hq
set_option maxRecDepth 100000 in
set_option maxHeartbeats 2000000 in
theorem bGet_any (p : Nat) (r : ByteArray) (e : Nat) (w : World) (h : RdIs w p r e) :
    Calls Tryz.prog 56 #[.pointer (some ⟨p, 0, none⟩)] w (GetIs p r e w) := by
  obtain ⟨a, b, c, a2, b2, n, hu, hn, hl, hn11, hways⟩ := getS_ways r e
  have hnz := nS_zero a b 11
  rw [hn] at hnz
  simp only at hnz
  have hp : p < w.heap.size := cell_lt h.1
  have H0 := Lib.hid (h.gr ((Gr.refl w).alloc (.cells #[.int .u64 0, .int .i64 0] 38)))
  have HU := Lib.hid hu
  have HN := Lib.hid hn
  have hne : w.heap.size ≠ p := by omega
  have hne' : p ≠ w.heap.size := by omega
  clear h hu hn hl
  rcases hways with ⟨h1, hE⟩ | ⟨rfl, rfl, h3, hE⟩ | ⟨rfl, h2, hE⟩
  · obtain rfl := hnz h1
    have t9 : ((b2 : Int) != 0) = true := by simp; omega
    rcases (show c = 0 ∨ 0 < c by omega) with rfl | h5
    · have E := Lib.hid hE
      have hnone : decide (((0 : Nat) : Int) = 0 ∧ ((0 : Nat) : Int) = 0) = true := by simp
      clear hE hnz h1
      go_enter Tryz.func56, Tryz.ntmps56
      go_wp2_with fail
      refine (rU_any p r e _ H0.out).mono ?_
      intro en w1 hU
      obtain ⟨rfl, hR, hO⟩ := uIs_is HU hU
      clear hU
      have hz := Gr.refl (w.alloc (.cells #[.int .u64 0, .int .i64 0] 38))
      have o0 := hO.cell hne (hz.own.1 0 _ rfl)
      have o1 := hO.cell hne (hz.own.1 1 _ rfl)
      have o2 := (hO.frozen (o := 0) hne hz.own.2.2).trans (hz.own.2.1 0)
      have o3 := (hO.frozen (o := 1) hne hz.own.2.2).trans (hz.own.2.1 1)
      have HO := Lib.hid ((Only.of_gr (p := p) ((Gr.refl w).alloc (.cells #[.int .u64 0, .int .i64 0] 38))).trans hO)
      clear hO hz
      have HR := Lib.hid hR
      clear hR
      go_wp2_with fail
      refine (rN_any p a b 11 (by decide) _ HR.out).mono ?_
      intro en w2 hNN
      obtain ⟨rfl, hR, hO⟩ := nIs_is HN hNN
      clear hNN
      replace o2 := (hO.frozen (o := 0) hne (cell_lt o0)).trans o2
      replace o3 := (hO.frozen (o := 1) hne (cell_lt o1)).trans o3
      replace o0 := hO.cell hne o0
      replace o1 := hO.cell hne o1
      have HO2 := Lib.hid (HO.out.trans hO)
      have hz := (Gr.refl w2).alloc (.cells #[.int .u64 (0 : Nat), .int .i64 (0 : Nat)] 38)
      have HRr := Lib.hid hR
      have HR2 := Lib.hid (hR.gr hz)
      have HO3 := Lib.hid (HO2.out.trans (Only.of_gr hz))
      clear hO hR hz
      have ol := cell_lt o0
      go_wp2_with fail
      refine (none08_any (0 : Nat) (0 : Nat) _).mono ?_
      rintro en w3 ⟨rfl, hg⟩
      rw [hnone]
      have hx := ((Gr.refl w2).alloc (.cells #[.int .u64 (0 : Nat), .int .i64 (0 : Nat)] 38)).trans hg
      have l0 := hg.own.1 0 _ rfl
      have l1 := hg.own.1 1 _ rfl
      replace o2 := (hx.frozen (o := 0) (cell_lt o0)).trans o2
      replace o3 := (hx.frozen (o := 1) (cell_lt o1)).trans o3
      replace o0 := hx.cell o0
      replace o1 := hx.cell o1
      have HR3 := Lib.hid (HR2.out.gr hg)
      have HO4 := Lib.hid (HO3.out.trans (Only.of_gr hg))
      clear hx hg
      go_wp2_with fail
      refine (err_any p a2 b2 _ HR3.out).mono ?_
      rintro en w9 ⟨rfl, rfl⟩
      go_wp2
      exact bodyPost_ret (v := .agg #[.int .u64 (0 : Nat), .int .i64 (0 : Nat)]) (by simp [results, Tryz.results56, go_sem, o0, o1, ol, Nat.ne_of_lt ol, Nat.ne_of_gt ol]) rfl (getIs_mk E (rd_set (rd_set HR3.out hne' _) hne' _) ((HO4.out.setNew (Nat.le_refl _) _).setNew (Nat.le_refl _) _))
    · have E := Lib.hid hE
      have t1 : ((c : Int) == 0) = false := by simp; omega
      clear hE hnz h1
      go_enter Tryz.func56, Tryz.ntmps56
      go_wp2_with fail
      refine (rU_any p r e _ H0.out).mono ?_
      intro en w1 hU
      obtain ⟨rfl, hR, hO⟩ := uIs_is HU hU
      clear hU
      have hz := Gr.refl (w.alloc (.cells #[.int .u64 0, .int .i64 0] 38))
      have o0 := hO.cell hne (hz.own.1 0 _ rfl)
      have o1 := hO.cell hne (hz.own.1 1 _ rfl)
      have o2 := (hO.frozen (o := 0) hne hz.own.2.2).trans (hz.own.2.1 0)
      have o3 := (hO.frozen (o := 1) hne hz.own.2.2).trans (hz.own.2.1 1)
      have HO := Lib.hid ((Only.of_gr (p := p) ((Gr.refl w).alloc (.cells #[.int .u64 0, .int .i64 0] 38))).trans hO)
      clear hO hz
      have HR := Lib.hid hR
      clear hR
      go_wp2_with fail
      refine (rN_any p a b 11 (by decide) _ HR.out).mono ?_
      intro en w2 hNN
      obtain ⟨rfl, hR, hO⟩ := nIs_is HN hNN
      clear hNN
      replace o2 := (hO.frozen (o := 0) hne (cell_lt o0)).trans o2
      replace o3 := (hO.frozen (o := 1) hne (cell_lt o1)).trans o3
      replace o0 := hO.cell hne o0
      replace o1 := hO.cell hne o1
      have HO2 := Lib.hid (HO.out.trans hO)
      have hz := (Gr.refl w2).alloc (.cells #[.int .u64 (c : Nat), .int .i64 (0 : Nat)] 38)
      have HRr := Lib.hid hR
      have HR2 := Lib.hid (hR.gr hz)
      have HO3 := Lib.hid (HO2.out.trans (Only.of_gr hz))
      clear hO hR hz
      have ol := cell_lt o0
      go_wp2_with fail
      refine (err_any p a2 b2 _ HR2.out).mono ?_
      rintro en w9 ⟨rfl, rfl⟩
      go_wp2
      exact bodyPost_ret (v := .agg #[.int .u64 (0 : Nat), .int .i64 (0 : Nat)]) (by simp [results, Tryz.results56, go_sem, o0, o1, ol, Nat.ne_of_lt ol, Nat.ne_of_gt ol]) rfl (getIs_mk E ((rd_set (rd_set HRr.out hne' _) hne' _).gr ((Gr.refl _).alloc _)) (((HO2.out.setNew (Nat.le_refl _) _).setNew (Nat.le_refl _) _).trans (Only.of_gr ((Gr.refl _).alloc _))))
  · have E := Lib.hid hE
    have hnone : decide (((0 : Nat) : Int) = 0 ∧ (n : Int) = 0) = false := by simp; omega
    have t1 : (0 : Int) < n := by omega
    clear hE hnz
    go_enter Tryz.func56, Tryz.ntmps56
    go_wp2_with fail
    refine (rU_any p r e _ H0.out).mono ?_
    intro en w1 hU
    obtain ⟨rfl, hR, hO⟩ := uIs_is HU hU
    clear hU
    have hz := Gr.refl (w.alloc (.cells #[.int .u64 0, .int .i64 0] 38))
    have o0 := hO.cell hne (hz.own.1 0 _ rfl)
    have o1 := hO.cell hne (hz.own.1 1 _ rfl)
    have o2 := (hO.frozen (o := 0) hne hz.own.2.2).trans (hz.own.2.1 0)
    have o3 := (hO.frozen (o := 1) hne hz.own.2.2).trans (hz.own.2.1 1)
    have HO := Lib.hid ((Only.of_gr (p := p) ((Gr.refl w).alloc (.cells #[.int .u64 0, .int .i64 0] 38))).trans hO)
    clear hO hz
    have HR := Lib.hid hR
    clear hR
    go_wp2_with fail
    refine (rN_any p a b 11 (by decide) _ HR.out).mono ?_
    intro en w2 hNN
    obtain ⟨rfl, hR, hO⟩ := nIs_is HN hNN
    clear hNN
    replace o2 := (hO.frozen (o := 0) hne (cell_lt o0)).trans o2
    replace o3 := (hO.frozen (o := 1) hne (cell_lt o1)).trans o3
    replace o0 := hO.cell hne o0
    replace o1 := hO.cell hne o1
    have HO2 := Lib.hid (HO.out.trans hO)
    have hz := (Gr.refl w2).alloc (.cells #[.int .u64 (0 : Nat), .int .i64 (n : Nat)] 38)
    have HRr := Lib.hid hR
    have HR2 := Lib.hid (hR.gr hz)
    have HO3 := Lib.hid (HO2.out.trans (Only.of_gr hz))
    clear hO hR hz
    have ol := cell_lt o0
    go_wp2_with fail
    refine (none08_any (0 : Nat) (n : Nat) _).mono ?_
    rintro en w3 ⟨rfl, hg⟩
    rw [hnone]
    have hx := ((Gr.refl w2).alloc (.cells #[.int .u64 (0 : Nat), .int .i64 (n : Nat)] 38)).trans hg
    have l0 := hg.own.1 0 _ rfl
    have l1 := hg.own.1 1 _ rfl
    replace o2 := (hx.frozen (o := 0) (cell_lt o0)).trans o2
    replace o3 := (hx.frozen (o := 1) (cell_lt o1)).trans o3
    replace o0 := hx.cell o0
    replace o1 := hx.cell o1
    have HR3 := Lib.hid (HR2.out.gr hg)
    have HO4 := Lib.hid (HO3.out.trans (Only.of_gr hg))
    clear hx hg
    have hl : w2.heap.size ≠ p := by have := HO2.out.size; omega
    go_wp2_with fail
    refine (fail_zero p 4 a2 _ rfl _ HR3.out).mono ?_
    rintro en w4 ⟨rfl, hR, hO⟩
    replace l0 := hO.cell hl l0
    replace l1 := hO.cell hl l1
    replace o2 := (hO.frozen (o := 0) hne (cell_lt o0)).trans o2
    replace o3 := (hO.frozen (o := 1) hne (cell_lt o1)).trans o3
    replace o0 := hO.cell hne o0
    replace o1 := hO.cell hne o1
    have HR4 := Lib.hid hR
    have HO5 := Lib.hid (HO4.out.trans hO)
    clear hO hR
    go_wp2_with fail
    refine (err_any p a2 4 _ HR4.out).mono ?_
    rintro en w9 ⟨rfl, rfl⟩
    go_wp2
    exact bodyPost_ret (v := .agg #[.int .u64 (0 : Nat), .int .i64 (0 : Nat)]) (by simp [results, Tryz.results56, go_sem, o0, o1, ol, Nat.ne_of_lt ol, Nat.ne_of_gt ol]) rfl (getIs_mk E (rd_set (rd_set HR4.out hne' _) hne' _) ((HO5.out.setNew (Nat.le_refl _) _).setNew (Nat.le_refl _) _))
  · rcases (show c = 0 ∧ n = 0 ∨ 0 < c by omega) with ⟨rfl, rfl⟩ | h5
    · have E := Lib.hid hE
      have hnone : decide (((0 : Nat) : Int) = 0 ∧ ((0 : Nat) : Int) = 0) = true := by simp
      clear hE hnz h2
      go_enter Tryz.func56, Tryz.ntmps56
      go_wp2_with fail
      refine (rU_any p r e _ H0.out).mono ?_
      intro en w1 hU
      obtain ⟨rfl, hR, hO⟩ := uIs_is HU hU
      clear hU
      have hz := Gr.refl (w.alloc (.cells #[.int .u64 0, .int .i64 0] 38))
      have o0 := hO.cell hne (hz.own.1 0 _ rfl)
      have o1 := hO.cell hne (hz.own.1 1 _ rfl)
      have o2 := (hO.frozen (o := 0) hne hz.own.2.2).trans (hz.own.2.1 0)
      have o3 := (hO.frozen (o := 1) hne hz.own.2.2).trans (hz.own.2.1 1)
      have HO := Lib.hid ((Only.of_gr (p := p) ((Gr.refl w).alloc (.cells #[.int .u64 0, .int .i64 0] 38))).trans hO)
      clear hO hz
      have HR := Lib.hid hR
      clear hR
      go_wp2_with fail
      refine (rN_any p a b 11 (by decide) _ HR.out).mono ?_
      intro en w2 hNN
      obtain ⟨rfl, hR, hO⟩ := nIs_is HN hNN
      clear hNN
      replace o2 := (hO.frozen (o := 0) hne (cell_lt o0)).trans o2
      replace o3 := (hO.frozen (o := 1) hne (cell_lt o1)).trans o3
      replace o0 := hO.cell hne o0
      replace o1 := hO.cell hne o1
      have HO2 := Lib.hid (HO.out.trans hO)
      have hz := (Gr.refl w2).alloc (.cells #[.int .u64 (0 : Nat), .int .i64 (0 : Nat)] 38)
      have HRr := Lib.hid hR
      have HR2 := Lib.hid (hR.gr hz)
      have HO3 := Lib.hid (HO2.out.trans (Only.of_gr hz))
      clear hO hR hz
      have ol := cell_lt o0
      go_wp2_with fail
      refine (none08_any (0 : Nat) (0 : Nat) _).mono ?_
      rintro en w3 ⟨rfl, hg⟩
      rw [hnone]
      have hx := ((Gr.refl w2).alloc (.cells #[.int .u64 (0 : Nat), .int .i64 (0 : Nat)] 38)).trans hg
      have l0 := hg.own.1 0 _ rfl
      have l1 := hg.own.1 1 _ rfl
      replace o2 := (hx.frozen (o := 0) (cell_lt o0)).trans o2
      replace o3 := (hx.frozen (o := 1) (cell_lt o1)).trans o3
      replace o0 := hx.cell o0
      replace o1 := hx.cell o1
      have HR3 := Lib.hid (HR2.out.gr hg)
      have HO4 := Lib.hid (HO3.out.trans (Only.of_gr hg))
      clear hx hg
      go_wp2_with fail
      refine (err_any p a2 0 _ HR3.out).mono ?_
      rintro en w9 ⟨rfl, rfl⟩
      go_wp2
      exact bodyPost_ret (v := .agg #[.int .u64 (0 : Nat), .int .i64 (0 : Nat)]) (by simp [results, Tryz.results56, go_sem, o0, o1, ol, Nat.ne_of_lt ol, Nat.ne_of_gt ol]) rfl (getIs_mk E (rd_set (rd_set HR3.out hne' _) hne' _) ((HO4.out.setNew (Nat.le_refl _) _).setNew (Nat.le_refl _) _))
    · have E := Lib.hid hE
      have t1 : ((c : Int) == 0) = false := by simp; omega
      clear hE hnz h2
      go_enter Tryz.func56, Tryz.ntmps56
      go_wp2_with fail
      refine (rU_any p r e _ H0.out).mono ?_
      intro en w1 hU
      obtain ⟨rfl, hR, hO⟩ := uIs_is HU hU
      clear hU
      have hz := Gr.refl (w.alloc (.cells #[.int .u64 0, .int .i64 0] 38))
      have o0 := hO.cell hne (hz.own.1 0 _ rfl)
      have o1 := hO.cell hne (hz.own.1 1 _ rfl)
      have o2 := (hO.frozen (o := 0) hne hz.own.2.2).trans (hz.own.2.1 0)
      have o3 := (hO.frozen (o := 1) hne hz.own.2.2).trans (hz.own.2.1 1)
      have HO := Lib.hid ((Only.of_gr (p := p) ((Gr.refl w).alloc (.cells #[.int .u64 0, .int .i64 0] 38))).trans hO)
      clear hO hz
      have HR := Lib.hid hR
      clear hR
      go_wp2_with fail
      refine (rN_any p a b 11 (by decide) _ HR.out).mono ?_
      intro en w2 hNN
      obtain ⟨rfl, hR, hO⟩ := nIs_is HN hNN
      clear hNN
      replace o2 := (hO.frozen (o := 0) hne (cell_lt o0)).trans o2
      replace o3 := (hO.frozen (o := 1) hne (cell_lt o1)).trans o3
      replace o0 := hO.cell hne o0
      replace o1 := hO.cell hne o1
      have HO2 := Lib.hid (HO.out.trans hO)
      have hz := (Gr.refl w2).alloc (.cells #[.int .u64 (c : Nat), .int .i64 (n : Nat)] 38)
      have HRr := Lib.hid hR
      have HR2 := Lib.hid (hR.gr hz)
      have HO3 := Lib.hid (HO2.out.trans (Only.of_gr hz))
      clear hO hR hz
      have ol := cell_lt o0
      go_wp2_with fail
      refine (err_any p a2 0 _ HR2.out).mono ?_
      rintro en w9 ⟨rfl, rfl⟩
      go_wp2
      exact bodyPost_ret (v := .agg #[.int .u64 (c : Nat), .int .i64 (n : Nat)]) (by simp [results, Tryz.results56, go_sem, o0, o1, ol, Nat.ne_of_lt ol, Nat.ne_of_gt ol]) rfl (getIs_mk E ((rd_set (rd_set HRr.out hne' _) hne' _).gr ((Gr.refl _).alloc _)) (((HO2.out.setNew (Nat.le_refl _) _).setNew (Nat.le_refl _) _).trans (Only.of_gr ((Gr.refl _).alloc _))))
end Go.Proofs.YtfgkgpkaohkehaaGreatDoor
namespace Go.Proofs.YtfgkgpkaohkehaaGreatDoor
open Go.ChangeShapes Go.WideShapes Go.ChangeAt Go.RowKit
open Enc Bal
set_option linter.unusedVariables false
set_option linter.unusedSimpArgs false
theorem nat_wf {n : Nat} (h : n ≤ 11) : (Lit.int .i64 (n : Int)).wf = true := by
  simp [Lit.wf, IntKind.min, IntKind.max, IntKind.signed, IntKind.bits]
  omega
theorem wrLt {w : World} {p : Nat} {l : List UInt8} (h : WrIs w p l) : p < w.heap.size := by obtain ⟨_, _, _, _, hp, _⟩ := h; exact hp
theorem wN_1 (p v b : Nat) (l : List UInt8) (w : World) (h : WrIs w p l) (hb : b ≠ p) (hfr : Free w p b) (hc : w.cell? ⟨b, 0, none⟩ = some (.int .i64 (v : Int))) (hl : l.length ≤ 1000000) (hv : v ≤ 1000) :
    Calls Tryz.prog 34 #[.pointer (some ⟨p, 0, none⟩), .slice (some ⟨b, 0, none⟩) 1 1] w fun e w' => e = .returned (.pointer (some ⟨p, 0, none⟩)) ∧ WrIs w' p (l ++ encN (v : Int)) ∧ Below p w w' ∧ Keeps p w w' := by
  have := wN_any p b 0 [(v : Int)] l w h hb hfr (by intro i hi; match i, hi with | 0, _ => exact hc) hl (by simp) (by intro x hx; simp at hx; omega)
  have e1 : encNs [(v : Int)] = encN (v : Int) := by simp [encNs]
  rwa [e1] at this
theorem free_gr {w w' : World} {p b : Nat} {l : List UInt8} (hW : WrIs w p l) (hg : Gr w w') (hf : Free w p b) : Free w' p b := by
  obtain ⟨a, cap, hc, _⟩ := hW
  intro v hv
  have := hg.cell hc
  rw [this] at hv
  cases hv
  exact hf _ hc
set_option maxRecDepth 100000 in
set_option maxHeartbeats 2000000 in
theorem bPut_any (p c n : Nat) (l : List UInt8) (w : World) (h : WrIs w p l) (hl : l.length ≤ 100000) (hn : n ≤ 11) :
    Calls Tryz.prog 33 #[.agg #[.int .u64 c, .int .i64 n], .pointer (some ⟨p, 0, none⟩)] w fun e w' => e = .returned (.tuple #[]) ∧ WrIs w' p (l ++ encU c ++ encN n) ∧ Below p w w' := by
  have hul := encU_le c
  have hp := wrLt h
  go_enter Tryz.func33, Tryz.ntmps33
  go_wp2
  have hg := (Gr.refl w).alloc (.cells #[.int .u64 (c : Nat), .int .i64 (n : Nat)] 38)
  have hz := Gr.refl (w.alloc (.cells #[.int .u64 (c : Nat), .int .i64 (n : Nat)] 38))
  have k0 := hz.own.1 0 _ rfl
  have k1 := hz.own.1 1 _ rfl
  have hFb := free_new h (.cells #[.int .u64 (c : Nat), .int .i64 (n : Nat)] 38)
  have hW := h.gr hg
  have HW0 := Lib.hid hW
  have HB0 := Lib.hid ((hg.below).mono (Nat.le_of_lt hp))
  have hbp : w.heap.size ≠ p := by omega
  clear hg hz h
  generalize w.heap.size = b at *
  generalize w.alloc (.cells #[.int .u64 (c : Nat), .int .i64 (n : Nat)] 38) = wz at *
  refine wp_region_held_drew (S := (fun w9 => w9.cell? ⟨b, 0, none⟩ = some (.int .u64 (c : Nat)) ∧ w9.cell? ⟨b, 1, none⟩ = some (.int .i64 (n : Nat)))) (by kernel_rfl) ?invp (fun h0 => ?_)
  case invp => exact ⟨k0, k1⟩
  have gd := (Gr.refl wz).drew
  replace hW := hW.gr gd
  replace hFb := free_gr HW0.out gd hFb
  have HB := Lib.hid (HB0.out.trans ((gd.below).mono (Nat.le_of_lt (wrLt HW0.out))))
  clear gd
  generalize wz.drew = wd at *
  refine wpAnyH_take (i := 0) (oi := { dst := some 4, op := Go.Op.move (Go.Operand.tmp 1), type := 82, pos := "ballot.go:54", after := #[], guard := none }) (v := ?vp0) rfl (by kernel_rfl) (by kernel_rfl) (by kernel_rfl) (fun _ _ _ h => h) (Or.inl ⟨by rfl, ?rp0⟩) (by assumption) ?_
  case rp0 => (intro w hSw; (try dsimp only at hSw); (go_simp <;> with_reducible rfl))
  try simp only [Act.put, List.setIfInBounds_toArray, List.set_cons_zero, List.set_cons_succ]
  refine wpAnyH_take (i := 1) (oi := { dst := some 5, op := Go.Op.fieldAddr 38 (Go.Operand.tmp 2) 0, type := 0, pos := "ballot.go:54", after := #[], guard := none }) (v := ?vp1) rfl (by kernel_rfl) (by kernel_rfl) (by kernel_rfl) (fun _ _ _ h => h) (Or.inl ⟨by rfl, ?rp1⟩) (by assumption) ?_
  case rp1 => (intro w hSw; (try dsimp only at hSw); (go_simp <;> with_reducible rfl))
  try simp only [Act.put, List.setIfInBounds_toArray, List.set_cons_zero, List.set_cons_succ]
  refine wpAnyH_take (i := 2) (oi := { dst := some 6, op := Go.Op.load 36 (Go.Operand.tmp 5), type := 36, pos := "ballot.go:54", after := #[{ on := 1, ground := Go.Ground.data }], guard := none }) (v := ?vp2) rfl (by kernel_rfl) (by kernel_rfl) (by kernel_rfl) (fun _ _ _ h => h) (Or.inl ⟨by rfl, ?rp2⟩) (by assumption) ?_
  case rp2 => (intro w hSw; (try dsimp only at hSw); (go_simp <;> with_reducible rfl))
  try simp only [Act.put, List.setIfInBounds_toArray, List.set_cons_zero, List.set_cons_succ]
  refine wpAnyH_take (i := 5) (oi := { dst := some 9, op := Go.Op.fieldAddr 38 (Go.Operand.tmp 2) 1, type := 0, pos := "ballot.go:54", after := #[], guard := none }) (v := ?vp5) rfl (by kernel_rfl) (by kernel_rfl) (by kernel_rfl) (fun _ _ _ h => h) (Or.inl ⟨by rfl, ?rp5⟩) (by assumption) ?_
  case rp5 => (intro w hSw; (try dsimp only at hSw); (go_simp <;> with_reducible rfl))
  try simp only [Act.put, List.setIfInBounds_toArray, List.set_cons_zero, List.set_cons_succ]
  refine wpAnyH_take (i := 6) (oi := { dst := some 10, op := Go.Op.load 3 (Go.Operand.tmp 9), type := 3, pos := "ballot.go:54", after := #[{ on := 5, ground := Go.Ground.data }], guard := none }) (v := ?vp6) rfl (by kernel_rfl) (by kernel_rfl) (by kernel_rfl) (fun _ _ _ h => h) (Or.inl ⟨by rfl, ?rp6⟩) (by assumption) ?_
  case rp6 => (intro w hSw; (try dsimp only at hSw); (go_simp <;> with_reducible rfl))
  try simp only [Act.put, List.setIfInBounds_toArray, List.set_cons_zero, List.set_cons_succ]
  refine wpAnyH_ready (rs := [3, 7]) (by kernel_rfl) (by simp) ?_
  refine AllReadyH.cons (o := { dst := some 7, op := Go.Op.buildSlice 137 1 #[(0, Go.Operand.tmp 6)], type := 137, pos := "ballot.go:54", after := #[{ on := 2, ground := Go.Ground.data }], guard := none }) rfl (fun K hK => ?_) (AllReadyH.cons (o := { dst := some 11, op := Go.Op.buildSlice 61 1 #[(0, Go.Operand.tmp 10)], type := 61, pos := "ballot.go:54", after := #[{ on := 6, ground := Go.Ground.data }], guard := none }) rfl (fun K hK => ?_) AllReadyH.nil)
  · skip
    go_simp
    obtain ⟨s3, hs3⟩ : ∃ s, s = wd.heap.size := ⟨_, rfl⟩
    rw [← hs3]
    obtain ⟨wp1, hw⟩ : ∃ wn, wn = wd.alloc (.cells #[.int .u64 (c : Nat)] 36) := ⟨_, rfl⟩
    rw [← hw]
    have gx : Gr wd wp1 := by rw [hw]; exact (Gr.refl _).alloc _
    have F3 : Free wp1 p s3 := by rw [hw, hs3]; exact free_new hW _
    have c3 : wp1.cell? ⟨s3, 0, none⟩ = some (.int .u64 (c : Nat)) := by rw [hw, hs3]; exact new_cell rfl rfl
    have d3 : s3 ≠ p := by have := (wrLt hW); omega
    have hFb := free_gr hW gx hFb
    have hk0 := gx.cell h0.1
    have hk1 := gx.cell h0.2
    have HB := Lib.hid (HB.out.trans ((gx.below).mono (Nat.le_of_lt (wrLt hW))))
    have hW := hW.gr gx
    clear gx hw hs3
    first | refine hK.out _ _ ?sp1 (fun hp1 => ?_) | (go_wp2_with fail; refine hK.out _ _ ?sp1 (fun hp1 => ?_))
    case sp1 => exact ⟨hk0, hk1⟩
    clear hK K
    try simp only [Act.put, List.setIfInBounds_toArray, List.set_cons_zero, List.set_cons_succ]
    refine wpAnyH_ready (rs := [4, 7]) (by kernel_rfl) (by simp) ?_
    refine AllReadyH.cons (o := { dst := some 8, op := Go.Op.call { callee := Go.Callee.value (Go.Operand.func 64), args := #[Go.Operand.tmp 4, Go.Operand.tmp 7], argTypes := #[82, 137] }, type := 82, pos := "ballot.go:54", after := #[{ on := 0, ground := Go.Ground.data }, { on := 3, ground := Go.Ground.data }], guard := none }) rfl (fun K hK => ?_) (AllReadyH.cons (o := { dst := some 11, op := Go.Op.buildSlice 61 1 #[(0, Go.Operand.tmp 10)], type := 61, pos := "ballot.go:54", after := #[{ on := 6, ground := Go.Ground.data }], guard := none }) rfl (fun K hK => ?_) AllReadyH.nil)
    · skip
      go_simp
      go_at_call 64
      refine (wU_1 p c s3 l _ hW d3 F3 (cell_lt c3) c3 (by omega)).mono ?_
      rintro e wp2 ⟨rfl, hW2, hB2, hK2⟩
      have hk0 := hK2.cell hbp hFb hp1.1
      have hk1 := hK2.cell hbp hFb hp1.2
      have hFb := (hK2.2 b (cell_lt hp1.1) hbp hFb).2
      have HB := Lib.hid (HB.out.trans hB2)
      have hW := hW2
      clear hW2 hB2 hK2
      first | refine hK.out _ _ ?sp2 (fun hp2 => ?_) | (go_wp2_with fail; refine hK.out _ _ ?sp2 (fun hp2 => ?_))
      case sp2 => exact ⟨hk0, hk1⟩
      clear hK K
      try simp only [Act.put, List.setIfInBounds_toArray, List.set_cons_zero, List.set_cons_succ]
      refine wpAnyH_ready (rs := [7]) (by kernel_rfl) (by simp) ?_
      refine AllReadyH.cons (o := { dst := some 11, op := Go.Op.buildSlice 61 1 #[(0, Go.Operand.tmp 10)], type := 61, pos := "ballot.go:54", after := #[{ on := 6, ground := Go.Ground.data }], guard := none }) rfl (fun K hK => ?_) AllReadyH.nil
      go_simp
      obtain ⟨s7, hs7⟩ : ∃ s, s = wp2.heap.size := ⟨_, rfl⟩
      rw [← hs7]
      obtain ⟨wp3, hw⟩ : ∃ wn, wn = wp2.alloc (.cells #[.int .i64 (n : Nat)] 3) := ⟨_, rfl⟩
      rw [← hw]
      have gx : Gr wp2 wp3 := by rw [hw]; exact (Gr.refl _).alloc _
      have F7 : Free wp3 p s7 := by rw [hw, hs7]; exact free_new hW _
      have c7 : wp3.cell? ⟨s7, 0, none⟩ = some (.int .i64 (n : Nat)) := by rw [hw, hs7]; exact new_cell rfl rfl
      have d7 : s7 ≠ p := by have := (wrLt hW); omega
      have hFb := free_gr hW gx hFb
      have hk0 := gx.cell hp2.1
      have hk1 := gx.cell hp2.2
      have HB := Lib.hid (HB.out.trans ((gx.below).mono (Nat.le_of_lt (wrLt hW))))
      have hW := hW.gr gx
      clear gx hw hs7
      first | refine hK.out _ _ ?sp3 (fun hp3 => ?_) | (go_wp2_with fail; refine hK.out _ _ ?sp3 (fun hp3 => ?_))
      case sp3 => exact ⟨hk0, hk1⟩
      clear hK K
      try simp only [Act.put, List.setIfInBounds_toArray, List.set_cons_zero, List.set_cons_succ]
      refine wpAnyH_ready (rs := [8]) (by kernel_rfl) (by simp) ?_
      refine AllReadyH.cons (o := { dst := some 12, op := Go.Op.call { callee := Go.Callee.value (Go.Operand.func 34), args := #[Go.Operand.tmp 8, Go.Operand.tmp 11], argTypes := #[82, 61] }, type := 82, pos := "ballot.go:54", after := #[{ on := 4, ground := Go.Ground.data }, { on := 7, ground := Go.Ground.data }, { on := 4, ground := Go.Ground.chain }], guard := none }) rfl (fun K hK => ?_) AllReadyH.nil
      go_simp
      go_at_call 34
      refine (wN_1 p n s7 (l ++ encU c) _ hW d7 F7 c7 (by rw [List.length_append]; omega) (by omega)).mono ?_
      rintro e wp4 ⟨rfl, hW2, hB2, hK2⟩
      have hk0 := hK2.cell hbp hFb hp3.1
      have hk1 := hK2.cell hbp hFb hp3.2
      have HBf := Lib.hid (HB.out.trans hB2)
      have hW := hW2
      clear hW2 hB2 hK2
      first | refine hK.out _ _ ?sp4 (fun hp4 => ?_) | (go_wp2_with fail; refine hK.out _ _ ?sp4 (fun hp4 => ?_))
      case sp4 => exact ⟨hk0, hk1⟩
      clear hK K
      try simp only [Act.put, List.setIfInBounds_toArray, List.set_cons_zero, List.set_cons_succ]
      refine wpAnyH_done (by kernel_rfl) ?_ _
      go_wp2
      first | go_end0 | go_ret
      exact ⟨rfl, hW, HBf.out⟩
    · skip
      go_simp
      obtain ⟨s7, hs7⟩ : ∃ s, s = wp1.heap.size := ⟨_, rfl⟩
      rw [← hs7]
      obtain ⟨wp5, hw⟩ : ∃ wn, wn = wp1.alloc (.cells #[.int .i64 (n : Nat)] 3) := ⟨_, rfl⟩
      rw [← hw]
      have gx : Gr wp1 wp5 := by rw [hw]; exact (Gr.refl _).alloc _
      have c3 := gx.cell c3
      have F3 := free_gr hW gx F3
      have F7 : Free wp5 p s7 := by rw [hw, hs7]; exact free_new hW _
      have c7 : wp5.cell? ⟨s7, 0, none⟩ = some (.int .i64 (n : Nat)) := by rw [hw, hs7]; exact new_cell rfl rfl
      have d7 : s7 ≠ p := by have := (wrLt hW); omega
      have hFb := free_gr hW gx hFb
      have hk0 := gx.cell hp1.1
      have hk1 := gx.cell hp1.2
      have HB := Lib.hid (HB.out.trans ((gx.below).mono (Nat.le_of_lt (wrLt hW))))
      have hW := hW.gr gx
      clear gx hw hs7
      first | refine hK.out _ _ ?sp5 (fun hp5 => ?_) | (go_wp2_with fail; refine hK.out _ _ ?sp5 (fun hp5 => ?_))
      case sp5 => exact ⟨hk0, hk1⟩
      clear hK K
      try simp only [Act.put, List.setIfInBounds_toArray, List.set_cons_zero, List.set_cons_succ]
      refine wpAnyH_ready (rs := [4]) (by kernel_rfl) (by simp) ?_
      refine AllReadyH.cons (o := { dst := some 8, op := Go.Op.call { callee := Go.Callee.value (Go.Operand.func 64), args := #[Go.Operand.tmp 4, Go.Operand.tmp 7], argTypes := #[82, 137] }, type := 82, pos := "ballot.go:54", after := #[{ on := 0, ground := Go.Ground.data }, { on := 3, ground := Go.Ground.data }], guard := none }) rfl (fun K hK => ?_) AllReadyH.nil
      go_simp
      go_at_call 64
      refine (wU_1 p c s3 l _ hW d3 F3 (cell_lt c3) c3 (by omega)).mono ?_
      rintro e wp6 ⟨rfl, hW2, hB2, hK2⟩
      have hl7 := cell_lt c7
      have c7 := hK2.cell d7 F7 c7
      have F7 := (hK2.2 s7 hl7 d7 F7).2
      have hk0 := hK2.cell hbp hFb hp5.1
      have hk1 := hK2.cell hbp hFb hp5.2
      have hFb := (hK2.2 b (cell_lt hp5.1) hbp hFb).2
      have HB := Lib.hid (HB.out.trans hB2)
      have hW := hW2
      clear hW2 hB2 hK2
      first | refine hK.out _ _ ?sp6 (fun hp6 => ?_) | (go_wp2_with fail; refine hK.out _ _ ?sp6 (fun hp6 => ?_))
      case sp6 => exact ⟨hk0, hk1⟩
      clear hK K
      try simp only [Act.put, List.setIfInBounds_toArray, List.set_cons_zero, List.set_cons_succ]
      refine wpAnyH_ready (rs := [8]) (by kernel_rfl) (by simp) ?_
      refine AllReadyH.cons (o := { dst := some 12, op := Go.Op.call { callee := Go.Callee.value (Go.Operand.func 34), args := #[Go.Operand.tmp 8, Go.Operand.tmp 11], argTypes := #[82, 61] }, type := 82, pos := "ballot.go:54", after := #[{ on := 4, ground := Go.Ground.data }, { on := 7, ground := Go.Ground.data }, { on := 4, ground := Go.Ground.chain }], guard := none }) rfl (fun K hK => ?_) AllReadyH.nil
      go_simp
      go_at_call 34
      refine (wN_1 p n s7 (l ++ encU c) _ hW d7 F7 c7 (by rw [List.length_append]; omega) (by omega)).mono ?_
      rintro e wp7 ⟨rfl, hW2, hB2, hK2⟩
      have hk0 := hK2.cell hbp hFb hp6.1
      have hk1 := hK2.cell hbp hFb hp6.2
      have HBf := Lib.hid (HB.out.trans hB2)
      have hW := hW2
      clear hW2 hB2 hK2
      first | refine hK.out _ _ ?sp7 (fun hp7 => ?_) | (go_wp2_with fail; refine hK.out _ _ ?sp7 (fun hp7 => ?_))
      case sp7 => exact ⟨hk0, hk1⟩
      clear hK K
      try simp only [Act.put, List.setIfInBounds_toArray, List.set_cons_zero, List.set_cons_succ]
      refine wpAnyH_done (by kernel_rfl) ?_ _
      go_wp2
      first | go_end0 | go_ret
      exact ⟨rfl, hW, HBf.out⟩
  · skip
    go_simp
    obtain ⟨s7, hs7⟩ : ∃ s, s = wd.heap.size := ⟨_, rfl⟩
    rw [← hs7]
    obtain ⟨wp8, hw⟩ : ∃ wn, wn = wd.alloc (.cells #[.int .i64 (n : Nat)] 3) := ⟨_, rfl⟩
    rw [← hw]
    have gx : Gr wd wp8 := by rw [hw]; exact (Gr.refl _).alloc _
    have F7 : Free wp8 p s7 := by rw [hw, hs7]; exact free_new hW _
    have c7 : wp8.cell? ⟨s7, 0, none⟩ = some (.int .i64 (n : Nat)) := by rw [hw, hs7]; exact new_cell rfl rfl
    have d7 : s7 ≠ p := by have := (wrLt hW); omega
    have hFb := free_gr hW gx hFb
    have hk0 := gx.cell h0.1
    have hk1 := gx.cell h0.2
    have HB := Lib.hid (HB.out.trans ((gx.below).mono (Nat.le_of_lt (wrLt hW))))
    have hW := hW.gr gx
    clear gx hw hs7
    first | refine hK.out _ _ ?sp8 (fun hp8 => ?_) | (go_wp2_with fail; refine hK.out _ _ ?sp8 (fun hp8 => ?_))
    case sp8 => exact ⟨hk0, hk1⟩
    clear hK K
    try simp only [Act.put, List.setIfInBounds_toArray, List.set_cons_zero, List.set_cons_succ]
    refine wpAnyH_ready (rs := [3]) (by kernel_rfl) (by simp) ?_
    refine AllReadyH.cons (o := { dst := some 7, op := Go.Op.buildSlice 137 1 #[(0, Go.Operand.tmp 6)], type := 137, pos := "ballot.go:54", after := #[{ on := 2, ground := Go.Ground.data }], guard := none }) rfl (fun K hK => ?_) AllReadyH.nil
    go_simp
    obtain ⟨s3, hs3⟩ : ∃ s, s = wp8.heap.size := ⟨_, rfl⟩
    rw [← hs3]
    obtain ⟨wp9, hw⟩ : ∃ wn, wn = wp8.alloc (.cells #[.int .u64 (c : Nat)] 36) := ⟨_, rfl⟩
    rw [← hw]
    have gx : Gr wp8 wp9 := by rw [hw]; exact (Gr.refl _).alloc _
    have c7 := gx.cell c7
    have F7 := free_gr hW gx F7
    have F3 : Free wp9 p s3 := by rw [hw, hs3]; exact free_new hW _
    have c3 : wp9.cell? ⟨s3, 0, none⟩ = some (.int .u64 (c : Nat)) := by rw [hw, hs3]; exact new_cell rfl rfl
    have d3 : s3 ≠ p := by have := (wrLt hW); omega
    have hFb := free_gr hW gx hFb
    have hk0 := gx.cell hp8.1
    have hk1 := gx.cell hp8.2
    have HB := Lib.hid (HB.out.trans ((gx.below).mono (Nat.le_of_lt (wrLt hW))))
    have hW := hW.gr gx
    clear gx hw hs3
    first | refine hK.out _ _ ?sp9 (fun hp9 => ?_) | (go_wp2_with fail; refine hK.out _ _ ?sp9 (fun hp9 => ?_))
    case sp9 => exact ⟨hk0, hk1⟩
    clear hK K
    try simp only [Act.put, List.setIfInBounds_toArray, List.set_cons_zero, List.set_cons_succ]
    refine wpAnyH_ready (rs := [4]) (by kernel_rfl) (by simp) ?_
    refine AllReadyH.cons (o := { dst := some 8, op := Go.Op.call { callee := Go.Callee.value (Go.Operand.func 64), args := #[Go.Operand.tmp 4, Go.Operand.tmp 7], argTypes := #[82, 137] }, type := 82, pos := "ballot.go:54", after := #[{ on := 0, ground := Go.Ground.data }, { on := 3, ground := Go.Ground.data }], guard := none }) rfl (fun K hK => ?_) AllReadyH.nil
    go_simp
    go_at_call 64
    refine (wU_1 p c s3 l _ hW d3 F3 (cell_lt c3) c3 (by omega)).mono ?_
    rintro e wp10 ⟨rfl, hW2, hB2, hK2⟩
    have hl7 := cell_lt c7
    have c7 := hK2.cell d7 F7 c7
    have F7 := (hK2.2 s7 hl7 d7 F7).2
    have hk0 := hK2.cell hbp hFb hp9.1
    have hk1 := hK2.cell hbp hFb hp9.2
    have hFb := (hK2.2 b (cell_lt hp9.1) hbp hFb).2
    have HB := Lib.hid (HB.out.trans hB2)
    have hW := hW2
    clear hW2 hB2 hK2
    first | refine hK.out _ _ ?sp10 (fun hp10 => ?_) | (go_wp2_with fail; refine hK.out _ _ ?sp10 (fun hp10 => ?_))
    case sp10 => exact ⟨hk0, hk1⟩
    clear hK K
    try simp only [Act.put, List.setIfInBounds_toArray, List.set_cons_zero, List.set_cons_succ]
    refine wpAnyH_ready (rs := [8]) (by kernel_rfl) (by simp) ?_
    refine AllReadyH.cons (o := { dst := some 12, op := Go.Op.call { callee := Go.Callee.value (Go.Operand.func 34), args := #[Go.Operand.tmp 8, Go.Operand.tmp 11], argTypes := #[82, 61] }, type := 82, pos := "ballot.go:54", after := #[{ on := 4, ground := Go.Ground.data }, { on := 7, ground := Go.Ground.data }, { on := 4, ground := Go.Ground.chain }], guard := none }) rfl (fun K hK => ?_) AllReadyH.nil
    go_simp
    go_at_call 34
    refine (wN_1 p n s7 (l ++ encU c) _ hW d7 F7 c7 (by rw [List.length_append]; omega) (by omega)).mono ?_
    rintro e wp11 ⟨rfl, hW2, hB2, hK2⟩
    have hk0 := hK2.cell hbp hFb hp10.1
    have hk1 := hK2.cell hbp hFb hp10.2
    have HBf := Lib.hid (HB.out.trans hB2)
    have hW := hW2
    clear hW2 hB2 hK2
    first | refine hK.out _ _ ?sp11 (fun hp11 => ?_) | (go_wp2_with fail; refine hK.out _ _ ?sp11 (fun hp11 => ?_))
    case sp11 => exact ⟨hk0, hk1⟩
    clear hK K
    try simp only [Act.put, List.setIfInBounds_toArray, List.set_cons_zero, List.set_cons_succ]
    refine wpAnyH_done (by kernel_rfl) ?_ _
    go_wp2
    first | go_end0 | go_ret
    exact ⟨rfl, hW, HBf.out⟩
end Go.Proofs.YtfgkgpkaohkehaaGreatDoor
namespace Go.Proofs.YtfgkgpkaohkehaaGreatDoor
open Go.ChangeShapes Go.WideShapes Go.ChangeAt Go.RowKit
set_option linter.unusedVariables false
end Go.Proofs.YtfgkgpkaohkehaaGreatDoor
