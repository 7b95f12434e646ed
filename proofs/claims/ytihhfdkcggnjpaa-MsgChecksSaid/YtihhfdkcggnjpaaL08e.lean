import Derived.Test.YtihhfdkcggnjpaaL08d
import Derived.WalkKit
import Derived.ProofKit
import Derived.LoopTactic
import Derived.Outline
import Derived.WalkSpells
import Derived.WalkLawsBesides
import Derived.Lib.Hide
import Derived.Deep.LoopGhost
import Derived.Deep.QuietTactic
import Derived.BigQuiet
import Derived.ShutString
import Derived.IntWalk
namespace Go.Proofs.Ytihhfdkcggnjpaa
open Go.ChangeShapes Go.WideShapes Go.ChangeAt Go.RowKit
open Enc Bal
set_option linter.unusedVariables false
set_option linter.unusedSimpArgs false
theorem Only.setNew {p q o : Nat} {w w' : World} (h : Only p w w') (hq : w.heap.size ≤ q) (v : Value) : Only p w (w'.setCell ⟨q, o, none⟩ v) :=
  ⟨h.os, h.tape, h.output, by have := h.size; simpa [World.setCell] using this, fun k hk hp => by rw [Below.heap_setCell _ _ _ _ (by show k ≠ q; omega)]; exact h.block k hk hp⟩
theorem Only.frozen {p b o : Nat} {w w' : World} (h : Only p w w') (hb : b ≠ p) (hlt : b < w.heap.size) : w'.frozen? ⟨b, o, none⟩ = w.frozen? ⟨b, o, none⟩ :=
  World.frozen?_of_block (w := w) (a := ⟨b, o, none⟩) (h.block b hlt hb)
theorem nS_zero (r : ByteArray) (e : Nat) (most : Int) (h : (nS r e most).2.1 ≠ 0) : (nS r e most).2.2 = 0 := by
  have hz := uS_zero r e
  unfold nS at *
  split
  · rfl
  · rename_i h1
    rw [if_neg h1] at h
    exact hz h
theorem nIs_is {p : Nat} {r : ByteArray} {e : Nat} {most : Int} {w w' : World} {en : Ending} {a : ByteArray} {b c : Nat} (h : Hid (nS r e most = (a, b, c))) (hu : NIs p r e most w en w') : en = .returned (.int .i64 (c : Int)) ∧ RdIs w' p a b ∧ Only p w w' := by
  have := h.out
  unfold NIs at hu; rwa [this] at hu
def GetIs (p : Nat) (r : ByteArray) (e : Nat) (w : World) (en : Ending) (w' : World) : Prop :=
  en = .returned (.agg #[.int .u64 ((getS r e).2.2.1 : Nat), .int .i64 ((getS r e).2.2.2 : Nat)]) ∧ RdIs w' p (getS r e).1 (getS r e).2.1 ∧ Only p w w'
theorem getIs_mk {p : Nat} {r a : ByteArray} {e b c n : Nat} {w w' : World} (h : Hid (getS r e = (a, b, c, n))) (h1 : RdIs w' p a b) (h2 : Only p w w') : GetIs p r e w (.returned (.agg #[.int .u64 (c : Int), .int .i64 (n : Int)])) w' := by
  unfold GetIs; rw [h.out]; exact ⟨rfl, h1, h2⟩
theorem rd_set {w : World} {p q o : Nat} {r : ByteArray} {e : Nat} (h : RdIs w p r e) (hq : p ≠ q) (v : Value) : RdIs (w.setCell ⟨q, o, none⟩ v) p r e := h.only (Only.setCell q o w v) hq
set_option maxRecDepth 100000 in
set_option maxHeartbeats 2000000 in
theorem bGet_any (p : Nat) (r : ByteArray) (e : Nat) (w : World) (h : RdIs w p r e) :
    Calls Try.prog 136 #[.pointer (some ⟨p, 0, none⟩)] w (GetIs p r e w) := by
  obtain ⟨a, b, c, a2, b2, n, hu, hn, hl, hn11, hways⟩ := getS_ways r e
  have hnz := nS_zero a b 11
  rw [hn] at hnz
  simp only at hnz
  have hp : p < w.heap.size := cell_lt h.1
  have H0 := Lib.hid (h.gr ((Gr.refl w).alloc (.cells #[.int .u64 0, .int .i64 0] 50)))
  have HU := Lib.hid hu
  have HN := Lib.hid hn
  have hne : w.heap.size ≠ p := by omega
  have hne' : p ≠ w.heap.size := by omega
  clear h hu hn hl
  rcases hways with ⟨h1, hE⟩ | ⟨rfl, rfl, h3, hE⟩ | ⟨rfl, h2, hE⟩
  · obtain rfl := hnz h1
    have t9 : ((b2 : Int) != 0) = true := by simp; omega
    rcases (show c = 0 ∨ 0 < c by omega) with rfl | h5
    · have E := Lib.hid hE
      have hnone : decide (((0 : Nat) : Int) = 0 ∧ ((0 : Nat) : Int) = 0) = true := by simp
      clear hE hnz h1
      go_enter Try.func136, Try.ntmps136
      go_wp2_with fail
      refine (rU_any p r e _ H0.out).mono ?_
      intro en w1 hU
      obtain ⟨rfl, hR, hO⟩ := uIs_is HU hU
      clear hU
      have hz := Gr.refl (w.alloc (.cells #[.int .u64 0, .int .i64 0] 50))
      have o0 := hO.cell hne (hz.own.1 0 _ rfl)
      have o1 := hO.cell hne (hz.own.1 1 _ rfl)
      have o2 := (hO.frozen (o := 0) hne hz.own.2.2).trans (hz.own.2.1 0)
      have o3 := (hO.frozen (o := 1) hne hz.own.2.2).trans (hz.own.2.1 1)
      have HO := Lib.hid ((Only.of_gr (p := p) ((Gr.refl w).alloc (.cells #[.int .u64 0, .int .i64 0] 50))).trans hO)
      clear hO hz
      have HR := Lib.hid hR
      clear hR
      go_wp2_with fail
      refine (rN_any p a b 11 (by decide) _ HR.out).mono ?_
      intro en w2 hNN
      obtain ⟨rfl, hR, hO⟩ := nIs_is HN hNN
      clear hNN
      replace o2 := (hO.frozen (o := 0) hne (cell_lt o0)).trans o2
      replace o3 := (hO.frozen (o := 1) hne (cell_lt o1)).trans o3
      replace o0 := hO.cell hne o0
      replace o1 := hO.cell hne o1
      have HO2 := Lib.hid (HO.out.trans hO)
      have hz := (Gr.refl w2).alloc (.cells #[.int .u64 (0 : Nat), .int .i64 (0 : Nat)] 50)
      have HRr := Lib.hid hR
      have HR2 := Lib.hid (hR.gr hz)
      have HO3 := Lib.hid (HO2.out.trans (Only.of_gr hz))
      clear hO hR hz
      have ol := cell_lt o0
      go_wp2_with fail
      refine (none08_any (0 : Nat) (0 : Nat) _).mono ?_
      rintro en w3 ⟨rfl, hg⟩
      rw [hnone]
      have hx := ((Gr.refl w2).alloc (.cells #[.int .u64 (0 : Nat), .int .i64 (0 : Nat)] 50)).trans hg
      have l0 := hg.own.1 0 _ rfl
      have l1 := hg.own.1 1 _ rfl
      replace o2 := (hx.frozen (o := 0) (cell_lt o0)).trans o2
      replace o3 := (hx.frozen (o := 1) (cell_lt o1)).trans o3
      replace o0 := hx.cell o0
      replace o1 := hx.cell o1
      have HR3 := Lib.hid (HR2.out.gr hg)
      have HO4 := Lib.hid (HO3.out.trans (Only.of_gr hg))
      clear hx hg
      go_wp2_with fail
      refine (err_any p a2 b2 _ HR3.out).mono ?_
      rintro en w9 ⟨rfl, rfl⟩
      go_wp2
      exact bodyPost_ret (v := .agg #[.int .u64 (0 : Nat), .int .i64 (0 : Nat)]) (by simp [results, Try.results136, go_sem, o0, o1, ol, Nat.ne_of_lt ol, Nat.ne_of_gt ol]) rfl (getIs_mk E (rd_set (rd_set HR3.out hne' _) hne' _) ((HO4.out.setNew (Nat.le_refl _) _).setNew (Nat.le_refl _) _))
    · have E := Lib.hid hE
      have t1 : ((c : Int) == 0) = false := by simp; omega
      clear hE hnz h1
      go_enter Try.func136, Try.ntmps136
      go_wp2_with fail
      refine (rU_any p r e _ H0.out).mono ?_
      intro en w1 hU
      obtain ⟨rfl, hR, hO⟩ := uIs_is HU hU
      clear hU
      have hz := Gr.refl (w.alloc (.cells #[.int .u64 0, .int .i64 0] 50))
      have o0 := hO.cell hne (hz.own.1 0 _ rfl)
      have o1 := hO.cell hne (hz.own.1 1 _ rfl)
      have o2 := (hO.frozen (o := 0) hne hz.own.2.2).trans (hz.own.2.1 0)
      have o3 := (hO.frozen (o := 1) hne hz.own.2.2).trans (hz.own.2.1 1)
      have HO := Lib.hid ((Only.of_gr (p := p) ((Gr.refl w).alloc (.cells #[.int .u64 0, .int .i64 0] 50))).trans hO)
      clear hO hz
      have HR := Lib.hid hR
      clear hR
      go_wp2_with fail
      refine (rN_any p a b 11 (by decide) _ HR.out).mono ?_
      intro en w2 hNN
      obtain ⟨rfl, hR, hO⟩ := nIs_is HN hNN
      clear hNN
      replace o2 := (hO.frozen (o := 0) hne (cell_lt o0)).trans o2
      replace o3 := (hO.frozen (o := 1) hne (cell_lt o1)).trans o3
      replace o0 := hO.cell hne o0
      replace o1 := hO.cell hne o1
      have HO2 := Lib.hid (HO.out.trans hO)
      have hz := (Gr.refl w2).alloc (.cells #[.int .u64 (c : Nat), .int .i64 (0 : Nat)] 50)
      have HRr := Lib.hid hR
      have HR2 := Lib.hid (hR.gr hz)
      have HO3 := Lib.hid (HO2.out.trans (Only.of_gr hz))
      clear hO hR hz
      have ol := cell_lt o0
      go_wp2_with fail
      refine (err_any p a2 b2 _ HR2.out).mono ?_
      rintro en w9 ⟨rfl, rfl⟩
      go_wp2
      exact bodyPost_ret (v := .agg #[.int .u64 (0 : Nat), .int .i64 (0 : Nat)]) (by simp [results, Try.results136, go_sem, o0, o1, ol, Nat.ne_of_lt ol, Nat.ne_of_gt ol]) rfl (getIs_mk E ((rd_set (rd_set HRr.out hne' _) hne' _).gr ((Gr.refl _).alloc _)) (((HO2.out.setNew (Nat.le_refl _) _).setNew (Nat.le_refl _) _).trans (Only.of_gr ((Gr.refl _).alloc _))))
  · have E := Lib.hid hE
    have hnone : decide (((0 : Nat) : Int) = 0 ∧ (n : Int) = 0) = false := by simp; omega
    have t1 : (0 : Int) < n := by omega
    clear hE hnz
    go_enter Try.func136, Try.ntmps136
    go_wp2_with fail
    refine (rU_any p r e _ H0.out).mono ?_
    intro en w1 hU
    obtain ⟨rfl, hR, hO⟩ := uIs_is HU hU
    clear hU
    have hz := Gr.refl (w.alloc (.cells #[.int .u64 0, .int .i64 0] 50))
    have o0 := hO.cell hne (hz.own.1 0 _ rfl)
    have o1 := hO.cell hne (hz.own.1 1 _ rfl)
    have o2 := (hO.frozen (o := 0) hne hz.own.2.2).trans (hz.own.2.1 0)
    have o3 := (hO.frozen (o := 1) hne hz.own.2.2).trans (hz.own.2.1 1)
    have HO := Lib.hid ((Only.of_gr (p := p) ((Gr.refl w).alloc (.cells #[.int .u64 0, .int .i64 0] 50))).trans hO)
    clear hO hz
    have HR := Lib.hid hR
    clear hR
    go_wp2_with fail
    refine (rN_any p a b 11 (by decide) _ HR.out).mono ?_
    intro en w2 hNN
    obtain ⟨rfl, hR, hO⟩ := nIs_is HN hNN
    clear hNN
    replace o2 := (hO.frozen (o := 0) hne (cell_lt o0)).trans o2
    replace o3 := (hO.frozen (o := 1) hne (cell_lt o1)).trans o3
    replace o0 := hO.cell hne o0
    replace o1 := hO.cell hne o1
    have HO2 := Lib.hid (HO.out.trans hO)
    have hz := (Gr.refl w2).alloc (.cells #[.int .u64 (0 : Nat), .int .i64 (n : Nat)] 50)
    have HRr := Lib.hid hR
    have HR2 := Lib.hid (hR.gr hz)
    have HO3 := Lib.hid (HO2.out.trans (Only.of_gr hz))
    clear hO hR hz
    have ol := cell_lt o0
    go_wp2_with fail
    refine (none08_any (0 : Nat) (n : Nat) _).mono ?_
    rintro en w3 ⟨rfl, hg⟩
    rw [hnone]
    have hx := ((Gr.refl w2).alloc (.cells #[.int .u64 (0 : Nat), .int .i64 (n : Nat)] 50)).trans hg
    have l0 := hg.own.1 0 _ rfl
    have l1 := hg.own.1 1 _ rfl
    replace o2 := (hx.frozen (o := 0) (cell_lt o0)).trans o2
    replace o3 := (hx.frozen (o := 1) (cell_lt o1)).trans o3
    replace o0 := hx.cell o0
    replace o1 := hx.cell o1
    have HR3 := Lib.hid (HR2.out.gr hg)
    have HO4 := Lib.hid (HO3.out.trans (Only.of_gr hg))
    clear hx hg
    have hl : w2.heap.size ≠ p := by have := HO2.out.size; omega
    go_wp2_with fail
    refine (fail_zero p 4 a2 _ rfl _ HR3.out).mono ?_
    rintro en w4 ⟨rfl, hR, hO⟩
    replace l0 := hO.cell hl l0
    replace l1 := hO.cell hl l1
    replace o2 := (hO.frozen (o := 0) hne (cell_lt o0)).trans o2
    replace o3 := (hO.frozen (o := 1) hne (cell_lt o1)).trans o3
    replace o0 := hO.cell hne o0
    replace o1 := hO.cell hne o1
    have HR4 := Lib.hid hR
    have HO5 := Lib.hid (HO4.out.trans hO)
    clear hO hR
    go_wp2_with fail
    refine (err_any p a2 4 _ HR4.out).mono ?_
    rintro en w9 ⟨rfl, rfl⟩
    go_wp2
    exact bodyPost_ret (v := .agg #[.int .u64 (0 : Nat), .int .i64 (0 : Nat)]) (by simp [results, Try.results136, go_sem, o0, o1, ol, Nat.ne_of_lt ol, Nat.ne_of_gt ol]) rfl (getIs_mk E (rd_set (rd_set HR4.out hne' _) hne' _) ((HO5.out.setNew (Nat.le_refl _) _).setNew (Nat.le_refl _) _))
  · rcases (show c = 0 ∧ n = 0 ∨ 0 < c by omega) with ⟨rfl, rfl⟩ | h5
    · have E := Lib.hid hE
      have hnone : decide (((0 : Nat) : Int) = 0 ∧ ((0 : Nat) : Int) = 0) = true := by simp
      clear hE hnz h2
      go_enter Try.func136, Try.ntmps136
      go_wp2_with fail
      refine (rU_any p r e _ H0.out).mono ?_
      intro en w1 hU
      obtain ⟨rfl, hR, hO⟩ := uIs_is HU hU
      clear hU
      have hz := Gr.refl (w.alloc (.cells #[.int .u64 0, .int .i64 0] 50))
      have o0 := hO.cell hne (hz.own.1 0 _ rfl)
      have o1 := hO.cell hne (hz.own.1 1 _ rfl)
      have o2 := (hO.frozen (o := 0) hne hz.own.2.2).trans (hz.own.2.1 0)
      have o3 := (hO.frozen (o := 1) hne hz.own.2.2).trans (hz.own.2.1 1)
      have HO := Lib.hid ((Only.of_gr (p := p) ((Gr.refl w).alloc (.cells #[.int .u64 0, .int .i64 0] 50))).trans hO)
      clear hO hz
      have HR := Lib.hid hR
      clear hR
      go_wp2_with fail
      refine (rN_any p a b 11 (by decide) _ HR.out).mono ?_
      intro en w2 hNN
      obtain ⟨rfl, hR, hO⟩ := nIs_is HN hNN
      clear hNN
      replace o2 := (hO.frozen (o := 0) hne (cell_lt o0)).trans o2
      replace o3 := (hO.frozen (o := 1) hne (cell_lt o1)).trans o3
      replace o0 := hO.cell hne o0
      replace o1 := hO.cell hne o1
      have HO2 := Lib.hid (HO.out.trans hO)
      have hz := (Gr.refl w2).alloc (.cells #[.int .u64 (0 : Nat), .int .i64 (0 : Nat)] 50)
      have HRr := Lib.hid hR
      have HR2 := Lib.hid (hR.gr hz)
      have HO3 := Lib.hid (HO2.out.trans (Only.of_gr hz))
      clear hO hR hz
      have ol := cell_lt o0
      go_wp2_with fail
      refine (none08_any (0 : Nat) (0 : Nat) _).mono ?_
      rintro en w3 ⟨rfl, hg⟩
      rw [hnone]
      have hx := ((Gr.refl w2).alloc (.cells #[.int .u64 (0 : Nat), .int .i64 (0 : Nat)] 50)).trans hg
      have l0 := hg.own.1 0 _ rfl
      have l1 := hg.own.1 1 _ rfl
      replace o2 := (hx.frozen (o := 0) (cell_lt o0)).trans o2
      replace o3 := (hx.frozen (o := 1) (cell_lt o1)).trans o3
      replace o0 := hx.cell o0
      replace o1 := hx.cell o1
      have HR3 := Lib.hid (HR2.out.gr hg)
      have HO4 := Lib.hid (HO3.out.trans (Only.of_gr hg))
      clear hx hg
      go_wp2_with fail
      refine (err_any p a2 0 _ HR3.out).mono ?_
      rintro en w9 ⟨rfl, rfl⟩
      go_wp2
      exact bodyPost_ret (v := .agg #[.int .u64 (0 : Nat), .int .i64 (0 : Nat)]) (by simp [results, Try.results136, go_sem, o0, o1, ol, Nat.ne_of_lt ol, Nat.ne_of_gt ol]) rfl (getIs_mk E (rd_set (rd_set HR3.out hne' _) hne' _) ((HO4.out.setNew (Nat.le_refl _) _).setNew (Nat.le_refl _) _))
    · have E := Lib.hid hE
      have t1 : ((c : Int) == 0) = false := by simp; omega
      clear hE hnz h2
      go_enter Try.func136, Try.ntmps136
      go_wp2_with fail
      refine (rU_any p r e _ H0.out).mono ?_
      intro en w1 hU
      obtain ⟨rfl, hR, hO⟩ := uIs_is HU hU
      clear hU
      have hz := Gr.refl (w.alloc (.cells #[.int .u64 0, .int .i64 0] 50))
      have o0 := hO.cell hne (hz.own.1 0 _ rfl)
      have o1 := hO.cell hne (hz.own.1 1 _ rfl)
      have o2 := (hO.frozen (o := 0) hne hz.own.2.2).trans (hz.own.2.1 0)
      have o3 := (hO.frozen (o := 1) hne hz.own.2.2).trans (hz.own.2.1 1)
      have HO := Lib.hid ((Only.of_gr (p := p) ((Gr.refl w).alloc (.cells #[.int .u64 0, .int .i64 0] 50))).trans hO)
      clear hO hz
      have HR := Lib.hid hR
      clear hR
      go_wp2_with fail
      refine (rN_any p a b 11 (by decide) _ HR.out).mono ?_
      intro en w2 hNN
      obtain ⟨rfl, hR, hO⟩ := nIs_is HN hNN
      clear hNN
      replace o2 := (hO.frozen (o := 0) hne (cell_lt o0)).trans o2
      replace o3 := (hO.frozen (o := 1) hne (cell_lt o1)).trans o3
      replace o0 := hO.cell hne o0
      replace o1 := hO.cell hne o1
      have HO2 := Lib.hid (HO.out.trans hO)
      have hz := (Gr.refl w2).alloc (.cells #[.int .u64 (c : Nat), .int .i64 (n : Nat)] 50)
      have HRr := Lib.hid hR
      have HR2 := Lib.hid (hR.gr hz)
      have HO3 := Lib.hid (HO2.out.trans (Only.of_gr hz))
      clear hO hR hz
      have ol := cell_lt o0
      go_wp2_with fail
      refine (err_any p a2 0 _ HR2.out).mono ?_
      rintro en w9 ⟨rfl, rfl⟩
      go_wp2
      exact bodyPost_ret (v := .agg #[.int .u64 (c : Nat), .int .i64 (n : Nat)]) (by simp [results, Try.results136, go_sem, o0, o1, ol, Nat.ne_of_lt ol, Nat.ne_of_gt ol]) rfl (getIs_mk E ((rd_set (rd_set HRr.out hne' _) hne' _).gr ((Gr.refl _).alloc _)) (((HO2.out.setNew (Nat.le_refl _) _).setNew (Nat.le_refl _) _).trans (Only.of_gr ((Gr.refl _).alloc _))))
end Go.Proofs.Ytihhfdkcggnjpaa
