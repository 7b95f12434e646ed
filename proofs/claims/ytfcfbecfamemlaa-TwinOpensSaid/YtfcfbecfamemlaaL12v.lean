import Derived.Test.YtfcfbecfamemlaaL12u
import Derived.WalkKit
import Derived.ProofKit
import Derived.LoopTactic
import Derived.Outline
import Derived.WalkSpells
import Derived.WalkLawsBesides
import Derived.Lib.Hide
import Derived.Deep.LoopGhost
import Derived.Deep.QuietTactic
import Derived.BigQuiet
import Derived.ShutString
import Derived.IntWalk
import Derived.Lib.MinMax
import Derived.Deep.RegionWith
import Derived.Deep.RegionHeld3
namespace Go.Proofs.Ytfcfbecfamemlaa
open Go.ChangeShapes Go.WideShapes Go.ChangeAt Go.RowKit
open Dk Enc
set_option linter.unusedVariables false
set_option linter.unusedSimpArgs false
set_option maxRecDepth 100000 in
set_option maxHeartbeats 1000000 in
theorem opens_neg (a b : ByteArray) (first : Int) (w : World) (ha : a.size ≤ 9223372036854775807) (hb : b.size ≤ 9223372036854775807) (hf : first < 0) (HF : Hid (first < 0 ∨ 2 < first)) :
    Calls Try.prog 5 #[.string a, .string b, .int .i64 first] w fun e w' => e = .returned (.bool true) ∧ Gr w w' := by
  have CA := Lib.hid (fun w => cut_any a 200 w ha (by decide))
  have CB := Lib.hid (fun w => cut_any b 200 w hb (by decide))
  generalize cutB a 200 = A at *
  generalize cutB b 200 = B at *
  go_enter Try.func5, Try.ntmps5
  go_wp2_with fail
  refine (awake12 w).mono ?_
  rintro e w1 ⟨rfl, hg1⟩
  go_wp2_with fail
  refine (CA.out _).mono ?_
  rintro e w2 ⟨rfl, rfl⟩
  go_wp2_with fail
  refine (CB.out _).mono ?_
  rintro e w2 ⟨rfl, rfl⟩
  go_wp2_with fail
  refine (new_any 5000 (by decide) _).mono ?_
  rintro e w2 ⟨d, rfl, hbe, hd2, hg2⟩
  go_wp2_with fail
  refine (open_out _ first HF.out _).mono ?_
  rintro e w3 ⟨rfl, hg3⟩
  go_wp2
  go_ret
  exact ⟨rfl, (hg1.trans hg2).trans hg3⟩
set_option maxRecDepth 100000 in
set_option maxHeartbeats 1000000 in
theorem opens_big (a b : ByteArray) (first : Int) (w : World) (ha : a.size ≤ 9223372036854775807) (hb : b.size ≤ 9223372036854775807) (hn : ¬ first < 0) (hf : 2 < first) (HF : Hid (first < 0 ∨ 2 < first)) :
    Calls Try.prog 5 #[.string a, .string b, .int .i64 first] w fun e w' => e = .returned (.bool true) ∧ Gr w w' := by
  have CA := Lib.hid (fun w => cut_any a 200 w ha (by decide))
  have CB := Lib.hid (fun w => cut_any b 200 w hb (by decide))
  generalize cutB a 200 = A at *
  generalize cutB b 200 = B at *
  go_enter Try.func5, Try.ntmps5
  go_wp2_with fail
  refine (awake12 w).mono ?_
  rintro e w1 ⟨rfl, hg1⟩
  go_wp2_with fail
  refine (CA.out _).mono ?_
  rintro e w2 ⟨rfl, rfl⟩
  go_wp2_with fail
  refine (CB.out _).mono ?_
  rintro e w2 ⟨rfl, rfl⟩
  go_wp2_with fail
  refine (new_any 5000 (by decide) _).mono ?_
  rintro e w2 ⟨d, rfl, hbe, hd2, hg2⟩
  go_wp2_with fail
  refine (open_out _ first HF.out _).mono ?_
  rintro e w3 ⟨rfl, hg3⟩
  go_wp2
  go_ret
  exact ⟨rfl, (hg1.trans hg2).trans hg3⟩
theorem opens_out (a b : ByteArray) (first : Int) (w : World) (ha : a.size ≤ 9223372036854775807) (hb : b.size ≤ 9223372036854775807) (hf : first < 0 ∨ 2 < first) :
    Calls Try.prog 5 #[.string a, .string b, .int .i64 first] w fun e w' => e = .returned (.bool true) ∧ Gr w w' := by
  by_cases hn : first < 0
  · exact opens_neg a b first w ha hb hn (Lib.hid hf)
  · exact opens_big a b first w ha hb hn (by omega) (Lib.hid hf)
set_option maxRecDepth 100000 in
set_option maxHeartbeats 1000000 in
theorem opens_0 (a b : ByteArray) (w : World) (ha : a.size ≤ 9223372036854775807) (hb : b.size ≤ 9223372036854775807) :
    Calls Try.prog 5 #[.string a, .string b, .int .i64 0] w fun e w' => e = .returned (.bool true) ∧ Gr w w' := by
  have CA := Lib.hid (fun w => cut_any a 200 w ha (by decide))
  have CB := Lib.hid (fun w => cut_any b 200 w hb (by decide))
  have hA := cutB_le a 200
  have hB := cutB_le b 200
  generalize cutB a 200 = A at *
  generalize cutB b 200 = B at *
  obtain ⟨Q1, Q2, Q3, Q4, a1, a2, a3, a4, hok, hbd, hro, hfa, hf, hg⟩ := twin_start A B hA hB 0 1 rfl (by decide)
  have A1 := Lib.hid a1
  have A2 := Lib.hid a2
  have A3 := Lib.hid a3
  have A4 := Lib.hid a4
  have HA := Lib.hid hA
  have HB := Lib.hid hB
  obtain ⟨v0, t0, b0, h0⟩ : ∃ v t c, parseB A = (v, t, c) := ⟨_, _, _, rfl⟩
  obtain ⟨v1, t1, b1, h1⟩ : ∃ v t c, parseB B = (v, t, c) := ⟨_, _, _, rfl⟩
  have RO := Lib.hid (fun w => refOpen2_any A B w (by omega) (by omega))
  have OP := Lib.hid (fun (w : Nat × World) h => open_any12 (d := w.1) (f := 0) (g := 1) (Q := Q4) w.2 h rfl (by decide) (by rw [hf]; show A.size ≤ _; omega) (by rw [hg]; show B.size ≤ _; omega))
  have KEY : (openM Q4 0 1 = (Q4, 7, 0, ⟨#[]⟩) ∧ b1 = true ∧ v0 = 0) ∨ (¬ (b1 = true ∧ v0 = 0) ∧ ∃ Q5 V T, openM Q4 0 1 = (Q5, 0, V, T) ∧ best v0 t0 v1 t1 = (V, T) ∧ V < 18446744073709551616 ∧ T.size ≤ 200 ∧ (V = 0 ∨ V ≠ 0 ∧ Q5.fs 0 = flat (spell V T) ∧ Q5.fs 1 = flat (spell V T))) := by
    by_cases hc : b1 = true ∧ v0 = 0
    · refine .inl ⟨?_, hc⟩
      unfold openM
      have e0 : parseB (Q4.fs 0).now = (v0, t0, b0) := by rw [hf]; exact h0
      have e1 : parseB (Q4.fs 1).now = (v1, t1, b1) := by rw [hg]; exact h1
      rw [e0, e1, if_pos hc]
    · obtain ⟨Q5, V, T, e1, e2, _, _, _, _, _, _, e3⟩ := open_flat hok hbd (by rw [hro]; decide) hfa (f := 0) (g := 1) rfl (by decide) hf hg h0 h1 hc
      obtain ⟨l1, l2⟩ := best_lt hA hB h0 h1 e1
      refine .inr ⟨hc, Q5, V, T, e2, e1, l1, l2, ?_⟩
      by_cases hv : V = 0
      · exact .inl hv
      · exact .inr ⟨hv, e3 hv⟩
  have H0 := Lib.hid h0
  have H1 := Lib.hid h1
  have HK := Lib.hid KEY
  clear a1 a2 a3 a4 hA hB KEY h0 h1 hok hbd hro hfa hf hg
  go_enter Try.func5, Try.ntmps5
  go_wp2_with fail
  refine (awake12 w).mono ?_
  rintro e w1 ⟨rfl, hg1⟩
  go_wp2_with fail
  refine (CA.out _).mono ?_
  rintro e w2 ⟨rfl, rfl⟩
  go_wp2_with fail
  refine (CB.out _).mono ?_
  rintro e w2 ⟨rfl, rfl⟩
  go_wp2_with fail
  refine (new_any 5000 (by decide) _).mono ?_
  rintro e w2 ⟨d, rfl, hbe, hd2, hg2⟩
  have HD2 := Lib.hid hd2
  have HG2 := Lib.hid (hg1.trans hg2)
  have HDW := Lib.hid (show w.heap.size ≤ d by have := hg1.size; omega)
  clear hg1 hg2 hd2 hbe
  go_wp2_with fail
  refine (put_any11 0 A (by have := HA.out; omega) _ HD2.out).mono ?_
  intro e w3 hx
  obtain ⟨rfl, hd3, hs3⟩ := act_is hx A1.out
  have HD3 := Lib.hid hd3
  have HG3 := Lib.hid (hs3.gr HG2.out HDW.out)
  clear hx hd3 hs3
  go_wp2_with fail
  refine (put_any11 1 B (by have := HB.out; omega) _ HD3.out).mono ?_
  intro e w4 hx
  obtain ⟨rfl, hd4, hs4⟩ := act_is hx A2.out
  have HD4 := Lib.hid hd4
  have HG4 := Lib.hid (hs4.gr HG3.out HDW.out)
  clear hx hd4 hs4
  go_wp2_with fail
  refine (sync_any11 0 _ HD4.out).mono ?_
  intro e w5 hx
  obtain ⟨rfl, hd5, hs5⟩ := act_is hx A3.out
  have HD5 := Lib.hid hd5
  have HG5 := Lib.hid (hs5.gr HG4.out HDW.out)
  clear hx hd5 hs5
  go_wp2_with fail
  refine (sync_any11 1 _ HD5.out).mono ?_
  intro e w6 hx
  obtain ⟨rfl, hd6, hs6⟩ := act_is hx A4.out
  have HD6 := Lib.hid hd6
  have HG6 := Lib.hid (hs6.gr HG5.out HDW.out)
  clear hx hd6 hs6
  go_wp2_with fail
  refine (OP.out (d, w6) HD6.out).mono ?_
  intro e w7 hx
  unfold OpIs at hx
  rcases HK.out with ⟨ho, hb1, hv0⟩ | ⟨hc, Q5, V, T, ho, hbest, hV, hT, hw⟩
  · rw [ho] at hx
    obtain ⟨hd7, hs7, ⟨hne, _⟩ | ⟨_, rfl⟩⟩ := hx
    · exact absurd hne (by simp)
    have HG7 := Lib.hid (hs7.gr HG6.out HDW.out)
    clear hd7 hs7 ho
    go_wp2_with fail
    refine (RO.out _).mono ?_
    intro e w8 hx
    unfold ROIs at hx
    rw [H0.out, H1.out] at hx
    obtain ⟨hg8, ⟨_, _, rfl⟩ | ⟨hn, _⟩⟩ := hx
    · go_wp2
      go_ret
      exact ⟨rfl, HG7.out.trans hg8⟩
    · exact absurd ⟨hb1, hv0⟩ hn
  · rw [ho] at hx
    obtain ⟨hd7, hs7, ⟨_, c, rfl, hcw, hcl⟩ | ⟨hne, _⟩⟩ := hx
    rotate_left
    · exact absurd rfl hne
    have HD7 := Lib.hid hd7
    have HC7 := Lib.hid hcl
    have HG7 := Lib.hid (hs7.gr HG6.out HDW.out)
    have HBE := Lib.hid hbest
    clear hd7 hs7 ho hcl hcw hbest
    go_wp2_with fail
    refine (RO.out _).mono ?_
    intro e w8 hx
    unfold ROIs at hx
    rw [H0.out, H1.out] at hx
    simp only at hx
    rw [HBE.out] at hx
    obtain ⟨hg8, ⟨hn1, hn2, _⟩ | ⟨_, rfl⟩⟩ := hx
    · exact absurd ⟨hn1, hn2⟩ hc
    have HC8 := Lib.hid (HC7.out.gr hg8)
    have HD8 := Lib.hid (HD7.out.gr hg8)
    have HG8 := Lib.hid (HG7.out.trans hg8)
    clear hg8 hc
    have hss : (T.toList == T.toList) = true := by simp
    go_wp2_with fail
    refine (version_any _ HC8.out).mono ?_
    rintro e w9 ⟨rfl, rfl⟩
    rcases hw with rfl | ⟨hv, q0, q1⟩
    · go_wp2
      go_ret
      exact ⟨rfl, HG8.out⟩
    · have fv : ((V : Int) == 0) = false := by simp [hv]
      have RX := Lib.hid (fun w h => read_in (b := d) (d := Q5) 0 (by decide) w h)
      have RY := Lib.hid (fun w h => read_in (b := d) (d := Q5) 1 (by decide) w h)
      have SX := Lib.hid (fun w h => sure_in (b := d) (d := Q5) 0 (by decide) w h)
      have SY := Lib.hid (fun w h => sure_in (b := d) (d := Q5) 1 (by decide) w h)
      have RS := Lib.hid (fun w => refSpell_any V T w hV (by omega))
      have nx : (flat (spell V T)).now = spell V T := rfl
      have sx : decide ((flat (spell V T)).now = (flat (spell V T)).sure) = true := decide_eq_true rfl
      rw [q0, nx] at RX
      rw [q1, nx] at RY
      rw [q0, sx] at SX
      rw [q1, sx] at SY
      generalize spell V T = z at *
      have hzz : (z.toList == z.toList) = true := by simp
      clear q0 q1 nx sx hv
      go_wp2_with fail
      refine (RX.out _ HD8.out).mono ?_
      rintro e w9 ⟨rfl, hg9⟩
      have HD9 := Lib.hid (HD8.out.gr hg9)
      have HG9 := Lib.hid (HG8.out.trans hg9)
      clear hg9
      go_wp2_with fail
      refine (RY.out _ HD9.out).mono ?_
      rintro e wa ⟨rfl, hga⟩
      have HDa := Lib.hid (HD9.out.gr hga)
      have HGa := Lib.hid (HG9.out.trans hga)
      clear hga
      go_wp2_with fail
      refine (RS.out _).mono ?_
      rintro e wb ⟨rfl, hgb⟩
      have HDb := Lib.hid (HDa.out.gr hgb)
      have HGb := Lib.hid (HGa.out.trans hgb)
      clear hgb
      go_wp2_with fail
      refine (SX.out _ HDb.out).mono ?_
      rintro e wc ⟨rfl, hgc⟩
      have HDc := Lib.hid (HDb.out.gr hgc)
      have HGc := Lib.hid (HGb.out.trans hgc)
      clear hgc
      go_wp2_with fail
      refine (SY.out _ HDc.out).mono ?_
      rintro e wd ⟨rfl, hgd⟩
      go_wp2
      go_ret
      exact ⟨rfl, HGc.out.trans hgd⟩
set_option maxRecDepth 100000 in
set_option maxHeartbeats 1000000 in
theorem opens_1 (a b : ByteArray) (w : World) (ha : a.size ≤ 9223372036854775807) (hb : b.size ≤ 9223372036854775807) :
    Calls Try.prog 5 #[.string a, .string b, .int .i64 1] w fun e w' => e = .returned (.bool true) ∧ Gr w w' := by
  have CA := Lib.hid (fun w => cut_any a 200 w ha (by decide))
  have CB := Lib.hid (fun w => cut_any b 200 w hb (by decide))
  have hA := cutB_le a 200
  have hB := cutB_le b 200
  generalize cutB a 200 = A at *
  generalize cutB b 200 = B at *
  obtain ⟨Q1, Q2, Q3, Q4, a1, a2, a3, a4, hok, hbd, hro, hfa, hf, hg⟩ := twin_start A B hA hB 1 2 rfl (by decide)
  have A1 := Lib.hid a1
  have A2 := Lib.hid a2
  have A3 := Lib.hid a3
  have A4 := Lib.hid a4
  have HA := Lib.hid hA
  have HB := Lib.hid hB
  obtain ⟨v0, t0, b0, h0⟩ : ∃ v t c, parseB A = (v, t, c) := ⟨_, _, _, rfl⟩
  obtain ⟨v1, t1, b1, h1⟩ : ∃ v t c, parseB B = (v, t, c) := ⟨_, _, _, rfl⟩
  have RO := Lib.hid (fun w => refOpen2_any A B w (by omega) (by omega))
  have OP := Lib.hid (fun (w : Nat × World) h => open_any12 (d := w.1) (f := 1) (g := 2) (Q := Q4) w.2 h rfl (by decide) (by rw [hf]; show A.size ≤ _; omega) (by rw [hg]; show B.size ≤ _; omega))
  have KEY : (openM Q4 1 2 = (Q4, 7, 0, ⟨#[]⟩) ∧ b1 = true ∧ v0 = 0) ∨ (¬ (b1 = true ∧ v0 = 0) ∧ ∃ Q5 V T, openM Q4 1 2 = (Q5, 0, V, T) ∧ best v0 t0 v1 t1 = (V, T) ∧ V < 18446744073709551616 ∧ T.size ≤ 200 ∧ (V = 0 ∨ V ≠ 0 ∧ Q5.fs 1 = flat (spell V T) ∧ Q5.fs 2 = flat (spell V T))) := by
    by_cases hc : b1 = true ∧ v0 = 0
    · refine .inl ⟨?_, hc⟩
      unfold openM
      have e0 : parseB (Q4.fs 1).now = (v0, t0, b0) := by rw [hf]; exact h0
      have e1 : parseB (Q4.fs 2).now = (v1, t1, b1) := by rw [hg]; exact h1
      rw [e0, e1, if_pos hc]
    · obtain ⟨Q5, V, T, e1, e2, _, _, _, _, _, _, e3⟩ := open_flat hok hbd (by rw [hro]; decide) hfa (f := 1) (g := 2) rfl (by decide) hf hg h0 h1 hc
      obtain ⟨l1, l2⟩ := best_lt hA hB h0 h1 e1
      refine .inr ⟨hc, Q5, V, T, e2, e1, l1, l2, ?_⟩
      by_cases hv : V = 0
      · exact .inl hv
      · exact .inr ⟨hv, e3 hv⟩
  have H0 := Lib.hid h0
  have H1 := Lib.hid h1
  have HK := Lib.hid KEY
  clear a1 a2 a3 a4 hA hB KEY h0 h1 hok hbd hro hfa hf hg
  go_enter Try.func5, Try.ntmps5
  go_wp2_with fail
  refine (awake12 w).mono ?_
  rintro e w1 ⟨rfl, hg1⟩
  go_wp2_with fail
  refine (CA.out _).mono ?_
  rintro e w2 ⟨rfl, rfl⟩
  go_wp2_with fail
  refine (CB.out _).mono ?_
  rintro e w2 ⟨rfl, rfl⟩
  go_wp2_with fail
  refine (new_any 5000 (by decide) _).mono ?_
  rintro e w2 ⟨d, rfl, hbe, hd2, hg2⟩
  have HD2 := Lib.hid hd2
  have HG2 := Lib.hid (hg1.trans hg2)
  have HDW := Lib.hid (show w.heap.size ≤ d by have := hg1.size; omega)
  clear hg1 hg2 hd2 hbe
  go_wp2_with fail
  refine (put_any11 1 A (by have := HA.out; omega) _ HD2.out).mono ?_
  intro e w3 hx
  obtain ⟨rfl, hd3, hs3⟩ := act_is hx A1.out
  have HD3 := Lib.hid hd3
  have HG3 := Lib.hid (hs3.gr HG2.out HDW.out)
  clear hx hd3 hs3
  go_wp2_with fail
  refine (put_any11 2 B (by have := HB.out; omega) _ HD3.out).mono ?_
  intro e w4 hx
  obtain ⟨rfl, hd4, hs4⟩ := act_is hx A2.out
  have HD4 := Lib.hid hd4
  have HG4 := Lib.hid (hs4.gr HG3.out HDW.out)
  clear hx hd4 hs4
  go_wp2_with fail
  refine (sync_any11 1 _ HD4.out).mono ?_
  intro e w5 hx
  obtain ⟨rfl, hd5, hs5⟩ := act_is hx A3.out
  have HD5 := Lib.hid hd5
  have HG5 := Lib.hid (hs5.gr HG4.out HDW.out)
  clear hx hd5 hs5
  go_wp2_with fail
  refine (sync_any11 2 _ HD5.out).mono ?_
  intro e w6 hx
  obtain ⟨rfl, hd6, hs6⟩ := act_is hx A4.out
  have HD6 := Lib.hid hd6
  have HG6 := Lib.hid (hs6.gr HG5.out HDW.out)
  clear hx hd6 hs6
  go_wp2_with fail
  refine (OP.out (d, w6) HD6.out).mono ?_
  intro e w7 hx
  unfold OpIs at hx
  rcases HK.out with ⟨ho, hb1, hv0⟩ | ⟨hc, Q5, V, T, ho, hbest, hV, hT, hw⟩
  · rw [ho] at hx
    obtain ⟨hd7, hs7, ⟨hne, _⟩ | ⟨_, rfl⟩⟩ := hx
    · exact absurd hne (by simp)
    have HG7 := Lib.hid (hs7.gr HG6.out HDW.out)
    clear hd7 hs7 ho
    go_wp2_with fail
    refine (RO.out _).mono ?_
    intro e w8 hx
    unfold ROIs at hx
    rw [H0.out, H1.out] at hx
    obtain ⟨hg8, ⟨_, _, rfl⟩ | ⟨hn, _⟩⟩ := hx
    · go_wp2
      go_ret
      exact ⟨rfl, HG7.out.trans hg8⟩
    · exact absurd ⟨hb1, hv0⟩ hn
  · rw [ho] at hx
    obtain ⟨hd7, hs7, ⟨_, c, rfl, hcw, hcl⟩ | ⟨hne, _⟩⟩ := hx
    rotate_left
    · exact absurd rfl hne
    have HD7 := Lib.hid hd7
    have HC7 := Lib.hid hcl
    have HG7 := Lib.hid (hs7.gr HG6.out HDW.out)
    have HBE := Lib.hid hbest
    clear hd7 hs7 ho hcl hcw hbest
    go_wp2_with fail
    refine (RO.out _).mono ?_
    intro e w8 hx
    unfold ROIs at hx
    rw [H0.out, H1.out] at hx
    simp only at hx
    rw [HBE.out] at hx
    obtain ⟨hg8, ⟨hn1, hn2, _⟩ | ⟨_, rfl⟩⟩ := hx
    · exact absurd ⟨hn1, hn2⟩ hc
    have HC8 := Lib.hid (HC7.out.gr hg8)
    have HD8 := Lib.hid (HD7.out.gr hg8)
    have HG8 := Lib.hid (HG7.out.trans hg8)
    clear hg8 hc
    have hss : (T.toList == T.toList) = true := by simp
    go_wp2_with fail
    refine (version_any _ HC8.out).mono ?_
    rintro e w9 ⟨rfl, rfl⟩
    rcases hw with rfl | ⟨hv, q0, q1⟩
    · go_wp2
      go_ret
      exact ⟨rfl, HG8.out⟩
    · have fv : ((V : Int) == 0) = false := by simp [hv]
      have RX := Lib.hid (fun w h => read_in (b := d) (d := Q5) 1 (by decide) w h)
      have RY := Lib.hid (fun w h => read_in (b := d) (d := Q5) 2 (by decide) w h)
      have SX := Lib.hid (fun w h => sure_in (b := d) (d := Q5) 1 (by decide) w h)
      have SY := Lib.hid (fun w h => sure_in (b := d) (d := Q5) 2 (by decide) w h)
      have RS := Lib.hid (fun w => refSpell_any V T w hV (by omega))
      have nx : (flat (spell V T)).now = spell V T := rfl
      have sx : decide ((flat (spell V T)).now = (flat (spell V T)).sure) = true := decide_eq_true rfl
      rw [q0, nx] at RX
      rw [q1, nx] at RY
      rw [q0, sx] at SX
      rw [q1, sx] at SY
      generalize spell V T = z at *
      have hzz : (z.toList == z.toList) = true := by simp
      clear q0 q1 nx sx hv
      go_wp2_with fail
      refine (RX.out _ HD8.out).mono ?_
      rintro e w9 ⟨rfl, hg9⟩
      have HD9 := Lib.hid (HD8.out.gr hg9)
      have HG9 := Lib.hid (HG8.out.trans hg9)
      clear hg9
      go_wp2_with fail
      refine (RY.out _ HD9.out).mono ?_
      rintro e wa ⟨rfl, hga⟩
      have HDa := Lib.hid (HD9.out.gr hga)
      have HGa := Lib.hid (HG9.out.trans hga)
      clear hga
      go_wp2_with fail
      refine (RS.out _).mono ?_
      rintro e wb ⟨rfl, hgb⟩
      have HDb := Lib.hid (HDa.out.gr hgb)
      have HGb := Lib.hid (HGa.out.trans hgb)
      clear hgb
      go_wp2_with fail
      refine (SX.out _ HDb.out).mono ?_
      rintro e wc ⟨rfl, hgc⟩
      have HDc := Lib.hid (HDb.out.gr hgc)
      have HGc := Lib.hid (HGb.out.trans hgc)
      clear hgc
      go_wp2_with fail
      refine (SY.out _ HDc.out).mono ?_
      rintro e wd ⟨rfl, hgd⟩
      go_wp2
      go_ret
      exact ⟨rfl, HGc.out.trans hgd⟩
set_option maxRecDepth 100000 in
set_option maxHeartbeats 1000000 in
theorem opens_2 (a b : ByteArray) (w : World) (ha : a.size ≤ 9223372036854775807) (hb : b.size ≤ 9223372036854775807) :
    Calls Try.prog 5 #[.string a, .string b, .int .i64 2] w fun e w' => e = .returned (.bool true) ∧ Gr w w' := by
  have CA := Lib.hid (fun w => cut_any a 200 w ha (by decide))
  have CB := Lib.hid (fun w => cut_any b 200 w hb (by decide))
  have hA := cutB_le a 200
  have hB := cutB_le b 200
  generalize cutB a 200 = A at *
  generalize cutB b 200 = B at *
  obtain ⟨Q1, Q2, Q3, Q4, a1, a2, a3, a4, hok, hbd, hro, hfa, hf, hg⟩ := twin_start A B hA hB 2 3 rfl (by decide)
  have A1 := Lib.hid a1
  have A2 := Lib.hid a2
  have A3 := Lib.hid a3
  have A4 := Lib.hid a4
  have HA := Lib.hid hA
  have HB := Lib.hid hB
  obtain ⟨v0, t0, b0, h0⟩ : ∃ v t c, parseB A = (v, t, c) := ⟨_, _, _, rfl⟩
  obtain ⟨v1, t1, b1, h1⟩ : ∃ v t c, parseB B = (v, t, c) := ⟨_, _, _, rfl⟩
  have RO := Lib.hid (fun w => refOpen2_any A B w (by omega) (by omega))
  have OP := Lib.hid (fun (w : Nat × World) h => open_any12 (d := w.1) (f := 2) (g := 3) (Q := Q4) w.2 h rfl (by decide) (by rw [hf]; show A.size ≤ _; omega) (by rw [hg]; show B.size ≤ _; omega))
  have KEY : (openM Q4 2 3 = (Q4, 7, 0, ⟨#[]⟩) ∧ b1 = true ∧ v0 = 0) ∨ (¬ (b1 = true ∧ v0 = 0) ∧ ∃ Q5 V T, openM Q4 2 3 = (Q5, 0, V, T) ∧ best v0 t0 v1 t1 = (V, T) ∧ V < 18446744073709551616 ∧ T.size ≤ 200 ∧ (V = 0 ∨ V ≠ 0 ∧ Q5.fs 2 = flat (spell V T) ∧ Q5.fs 3 = flat (spell V T))) := by
    by_cases hc : b1 = true ∧ v0 = 0
    · refine .inl ⟨?_, hc⟩
      unfold openM
      have e0 : parseB (Q4.fs 2).now = (v0, t0, b0) := by rw [hf]; exact h0
      have e1 : parseB (Q4.fs 3).now = (v1, t1, b1) := by rw [hg]; exact h1
      rw [e0, e1, if_pos hc]
    · obtain ⟨Q5, V, T, e1, e2, _, _, _, _, _, _, e3⟩ := open_flat hok hbd (by rw [hro]; decide) hfa (f := 2) (g := 3) rfl (by decide) hf hg h0 h1 hc
      obtain ⟨l1, l2⟩ := best_lt hA hB h0 h1 e1
      refine .inr ⟨hc, Q5, V, T, e2, e1, l1, l2, ?_⟩
      by_cases hv : V = 0
      · exact .inl hv
      · exact .inr ⟨hv, e3 hv⟩
  have H0 := Lib.hid h0
  have H1 := Lib.hid h1
  have HK := Lib.hid KEY
  clear a1 a2 a3 a4 hA hB KEY h0 h1 hok hbd hro hfa hf hg
  go_enter Try.func5, Try.ntmps5
  go_wp2_with fail
  refine (awake12 w).mono ?_
  rintro e w1 ⟨rfl, hg1⟩
  go_wp2_with fail
  refine (CA.out _).mono ?_
  rintro e w2 ⟨rfl, rfl⟩
  go_wp2_with fail
  refine (CB.out _).mono ?_
  rintro e w2 ⟨rfl, rfl⟩
  go_wp2_with fail
  refine (new_any 5000 (by decide) _).mono ?_
  rintro e w2 ⟨d, rfl, hbe, hd2, hg2⟩
  have HD2 := Lib.hid hd2
  have HG2 := Lib.hid (hg1.trans hg2)
  have HDW := Lib.hid (show w.heap.size ≤ d by have := hg1.size; omega)
  clear hg1 hg2 hd2 hbe
  go_wp2_with fail
  refine (put_any11 2 A (by have := HA.out; omega) _ HD2.out).mono ?_
  intro e w3 hx
  obtain ⟨rfl, hd3, hs3⟩ := act_is hx A1.out
  have HD3 := Lib.hid hd3
  have HG3 := Lib.hid (hs3.gr HG2.out HDW.out)
  clear hx hd3 hs3
  go_wp2_with fail
  refine (put_any11 3 B (by have := HB.out; omega) _ HD3.out).mono ?_
  intro e w4 hx
  obtain ⟨rfl, hd4, hs4⟩ := act_is hx A2.out
  have HD4 := Lib.hid hd4
  have HG4 := Lib.hid (hs4.gr HG3.out HDW.out)
  clear hx hd4 hs4
  go_wp2_with fail
  refine (sync_any11 2 _ HD4.out).mono ?_
  intro e w5 hx
  obtain ⟨rfl, hd5, hs5⟩ := act_is hx A3.out
  have HD5 := Lib.hid hd5
  have HG5 := Lib.hid (hs5.gr HG4.out HDW.out)
  clear hx hd5 hs5
  go_wp2_with fail
  refine (sync_any11 3 _ HD5.out).mono ?_
  intro e w6 hx
  obtain ⟨rfl, hd6, hs6⟩ := act_is hx A4.out
  have HD6 := Lib.hid hd6
  have HG6 := Lib.hid (hs6.gr HG5.out HDW.out)
  clear hx hd6 hs6
  go_wp2_with fail
  refine (OP.out (d, w6) HD6.out).mono ?_
  intro e w7 hx
  unfold OpIs at hx
  rcases HK.out with ⟨ho, hb1, hv0⟩ | ⟨hc, Q5, V, T, ho, hbest, hV, hT, hw⟩
  · rw [ho] at hx
    obtain ⟨hd7, hs7, ⟨hne, _⟩ | ⟨_, rfl⟩⟩ := hx
    · exact absurd hne (by simp)
    have HG7 := Lib.hid (hs7.gr HG6.out HDW.out)
    clear hd7 hs7 ho
    go_wp2_with fail
    refine (RO.out _).mono ?_
    intro e w8 hx
    unfold ROIs at hx
    rw [H0.out, H1.out] at hx
    obtain ⟨hg8, ⟨_, _, rfl⟩ | ⟨hn, _⟩⟩ := hx
    · go_wp2
      go_ret
      exact ⟨rfl, HG7.out.trans hg8⟩
    · exact absurd ⟨hb1, hv0⟩ hn
  · rw [ho] at hx
    obtain ⟨hd7, hs7, ⟨_, c, rfl, hcw, hcl⟩ | ⟨hne, _⟩⟩ := hx
    rotate_left
    · exact absurd rfl hne
    have HD7 := Lib.hid hd7
    have HC7 := Lib.hid hcl
    have HG7 := Lib.hid (hs7.gr HG6.out HDW.out)
    have HBE := Lib.hid hbest
    clear hd7 hs7 ho hcl hcw hbest
    go_wp2_with fail
    refine (RO.out _).mono ?_
    intro e w8 hx
    unfold ROIs at hx
    rw [H0.out, H1.out] at hx
    simp only at hx
    rw [HBE.out] at hx
    obtain ⟨hg8, ⟨hn1, hn2, _⟩ | ⟨_, rfl⟩⟩ := hx
    · exact absurd ⟨hn1, hn2⟩ hc
    have HC8 := Lib.hid (HC7.out.gr hg8)
    have HD8 := Lib.hid (HD7.out.gr hg8)
    have HG8 := Lib.hid (HG7.out.trans hg8)
    clear hg8 hc
    have hss : (T.toList == T.toList) = true := by simp
    go_wp2_with fail
    refine (version_any _ HC8.out).mono ?_
    rintro e w9 ⟨rfl, rfl⟩
    rcases hw with rfl | ⟨hv, q0, q1⟩
    · go_wp2
      go_ret
      exact ⟨rfl, HG8.out⟩
    · have fv : ((V : Int) == 0) = false := by simp [hv]
      have RX := Lib.hid (fun w h => read_in (b := d) (d := Q5) 2 (by decide) w h)
      have RY := Lib.hid (fun w h => read_in (b := d) (d := Q5) 3 (by decide) w h)
      have SX := Lib.hid (fun w h => sure_in (b := d) (d := Q5) 2 (by decide) w h)
      have SY := Lib.hid (fun w h => sure_in (b := d) (d := Q5) 3 (by decide) w h)
      have RS := Lib.hid (fun w => refSpell_any V T w hV (by omega))
      have nx : (flat (spell V T)).now = spell V T := rfl
      have sx : decide ((flat (spell V T)).now = (flat (spell V T)).sure) = true := decide_eq_true rfl
      rw [q0, nx] at RX
      rw [q1, nx] at RY
      rw [q0, sx] at SX
      rw [q1, sx] at SY
      generalize spell V T = z at *
      have hzz : (z.toList == z.toList) = true := by simp
      clear q0 q1 nx sx hv
      go_wp2_with fail
      refine (RX.out _ HD8.out).mono ?_
      rintro e w9 ⟨rfl, hg9⟩
      have HD9 := Lib.hid (HD8.out.gr hg9)
      have HG9 := Lib.hid (HG8.out.trans hg9)
      clear hg9
      go_wp2_with fail
      refine (RY.out _ HD9.out).mono ?_
      rintro e wa ⟨rfl, hga⟩
      have HDa := Lib.hid (HD9.out.gr hga)
      have HGa := Lib.hid (HG9.out.trans hga)
      clear hga
      go_wp2_with fail
      refine (RS.out _).mono ?_
      rintro e wb ⟨rfl, hgb⟩
      have HDb := Lib.hid (HDa.out.gr hgb)
      have HGb := Lib.hid (HGa.out.trans hgb)
      clear hgb
      go_wp2_with fail
      refine (SX.out _ HDb.out).mono ?_
      rintro e wc ⟨rfl, hgc⟩
      have HDc := Lib.hid (HDb.out.gr hgc)
      have HGc := Lib.hid (HGb.out.trans hgc)
      clear hgc
      go_wp2_with fail
      refine (SY.out _ HDc.out).mono ?_
      rintro e wd ⟨rfl, hgd⟩
      go_wp2
      go_ret
      exact ⟨rfl, HGc.out.trans hgd⟩
theorem twinOpens_walk (a b : ByteArray) (first : Int) (w : World) (ha : a.size ≤ 9223372036854775807) (hb : b.size ≤ 9223372036854775807) (wf : (Lit.int .i64 first).wf = true) :
    Calls Try.prog 5 #[.string a, .string b, .int .i64 first] w fun e w' => e = .returned (.bool true) ∧ Gr w w' := by
  by_cases h : first < 0 ∨ 2 < first
  · exact opens_out a b first w ha hb h
  · have : first = 0 ∨ first = 1 ∨ first = 2 := by omega
    rcases this with rfl | rfl | rfl
    · exact opens_0 a b w ha hb
    · exact opens_1 a b w ha hb
    · exact opens_2 a b w ha hb
end Go.Proofs.Ytfcfbecfamemlaa
