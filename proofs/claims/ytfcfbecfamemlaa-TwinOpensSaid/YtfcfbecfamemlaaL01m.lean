import Derived.Test.YtfcfbecfamemlaaL01j
import Derived.WalkKit
import Derived.ProofKit
import Derived.LoopTactic
import Derived.Outline
import Derived.WalkSpells
import Derived.WalkLawsBesides
import Derived.Lib.Hide
import Derived.Deep.LoopGhost
import Derived.Deep.QuietTactic
import Derived.BigQuiet
import Derived.ShutString
import Derived.Deep.RegionWith
import Derived.Deep.RegionHeld3
namespace Go.Proofs.Ytfcfbecfamemlaa
open Go.ChangeShapes Go.WideShapes Go.ChangeAt Go.RowKit
open Enc
set_option linter.unusedVariables false
set_option linter.unusedSimpArgs false
def RUIs (r : ByteArray) (e : Nat) (w : World) (en : Ending) (w' : World) : Prop :=
  en = .returned (.tuple #[.agg #[.string (uS r e).1, .int .i64 ((uS r e).2.1 : Nat)], .int .u64 ((uS r e).2.2 : Nat)]) ∧ Gr w w'
theorem ruIs_mk {r a : ByteArray} {e b c : Nat} {w w' : World} (h : Hid (uS r e = (a, b, c))) (hg : Gr w w') : RUIs r e w (.returned (.tuple #[.agg #[.string a, .int .i64 (b : Int)], .int .u64 (c : Int)])) w' := by
  unfold RUIs; rw [h.out]; exact ⟨rfl, hg⟩
theorem toL_iff (R G : ByteArray) : R.toList = G.toList ↔ R = G := by
  constructor
  · intro h
    rw [ByteArray.toList_eq, ByteArray.toList_eq] at h
    exact ByteArray.ext (Array.toList_inj.1 h)
  · rintro rfl; rfl
theorem hole_whole (r : ByteArray) : r.extract 0 r.size = r := by
  have := ByteArray.extract_zero_size (b := r); exact this
set_option maxRecDepth 100000 in
set_option maxHeartbeats 1000000 in
theorem refU_err (r a : ByteArray) (e b : Nat) (w : World) (hr : r.size ≤ 1000000) (hT : Hid (takeS r e 1 = (a, b, ⟨#[]⟩))) (hb : b ≠ 0) (E : Hid (uS r e = (a, b, 0))) :
    Calls Try.prog 74 #[.agg #[.string r, .int .i64 (e : Int)]] w (RUIs r e w) := by
  have t1 : ((b : Int) != 0) = true := by simp; omega
  clear hb
  go_enter Try.func74, Try.ntmps74
  go_wp2_with fail
  refine (rtake_is hT.out _ hr (by omega)).mono ?_
  rintro en w1 ⟨rfl, hg⟩
  have o0 : w1.cell? ⟨w.heap.size + 1, 0, none⟩ = some (.string ⟨#[]⟩) := by simpa using hg.own.1 0 _ rfl
  have o1 : w1.cell? ⟨w.heap.size + 1, 1, none⟩ = some (.int .i64 0) := by simpa using hg.own.1 1 _ rfl
  have o2 : w1.frozen? ⟨w.heap.size + 1, 0, none⟩ = false := by simpa using hg.own.2.1 0
  have o3 : w1.frozen? ⟨w.heap.size + 1, 1, none⟩ = false := by simpa using hg.own.2.1 1
  have ol2 : w.heap.size + 1 < w1.heap.size := by simpa using hg.own.2.2
  have HG := Lib.hid (((Gr.refl w).alloc _).alloc _ |>.trans hg)
  clear hg
  go_wp2
  exact bodyPost_ret (v := .tuple #[.agg #[.string a, .int .i64 (b : Nat)], .int .u64 ((0 : Nat))]) (by simp [results, Try.results74, go_sem, o0, o1, o2, o3, ol2, Nat.ne_of_lt ol2, Nat.ne_of_gt ol2]) rfl (ruIs_mk E (((HG.out.setCell (Nat.le_succ _) _).setCell (Nat.le_succ _) _).alloc _))
set_option maxRecDepth 100000 in
set_option maxHeartbeats 1000000 in
theorem refU_255 (r r1 S : ByteArray) (w : World) (hr : r.size ≤ 1000000) (hT : Hid (takeS r 0 1 = (r1, 0, S))) (i0 : 0 < S.size) (hm : True → S[0].toNat = 255) (E : Hid (uS r 0 = (r1, 4, 0))) :
    Calls Try.prog 74 #[.agg #[.string r, .int .i64 ((0 : Nat) : Int)]] w (RUIs r 0 w) := by
  go_enter Try.func74, Try.ntmps74
  go_wp2_with fail
  refine (rtake_is hT.out _ hr (by omega)).mono ?_
  rintro en w1 ⟨rfl, hg⟩
  have o0 : w1.cell? ⟨w.heap.size + 1, 0, none⟩ = some (.string ⟨#[]⟩) := by simpa using hg.own.1 0 _ rfl
  have o1 : w1.cell? ⟨w.heap.size + 1, 1, none⟩ = some (.int .i64 0) := by simpa using hg.own.1 1 _ rfl
  have o2 : w1.frozen? ⟨w.heap.size + 1, 0, none⟩ = false := by simpa using hg.own.2.1 0
  have o3 : w1.frozen? ⟨w.heap.size + 1, 1, none⟩ = false := by simpa using hg.own.2.1 1
  have ol2 : w.heap.size + 1 < w1.heap.size := by simpa using hg.own.2.2
  have HG := Lib.hid (((Gr.refl w).alloc _).alloc _ |>.trans hg)
  clear hg
  go_wp2_with fail
  refine (refFail_any r1 0 4 _).mono ?_
  rintro en w2 ⟨rfl, hg⟩
  have hx := ((Gr.refl w1).alloc (.cells #[.string r1, .int .i64 (0 : Nat)] 133)).trans hg
  have c0 := hg.own.1 0 _ rfl
  have c1 := hg.own.1 1 _ rfl
  replace o2 := (hx.frozen (o := 0) (cell_lt o0)).trans o2
  replace o3 := (hx.frozen (o := 1) (cell_lt o1)).trans o3
  replace o0 := hx.cell o0
  replace o1 := hx.cell o1
  have HG2 := Lib.hid (HG.out.trans hx)
  clear hg hx ol2
  have ol2 := cell_lt o0
  have e4 : failE 0 4 = 4 := rfl
  rw [e4]
  go_wp2
  exact bodyPost_ret (v := .tuple #[.agg #[.string r1, .int .i64 (4 : Nat)], .int .u64 ((0 : Nat))]) (by simp [results, Try.results74, go_sem, o0, o1, o2, o3, ol2, Nat.ne_of_lt ol2, Nat.ne_of_gt ol2]) rfl (ruIs_mk E ((HG2.out.setCell (Nat.le_succ _) _).setCell (Nat.le_succ _) _))
set_option maxRecDepth 100000 in
set_option maxHeartbeats 1000000 in
theorem refU_one (r r1 S : ByteArray) (m : Nat) (w : World) (hr : r.size ≤ 1000000) (hr1 : r1.size ≤ 1000000) (hT : Hid (takeS r 0 1 = (r1, 0, S))) (hT2 : Hid (takeS r1 0 0 = (r1, 0, ⟨#[]⟩))) (i0 : 0 < S.size) (hm : True → S[0].toNat = m) (hml : m < 252) (E : Hid (uS r 0 = (r1, 0, m))) :
    Calls Try.prog 74 #[.agg #[.string r, .int .i64 ((0 : Nat) : Int)]] w (RUIs r 0 w) := by
  have t1 : ((m : Int) == 252) = false := by simp; omega
  have t2 : ((m : Int) == 253) = false := by simp; omega
  have t3 : ((m : Int) == 254) = false := by simp; omega
  have t4 : ((m : Int) == 255) = false := by simp; omega
  go_enter Try.func74, Try.ntmps74
  go_wp2_with fail
  refine (rtake_is hT.out _ hr (by omega)).mono ?_
  rintro en w1 ⟨rfl, hg⟩
  have o0 : w1.cell? ⟨w.heap.size + 1, 0, none⟩ = some (.string ⟨#[]⟩) := by simpa using hg.own.1 0 _ rfl
  have o1 : w1.cell? ⟨w.heap.size + 1, 1, none⟩ = some (.int .i64 0) := by simpa using hg.own.1 1 _ rfl
  have o2 : w1.frozen? ⟨w.heap.size + 1, 0, none⟩ = false := by simpa using hg.own.2.1 0
  have o3 : w1.frozen? ⟨w.heap.size + 1, 1, none⟩ = false := by simpa using hg.own.2.1 1
  have ol2 : w.heap.size + 1 < w1.heap.size := by simpa using hg.own.2.2
  have HG := Lib.hid (((Gr.refl w).alloc _).alloc _ |>.trans hg)
  clear hg
  go_wp2_with fail
  refine (rtake_is hT2.out _ hr1 (by omega)).mono ?_
  rintro en w2 ⟨rfl, hg⟩
  have hx := ((Gr.refl w1).alloc (.cells #[.string r1, .int .i64 (0 : Nat)] 133)).trans hg
  have c0 := hg.own.1 0 _ rfl
  have c1 := hg.own.1 1 _ rfl
  replace o2 := (hx.frozen (o := 0) (cell_lt o0)).trans o2
  replace o3 := (hx.frozen (o := 1) (cell_lt o1)).trans o3
  replace o0 := hx.cell o0
  replace o1 := hx.cell o1
  have HG2 := Lib.hid (HG.out.trans hx)
  clear hg hx ol2
  have ol2 := cell_lt o0
  go_wp2
  go_region
  go_wp2
  exact bodyPost_ret (v := .tuple #[.agg #[.string r1, .int .i64 (0 : Nat)], .int .u64 ((m : Nat))]) (by simp [results, Try.results74, go_sem, o0, o1, o2, o3, ol2, Nat.ne_of_lt ol2, Nat.ne_of_gt ol2]) rfl (ruIs_mk E ((((HG2.out.setCell (Nat.le_succ _) _).setCell (Nat.le_succ _) _).alloc _).drew))
theorem less_size (T : ByteArray) {n : Nat} (h : T.size = n) : (bytesOf T).length = n := by simp [bytesOf]; exact h
set_option maxRecDepth 100000 in
set_option maxHeartbeats 2000000 in
theorem refU_short (r r1 S : ByteArray) (m n : Nat) (w : World) (hr : r.size ≤ 1000000) (hr1 : r1.size ≤ 1000000) (hT : Hid (takeS r 0 1 = (r1, 0, S))) (hT2 : Hid (takeS r1 0 n = (r1, 3, ⟨#[]⟩))) (i0 : 0 < S.size) (hm : True → S[0].toNat = m) (hmn : (m = 252 ∧ n = 2) ∨ (m = 253 ∧ n = 4) ∨ (m = 254 ∧ n = 8)) (E : Hid (uS r 0 = (r1, 3, 0))) :
    Calls Try.prog 74 #[.agg #[.string r, .int .i64 ((0 : Nat) : Int)]] w (RUIs r 0 w) := by
  rcases hmn with ⟨rfl, rfl⟩ | ⟨rfl, rfl⟩ | ⟨rfl, rfl⟩
  all_goals
    go_enter Try.func74, Try.ntmps74
    go_wp2_with fail
    refine (rtake_is hT.out _ hr (by omega)).mono ?_
    rintro en w1 ⟨rfl, hg⟩
    have o0 : w1.cell? ⟨w.heap.size + 1, 0, none⟩ = some (.string ⟨#[]⟩) := by simpa using hg.own.1 0 _ rfl
    have o1 : w1.cell? ⟨w.heap.size + 1, 1, none⟩ = some (.int .i64 0) := by simpa using hg.own.1 1 _ rfl
    have o2 : w1.frozen? ⟨w.heap.size + 1, 0, none⟩ = false := by simpa using hg.own.2.1 0
    have o3 : w1.frozen? ⟨w.heap.size + 1, 1, none⟩ = false := by simpa using hg.own.2.1 1
    have ol2 : w.heap.size + 1 < w1.heap.size := by simpa using hg.own.2.2
    have HG := Lib.hid (((Gr.refl w).alloc _).alloc _ |>.trans hg)
    clear hg
    go_wp2_with fail
    refine (rtake_is hT2.out _ hr1 (by omega)).mono ?_
    rintro en w2 ⟨rfl, hg⟩
    have hx := ((Gr.refl w1).alloc (.cells #[.string r1, .int .i64 (0 : Nat)] 133)).trans hg
    have c0 := hg.own.1 0 _ rfl
    have c1 := hg.own.1 1 _ rfl
    replace o2 := (hx.frozen (o := 0) (cell_lt o0)).trans o2
    replace o3 := (hx.frozen (o := 1) (cell_lt o1)).trans o3
    replace o0 := hx.cell o0
    replace o1 := hx.cell o1
    have HG2 := Lib.hid (HG.out.trans hx)
    clear hg hx ol2
    have ol2 := cell_lt o0
    go_wp2
    exact bodyPost_ret (v := .tuple #[.agg #[.string r1, .int .i64 (3 : Nat)], .int .u64 ((0 : Nat))]) (by simp [results, Try.results74, go_sem, o0, o1, o2, o3, ol2, Nat.ne_of_lt ol2, Nat.ne_of_gt ol2]) rfl (ruIs_mk E (((HG2.out.setCell (Nat.le_succ _) _).setCell (Nat.le_succ _) _).alloc _))
set_option maxRecDepth 100000 in
set_option maxHeartbeats 4000000 in
theorem refU_more (r r1 r2 S T : ByteArray) (m n v b : Nat) (w : World) (hr : r.size ≤ 1000000) (hr1 : r1.size ≤ 1000000) (hT : Hid (takeS r 0 1 = (r1, 0, S))) (hT2 : Hid (takeS r1 0 n = (r2, 0, T))) (i0 : 0 < S.size) (hm : True → S[0].toNat = m) (hmn : (m = 252 ∧ n = 2) ∨ (m = 253 ∧ n = 4) ∨ (m = 254 ∧ n = 8))
    (hTn : T.size = n) (hS1 : S.size = 1) (hv : Hid (num8 (bytesOf T) = v)) (E0 : Hid (b = 0 ∧ uS r 0 = (r2, 0, v) ∧ ofL (encU v) = S ++ T ∨ b = 4 ∧ uS r 0 = (r2, 4, 0) ∧ ofL (encU v) ≠ S ++ T)) :
    Calls Try.prog 74 #[.agg #[.string r, .int .i64 ((0 : Nat) : Int)]] w (RUIs r 0 w) := by
  have hvl : v < 18446744073709551616 := by
    have := num8_lt (bytesOf T)
    rw [hv.out, less_size T hTn] at this
    exact Nat.lt_of_lt_of_le this (Nat.le_trans (Nat.pow_le_pow_right (n := 256) (by decide) (show n ≤ 8 by omega)) (by decide))
  rcases hmn with ⟨rfl, rfl⟩ | ⟨rfl, rfl⟩ | ⟨rfl, rfl⟩
  all_goals
    go_enter Try.func74, Try.ntmps74
    go_wp2_with fail
    refine (rtake_is hT.out _ hr (by omega)).mono ?_
    rintro en w1 ⟨rfl, hg⟩
    have o0 : w1.cell? ⟨w.heap.size + 1, 0, none⟩ = some (.string ⟨#[]⟩) := by simpa using hg.own.1 0 _ rfl
    have o1 : w1.cell? ⟨w.heap.size + 1, 1, none⟩ = some (.int .i64 0) := by simpa using hg.own.1 1 _ rfl
    have o2 : w1.frozen? ⟨w.heap.size + 1, 0, none⟩ = false := by simpa using hg.own.2.1 0
    have o3 : w1.frozen? ⟨w.heap.size + 1, 1, none⟩ = false := by simpa using hg.own.2.1 1
    have ol2 : w.heap.size + 1 < w1.heap.size := by simpa using hg.own.2.2
    have HG := Lib.hid (((Gr.refl w).alloc _).alloc _ |>.trans hg)
    clear hg
    go_wp2_with fail
    refine (rtake_is hT2.out _ hr1 (by omega)).mono ?_
    rintro en w2 ⟨rfl, hg⟩
    have hx := ((Gr.refl w1).alloc (.cells #[.string r1, .int .i64 (0 : Nat)] 133)).trans hg
    have c0 := hg.own.1 0 _ rfl
    have c1 := hg.own.1 1 _ rfl
    replace o2 := (hx.frozen (o := 0) (cell_lt o0)).trans o2
    replace o3 := (hx.frozen (o := 1) (cell_lt o1)).trans o3
    replace o0 := hx.cell o0
    replace o1 := hx.cell o1
    have HG2 := Lib.hid (HG.out.trans hx)
    clear hg hx ol2
    have ol2 := cell_lt o0
    go_wp2
    go_loop [9, 10] (fun a i => ∃ k : Nat, k ≤ T.size ∧ i = .int .i64 k ∧ a = .int .u64 (num8 ((bytesOf T).take k) : Nat)) (fun _ i => T.size - (intOf i).toNat)
    case atStart => exact ⟨0, by omega, rfl, rfl⟩
    case round =>
      obtain ⟨k, hk, rfl, rfl⟩ := hrel
      by_cases hlt : k < T.size
      · have hts := Lib.hid (take_snoc T k hlt)
        have hb := T[k].toNat_lt
        generalize hC : num8 ((bytesOf T).take k) = D at *
        have HC := Lib.hid hC; clear hC
        have hCl : D < 72057594037927936 := by
          have h1 := num8_lt ((bytesOf T).take k)
          rw [HC.out] at h1
          have h2 : ((bytesOf T).take k).length ≤ 7 := by simp; omega
          exact Nat.lt_of_lt_of_le h1 (Nat.le_trans (Nat.pow_le_pow_right (n := 256) (by decide) h2) (by decide))
        have hlt2 := Lib.hid hlt
        go_wp2
        go_round
        case rel => exact ⟨k + 1, by omega, by go_num, by rw [hts.out, num8_snoc, HC.out]; go_num⟩
        case measure => simp [intOf]; omega
      · obtain rfl : k = T.size := by omega
        have HE := Lib.hid (take_size T)
        rw [HE.out, hv.out]
        go_wp2_with fail
        refine (refU_any v _ hvl).mono ?_
        rintro en w3 ⟨rfl, hg⟩
        have hx := ((Gr.refl w2).alloc (.cells #[.string r2, .int .i64 (0 : Nat)] 133)).trans hg
        have d0 := hg.own.1 0 _ rfl
        have d1 := hg.own.1 1 _ rfl
        replace o2 := (hx.frozen (o := 0) (cell_lt o0)).trans o2
        replace o3 := (hx.frozen (o := 1) (cell_lt o1)).trans o3
        replace o0 := hx.cell o0
        replace o1 := hx.cell o1
        have HG3 := Lib.hid (HG2.out.trans hx)
        clear hg hx ol2
        have ol2 := cell_lt o0
        rcases E0.out with ⟨rfl, E1, h3⟩ | ⟨rfl, E1, h3⟩
        · have E := Lib.hid E1
          rw [h3]
          clear E1 h3
          go_wp2
          exact bodyPost_ret (v := .tuple #[.agg #[.string r2, .int .i64 (0 : Nat)], .int .u64 ((v : Nat))]) (by simp [results, Try.results74, go_sem, o0, o1, o2, o3, ol2, Nat.ne_of_lt ol2, Nat.ne_of_gt ol2]) rfl (ruIs_mk E ((HG3.out.setCell (Nat.le_succ _) _).setCell (Nat.le_succ _) _))
        · have E := Lib.hid E1
          generalize ofL (encU v) = Q at *
          have hQ : (Q.toList == (S ++ T).toList) = false := by rw [beq_eq_false_iff_ne]; exact fun e => h3 ((toL_iff _ _).1 e)
          clear E1 h3
          go_wp2_with fail
          refine (refFail_any r2 0 4 _).mono ?_
          rintro en w4 ⟨rfl, hg⟩
          replace o2 := (hg.frozen (o := 0) (cell_lt o0)).trans o2
          replace o3 := (hg.frozen (o := 1) (cell_lt o1)).trans o3
          replace o0 := hg.cell o0
          replace o1 := hg.cell o1
          have HG4 := Lib.hid (HG3.out.trans hg)
          clear hg ol2
          have ol2 := cell_lt o0
          have e4 : failE 0 4 = 4 := rfl
          rw [e4]
          go_wp2
          exact bodyPost_ret (v := .tuple #[.agg #[.string r2, .int .i64 (4 : Nat)], .int .u64 ((0 : Nat))]) (by simp [results, Try.results74, go_sem, o0, o1, o2, o3, ol2, Nat.ne_of_lt ol2, Nat.ne_of_gt ol2]) rfl (ruIs_mk E ((HG4.out.setCell (Nat.le_succ _) _).setCell (Nat.le_succ _) _))
theorem uS_first {r : ByteArray} (hz : 1 ≤ r.size) : uS r 0 = uR (r.extract 1 r.size) (hd r) := by unfold uS; rw [if_neg (by omega), if_neg (by omega)]
theorem takeS_one {r : ByteArray} (hz : 1 ≤ r.size) : takeS r 0 1 = (r.extract 1 r.size, 0, r.extract 0 1) := by unfold takeS; rw [if_neg (by omega), if_neg (by omega)]
theorem first_of (r : ByteArray) (hz : 1 ≤ r.size) : (r.extract 0 1).size = 1 ∧ ∀ h : 0 < (r.extract 0 1).size, (r.extract 0 1)[0].toNat = hd r := by
  have hs : (r.extract 0 1).size = 1 := by simp; omega
  refine ⟨hs, fun h => ?_⟩
  unfold hd
  rw [dif_pos (show 0 < r.size by omega)]
  simp [ByteArray.getElem_extract]
/-- The bytes of a number's one form. -/
theorem form_iff {S T : ByteArray} {m v : Nat} (hS1 : S.size = 1) (hm : ∀ h : 0 < S.size, S[0].toNat = m) (hn : more m ≠ 0) (hT : T.size = more m) (hv : num8 (bytesOf T) = v) : ofL (encU v) = S ++ T ↔ first v = m := by
  have hSb : bytesOf S = [b8 m] := by
    have hl : (bytesOf S).length = 1 := by simp [bytesOf]; exact hS1
    match hb : bytesOf S, hl with
    | [x], _ =>
      have h0 := hm (by omega)
      have : x = S[0]'(by omega) := by
        have h1 : (bytesOf S)[0]? = some x := by rw [hb]; rfl
        unfold bytesOf at h1
        rw [List.getElem?_eq_getElem (by simp; omega)] at h1
        simp at h1
        exact h1.symm
      rw [this, ← h0, b8_byte]
  have hml : m < 256 := by rw [← hm (by omega)]; exact UInt8.toNat_lt _
  constructor
  · intro h
    have h2 : encU v = bytesOf (S ++ T) := by rw [← h, bytesOf_ofL]
    rw [bytesOf_app, hSb] at h2
    unfold encU at h2
    simp only [List.cons_append, List.nil_append, List.cons.injEq] at h2
    exact e8_inj (by have := first_lt v; omega) hml h2.1
  · intro h
    apply eB
    rw [bytesOf_ofL, bytesOf_app, hSb]
    unfold encU
    rw [h]
    show b8 m :: _ = b8 m :: _
    congr 1
    have hl := less_size T hT
    have h8 := wide_num8 (bytesOf T)
    rw [hl, hv] at h8
    exact h8
theorem refU2_any (r : ByteArray) (e : Nat) (w : World) (hr : r.size ≤ 1000000) : Calls Try.prog 74 #[.agg #[.string r, .int .i64 (e : Int)]] w (RUIs r e w) := by
  by_cases he : e = 0
  · subst he
    by_cases hz : r.size < 1
    · exact refU_err r r 0 3 w hr (Lib.hid (by unfold takeS; rw [if_neg (by omega), if_pos hz])) (by decide) (Lib.hid (by unfold uS; rw [if_neg (by omega), if_pos hz]))
    · have h1 : 1 ≤ r.size := by omega
      obtain ⟨hS1, hm⟩ := first_of r h1
      have hT := Lib.hid (takeS_one h1)
      have hU := uS_first h1
      have hml := hd_lt r
      have hr1 : (r.extract 1 r.size).size ≤ 1000000 := by simp; omega
      have i0 : 0 < (r.extract 0 1).size := by omega
      generalize r.extract 1 r.size = r1 at *
      generalize r.extract 0 1 = S at *
      generalize hd r = m at *
      by_cases h255 : m = 255
      · subst h255
        exact refU_255 r r1 S w hr hT i0 (fun _ => hm i0) (Lib.hid (by rw [hU]; rfl))
      · by_cases h252 : m < 252
        · refine refU_one r r1 S m w hr hr1 hT (Lib.hid ?_) i0 (fun _ => hm i0) h252 (Lib.hid ?_)
          · unfold takeS; rw [if_neg (by omega), if_neg (by omega), hole_whole, ByteArray.extract_same]; rfl
          · have hmo : more m = 0 := by unfold more; rw [if_neg (by omega), if_neg (by omega), if_neg (by omega)]
            have hfi : first m = m := if_pos h252
            rw [hU]; unfold uR; rw [if_pos hmo, if_pos hfi]
        · have hmn : (m = 252 ∧ more m = 2) ∨ (m = 253 ∧ more m = 4) ∨ (m = 254 ∧ more m = 8) := by
            obtain rfl | rfl | rfl : m = 252 ∨ m = 253 ∨ m = 254 := by omega
            · exact .inl ⟨rfl, rfl⟩
            · exact .inr (.inl ⟨rfl, rfl⟩)
            · exact .inr (.inr ⟨rfl, rfl⟩)
          have hmo : more m ≠ 0 := by omega
          by_cases hs : r1.size < more m
          · refine refU_short r r1 S m (more m) w hr hr1 hT (Lib.hid ?_) i0 (fun _ => hm i0) hmn (Lib.hid ?_)
            · unfold takeS; rw [if_neg (by omega), if_pos hs]
            · rw [hU]; unfold uR; rw [if_neg hmo, if_pos hs]
          · have hTn : (r1.extract 0 (more m)).size = more m := by simp; omega
            have hf := form_iff (m := m) (v := num8 (bytesOf (r1.extract 0 (more m)))) hS1 hm hmo hTn rfl
            have hU2 : uS r 0 = if first (num8 (bytesOf (r1.extract 0 (more m)))) = m then (r1.extract (more m) r1.size, 0, num8 (bytesOf (r1.extract 0 (more m)))) else (r1.extract (more m) r1.size, 4, 0) := by
              rw [hU]; unfold uR; rw [if_neg hmo, if_neg hs]
            have hT2 : takeS r1 0 (more m) = (r1.extract (more m) r1.size, 0, r1.extract 0 (more m)) := by unfold takeS; rw [if_neg (by omega), if_neg hs]
            by_cases hc : first (num8 (bytesOf (r1.extract 0 (more m)))) = m
            · exact refU_more r r1 _ S _ m (more m) _ 0 w hr hr1 hT (Lib.hid hT2) i0 (fun _ => hm i0) hmn hTn hS1 (Lib.hid rfl) (Lib.hid (.inl ⟨rfl, by rw [hU2, if_pos hc], hf.2 hc⟩))
            · exact refU_more r r1 _ S _ m (more m) _ 4 w hr hr1 hT (Lib.hid hT2) i0 (fun _ => hm i0) hmn hTn hS1 (Lib.hid rfl) (Lib.hid (.inr ⟨rfl, by rw [hU2, if_neg hc], fun h => hc (hf.1 h)⟩))
  · exact refU_err r r e e w hr (Lib.hid (by unfold takeS; rw [if_pos he])) he (Lib.hid (by unfold uS; rw [if_pos he]))
end Go.Proofs.Ytfcfbecfamemlaa
