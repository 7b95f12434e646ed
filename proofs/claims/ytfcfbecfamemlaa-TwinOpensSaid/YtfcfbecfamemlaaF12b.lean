import Derived.Test.YtfcfbecfamemlaaF12
import Derived.Test.YtfcfbecfamemlaaL02b
import Derived.Test.YtfcfbecfamemlaaF02i
import Derived.WalkKit
import Derived.ProofKit
import Derived.LoopTactic
import Derived.Outline
import Derived.WalkSpells
import Derived.WalkLawsBesides
import Derived.Lib.Hide
import Derived.Deep.LoopGhost
import Derived.Deep.QuietTactic
import Derived.BigQuiet
import Derived.ShutString
import Derived.IntWalk
import Derived.Deep.RegionWith
import Derived.Deep.RegionHeld3
namespace Go.Proofs.Ytfcfbecfamemlaa
open Go.ChangeShapes Go.WideShapes Go.ChangeAt Go.RowKit
open Enc
set_option linter.unusedVariables false
set_option linter.unusedSimpArgs false
theorem uS_lt (r : ByteArray) (e : Nat) : (uS r e).2.2 < 18446744073709551616 := by
  have h1 := hd_lt r
  unfold uS
  split
  · exact (by decide : (0 : Nat) < 18446744073709551616)
  · split
    · exact (by decide : (0 : Nat) < 18446744073709551616)
    · unfold uR
      split
      · split
        · simp only; omega
        · exact (by decide : (0 : Nat) < 18446744073709551616)
      · split
        · exact (by decide : (0 : Nat) < 18446744073709551616)
        · split
          · have h2 := num8_lt (bytesOf ((r.extract 1 r.size).extract 0 (more (hd r))))
            have h3 : (bytesOf ((r.extract 1 r.size).extract 0 (more (hd r)))).length ≤ 8 := by
              rw [bytesOf_length]; have := more_le (hd r); simp; omega
            have h4 : (256 : Nat) ^ (bytesOf ((r.extract 1 r.size).extract 0 (more (hd r)))).length ≤ 256 ^ 8 := Nat.pow_le_pow_right (by decide) h3
            simp only
            omega
          · exact (by decide : (0 : Nat) < 18446744073709551616)
theorem openB_in (s : ByteArray) : (openB s).2.1.size ≤ s.size := by
  have h0 : (⟨#[]⟩ : ByteArray).size = 0 := rfl
  unfold openB
  split
  · simp only; omega
  · split
    · simp only; omega
    · split
      · simp only; omega
      · split
        · simp only; omega
        · split
          · simp only; omega
          · simp; omega
/-- What a file's content holds: the version (0: none), the text, and whether it is bad. -/
def inV (s : ByteArray) : Nat := (uS (openB s).2.1 0).2.2
def inT (s : ByteArray) : ByteArray := (sS (uS (openB s).2.1 0).1 (uS (openB s).2.1 0).2.1 1048576).2.2
def parseB (s : ByteArray) : Nat × ByteArray × Bool :=
  if s = ⟨#[]⟩ then (0, ⟨#[]⟩, false) else if inV s = 0 then (0, ⟨#[]⟩, true) else if spell (inV s) (inT s) = s then (inV s, inT s, false) else (0, ⟨#[]⟩, true)
theorem inT_le (s : ByteArray) : (inT s).size ≤ s.size := by
  have h1 := openB_in s
  have h2 := uS_le (openB s).2.1 0
  have h3 := (takeS_le (nS (uS (openB s).2.1 0).1 (uS (openB s).2.1 0).2.1 1048576).1 (nS (uS (openB s).2.1 0).1 (uS (openB s).2.1 0).2.1 1048576).2.1 (nS (uS (openB s).2.1 0).1 (uS (openB s).2.1 0).2.1 1048576).2.2).2
  have h4 := nS_le (uS (openB s).2.1 0).1 (uS (openB s).2.1 0).2.1 1048576
  unfold inT sS
  omega
def ParseIs (s : ByteArray) (w : World) (e : Ending) (w' : World) : Prop :=
  e = .returned (.tuple #[.agg #[.int .u64 ((parseB s).1 : Nat), .string (parseB s).2.1], .bool (parseB s).2.2]) ∧ Gr w w'
theorem parseIs_mk {s t : ByteArray} {v : Nat} {q : Bool} {w w' : World} (h : Hid (parseB s = (v, t, q))) (hg : Gr w w') : ParseIs s w (.returned (.tuple #[.agg #[.int .u64 (v : Nat), .string t], .bool q])) w' := ⟨by rw [h.out], hg⟩
theorem two_set {W : World} {b : Nat} {x y : Value} (a c : Value) (h0 : W.cell? ⟨b, 0, none⟩ = some x) (h1 : W.cell? ⟨b, 1, none⟩ = some y) :
    ((W.setCell ⟨b, 0, none⟩ a).setCell ⟨b, 1, none⟩ c).cell? ⟨b, 0, none⟩ = some a ∧ ((W.setCell ⟨b, 0, none⟩ a).setCell ⟨b, 1, none⟩ c).cell? ⟨b, 1, none⟩ = some c ∧ ∀ i, ((W.setCell ⟨b, 0, none⟩ a).setCell ⟨b, 1, none⟩ c).frozen? ⟨b, i, none⟩ = W.frozen? ⟨b, i, none⟩ := by
  refine ⟨?_, ?_, fun i => by rw [World.frozen?_setCell, World.frozen?_setCell]⟩
  · rw [World.cell?_setCell_other _ _ _ _ (by simp)]
    exact World.cell?_setCell_same' _ _ _ (by rw [h0]; rfl)
  · exact World.cell?_setCell_same' _ _ _ (by rw [World.cell?_setCell_other _ _ _ _ (by simp), h1]; rfl)
theorem gr_two {w W : World} {b : Nat} (h : Gr w W) (hb : w.heap.size = b) (a c : Value) : Gr w ((W.setCell ⟨b, 0, none⟩ a).setCell ⟨b, 1, none⟩ c) := (h.setCell (Nat.le_of_eq hb) _).setCell (Nat.le_of_eq hb) _
theorem empty_of {s : ByteArray} (h : s.size = 0) : s = ⟨#[]⟩ := ByteArray.ext (Array.size_eq_zero_iff.1 h)
set_option maxRecDepth 100000 in
set_option maxHeartbeats 1000000 in
theorem parse_any (s : ByteArray) (w : World) (hs : s.size ≤ 600000) : Calls Try.prog 72 #[.string s] w (ParseIs s w) := by
  have HS := Lib.hid hs
  by_cases he : s = ⟨#[]⟩
  · have E := Lib.hid (show parseB s = (0, ⟨#[]⟩, false) by unfold parseB; rw [if_pos he])
    have hq : s.toList.isEmpty = true := by rw [he]; decide +kernel
    clear he
    go_enter Try.func72, Try.ntmps72
    go_wp2
    refine bodyPost_ret (v := .tuple #[.agg #[.int .u64 0, .string ⟨#[]⟩], .bool false]) (by simp [results, Try.results72, go_sem]) rfl ?_
    exact parseIs_mk E ((Gr.refl _).alloc _)
  · have hq : s.toList.isEmpty = false := isEmpty_of (by
      rcases Nat.eq_zero_or_pos s.size with h | h
      · exact absurd (empty_of h) he
      · exact h)
    have OP := Lib.hid (fun w => open_any s w (by omega))
    have hin := openB_in s
    have HP := Lib.hid (show parseB s = if inV s = 0 then (0, ⟨#[]⟩, true) else if spell (inV s) (inT s) = s then (inV s, inT s, false) else (0, ⟨#[]⟩, true) by unfold parseB; rw [if_neg he])
    have hT := inT_le s
    have HV := Lib.hid (show inV s = (uS (openB s).2.1 0).2.2 from rfl)
    have HT := Lib.hid (show inT s = (sS (uS (openB s).2.1 0).1 (uS (openB s).2.1 0).2.1 1048576).2.2 from rfl)
    have hvl : inV s < 18446744073709551616 := uS_lt (openB s).2.1 0
    generalize inV s = v at *
    generalize inT s = t at *
    clear he
    go_enter Try.func72, Try.ntmps72
    go_wp2_with fail
    refine (OP.out _).mono ?_
    rintro e w2 ⟨rfl, hg2⟩
    have r0 : w2.cell? ⟨w.heap.size, 0, none⟩ = some (.int .u64 0) := hg2.own.1 0 _ rfl
    have r1 : w2.cell? ⟨w.heap.size, 1, none⟩ = some (.string ⟨#[]⟩) := hg2.own.1 1 _ rfl
    have x0 := hg2.own.2.1 0
    have x1 := hg2.own.2.1 1
    have hlt := hg2.own.2.2
    have HG2 := Lib.hid (((Gr.refl w).alloc _).trans hg2)
    generalize (openB s).2.1 = inn at *
    generalize (openB s).1 = kk at *
    generalize (openB s).2.2 = nn at *
    clear hg2
    have h9 : inn.size ≤ 9223372036854775807 := by omega
    go_wp2_with fail
    refine (read_any inn _ h9).mono ?_
    rintro e w3 ⟨rfl, hrd, hg3⟩
    replace r0 := hg3.cell r0
    replace r1 := hg3.cell r1
    replace x0 := (hg3.frozen hlt).trans x0
    replace x1 := (hg3.frozen hlt).trans x1
    have HG3 := Lib.hid (HG2.out.trans hg3)
    have hne : w.heap.size ≠ w2.heap.size := Nat.ne_of_lt hlt
    have HLE := Lib.hid (show w.heap.size ≤ w2.heap.size by omega)
    have hlt3 : w.heap.size < w3.heap.size := Nat.lt_of_lt_of_le hlt hg3.size
    generalize w2.heap.size = pr at *
    generalize hrb : w.heap.size = rb at *
    have HRB := Lib.hid hrb
    clear hg3 hrb
    go_wp2_with fail
    refine (rU_any pr inn 0 _ hrd).mono ?_
    rintro e w4 ⟨rfl, hr4, ho4⟩
    rw [← HV.out]
    clear HV
    replace r0 := ho4.cell hne r0
    replace r1 := ho4.cell hne r1
    have y0 := (World.frozen?_of_block (w := w3) (a := ⟨rb, 0, none⟩) (ho4.block rb hlt3 hne)).trans x0
    have y1 := (World.frozen?_of_block (w := w3) (a := ⟨rb, 1, none⟩) (ho4.block rb hlt3 hne)).trans x1
    have HG4 := Lib.hid (ho4.gr HG3.out (by rw [HRB.out]; exact HLE.out))
    have hlt4 := cell_lt r0
    clear x0 x1 ho4
    have hu := uS_le inn 0
    generalize (uS inn 0).1 = r at *
    generalize (uS inn 0).2.1 = re at *
    go_wp2_with fail
    refine (rS_any pr r re 1048576 (by decide) (by omega) _ hr4).mono ?_
    rintro e w5 ⟨rfl, hr5, ho5⟩
    rw [← HT.out]
    clear HT
    replace r0 := ho5.cell hne r0
    replace r1 := ho5.cell hne r1
    replace y0 := (World.frozen?_of_block (w := w4) (a := ⟨rb, 0, none⟩) (ho5.block rb hlt4 hne)).trans y0
    replace y1 := (World.frozen?_of_block (w := w4) (a := ⟨rb, 1, none⟩) (ho5.block rb hlt4 hne)).trans y1
    have HG5 := Lib.hid (ho5.gr HG4.out (by rw [HRB.out]; exact HLE.out))
    clear hr5 ho5 hr4 hrd
    by_cases hv0 : v = 0
    · subst hv0
      have E := Lib.hid (show parseB s = (0, ⟨#[]⟩, true) by rw [HP.out, if_pos rfl])
      clear HP
      go_wp2
      obtain ⟨d0, d1, df⟩ := two_set (.int .u64 0) (.string t) r0 r1
      have g6 := gr_two HG5.out HRB.out (.int .u64 0) (.string t)
      generalize (w5.setCell ⟨rb, 0, none⟩ (.int .u64 0)).setCell ⟨rb, 1, none⟩ (.string t) = w6 at *
      obtain ⟨c0, c1, cf⟩ := two_set (.int .u64 0) (.string ⟨#[]⟩) d0 d1
      have g7 := gr_two g6 HRB.out (.int .u64 0) (.string ⟨#[]⟩)
      generalize (w6.setCell ⟨rb, 0, none⟩ (.int .u64 0)).setCell ⟨rb, 1, none⟩ (.string ⟨#[]⟩) = w7 at *
      refine bodyPost_ret (v := .tuple #[.agg #[.int .u64 0, .string ⟨#[]⟩], .bool true]) (by simp [results, Try.results72, go_sem, c0, c1]; try rfl) rfl ?_
      exact parseIs_mk E g7
    · have t0 : ((v : Int) == 0) = false := by simp [hv0]
      have BY := Lib.hid (fun w => bytes_any v t w hvl (by omega))
      have hcmp := toList_beq (spell v t) s
      obtain ⟨d0, d1, df⟩ := two_set (.int .u64 (v : Nat)) (.string t) r0 r1
      have g6 := gr_two HG5.out HRB.out (.int .u64 (v : Nat)) (.string t)
      have z0 := (df 0).trans y0
      have z1 := (df 1).trans y1
      have hlt6 := cell_lt d0
      clear df
      by_cases hsp : spell v t = s
      · have E := Lib.hid (show parseB s = (v, t, false) by rw [HP.out, if_neg hv0, if_pos hsp])
        rw [decide_eq_true hsp] at hcmp
        clear HP hsp hv0
        generalize spell v t = z at *
        go_wp2_with fail
        generalize (w5.setCell ⟨rb, 0, none⟩ (.int .u64 (v : Nat))).setCell ⟨rb, 1, none⟩ (.string t) = w6 at *
        refine (BY.out _).mono ?_
        rintro e w7 ⟨rfl, hg7⟩
        replace d0 := hg7.cell d0
        replace d1 := hg7.cell d1
        replace z0 := (hg7.frozen hlt6).trans z0
        replace z1 := (hg7.frozen hlt6).trans z1
        have g7 := g6.trans hg7
        clear hg7 g6 r0 r1 y0 y1
        go_wp2
        obtain ⟨c0, c1, cf⟩ := two_set (.int .u64 (v : Nat)) (.string t) d0 d1
        have g8 := gr_two g7 HRB.out (.int .u64 (v : Nat)) (.string t)
        generalize (w7.setCell ⟨rb, 0, none⟩ (.int .u64 (v : Nat))).setCell ⟨rb, 1, none⟩ (.string t) = w8 at *
        refine bodyPost_ret (v := .tuple #[.agg #[.int .u64 (v : Nat), .string t], .bool false]) (by simp [results, Try.results72, go_sem, c0, c1]; try rfl) rfl ?_
        exact parseIs_mk E g8
      · have E := Lib.hid (show parseB s = (0, ⟨#[]⟩, true) by rw [HP.out, if_neg hv0, if_neg hsp])
        rw [decide_eq_false hsp] at hcmp
        clear HP hsp hv0
        generalize spell v t = z at *
        go_wp2_with fail
        generalize (w5.setCell ⟨rb, 0, none⟩ (.int .u64 (v : Nat))).setCell ⟨rb, 1, none⟩ (.string t) = w6 at *
        refine (BY.out _).mono ?_
        rintro e w7 ⟨rfl, hg7⟩
        replace d0 := hg7.cell d0
        replace d1 := hg7.cell d1
        replace z0 := (hg7.frozen hlt6).trans z0
        replace z1 := (hg7.frozen hlt6).trans z1
        have g7 := g6.trans hg7
        clear hg7 g6 r0 r1 y0 y1
        go_wp2
        obtain ⟨c0, c1, cf⟩ := two_set (.int .u64 0) (.string ⟨#[]⟩) d0 d1
        have g8 := gr_two g7 HRB.out (.int .u64 0) (.string ⟨#[]⟩)
        generalize (w7.setCell ⟨rb, 0, none⟩ (.int .u64 0)).setCell ⟨rb, 1, none⟩ (.string ⟨#[]⟩) = w8 at *
        refine bodyPost_ret (v := .tuple #[.agg #[.int .u64 0, .string ⟨#[]⟩], .bool true]) (by simp [results, Try.results72, go_sem, c0, c1]; try rfl) rfl ?_
        exact parseIs_mk E g8
end Go.Proofs.Ytfcfbecfamemlaa
