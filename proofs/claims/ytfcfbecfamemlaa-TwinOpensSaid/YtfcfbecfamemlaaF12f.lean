import Derived.Test.YtfcfbecfamemlaaF12e
import Derived.WalkKit
import Derived.ProofKit
import Derived.LoopTactic
import Derived.Outline
import Derived.WalkSpells
import Derived.WalkLawsBesides
import Derived.Lib.Hide
import Derived.Deep.LoopGhost
import Derived.Deep.QuietTactic
import Derived.BigQuiet
import Derived.ShutString
import Derived.IntWalk
import Derived.Lib.MinMax
import Derived.BigQuiet
import Derived.Deep.RegionWith
import Derived.Deep.RegionHeld3
namespace Go.Proofs.Ytfcfbecfamemlaa
open Go.ChangeShapes Go.WideShapes Go.ChangeAt Go.RowKit
open Dk
set_option linter.unusedVariables false
set_option linter.unusedSimpArgs false
theorem Sole.fresh {p c o : Nat} {w w' : World} (h : Sole p w w') (hc : w.heap.size ≤ c) (v : Value) : Sole p w (w'.setCell ⟨c, o, none⟩ v) :=
  ⟨h.os, h.tape, h.output, by simp [World.setCell]; exact h.size, fun k hk hp => (Below.heap_setCell _ _ _ _ (show k ≠ c by omega)).trans (h.block k hk hp)⟩
/-- What Open does: the disk, the error's number, the version, the text. -/
def finish (r : D × Nat) (v : Nat) (t : ByteArray) : D × Nat × Nat × ByteArray := if r.2 = 0 then (r.1, 0, v, t) else (r.1, r.2, 0, ⟨#[]⟩)
def openM (Q : D) (f g : Nat) : D × Nat × Nat × ByteArray :=
  if (parseB (Q.fs g).now).2.2 = true ∧ (parseB (Q.fs f).now).1 = 0 then (Q, 7, 0, ⟨#[]⟩)
  else if (parseB (Q.fs f).now).1 < (parseB (Q.fs g).now).1 then
    finish (rest2 Q g f (decide ((parseB (Q.fs f).now).1 = (parseB (Q.fs g).now).1 ∧ (parseB (Q.fs f).now).2.1 = (parseB (Q.fs g).now).2.1)) (spell (parseB (Q.fs g).now).1 (parseB (Q.fs g).now).2.1)) (parseB (Q.fs g).now).1 (parseB (Q.fs g).now).2.1
  else if (parseB (Q.fs f).now).1 = 0 then (Q, 0, 0, ⟨#[]⟩)
  else finish (rest2 Q f g (decide ((parseB (Q.fs f).now).1 = (parseB (Q.fs g).now).1 ∧ (parseB (Q.fs f).now).2.1 = (parseB (Q.fs g).now).2.1)) (spell (parseB (Q.fs f).now).1 (parseB (Q.fs f).now).2.1)) (parseB (Q.fs f).now).1 (parseB (Q.fs f).now).2.1
def OpIs (d f g : Nat) (Q : D) (w : World) (e : Ending) (w' : World) : Prop :=
  DkIs w' d (openM Q f g).1 ∧ Sole d w w' ∧ (((openM Q f g).2.1 = 0 ∧ ∃ c, e = .returned (.tuple #[.pointer (some ⟨c, 0, none⟩), .string (openM Q f g).2.2.2, .int .i64 0]) ∧ w.heap.size ≤ c ∧ ClIs w' c d f (openM Q f g).2.2.1) ∨
    ((openM Q f g).2.1 ≠ 0 ∧ e = .returned (.tuple #[.pointer none, .string ⟨#[]⟩, .int .i64 ((openM Q f g).2.1 : Nat)])))
theorem opIs_no {d f g q v : Nat} {t : ByteArray} {Q Q1 : D} {w w' : World} (h : openM Q f g = (Q1, q, v, t)) (hq : q ≠ 0) (hd : DkIs w' d Q1) (hs : Sole d w w') : OpIs d f g Q w (.returned (.tuple #[.pointer none, .string ⟨#[]⟩, .int .i64 (q : Nat)])) w' := by
  unfold OpIs; rw [h]; exact ⟨hd, hs, .inr ⟨hq, rfl⟩⟩
theorem opIs_yes {d f g v c : Nat} {t : ByteArray} {Q Q1 : D} {w w' : World} (h : openM Q f g = (Q1, 0, v, t)) (hd : DkIs w' d Q1) (hs : Sole d w w') (hw : w.heap.size ≤ c) (hc : ClIs w' c d f v) : OpIs d f g Q w (.returned (.tuple #[.pointer (some ⟨c, 0, none⟩), .string t, .int .i64 0])) w' := by
  unfold OpIs; rw [h]; exact ⟨hd, hs, .inl ⟨rfl, c, rfl, hw, hc⟩⟩
theorem finish_no {r : D × Nat} {Q1 : D} {q v : Nat} {t : ByteArray} (h : r = (Q1, q)) (hq : q ≠ 0) : finish r v t = (Q1, q, 0, ⟨#[]⟩) := by subst h; unfold finish; rw [if_neg hq]
theorem finish_yes {r : D × Nat} {Q1 : D} {v : Nat} {t : ByteArray} (h : r = (Q1, 0)) : finish r v t = (Q1, 0, v, t) := by subst h; unfold finish; rw [if_pos rfl]
theorem parse_zero (s : ByteArray) (h : (parseB s).1 = 0) : (parseB s).2.1 = ⟨#[]⟩ := by
  unfold parseB at *
  split
  · rfl
  · rename_i h1
    rw [if_neg h1] at h
    split
    · rfl
    · rename_i h2
      rw [if_neg h2] at h
      split
      · rename_i h3
        rw [if_pos h3] at h
        exact absurd h h2
      · rfl
theorem parse_lt (s : ByteArray) : (parseB s).1 < 18446744073709551616 ∧ (parseB s).2.1.size ≤ s.size := by
  have h0 : inV s < 18446744073709551616 := uS_lt _ _
  have h1 := inT_le s
  have h2 : (⟨#[]⟩ : ByteArray).size = 0 := rfl
  unfold parseB
  split
  · exact ⟨(by decide : (0 : Nat) < 18446744073709551616), by simp only; omega⟩
  · split
    · exact ⟨(by decide : (0 : Nat) < 18446744073709551616), by simp only; omega⟩
    · split
      · exact ⟨h0, h1⟩
      · exact ⟨(by decide : (0 : Nat) < 18446744073709551616), by simp only; omega⟩
set_option maxRecDepth 100000 in
theorem open_out (d : Nat) (f : Int) (hf : f < 0 ∨ 2 < f) (w : World) : Calls Try.prog 25 #[.pointer (some ⟨d, 0, none⟩), .int .i64 f] w fun e w' => e = .returned (.tuple #[.pointer none, .string ⟨#[]⟩, .int .i64 1]) ∧ Gr w w' := by
  rcases hf with hf | hf
  · go_enter Try.func25, Try.ntmps25
    go_wp2
    go_ret3
    exact ⟨rfl, Gr.refl _⟩
  · go_enter Try.func25, Try.ntmps25
    go_wp2
    go_ret3
    exact ⟨rfl, Gr.refl _⟩
set_option maxRecDepth 100000 in
set_option maxHeartbeats 1000000 in
theorem open_any12 {d f g : Nat} {Q : D} (w : World) (h : DkIs w d Q) (hfg : f + 1 = g) (hg : g < 4) (hz0 : (Q.fs f).now.size ≤ 600000) (hz1 : (Q.fs g).now.size ≤ 600000) :
    Calls Try.prog 25 #[.pointer (some ⟨d, 0, none⟩), .int .i64 (f : Nat)] w (OpIs d f g Q w) := by
  have hf2 : (f : Int) ≤ 2 := by omega
  have R0 := Lib.hid (fun w c (h : DkIs w d Q) (hc : ClIs w c d f 0) => cread_any 0 f w h hc rfl (by omega) hz0)
  have R1 := Lib.hid (fun w c (h : DkIs w d Q) (hc : ClIs w c d f 0) => cread_any 1 g w h hc hfg hg hz1)
  obtain ⟨M, hM⟩ : ∃ M, openM Q f g = M := ⟨_, rfl⟩
  have HMM := Lib.hid hM
  unfold openM at hM
  have HM := Lib.hid hM
  clear hM
  have HZ0 := Lib.hid (parse_zero (Q.fs f).now)
  have HL0 := Lib.hid (parse_lt (Q.fs f).now)
  have HL1 := Lib.hid (parse_lt (Q.fs g).now)
  have HSZ := Lib.hid (And.intro hz0 hz1)
  obtain ⟨v0, t0, b0, hp0⟩ : ∃ v0 t0 b0, parseB (Q.fs f).now = (v0, t0, b0) := ⟨_, _, _, rfl⟩
  obtain ⟨v1, t1, b1, hp1⟩ : ∃ v1 t1 b1, parseB (Q.fs g).now = (v1, t1, b1) := ⟨_, _, _, rfl⟩
  unfold ReadIs12 ParseIs at R0 R1
  rw [hp0] at R0 HZ0 HL0
  rw [hp1] at R1 HL1
  rw [hp0, hp1] at HM
  simp only at R0 R1 HM HZ0 HL0 HL1
  clear hp0 hp1 hz0 hz1
  have HD := Lib.hid h
  have hdl := cell_lt h.room
  have HFG := Lib.hid (And.intro hfg hg)
  clear h hfg hg
  go_enter Try.func25, Try.ntmps25
  go_wp2_with fail
  have gz := (Gr.refl w).alloc (.cells #[.pointer (some ⟨d, 0, none⟩), .int .i64 (f : Nat), .int .u64 0] 104)
  have HC1 : Hid (ClIs (w.alloc (.cells #[.pointer (some ⟨d, 0, none⟩), .int .i64 (f : Nat), .int .u64 0] 104)) w.heap.size d f 0) := Lib.hid ⟨new_cell rfl rfl, new_cell rfl rfl, new_cell rfl rfl, new_free rfl, by omega⟩
  have HG1 := Lib.hid gz
  have HD1 := Lib.hid (HD.out.gr gz)
  generalize w.alloc (.cells #[.pointer (some ⟨d, 0, none⟩), .int .i64 (f : Nat), .int .u64 0] 104) = w1 at *
  have hcw : w.heap.size ≤ w.heap.size := Nat.le_refl _
  generalize hcc : w.heap.size = c at *
  have HCC := Lib.hid hcc
  clear gz hcc hcw
  refine (R0.out _ c HD1.out HC1.out).mono ?_
  rintro e w2 ⟨rfl, hg2⟩
  have HG2 := Lib.hid (HG1.out.trans hg2)
  have HD2 := Lib.hid (HD1.out.gr hg2)
  have HC2 := Lib.hid (HC1.out.gr hg2)
  clear hg2
  go_wp2_with fail
  have gz := (Gr.refl w2).alloc (.cells #[.int .u64 (v0 : Nat), .string t0] 106)
  have a0 : (w2.alloc (.cells #[.int .u64 (v0 : Nat), .string t0] 106)).cell? ⟨w2.heap.size, 0, none⟩ = some (.int .u64 (v0 : Nat)) := new_cell rfl rfl
  have a1 : (w2.alloc (.cells #[.int .u64 (v0 : Nat), .string t0] 106)).cell? ⟨w2.heap.size, 1, none⟩ = some (.string t0) := new_cell rfl rfl
  have HG3 := Lib.hid (HG2.out.trans gz)
  have HD3 := Lib.hid (HD2.out.gr gz)
  have HC3 := Lib.hid (HC2.out.gr gz)
  clear gz
  generalize w2.alloc (.cells #[.int .u64 (v0 : Nat), .string t0] 106) = w3 at *
  generalize w2.heap.size = ab at *
  refine (R1.out _ c HD3.out HC3.out).mono ?_
  rintro e w4 ⟨rfl, hg4⟩
  replace a0 := hg4.cell a0
  replace a1 := hg4.cell a1
  have HG4 := Lib.hid (HG3.out.trans hg4)
  have HD4 := Lib.hid (HD3.out.gr hg4)
  have HC4 := Lib.hid (HC3.out.gr hg4)
  have hab := cell_lt a0
  have hab2 : ab ≠ w4.heap.size := Nat.ne_of_lt hab
  clear hg4
  by_cases hcor : b1 = true ∧ v0 = 0
  · obtain ⟨rfl, rfl⟩ := hcor
    have E := Lib.hid (show openM Q f g = (Q, 7, 0, ⟨#[]⟩) by rw [HMM.out, ← HM.out, if_pos ⟨rfl, rfl⟩])
    clear HM
    go_wp2
    go_ret3
    exact opIs_no E.out (by decide) (HD4.out.gr ((Gr.refl _).alloc _)) (Sole.of_gr (HG4.out.trans ((Gr.refl _).alloc _)))
  · rw [if_neg hcor] at HM
    have hb1 : b1 = false ∨ (b1 = true ∧ v0 ≠ 0) := by cases b1 <;> simp_all
    clear hcor
    by_cases hlt : v0 < v1
    · rw [if_pos hlt] at HM
      have c1 : decide ((v1 : Int) > (v0 : Int)) = true := decide_eq_true (by omega)
      have c2 : (v0 : Int) < (v1 : Int) := by omega
      rcases hb1 with rfl | ⟨rfl, hv⟩
      · skip
        go_wp2_with fail
        have gz := ((Gr.refl w4).alloc (.cells #[.int .u64 (v1 : Nat), .string t1] 106)).alloc (.cells #[.int .u64 (v0 : Nat), .string t0, .int .u64 (v1 : Nat), .string t1] 109)
        have hsz : (w4.alloc (.cells #[.int .u64 (v1 : Nat), .string t1] 106)).heap.size = w4.heap.size + 1 := by simp
        have y0 := new_cell (w := w4.alloc (.cells #[.int .u64 (v1 : Nat), .string t1] 106)) (c := #[.int .u64 (v0 : Nat), .string t0, .int .u64 (v1 : Nat), .string t1]) (t := 109) (n := w4.heap.size + 1) (i := 2) hsz.symm rfl
        have y1 := new_cell (w := w4.alloc (.cells #[.int .u64 (v1 : Nat), .string t1] 106)) (c := #[.int .u64 (v0 : Nat), .string t0, .int .u64 (v1 : Nat), .string t1]) (t := 109) (n := w4.heap.size + 1) (i := 3) hsz.symm rfl
        replace y0 : ((w4.alloc (.cells #[.int .u64 (v1 : Nat), .string t1] 106)).alloc (.cells #[.int .u64 (v0 : Nat), .string t0, .int .u64 (v1 : Nat), .string t1] 109)).cell? ⟨w4.heap.size + 1, 2, none⟩ = some (.int .u64 (v1 : Nat)) := y0
        replace y1 : ((w4.alloc (.cells #[.int .u64 (v1 : Nat), .string t1] 106)).alloc (.cells #[.int .u64 (v0 : Nat), .string t0, .int .u64 (v1 : Nat), .string t1] 109)).cell? ⟨w4.heap.size + 1, 3, none⟩ = some (.string t1) := y1
        have HDX := Lib.hid (HD4.out.gr gz)
        have HCX := Lib.hid (HC4.out.gr gz)
        have HGX := Lib.hid (HG4.out.trans gz)
        have hxd : w4.heap.size + 1 ≠ d := by have := cell_lt HD4.out.room; omega
        have hxc : w4.heap.size + 1 ≠ c := by have := cell_lt HC4.out.k0; omega
        clear gz hsz a0 a1 hab hab2
        generalize (w4.alloc (.cells #[.int .u64 (v1 : Nat), .string t1] 106)).alloc (.cells #[.int .u64 (v0 : Nat), .string t0, .int .u64 (v1 : Nat), .string t1] 109) = wx at *
        generalize w4.heap.size + 1 = hx at *
        obtain ⟨Q1, q, hrq⟩ : ∃ Q1 q, rest2 Q g f (decide (v0 = v1 ∧ t0 = t1)) (spell v1 t1) = (Q1, q) := ⟨_, _, rfl⟩
        have RQ := Lib.hid (restore1 (decide (v0 = v1 ∧ t0 = t1)) wx HDX.out HCX.out HFG.out.1 HFG.out.2 (by omega) HL1.out.1 (by have := HL1.out.2; have := HSZ.out; omega) rfl)
        unfold RestIs at RQ
        rw [hrq] at RQ
        have HRQ := Lib.hid hrq
        clear hrq
        refine RQ.out.mono ?_
        rintro e w5 ⟨rfl, hd5, hs5⟩
        have HD5 := Lib.hid hd5
        have HC5 := Lib.hid (HCX.out.sole hs5 HC1.out.ne)
        replace y0 := hs5.cell hxd y0
        replace y1 := hs5.cell hxd y1
        have HS5 := Lib.hid ((Sole.of_gr (p := d) HGX.out).trans hs5)
        clear hd5 hs5
        by_cases hq0 : q = 0
        · subst hq0
          have E := Lib.hid (show openM Q f g = (Q1, 0, v1, t1) by rw [HMM.out, ← HM.out]; exact finish_yes HRQ.out)
          have k2 := HC5.out.k2
          have fr := HC5.out.fr
          have HC6 := Lib.hid (HC5.out.set v1)
          have HD6 := Lib.hid (HD5.out.sole (Sole.setCell c 2 _ (.int .u64 (v1 : Nat))) HC1.out.ne.symm)
          have HS6 := Lib.hid (HS5.out.fresh (c := c) (o := 2) (by rw [HCC.out]; exact Nat.le_refl _) (.int .u64 (v1 : Nat)))
          have z1 : (w5.setCell ⟨c, 2, none⟩ (.int .u64 (v1 : Nat))).cell? ⟨hx, 3, none⟩ = some (.string t1) := (World.cell?_setCell_other _ _ _ _ (by simp [hxc])).trans y1
          go_wp2
          generalize w5.setCell ⟨c, 2, none⟩ (.int .u64 (v1 : Nat)) = w6 at *
          go_region
          go_wp2
          go_ret3
          exact opIs_yes E.out (HD6.out.gr (Gr.refl _).drew) (HS6.out.trans (Sole.of_gr (Gr.refl _).drew)) (by rw [HCC.out]; exact Nat.le_refl _) (HC6.out.gr (Gr.refl _).drew)
        · have t9 : ((q : Int) != 0) = true := by simp [hq0]
          have E := Lib.hid (show openM Q f g = (Q1, q, 0, ⟨#[]⟩) by rw [HMM.out, ← HM.out]; exact finish_no HRQ.out hq0)
          have HQ0 := Lib.hid hq0
          clear hq0
          go_wp2
          go_ret3
          exact opIs_no E.out HQ0.out HD5.out HS5.out
      · have c3 : ((v0 : Int) == 0) = false := by simp [hv]
        go_wp2_with fail
        have gz := ((Gr.refl w4).alloc (.cells #[.int .u64 (v1 : Nat), .string t1] 106)).alloc (.cells #[.int .u64 (v0 : Nat), .string t0, .int .u64 (v1 : Nat), .string t1] 109)
        have hsz : (w4.alloc (.cells #[.int .u64 (v1 : Nat), .string t1] 106)).heap.size = w4.heap.size + 1 := by simp
        have y0 := new_cell (w := w4.alloc (.cells #[.int .u64 (v1 : Nat), .string t1] 106)) (c := #[.int .u64 (v0 : Nat), .string t0, .int .u64 (v1 : Nat), .string t1]) (t := 109) (n := w4.heap.size + 1) (i := 2) hsz.symm rfl
        have y1 := new_cell (w := w4.alloc (.cells #[.int .u64 (v1 : Nat), .string t1] 106)) (c := #[.int .u64 (v0 : Nat), .string t0, .int .u64 (v1 : Nat), .string t1]) (t := 109) (n := w4.heap.size + 1) (i := 3) hsz.symm rfl
        replace y0 : ((w4.alloc (.cells #[.int .u64 (v1 : Nat), .string t1] 106)).alloc (.cells #[.int .u64 (v0 : Nat), .string t0, .int .u64 (v1 : Nat), .string t1] 109)).cell? ⟨w4.heap.size + 1, 2, none⟩ = some (.int .u64 (v1 : Nat)) := y0
        replace y1 : ((w4.alloc (.cells #[.int .u64 (v1 : Nat), .string t1] 106)).alloc (.cells #[.int .u64 (v0 : Nat), .string t0, .int .u64 (v1 : Nat), .string t1] 109)).cell? ⟨w4.heap.size + 1, 3, none⟩ = some (.string t1) := y1
        have HDX := Lib.hid (HD4.out.gr gz)
        have HCX := Lib.hid (HC4.out.gr gz)
        have HGX := Lib.hid (HG4.out.trans gz)
        have hxd : w4.heap.size + 1 ≠ d := by have := cell_lt HD4.out.room; omega
        have hxc : w4.heap.size + 1 ≠ c := by have := cell_lt HC4.out.k0; omega
        clear gz hsz a0 a1 hab hab2
        generalize (w4.alloc (.cells #[.int .u64 (v1 : Nat), .string t1] 106)).alloc (.cells #[.int .u64 (v0 : Nat), .string t0, .int .u64 (v1 : Nat), .string t1] 109) = wx at *
        generalize w4.heap.size + 1 = hx at *
        obtain ⟨Q1, q, hrq⟩ : ∃ Q1 q, rest2 Q g f (decide (v0 = v1 ∧ t0 = t1)) (spell v1 t1) = (Q1, q) := ⟨_, _, rfl⟩
        have RQ := Lib.hid (restore1 (decide (v0 = v1 ∧ t0 = t1)) wx HDX.out HCX.out HFG.out.1 HFG.out.2 (by omega) HL1.out.1 (by have := HL1.out.2; have := HSZ.out; omega) rfl)
        unfold RestIs at RQ
        rw [hrq] at RQ
        have HRQ := Lib.hid hrq
        clear hrq
        refine RQ.out.mono ?_
        rintro e w5 ⟨rfl, hd5, hs5⟩
        have HD5 := Lib.hid hd5
        have HC5 := Lib.hid (HCX.out.sole hs5 HC1.out.ne)
        replace y0 := hs5.cell hxd y0
        replace y1 := hs5.cell hxd y1
        have HS5 := Lib.hid ((Sole.of_gr (p := d) HGX.out).trans hs5)
        clear hd5 hs5
        by_cases hq0 : q = 0
        · subst hq0
          have E := Lib.hid (show openM Q f g = (Q1, 0, v1, t1) by rw [HMM.out, ← HM.out]; exact finish_yes HRQ.out)
          have k2 := HC5.out.k2
          have fr := HC5.out.fr
          have HC6 := Lib.hid (HC5.out.set v1)
          have HD6 := Lib.hid (HD5.out.sole (Sole.setCell c 2 _ (.int .u64 (v1 : Nat))) HC1.out.ne.symm)
          have HS6 := Lib.hid (HS5.out.fresh (c := c) (o := 2) (by rw [HCC.out]; exact Nat.le_refl _) (.int .u64 (v1 : Nat)))
          have z1 : (w5.setCell ⟨c, 2, none⟩ (.int .u64 (v1 : Nat))).cell? ⟨hx, 3, none⟩ = some (.string t1) := (World.cell?_setCell_other _ _ _ _ (by simp [hxc])).trans y1
          go_wp2
          generalize w5.setCell ⟨c, 2, none⟩ (.int .u64 (v1 : Nat)) = w6 at *
          go_region
          go_wp2
          go_ret3
          exact opIs_yes E.out (HD6.out.gr (Gr.refl _).drew) (HS6.out.trans (Sole.of_gr (Gr.refl _).drew)) (by rw [HCC.out]; exact Nat.le_refl _) (HC6.out.gr (Gr.refl _).drew)
        · have t9 : ((q : Int) != 0) = true := by simp [hq0]
          have E := Lib.hid (show openM Q f g = (Q1, q, 0, ⟨#[]⟩) by rw [HMM.out, ← HM.out]; exact finish_no HRQ.out hq0)
          have HQ0 := Lib.hid hq0
          clear hq0
          go_wp2
          go_ret3
          exact opIs_no E.out HQ0.out HD5.out HS5.out
    · rw [if_neg hlt] at HM
      have c2 : (v1 : Int) ≤ (v0 : Int) := by omega
      by_cases h00 : v0 = 0
      · rw [if_pos h00] at HM
        obtain rfl : b1 = false := by rcases hb1 with h | h; exact h; exact absurd h00 h.2
        have E := Lib.hid (show openM Q f g = (Q, 0, 0, ⟨#[]⟩) by rw [HMM.out, ← HM.out])
        obtain rfl : t0 = ⟨#[]⟩ := HZ0.out h00
        obtain rfl : v1 = 0 := by omega
        subst h00
        clear hb1 hlt
        go_wp2_with fail
        have gz := ((Gr.refl w4).alloc (.cells #[.int .u64 0, .string t1] 106)).alloc (.cells #[.int .u64 0, .string ⟨#[]⟩, .int .u64 0, .string t1] 109)
        have hsz : (w4.alloc (.cells #[.int .u64 0, .string t1] 106)).heap.size = w4.heap.size + 1 := by simp
        have y0 : ((w4.alloc (.cells #[.int .u64 0, .string t1] 106)).alloc (.cells #[.int .u64 0, .string ⟨#[]⟩, .int .u64 0, .string t1] 109)).cell? ⟨w4.heap.size + 1, 0, none⟩ = some (.int .u64 0) := new_cell hsz.symm rfl
        have y1 : ((w4.alloc (.cells #[.int .u64 0, .string t1] 106)).alloc (.cells #[.int .u64 0, .string ⟨#[]⟩, .int .u64 0, .string t1] 109)).cell? ⟨w4.heap.size + 1, 1, none⟩ = some (.string ⟨#[]⟩) := new_cell hsz.symm rfl
        have HDX := Lib.hid (HD4.out.gr gz)
        have HCX := Lib.hid (HC4.out.gr gz)
        have HGX := Lib.hid (HG4.out.trans gz)
        have hxd : w4.heap.size + 1 ≠ c := by have := cell_lt HC4.out.k0; omega
        clear gz hsz a0 a1 hab hab2
        generalize (w4.alloc (.cells #[.int .u64 0, .string t1] 106)).alloc (.cells #[.int .u64 0, .string ⟨#[]⟩, .int .u64 0, .string t1] 109) = wx at *
        generalize w4.heap.size + 1 = hx at *
        refine (restore_none (v1 := 0) _).mono ?_
        rintro e w5 ⟨rfl, hg5⟩
        have HD5 := Lib.hid (HDX.out.gr hg5)
        have HC5 := Lib.hid (HCX.out.gr hg5)
        replace y0 := hg5.cell y0
        replace y1 := hg5.cell y1
        have HS5 := Lib.hid (Sole.of_gr (p := d) (HGX.out.trans hg5))
        clear hg5
        have k2 := HC5.out.k2
        have fr := HC5.out.fr
        have HC6 := Lib.hid (HC5.out.set 0)
        have HD6 := Lib.hid (HD5.out.sole (Sole.setCell c 2 _ (.int .u64 0)) HC1.out.ne.symm)
        have HS6 := Lib.hid (HS5.out.fresh (c := c) (o := 2) (by rw [HCC.out]; exact Nat.le_refl _) (.int .u64 0))
        have z1 : (w5.setCell ⟨c, 2, none⟩ (.int .u64 0)).cell? ⟨hx, 1, none⟩ = some (.string ⟨#[]⟩) := (World.cell?_setCell_other _ _ _ _ (by simp [hxd])).trans y1
        go_wp2
        replace HC6 : Hid (ClIs (w5.setCell ⟨c, 2, none⟩ (.int .u64 0)) c d f 0) := HC6
        generalize w5.setCell ⟨c, 2, none⟩ (.int .u64 0) = w6 at *
        go_region
        go_wp2
        go_ret3
        exact opIs_yes E.out (HD6.out.gr (Gr.refl _).drew) (HS6.out.trans (Sole.of_gr (Gr.refl _).drew)) (by rw [HCC.out]; exact Nat.le_refl _) (HC6.out.gr (Gr.refl _).drew)
      · rw [if_neg h00] at HM
        have c3 : ((v0 : Int) == 0) = false := by simp [h00]
        rcases hb1 with rfl | ⟨rfl, hv⟩
        · skip
          go_wp2_with fail
          have gz := ((Gr.refl w4).alloc (.cells #[.int .u64 (v1 : Nat), .string t1] 106)).alloc (.cells #[.int .u64 (v0 : Nat), .string t0, .int .u64 (v1 : Nat), .string t1] 109)
          have hsz : (w4.alloc (.cells #[.int .u64 (v1 : Nat), .string t1] 106)).heap.size = w4.heap.size + 1 := by simp
          have y0 := new_cell (w := w4.alloc (.cells #[.int .u64 (v1 : Nat), .string t1] 106)) (c := #[.int .u64 (v0 : Nat), .string t0, .int .u64 (v1 : Nat), .string t1]) (t := 109) (n := w4.heap.size + 1) (i := 0) hsz.symm rfl
          have y1 := new_cell (w := w4.alloc (.cells #[.int .u64 (v1 : Nat), .string t1] 106)) (c := #[.int .u64 (v0 : Nat), .string t0, .int .u64 (v1 : Nat), .string t1]) (t := 109) (n := w4.heap.size + 1) (i := 1) hsz.symm rfl
          replace y0 : ((w4.alloc (.cells #[.int .u64 (v1 : Nat), .string t1] 106)).alloc (.cells #[.int .u64 (v0 : Nat), .string t0, .int .u64 (v1 : Nat), .string t1] 109)).cell? ⟨w4.heap.size + 1, 0, none⟩ = some (.int .u64 (v0 : Nat)) := y0
          replace y1 : ((w4.alloc (.cells #[.int .u64 (v1 : Nat), .string t1] 106)).alloc (.cells #[.int .u64 (v0 : Nat), .string t0, .int .u64 (v1 : Nat), .string t1] 109)).cell? ⟨w4.heap.size + 1, 1, none⟩ = some (.string t0) := y1
          have HDX := Lib.hid (HD4.out.gr gz)
          have HCX := Lib.hid (HC4.out.gr gz)
          have HGX := Lib.hid (HG4.out.trans gz)
          have hxd : w4.heap.size + 1 ≠ d := by have := cell_lt HD4.out.room; omega
          have hxc : w4.heap.size + 1 ≠ c := by have := cell_lt HC4.out.k0; omega
          clear gz hsz a0 a1 hab hab2
          generalize (w4.alloc (.cells #[.int .u64 (v1 : Nat), .string t1] 106)).alloc (.cells #[.int .u64 (v0 : Nat), .string t0, .int .u64 (v1 : Nat), .string t1] 109) = wx at *
          generalize w4.heap.size + 1 = hx at *
          obtain ⟨Q1, q, hrq⟩ : ∃ Q1 q, rest2 Q f g (decide (v0 = v1 ∧ t0 = t1)) (spell v0 t0) = (Q1, q) := ⟨_, _, rfl⟩
          have RQ := Lib.hid (restore0 (decide (v0 = v1 ∧ t0 = t1)) wx HDX.out HCX.out HFG.out.1 HFG.out.2 (by omega) HL0.out.1 (by have := HL0.out.2; have := HSZ.out; omega) rfl)
          unfold RestIs at RQ
          rw [hrq] at RQ
          have HRQ := Lib.hid hrq
          clear hrq
          refine RQ.out.mono ?_
          rintro e w5 ⟨rfl, hd5, hs5⟩
          have HD5 := Lib.hid hd5
          have HC5 := Lib.hid (HCX.out.sole hs5 HC1.out.ne)
          replace y0 := hs5.cell hxd y0
          replace y1 := hs5.cell hxd y1
          have HS5 := Lib.hid ((Sole.of_gr (p := d) HGX.out).trans hs5)
          clear hd5 hs5
          by_cases hq0 : q = 0
          · subst hq0
            have E := Lib.hid (show openM Q f g = (Q1, 0, v0, t0) by rw [HMM.out, ← HM.out]; exact finish_yes HRQ.out)
            have k2 := HC5.out.k2
            have fr := HC5.out.fr
            have HC6 := Lib.hid (HC5.out.set v0)
            have HD6 := Lib.hid (HD5.out.sole (Sole.setCell c 2 _ (.int .u64 (v0 : Nat))) HC1.out.ne.symm)
            have HS6 := Lib.hid (HS5.out.fresh (c := c) (o := 2) (by rw [HCC.out]; exact Nat.le_refl _) (.int .u64 (v0 : Nat)))
            have z1 : (w5.setCell ⟨c, 2, none⟩ (.int .u64 (v0 : Nat))).cell? ⟨hx, 1, none⟩ = some (.string t0) := (World.cell?_setCell_other _ _ _ _ (by simp [hxc])).trans y1
            go_wp2
            generalize w5.setCell ⟨c, 2, none⟩ (.int .u64 (v0 : Nat)) = w6 at *
            go_region
            go_wp2
            go_ret3
            exact opIs_yes E.out (HD6.out.gr (Gr.refl _).drew) (HS6.out.trans (Sole.of_gr (Gr.refl _).drew)) (by rw [HCC.out]; exact Nat.le_refl _) (HC6.out.gr (Gr.refl _).drew)
          · have t9 : ((q : Int) != 0) = true := by simp [hq0]
            have E := Lib.hid (show openM Q f g = (Q1, q, 0, ⟨#[]⟩) by rw [HMM.out, ← HM.out]; exact finish_no HRQ.out hq0)
            have HQ0 := Lib.hid hq0
            clear hq0
            go_wp2
            go_ret3
            exact opIs_no E.out HQ0.out HD5.out HS5.out
        · skip
          go_wp2_with fail
          have gz := ((Gr.refl w4).alloc (.cells #[.int .u64 (v1 : Nat), .string t1] 106)).alloc (.cells #[.int .u64 (v0 : Nat), .string t0, .int .u64 (v1 : Nat), .string t1] 109)
          have hsz : (w4.alloc (.cells #[.int .u64 (v1 : Nat), .string t1] 106)).heap.size = w4.heap.size + 1 := by simp
          have y0 := new_cell (w := w4.alloc (.cells #[.int .u64 (v1 : Nat), .string t1] 106)) (c := #[.int .u64 (v0 : Nat), .string t0, .int .u64 (v1 : Nat), .string t1]) (t := 109) (n := w4.heap.size + 1) (i := 0) hsz.symm rfl
          have y1 := new_cell (w := w4.alloc (.cells #[.int .u64 (v1 : Nat), .string t1] 106)) (c := #[.int .u64 (v0 : Nat), .string t0, .int .u64 (v1 : Nat), .string t1]) (t := 109) (n := w4.heap.size + 1) (i := 1) hsz.symm rfl
          replace y0 : ((w4.alloc (.cells #[.int .u64 (v1 : Nat), .string t1] 106)).alloc (.cells #[.int .u64 (v0 : Nat), .string t0, .int .u64 (v1 : Nat), .string t1] 109)).cell? ⟨w4.heap.size + 1, 0, none⟩ = some (.int .u64 (v0 : Nat)) := y0
          replace y1 : ((w4.alloc (.cells #[.int .u64 (v1 : Nat), .string t1] 106)).alloc (.cells #[.int .u64 (v0 : Nat), .string t0, .int .u64 (v1 : Nat), .string t1] 109)).cell? ⟨w4.heap.size + 1, 1, none⟩ = some (.string t0) := y1
          have HDX := Lib.hid (HD4.out.gr gz)
          have HCX := Lib.hid (HC4.out.gr gz)
          have HGX := Lib.hid (HG4.out.trans gz)
          have hxd : w4.heap.size + 1 ≠ d := by have := cell_lt HD4.out.room; omega
          have hxc : w4.heap.size + 1 ≠ c := by have := cell_lt HC4.out.k0; omega
          clear gz hsz a0 a1 hab hab2
          generalize (w4.alloc (.cells #[.int .u64 (v1 : Nat), .string t1] 106)).alloc (.cells #[.int .u64 (v0 : Nat), .string t0, .int .u64 (v1 : Nat), .string t1] 109) = wx at *
          generalize w4.heap.size + 1 = hx at *
          obtain ⟨Q1, q, hrq⟩ : ∃ Q1 q, rest2 Q f g (decide (v0 = v1 ∧ t0 = t1)) (spell v0 t0) = (Q1, q) := ⟨_, _, rfl⟩
          have RQ := Lib.hid (restore0 (decide (v0 = v1 ∧ t0 = t1)) wx HDX.out HCX.out HFG.out.1 HFG.out.2 (by omega) HL0.out.1 (by have := HL0.out.2; have := HSZ.out; omega) rfl)
          unfold RestIs at RQ
          rw [hrq] at RQ
          have HRQ := Lib.hid hrq
          clear hrq
          refine RQ.out.mono ?_
          rintro e w5 ⟨rfl, hd5, hs5⟩
          have HD5 := Lib.hid hd5
          have HC5 := Lib.hid (HCX.out.sole hs5 HC1.out.ne)
          replace y0 := hs5.cell hxd y0
          replace y1 := hs5.cell hxd y1
          have HS5 := Lib.hid ((Sole.of_gr (p := d) HGX.out).trans hs5)
          clear hd5 hs5
          by_cases hq0 : q = 0
          · subst hq0
            have E := Lib.hid (show openM Q f g = (Q1, 0, v0, t0) by rw [HMM.out, ← HM.out]; exact finish_yes HRQ.out)
            have k2 := HC5.out.k2
            have fr := HC5.out.fr
            have HC6 := Lib.hid (HC5.out.set v0)
            have HD6 := Lib.hid (HD5.out.sole (Sole.setCell c 2 _ (.int .u64 (v0 : Nat))) HC1.out.ne.symm)
            have HS6 := Lib.hid (HS5.out.fresh (c := c) (o := 2) (by rw [HCC.out]; exact Nat.le_refl _) (.int .u64 (v0 : Nat)))
            have z1 : (w5.setCell ⟨c, 2, none⟩ (.int .u64 (v0 : Nat))).cell? ⟨hx, 1, none⟩ = some (.string t0) := (World.cell?_setCell_other _ _ _ _ (by simp [hxc])).trans y1
            go_wp2
            generalize w5.setCell ⟨c, 2, none⟩ (.int .u64 (v0 : Nat)) = w6 at *
            go_region
            go_wp2
            go_ret3
            exact opIs_yes E.out (HD6.out.gr (Gr.refl _).drew) (HS6.out.trans (Sole.of_gr (Gr.refl _).drew)) (by rw [HCC.out]; exact Nat.le_refl _) (HC6.out.gr (Gr.refl _).drew)
          · have t9 : ((q : Int) != 0) = true := by simp [hq0]
            have E := Lib.hid (show openM Q f g = (Q1, q, 0, ⟨#[]⟩) by rw [HMM.out, ← HM.out]; exact finish_no HRQ.out hq0)
            have HQ0 := Lib.hid hq0
            clear hq0
            go_wp2
            go_ret3
            exact opIs_no E.out HQ0.out HD5.out HS5.out
end Go.Proofs.Ytfcfbecfamemlaa
