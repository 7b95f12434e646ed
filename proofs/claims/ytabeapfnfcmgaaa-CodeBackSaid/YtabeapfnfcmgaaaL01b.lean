import Derived.Test.YtabeapfnfcmgaaaL01a
import Derived.WalkKit
import Derived.ProofKit
import Derived.LoopTactic
import Derived.Outline
import Derived.WalkSpells
import Derived.WalkLawsBesides
import Derived.Lib.Hide
import Derived.Deep.LoopGhost
import Derived.Deep.QuietTactic
import Derived.BigQuiet
import Derived.ShutString
namespace Go.Proofs.Ytabeapfnfcmgaaa
open Go.ChangeShapes Go.WideShapes Go.ChangeAt Go.RowKit
open Enc
set_option linter.unusedVariables false
theorem rU_err (p : Nat) (r : ByteArray) (e : Nat) (he : e ≠ 0) (w : World) (h : RdIs w p r e) : Calls Try.prog 19 #[.pointer (some ⟨p, 0, none⟩)] w fun en w' => en = .returned (.int .u64 0) ∧ RdIs w' p r e ∧ Only p w w' := by
  have := rU_any p r e w h
  have e1 : uS r e = (r, e, 0) := by unfold uS; rw [if_pos he]
  unfold UIs at this
  rwa [e1] at this
theorem nS_err (r : ByteArray) (e : Nat) (he : e ≠ 0) (most : Int) : nS r e most = (r, e, 0) := by
  have e1 : uS r e = (r, e, 0) := by unfold uS; rw [if_pos he]
  unfold nS; rw [e1, if_neg (by simp)]
theorem rN_err (p : Nat) (r : ByteArray) (e : Nat) (he : e ≠ 0) (most : Int) (hb : most ≤ 9223372036854775807) (w : World) (h : RdIs w p r e) : Calls Try.prog 21 #[.pointer (some ⟨p, 0, none⟩), .int .i64 most] w fun en w' => en = .returned (.int .i64 0) ∧ RdIs w' p r e ∧ Only p w w' := by
  have := rN_any p r e most hb w h
  unfold NIs at this
  rwa [nS_err r e he most] at this
theorem rB_err (p : Nat) (r : ByteArray) (e : Nat) (he : e ≠ 0) (w : World) (h : RdIs w p r e) : Calls Try.prog 23 #[.pointer (some ⟨p, 0, none⟩)] w fun en w' => en = .returned (.bool false) ∧ RdIs w' p r e ∧ Only p w w' := by
  have := rB_any p r e w h
  have e1 : bS r e = (r, e, false) := by unfold bS; rw [if_pos he]
  unfold BIs at this
  rwa [e1] at this
theorem rS_err (p : Nat) (r : ByteArray) (e : Nat) (he : e ≠ 0) (most : Int) (hb : most ≤ 9223372036854775807) (hr : r.size ≤ 1000000000) (w : World) (h : RdIs w p r e) : Calls Try.prog 25 #[.pointer (some ⟨p, 0, none⟩), .int .i64 most] w fun en w' => en = .returned (.string ⟨#[]⟩) ∧ RdIs w' p r e ∧ Only p w w' := by
  have := rS_any p r e most hb hr w h
  have e1 : sS r e most = (r, e, ⟨#[]⟩) := by unfold sS takeS; rw [nS_err r e he most, if_pos he]
  unfold SIs at this
  rwa [e1] at this
theorem rDone_err (p : Nat) (r : ByteArray) (e : Nat) (he : e ≠ 0) (w : World) (h : RdIs w p r e) : Calls Try.prog 29 #[.pointer (some ⟨p, 0, none⟩)] w fun en w' => en = .returned (.int .i64 e) ∧ RdIs w' p r e ∧ Only p w w' := by
  have := rDone_any p r e w h
  have e1 : doneE r e = e := by unfold doneE failE; rw [if_neg he, ite_self]
  rwa [e1] at this
theorem wU_1 (p v b : Nat) (l : List UInt8) (w : World) (h : WrIs w p l) (hb : b ≠ p) (hfr : Free w p b) (hblt : b < w.heap.size) (hc : w.cell? ⟨b, 0, none⟩ = some (.int .u64 v)) (hl : l.length ≤ 1000000) :
    Calls Try.prog 30 #[.pointer (some ⟨p, 0, none⟩), .slice (some ⟨b, 0, none⟩) 1 1] w fun e w' => e = .returned (.pointer (some ⟨p, 0, none⟩)) ∧ WrIs w' p (l ++ encU v) ∧ Below p w w' ∧ Keeps p w w' := by
  have := wU_any p b 0 [v] l w h hb hfr hblt (by intro i hi; match i, hi with | 0, _ => exact hc) hl (by simp)
  have e1 : encUs [v] = encU v := by simp [encUs]
  rwa [e1] at this
theorem WrIs.only {w w' : World} {p q : Nat} {l : List UInt8} (h : WrIs w p l) (ho : Only q w w') (hq : q < p) : WrIs w' p l := by
  obtain ⟨a, c, hc, hf, hp, hown⟩ := h
  have hb := ho.block p hp (by omega)
  refine ⟨a, c, ho.cell (by omega) hc, (World.frozen?_of_block (w := w) (a := ⟨p, 0, none⟩) hb).trans hf, Nat.lt_of_lt_of_le hp ho.size, ?_⟩
  have hg : w.grownBy w' (some q) := ⟨ho.os, ho.tape, ho.output, ho.size, fun k hk hne => ho.block k hk (fun e => hne (by rw [e]))⟩
  refine hown.kept hg (.inr ?_)
  intro e
  have := hown.lt q e
  omega
theorem RdIs.below {w w' : World} {p q : Nat} {r : ByteArray} {e : Nat} (h : RdIs w q r e) (hb : Below p w w') (hq : q < p) : RdIs w' q r e := by
  obtain ⟨h0, h1, f0, f1, hr⟩ := h
  exact ⟨(Below.cell hb (p := ⟨q, 0, none⟩) hq).trans h0, (Below.cell hb (p := ⟨q, 1, none⟩) hq).trans h1, (Below.frozen hb (p := ⟨q, 0, none⟩) hq).trans f0, (Below.frozen hb (p := ⟨q, 1, none⟩) hq).trans f1, hr⟩
theorem free_new {w : World} {p : Nat} {l : List UInt8} (h : WrIs w p l) (o : Obj) : Free (w.alloc o) p w.heap.size := by
  obtain ⟨a, c, hc, hf, hp, hown⟩ := h
  intro v hv
  rw [((Gr.refl w).alloc o).cell hc] at hv
  simp only [Option.some.injEq] at hv
  subst hv
  intro e
  have := hown.lt _ e
  omega
/-- One number that lies in a new block is written. -/
theorem wU_new (p v b : Nat) (l : List UInt8) (w : World) (h : WrIs w p l) (hb : b = w.heap.size) (hl : l.length ≤ 1000000) :
    Calls Try.prog 30 #[.pointer (some ⟨p, 0, none⟩), .slice (some ⟨b, 0, none⟩) 1 1] (w.alloc (.cells #[.int .u64 v] 33)) fun e w' => e = .returned (.pointer (some ⟨p, 0, none⟩)) ∧ WrIs w' p (l ++ encU v) ∧ Below p w w' := by
  subst hb
  have hp : p < w.heap.size := by obtain ⟨_, _, _, _, hp, _⟩ := h; exact hp
  have hg : Gr w (w.alloc (.cells #[.int .u64 v] 33)) := (Gr.refl w).alloc _
  refine (wU_1 p v w.heap.size l _ (h.gr hg) (by omega) (free_new h _) (by simp) (new_cell rfl rfl) hl).mono ?_
  rintro e w' ⟨he, hW, hB, _⟩
  exact ⟨he, hW, (hg.below.mono (by omega)).trans hB⟩
/-- How far the reading has come: what is written, what is left, the error. -/
def OnceInv (s : ByteArray) (l : List UInt8) (R : ByteArray) (e : Nat) : Prop :=
  (e = 0 ∧ bytesOf s = l ++ bytesOf R) ∨ ((e = 3 ∨ e = 4) ∧ ∃ X : List UInt8, X ≠ [] ∧ bytesOf s = l ++ X)
set_option maxRecDepth 100000 in
set_option maxHeartbeats 2000000 in
theorem codeOnce_walk (s : ByteArray) (n : Int) (w : World) (hs : s.size ≤ maxLen) (wn : (Lit.int .i64 n).wf = true) :
    Calls Try.prog 6 #[.string s, .int .i64 n] w fun e w' => e = .returned (.bool true) ∧ Gr w w' := by
  have hs' : s.size ≤ 9223372036854775807 := hs
  clear hs
  have hn : n ≤ 9223372036854775807 := by have := bounds_i64 wn; omega
  have zs := cutB_le s 200
  go_enter Try.func6, Try.ntmps6
  go_wp2_with fail
  refine (awake1 w).mono ?_
  rintro e w1 ⟨rfl, hg⟩
  go_wp2_with fail
  refine (cut_any s 200 _ hs' (by decide)).mono ?_
  rintro e w2 ⟨rfl, rfl⟩
  clear hs'
  generalize cutB s 200 = s at *
  go_wp2_with fail
  refine (read_any s _ (by omega)).mono ?_
  rintro e w2 ⟨rfl, hR, hg2⟩
  have HR := Lib.hid hR
  have hpr : w1.heap.size < w2.heap.size := cell_lt hR.1
  have hpw := hg.size
  generalize w1.heap.size = pr at *
  clear hR
  have HG := Lib.hid (hg.trans hg2)
  clear hg hg2
  have HW := Lib.hid (new_writer w2)
  have HF0 := Lib.hid (fun b => new_writer_free w2 b)
  have HR' := Lib.hid (HR.out.gr ((Gr.refl w2).alloc (.cells #[.slice none 0 0] 54)))
  have HG' := Lib.hid (HG.out.alloc (.cells #[.slice none 0 0] 54))
  have hsz : w2.heap.size < (w2.alloc (.cells #[.slice none 0 0] 54)).heap.size := by simp
  have hwp : w.heap.size ≤ pr := hpw
  go_wp2
  generalize w2.alloc (.cells #[.slice none 0 0] 54) = W at *
  generalize w2.heap.size = pw at *
  go_loopg [7] (s.size + 1) (fun g x wr => ∃ R e l, (e = 0 ∧ g = R.size + 1 ∨ e ≠ 0 ∧ g = 0) ∧ R.size ≤ s.size ∧ l.length ≤ s.size ∧ Hid (RdIs wr pr R e) ∧ Hid (WrIs wr pw l) ∧ Hid (OnceInv s l R e) ∧ Hid (Gr w wr) ∧ pw < wr.heap.size)
  case atStart => exact ⟨s, 0, [], .inl ⟨rfl, by omega⟩, by omega, by simp, HR'.out, HW.out, .inl ⟨rfl, by simp⟩, HG'.out, hsz⟩
  case round =>
    obtain ⟨R, e, l, hge, hRs, hls, hR, hW, hI, hG, hp⟩ := hrel
    by_cases he : e = 0
    · subst he
      have hgk : gk = R.size + 1 := by rcases hge with ⟨_, h⟩ | ⟨h, _⟩; exact h; exact absurd rfl h
      clear hge
      rcases Nat.eq_zero_or_pos R.size with hz | hz
      · -- all is read
        have hT : (⟨l.toArray⟩ : ByteArray) = s := by
          apply eB
          rcases hI.out with ⟨_, h⟩ | ⟨h, _⟩
          · have h0 : bytesOf R = [] := List.length_eq_zero_iff.1 (by rw [lenB]; exact hz)
            rw [h, h0, List.append_nil]; rfl
          · exact absurd h (by decide)
        have HT := Lib.hid hT
        have HZ := Lib.hid hz
        have hz' : (R.size : Int) ≤ 0 := by omega
        clear hT hz hgk
        go_wp2_with fail
        refine (left_any pr R 0 _ hR.out).mono ?_
        rintro en wx ⟨rfl, rfl⟩
        go_wp2_with fail
        refine (wText_any pw l _ hW.out).mono ?_
        rintro en wx ⟨rfl, rfl⟩
        rw [HT.out]
        go_wp2_with fail
        refine (err_any pr R 0 _ hR.out).mono ?_
        rintro en wx ⟨rfl, rfl⟩
        go_wp2
        go_ret
        exact ⟨rfl, hG.out⟩
      · obtain ⟨R', e', v, hu⟩ : ∃ R' e' v, uS R 0 = (R', e', v) := ⟨_, _, _, rfl⟩
        have hle : R'.size ≤ R.size := by have := uS_le R 0; rw [hu] at this; exact this
        have hv0 : e' ≠ 0 → v = 0 := by have := uS_zero R 0; rw [hu] at this; exact this
        have her := uS_errs R
        rw [hu] at her
        simp only at her
        have hz' : (0 : Int) < (R.size : Int) := by omega
        have HU := Lib.hid hu
        have Hgk := Lib.hid hgk
        clear hgk
        go_wp2_with fail
        refine (left_any pr R 0 _ hR.out).mono ?_
        rintro en wx ⟨rfl, rfl⟩
        go_wp2_with fail
        refine (err_any pr R 0 _ hR.out).mono ?_
        rintro en wx ⟨rfl, rfl⟩
        go_wp2_with fail
        refine (left_any pr R 0 _ hR.out).mono ?_
        rintro en wx ⟨rfl, rfl⟩
        go_wp2_with fail
        refine (rU_any pr R 0 _ hR.out).mono ?_
        intro en w4 hU
        obtain ⟨rfl, hR4, hO4⟩ := uIs_is HU hU
        clear hU
        have HR4 := Lib.hid hR4
        have HW4 := Lib.hid (hW.out.only hO4 (by omega))
        have HG4 := Lib.hid (hO4.gr hG.out hwp)
        have hp4 := Nat.lt_of_lt_of_le hp hO4.size
        clear hR4 hO4
        by_cases he' : e' = 0
        · subst he'
          obtain ⟨hb, hlt⟩ := uS_ok R R' v hu
          clear hu her hv0
          go_wp2_with fail
          refine (err_any pr R' 0 _ HR4.out).mono ?_
          rintro en wx ⟨rfl, rfl⟩
          go_wp2_with fail
          refine (wU_new pw v _ l w4 HW4.out rfl (by omega)).mono ?_
          rintro en w5 ⟨rfl, hW5, hB5⟩
          have HW5 := Lib.hid hW5
          have HR5 := Lib.hid (HR4.out.below hB5 hpr)
          have HG5 := Lib.hid (gr_below HG4.out (by omega) hB5)
          have hp5 := Nat.lt_of_lt_of_le hp4 hB5.size
          clear hW5 hB5
          have hlt' : (R'.size : Int) < (R.size : Int) := by omega
          have HB := Lib.hid hb
          clear hb
          go_wp2_with fail
          refine (err_any pr R' 0 _ HR5.out).mono ?_
          rintro en wx ⟨rfl, rfl⟩
          go_wp2_with fail
          refine (left_any pr R' 0 _ HR5.out).mono ?_
          rintro en wx ⟨rfl, rfl⟩
          go_wp2
          go_roundg (R'.size + 1)
          case measure => rw [Hgk.out]; omega
          case rel =>
            have hI' : bytesOf s = l ++ bytesOf R := by rcases hI.out with ⟨_, h⟩ | ⟨h, _⟩; exact h; exact absurd h (by decide)
            have hI2 : bytesOf s = (l ++ encU v) ++ bytesOf R' := by rw [hI', HB.out, List.append_assoc]
            have hlen : (l ++ encU v).length ≤ s.size := by have h1 := congrArg List.length hI2; rw [lenB, List.length_append] at h1; rw [h1]; exact Nat.le_add_right _ _
            exact ⟨R', 0, l ++ encU v, .inl ⟨rfl, rfl⟩, by omega, hlen, HR5.out, HW5.out, .inl ⟨rfl, hI2⟩, HG5.out, hp5⟩
        · obtain rfl := hv0 he'
          have t1 : ((e' : Int) == 0) = false := by simp [he']
          have Hne := Lib.hid he'
          have Her := Lib.hid her
          clear hu her hv0 he'
          go_wp2_with fail
          refine (err_any pr R' e' _ HR4.out).mono ?_
          rintro en wx ⟨rfl, rfl⟩
          go_wp2_with fail
          refine (err_any pr R' e' _ HR4.out).mono ?_
          rintro en wx ⟨rfl, rfl⟩
          go_wp2
          go_roundg 0
          case measure => rw [Hgk.out]; omega
          case rel =>
            have hI' : bytesOf s = l ++ bytesOf R := by rcases hI.out with ⟨_, h⟩ | ⟨h, _⟩; exact h; exact absurd h (by decide)
            have hne : bytesOf R ≠ [] := by intro h0; have h1 := congrArg List.length h0; rw [lenB] at h1; have h2 : R.size = 0 := h1; omega
            have h34 : e' = 3 ∨ e' = 4 := by rcases Her.out with h | h; exact absurd h Hne.out; exact h
            exact ⟨R', e', l, .inr ⟨Hne.out, rfl⟩, by omega, hls, HR4.out, HW4.out, .inr ⟨h34, bytesOf R, hne, hI'⟩, HG4.out, hp4⟩
    · have t1 : ((e : Int) == 0) = false := by simp [he]
      have He := Lib.hid he
      obtain ⟨h34, X, hX, hsX⟩ : (e = 3 ∨ e = 4) ∧ ∃ X : List UInt8, X ≠ [] ∧ bytesOf s = l ++ X := by
        rcases hI.out with ⟨h, _⟩ | h
        · exact absurd h he
        · exact h
      have hXl : 0 < X.length := List.length_pos_iff.2 hX
      have hTz : (⟨l.toArray⟩ : ByteArray).size = l.length := rfl
      have hsl : s.size = l.length + X.length := by have := congrArg List.length hsX; rw [lenB, List.length_append] at this; exact this
      have hpre : s.extract 0 l.length = ⟨l.toArray⟩ := by
        apply eB
        rw [exB, hsX, List.drop_zero, Nat.sub_zero, List.take_left]; rfl
      have t3 : ((e : Int) == 3) = decide (e = 3) := by
        rcases h34 with h | h <;> subst h <;> rfl
      have t4 : ((e : Int) == 4) = decide (e = 4) := by
        rcases h34 with h | h <;> subst h <;> rfl
      have hPre := Lib.hid hpre
      obtain ⟨T, hTT⟩ : ∃ T : ByteArray, T = ⟨l.toArray⟩ := ⟨_, rfl⟩
      have hTs : T.size = l.length := by rw [hTT]; rfl
      have HTT := Lib.hid hTT.symm
      have q1 : (T.size : Int) < s.size := by omega
      have q2 : 0 ≤ (T.size : Int) ∧ (T.size : Int) ≤ s.size := by omega
      have hpT : s.extract 0 T.size = T := by rw [hTs, hpre, hTT]
      have q3 : (s.extract 0 T.size).toList = T.toList := by rw [hpT]
      have H34 := Lib.hid h34
      clear hge he hX hsX hXl hTz hsl hpre hpT hTs hTT t3 t4 h34
      have t0 : ((e : Int) != 0) = true := by have := He.out; simp [this]
      have hRl : R.size ≤ 1000000000 := by omega
      go_wp2_with fail
      refine (left_any pr R e _ hR.out).mono ?_
      rintro en wx ⟨rfl, rfl⟩
      rcases Nat.eq_zero_or_pos R.size with hz | hz
      · have hz' : (R.size : Int) ≤ 0 := by omega
        clear hz
        go_wp2_with fail
        refine (wText_any pw l _ hW.out).mono ?_
        rintro en wx ⟨rfl, rfl⟩
        rw [HTT.out]
        go_wp2_with fail
        refine (err_any pr R e _ hR.out).mono ?_
        rintro en wx ⟨rfl, rfl⟩
        go_wp2_with fail
        refine (err_any pr R e _ hR.out).mono ?_
        rintro en wx ⟨rfl, rfl⟩
        go_wp2_with fail
        refine (fail_keep pr 7 R e t0 _ rfl _ hR.out).mono ?_
        rintro en w4 ⟨rfl, hR4, hO4⟩
        have HR4 := Lib.hid hR4
        have HG4 := Lib.hid (hO4.gr hG.out hwp)
        clear hR4 hO4
        go_wp2_with fail
        refine (err_any pr R e _ HR4.out).mono ?_
        rintro en wx ⟨rfl, rfl⟩
        go_wp2_with fail
        refine (rU_err pr R e He.out _ HR4.out).mono ?_
        rintro en w5 ⟨rfl, hR5, hO5⟩
        have HR5 := Lib.hid hR5
        have HG5 := Lib.hid (hO5.gr HG4.out hwp)
        clear hR5 hO5
        go_wp2_with fail
        refine (rN_err pr R e He.out n hn _ HR5.out).mono ?_
        rintro en w6 ⟨rfl, hR6, hO6⟩
        have HR6 := Lib.hid hR6
        have HG6 := Lib.hid (hO6.gr HG5.out hwp)
        clear hR6 hO6
        go_wp2_with fail
        refine (rB_err pr R e He.out _ HR6.out).mono ?_
        rintro en w7 ⟨rfl, hR7, hO7⟩
        have HR7 := Lib.hid hR7
        have HG7 := Lib.hid (hO7.gr HG6.out hwp)
        clear hR7 hO7
        go_wp2_with fail
        refine (rS_err pr R e He.out n hn hRl _ HR7.out).mono ?_
        rintro en w8 ⟨rfl, hR8, hO8⟩
        have HR8 := Lib.hid hR8
        have HG8 := Lib.hid (hO8.gr HG7.out hwp)
        clear hR8 hO8
        go_wp2_with fail
        refine (rDone_err pr R e He.out _ HR8.out).mono ?_
        rintro en w9 ⟨rfl, hR9, hO9⟩
        have HG9 := Lib.hid (hO9.gr HG8.out hwp)
        clear hR9 hO9
        rcases H34.out with rfl | rfl <;> (go_wp2; go_ret; exact ⟨rfl, HG9.out⟩)
      · have hz' : (0 : Int) < (R.size : Int) := by omega
        clear hz
        go_wp2_with fail
        refine (err_any pr R e _ hR.out).mono ?_
        rintro en wx ⟨rfl, rfl⟩
        go_wp2_with fail
        refine (wText_any pw l _ hW.out).mono ?_
        rintro en wx ⟨rfl, rfl⟩
        rw [HTT.out]
        go_wp2_with fail
        refine (err_any pr R e _ hR.out).mono ?_
        rintro en wx ⟨rfl, rfl⟩
        go_wp2_with fail
        refine (err_any pr R e _ hR.out).mono ?_
        rintro en wx ⟨rfl, rfl⟩
        go_wp2_with fail
        refine (fail_keep pr 7 R e t0 _ rfl _ hR.out).mono ?_
        rintro en w4 ⟨rfl, hR4, hO4⟩
        have HR4 := Lib.hid hR4
        have HG4 := Lib.hid (hO4.gr hG.out hwp)
        clear hR4 hO4
        go_wp2_with fail
        refine (err_any pr R e _ HR4.out).mono ?_
        rintro en wx ⟨rfl, rfl⟩
        go_wp2_with fail
        refine (rU_err pr R e He.out _ HR4.out).mono ?_
        rintro en w5 ⟨rfl, hR5, hO5⟩
        have HR5 := Lib.hid hR5
        have HG5 := Lib.hid (hO5.gr HG4.out hwp)
        clear hR5 hO5
        go_wp2_with fail
        refine (rN_err pr R e He.out n hn _ HR5.out).mono ?_
        rintro en w6 ⟨rfl, hR6, hO6⟩
        have HR6 := Lib.hid hR6
        have HG6 := Lib.hid (hO6.gr HG5.out hwp)
        clear hR6 hO6
        go_wp2_with fail
        refine (rB_err pr R e He.out _ HR6.out).mono ?_
        rintro en w7 ⟨rfl, hR7, hO7⟩
        have HR7 := Lib.hid hR7
        have HG7 := Lib.hid (hO7.gr HG6.out hwp)
        clear hR7 hO7
        go_wp2_with fail
        refine (rS_err pr R e He.out n hn hRl _ HR7.out).mono ?_
        rintro en w8 ⟨rfl, hR8, hO8⟩
        have HR8 := Lib.hid hR8
        have HG8 := Lib.hid (hO8.gr HG7.out hwp)
        clear hR8 hO8
        go_wp2_with fail
        refine (rDone_err pr R e He.out _ HR8.out).mono ?_
        rintro en w9 ⟨rfl, hR9, hO9⟩
        have HG9 := Lib.hid (hO9.gr HG8.out hwp)
        clear hR9 hO9
        rcases H34.out with rfl | rfl <;> (go_wp2; go_ret; exact ⟨rfl, HG9.out⟩)
end Go.Proofs.Ytabeapfnfcmgaaa
