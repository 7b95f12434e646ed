import Derived.Test.YtnanclgnjchpeaaF09
import Derived.WalkKit
import Derived.ProofKit
import Derived.LoopTactic
import Derived.Outline
import Derived.WalkSpells
import Derived.WalkLawsBesides
import Derived.Lib.Hide
import Derived.Deep.LoopGhost
import Derived.Deep.QuietTactic
import Derived.BigQuiet
import Derived.ShutString
import Derived.IntWalk
import Derived.Deep.RegionWith
import Derived.Deep.RegionHeld3
namespace Go.Proofs.Ytnanclgnjchpeaa
open Go.ChangeShapes Go.WideShapes Go.ChangeAt Go.RowKit
open Grids
set_option linter.unusedVariables false
set_option linter.unusedSimpArgs false
/-- Of blocks other than p nothing has turned. -/
structure Sole (p : Nat) (w w' : World) : Prop where
  os : w'.os = w.os
  tape : w'.tape = w.tape
  output : w'.output = w.output
  size : w.heap.size ≤ w'.heap.size
  block : ∀ k, k < w.heap.size → k ≠ p → w'.heap[k]? = w.heap[k]?
theorem Sole.trans {p : Nat} {a b c : World} (h : Sole p a b) (k : Sole p b c) : Sole p a c :=
  ⟨k.os.trans h.os, k.tape.trans h.tape, k.output.trans h.output, Nat.le_trans h.size k.size, fun i hi hp => (k.block i (Nat.lt_of_lt_of_le hi h.size) hp).trans (h.block i hi hp)⟩
theorem Sole.setCell (p o : Nat) (w : World) (v : Value) : Sole p w (w.setCell ⟨p, o, none⟩ v) := ⟨rfl, rfl, rfl, by simp [World.setCell], fun k _ hk => Below.heap_setCell _ _ _ _ hk⟩
theorem Sole.gr {p : Nat} {w0 w w' : World} (h : Sole p w w') (hg : Gr w0 w) (hp : w0.heap.size ≤ p) : Gr w0 w' :=
  Below.trans hg ⟨h.os, h.tape, h.output, h.size, fun k hk => h.block k (Nat.lt_of_lt_of_le hk hg.size) (by omega)⟩
theorem Sole.of_gr {p : Nat} {w w' : World} (h : Gr w w') : Sole p w w' := ⟨Below.os h, Below.tape h, Below.output h, h.size, fun k hk _ => Below.block h k hk⟩
theorem Sole.cell {p : Nat} {w w' : World} (h : Sole p w w') {b o : Nat} {v : Value} (hb : b ≠ p) (hc : w.cell? ⟨b, o, none⟩ = some v) : w'.cell? ⟨b, o, none⟩ = some v :=
  (World.cell?_of_block (w := w) (a := ⟨b, o, none⟩) (h.block b (cell_lt hc) hb)).trans hc
theorem Sole.vt {p : Nat} {w w' : World} (h : Sole p w w') {b r q W z1 n1 z2 n2 s : Nat} {f : Bool} (hb : b ≠ p) (v : VtIs w b r q W z1 n1 z2 n2 f s) : VtIs w' b r q W z1 n1 z2 n2 f s :=
  ⟨h.cell hb v.c0, h.cell hb v.c1, h.cell hb v.c2, h.cell hb v.c3, h.cell hb v.c4, h.cell hb v.c5, h.cell hb v.c6, h.cell hb v.c7, h.cell hb v.c8,
    (World.frozen?_of_block (w := w) (a := ⟨b, 8, none⟩) (h.block b (cell_lt v.c8) hb)).trans v.f8, v.lt⟩
/-- Is a node's answer new? -/
def freshB (r p s : Nat) (n : Int) : Bool := decide (0 ≤ n ∧ n < ((r * p : Nat) : Int)) && !s.testBit n.toNat
def addS (r p s : Nat) (n : Int) : Nat := if freshB r p s n then s ||| 2 ^ n.toNat else s
def AddIs (b r p W z1 n1 z2 n2 : Nat) (f : Bool) (s : Nat) (n : Int) (w : World) (e : Ending) (w' : World) : Prop :=
  e = .returned (.bool (freshB r p s n)) ∧ VtIs w' b r p W z1 n1 z2 n2 f (addS r p s n) ∧ Sole b w w'
theorem addIs_no {b r p W z1 n1 z2 n2 s : Nat} {f : Bool} {n : Int} {w w' : World} (hf : Hid (freshB r p s n = false)) (hv : VtIs w' b r p W z1 n1 z2 n2 f s) (hs : Sole b w w') : AddIs b r p W z1 n1 z2 n2 f s n w (.returned (.bool false)) w' := by
  refine ⟨by rw [hf.out], ?_, hs⟩
  unfold addS; rw [hf.out]; exact hv
theorem addIs_yes {b r p W z1 n1 z2 n2 s : Nat} {f : Bool} {n : Int} {w w' : World} (hf : Hid (freshB r p s n = true)) (hv : VtIs w' b r p W z1 n1 z2 n2 f (s ||| 2 ^ n.toNat)) (hs : Sole b w w') : AddIs b r p W z1 n1 z2 n2 f s n w (.returned (.bool true)) w' := by
  refine ⟨by rw [hf.out], ?_, hs⟩
  unfold addS; rw [hf.out]; exact hv
theorem and_two {s m : Nat} : (((s &&& 2 ^ m : Nat) : Int) != 0) = s.testBit m := by
  have h : s &&& 2 ^ m = if s.testBit m then 2 ^ m else 0 := by
    apply Nat.eq_of_testBit_eq
    intro i
    rw [Nat.testBit_and, Nat.testBit_two_pow]
    by_cases e : m = i
    · subst e; cases h : s.testBit m <;> simp [Nat.testBit_two_pow]
    · cases h : s.testBit m <;> simp [Nat.testBit_two_pow, e]
  have hp : 0 < 2 ^ m := Nat.two_pow_pos m
  rw [h]
  cases s.testBit m
  · rfl
  · simp only [if_true]
    rw [bne_iff_ne]
    omega
set_option maxRecDepth 100000 in
set_option maxHeartbeats 1000000 in
theorem vAdd_any {b r p W z1 n1 z2 n2 s : Nat} {f : Bool} (R : Rgt r p W z1 n1 z2 n2) (n : Int) (wn : (Lit.int .i64 n).wf = true) (w : World) (h : VtIs w b r p W z1 n1 z2 n2 f s) :
    Calls Try.prog 169 #[.pointer (some ⟨b, 0, none⟩), .int .i64 n] w (AddIs b r p W z1 n1 z2 n2 f s n w) := by
  have HH := Lib.hid (has2_any n (len_shp R))
  have h9 := shp12 R.shp
  have hV := Lib.hid h
  have E1 := Lib.hid (show setL [n] = one n by simp [setL])
  have hF := Lib.hid (show freshB r p s n = (decide (0 ≤ n ∧ n < ((r * p : Nat) : Int)) && !s.testBit n.toNat) from rfl)
  have hI : Ints (w.alloc (.cells #[.int .i64 n] 3)) (some ⟨w.heap.size, 0, none⟩) [n] :=
    ⟨by simp, by simpa using wn, .inr ⟨w.heap.size, 0, rfl, fun i hi => by
      have h0 : i = 0 := by simpa using hi
      subst h0; exact new_cell rfl rfl⟩⟩
  have S2 := Lib.hid (set_any [n] _ 1 _ hI)
  have hV1 := Lib.hid (h.gr ((Gr.refl w).alloc (.cells #[.int .i64 n] 3)))
  have HG1 := Lib.hid ((Gr.refl w).alloc (.cells #[.int .i64 n] 3))
  clear hI
  generalize r * p = N at *
  by_cases hc : 0 ≤ n ∧ n < (N : Int)
  · rw [decide_eq_true hc] at HH hF
    obtain ⟨m, rfl⟩ := Int.eq_ofNat_of_zero_le hc.1
    have hm : m < 32 := by omega
    have E2 := Lib.hid (one_in hm)
    have hlt := h.lt
    have hp : 2 ^ m < 4294967296 := Nat.lt_of_lt_of_le (Nat.pow_lt_pow_right (by decide) hm) (by decide)
    have HA := Lib.hid (w32_and s (2 ^ m) hlt hp)
    have HO := Lib.hid (w32_or s (2 ^ m) hlt hp)
    have HT := Lib.hid (@and_two s m)
    have hor : s ||| 2 ^ m < 4294967296 := Nat.or_lt_two_pow (n := 32) hlt hp
    have hF2 := Lib.hid (show freshB r p s (m : Int) = !s.testBit m by rw [hF.out]; rfl)
    have ht : (m : Int).toNat = m := rfl
    have HTN := Lib.hid ht
    clear hc ht h hF
    generalize hb : s.testBit m = q at *
    clear hb
    generalize s &&& 2 ^ m = an at *
    generalize hpw : 2 ^ m = P at *
    obtain ⟨c0, c1, c2, c3, c4, c5, c6, -, c8, f8, -⟩ := hV1.out
    have HPW := Lib.hid hpw
    clear hpw
    cases q
    · go_enter Try.func169, Try.ntmps169
      go_wp2_with fail
      refine S2.out.mono ?_
      rintro e w2 ⟨rfl, rfl⟩
      rw [E1.out, E2.out]
      go_wp2_with fail
      refine (HH.out _).mono ?_
      rintro e w2 ⟨rfl, hg⟩
      have hV2 := Lib.hid (hV1.out.gr hg)
      have HG2 := Lib.hid (HG1.out.trans hg)
      replace f8 := (hg.frozen (o := 8) (cell_lt c8)).trans f8
      replace c8 := hg.cell c8
      clear c0 c1 c2 c3 c4 c5 c6 hg
      have T0 := HT.out
      go_wp2_with (simp only [HA.out, HO.out])
      go_ret
      exact addIs_yes (Lib.hid hF2.out) (by rw [HTN.out, HPW.out]; exact hV2.out.set hor) ((Sole.of_gr HG2.out).trans (Sole.setCell _ _ _ _))
    · go_enter Try.func169, Try.ntmps169
      go_wp2_with fail
      refine S2.out.mono ?_
      rintro e w2 ⟨rfl, rfl⟩
      rw [E1.out, E2.out]
      go_wp2_with fail
      refine (HH.out _).mono ?_
      rintro e w2 ⟨rfl, hg⟩
      have hV2 := Lib.hid (hV1.out.gr hg)
      have HG2 := Lib.hid (HG1.out.trans hg)
      replace f8 := (hg.frozen (o := 8) (cell_lt c8)).trans f8
      replace c8 := hg.cell c8
      clear c0 c1 c2 c3 c4 c5 c6 hg
      have T0 := HT.out
      go_wp2_with (simp only [HA.out, HO.out])
      go_ret
      exact addIs_no (Lib.hid hF2.out) hV2.out (Sole.of_gr HG2.out)
  · rw [decide_eq_false hc] at HH hF
    have hF2 := Lib.hid (show freshB r p s n = false by rw [hF.out]; rfl)
    obtain ⟨c0, c1, c2, c3, c4, c5, c6, -, -, -, -⟩ := hV1.out
    clear hc h hF h9
    generalize setL [n] = o at *
    go_enter Try.func169, Try.ntmps169
    go_wp2_with fail
    refine S2.out.mono ?_
    rintro e w2 ⟨rfl, rfl⟩
    go_wp2_with fail
    refine (HH.out _).mono ?_
    rintro e w2 ⟨rfl, hg⟩
    have hV2 := Lib.hid (hV1.out.gr hg)
    have HG2 := Lib.hid (HG1.out.trans hg)
    clear c0 c1 c2 c3 c4 c5 c6 hg
    go_wp2
    go_ret
    exact addIs_no hF2 hV2.out (Sole.of_gr HG2.out)
/-- The quorum that is counted for. -/
def kz (f : Bool) (a b : Nat) : Nat := if f then a else b
theorem quo_kz {r p W z1 n1 z2 n2 : Nat} (R : Rgt r p W z1 n1 z2 n2) (s : Nat) (hs : s < 4294967296) : QuoIs r p W z1 n1 z2 n2 z1 n1 s (isQ r p z1 n1 s) ∧ QuoIs r p W z1 n1 z2 n2 z2 n2 s (isQ r p z2 n2 s) := ⟨first_shp R s hs _ rfl, second_shp R s hs _ rfl⟩
set_option maxRecDepth 100000 in
set_option maxHeartbeats 1000000 in
theorem vCould_any {b r p W z1 n1 z2 n2 s : Nat} {f : Bool} (R : Rgt r p W z1 n1 z2 n2) (m : Nat) (hm : m < 4294967296) (w : World) (h : VtIs w b r p W z1 n1 z2 n2 f s) :
    Calls Try.prog 189 #[.pointer (some ⟨b, 0, none⟩), .int .u32 m] w fun e w' => e = .returned (.bool (isQ r p (kz f z1 z2) (kz f n1 n2) (s ||| m))) ∧ Gr w w' := by
  have hor : s ||| m < 4294967296 := Nat.or_lt_two_pow (n := 32) h.lt hm
  have HO := Lib.hid (w32_or s m h.lt hm)
  obtain ⟨Q1, Q2⟩ := quo_kz R (s ||| m) hor
  have Q1 := Lib.hid (isFirst_any Q1)
  have Q2 := Lib.hid (isSecond_any Q2)
  obtain ⟨c0, c1, c2, c3, c4, c5, c6, c7, c8, -, -⟩ := h
  generalize s ||| m = u at *
  cases f
  · have E := Lib.hid (show isQ r p (kz false z1 z2) (kz false n1 n2) u = isQ r p z2 n2 u from rfl)
    rw [E.out]
    generalize isQ r p z2 n2 u = q at *
    clear E Q1
    go_enter Try.func189, Try.ntmps189
    go_wp2
    go_region_with (go_at_call 195; go_loud (simp only [HO.out]; refine (Q2.out _).mono ?_; rintro e w2 ⟨rfl, hg⟩))
    all_goals
      have HG := Lib.hid hg
      go_wp2
      go_ret
      exact ⟨rfl, HG.out.of_drew⟩
  · have E := Lib.hid (show isQ r p (kz true z1 z2) (kz true n1 n2) u = isQ r p z1 n1 u from rfl)
    rw [E.out]
    generalize isQ r p z1 n1 u = q at *
    clear E Q2
    go_enter Try.func189, Try.ntmps189
    go_wp2
    go_region_with (go_at_call 194; go_loud (simp only [HO.out]; refine (Q1.out _).mono ?_; rintro e w2 ⟨rfl, hg⟩))
    all_goals
      have HG := Lib.hid hg
      go_wp2
      go_ret
      exact ⟨rfl, HG.out.of_drew⟩
set_option maxRecDepth 100000 in
theorem vDone_any {b r p W z1 n1 z2 n2 s : Nat} {f : Bool} (R : Rgt r p W z1 n1 z2 n2) (w : World) (h : VtIs w b r p W z1 n1 z2 n2 f s) :
    Calls Try.prog 170 #[.pointer (some ⟨b, 0, none⟩)] w fun e w' => e = .returned (.bool (isQ r p (kz f z1 z2) (kz f n1 n2) s)) ∧ Gr w w' := by
  have C := vCould_any R 0 (by decide) w h
  rw [Nat.or_zero] at C
  have C := Lib.hid C
  clear h
  generalize isQ r p (kz f z1 z2) (kz f n1 n2) s = q at *
  go_enter Try.func170, Try.ntmps170
  go_wp2_with fail
  refine C.out.mono ?_
  rintro e w2 ⟨rfl, hg⟩
  go_wp2
  go_ret
  exact ⟨rfl, hg⟩
end Go.Proofs.Ytnanclgnjchpeaa
