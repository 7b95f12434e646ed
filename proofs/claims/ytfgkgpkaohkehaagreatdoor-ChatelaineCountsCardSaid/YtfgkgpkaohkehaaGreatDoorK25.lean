import Derived.Test.YtfgkgpkaohkehaaGreatDoorK11
import Derived.WalkKit
import Derived.ProofKit
import Derived.LoopTactic
import Derived.Outline
import Derived.WalkSpells
import Derived.WalkLawsBesides
import Derived.Lib.Hide
import Derived.Deep.LoopGhost
import Derived.Deep.QuietTactic
import Derived.BigQuiet
import Derived.ShutString
import Derived.Test.YtfgkgpkaohkehaaGreatDoorK22
import Derived.Test.YtfgkgpkaohkehaaGreatDoorK13
import Derived.Test.YtfgkgpkaohkehaaGreatDoorC12
import Derived.IntWalk
import Derived.OpenShut
import Derived.Deep.RegionHeld3
namespace Go.Proofs.YtfgkgpkaohkehaaGreatDoor
open Go.ChangeShapes Go.WideShapes Go.ChangeAt Go.RowKit
open Enc
set_option linter.unusedVariables false
/- What is read was written so. -/
theorem cut_join (p : ByteArray) (n : Nat) : p.extract 0 n ++ p.extract n p.size = p := by
  apply eB
  rw [bytesOf_app, exB, exB, List.drop_zero, Nat.sub_zero, List.take_of_length_le (l := (bytesOf p).drop n) (by rw [List.length_drop, lenB]; omega), List.take_append_drop]
theorem glue (a b c : ByteArray) : a ++ b ++ c = a ++ (b ++ c) := by apply eB; simp only [bytesOf_app, List.append_assoc]
theorem one_byte {S : ByteArray} {m : Nat} (hS1 : S.size = 1) (hm : ∀ h : 0 < S.size, S[0].toNat = m) : bytesOf S = [b8 m] := by
  have hl : (bytesOf S).length = 1 := by simp [bytesOf]; exact hS1
  match hb : bytesOf S, hl with
  | [x], _ =>
    have h0 := hm (by omega)
    have : x = S[0]'(by omega) := by
      have h1 : (bytesOf S)[0]? = some x := by rw [hb]; rfl
      unfold bytesOf at h1
      rw [List.getElem?_eq_getElem (by simp; omega)] at h1
      simp at h1
      exact h1.symm
    rw [this, ← h0, b8_byte]
theorem uS_form {p r : ByteArray} {v : Nat} (h : uS p 0 = (r, 0, v)) : p = ofL (encU v) ++ r := by
  unfold uS at h
  rw [if_neg (by omega)] at h
  split at h
  · simp at h
  · rename_i hz
    have hz1 : 1 ≤ p.size := by omega
    obtain ⟨f1, f2⟩ := first_of p hz1
    unfold uR at h
    split at h
    · rename_i m0
      split at h
      · rename_i fm
        simp only [Prod.mk.injEq, true_and] at h
        obtain ⟨h1, h2⟩ := h
        have e : ofL (encU v) = p.extract 0 1 := by
          apply eB
          rw [bytesOf_ofL, one_byte f1 f2, encU, ← h2, fm, m0]
          rfl
        rw [e, ← h1, cut_join]
      · simp at h
    · rename_i m0
      split at h
      · simp at h
      · rename_i hz2
        split at h
        · rename_i fm
          simp only [Prod.mk.injEq, true_and] at h
          obtain ⟨h1, h2⟩ := h
          have e := (form_iff (v := v) f1 f2 m0 (T := (p.extract 1 p.size).extract 0 (more (hd p))) (by simp at hz2 ⊢; omega) h2).2 (by rw [← h2]; exact fm)
          rw [e, ← h1, glue, cut_join, cut_join]
        · simp at h
theorem sS_form {p r S : ByteArray} {e : Nat} {most : Int} (h : sS p e most = (r, 0, S)) : e = 0 ∧ p = ofL (Enc.encS (bytesOf S)) ++ r := by
  obtain ⟨a, b, c, hu⟩ : ∃ a b c, uS p e = (a, b, c) := ⟨_, _, _, rfl⟩
  unfold sS nS at h
  rw [hu] at h
  simp only at h
  split at h
  · unfold takeS at h
    rw [if_pos (by simp)] at h
    simp at h
  · unfold takeS at h
    simp only at h
    split at h
    · rename_i hb
      simp only [Prod.mk.injEq] at h
      exact absurd h.2.1 hb
    · rename_i hb
      split at h
      · simp at h
      · rename_i hz
        have hb' : b = 0 := by omega
        subst hb'
        have he : e = 0 := by
          by_cases h9 : e = 0
          · exact h9
          · unfold uS at hu
            rw [if_pos h9] at hu
            simp only [Prod.mk.injEq] at hu
            exact absurd hu.2.1 h9
        subst he
        simp only [Prod.mk.injEq, true_and] at h
        obtain ⟨h1, h2⟩ := h
        have hS : S.size = c := by rw [← h2]; simp; omega
        refine ⟨rfl, ?_⟩
        rw [uS_form hu]
        have e2 : ofL (Enc.encS (bytesOf S)) = ofL (encU c) ++ S := by
          apply eB
          rw [bytesOf_ofL, bytesOf_app, bytesOf_ofL, Enc.encS, lenB, hS]
        rw [e2, glue, ← h1, ← h2, cut_join]
theorem done_zero {r : ByteArray} {e : Nat} (h : doneE r e = 0) : r.size = 0 ∧ e = 0 := by
  unfold doneE failE at h
  split at h
  · split at h
    · exact absurd h (by decide)
    · rename_i h9; exact absurd h h9
  · exact ⟨by omega, h⟩
end Go.Proofs.YtfgkgpkaohkehaaGreatDoor
/- What reading a message gives: the model of the program's and of the document's Parse. -/
namespace Go.Proofs.YtfgkgpkaohkehaaGreatDoor
open Enc Bal
set_option linter.unusedVariables false
set_option linter.unusedSimpArgs false
def entR (r : ByteArray) (e : Nat) (last : Int) : ByteArray × Nat × E :=
  let a := nS r e 1099511627776
  let g := getS a.1 (if (a.2.2 : Int) ≤ last then failE a.2.1 4 else a.2.1)
  let t := sS g.1 g.2.1 400
  (t.1, t.2.1, ⟨(a.2.2 : Int), (g.2.2.1 : Int), (g.2.2.2 : Int), t.2.2⟩)
theorem entR_eq {r a b c tx : ByteArray} {e e1 e2 e3 sl c0 n0 : Nat} {last : Int} (h1 : nS r e 1099511627776 = (a, e1, sl)) (h2 : getS a (if (sl : Int) ≤ last then failE e1 4 else e1) = (b, e2, c0, n0)) (h3 : sS b e2 400 = (c, e3, tx)) :
    entR r e last = (c, e3, ⟨sl, c0, n0, tx⟩) := by
  unfold entR
  simp only [h1, h2, h3]
structure RdS where
  r : ByteArray
  e : Nat
  last : Int
  L : List E
def entS (s : RdS) : RdS := ⟨(entR s.r s.e s.last).1, (entR s.r s.e s.last).2.1, (entR s.r s.e s.last).2.2.slot, s.L ++ [(entR s.r s.e s.last).2.2]⟩
def entsR (r : ByteArray) (e : Nat) : Nat → RdS
  | 0 => ⟨r, e, -1, []⟩
  | k + 1 => entS (entsR r e k)
theorem entsR_len (r : ByteArray) (e : Nat) : ∀ k, (entsR r e k).L.length = k
  | 0 => rfl
  | k + 1 => by simp [entsR, entS, entsR_len r e k]
theorem getS_left (r : ByteArray) (e : Nat) : (getS r e).1.size ≤ r.size := by
  obtain ⟨a, b, c, a2, b2, n, hu, hn, hl, _, hways⟩ := getS_ways r e
  have h2 := nS_left a b 11
  rw [hn] at h2
  rcases hways with ⟨_, h⟩ | ⟨_, _, _, h⟩ | ⟨_, _, h⟩ <;> rw [h] <;> simp only at h2 ⊢ <;> omega
theorem sS_left (r : ByteArray) (e : Nat) (m : Int) : (sS r e m).1.size ≤ r.size := by
  unfold sS
  have h1 := takeS_left (nS r e m).1 (nS r e m).2.1 (nS r e m).2.2
  have h2 := nS_left r e m
  omega
theorem bS_left (r : ByteArray) (e : Nat) : (bS r e).1.size ≤ r.size := by
  unfold bS
  split
  · exact Nat.le_refl _
  · split
    · exact Nat.le_refl _
    · split <;> simp <;> omega
theorem entR_left (r : ByteArray) (e : Nat) (last : Int) : (entR r e last).1.size ≤ r.size := by
  obtain ⟨a, e1, sl, h1⟩ : ∃ a b c, nS r e 1099511627776 = (a, b, c) := ⟨_, _, _, rfl⟩
  obtain ⟨b, e2, c0, n0, h2⟩ : ∃ x y z u, getS a (if (sl : Int) ≤ last then failE e1 4 else e1) = (x, y, z, u) := ⟨_, _, _, _, rfl⟩
  obtain ⟨c, e3, tx, h3⟩ : ∃ x y z, sS b e2 400 = (x, y, z) := ⟨_, _, _, rfl⟩
  have l1 := nS_left r e 1099511627776
  have l2 := getS_left a (if (sl : Int) ≤ last then failE e1 4 else e1)
  have l3 := sS_left b e2 400
  rw [h1] at l1; rw [h2] at l2; rw [h3] at l3
  simp only at l1 l2 l3
  rw [entR_eq h1 h2 h3]
  simp only
  omega
theorem entsR_left (r : ByteArray) (e : Nat) : ∀ k, (entsR r e k).r.size ≤ r.size
  | 0 => Nat.le_refl _
  | k + 1 => by
    have h := entR_left (entsR r e k).r (entsR r e k).e (entsR r e k).last
    have ih := entsR_left r e k
    rw [entsR, entS]
    simp only
    omega
/- An error stays. -/
theorem uS_keep {r : ByteArray} {e : Nat} (h : e ≠ 0) : uS r e = (r, e, 0) := by unfold uS; rw [if_pos h]
theorem nS_keep {r : ByteArray} {e : Nat} {m : Int} (h : e ≠ 0) : nS r e m = (r, e, 0) := by unfold nS; rw [uS_keep h]; simp
theorem sS_keep {r : ByteArray} {e : Nat} {m : Int} (h : e ≠ 0) : sS r e m = (r, e, ⟨#[]⟩) := by unfold sS; rw [nS_keep h]; unfold takeS; rw [if_pos h]
theorem bS_keep {r : ByteArray} {e : Nat} (h : e ≠ 0) : bS r e = (r, e, false) := by unfold bS; rw [if_pos h]
theorem getS_keep {r : ByteArray} {e : Nat} (h : e ≠ 0) : getS r e = (r, e, 0, 0) := by
  unfold getS; rw [uS_keep h]; simp only; rw [nS_keep h]; simp only; rw [if_pos h]
theorem entR_keep {r : ByteArray} {e : Nat} {last : Int} (h : e ≠ 0) : (entR r e last).2.1 = e := by
  have h2 : (if (((0 : Nat) : Int) ≤ last) then failE e 4 else e) = e := by split <;> simp [failE, h]
  rw [entR_eq (nS_keep h) (by rw [h2]; exact getS_keep h) (sS_keep h)]
theorem entsR_keep {r : ByteArray} {e : Nat} {k : Nat} (h : (entsR r e k).e ≠ 0) : ∀ m, (entsR r e (k + m)).e = (entsR r e k).e
  | 0 => rfl
  | m + 1 => by
    have ih := entsR_keep h m
    have e1 : entsR r e (k + (m + 1)) = entS (entsR r e (k + m)) := rfl
    rw [e1, entS]
    simp only
    rw [entR_keep (by rw [ih]; exact h), ih]
structure Hd where
  r : ByteArray
  e : Nat
  frm : Nat
  tt : Nat
  sub : Nat
  c : Nat
  n : Nat
  slot : Nat
  time : Nat
  ok : Bool
  text : ByteArray
  cnt : Nat
def headR (r : ByteArray) : Hd :=
  let a1 := nS r 0 11
  let a2 := nS a1.1 a1.2.1 11
  let a3 := nS a2.1 a2.2.1 3
  let a4 := getS a3.1 a3.2.1
  let a5 := nS a4.1 a4.2.1 1099511627776
  let a6 := nS a5.1 a5.2.1 1099511627776
  let a7 := bS a6.1 a6.2.1
  let a8 := sS a7.1 a7.2.1 131072
  let a9 := nS a8.1 a8.2.1 64
  ⟨a9.1, a9.2.1, a1.2.2, a2.2.2, a3.2.2, a4.2.2.1, a4.2.2.2, a5.2.2, a6.2.2, a7.2.2, a8.2.2, a9.2.2⟩
theorem headR_ways (p : ByteArray) : ∃ r1 e1 frm r2 e2 tt r3 e3 sub r4 e4 c n r5 e5 slot r6 e6 time r7 e7 ok r8 e8 text r9 e9 cnt,
    nS p 0 11 = (r1, e1, frm) ∧ nS r1 e1 11 = (r2, e2, tt) ∧ nS r2 e2 3 = (r3, e3, sub) ∧ getS r3 e3 = (r4, e4, c, n) ∧ nS r4 e4 1099511627776 = (r5, e5, slot) ∧ nS r5 e5 1099511627776 = (r6, e6, time) ∧ bS r6 e6 = (r7, e7, ok) ∧ sS r7 e7 131072 = (r8, e8, text) ∧ nS r8 e8 64 = (r9, e9, cnt) ∧
    headR p = ⟨r9, e9, frm, tt, sub, c, n, slot, time, ok, text, cnt⟩ ∧ r1.size ≤ p.size ∧ r2.size ≤ p.size ∧ r3.size ≤ p.size ∧ r4.size ≤ p.size ∧ r5.size ≤ p.size ∧ r6.size ≤ p.size ∧ r7.size ≤ p.size ∧ r8.size ≤ p.size ∧ r9.size ≤ p.size ∧ cnt ≤ 64 := by
  obtain ⟨r1, e1, frm, h1⟩ : ∃ a b c, nS p 0 11 = (a, b, c) := ⟨_, _, _, rfl⟩
  obtain ⟨r2, e2, tt, h2⟩ : ∃ a b c, nS r1 e1 11 = (a, b, c) := ⟨_, _, _, rfl⟩
  obtain ⟨r3, e3, sub, h3⟩ : ∃ a b c, nS r2 e2 3 = (a, b, c) := ⟨_, _, _, rfl⟩
  obtain ⟨r4, e4, c, n, h4⟩ : ∃ a b c d, getS r3 e3 = (a, b, c, d) := ⟨_, _, _, _, rfl⟩
  obtain ⟨r5, e5, slot, h5⟩ : ∃ a b c, nS r4 e4 1099511627776 = (a, b, c) := ⟨_, _, _, rfl⟩
  obtain ⟨r6, e6, time, h6⟩ : ∃ a b c, nS r5 e5 1099511627776 = (a, b, c) := ⟨_, _, _, rfl⟩
  obtain ⟨r7, e7, ok, h7⟩ : ∃ a b c, bS r6 e6 = (a, b, c) := ⟨_, _, _, rfl⟩
  obtain ⟨r8, e8, text, h8⟩ : ∃ a b c, sS r7 e7 131072 = (a, b, c) := ⟨_, _, _, rfl⟩
  obtain ⟨r9, e9, cnt, h9⟩ : ∃ a b c, nS r8 e8 64 = (a, b, c) := ⟨_, _, _, rfl⟩
  have l1 := nS_left p 0 11
  have l2 := nS_left r1 e1 11
  have l3 := nS_left r2 e2 3
  have l4 := getS_left r3 e3
  have l5 := nS_left r4 e4 1099511627776
  have l6 := nS_left r5 e5 1099511627776
  have l7 := bS_left r6 e6
  have l8 := sS_left r7 e7 131072
  have l9 := nS_left r8 e8 64
  have lm := nS_most r8 e8 64
  rw [h1] at l1; rw [h2] at l2; rw [h3] at l3; rw [h4] at l4; rw [h5] at l5; rw [h6] at l6; rw [h7] at l7; rw [h8] at l8; rw [h9] at l9 lm
  simp only at l1 l2 l3 l4 l5 l6 l7 l8 l9 lm
  refine ⟨r1, e1, frm, r2, e2, tt, r3, e3, sub, r4, e4, c, n, r5, e5, slot, r6, e6, time, r7, e7, ok, r8, e8, text, r9, e9, cnt, h1, h2, h3, h4, h5, h6, h7, h8, h9, ?_, by omega, by omega, by omega, by omega, by omega, by omega, by omega, by omega, by omega, by omega⟩
  unfold headR
  simp only [h1, h2, h3, h4, h5, h6, h7, h8, h9]
def Mg.zero : Mg := ⟨0, 0, 0, 0, 0, 0, 0, 0, false, ⟨#[]⟩, []⟩
def mgOf (k : Nat) (h : Hd) (L : List E) : Mg := ⟨k, h.frm, h.tt, h.sub, h.c, h.n, h.slot, h.time, h.ok, h.text, L⟩
/-- What is in a message's frame, read. -/
def inR (p : ByteArray) : RdS := entsR (headR p).r (headR p).e (headR p).cnt
def parseM (s : ByteArray) : Nat × Mg :=
  if (openB s).2.2 ≠ 0 then ((openB s).2.2, Mg.zero)
  else if 13 < (openB s).1 then (1, Mg.zero)
  else if doneE (inR (openB s).2.1).r (inR (openB s).2.1).e ≠ 0 then (doneE (inR (openB s).2.1).r (inR (openB s).2.1).e, Mg.zero)
  else if (openB s).2.1.size + 8 < s.size then (4, Mg.zero)
  else (0, mgOf (openB s).1 (headR (openB s).2.1) (inR (openB s).2.1).L)
end Go.Proofs.YtfgkgpkaohkehaaGreatDoor
namespace Go.Proofs.YtfgkgpkaohkehaaGreatDoor
open Go.ChangeShapes Go.WideShapes Go.ChangeAt Go.RowKit
open Enc Bal
set_option linter.unusedVariables false
set_option linter.unusedSimpArgs false
theorem getS_back (c m : Nat) (hc : c < 18446744073709551616) (hm : m ≤ 11) (h0 : c = 0 → m = 0) : getS (ofL (encU c ++ encN (m : Int))) 0 = (ofL [], 0, c, m) := by
  have h1 := uS_back (ofL (encU c ++ encN (m : Int))) c (encN (m : Int)) hc (bytesOf_ofL _)
  have h2 : nS (ofL (encN (m : Int))) 0 11 = (ofL [], 0, m) := nS_back _ m [] 11 (by omega) (by omega) (by rw [bytesOf_ofL, List.append_nil]; unfold encN; rw [show (max (m : Int) 0).toNat = m by omega])
  unfold getS
  rw [h1]
  simp only
  rw [h2]
  simp only [ne_eq, not_true_eq_false, if_false]
  rw [if_neg (by omega)]
theorem get_to {p : Nat} {r a : ByteArray} {e b c n : Nat} (h : getS r e = (a, b, c, n)) (w : World) (hR : RdIs w p r e) :
    Calls Tryz.prog 56 #[.pointer (some ⟨p, 0, none⟩)] w fun en w' => en = .returned (.agg #[.int .u64 (c : Int), .int .i64 (n : Int)]) ∧ RdIs w' p a b ∧ Only p w w' := by
  have := bGet_any p r e w hR
  unfold GetIs at this
  rwa [h] at this
end Go.Proofs.YtfgkgpkaohkehaaGreatDoor
