import Derived.Test.YtfcfbecfamemlaaL12k
import Derived.Test.YtfcfbecfamemlaaM12
import Derived.Test.YtfcfbecfamemlaaC16
import Derived.WalkKit
import Derived.ProofKit
import Derived.LoopTactic
import Derived.Outline
import Derived.WalkSpells
import Derived.WalkLawsBesides
import Derived.Lib.Hide
import Derived.Deep.LoopGhost
import Derived.Deep.QuietTactic
import Derived.BigQuiet
import Derived.ShutString
import Derived.OpenShut
import Derived.ChangeOld
import Derived.Deep.Slices
import Derived.Deep.Fields
namespace Go.Proofs.Ytfcfbecfamemlaa
open Go.ChangeShapes Go.WideShapes Go.ChangeAt Go.RowKit Go.Deep
open Dk Enc Crc
set_option linter.unusedVariables false
set_option linter.unusedSimpArgs false
theorem putF_same (Q : D) (k : Nat) (f : F) : (putF Q k f).fs k = f := upd_same _ _ _
theorem putF_other (Q : D) (k j : Nat) (f : F) (h : j ≠ k) : (putF Q k f).fs j = Q.fs j := upd_other _ _ _ _ h
theorem spoil_flat {d : D} {k n : Nat} {z : ByteArray} (x : UInt8) (hk : k < 4) (h : d.fs k = flat z) (hn : n < z.size) : spoil d k n x = putF d k (flat (Dk.flip z n x)) := by
  have e : (d.fs k).now = z := by rw [h]; rfl
  have h2 := spoil_eq (d := d) (k := k) (n := n) x hk (by rw [h]; rfl) (by rw [e]; exact hn)
  rw [e] at h2
  exact h2
theorem tmod_em (c n : Int) (hn : 0 < n) : (c.tmod n + n) % n = c % n := by
  have h1 := Int.lt_tmod_of_pos c hn
  have h9 := mod_emod c n hn
  rwa [Int.tmod_eq_emod_of_nonneg (show 0 ≤ c.tmod n + n by omega)] at h9
theorem tmod_em2 (c n : Int) (hn : 0 < n) : c.tmod n % n = c % n := by
  have h := tmod_em c n hn
  rwa [Int.add_emod_right] at h
theorem split_at {P : List UInt8} {n : Nat} (h : n < P.length) : P = P.take n ++ P[n] :: P.drop (n + 1) := by
  rw [← List.drop_eq_getElem_cons h, List.take_append_drop]
/-- Two frames of one kind and length that differ in one byte at most are the same. -/
theorem frame_one {I J : ByteArray} (hz : I.size = J.size) (n : Nat) (h : ∀ j, j ≠ n → (bytesOf (rframe 1 J))[j]? = (bytesOf (rframe 1 I))[j]?) : J = I := by
  have e1 : bytesOf (rframe 1 I) = bytesOf (rframeB 1 I) ++ bytesOf (dig (4294967295 - crc 4294967295 (bytesOf (rframeB 1 I))) 4) := by unfold rframe; rw [bytesOf_append]
  have e2 : bytesOf (rframe 1 J) = bytesOf (rframeB 1 J) ++ bytesOf (dig (4294967295 - crc 4294967295 (bytesOf (rframeB 1 J))) 4) := by unfold rframe; rw [bytesOf_append]
  have hb1 : bytesOf (rframeB 1 I) = bytesOf (⟨#[b8 1]⟩ ++ dig I.size 3) ++ bytesOf I := by unfold rframeB; rw [bytesOf_append]; rfl
  have hb2 : bytesOf (rframeB 1 J) = bytesOf (⟨#[b8 1]⟩ ++ dig I.size 3) ++ bytesOf J := by unfold rframeB; rw [bytesOf_append, hz]; rfl
  have fin : bytesOf (rframeB 1 J) = bytesOf (rframeB 1 I) → J = I := fun e => by
    rw [hb1, hb2] at e
    exact ba_ext (List.append_cancel_left e)
  have hl : (bytesOf (rframeB 1 J)).length = (bytesOf (rframeB 1 I)).length := by
    rw [hb1, hb2, List.length_append, List.length_append, bytesOf_length J, bytesOf_length I, hz]
  rw [e1, e2] at h
  have hc1 : crc 4294967295 (bytesOf (rframeB 1 I)) < 4294967296 := crc_lt (by decide) _
  have hc2 : crc 4294967295 (bytesOf (rframeB 1 J)) < 4294967296 := crc_lt (by decide) _
  generalize hP : bytesOf (rframeB 1 I) = P at *
  generalize hR : bytesOf (rframeB 1 J) = R at *
  by_cases hn : n < P.length
  · have hd : bytesOf (dig (4294967295 - crc 4294967295 R) 4) = bytesOf (dig (4294967295 - crc 4294967295 P) 4) := by
      apply List.ext_getElem?
      intro j
      have := h (P.length + j) (by omega)
      rw [List.getElem?_append_right (by omega), List.getElem?_append_right (by omega)] at this
      rw [hl, Nat.add_sub_cancel_left] at this
      exact this
    have hcr := dig4_inj (by omega) (by omega) (ba_ext hd)
    have hcc : crc 4294967295 R = crc 4294967295 P := by omega
    have hs1 := split_at hn
    have hs2 := split_at (P := R) (n := n) (by omega)
    have ht : R.take n = P.take n := by
      apply List.ext_getElem?
      intro j
      rw [List.getElem?_take, List.getElem?_take]
      by_cases hj : j < n
      · rw [if_pos hj, if_pos hj]
        have := h j (by omega)
        rwa [List.getElem?_append_left (by omega), List.getElem?_append_left (by omega)] at this
      · rw [if_neg hj, if_neg hj]
    have hdr : R.drop (n + 1) = P.drop (n + 1) := by
      apply List.ext_getElem?
      intro j
      rw [List.getElem?_drop, List.getElem?_drop]
      by_cases hj : n + 1 + j < P.length
      · have := h (n + 1 + j) (by omega)
        rwa [List.getElem?_append_left (by omega), List.getElem?_append_left (by omega)] at this
      · rw [List.getElem?_eq_none (by omega), List.getElem?_eq_none (by omega)]
    have hx : R[n] = P[n] := crc_one 4294967295 (by decide) (P.take n) (P.drop (n + 1)) R[n] P[n] (by
      rw [← hs1, ← hcc]
      congr 1
      rw [← ht, ← hdr]
      exact hs2.symm)
    apply fin
    rw [hs1, hs2, ht, hdr, hx]
  · apply fin
    apply List.ext_getElem?
    intro j
    by_cases hj : j < P.length
    · have := h j (by omega)
      rwa [List.getElem?_append_left (by omega), List.getElem?_append_left (by omega)] at this
    · rw [List.getElem?_eq_none (by omega), List.getElem?_eq_none (by omega)]
theorem flip_get (s : ByteArray) (n j : Nat) (x : UInt8) (h : j ≠ n) : (bytesOf (Dk.flip s n x))[j]? = (bytesOf s)[j]? := by
  unfold bytesOf Dk.flip
  simp only [Array.getElem?_toList, Array.getElem?_modify]
  rw [if_neg (fun e => h e.symm)]
/-- A half of which one byte is another one is the same, or none. -/
theorem parse_flip (v : Nat) (t : ByteArray) (n : Nat) (x : UInt8) (ht : t.size ≤ 500000) : Dk.flip (spell v t) n x = spell v t ∨ (parseB (Dk.flip (spell v t) n x)).1 = 0 := by
  obtain ⟨y, hy⟩ : ∃ y, Dk.flip (spell v t) n x = y := ⟨_, rfl⟩
  have hg : ∀ j, j ≠ n → (bytesOf y)[j]? = (bytesOf (spell v t))[j]? := fun j hj => by rw [← hy]; exact flip_get _ _ _ _ hj
  have hs : y.size = (spell v t).size := by rw [← hy]; exact Dk.flip_size _ _ _
  rw [hy]
  rcases parse_ways y with ⟨_, h2⟩ | ⟨_, h2, _⟩ | ⟨_, h2⟩
  · right; rw [h2]
  · left
    have h3 := spell_size (inV y) (inT y)
    rw [← h2, hs, spell_size] at h3
    have : inner (inV y) (inT y) = inner v t := frame_one (I := inner v t) (J := inner (inV y) (inT y)) (by omega) n (fun j hj => by
      show (bytesOf (spell (inV y) (inT y)))[j]? = (bytesOf (spell v t))[j]?
      rw [← h2]; exact hg j hj)
    rw [h2]
    unfold spell
    rw [this]
  · right; rw [h2]
/-- What Open finds where one file holds the half, and the other one holds it or none. -/
theorem open_spoilt {B : Nat} {Q : D} (hok : Q.Ok) (h : Bd B Q.fs) (hr : 5 * B ≤ Q.room) (hf : Q.fail = 0) {f g : Nat} (hfg : f + 1 = g) (hg : g < 4) {v : Nat} {t a b : ByteArray} (h1 : 1 ≤ v) (hvl : v ≤ 1000000) (ht : t.size ≤ 500000) (ha : Q.fs f = flat a) (hb : Q.fs g = flat b)
    (hw : (a = spell v t ∧ (b = spell v t ∨ (parseB b).1 = 0)) ∨ (b = spell v t ∧ (a = spell v t ∨ (parseB a).1 = 0))) : ∃ Q', openM Q f g = (Q', 0, v, t) := by
  have ps := parse_spell v t h1 (by omega) (by omega)
  have key : ∃ v0 t0 b0 v1 tt b1, parseB a = (v0, t0, b0) ∧ parseB b = (v1, tt, b1) ∧ ¬ (b1 = true ∧ v0 = 0) ∧ best v0 t0 v1 tt = (v, t) := by
    rcases hw with ⟨rfl, hwb⟩ | ⟨rfl, hwa⟩
    · rcases hwb with rfl | hz
      · exact ⟨_, _, _, _, _, _, ps, ps, by simp, by unfold best; rw [if_neg (by omega), if_neg (by omega)]⟩
      · obtain ⟨v0, t0, b0, hp⟩ : ∃ v0 t0 b0, parseB b = (v0, t0, b0) := ⟨_, _, _, rfl⟩
        rw [hp] at hz
        obtain rfl : v0 = 0 := hz
        exact ⟨_, _, _, _, _, _, ps, hp, fun hh => by omega, by unfold best; rw [if_neg (by omega), if_neg (by omega)]⟩
    · rcases hwa with rfl | hz
      · exact ⟨_, _, _, _, _, _, ps, ps, by simp, by unfold best; rw [if_neg (by omega), if_neg (by omega)]⟩
      · obtain ⟨v0, t0, b0, hp⟩ : ∃ v0 t0 b0, parseB a = (v0, t0, b0) := ⟨_, _, _, rfl⟩
        rw [hp] at hz
        obtain rfl : v0 = 0 := hz
        exact ⟨_, _, _, _, _, _, hp, ps, by simp, by unfold best; rw [if_pos (by omega)]⟩
  obtain ⟨v0, t0, b0, v1, tt, b1, hp0, hp1, hc, hbest⟩ := key
  obtain ⟨Q', V, T, e1, e2, _⟩ := open_flat hok h hr hf hfg hg ha hb hp0 hp1 hc
  rw [e1] at hbest
  simp only [Prod.mk.injEq] at hbest
  obtain ⟨rfl, rfl⟩ := hbest
  exact ⟨Q', e2⟩
end Go.Proofs.Ytfcfbecfamemlaa
