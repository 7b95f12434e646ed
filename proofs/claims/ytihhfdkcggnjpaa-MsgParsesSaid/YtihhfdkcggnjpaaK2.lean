import Derived.Test.YtihhfdkcggnjpaaF01g
import Derived.Test.YtihhfdkcggnjpaaC12
import Derived.WalkKit
import Derived.ProofKit
import Derived.LoopTactic
import Derived.Outline
import Derived.WalkSpells
import Derived.WalkLawsBesides
import Derived.Lib.Hide
import Derived.Deep.LoopGhost
import Derived.Deep.QuietTactic
import Derived.BigQuiet
import Derived.ShutString
import Derived.OpenShut
import Derived.Deep.RegionWith
import Derived.Deep.RegionHeld3
namespace Go.Proofs.Ytihhfdkcggnjpaa
open Go.ChangeShapes Go.WideShapes Go.ChangeAt Go.RowKit
open Enc
set_option linter.unusedVariables false
theorem eB {a b : ByteArray} (h : bytesOf a = bytesOf b) : a = b := ByteArray.ext (Array.toList_inj.1 h)
theorem exB (s : ByteArray) (a b : Nat) : bytesOf (s.extract a b) = ((bytesOf s).drop a).take (b - a) := Lib.extract_data s a b
theorem lenB (s : ByteArray) : (bytesOf s).length = s.size := by simp [bytesOf]
theorem wide_num8 (l : List UInt8) : wide (num8 l) l.length = l := by
  generalize hn : l.length = n
  -- the number's k lowest bytes are the list's last k
  have key : ∀ (pre post : List UInt8), wide (num8 (pre ++ post)) post.length = post := by
    intro pre post
    induction post generalizing pre with
    | nil => rfl
    | cons b t ih =>
      have h := ih (pre ++ [b])
      rw [List.append_assoc] at h
      simp only [List.singleton_append] at h
      rw [List.length_cons, wide, h]
      congr 1
      have hsplit : ∀ (x : Nat) (u : List UInt8), u.foldl (fun n b => 256 * n + b.toNat) x = x * 256 ^ u.length + num8 u := by
        intro x u
        induction u generalizing x with
        | nil => simp [num8]
        | cons c v ihv =>
          rw [List.foldl_cons, ihv]
          have := ihv c.toNat
          simp only [num8, List.foldl_cons, Nat.mul_zero, Nat.zero_add] at *
          rw [this, List.length_cons, Nat.pow_succ]
          rw [Nat.add_mul, Nat.mul_comm 256 x, Nat.mul_assoc, Nat.mul_comm 256]
          omega
      have e1 : num8 (pre ++ b :: t) = (256 * num8 pre + b.toNat) * 256 ^ t.length + num8 t := by
        unfold num8
        rw [List.foldl_append, List.foldl_cons, hsplit]
        rfl
      have h2 := num8_lt t
      have h3 : num8 (pre ++ b :: t) / 256 ^ t.length = 256 * num8 pre + b.toNat := by
        rw [e1, Nat.add_comm, Nat.mul_comm, Nat.add_mul_div_left _ _ (Nat.pow_pos (by decide)), Nat.div_eq_of_lt h2, Nat.zero_add]
      rw [h3]
      have h4 : (256 * num8 pre + b.toNat) % 256 = b.toNat := by have := b.toNat_lt; omega
      rw [h4]
      exact b8_byte b
  have := key [] l
  rw [hn] at this
  exact this
theorem hd_list (r : ByteArray) (h : 1 ≤ r.size) : bytesOf r = b8 (hd r) :: bytesOf (r.extract 1 r.size) := by
  have h0 : 0 < r.size := h
  have e : b8 (hd r) = r[0] := by unfold hd; rw [dif_pos h0]; exact b8_byte _
  rw [e, exB]
  have hl : 0 < (bytesOf r).length := by rw [lenB]; omega
  have h1 := List.drop_eq_getElem_cons hl
  rw [List.drop_zero] at h1
  rw [List.take_of_length_le (by rw [List.length_drop, lenB]; omega)]
  exact h1
theorem uS_ok (r r' : ByteArray) (v : Nat) (h : uS r 0 = (r', 0, v)) : bytesOf r = encU v ++ bytesOf r' ∧ r'.size < r.size := by
  unfold uS at h
  rw [if_neg (by omega)] at h
  by_cases hz : r.size < 1
  · rw [if_pos hz] at h; simp at h
  rw [if_neg hz] at h
  have hb := hd_list r (by omega)
  have hsz : (r.extract 1 r.size).size = r.size - 1 := by simp
  generalize r.extract 1 r.size = r1 at *
  unfold uR at h
  by_cases h1 : more (hd r) = 0
  · rw [if_pos h1] at h
    by_cases h2 : first (hd r) = hd r
    · rw [if_pos h2] at h
      simp only [Prod.mk.injEq, true_and] at h
      obtain ⟨rfl, rfl⟩ := h
      refine ⟨?_, by omega⟩
      rw [hb, encU, h2, h1]; rfl
    · rw [if_neg h2] at h; simp at h
  · rw [if_neg h1] at h
    by_cases h2 : r1.size < more (hd r)
    · rw [if_pos h2] at h; simp at h
    · rw [if_neg h2] at h
      by_cases h3 : first (num8 (bytesOf (r1.extract 0 (more (hd r))))) = hd r
      · rw [if_pos h3] at h
        simp only [Prod.mk.injEq, true_and] at h
        obtain ⟨rfl, rfl⟩ := h
        refine ⟨?_, by simp; omega⟩
        have hl : (bytesOf (r1.extract 0 (more (hd r)))).length = more (hd r) := by rw [lenB]; simp; omega
        have hw := wide_num8 (bytesOf (r1.extract 0 (more (hd r))))
        rw [hl] at hw
        rw [hb, encU, h3, hw, List.cons_append, exB, exB]
        congr 1
        rw [List.drop_zero, Nat.sub_zero, List.take_of_length_le (l := List.drop _ _) (by rw [List.length_drop, lenB]; omega), List.take_append_drop]
      · rw [if_neg h3] at h; simp at h
theorem uS_errs (r : ByteArray) : (uS r 0).2.1 = 0 ∨ (uS r 0).2.1 = 3 ∨ (uS r 0).2.1 = 4 := by
  unfold uS
  rw [if_neg (by omega)]
  by_cases hz : r.size < 1
  · rw [if_pos hz]; exact .inr (.inl rfl)
  rw [if_neg hz]
  unfold uR
  by_cases h1 : more (hd r) = 0
  · rw [if_pos h1]
    by_cases h2 : first (hd r) = hd r
    · rw [if_pos h2]; exact .inl rfl
    · rw [if_neg h2]; exact .inr (.inr rfl)
  · rw [if_neg h1]
    by_cases h2 : (r.extract 1 r.size).size < more (hd r)
    · rw [if_pos h2]; exact .inr (.inl rfl)
    · rw [if_neg h2]
      by_cases h3 : first (num8 (bytesOf ((r.extract 1 r.size).extract 0 (more (hd r))))) = hd r
      · rw [if_pos h3]; exact .inl rfl
      · rw [if_neg h3]; exact .inr (.inr rfl)
end Go.Proofs.Ytihhfdkcggnjpaa
namespace Go.Proofs.Ytihhfdkcggnjpaa
open Go.ChangeShapes Go.WideShapes Go.ChangeAt Go.RowKit
open Enc
set_option linter.unusedVariables false
theorem rU_err (p : Nat) (r : ByteArray) (e : Nat) (he : e ≠ 0) (w : World) (h : RdIs w p r e) : Calls Try.prog 191 #[.pointer (some ⟨p, 0, none⟩)] w fun en w' => en = .returned (.int .u64 0) ∧ RdIs w' p r e ∧ Only p w w' := by
  have := rU_any p r e w h
  have e1 : uS r e = (r, e, 0) := by unfold uS; rw [if_pos he]
  unfold UIs at this
  rwa [e1] at this
theorem nS_err (r : ByteArray) (e : Nat) (he : e ≠ 0) (most : Int) : nS r e most = (r, e, 0) := by
  have e1 : uS r e = (r, e, 0) := by unfold uS; rw [if_pos he]
  unfold nS; rw [e1, if_neg (by simp)]
theorem rN_err (p : Nat) (r : ByteArray) (e : Nat) (he : e ≠ 0) (most : Int) (hb : most ≤ 9223372036854775807) (w : World) (h : RdIs w p r e) : Calls Try.prog 137 #[.pointer (some ⟨p, 0, none⟩), .int .i64 most] w fun en w' => en = .returned (.int .i64 0) ∧ RdIs w' p r e ∧ Only p w w' := by
  have := rN_any p r e most hb w h
  unfold NIs at this
  rwa [nS_err r e he most] at this
theorem rB_err (p : Nat) (r : ByteArray) (e : Nat) (he : e ≠ 0) (w : World) (h : RdIs w p r e) : Calls Try.prog 176 #[.pointer (some ⟨p, 0, none⟩)] w fun en w' => en = .returned (.bool false) ∧ RdIs w' p r e ∧ Only p w w' := by
  have := rB_any p r e w h
  have e1 : bS r e = (r, e, false) := by unfold bS; rw [if_pos he]
  unfold BIs at this
  rwa [e1] at this
theorem rS_err (p : Nat) (r : ByteArray) (e : Nat) (he : e ≠ 0) (most : Int) (hb : most ≤ 9223372036854775807) (hr : r.size ≤ 1000000000) (w : World) (h : RdIs w p r e) : Calls Try.prog 177 #[.pointer (some ⟨p, 0, none⟩), .int .i64 most] w fun en w' => en = .returned (.string ⟨#[]⟩) ∧ RdIs w' p r e ∧ Only p w w' := by
  have := rS_any p r e most hb hr w h
  have e1 : sS r e most = (r, e, ⟨#[]⟩) := by unfold sS takeS; rw [nS_err r e he most, if_pos he]
  unfold SIs at this
  rwa [e1] at this
theorem rDone_err (p : Nat) (r : ByteArray) (e : Nat) (he : e ≠ 0) (w : World) (h : RdIs w p r e) : Calls Try.prog 60 #[.pointer (some ⟨p, 0, none⟩)] w fun en w' => en = .returned (.int .i64 e) ∧ RdIs w' p r e ∧ Only p w w' := by
  have := rDone_any p r e w h
  have e1 : doneE r e = e := by unfold doneE failE; rw [if_neg he, ite_self]
  rwa [e1] at this
theorem wU_1 (p v b : Nat) (l : List UInt8) (w : World) (h : WrIs w p l) (hb : b ≠ p) (hfr : Free w p b) (hblt : b < w.heap.size) (hc : w.cell? ⟨b, 0, none⟩ = some (.int .u64 v)) (hl : l.length ≤ 1000000) :
    Calls Try.prog 169 #[.pointer (some ⟨p, 0, none⟩), .slice (some ⟨b, 0, none⟩) 1 1] w fun e w' => e = .returned (.pointer (some ⟨p, 0, none⟩)) ∧ WrIs w' p (l ++ encU v) ∧ Below p w w' ∧ Keeps p w w' := by
  have := wU_any p b 0 [v] l w h hb hfr hblt (by intro i hi; match i, hi with | 0, _ => exact hc) hl (by simp)
  have e1 : encUs [v] = encU v := by simp [encUs]
  rwa [e1] at this
theorem WrIs.only {w w' : World} {p q : Nat} {l : List UInt8} (h : WrIs w p l) (ho : Only q w w') (hq : q < p) : WrIs w' p l := by
  obtain ⟨a, c, hc, hf, hp, hown⟩ := h
  have hb := ho.block p hp (by omega)
  refine ⟨a, c, ho.cell (by omega) hc, (World.frozen?_of_block (w := w) (a := ⟨p, 0, none⟩) hb).trans hf, Nat.lt_of_lt_of_le hp ho.size, ?_⟩
  have hg : w.grownBy w' (some q) := ⟨ho.os, ho.tape, ho.output, ho.size, fun k hk hne => ho.block k hk (fun e => hne (by rw [e]))⟩
  refine hown.kept hg (.inr ?_)
  intro e
  have := hown.lt q e
  omega
theorem RdIs.below {w w' : World} {p q : Nat} {r : ByteArray} {e : Nat} (h : RdIs w q r e) (hb : Below p w w') (hq : q < p) : RdIs w' q r e := by
  obtain ⟨h0, h1, f0, f1, hr⟩ := h
  exact ⟨(Below.cell hb (p := ⟨q, 0, none⟩) hq).trans h0, (Below.cell hb (p := ⟨q, 1, none⟩) hq).trans h1, (Below.frozen hb (p := ⟨q, 0, none⟩) hq).trans f0, (Below.frozen hb (p := ⟨q, 1, none⟩) hq).trans f1, hr⟩
theorem free_new {w : World} {p : Nat} {l : List UInt8} (h : WrIs w p l) (o : Obj) : Free (w.alloc o) p w.heap.size := by
  obtain ⟨a, c, hc, hf, hp, hown⟩ := h
  intro v hv
  rw [((Gr.refl w).alloc o).cell hc] at hv
  simp only [Option.some.injEq] at hv
  subst hv
  intro e
  have := hown.lt _ e
  omega
/-- One number that lies in a new block is written. -/
theorem wU_new (p v b : Nat) (l : List UInt8) (w : World) (h : WrIs w p l) (hb : b = w.heap.size) (hl : l.length ≤ 1000000) :
    Calls Try.prog 169 #[.pointer (some ⟨p, 0, none⟩), .slice (some ⟨b, 0, none⟩) 1 1] (w.alloc (.cells #[.int .u64 v] 48)) fun e w' => e = .returned (.pointer (some ⟨p, 0, none⟩)) ∧ WrIs w' p (l ++ encU v) ∧ Below p w w' := by
  subst hb
  have hp : p < w.heap.size := by obtain ⟨_, _, _, _, hp, _⟩ := h; exact hp
  have hg : Gr w (w.alloc (.cells #[.int .u64 v] 48)) := (Gr.refl w).alloc _
  refine (wU_1 p v w.heap.size l _ (h.gr hg) (by omega) (free_new h _) (by simp) (new_cell rfl rfl) hl).mono ?_
  rintro e w' ⟨he, hW, hB, _⟩
  exact ⟨he, hW, (hg.below.mono (by omega)).trans hB⟩
/-- How far the reading has come: what is written, what is left, the error. -/
def OnceInv (s : ByteArray) (l : List UInt8) (R : ByteArray) (e : Nat) : Prop :=
  (e = 0 ∧ bytesOf s = l ++ bytesOf R) ∨ ((e = 3 ∨ e = 4) ∧ ∃ X : List UInt8, X ≠ [] ∧ bytesOf s = l ++ X)
end Go.Proofs.Ytihhfdkcggnjpaa
namespace Go.Proofs.Ytihhfdkcggnjpaa
open Go.ChangeShapes Go.WideShapes Go.ChangeAt Go.RowKit
set_option linter.unusedVariables false
/-- Bytes of a list. -/
def ofL (l : List UInt8) : ByteArray := ⟨l.toArray⟩
theorem bytesOf_ofL (l : List UInt8) : bytesOf (ofL l) = l := by simp [bytesOf, ofL]
theorem bytesOf_app (a b : ByteArray) : bytesOf (a ++ b) = bytesOf a ++ bytesOf b := by simp [bytesOf]
theorem ofL_app (a b : List UInt8) : ofL a ++ ofL b = ofL (a ++ b) := eB (by rw [bytesOf_app, bytesOf_ofL, bytesOf_ofL, bytesOf_ofL])
theorem ofL_size (l : List UInt8) : (ofL l).size = l.length := by simp [ofL, ByteArray.size]
theorem ofL_bytes (s : ByteArray) : ofL (bytesOf s) = s := eB (bytesOf_ofL _)
theorem conv1u (w : World) (n0 : Nat) (h0 : n0 < 256) :
    (convert 109 9 (.slice (some ⟨w.heap.size, 0, none⟩) 1 1)).run Try.prog (w.alloc (.cells #[.int .u8 n0] 5)) =
      .ok (.string ⟨#[Enc.b8 n0]⟩) (w.alloc (.cells #[.int .u8 n0] 5)) := by
  have := run_convert_bytes_back (P := Try.prog) (w.alloc (.cells #[.int .u8 n0] 5)) 109 9 5 ⟨w.heap.size, 0, none⟩ 1 [Enc.b8 n0] Try.underlying109 Try.underlying5 Try.underlying9 (by
    intro j hj
    have hj' : j < 1 := hj
    match j, hj' with
    | 0, _ => simp [Addr.add, Enc.b8_toNat h0])
  exact this
set_option maxRecDepth 100000 in
set_option maxHeartbeats 400000 in
theorem refWide_any (v n : Nat) (m : Int) (w : World) (hm : m = n) (hv : v < 18446744073709551616) (hn : n ≤ 8) :
    Calls Try.prog 216 #[.int .u64 v, .int .i64 m] w fun e w' => e = .returned (.string (ofL (Enc.wide v n))) ∧ Gr w w' := by
  subst hm
  go_enter Try.func216, Try.ntmps216
  go_wp2
  go_loopw [0, 5, 6] (fun x s i wr => ∃ k : Nat, k ≤ n ∧ i = .int .i64 k ∧ x = .int .u64 (v / 256 ^ k : Nat) ∧ s = .string (ofL (Enc.wide v k)) ∧ Gr w wr) (fun _ _ i _ => n - (intOf i).toNat)
  case atStart => exact ⟨0, by omega, rfl, by simp, rfl, Gr.refl _⟩
  case round =>
    obtain ⟨k, hk, rfl, rfl, rfl, hg⟩ := hrel
    by_cases hlt : k < n
    · have hx : v / 256 ^ k < 18446744073709551616 := Nat.lt_of_le_of_lt (Nat.div_le_self _ _) hv
      have hp : v / 256 ^ (k + 1) = v / 256 ^ k / 256 := by rw [Nat.div_div_eq_div_mul, ← Nat.pow_succ]
      have hd : ofL (Enc.wide v (k + 1)) = ⟨#[Enc.b8 (v / 256 ^ k % 256)]⟩ ++ ofL (Enc.wide v k) := by
        exact (ofL_app [_] _).symm
      have Hp := Lib.hid hp; clear hp
      have Hd := Lib.hid hd; clear hd
      have hz : (ofL (Enc.wide v k)).size ≤ 8 := by rw [ofL_size, Enc.wide_length]; omega
      generalize v / 256 ^ k = x at *
      generalize ofL (Enc.wide v k) = d at *
      have C := conv1u wr (x % 256) (by omega)
      rw [show ((x % 256 : Nat) : Int) = (x : Int) % 256 by omega] at C
      go_wp2
      go_roundw
      case rel => exact ⟨k + 1, by omega, by go_num, by rw [Hp.out]; go_num, by rw [Hd.out], hg.alloc _⟩
      case measure => simp [intOf]; omega
    · obtain rfl : k = n := by omega
      go_wp2
      go_ret
      exact ⟨rfl, hg⟩
set_option maxRecDepth 100000 in
theorem refU_small (v : Nat) (w : World) (hv : v < 252) :
    Calls Try.prog 190 #[.int .u64 v] w fun e w' => e = .returned (.string (ofL (Enc.wide v 1))) ∧ Gr w w' := by
  go_enter Try.func190, Try.ntmps190
  go_wp2_with fail
  refine (refWide_any v 1 _ _ rfl (by omega) (by decide)).mono ?_
  rintro e w2 ⟨rfl, hg⟩
  go_wp2
  go_ret
  exact ⟨rfl, hg⟩
set_option maxRecDepth 100000 in
theorem refU_big (v n : Nat) (x : UInt8) (b c : Bool) (w : World) (hv : Hid (v < 18446744073709551616)) (h1 : decide ((v : Int) < 252) = false) (h2 : decide ((v : Int) < 65536) = b) (h3 : decide ((v : Int) < 4294967296) = c)
    (hn : n = if b then 2 else if c then 4 else 8) (hx : x = if b then 252 else if c then 253 else 254) :
    Calls Try.prog 190 #[.int .u64 v] w fun e w' => e = .returned (.string (⟨#[x]⟩ ++ ofL (Enc.wide v n))) ∧ Gr w w' := by
  have hz : (ofL (Enc.wide v n)).size ≤ 8 := by
    rw [ofL_size, Enc.wide_length, hn]; cases b <;> cases c <;> decide
  cases b <;> cases c <;> simp only [if_true, if_false, Bool.false_eq_true] at hn hx <;> subst hn <;> subst hx <;>
    (go_enter Try.func190, Try.ntmps190
     go_wp2_with fail
     refine (refWide_any v _ _ _ rfl hv.out (by decide)).mono ?_
     rintro e w2 ⟨rfl, hg⟩
     generalize hD : ofL (Enc.wide v _) = D at *
     have HD := Lib.hid hD; clear hD
     go_wp2
     go_ret
     exact ⟨by rw [HD.out]; rfl, hg⟩)
theorem refU_any (v : Nat) (w : World) (hv : v < 18446744073709551616) :
    Calls Try.prog 190 #[.int .u64 v] w fun e w' => e = .returned (.string (ofL (Enc.encU v))) ∧ Gr w w' := by
  by_cases h1 : v < 252
  · have hE : ofL (Enc.encU v) = ofL (Enc.wide v 1) := by
      have : Enc.first v = v := if_pos h1
      unfold Enc.encU; rw [this]
      have h2 : Enc.more v = 0 := by unfold Enc.more; rw [if_neg (by omega), if_neg (by omega), if_neg (by omega)]
      rw [h2]; congr 1
      show [Enc.b8 v] = [Enc.b8 (v / 256 ^ 0 % 256)]
      rw [Nat.pow_zero, Nat.div_one, Nat.mod_eq_of_lt (by omega)]
    rw [hE]
    exact refU_small v w h1
  · have key : ∀ n x, Enc.first v = x → Enc.more x = n → ofL (Enc.encU v) = ⟨#[Enc.b8 x]⟩ ++ ofL (Enc.wide v n) := by
      rintro n x rfl rfl
      exact (ofL_app [_] _).symm
    by_cases h2 : v < 65536
    · rw [key 2 252 (by unfold Enc.first; rw [if_neg h1, if_pos h2]) rfl]
      exact refU_big v 2 _ true _ w (Lib.hid hv) (by simp; omega) (by simp; omega) rfl rfl rfl
    · by_cases h3 : v < 4294967296
      · rw [key 4 253 (by unfold Enc.first; rw [if_neg h1, if_neg h2, if_pos h3]) rfl]
        exact refU_big v 4 _ false true w (Lib.hid hv) (by simp; omega) (by simp; omega) (by simp; omega) rfl rfl
      · rw [key 8 254 (by unfold Enc.first; rw [if_neg h1, if_neg h2, if_neg h3]) rfl]
        exact refU_big v 8 _ false false w (Lib.hid hv) (by simp; omega) (by simp; omega) (by simp; omega) rfl rfl
end Go.Proofs.Ytihhfdkcggnjpaa
namespace Go.Proofs.Ytihhfdkcggnjpaa
open Enc
theorem num8_cons (b : UInt8) (l : List UInt8) : num8 (b :: l) = b.toNat * 256 ^ l.length + num8 l := by
  have hsplit : ∀ (x : Nat) (u : List UInt8), u.foldl (fun n b => 256 * n + b.toNat) x = x * 256 ^ u.length + num8 u := by
    intro x u
    induction u generalizing x with
    | nil => simp [num8]
    | cons c v ihv =>
      rw [List.foldl_cons, ihv]
      have := ihv c.toNat
      simp only [num8, List.foldl_cons, Nat.mul_zero, Nat.zero_add] at *
      rw [this, List.length_cons, Nat.pow_succ]
      rw [Nat.add_mul, Nat.mul_comm 256 x, Nat.mul_assoc, Nat.mul_comm 256]
      omega
  have := hsplit b.toNat l
  unfold num8 at *
  rw [List.foldl_cons, Nat.mul_zero, Nat.zero_add]
  exact this
theorem num8_wide (v : Nat) : ∀ k, num8 (wide v k) = v % 256 ^ k
  | 0 => by simp [wide, num8, Nat.mod_one]
  | k + 1 => by
    rw [wide, num8_cons, wide_length, num8_wide v k, Enc.b8_toNat (Nat.mod_lt _ (by decide)), Nat.pow_succ, Nat.mod_mul]
    rw [Nat.mul_comm, Nat.add_comm]
theorem first_fit (v : Nat) (hv : v < 18446744073709551616) : (more (first v) = 0 ∧ first v = v) ∨ (more (first v) ≠ 0 ∧ v < 256 ^ more (first v)) := by
  unfold first
  split
  · left
    refine ⟨?_, rfl⟩
    unfold more
    rw [if_neg (by omega), if_neg (by omega), if_neg (by omega)]
  · right
    split
    · exact ⟨by decide, by show v < 256 ^ 2; omega⟩
    · split
      · exact ⟨by decide, by show v < 256 ^ 4; omega⟩
      · exact ⟨by decide, by show v < 256 ^ 8; omega⟩
theorem e8_inj {a b : Nat} (ha : a < 256) (hb : b < 256) (h : Enc.b8 a = Enc.b8 b) : a = b := by
  have := congrArg UInt8.toNat h
  rwa [Enc.b8_toNat ha, Enc.b8_toNat hb] at this
/-- What was written is read back. -/
theorem uS_back (R : ByteArray) (v : Nat) (t : List UInt8) (hv : v < 18446744073709551616) (h : bytesOf R = encU v ++ t) : uS R 0 = (ofL t, 0, v) := by
  have hsz : R.size = 1 + more (first v) + t.length := by rw [← lenB, h, List.length_append, encU_length]
  have hb := hd_list R (by omega)
  rw [h, encU, List.cons_append] at hb
  obtain ⟨h1, h2⟩ := List.cons.inj hb
  have hf := e8_inj (by have := first_lt v; omega) (hd_lt R) h1
  have hz : (R.extract 1 R.size).size = R.size - 1 := by simp
  unfold uS
  rw [if_neg (by omega), if_neg (by omega), ← hf]
  generalize R.extract 1 R.size = R1 at *
  unfold uR
  rcases first_fit v hv with ⟨m0, fv⟩ | ⟨m0, fv⟩
  · rw [if_pos m0, fv, if_pos fv]
    rw [m0] at h2
    have : R1 = ofL t := eB (by rw [bytesOf_ofL, ← h2]; rfl)
    rw [this]
  · have hx : bytesOf (R1.extract 0 (more (first v))) = wide v (more (first v)) := by
      rw [exB, ← h2, List.drop_zero, Nat.sub_zero, List.take_append_of_le_length (by rw [wide_length]; omega), List.take_of_length_le (by rw [wide_length]; omega)]
    have hy : R1.extract (more (first v)) R1.size = ofL t := by
      apply eB
      rw [exB, ← h2, bytesOf_ofL, List.drop_append_of_le_length (by rw [wide_length]; omega), List.drop_eq_nil_of_le (by rw [wide_length]; omega), List.nil_append, List.take_of_length_le (by omega)]
    rw [if_neg m0, if_neg (by omega), hx, num8_wide, Nat.mod_eq_of_lt fv, if_pos rfl, hy]
theorem nS_back (R : ByteArray) (v : Nat) (t : List UInt8) (most : Int) (hv : v < 18446744073709551616) (hm : (v : Int) ≤ most) (h : bytesOf R = encU v ++ t) : nS R 0 most = (ofL t, 0, v) := by
  unfold nS
  rw [uS_back R v t hv h, if_neg (by show ¬ (max most 0).toNat < v; omega)]
theorem bS_back (R : ByteArray) (b : Bool) (t : List UInt8) (h : bytesOf R = encB b ++ t) : bS R 0 = (ofL t, 0, b) := by
  have hsz : R.size = 1 + t.length := by rw [← lenB, h, List.length_append]; rfl
  have hb := hd_list R (by omega)
  rw [h] at hb
  obtain ⟨h1, h2⟩ := List.cons.inj (show (if b then 1 else 0) :: t = _ from hb)
  have hf : hd R = if b then 1 else 0 := by
    refine e8_inj (hd_lt R) (by cases b <;> decide) ?_
    exact Eq.trans (b := (if b then 1 else 0 : UInt8)) h1.symm (by cases b <;> rfl)
  have hR : R.extract 1 R.size = ofL t := eB (by rw [bytesOf_ofL, ← h2])
  unfold bS
  rw [if_neg (by omega), if_neg (by omega), hf, hR]
  cases b <;> rfl
theorem sS_back (R S : ByteArray) (t : List UInt8) (most : Int) (hS : S.size ≤ 1000000) (hm : (S.size : Int) ≤ most) (h : bytesOf R = encS (bytesOf S) ++ t) : sS R 0 most = (ofL t, 0, S) := by
  unfold encS at h
  rw [lenB, List.append_assoc] at h
  unfold sS
  rw [nS_back R S.size _ most (by omega) hm h]
  show takeS (ofL (bytesOf S ++ t)) 0 S.size = _
  have hz : (ofL (bytesOf S ++ t)).size = S.size + t.length := by rw [ofL_size, List.length_append, lenB]
  unfold takeS
  rw [if_neg (by omega), if_neg (by omega)]
  have h1 : (ofL (bytesOf S ++ t)).extract S.size (ofL (bytesOf S ++ t)).size = ofL t := by
    apply eB
    rw [exB, bytesOf_ofL, bytesOf_ofL, hz, List.drop_append_of_le_length (by rw [lenB]; omega), List.drop_eq_nil_of_le (by rw [lenB]; omega), List.nil_append, List.take_of_length_le (by omega)]
  have h2 : (ofL (bytesOf S ++ t)).extract 0 S.size = S := by
    apply eB
    rw [exB, bytesOf_ofL, List.drop_zero, Nat.sub_zero, List.take_append_of_le_length (by rw [lenB]; omega), List.take_of_length_le (by rw [lenB]; omega)]
  rw [h1, h2]
end Go.Proofs.Ytihhfdkcggnjpaa
namespace Go.Proofs.Ytihhfdkcggnjpaa
open Go.ChangeShapes Go.WideShapes Go.ChangeAt Go.RowKit
set_option linter.unusedVariables false
/-- A cursor of the reference, as a value. -/
def curV (r : ByteArray) (e : Nat) : Value := .agg #[.string r, .int .i64 (e : Int)]
set_option maxRecDepth 100000 in
theorem refFail_any (r : ByteArray) (e x : Nat) (w : World) :
    Calls Try.prog 213 #[.agg #[.string r, .int .i64 (e : Int)], .int .i64 (x : Int)] w fun en w' => en = .returned (.agg #[.string r, .int .i64 (failE e x : Nat)]) ∧ Gr w w' := by
  by_cases he : e = 0
  · subst he
    go_enter Try.func213, Try.ntmps213
    go_wp2
    exact bodyPost_ret (v := .agg #[.string r, .int .i64 (x : Nat)]) (by simp [results, Try.results213, go_sem]) rfl ⟨rfl, by first | exact (Gr.refl _).alloc _ | exact ((Gr.refl _).alloc _).alloc _⟩
  · have hE : failE e x = e := by unfold failE; rw [if_neg he]
    rw [hE]
    go_enter Try.func213, Try.ntmps213
    go_wp2
    exact bodyPost_ret (v := .agg #[.string r, .int .i64 (e : Nat)]) (by simp [results, Try.results213, go_sem]) rfl ⟨rfl, by first | exact (Gr.refl _).alloc _ | exact ((Gr.refl _).alloc _).alloc _⟩
def RTakeIs (r : ByteArray) (e n : Nat) (w : World) (en : Ending) (w' : World) : Prop :=
  en = .returned (.tuple #[.agg #[.string (takeS r e n).1, .int .i64 ((takeS r e n).2.1 : Nat)], .string (takeS r e n).2.2]) ∧ Gr w w'
theorem rtakeIs_mk {r a c : ByteArray} {e n b : Nat} {w w' : World} (h : Hid (takeS r e n = (a, b, c))) (hg : Gr w w') : RTakeIs r e n w (.returned (.tuple #[.agg #[.string a, .int .i64 (b : Int)], .string c])) w' := by
  unfold RTakeIs; rw [h.out]; exact ⟨rfl, hg⟩
set_option maxRecDepth 100000 in
theorem refTake_any (r : ByteArray) (e n : Nat) (w : World) (hr : r.size ≤ 1000000) (hn : n ≤ 9223372036854775807) :
    Calls Try.prog 181 #[.agg #[.string r, .int .i64 (e : Int)], .int .i64 (n : Int)] w (RTakeIs r e n w) := by
  by_cases he : e = 0
  · subst he
    by_cases hz : r.size < n
    · have HE : Hid (takeS r 0 n = (r, 3, ⟨#[]⟩)) := Lib.hid (by unfold takeS; rw [if_neg (by omega), if_pos hz])
      go_enter Try.func181, Try.ntmps181
      go_wp2
      exact bodyPost_ret (v := .tuple #[.agg #[.string r, .int .i64 (3 : Nat)], .string ⟨#[]⟩]) (by simp [results, Try.results181, go_sem]) rfl (rtakeIs_mk HE (by first | exact (Gr.refl _).alloc _ | exact ((Gr.refl _).alloc _).alloc _ | exact (((Gr.refl _).alloc _).alloc _).drew))
    · have HE : Hid (takeS r 0 n = (r.extract n r.size, 0, r.extract 0 n)) := Lib.hid (by unfold takeS; rw [if_neg (by omega), if_neg hz])
      go_enter Try.func181, Try.ntmps181
      go_wp2
      go_region_with fail
      all_goals
        go_wp2
        exact bodyPost_ret (v := .tuple #[.agg #[.string (r.extract n r.size), .int .i64 (0 : Nat)], .string (r.extract 0 n)]) (by simp [results, Try.results181, go_sem]) rfl (rtakeIs_mk HE (by exact (((Gr.refl _).alloc _).alloc _).drew))
  · have HE : Hid (takeS r e n = (r, e, ⟨#[]⟩)) := Lib.hid (by unfold takeS; rw [if_pos he])
    go_enter Try.func181, Try.ntmps181
    go_wp2
    exact bodyPost_ret (v := .tuple #[.agg #[.string r, .int .i64 (e : Nat)], .string ⟨#[]⟩]) (by simp [results, Try.results181, go_sem]) rfl (rtakeIs_mk HE (by first | exact (Gr.refl _).alloc _ | exact ((Gr.refl _).alloc _).alloc _ | exact (((Gr.refl _).alloc _).alloc _).drew))
end Go.Proofs.Ytihhfdkcggnjpaa
namespace Go.Proofs.Ytihhfdkcggnjpaa
open Go.ChangeShapes Go.WideShapes Go.ChangeAt Go.RowKit
set_option linter.unusedVariables false
set_option linter.unusedSimpArgs false
theorem rtake_is {r a c : ByteArray} {e n b : Nat} (h : takeS r e n = (a, b, c)) (w : World) (hr : r.size ≤ 1000000) (hn : n ≤ 9223372036854775807) :
    Calls Try.prog 181 #[.agg #[.string r, .int .i64 (e : Int)], .int .i64 (n : Int)] w fun en w' => en = .returned (.tuple #[.agg #[.string a, .int .i64 (b : Int)], .string c]) ∧ Gr w w' := by
  have := refTake_any r e n w hr hn
  unfold RTakeIs at this
  rwa [h] at this
def RBIs (r : ByteArray) (e : Nat) (w : World) (en : Ending) (w' : World) : Prop :=
  en = .returned (.tuple #[.agg #[.string (bS r e).1, .int .i64 ((bS r e).2.1 : Nat)], .bool (bS r e).2.2]) ∧ Gr w w'
theorem rbIs_mk {r a : ByteArray} {e b : Nat} {c : Bool} {w w' : World} (h : Hid (bS r e = (a, b, c))) (hg : Gr w w') : RBIs r e w (.returned (.tuple #[.agg #[.string a, .int .i64 (b : Int)], .bool c])) w' := by
  unfold RBIs; rw [h.out]; exact ⟨rfl, hg⟩
set_option maxRecDepth 100000 in
set_option maxHeartbeats 1000000 in
theorem refB_err (r a : ByteArray) (e b : Nat) (w : World) (hr : r.size ≤ 1000000) (hT : Hid (takeS r e 1 = (a, b, ⟨#[]⟩))) (hb : b ≠ 0) (E : Hid (bS r e = (a, b, false))) :
    Calls Try.prog 120 #[.agg #[.string r, .int .i64 (e : Int)]] w (RBIs r e w) := by
  have t1 : ((b : Int) == 0) = false := by simp; omega
  clear hb
  go_enter Try.func120, Try.ntmps120
  go_wp2_with fail
  refine (rtake_is hT.out _ hr (by omega)).mono ?_
  rintro en w1 ⟨rfl, hg⟩
  obtain ⟨oc, of, ol⟩ := hg.own
  have o0 : w1.cell? ⟨w.heap.size + 1, 0, none⟩ = some (.string ⟨#[]⟩) := by simpa using oc 0 _ rfl
  have o1 : w1.cell? ⟨w.heap.size + 1, 1, none⟩ = some (.int .i64 0) := by simpa using oc 1 _ rfl
  have o2 : w1.frozen? ⟨w.heap.size + 1, 0, none⟩ = false := by simpa using of 0
  have o3 : w1.frozen? ⟨w.heap.size + 1, 1, none⟩ = false := by simpa using of 1
  have ol2 : w.heap.size + 1 < w1.heap.size := by simpa using ol
  have HG := Lib.hid (((Gr.refl w).alloc _).alloc _ |>.trans hg)
  clear oc of ol hg
  go_wp2
  first | go_region_with fail | fail
  all_goals
    go_wp2
    exact bodyPost_ret (v := .tuple #[.agg #[.string a, .int .i64 (b : Nat)], .bool false]) (by simp [results, Try.results120, go_sem, o0, o1, o2, o3, ol2, Nat.ne_of_lt ol2, Nat.ne_of_gt ol2]) rfl (rbIs_mk E (by first | exact HG.out.drew | exact HG.out.drew.setCell (by simp; omega) _ | exact (HG.out.drew.setCell (by simp) _).setCell (by simp) _ | exact ((HG.out.drew.setCell (by simp) _).setCell (by simp) _).setCell (by simp) _ | exact ((HG.out.setCell (by simp) _).drew.setCell (by simp) _).setCell (by simp) _ | exact (((HG.out.setCell (by simp) _).setCell (by simp) _).alloc _).drew | exact ((((HG.out.setCell (by simp) _).setCell (by simp) _).setCell (by simp) _).alloc _).drew | (trace_state; fail)))
set_option maxRecDepth 100000 in
set_option maxHeartbeats 1000000 in
theorem refB_some (r r1 S : ByteArray) (m : Nat) (w : World) (hr : r.size ≤ 1000000) (hT : Hid (takeS r 0 1 = (r1, 0, S))) (i0 : 0 < S.size) (hm : True → S[0].toNat = m)
    (hc : 1 < m ∧ Hid (bS r 0 = (r1, 4, false)) ∨ m ≤ 1 ∧ ∃ x : Bool, ((m : Int) == 1) = x ∧ Hid (bS r 0 = (r1, 0, x))) :
    Calls Try.prog 120 #[.agg #[.string r, .int .i64 ((0 : Nat) : Int)]] w (RBIs r 0 w) := by
  rcases hc with ⟨hlt, E⟩ | ⟨hle, x, hx, E⟩
  · have t1 : (1 : Int) < (m : Int) := by omega
    have t2 : ((m : Int) == 1) = false := by simp; omega
    go_enter Try.func120, Try.ntmps120
    go_wp2_with fail
    refine (rtake_is hT.out _ hr (by omega)).mono ?_
    rintro en w1 ⟨rfl, hg⟩
    obtain ⟨oc, of, ol⟩ := hg.own
    have o0 : w1.cell? ⟨w.heap.size + 1, 0, none⟩ = some (.string ⟨#[]⟩) := by simpa using oc 0 _ rfl
    have o1 : w1.cell? ⟨w.heap.size + 1, 1, none⟩ = some (.int .i64 0) := by simpa using oc 1 _ rfl
    have o2 : w1.frozen? ⟨w.heap.size + 1, 0, none⟩ = false := by simpa using of 0
    have o3 : w1.frozen? ⟨w.heap.size + 1, 1, none⟩ = false := by simpa using of 1
    have ol2 : w.heap.size + 1 < w1.heap.size := by simpa using ol
    have HG := Lib.hid (((Gr.refl w).alloc _).alloc _ |>.trans hg)
    clear oc of ol hg
    go_wp2
    first | go_region_with fail | fail
    all_goals
      go_wp2
      exact bodyPost_ret (v := .tuple #[.agg #[.string r1, .int .i64 (4 : Nat)], .bool false]) (by simp [results, Try.results120, go_sem, o0, o1, o2, o3, ol2, Nat.ne_of_lt ol2, Nat.ne_of_gt ol2]) rfl (rbIs_mk E (by first | exact HG.out.drew | exact HG.out.drew.setCell (by simp; omega) _ | exact (HG.out.drew.setCell (by simp) _).setCell (by simp) _ | exact ((HG.out.drew.setCell (by simp) _).setCell (by simp) _).setCell (by simp) _ | exact ((HG.out.setCell (by simp) _).drew.setCell (by simp) _).setCell (by simp) _ | exact (((HG.out.setCell (by simp) _).setCell (by simp) _).alloc _).drew | exact ((((HG.out.setCell (by simp) _).setCell (by simp) _).setCell (by simp) _).alloc _).drew | (trace_state; fail)))
  · have t1 : (m : Int) ≤ 1 := by omega
    cases x
    all_goals
      go_enter Try.func120, Try.ntmps120
      go_wp2_with fail
      refine (rtake_is hT.out _ hr (by omega)).mono ?_
      rintro en w1 ⟨rfl, hg⟩
      obtain ⟨oc, of, ol⟩ := hg.own
      have o0 : w1.cell? ⟨w.heap.size + 1, 0, none⟩ = some (.string ⟨#[]⟩) := by simpa using oc 0 _ rfl
      have o1 : w1.cell? ⟨w.heap.size + 1, 1, none⟩ = some (.int .i64 0) := by simpa using oc 1 _ rfl
      have o2 : w1.frozen? ⟨w.heap.size + 1, 0, none⟩ = false := by simpa using of 0
      have o3 : w1.frozen? ⟨w.heap.size + 1, 1, none⟩ = false := by simpa using of 1
      have ol2 : w.heap.size + 1 < w1.heap.size := by simpa using ol
      have HG := Lib.hid (((Gr.refl w).alloc _).alloc _ |>.trans hg)
      clear oc of ol hg
      go_wp2
      first | go_region_with fail | fail
      all_goals go_wp2
    all_goals first
    | exact bodyPost_ret (v := .tuple #[.agg #[.string r1, .int .i64 (0 : Nat)], .bool false]) (by simp [results, Try.results120, go_sem, o0, o1, o2, o3, ol2, Nat.ne_of_lt ol2, Nat.ne_of_gt ol2]) rfl (rbIs_mk E (by first | exact HG.out.drew | exact HG.out.drew.setCell (by simp; omega) _ | exact (HG.out.drew.setCell (by simp) _).setCell (by simp) _ | exact ((HG.out.drew.setCell (by simp) _).setCell (by simp) _).setCell (by simp) _ | exact ((HG.out.setCell (by simp) _).drew.setCell (by simp) _).setCell (by simp) _ | exact (((HG.out.setCell (by simp) _).setCell (by simp) _).alloc _).drew | exact ((((HG.out.setCell (by simp) _).setCell (by simp) _).setCell (by simp) _).alloc _).drew))
    | exact bodyPost_ret (v := .tuple #[.agg #[.string r1, .int .i64 (0 : Nat)], .bool true]) (by simp [results, Try.results120, go_sem, o0, o1, o2, o3, ol2, Nat.ne_of_lt ol2, Nat.ne_of_gt ol2]) rfl (rbIs_mk E (by first | exact HG.out.drew | exact HG.out.drew.setCell (by simp; omega) _ | exact (HG.out.drew.setCell (by simp) _).setCell (by simp) _ | exact ((HG.out.drew.setCell (by simp) _).setCell (by simp) _).setCell (by simp) _ | exact ((HG.out.setCell (by simp) _).drew.setCell (by simp) _).setCell (by simp) _ | exact (((HG.out.setCell (by simp) _).setCell (by simp) _).alloc _).drew | exact ((((HG.out.setCell (by simp) _).setCell (by simp) _).setCell (by simp) _).alloc _).drew))
theorem refB_any (r : ByteArray) (e : Nat) (w : World) (hr : r.size ≤ 1000000) : Calls Try.prog 120 #[.agg #[.string r, .int .i64 (e : Int)]] w (RBIs r e w) := by
  by_cases he : e = 0
  · subst he
    rcases Nat.lt_or_ge r.size 1 with hz | hz
    · exact refB_err r r 0 3 w hr (Lib.hid (by unfold takeS; rw [if_neg (by omega), if_pos hz])) (by omega) (Lib.hid (by unfold bS; rw [if_neg (by omega), if_pos hz]))
    · have hsz : (r.extract 0 1).size = 1 := by simp; omega
      have i0 : 0 < (r.extract 0 1).size := by omega
      have hm : (r.extract 0 1)[0].toNat = hd r := by unfold hd; rw [dif_pos (show 0 < r.size by omega), ByteArray.getElem_extract]
      have h1 : ¬ r.size < 1 := by omega
      refine refB_some r (r.extract 1 r.size) (r.extract 0 1) (hd r) w hr (Lib.hid (by unfold takeS; rw [if_neg (by omega), if_neg h1])) i0 (fun _ => hm) ?_
      by_cases hk : 1 < hd r
      · exact .inl ⟨hk, Lib.hid (by unfold bS; rw [if_neg (by omega), if_neg h1, if_pos hk])⟩
      · refine .inr ⟨by omega, decide (hd r = 1), ?_, Lib.hid (by unfold bS; rw [if_neg (by omega), if_neg h1, if_neg hk])⟩
        by_cases h2 : hd r = 1
        · rw [h2]; rfl
        · have : ((hd r : Int) == 1) = false := by simp; omega
          rw [this]; simp [h2]
  · exact refB_err r r e e w hr (Lib.hid (by unfold takeS; rw [if_pos he])) he (Lib.hid (by unfold bS; rw [if_pos he]))
end Go.Proofs.Ytihhfdkcggnjpaa
namespace Go.Proofs.Ytihhfdkcggnjpaa
open Go.ChangeShapes Go.WideShapes Go.ChangeAt Go.RowKit
open Enc
set_option linter.unusedVariables false
set_option linter.unusedSimpArgs false
def RUIs (r : ByteArray) (e : Nat) (w : World) (en : Ending) (w' : World) : Prop :=
  en = .returned (.tuple #[.agg #[.string (uS r e).1, .int .i64 ((uS r e).2.1 : Nat)], .int .u64 ((uS r e).2.2 : Nat)]) ∧ Gr w w'
theorem ruIs_mk {r a : ByteArray} {e b c : Nat} {w w' : World} (h : Hid (uS r e = (a, b, c))) (hg : Gr w w') : RUIs r e w (.returned (.tuple #[.agg #[.string a, .int .i64 (b : Int)], .int .u64 (c : Int)])) w' := by
  unfold RUIs; rw [h.out]; exact ⟨rfl, hg⟩
theorem toL_iff (R G : ByteArray) : R.toList = G.toList ↔ R = G := by
  constructor
  · intro h
    rw [ByteArray.toList_eq, ByteArray.toList_eq] at h
    exact ByteArray.ext (Array.toList_inj.1 h)
  · rintro rfl; rfl
theorem hole_whole (r : ByteArray) : r.extract 0 r.size = r := by
  have := ByteArray.extract_zero_size (b := r); exact this
set_option maxRecDepth 100000 in
set_option maxHeartbeats 1000000 in
theorem refU_err (r a : ByteArray) (e b : Nat) (w : World) (hr : r.size ≤ 1000000) (hT : Hid (takeS r e 1 = (a, b, ⟨#[]⟩))) (hb : b ≠ 0) (E : Hid (uS r e = (a, b, 0))) :
    Calls Try.prog 180 #[.agg #[.string r, .int .i64 (e : Int)]] w (RUIs r e w) := by
  have t1 : ((b : Int) != 0) = true := by simp; omega
  clear hb
  go_enter Try.func180, Try.ntmps180
  go_wp2_with fail
  refine (rtake_is hT.out _ hr (by omega)).mono ?_
  rintro en w1 ⟨rfl, hg⟩
  have o0 : w1.cell? ⟨w.heap.size + 1, 0, none⟩ = some (.string ⟨#[]⟩) := by simpa using hg.own.1 0 _ rfl
  have o1 : w1.cell? ⟨w.heap.size + 1, 1, none⟩ = some (.int .i64 0) := by simpa using hg.own.1 1 _ rfl
  have o2 : w1.frozen? ⟨w.heap.size + 1, 0, none⟩ = false := by simpa using hg.own.2.1 0
  have o3 : w1.frozen? ⟨w.heap.size + 1, 1, none⟩ = false := by simpa using hg.own.2.1 1
  have ol2 : w.heap.size + 1 < w1.heap.size := by simpa using hg.own.2.2
  have HG := Lib.hid (((Gr.refl w).alloc _).alloc _ |>.trans hg)
  clear hg
  go_wp2
  exact bodyPost_ret (v := .tuple #[.agg #[.string a, .int .i64 (b : Nat)], .int .u64 ((0 : Nat))]) (by simp [results, Try.results180, go_sem, o0, o1, o2, o3, ol2, Nat.ne_of_lt ol2, Nat.ne_of_gt ol2]) rfl (ruIs_mk E (((HG.out.setCell (Nat.le_succ _) _).setCell (Nat.le_succ _) _).alloc _))
set_option maxRecDepth 100000 in
set_option maxHeartbeats 1000000 in
theorem refU_255 (r r1 S : ByteArray) (w : World) (hr : r.size ≤ 1000000) (hT : Hid (takeS r 0 1 = (r1, 0, S))) (i0 : 0 < S.size) (hm : True → S[0].toNat = 255) (E : Hid (uS r 0 = (r1, 4, 0))) :
    Calls Try.prog 180 #[.agg #[.string r, .int .i64 ((0 : Nat) : Int)]] w (RUIs r 0 w) := by
  go_enter Try.func180, Try.ntmps180
  go_wp2_with fail
  refine (rtake_is hT.out _ hr (by omega)).mono ?_
  rintro en w1 ⟨rfl, hg⟩
  have o0 : w1.cell? ⟨w.heap.size + 1, 0, none⟩ = some (.string ⟨#[]⟩) := by simpa using hg.own.1 0 _ rfl
  have o1 : w1.cell? ⟨w.heap.size + 1, 1, none⟩ = some (.int .i64 0) := by simpa using hg.own.1 1 _ rfl
  have o2 : w1.frozen? ⟨w.heap.size + 1, 0, none⟩ = false := by simpa using hg.own.2.1 0
  have o3 : w1.frozen? ⟨w.heap.size + 1, 1, none⟩ = false := by simpa using hg.own.2.1 1
  have ol2 : w.heap.size + 1 < w1.heap.size := by simpa using hg.own.2.2
  have HG := Lib.hid (((Gr.refl w).alloc _).alloc _ |>.trans hg)
  clear hg
  go_wp2_with fail
  refine (refFail_any r1 0 4 _).mono ?_
  rintro en w2 ⟨rfl, hg⟩
  have hx := ((Gr.refl w1).alloc (.cells #[.string r1, .int .i64 (0 : Nat)] 181)).trans hg
  have c0 := hg.own.1 0 _ rfl
  have c1 := hg.own.1 1 _ rfl
  replace o2 := (hx.frozen (o := 0) (cell_lt o0)).trans o2
  replace o3 := (hx.frozen (o := 1) (cell_lt o1)).trans o3
  replace o0 := hx.cell o0
  replace o1 := hx.cell o1
  have HG2 := Lib.hid (HG.out.trans hx)
  clear hg hx ol2
  have ol2 := cell_lt o0
  have e4 : failE 0 4 = 4 := rfl
  rw [e4]
  go_wp2
  exact bodyPost_ret (v := .tuple #[.agg #[.string r1, .int .i64 (4 : Nat)], .int .u64 ((0 : Nat))]) (by simp [results, Try.results180, go_sem, o0, o1, o2, o3, ol2, Nat.ne_of_lt ol2, Nat.ne_of_gt ol2]) rfl (ruIs_mk E ((HG2.out.setCell (Nat.le_succ _) _).setCell (Nat.le_succ _) _))
set_option maxRecDepth 100000 in
set_option maxHeartbeats 1000000 in
theorem refU_one (r r1 S : ByteArray) (m : Nat) (w : World) (hr : r.size ≤ 1000000) (hr1 : r1.size ≤ 1000000) (hT : Hid (takeS r 0 1 = (r1, 0, S))) (hT2 : Hid (takeS r1 0 0 = (r1, 0, ⟨#[]⟩))) (i0 : 0 < S.size) (hm : True → S[0].toNat = m) (hml : m < 252) (E : Hid (uS r 0 = (r1, 0, m))) :
    Calls Try.prog 180 #[.agg #[.string r, .int .i64 ((0 : Nat) : Int)]] w (RUIs r 0 w) := by
  have t1 : ((m : Int) == 252) = false := by simp; omega
  have t2 : ((m : Int) == 253) = false := by simp; omega
  have t3 : ((m : Int) == 254) = false := by simp; omega
  have t4 : ((m : Int) == 255) = false := by simp; omega
  go_enter Try.func180, Try.ntmps180
  go_wp2_with fail
  refine (rtake_is hT.out _ hr (by omega)).mono ?_
  rintro en w1 ⟨rfl, hg⟩
  have o0 : w1.cell? ⟨w.heap.size + 1, 0, none⟩ = some (.string ⟨#[]⟩) := by simpa using hg.own.1 0 _ rfl
  have o1 : w1.cell? ⟨w.heap.size + 1, 1, none⟩ = some (.int .i64 0) := by simpa using hg.own.1 1 _ rfl
  have o2 : w1.frozen? ⟨w.heap.size + 1, 0, none⟩ = false := by simpa using hg.own.2.1 0
  have o3 : w1.frozen? ⟨w.heap.size + 1, 1, none⟩ = false := by simpa using hg.own.2.1 1
  have ol2 : w.heap.size + 1 < w1.heap.size := by simpa using hg.own.2.2
  have HG := Lib.hid (((Gr.refl w).alloc _).alloc _ |>.trans hg)
  clear hg
  go_wp2_with fail
  refine (rtake_is hT2.out _ hr1 (by omega)).mono ?_
  rintro en w2 ⟨rfl, hg⟩
  have hx := ((Gr.refl w1).alloc (.cells #[.string r1, .int .i64 (0 : Nat)] 181)).trans hg
  have c0 := hg.own.1 0 _ rfl
  have c1 := hg.own.1 1 _ rfl
  replace o2 := (hx.frozen (o := 0) (cell_lt o0)).trans o2
  replace o3 := (hx.frozen (o := 1) (cell_lt o1)).trans o3
  replace o0 := hx.cell o0
  replace o1 := hx.cell o1
  have HG2 := Lib.hid (HG.out.trans hx)
  clear hg hx ol2
  have ol2 := cell_lt o0
  go_wp2
  go_region
  go_wp2
  exact bodyPost_ret (v := .tuple #[.agg #[.string r1, .int .i64 (0 : Nat)], .int .u64 ((m : Nat))]) (by simp [results, Try.results180, go_sem, o0, o1, o2, o3, ol2, Nat.ne_of_lt ol2, Nat.ne_of_gt ol2]) rfl (ruIs_mk E ((((HG2.out.setCell (Nat.le_succ _) _).setCell (Nat.le_succ _) _).alloc _).drew))
theorem less_size (T : ByteArray) {n : Nat} (h : T.size = n) : (bytesOf T).length = n := by simp [bytesOf]; exact h
set_option maxRecDepth 100000 in
set_option maxHeartbeats 2000000 in
theorem refU_short (r r1 S : ByteArray) (m n : Nat) (w : World) (hr : r.size ≤ 1000000) (hr1 : r1.size ≤ 1000000) (hT : Hid (takeS r 0 1 = (r1, 0, S))) (hT2 : Hid (takeS r1 0 n = (r1, 3, ⟨#[]⟩))) (i0 : 0 < S.size) (hm : True → S[0].toNat = m) (hmn : (m = 252 ∧ n = 2) ∨ (m = 253 ∧ n = 4) ∨ (m = 254 ∧ n = 8)) (E : Hid (uS r 0 = (r1, 3, 0))) :
    Calls Try.prog 180 #[.agg #[.string r, .int .i64 ((0 : Nat) : Int)]] w (RUIs r 0 w) := by
  rcases hmn with ⟨rfl, rfl⟩ | ⟨rfl, rfl⟩ | ⟨rfl, rfl⟩
  all_goals
    go_enter Try.func180, Try.ntmps180
    go_wp2_with fail
    refine (rtake_is hT.out _ hr (by omega)).mono ?_
    rintro en w1 ⟨rfl, hg⟩
    have o0 : w1.cell? ⟨w.heap.size + 1, 0, none⟩ = some (.string ⟨#[]⟩) := by simpa using hg.own.1 0 _ rfl
    have o1 : w1.cell? ⟨w.heap.size + 1, 1, none⟩ = some (.int .i64 0) := by simpa using hg.own.1 1 _ rfl
    have o2 : w1.frozen? ⟨w.heap.size + 1, 0, none⟩ = false := by simpa using hg.own.2.1 0
    have o3 : w1.frozen? ⟨w.heap.size + 1, 1, none⟩ = false := by simpa using hg.own.2.1 1
    have ol2 : w.heap.size + 1 < w1.heap.size := by simpa using hg.own.2.2
    have HG := Lib.hid (((Gr.refl w).alloc _).alloc _ |>.trans hg)
    clear hg
    go_wp2_with fail
    refine (rtake_is hT2.out _ hr1 (by omega)).mono ?_
    rintro en w2 ⟨rfl, hg⟩
    have hx := ((Gr.refl w1).alloc (.cells #[.string r1, .int .i64 (0 : Nat)] 181)).trans hg
    have c0 := hg.own.1 0 _ rfl
    have c1 := hg.own.1 1 _ rfl
    replace o2 := (hx.frozen (o := 0) (cell_lt o0)).trans o2
    replace o3 := (hx.frozen (o := 1) (cell_lt o1)).trans o3
    replace o0 := hx.cell o0
    replace o1 := hx.cell o1
    have HG2 := Lib.hid (HG.out.trans hx)
    clear hg hx ol2
    have ol2 := cell_lt o0
    go_wp2
    exact bodyPost_ret (v := .tuple #[.agg #[.string r1, .int .i64 (3 : Nat)], .int .u64 ((0 : Nat))]) (by simp [results, Try.results180, go_sem, o0, o1, o2, o3, ol2, Nat.ne_of_lt ol2, Nat.ne_of_gt ol2]) rfl (ruIs_mk E (((HG2.out.setCell (Nat.le_succ _) _).setCell (Nat.le_succ _) _).alloc _))
set_option maxRecDepth 100000 in
set_option maxHeartbeats 4000000 in
theorem refU_more (r r1 r2 S T : ByteArray) (m n v b : Nat) (w : World) (hr : r.size ≤ 1000000) (hr1 : r1.size ≤ 1000000) (hT : Hid (takeS r 0 1 = (r1, 0, S))) (hT2 : Hid (takeS r1 0 n = (r2, 0, T))) (i0 : 0 < S.size) (hm : True → S[0].toNat = m) (hmn : (m = 252 ∧ n = 2) ∨ (m = 253 ∧ n = 4) ∨ (m = 254 ∧ n = 8))
    (hTn : T.size = n) (hS1 : S.size = 1) (hv : Hid (num8 (bytesOf T) = v)) (E0 : Hid (b = 0 ∧ uS r 0 = (r2, 0, v) ∧ ofL (encU v) = S ++ T ∨ b = 4 ∧ uS r 0 = (r2, 4, 0) ∧ ofL (encU v) ≠ S ++ T)) :
    Calls Try.prog 180 #[.agg #[.string r, .int .i64 ((0 : Nat) : Int)]] w (RUIs r 0 w) := by
  have hvl : v < 18446744073709551616 := by
    have := num8_lt (bytesOf T)
    rw [hv.out, less_size T hTn] at this
    exact Nat.lt_of_lt_of_le this (Nat.le_trans (Nat.pow_le_pow_right (n := 256) (by decide) (show n ≤ 8 by omega)) (by decide))
  rcases hmn with ⟨rfl, rfl⟩ | ⟨rfl, rfl⟩ | ⟨rfl, rfl⟩
  all_goals
    go_enter Try.func180, Try.ntmps180
    go_wp2_with fail
    refine (rtake_is hT.out _ hr (by omega)).mono ?_
    rintro en w1 ⟨rfl, hg⟩
    have o0 : w1.cell? ⟨w.heap.size + 1, 0, none⟩ = some (.string ⟨#[]⟩) := by simpa using hg.own.1 0 _ rfl
    have o1 : w1.cell? ⟨w.heap.size + 1, 1, none⟩ = some (.int .i64 0) := by simpa using hg.own.1 1 _ rfl
    have o2 : w1.frozen? ⟨w.heap.size + 1, 0, none⟩ = false := by simpa using hg.own.2.1 0
    have o3 : w1.frozen? ⟨w.heap.size + 1, 1, none⟩ = false := by simpa using hg.own.2.1 1
    have ol2 : w.heap.size + 1 < w1.heap.size := by simpa using hg.own.2.2
    have HG := Lib.hid (((Gr.refl w).alloc _).alloc _ |>.trans hg)
    clear hg
    go_wp2_with fail
    refine (rtake_is hT2.out _ hr1 (by omega)).mono ?_
    rintro en w2 ⟨rfl, hg⟩
    have hx := ((Gr.refl w1).alloc (.cells #[.string r1, .int .i64 (0 : Nat)] 181)).trans hg
    have c0 := hg.own.1 0 _ rfl
    have c1 := hg.own.1 1 _ rfl
    replace o2 := (hx.frozen (o := 0) (cell_lt o0)).trans o2
    replace o3 := (hx.frozen (o := 1) (cell_lt o1)).trans o3
    replace o0 := hx.cell o0
    replace o1 := hx.cell o1
    have HG2 := Lib.hid (HG.out.trans hx)
    clear hg hx ol2
    have ol2 := cell_lt o0
    go_wp2
    go_loop [9, 10] (fun a i => ∃ k : Nat, k ≤ T.size ∧ i = .int .i64 k ∧ a = .int .u64 (num8 ((bytesOf T).take k) : Nat)) (fun _ i => T.size - (intOf i).toNat)
    case atStart => exact ⟨0, by omega, rfl, rfl⟩
    case round =>
      obtain ⟨k, hk, rfl, rfl⟩ := hrel
      by_cases hlt : k < T.size
      · have hts := Lib.hid (take_snoc T k hlt)
        have hb := T[k].toNat_lt
        generalize hC : num8 ((bytesOf T).take k) = D at *
        have HC := Lib.hid hC; clear hC
        have hCl : D < 72057594037927936 := by
          have h1 := num8_lt ((bytesOf T).take k)
          rw [HC.out] at h1
          have h2 : ((bytesOf T).take k).length ≤ 7 := by simp; omega
          exact Nat.lt_of_lt_of_le h1 (Nat.le_trans (Nat.pow_le_pow_right (n := 256) (by decide) h2) (by decide))
        have hlt2 := Lib.hid hlt
        go_wp2
        go_round
        case rel => exact ⟨k + 1, by omega, by go_num, by rw [hts.out, num8_snoc, HC.out]; go_num⟩
        case measure => simp [intOf]; omega
      · obtain rfl : k = T.size := by omega
        have HE := Lib.hid (take_size T)
        rw [HE.out, hv.out]
        go_wp2_with fail
        refine (refU_any v _ hvl).mono ?_
        rintro en w3 ⟨rfl, hg⟩
        have hx := ((Gr.refl w2).alloc (.cells #[.string r2, .int .i64 (0 : Nat)] 181)).trans hg
        have d0 := hg.own.1 0 _ rfl
        have d1 := hg.own.1 1 _ rfl
        replace o2 := (hx.frozen (o := 0) (cell_lt o0)).trans o2
        replace o3 := (hx.frozen (o := 1) (cell_lt o1)).trans o3
        replace o0 := hx.cell o0
        replace o1 := hx.cell o1
        have HG3 := Lib.hid (HG2.out.trans hx)
        clear hg hx ol2
        have ol2 := cell_lt o0
        rcases E0.out with ⟨rfl, E1, h3⟩ | ⟨rfl, E1, h3⟩
        · have E := Lib.hid E1
          rw [h3]
          clear E1 h3
          go_wp2
          exact bodyPost_ret (v := .tuple #[.agg #[.string r2, .int .i64 (0 : Nat)], .int .u64 ((v : Nat))]) (by simp [results, Try.results180, go_sem, o0, o1, o2, o3, ol2, Nat.ne_of_lt ol2, Nat.ne_of_gt ol2]) rfl (ruIs_mk E ((HG3.out.setCell (Nat.le_succ _) _).setCell (Nat.le_succ _) _))
        · have E := Lib.hid E1
          generalize ofL (encU v) = Q at *
          have hQ : (Q.toList == (S ++ T).toList) = false := by rw [beq_eq_false_iff_ne]; exact fun e => h3 ((toL_iff _ _).1 e)
          clear E1 h3
          go_wp2_with fail
          refine (refFail_any r2 0 4 _).mono ?_
          rintro en w4 ⟨rfl, hg⟩
          replace o2 := (hg.frozen (o := 0) (cell_lt o0)).trans o2
          replace o3 := (hg.frozen (o := 1) (cell_lt o1)).trans o3
          replace o0 := hg.cell o0
          replace o1 := hg.cell o1
          have HG4 := Lib.hid (HG3.out.trans hg)
          clear hg ol2
          have ol2 := cell_lt o0
          have e4 : failE 0 4 = 4 := rfl
          rw [e4]
          go_wp2
          exact bodyPost_ret (v := .tuple #[.agg #[.string r2, .int .i64 (4 : Nat)], .int .u64 ((0 : Nat))]) (by simp [results, Try.results180, go_sem, o0, o1, o2, o3, ol2, Nat.ne_of_lt ol2, Nat.ne_of_gt ol2]) rfl (ruIs_mk E ((HG4.out.setCell (Nat.le_succ _) _).setCell (Nat.le_succ _) _))
theorem uS_first {r : ByteArray} (hz : 1 ≤ r.size) : uS r 0 = uR (r.extract 1 r.size) (hd r) := by unfold uS; rw [if_neg (by omega), if_neg (by omega)]
theorem takeS_one {r : ByteArray} (hz : 1 ≤ r.size) : takeS r 0 1 = (r.extract 1 r.size, 0, r.extract 0 1) := by unfold takeS; rw [if_neg (by omega), if_neg (by omega)]
theorem first_of (r : ByteArray) (hz : 1 ≤ r.size) : (r.extract 0 1).size = 1 ∧ ∀ h : 0 < (r.extract 0 1).size, (r.extract 0 1)[0].toNat = hd r := by
  have hs : (r.extract 0 1).size = 1 := by simp; omega
  refine ⟨hs, fun h => ?_⟩
  unfold hd
  rw [dif_pos (show 0 < r.size by omega)]
  simp [ByteArray.getElem_extract]
/-- The bytes of a number's one form. -/
theorem form_iff {S T : ByteArray} {m v : Nat} (hS1 : S.size = 1) (hm : ∀ h : 0 < S.size, S[0].toNat = m) (hn : more m ≠ 0) (hT : T.size = more m) (hv : num8 (bytesOf T) = v) : ofL (encU v) = S ++ T ↔ first v = m := by
  have hSb : bytesOf S = [b8 m] := by
    have hl : (bytesOf S).length = 1 := by simp [bytesOf]; exact hS1
    match hb : bytesOf S, hl with
    | [x], _ =>
      have h0 := hm (by omega)
      have : x = S[0]'(by omega) := by
        have h1 : (bytesOf S)[0]? = some x := by rw [hb]; rfl
        unfold bytesOf at h1
        rw [List.getElem?_eq_getElem (by simp; omega)] at h1
        simp at h1
        exact h1.symm
      rw [this, ← h0, b8_byte]
  have hml : m < 256 := by rw [← hm (by omega)]; exact UInt8.toNat_lt _
  constructor
  · intro h
    have h2 : encU v = bytesOf (S ++ T) := by rw [← h, bytesOf_ofL]
    rw [bytesOf_app, hSb] at h2
    unfold encU at h2
    simp only [List.cons_append, List.nil_append, List.cons.injEq] at h2
    exact e8_inj (by have := first_lt v; omega) hml h2.1
  · intro h
    apply eB
    rw [bytesOf_ofL, bytesOf_app, hSb]
    unfold encU
    rw [h]
    show b8 m :: _ = b8 m :: _
    congr 1
    have hl := less_size T hT
    have h8 := wide_num8 (bytesOf T)
    rw [hl, hv] at h8
    exact h8
theorem refU2_any (r : ByteArray) (e : Nat) (w : World) (hr : r.size ≤ 1000000) : Calls Try.prog 180 #[.agg #[.string r, .int .i64 (e : Int)]] w (RUIs r e w) := by
  by_cases he : e = 0
  · subst he
    by_cases hz : r.size < 1
    · exact refU_err r r 0 3 w hr (Lib.hid (by unfold takeS; rw [if_neg (by omega), if_pos hz])) (by decide) (Lib.hid (by unfold uS; rw [if_neg (by omega), if_pos hz]))
    · have h1 : 1 ≤ r.size := by omega
      obtain ⟨hS1, hm⟩ := first_of r h1
      have hT := Lib.hid (takeS_one h1)
      have hU := uS_first h1
      have hml := hd_lt r
      have hr1 : (r.extract 1 r.size).size ≤ 1000000 := by simp; omega
      have i0 : 0 < (r.extract 0 1).size := by omega
      generalize r.extract 1 r.size = r1 at *
      generalize r.extract 0 1 = S at *
      generalize hd r = m at *
      by_cases h255 : m = 255
      · subst h255
        exact refU_255 r r1 S w hr hT i0 (fun _ => hm i0) (Lib.hid (by rw [hU]; rfl))
      · by_cases h252 : m < 252
        · refine refU_one r r1 S m w hr hr1 hT (Lib.hid ?_) i0 (fun _ => hm i0) h252 (Lib.hid ?_)
          · unfold takeS; rw [if_neg (by omega), if_neg (by omega), hole_whole, ByteArray.extract_same]; rfl
          · have hmo : more m = 0 := by unfold more; rw [if_neg (by omega), if_neg (by omega), if_neg (by omega)]
            have hfi : first m = m := if_pos h252
            rw [hU]; unfold uR; rw [if_pos hmo, if_pos hfi]
        · have hmn : (m = 252 ∧ more m = 2) ∨ (m = 253 ∧ more m = 4) ∨ (m = 254 ∧ more m = 8) := by
            obtain rfl | rfl | rfl : m = 252 ∨ m = 253 ∨ m = 254 := by omega
            · exact .inl ⟨rfl, rfl⟩
            · exact .inr (.inl ⟨rfl, rfl⟩)
            · exact .inr (.inr ⟨rfl, rfl⟩)
          have hmo : more m ≠ 0 := by omega
          by_cases hs : r1.size < more m
          · refine refU_short r r1 S m (more m) w hr hr1 hT (Lib.hid ?_) i0 (fun _ => hm i0) hmn (Lib.hid ?_)
            · unfold takeS; rw [if_neg (by omega), if_pos hs]
            · rw [hU]; unfold uR; rw [if_neg hmo, if_pos hs]
          · have hTn : (r1.extract 0 (more m)).size = more m := by simp; omega
            have hf := form_iff (m := m) (v := num8 (bytesOf (r1.extract 0 (more m)))) hS1 hm hmo hTn rfl
            have hU2 : uS r 0 = if first (num8 (bytesOf (r1.extract 0 (more m)))) = m then (r1.extract (more m) r1.size, 0, num8 (bytesOf (r1.extract 0 (more m)))) else (r1.extract (more m) r1.size, 4, 0) := by
              rw [hU]; unfold uR; rw [if_neg hmo, if_neg hs]
            have hT2 : takeS r1 0 (more m) = (r1.extract (more m) r1.size, 0, r1.extract 0 (more m)) := by unfold takeS; rw [if_neg (by omega), if_neg hs]
            by_cases hc : first (num8 (bytesOf (r1.extract 0 (more m)))) = m
            · exact refU_more r r1 _ S _ m (more m) _ 0 w hr hr1 hT (Lib.hid hT2) i0 (fun _ => hm i0) hmn hTn hS1 (Lib.hid rfl) (Lib.hid (.inl ⟨rfl, by rw [hU2, if_pos hc], hf.2 hc⟩))
            · exact refU_more r r1 _ S _ m (more m) _ 4 w hr hr1 hT (Lib.hid hT2) i0 (fun _ => hm i0) hmn hTn hS1 (Lib.hid rfl) (Lib.hid (.inr ⟨rfl, by rw [hU2, if_neg hc], fun h => hc (hf.1 h)⟩))
  · exact refU_err r r e e w hr (Lib.hid (by unfold takeS; rw [if_pos he])) he (Lib.hid (by unfold uS; rw [if_pos he]))
end Go.Proofs.Ytihhfdkcggnjpaa
namespace Go.Proofs.Ytihhfdkcggnjpaa
open Go.ChangeShapes Go.WideShapes Go.ChangeAt Go.RowKit
open Enc
set_option linter.unusedVariables false
set_option linter.unusedSimpArgs false
theorem ru_is {r a : ByteArray} {e b c : Nat} (h : uS r e = (a, b, c)) (w : World) (hr : r.size ≤ 1000000) :
    Calls Try.prog 180 #[.agg #[.string r, .int .i64 (e : Int)]] w fun en w' => en = .returned (.tuple #[.agg #[.string a, .int .i64 (b : Int)], .int .u64 (c : Int)]) ∧ Gr w w' := by
  have := refU2_any r e w hr
  unfold RUIs at this
  rwa [h] at this
def RNIs (r : ByteArray) (e : Nat) (most : Int) (w : World) (en : Ending) (w' : World) : Prop :=
  en = .returned (.tuple #[.agg #[.string (nS r e most).1, .int .i64 ((nS r e most).2.1 : Nat)], .int .i64 ((nS r e most).2.2 : Nat)]) ∧ Gr w w'
theorem rnIs_mk {r a : ByteArray} {e b c : Nat} {most : Int} {w w' : World} (h : Hid (nS r e most = (a, b, c))) (hg : Gr w w') : RNIs r e most w (.returned (.tuple #[.agg #[.string a, .int .i64 (b : Int)], .int .i64 (c : Int)])) w' := by
  unfold RNIs; rw [h.out]; exact ⟨rfl, hg⟩
set_option maxRecDepth 100000 in
set_option maxHeartbeats 1000000 in
theorem refN_walk (r a : ByteArray) (e b c : Nat) (most : Int) (M : Nat) (hM : most < 0 ∧ M = 0 ∨ most = (M : Int)) (hb : most ≤ 9223372036854775807) (w : World) (hr : r.size ≤ 1000000) (hu : Hid (uS r e = (a, b, c)))
    (hc : b = 0 ∧ M < c ∧ Hid (nS r e most = (a, 6, 0)) ∨ b = 0 ∧ c ≤ M ∧ Hid (nS r e most = (a, 0, c)) ∨ b ≠ 0 ∧ Hid (nS r e most = (a, b, 0))) :
    Calls Try.prog 118 #[.agg #[.string r, .int .i64 (e : Int)], .int .i64 most] w (RNIs r e most w) := by
  rcases hM with ⟨hneg, rfl⟩ | rfl
  all_goals
    rcases hc with ⟨rfl, hlt, E⟩ | ⟨rfl, hle, E⟩ | ⟨hbn, E⟩
    · go_enter Try.func118, Try.ntmps118
      go_wp2_with fail
      refine (ru_is hu.out _ hr).mono ?_
      rintro en w1 ⟨rfl, hg⟩
      have o0 : w1.cell? ⟨w.heap.size + 1, 0, none⟩ = some (.string ⟨#[]⟩) := by simpa using hg.own.1 0 _ rfl
      have o1 : w1.cell? ⟨w.heap.size + 1, 1, none⟩ = some (.int .i64 0) := by simpa using hg.own.1 1 _ rfl
      have o2 : w1.frozen? ⟨w.heap.size + 1, 0, none⟩ = false := by simpa using hg.own.2.1 0
      have o3 : w1.frozen? ⟨w.heap.size + 1, 1, none⟩ = false := by simpa using hg.own.2.1 1
      have ol2 : w.heap.size + 1 < w1.heap.size := by simpa using hg.own.2.2
      have HG := Lib.hid (((Gr.refl w).alloc _).alloc _ |>.trans hg)
      clear hg
      go_wp2
      exact bodyPost_ret (v := .tuple #[.agg #[.string a, .int .i64 (6 : Nat)], .int .i64 (0 : Nat)]) (by simp [results, Try.results118, go_sem, o0, o1, o2, o3, ol2, Nat.ne_of_lt ol2, Nat.ne_of_gt ol2]) rfl (rnIs_mk E (((HG.out.setCell (Nat.le_succ _) _).setCell (Nat.le_succ _) _).alloc _))
    · go_enter Try.func118, Try.ntmps118
      go_wp2_with fail
      refine (ru_is hu.out _ hr).mono ?_
      rintro en w1 ⟨rfl, hg⟩
      have o0 : w1.cell? ⟨w.heap.size + 1, 0, none⟩ = some (.string ⟨#[]⟩) := by simpa using hg.own.1 0 _ rfl
      have o1 : w1.cell? ⟨w.heap.size + 1, 1, none⟩ = some (.int .i64 0) := by simpa using hg.own.1 1 _ rfl
      have o2 : w1.frozen? ⟨w.heap.size + 1, 0, none⟩ = false := by simpa using hg.own.2.1 0
      have o3 : w1.frozen? ⟨w.heap.size + 1, 1, none⟩ = false := by simpa using hg.own.2.1 1
      have ol2 : w.heap.size + 1 < w1.heap.size := by simpa using hg.own.2.2
      have HG := Lib.hid (((Gr.refl w).alloc _).alloc _ |>.trans hg)
      clear hg
      go_wp2
      exact bodyPost_ret (v := .tuple #[.agg #[.string a, .int .i64 (0 : Nat)], .int .i64 (c : Nat)]) (by simp [results, Try.results118, go_sem, o0, o1, o2, o3, ol2, Nat.ne_of_lt ol2, Nat.ne_of_gt ol2]) rfl (rnIs_mk E (((HG.out.setCell (Nat.le_succ _) _).setCell (Nat.le_succ _) _).alloc _))
    · have t1 : ((b : Int) == 0) = false := by simp; omega
      have t2 : ((b : Int) != 0) = true := by simp; omega
      clear hbn
      go_enter Try.func118, Try.ntmps118
      go_wp2_with fail
      refine (ru_is hu.out _ hr).mono ?_
      rintro en w1 ⟨rfl, hg⟩
      have o0 : w1.cell? ⟨w.heap.size + 1, 0, none⟩ = some (.string ⟨#[]⟩) := by simpa using hg.own.1 0 _ rfl
      have o1 : w1.cell? ⟨w.heap.size + 1, 1, none⟩ = some (.int .i64 0) := by simpa using hg.own.1 1 _ rfl
      have o2 : w1.frozen? ⟨w.heap.size + 1, 0, none⟩ = false := by simpa using hg.own.2.1 0
      have o3 : w1.frozen? ⟨w.heap.size + 1, 1, none⟩ = false := by simpa using hg.own.2.1 1
      have ol2 : w.heap.size + 1 < w1.heap.size := by simpa using hg.own.2.2
      have HG := Lib.hid (((Gr.refl w).alloc _).alloc _ |>.trans hg)
      clear hg
      go_wp2
      exact bodyPost_ret (v := .tuple #[.agg #[.string a, .int .i64 (b : Nat)], .int .i64 (0 : Nat)]) (by simp [results, Try.results118, go_sem, o0, o1, o2, o3, ol2, Nat.ne_of_lt ol2, Nat.ne_of_gt ol2]) rfl (rnIs_mk E (((HG.out.setCell (Nat.le_succ _) _).setCell (Nat.le_succ _) _).alloc _))
end Go.Proofs.Ytihhfdkcggnjpaa
namespace Go.Proofs.Ytihhfdkcggnjpaa
open Go.ChangeShapes Go.WideShapes Go.ChangeAt Go.RowKit
open Enc
set_option linter.unusedVariables false
set_option linter.unusedSimpArgs false
theorem refTN_any (r : ByteArray) (e : Nat) (most : Int) (w : World) (hr : r.size ≤ 1000000) (hb : most ≤ 9223372036854775807) :
    Calls Try.prog 118 #[.agg #[.string r, .int .i64 (e : Int)], .int .i64 most] w (RNIs r e most w) := by
  have hz := uS_zero r e
  obtain ⟨a, b, c, hu⟩ : ∃ a b c, uS r e = (a, b, c) := ⟨_, _, _, rfl⟩
  have hN : nS r e most = if (max most 0).toNat < c then (a, 6, 0) else (a, b, c) := by unfold nS; rw [hu]
  rw [hu] at hz
  simp only at hz
  refine refN_walk r a e b c most (max most 0).toNat (by omega) hb w hr (Lib.hid hu) ?_
  by_cases hb0 : b = 0
  · subst hb0
    by_cases hlt : (max most 0).toNat < c
    · exact .inl ⟨rfl, hlt, Lib.hid (by rw [hN, if_pos hlt])⟩
    · exact .inr (.inl ⟨rfl, by omega, Lib.hid (by rw [hN, if_neg hlt])⟩)
  · have hc := hz hb0
    subst hc
    exact .inr (.inr ⟨hb0, Lib.hid (by rw [hN, if_neg (by omega)])⟩)
theorem rn_is {r a : ByteArray} {e b c : Nat} {most : Int} (h : nS r e most = (a, b, c)) (w : World) (hr : r.size ≤ 1000000) (hb : most ≤ 9223372036854775807) :
    Calls Try.prog 118 #[.agg #[.string r, .int .i64 (e : Int)], .int .i64 most] w fun en w' => en = .returned (.tuple #[.agg #[.string a, .int .i64 (b : Int)], .int .i64 (c : Int)]) ∧ Gr w w' := by
  have := refTN_any r e most w hr hb
  unfold RNIs at this
  rwa [h] at this
theorem takeS_left (r : ByteArray) (e n : Nat) : (takeS r e n).1.size ≤ r.size := by
  unfold takeS; split
  · exact Nat.le_refl _
  · split
    · exact Nat.le_refl _
    · simp
theorem uS_left (r : ByteArray) (e : Nat) : (uS r e).1.size ≤ r.size := by
  unfold uS; split
  · exact Nat.le_refl _
  · split
    · exact Nat.le_refl _
    · unfold uR; split
      · split <;> (simp; try omega)
      · split
        · simp
        · split <;> (simp; try omega)
theorem nS_left (r : ByteArray) (e : Nat) (most : Int) : (nS r e most).1.size ≤ r.size := by
  have := uS_left r e
  unfold nS; split <;> exact this
theorem nS_most (r : ByteArray) (e : Nat) (most : Int) : (nS r e most).2.2 ≤ (max most 0).toNat := by
  unfold nS; split
  · exact Nat.zero_le _
  · rename_i h; omega
set_option maxRecDepth 100000 in
set_option maxHeartbeats 1000000 in
theorem rs_is {r a S : ByteArray} {e b : Nat} {most : Int} (h : sS r e most = (a, b, S)) (w : World) (hr : r.size ≤ 1000000) (hb : most ≤ 9223372036854775807) :
    Calls Try.prog 121 #[.agg #[.string r, .int .i64 (e : Int)], .int .i64 most] w fun en w' => en = .returned (.tuple #[.agg #[.string a, .int .i64 (b : Int)], .string S]) ∧ Gr w w' := by
  obtain ⟨a1, b1, c1, hn⟩ : ∃ a b c, nS r e most = (a, b, c) := ⟨_, _, _, rfl⟩
  have hl := nS_left r e most
  have hm := nS_most r e most
  unfold sS at h
  rw [hn] at h hl hm
  simp only at h hl hm
  have NN := Lib.hid (fun w => rn_is hn w hr (by omega))
  have TT := Lib.hid (fun w => rtake_is h w (by omega) (by omega))
  clear h hn hl hm hr
  go_enter Try.func121, Try.ntmps121
  go_wp2_with fail
  refine (NN.out _).mono ?_
  rintro en w1 ⟨rfl, hg⟩
  have o0 : w1.cell? ⟨w.heap.size + 1, 0, none⟩ = some (.string ⟨#[]⟩) := by simpa using hg.own.1 0 _ rfl
  have o1 : w1.cell? ⟨w.heap.size + 1, 1, none⟩ = some (.int .i64 0) := by simpa using hg.own.1 1 _ rfl
  have o2 : w1.frozen? ⟨w.heap.size + 1, 0, none⟩ = false := by simpa using hg.own.2.1 0
  have o3 : w1.frozen? ⟨w.heap.size + 1, 1, none⟩ = false := by simpa using hg.own.2.1 1
  have ol2 : w.heap.size + 1 < w1.heap.size := by simpa using hg.own.2.2
  have HG := Lib.hid (((Gr.refl w).alloc _).alloc _ |>.trans hg)
  clear hg
  go_wp2_with fail
  refine (TT.out _).mono ?_
  rintro en w2 ⟨rfl, hg⟩
  have hx := ((Gr.refl w1).alloc (.cells #[.string a1, .int .i64 (b1 : Nat)] 181)).trans hg
  replace o2 := (hx.frozen (o := 0) (cell_lt o0)).trans o2
  replace o3 := (hx.frozen (o := 1) (cell_lt o1)).trans o3
  replace o0 := hx.cell o0
  replace o1 := hx.cell o1
  have HG2 := Lib.hid (HG.out.trans hx)
  clear hg hx ol2
  go_wp2
  exact bodyPost_ret (v := .tuple #[.agg #[.string a, .int .i64 (b : Nat)], .string S]) (by simp [results, Try.results121, go_sem, o0, o1, o2, o3]) rfl ⟨rfl, (HG2.out.setCell (Nat.le_succ _) _).setCell (Nat.le_succ _) _⟩
end Go.Proofs.Ytihhfdkcggnjpaa
namespace Go.Proofs.Ytihhfdkcggnjpaa
open Go.ChangeShapes Go.WideShapes Go.ChangeAt Go.RowKit
set_option linter.unusedVariables false
set_option maxRecDepth 100000 in
theorem refN_any (n : Int) (w : World) (hn : (Lit.int .i64 n).wf = true) :
    Calls Try.prog 134 #[.int .i64 n] w fun e w' => e = .returned (.string (ofL (Enc.encN n))) ∧ Gr w w' := by
  have hb := bounds_i64 hn
  by_cases h : n < 0
  · have hE : Enc.encN n = Enc.encU 0 := by unfold Enc.encN; rw [show (max n 0).toNat = 0 by omega]
    have HE := Lib.hid hE; clear hE
    go_enter Try.func134, Try.ntmps134
    go_wp2_with fail
    refine (refU_any 0 _ (by decide)).mono ?_
    rintro e w2 ⟨rfl, hg⟩
    generalize Enc.encU 0 = D at *
    go_wp2
    go_ret
    exact ⟨by rw [HE.out]; rfl, hg⟩
  · obtain ⟨m, rfl⟩ : ∃ m : Nat, n = m := ⟨n.toNat, by omega⟩
    have hE : Enc.encN m = Enc.encU m := by unfold Enc.encN; rw [show (max (m : Int) 0).toNat = m by omega]
    have HE := Lib.hid hE; clear hE
    go_enter Try.func134, Try.ntmps134
    go_wp2_with fail
    refine (refU_any m _ (by omega)).mono ?_
    rintro e w2 ⟨rfl, hg⟩
    generalize Enc.encU m = D at *
    go_wp2
    go_ret
    exact ⟨by rw [HE.out]; rfl, hg⟩
end Go.Proofs.Ytihhfdkcggnjpaa
