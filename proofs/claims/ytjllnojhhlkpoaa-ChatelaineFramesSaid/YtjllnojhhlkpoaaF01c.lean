import Derived.Test.YtjllnojhhlkpoaaF01b
import Derived.WalkKit
import Derived.ProofKit
import Derived.LoopTactic
import Derived.Outline
import Derived.WalkSpells
import Derived.WalkLawsBesides
import Derived.Lib.Hide
import Derived.Deep.LoopGhost
import Derived.Deep.QuietTactic
import Derived.BigQuiet
import Derived.ShutString
namespace Go.Proofs.Ytjllnojhhlkpoaa
open Go.ChangeShapes Go.WideShapes Go.ChangeAt Go.RowKit
open Enc
set_option linter.unusedVariables false
/-- Of blocks other than p nothing has turned. -/
structure Only (p : Nat) (w w' : World) : Prop where
  os : w'.os = w.os
  tape : w'.tape = w.tape
  output : w'.output = w.output
  size : w.heap.size ≤ w'.heap.size
  block : ∀ k, k < w.heap.size → k ≠ p → w'.heap[k]? = w.heap[k]?
theorem Only.refl (p : Nat) (w : World) : Only p w w := ⟨rfl, rfl, rfl, Nat.le_refl _, fun _ _ _ => rfl⟩
theorem Only.trans {p : Nat} {a b c : World} (h : Only p a b) (k : Only p b c) : Only p a c :=
  ⟨k.os.trans h.os, k.tape.trans h.tape, k.output.trans h.output, Nat.le_trans h.size k.size, fun i hi hp => (k.block i (Nat.lt_of_lt_of_le hi h.size) hp).trans (h.block i hi hp)⟩
theorem Only.setCell (p o : Nat) (w : World) (v : Value) : Only p w (w.setCell ⟨p, o, none⟩ v) := ⟨rfl, rfl, rfl, by simp [World.setCell], fun k _ hk => Below.heap_setCell _ _ _ _ hk⟩
theorem Only.gr {p : Nat} {w0 w w' : World} (h : Only p w w') (hg : Gr w0 w) (hp : w0.heap.size ≤ p) : Gr w0 w' :=
  Below.trans hg ⟨h.os, h.tape, h.output, h.size, fun k hk => h.block k (Nat.lt_of_lt_of_le hk hg.size) (by omega)⟩
theorem Only.of_gr {p : Nat} {w w' : World} (h : Gr w w') : Only p w w' := ⟨Below.os h, Below.tape h, Below.output h, h.size, fun k hk _ => Below.block h k hk⟩
theorem Only.cell {p : Nat} {w w' : World} (h : Only p w w') {b o : Nat} {v : Value} (hb : b ≠ p) (hc : w.cell? ⟨b, o, none⟩ = some v) : w'.cell? ⟨b, o, none⟩ = some v :=
  (World.cell?_of_block (w := w) (a := ⟨b, o, none⟩) (h.block b (cell_lt hc) hb)).trans hc
/-- A Reader lies in block p: what is left, and the error. -/
def RdIs (w : World) (p : Nat) (r : ByteArray) (e : Nat) : Prop :=
  w.cell? ⟨p, 0, none⟩ = some (.string r) ∧ w.cell? ⟨p, 1, none⟩ = some (.int .i64 (e : Int)) ∧ w.frozen? ⟨p, 0, none⟩ = false ∧ w.frozen? ⟨p, 1, none⟩ = false ∧ r.size ≤ 9223372036854775807
theorem RdIs.rest {w : World} {p : Nat} {r r' : ByteArray} {e : Nat} (h : RdIs w p r e) (hr : r'.size ≤ 9223372036854775807) : RdIs (w.setCell ⟨p, 0, none⟩ (.string r')) p r' e := by
  obtain ⟨h0, h1, f0, f1, _⟩ := h
  refine ⟨World.cell?_setCell_same' _ _ _ (by rw [h0]; rfl), ?_, by rw [World.frozen?_setCell]; exact f0, by rw [World.frozen?_setCell]; exact f1, hr⟩
  rw [World.cell?_setCell_other _ _ _ _ (by simp)]; exact h1
theorem RdIs.err {w : World} {p : Nat} {r : ByteArray} {e e' : Nat} (h : RdIs w p r e) : RdIs (w.setCell ⟨p, 1, none⟩ (.int .i64 (e' : Int))) p r e' := by
  obtain ⟨h0, h1, f0, f1, hr⟩ := h
  refine ⟨?_, World.cell?_setCell_same' _ _ _ (by rw [h1]; rfl), by rw [World.frozen?_setCell]; exact f0, by rw [World.frozen?_setCell]; exact f1, hr⟩
  rw [World.cell?_setCell_other _ _ _ _ (by simp)]; exact h0
theorem RdIs.gr {w w' : World} {p : Nat} {r : ByteArray} {e : Nat} (h : RdIs w p r e) (hg : Gr w w') : RdIs w' p r e := by
  obtain ⟨h0, h1, f0, f1, hr⟩ := h
  exact ⟨hg.cell h0, hg.cell h1, (hg.frozen (cell_lt h0)).trans f0, (hg.frozen (cell_lt h0)).trans f1, hr⟩
theorem RdIs.only {w w' : World} {p q : Nat} {r : ByteArray} {e : Nat} (h : RdIs w p r e) (hg : Only q w w') (hq : p ≠ q) : RdIs w' p r e := by
  obtain ⟨h0, h1, f0, f1, hr⟩ := h
  have hb := hg.block p (cell_lt h0) hq
  exact ⟨hg.cell hq h0, hg.cell hq h1, (World.frozen?_of_block (w := w) (a := ⟨p, 0, none⟩) hb).trans f0, (World.frozen?_of_block (w := w) (a := ⟨p, 1, none⟩) hb).trans f1, hr⟩
/-- The first error stays. -/
def failE (e x : Nat) : Nat := if e = 0 then x else e
theorem fail_any (p x : Nat) (r : ByteArray) (e : Nat) (y : Int) (hy : y = x) (w : World) (h : RdIs w p r e) :
    Calls Try.prog 67 #[.pointer (some ⟨p, 0, none⟩), .int .i64 y] w fun en w' => en = .returned (.tuple #[]) ∧ RdIs w' p r (failE e x) ∧ Only p w w' := by
  subst hy
  have H := Lib.hid h
  obtain ⟨h0, h1, f0, f1, hr⟩ := h
  by_cases he : e = 0
  · have E := Lib.hid (show failE e x = x by simp [failE, he])
    have t : ((e : Int) == 0) = true := by simp [he]
    clear he
    go_enter Try.func67, Try.ntmps67
    go_wp2
    go_end0
    exact ⟨rfl, by rw [E.out]; exact H.out.err, Only.setCell _ _ _ _⟩
  · have E := Lib.hid (show failE e x = e by simp [failE, he])
    have t : ((e : Int) == 0) = false := by simp [he]
    clear he
    go_enter Try.func67, Try.ntmps67
    go_wp2
    go_end0
    exact ⟨rfl, by rw [E.out]; exact H.out, Only.refl _ _⟩
theorem fail_zero (p x : Nat) (r : ByteArray) (y : Int) (hy : y = x) (w : World) (h : RdIs w p r 0) :
    Calls Try.prog 67 #[.pointer (some ⟨p, 0, none⟩), .int .i64 y] w fun en w' => en = .returned (.tuple #[]) ∧ RdIs w' p r x ∧ Only p w w' := fail_any p x r 0 y hy w h
theorem fail_keep (p x : Nat) (r : ByteArray) (e : Nat) (he : ((e : Int) != 0) = true) (y : Int) (hy : y = x) (w : World) (h : RdIs w p r e) :
    Calls Try.prog 67 #[.pointer (some ⟨p, 0, none⟩), .int .i64 y] w fun en w' => en = .returned (.tuple #[]) ∧ RdIs w' p r e ∧ Only p w w' := by
  have := fail_any p x r e y hy w h
  rwa [show failE e x = e by unfold failE; rw [if_neg (by intro h0; simp [h0] at he)]] at this
def ReadIs (s : ByteArray) (w : World) (en : Ending) (w' : World) : Prop :=
  en = .returned (.pointer (some ⟨w.heap.size, 0, none⟩)) ∧ RdIs w' w.heap.size s 0 ∧ Gr w w'
theorem read_any (s : ByteArray) (w : World) (hs : s.size ≤ 9223372036854775807) : Calls Try.prog 29 #[.string s] w (ReadIs s w) := by
  go_enter Try.func29, Try.ntmps29
  go_wp2
  go_ret
  refine ⟨rfl, ⟨new_cell rfl rfl, new_cell rfl rfl, new_free rfl, new_free rfl, hs⟩, (Gr.refl _).alloc _⟩
/-- The next n bytes. -/
def takeS (r : ByteArray) (e n : Nat) : ByteArray × Nat × ByteArray :=
  if e ≠ 0 then (r, e, ⟨#[]⟩) else if r.size < n then (r, 3, ⟨#[]⟩) else (r.extract n r.size, 0, r.extract 0 n)
def TakeIs (p : Nat) (r : ByteArray) (e n : Nat) (w : World) (en : Ending) (w' : World) : Prop :=
  en = .returned (.string (takeS r e n).2.2) ∧ RdIs w' p (takeS r e n).1 (takeS r e n).2.1 ∧ Only p w w'
theorem takeIs_mk {p : Nat} {r : ByteArray} {e n : Nat} {w w' : World} {a c : ByteArray} {b : Nat} (h : Hid (takeS r e n = (a, b, c))) (h1 : RdIs w' p a b) (h2 : Only p w w') : TakeIs p r e n w (.returned (.string c)) w' := by
  refine ⟨by rw [h.out], by rw [h.out]; exact h1, h2⟩
set_option maxRecDepth 100000 in
set_option maxHeartbeats 1000000 in
theorem take_any (p : Nat) (r : ByteArray) (e n : Nat) (y : Int) (hy : y = n) (w : World) (h : RdIs w p r e) :
    Calls Try.prog 68 #[.pointer (some ⟨p, 0, none⟩), .int .i64 y] w (TakeIs p r e n w) := by
  subst hy
  have H := Lib.hid h
  obtain ⟨h0, h1, f0, f1, hr⟩ := h
  by_cases he : e = 0
  · subst he
    rcases Nat.lt_or_ge r.size n with hn | hn
    · have E := Lib.hid (show takeS r 0 n = (r, 3, ⟨#[]⟩) by simp [takeS, hn])
      go_enter Try.func68, Try.ntmps68
      go_wp2_with fail
      refine (fail_zero p 3 r _ rfl _ H.out).mono ?_
      rintro en w1 ⟨rfl, hR, hO⟩
      have HR := Lib.hid hR
      obtain ⟨g0, g1, g2, g3, _⟩ := hR
      go_wp2
      go_ret
      exact takeIs_mk E HR.out hO
    · have E := Lib.hid (show takeS r 0 n = (r.extract n r.size, 0, r.extract 0 n) by simp [takeS, Nat.not_lt.2 hn])
      have hz : (r.extract n r.size).size ≤ 9223372036854775807 := by simp; omega
      have HZ := Lib.hid hz
      clear hz
      go_enter Try.func68, Try.ntmps68
      go_wp2
      go_ret
      exact takeIs_mk E (H.out.rest HZ.out) (Only.setCell _ _ _ _)
  · have t1 : ((e : Int) != 0) = true := by simp [he]
    have E := Lib.hid (show takeS r e n = (r, e, ⟨#[]⟩) by simp [takeS, he])
    clear he
    rcases Nat.lt_or_ge r.size n with hn | hn
    · go_enter Try.func68, Try.ntmps68
      go_wp2_with fail
      refine (fail_keep p 3 r e t1 _ rfl _ H.out).mono ?_
      rintro en w1 ⟨rfl, hR, hO⟩
      have HR := Lib.hid hR
      obtain ⟨g0, g1, g2, g3, _⟩ := hR
      go_wp2
      go_ret
      exact takeIs_mk E HR.out hO
    · go_enter Try.func68, Try.ntmps68
      go_wp2
      go_ret
      exact takeIs_mk E H.out (Only.refl _ _)
def num8 (l : List UInt8) : Nat := l.foldl (fun n b => 256 * n + b.toNat) 0
theorem num8_snoc (l : List UInt8) (b : UInt8) : num8 (l ++ [b]) = 256 * num8 l + b.toNat := by simp [num8]
theorem num8_lt (l : List UInt8) : num8 l < 256 ^ l.length := by
  generalize hl : l.length = n
  induction n generalizing l with
  | zero => have := List.length_eq_zero_iff.1 hl; subst this; simp [num8]
  | succ n ih =>
    have hne : l ≠ [] := by intro e; simp [e] at hl
    rw [← List.dropLast_concat_getLast hne, num8_snoc]
    have h1 := ih l.dropLast (by simp [hl])
    have h2 := (l.getLast hne).toNat_lt
    rw [Nat.pow_succ]; omega
theorem or_byte (C b : Nat) (hC : C < 72057594037927936) (hb : b < 2 ^ 8) : bits .or .u64 (IntKind.u64.wrap ((C : Int) * 256)) (b : Int) = ((256 * C + b : Nat) : Int) := by
  have e1 : IntKind.u64.wrap ((C : Int) * 256) = ((256 * C : Nat) : Int) := by
    rw [IntWalk.u64_in _ (by omega)]; omega
  rw [e1, u64_or_nat (256 * C) b (by omega) (by omega)]
  rw [show 256 * C = 2 ^ 8 * C from rfl, ← Nat.two_pow_add_eq_or_of_lt hb]
set_option maxRecDepth 100000 in
set_option maxHeartbeats 1000000 in
theorem whole_any (s : ByteArray) (w : World) (hs : s.size ≤ 8) :
    Calls Try.prog 87 #[.string s] w fun e w' => e = .returned (.int .u64 (num8 (bytesOf s) : Nat)) ∧ w = w' := by
  go_enter Try.func87, Try.ntmps87
  go_wp2
  go_loop [3, 7] (fun r i => ∃ k : Nat, k ≤ s.size ∧ i = .int .i64 k ∧ r = .int .u64 (num8 ((bytesOf s).take k) : Nat)) (fun _ i => s.size - (intOf i).toNat)
  case atStart => exact ⟨0, by omega, rfl, rfl⟩
  case round =>
    obtain ⟨k, hk, rfl, rfl⟩ := hrel
    by_cases hlt : k < s.size
    · have hts := Lib.hid (take_snoc s k hlt)
      have hb := s[k].toNat_lt
      generalize hC : num8 ((bytesOf s).take k) = C at *
      have HC := Lib.hid hC; clear hC
      have hCl : C < 72057594037927936 := by
        have h1 := num8_lt ((bytesOf s).take k)
        rw [HC.out] at h1
        have h2 : ((bytesOf s).take k).length ≤ 7 := by simp; omega
        exact Nat.lt_of_lt_of_le h1 (Nat.le_trans (Nat.pow_le_pow_right (n := 256) (by decide) h2) (by decide))
      have hor := Lib.hid (or_byte C s[k].toNat hCl hb)
      clear hCl
      go_wp2
      go_round
      case rel => exact ⟨k + 1, by omega, by go_num, by rw [hor.out, hts.out, num8_snoc, HC.out]⟩
      case measure => simp [intOf]; omega
    · obtain rfl : k = s.size := by omega
      go_wp2
      go_ret
      exact ⟨ret_int (by rw [take_size]), rfl⟩
theorem take_err (p : Nat) (r : ByteArray) (e n : Nat) (y : Int) (hy : y = n) (he : ((e : Int) != 0) = true) (w : World) (h : RdIs w p r e) :
    Calls Try.prog 68 #[.pointer (some ⟨p, 0, none⟩), .int .i64 y] w fun en w' => en = .returned (.string ⟨#[]⟩) ∧ RdIs w' p r e ∧ Only p w w' := by
  have := take_any p r e n y hy w h
  have e1 : takeS r e n = (r, e, ⟨#[]⟩) := by unfold takeS; rw [if_pos (by intro h0; simp [h0] at he)]
  unfold TakeIs at this
  rwa [e1] at this
theorem take_short (p : Nat) (r : ByteArray) (n : Nat) (y : Int) (hy : y = n) (hn : r.size < n) (w : World) (h : RdIs w p r 0) :
    Calls Try.prog 68 #[.pointer (some ⟨p, 0, none⟩), .int .i64 y] w fun en w' => en = .returned (.string ⟨#[]⟩) ∧ RdIs w' p r 3 ∧ Only p w w' := by
  have := take_any p r 0 n y hy w h
  have e1 : takeS r 0 n = (r, 3, ⟨#[]⟩) := by simp [takeS, hn]
  unfold TakeIs at this
  rwa [e1] at this
theorem take_ok (p : Nat) (r : ByteArray) (n : Nat) (y : Int) (hy : y = n) (hn : n ≤ r.size) (w : World) (h : RdIs w p r 0) :
    Calls Try.prog 68 #[.pointer (some ⟨p, 0, none⟩), .int .i64 y] w fun en w' => en = .returned (.string (r.extract 0 n)) ∧ RdIs w' p (r.extract n r.size) 0 ∧ Only p w w' := by
  have := take_any p r 0 n y hy w h
  have e1 : takeS r 0 n = (r.extract n r.size, 0, r.extract 0 n) := by simp [takeS, Nat.not_lt.2 hn]
  unfold TakeIs at this
  rwa [e1] at this
end Go.Proofs.Ytjllnojhhlkpoaa
