import Derived.Test.YtihhfdkcggnjpaaF02c
import Derived.WalkKit
import Derived.ProofKit
import Derived.LoopTactic
import Derived.Outline
import Derived.WalkSpells
import Derived.WalkLawsBesides
import Derived.Lib.Hide
import Derived.Deep.LoopGhost
import Derived.Deep.QuietTactic
import Derived.BigQuiet
import Derived.ShutString
import Derived.Deep.RegionWith
import Derived.Laws.ResultCell
namespace Go.Proofs.Ytihhfdkcggnjpaa
open Go.ChangeShapes Go.WideShapes Go.ChangeAt Go.RowKit
open Crc
set_option linter.unusedVariables false
/-- string([]byte{x}) over a new block of one. -/
theorem conv1 (w : World) (n0 : Int) (h0 : 0 ≤ n0 ∧ n0 < 256) :
    (convert 109 9 (.slice (some ⟨w.heap.size, 0, none⟩) 1 1)).run Try.prog (w.alloc (.cells #[.int .u8 n0] 5)) =
      .ok (.string ⟨#[b8 n0]⟩) (w.alloc (.cells #[.int .u8 n0] 5)) := by
  have := run_convert_bytes_back (P := Try.prog) (w.alloc (.cells #[.int .u8 n0] 5)) 109 9 5 ⟨w.heap.size, 0, none⟩ 1 [b8 n0] Try.underlying109 Try.underlying5 Try.underlying9 (by
    intro j hj
    have hj' : j < 1 := hj
    match j, hj' with
    | 0, _ => simp [Addr.add, b8_toNat h0.1 h0.2])
  exact this
theorem conv1_at (k : Int) (h0 : 0 ≤ k ∧ k < 256) (W : World) (b : Nat) (hc : W.cell? ⟨b, 0, none⟩ = some (.int .u8 k)) :
    (convert 109 9 (.slice (some ⟨b, 0, none⟩) 1 1)).run Try.prog W = .ok (.string ⟨#[b8 k]⟩) W :=
  run_convert_bytes_back (P := Try.prog) W 109 9 5 ⟨b, 0, none⟩ 1 [b8 k] Try.underlying109 Try.underlying5 Try.underlying9 (by
    intro j hj
    have hj' : j < 1 := hj
    match j, hj' with
    | 0, _ => simpa [Addr.add, b8_toNat h0.1 h0.2] using hc)
/-- n bytes of a number, the first the greatest. -/
def dig (v : Nat) : Nat → ByteArray
  | 0 => ⟨#[]⟩
  | k + 1 => ⟨#[b8 (v / 256 ^ k % 256 : Nat)]⟩ ++ dig v k
theorem dig_size (v : Nat) : ∀ k, (dig v k).size = k
  | 0 => rfl
  | k + 1 => by rw [dig, ByteArray.size_append, dig_size v k]; show 1 + k = k + 1; omega
set_option maxRecDepth 100000 in
set_option maxHeartbeats 400000 in
theorem digits_any (v n : Nat) (m : Int) (w : World) (hm : m = n) (hv : v < 4294967296) (hn : n ≤ 8) :
    Calls Try.prog 173 #[.int .u32 v, .int .i64 m] w fun e w' => e = .returned (.string (dig v n)) ∧ Gr w w' := by
  subst hm
  go_enter Try.func173, Try.ntmps173
  go_wp2
  go_loopw [0, 5, 6] (fun x s i wr => ∃ k : Nat, k ≤ n ∧ i = .int .i64 k ∧ x = .int .u32 (v / 256 ^ k : Nat) ∧ s = .string (dig v k) ∧ Gr w wr) (fun _ _ i _ => n - (intOf i).toNat)
  case atStart => exact ⟨0, by omega, rfl, by simp, rfl, Gr.refl _⟩
  case round =>
    obtain ⟨k, hk, rfl, rfl, rfl, hg⟩ := hrel
    by_cases hlt : k < n
    · have hx : v / 256 ^ k < 4294967296 := Nat.lt_of_le_of_lt (Nat.div_le_self _ _) hv
      have hp : v / 256 ^ (k + 1) = v / 256 ^ k / 256 := by rw [Nat.div_div_eq_div_mul, ← Nat.pow_succ]
      have hd : dig v (k + 1) = ⟨#[b8 (v / 256 ^ k % 256 : Nat)]⟩ ++ dig v k := rfl
      have Hp := Lib.hid hp; clear hp
      have Hd := Lib.hid hd; clear hd
      have hz : (dig v k).size ≤ 8 := by rw [dig_size]; omega
      generalize v / 256 ^ k = x at *
      generalize dig v k = d at *
      have C := conv1 wr (x % 256) (by omega)
      go_wp2
      go_roundw
      case rel => exact ⟨k + 1, by omega, by go_num, by rw [Hp.out]; go_num, by rw [Hd.out]; rfl, hg.alloc _⟩
      case measure => simp [intOf]; omega
    · obtain rfl : k = n := by omega
      go_wp2
      go_ret
      exact ⟨rfl, hg⟩

def num (l : List UInt8) : Nat := l.foldl (fun n b => 256 * n + b.toNat) 0
theorem num_snoc (l : List UInt8) (b : UInt8) : num (l ++ [b]) = 256 * num l + b.toNat := by simp [num]
theorem num_lt (l : List UInt8) : num l < 256 ^ l.length := by
  generalize hl : l.length = n
  induction n generalizing l with
  | zero => have := List.length_eq_zero_iff.1 hl; subst this; simp [num]
  | succ n ih =>
    have hne : l ≠ [] := by intro e; simp [e] at hl
    rw [← List.dropLast_concat_getLast hne, num_snoc]
    have h1 := ih l.dropLast (by simp [hl])
    have h2 := (l.getLast hne).toNat_lt
    rw [Nat.pow_succ]; omega
set_option maxHeartbeats 400000 in
theorem refNumber_any (s : ByteArray) (w : World) (hs : s.size ≤ 3) :
    Calls Try.prog 179 #[.string s] w fun e w' => e = .returned (.int .i64 (num (bytesOf s) : Nat)) ∧ w = w' := by
  go_enter Try.func179, Try.ntmps179
  go_wp2
  go_loop [3, 4] (fun r i => ∃ k : Nat, k ≤ s.size ∧ i = .int .i64 k ∧ r = .int .i64 (num ((bytesOf s).take k) : Nat)) (fun _ i => s.size - (intOf i).toNat)
  case atStart => exact ⟨0, by omega, rfl, rfl⟩
  case round =>
    obtain ⟨k, hk, rfl, rfl⟩ := hrel
    by_cases hlt : k < s.size
    · have hts := Lib.hid (take_snoc s k hlt)
      have hb := s[k].toNat_lt
      have hn := num_lt ((bytesOf s).take k)
      have hl : ((bytesOf s).take k).length ≤ 2 := by simp; omega
      have hn' : num ((bytesOf s).take k) < 65536 := Nat.lt_of_lt_of_le hn (Nat.pow_le_pow_right (n := 256) (by decide) hl)
      clear hn hl
      generalize hC : num ((bytesOf s).take k) = C at *
      have HC := Lib.hid hC; clear hC
      go_wp2
      go_round
      case rel => exact ⟨k + 1, by omega, by go_num, by rw [hts.out, num_snoc, HC.out]; go_num⟩
      case measure => simp [intOf]; omega
    · obtain rfl : k = s.size := by omega
      go_wp2
      go_ret
      exact ⟨ret_int (by rw [take_size]), rfl⟩
/-- A frame, as the reference makes it. -/
def rframeB (k : Nat) (s : ByteArray) : ByteArray :=
  ⟨#[b8 k]⟩ ++ dig s.size 3 ++ s
def rframe (k : Nat) (s : ByteArray) : ByteArray :=
  rframeB k s ++ dig (4294967295 - crc 4294967295 (bytesOf (rframeB k s))) 4
set_option maxRecDepth 100000 in
set_option maxHeartbeats 400000 in
theorem rframe_any (k : Nat) (s : ByteArray) (w : World) (hk : k < 256) (hs : s.size ≤ 1048576) :
    Calls Try.prog 113 #[.int .u8 k, .string s] w fun e w' => e = .returned (.string (rframe k s)) ∧ Gr w w' := by
  have hz : s.size < 4294967296 := by omega
  have hcv := conv1_at (k : Int) (by omega)
  have hdz : (dig s.size 3).size ≤ 3 := by rw [dig_size]; omega
  have hwr : IntKind.u32.wrap (s.size : Int) = s.size := IntWalk.u32_in _ (by omega)
  go_enter Try.func113, Try.ntmps113
  go_wp2
  go_region_with (first | (go_at_call 173; refine (digits_any s.size 3 _ _ rfl hz (by decide)).mono ?_; rintro e w2 ⟨rfl, hg⟩; (first | (have hcell : w2.cell? ⟨w.heap.size, 0, none⟩ = some (.int .u8 (k : Int)) := hg.cell (new_cell rfl rfl)) | skip)))
  all_goals
    go_wp2_with fail
    clear hwr
    (try clear hcell)
    refine (refSum_any _ _ (by rw [ByteArray.size_append, ByteArray.size_append, dig_size]; show 1 + 3 + s.size ≤ _; omega)).mono ?_
    rintro e w3 ⟨rfl, rfl⟩
    go_wp2_with fail
    refine (digits_any _ 4 _ _ rfl (by omega) (by decide)).mono ?_
    rintro e w3 ⟨rfl, hg3⟩
    have hR : rframe k s = ⟨#[b8 (k : Int)]⟩ ++ dig s.size 3 ++ s ++ dig (4294967295 - crc 4294967295 (bytesOf (⟨#[b8 (k : Int)]⟩ ++ dig s.size 3 ++ s))) 4 := rfl
    have HR := Lib.hid hR; clear hR
    have z4 : (dig (4294967295 - crc 4294967295 (bytesOf (⟨#[b8 (k : Int)]⟩ ++ dig s.size 3 ++ s))) 4).size ≤ 4 := by rw [dig_size]; omega
    have z5 : (⟨#[b8 (k : Int)]⟩ ++ dig s.size 3 ++ s : ByteArray).size ≤ 1048580 := by rw [ByteArray.size_append, ByteArray.size_append, dig_size]; show 1 + 3 + s.size ≤ _; omega
    generalize dig (4294967295 - crc 4294967295 (bytesOf (⟨#[b8 (k : Int)]⟩ ++ dig s.size 3 ++ s))) 4 = T at *
    generalize (⟨#[b8 (k : Int)]⟩ ++ dig s.size 3 ++ s : ByteArray) = R at *
    go_wp2
    go_ret
    first
      | exact ⟨by rw [HR.out]; rfl, (((Gr.refl _).alloc _).drew.trans hg).trans hg3⟩
      | exact ⟨by rw [HR.out]; rfl, ((((Gr.refl _).drew).trans hg).alloc _).trans hg3⟩
end Go.Proofs.Ytihhfdkcggnjpaa
namespace Go.Proofs.Ytihhfdkcggnjpaa
open Go.ChangeShapes Go.WideShapes Go.ChangeAt Go.RowKit
open Crc
set_option linter.unusedVariables false
theorem num_n3 (s : ByteArray) (h : 4 ≤ s.size) : num (bytesOf (s.extract 1 4)) = n3 s := by
  have e : bytesOf (s.extract 1 4) = [s[1], s[2], s[3]] := by
    unfold bytesOf
    apply List.ext_getElem
    · simp; omega
    · intro i h1 h2
      simp at h2
      match i, h2 with
      | 0, _ => simp; rfl
      | 1, _ => simp; rfl
      | 2, _ => simp; rfl
  rw [e]
  unfold n3
  rw [← bt_at s 1 (by omega), ← bt_at s 2 (by omega), ← bt_at s 3 (by omega)]
  simp [num]; omega
def ROpenIs (s : ByteArray) (w : World) (e : Ending) (w' : World) : Prop :=
  e = .returned (.tuple #[.agg #[.int .u8 (openB s).1, .string (openB s).2.1], .int .i64 (openB s).2.2]) ∧ Gr w w'
theorem ropenIs_mk {s : ByteArray} {w w' : World} {k : Nat} {t : ByteArray} {n : Nat} (h : Hid (openB s = (k, t, n))) (hg : Gr w w') :
    ROpenIs s w (.returned (.tuple #[.agg #[.int .u8 k, .string t], .int .i64 n])) w' := ⟨by rw [h.out], hg⟩
theorem toList_eq_iff (R G : ByteArray) : R.toList = G.toList ↔ R = G := by
  constructor
  · intro h
    have h' : R.data.toList = G.data.toList := by simpa [ByteArray.toList_eq] using h
    exact ByteArray.ext (Array.toList_inj.1 h')
  · intro h; rw [h]
theorem e5' {s D R G : ByteArray} {K : Nat} (h : Hid (openB s = if R = G then (K, D, 0) else (0, ⟨#[]⟩, 5))) (hne : (!R.toList == G.toList) = true) : Hid (openB s = (0, ⟨#[]⟩, 5)) := by
  have h' := h.out
  rw [if_neg (by intro e; simp [e] at hne)] at h'
  exact h'
theorem e0' {s D R G : ByteArray} {K : Nat} (h : Hid (openB s = if R = G then (K, D, 0) else (0, ⟨#[]⟩, 5))) (hne : (!R.toList == G.toList) = false) : Hid (openB s = (K, D, 0)) := by
  have h' := h.out
  rw [if_pos ((toList_eq_iff R G).1 (by simpa using hne))] at h'
  exact h'
set_option maxRecDepth 100000 in
set_option maxHeartbeats 400000 in
theorem ropen_short (s : ByteArray) (w : World) (h1 : s.size < 4) : Calls Try.prog 117 #[.string s] w (ROpenIs s w) := by
  have E := Lib.hid (show openB s = (0, ⟨#[]⟩, 3) by simp only [openB, if_pos h1])
  go_enter Try.func117, Try.ntmps117
  go_wp2
  exact bodyPost_ret (v := .tuple #[.agg #[.int .u8 0, .string ⟨#[]⟩], .int .i64 3]) (by simp [results, Try.results117, go_sem]) rfl (ropenIs_mk E ((Gr.refl _).alloc _))
set_option maxRecDepth 100000 in
set_option maxHeartbeats 400000 in
theorem ropen_low (s : ByteArray) (w : World) (hs : s.size ≤ 1000000000) (h1 : 4 ≤ s.size) (h0 : (s[0].toNat : Int) = 0)
    (E : Hid (openB s = (0, ⟨#[]⟩, 4))) : Calls Try.prog 117 #[.string s] w (ROpenIs s w) := by
  have i0 : 0 < s.size := by omega
  go_enter Try.func117, Try.ntmps117
  go_wp2
  exact bodyPost_ret (v := .tuple #[.agg #[.int .u8 0, .string ⟨#[]⟩], .int .i64 4]) (by simp [results, Try.results117, go_sem]) rfl (ropenIs_mk E ((Gr.refl _).alloc _))
set_option maxRecDepth 100000 in
set_option maxHeartbeats 400000 in
theorem ropen_more (s : ByteArray) (w : World) (hs : s.size ≤ 1000000000) (h1 : 4 ≤ s.size) (K N : Nat) (hb : True → s[0].toNat = K) (hK : K < 256) (h0 : ((K : Int) == 0) = false)
    (L : ByteArray) (hL : Hid (s.extract 1 4 = L)) (hLz : L.size ≤ 3) (hN : Hid (num (bytesOf L) = N)) (hNb : N < 16777216)
    (h3 : 1048576 < N ∧ Hid (openB s = (0, ⟨#[]⟩, 6)) ∨ (N ≤ 1048576 ∧ s.size < N + 8 ∧ Hid (openB s = (0, ⟨#[]⟩, 3)))) :
    Calls Try.prog 117 #[.string s] w (ROpenIs s w) := by
  have i0 : 0 < s.size := by omega
  rcases h3 with ⟨h3, E⟩ | ⟨h3, h4, E⟩
  · go_enter Try.func117, Try.ntmps117
    go_wp2_with fail
    rw [hL.out]
    refine (refNumber_any L _ hLz).mono ?_
    rintro e w' ⟨rfl, rfl⟩
    rw [hN.out]
    go_wp2
    exact bodyPost_ret (v := .tuple #[.agg #[.int .u8 0, .string ⟨#[]⟩], .int .i64 6]) (by simp [results, Try.results117, go_sem]) rfl (ropenIs_mk E ((Gr.refl _).alloc _))
  · go_enter Try.func117, Try.ntmps117
    go_wp2_with fail
    rw [hL.out]
    refine (refNumber_any L _ hLz).mono ?_
    rintro e w' ⟨rfl, rfl⟩
    rw [hN.out]
    go_wp2
    exact bodyPost_ret (v := .tuple #[.agg #[.int .u8 0, .string ⟨#[]⟩], .int .i64 3]) (by simp [results, Try.results117, go_sem]) rfl (ropenIs_mk E ((Gr.refl _).alloc _))
set_option maxRecDepth 100000 in
set_option maxHeartbeats 1000000 in
theorem ropen_whole (s : ByteArray) (w : World) (hs : s.size ≤ 1000000000) (h1 : 4 ≤ s.size) (K N : Nat) (hb : True → s[0].toNat = K) (hK : K < 256) (h0 : ((K : Int) == 0) = false)
    (L : ByteArray) (hL : Hid (s.extract 1 4 = L)) (hLz : L.size ≤ 3) (hN : Hid (num (bytesOf L) = N)) (h3 : N ≤ 1048576) (h4 : N + 8 ≤ s.size)
    (D R G : ByteArray) (hD : Hid (s.extract 4 (4 + N) = D)) (hDz : D.size ≤ 1048576) (hR : Hid (rframe K D = R)) (hG : Hid (s.extract 0 (N + 8) = G))
    (E : Hid (openB s = if R = G then (K, D, 0) else (0, ⟨#[]⟩, 5))) :
    Calls Try.prog 117 #[.string s] w (ROpenIs s w) := by
  have i0 : 0 < s.size := by omega
  have i4 : 0 ≤ 4 + (N : Int) ∧ 4 + (N : Int) ≤ s.size := by omega
  have i8 : 0 ≤ (N : Int) + 8 ∧ (N : Int) + 8 ≤ s.size := by omega
  have wr1 : True → IntKind.i64.wrap (4 + (N : Int)) = 4 + (N : Int) := fun _ => IntWalk.i64_in _ (by omega)
  have wr2 : True → IntKind.i64.wrap ((N : Int) + 8) = (N : Int) + 8 := fun _ => IntWalk.i64_in _ (by omega)
  have T4 := Lib.hid (show (4 + (N : Int)).toNat = 4 + N by omega)
  have T8 := Lib.hid (show ((N : Int) + 8).toNat = N + 8 by omega)
  go_enter Try.func117, Try.ntmps117
  go_wp2_with fail
  rw [hL.out]
  refine (refNumber_any L _ hLz).mono ?_
  rintro e w' ⟨rfl, rfl⟩
  rw [hN.out]
  go_wp2
  go_region_with (first | (go_at_call 113; (try rw [T4.out]); rw [hD.out]; refine (rframe_any K D _ hK hDz).mono ?_; rintro e w2 ⟨rfl, hg⟩; rw [hR.out]))
  all_goals
    (try rw [T8.out])
    rw [hG.out]
    obtain ⟨oc, of, os⟩ := hg.of_drew.own
    have c0 := oc 0 _ rfl
    have c1 := oc 1 _ rfl
    have f0 := of 0
    have f1 := of 1
    clear oc of
    go_wp2_with fail
  all_goals first
    | exact bodyPost_ret (v := .tuple #[.agg #[.int .u8 0, .string ⟨#[]⟩], .int .i64 5]) (by simp [results, Try.results117, go_sem, c0, c1]) rfl (ropenIs_mk (e5' E (by assumption)) ((((((Gr.refl _).alloc _).drew).trans hg).setCell (by simp) _).setCell (by simp) _))
    | skip
  all_goals
    have hE := e0' E (by assumption)
    go_region_with (fail)
    go_wp2
    rw [T4.out, hD.out]
    exact bodyPost_ret (v := .tuple #[.agg #[.int .u8 K, .string D], .int .i64 0]) (by simp [results, Try.results117, go_sem, c0, c1]) rfl (ropenIs_mk hE (((((((Gr.refl _).alloc _).drew).trans hg).setCell (by simp) _).setCell (by simp) _).drew))
end Go.Proofs.Ytihhfdkcggnjpaa
namespace Go.Proofs.Ytihhfdkcggnjpaa
open Go.ChangeShapes Go.WideShapes Go.ChangeAt Go.RowKit
open Crc
set_option linter.unusedVariables false
theorem ba_ext {a b : ByteArray} (h : bytesOf a = bytesOf b) : a = b := ByteArray.ext (Array.toList_inj.1 h)
theorem bytesOf_append (a b : ByteArray) : bytesOf (a ++ b) = bytesOf a ++ bytesOf b := by simp [bytesOf]
theorem bytesOf_extract (s : ByteArray) (a b : Nat) : bytesOf (s.extract a b) = ((bytesOf s).drop a).take (b - a) := Lib.extract_data s a b
theorem bytesOf_length (s : ByteArray) : (bytesOf s).length = s.size := by simp [bytesOf]
theorem b8_nat (n : Nat) (h : n < 256) : (b8 (n : Int)).toNat = n := by
  have := b8_toNat (n := (n : Int)) (by omega) (by omega)
  omega
theorem b8_byte (b : UInt8) : b8 (b.toNat : Int) = b := by
  apply UInt8.toNat_inj.1
  exact b8_nat _ b.toNat_lt
theorem b8_inj {a b : Nat} (ha : a < 256) (hb : b < 256) (h : b8 (a : Int) = b8 (b : Int)) : a = b := by
  have := congrArg UInt8.toNat h
  rwa [b8_nat a ha, b8_nat b hb] at this
theorem dig3 (v : Nat) : bytesOf (dig v 3) = [b8 (v / 65536 % 256 : Nat), b8 (v / 256 % 256 : Nat), b8 (v % 256 : Nat)] := by
  simp [dig, bytesOf]
theorem dig4 (v : Nat) : bytesOf (dig v 4) = [b8 (v / 16777216 % 256 : Nat), b8 (v / 65536 % 256 : Nat), b8 (v / 256 % 256 : Nat), b8 (v % 256 : Nat)] := by
  simp [dig, bytesOf]
theorem dig4_inj {v u : Nat} (hv : v < 4294967296) (hu : u < 4294967296) (h : dig v 4 = dig u 4) : v = u := by
  have h' := congrArg bytesOf h
  rw [dig4, dig4] at h'
  simp only [List.cons.injEq, and_true] at h'
  obtain ⟨h1, h2, h3, h4⟩ := h'
  have h1 := b8_inj (by omega) (by omega) h1
  have h2 := b8_inj (by omega) (by omega) h2
  have h3 := b8_inj (by omega) (by omega) h3
  have h4 := b8_inj (by omega) (by omega) h4
  omega
theorem be4_dig (v : Nat) (h : v < 4294967296) : be4 v = dig v 4 := by
  apply ba_ext
  rw [dig4]
  have : v / 16777216 % 256 = v / 16777216 := by omega
  rw [this]; rfl
theorem four_at (s : ByteArray) (i : Nat) (h : i + 4 ≤ s.size) : bytesOf (s.extract i (i + 4)) = [s[i], s[i + 1], s[i + 2], s[i + 3]] := by
  unfold bytesOf
  apply List.ext_getElem
  · simp; omega
  · intro k h1 h2
    simp at h2
    match k, h2 with
    | 0, _ => simp; rfl
    | 1, _ => simp; rfl
    | 2, _ => simp; rfl
    | 3, _ => simp; rfl
theorem dig_n4 (s : ByteArray) (i : Nat) (h : i + 4 ≤ s.size) : dig (n4 s i) 4 = s.extract i (i + 4) := by
  apply ba_ext
  have h0 := bt_lt s i; have h1 := bt_lt s (i + 1); have h2 := bt_lt s (i + 2); have h3 := bt_lt s (i + 3)
  rw [dig4, four_at s i h]
  have e0 : n4 s i / 16777216 % 256 = bt s i := by unfold n4; omega
  have e1 : n4 s i / 65536 % 256 = bt s (i + 1) := by unfold n4; omega
  have e2 : n4 s i / 256 % 256 = bt s (i + 2) := by unfold n4; omega
  have e3 : n4 s i % 256 = bt s (i + 3) := by unfold n4; omega
  rw [e0, e1, e2, e3, ← bt_at s i (by omega), ← bt_at s (i + 1) (by omega), ← bt_at s (i + 2) (by omega), ← bt_at s (i + 3) (by omega), b8_byte, b8_byte, b8_byte, b8_byte]
theorem n4_lt (s : ByteArray) (i : Nat) : n4 s i < 4294967296 := by
  have h0 := bt_lt s i; have h1 := bt_lt s (i + 1); have h2 := bt_lt s (i + 2); have h3 := bt_lt s (i + 3)
  unfold n4; omega
theorem bt_extract (s : ByteArray) (a i : Nat) (h : a ≤ s.size) : bt (s.extract a s.size) i = bt s (a + i) := by
  unfold bt
  by_cases hi : a + i < s.size
  · have h1 : i < (s.extract a s.size).size := by simp; omega
    rw [dif_pos hi, dif_pos h1, ByteArray.getElem_extract]
  · have h1 : ¬ i < (s.extract a s.size).size := by simp; omega
    rw [dif_neg hi, dif_neg h1]
theorem n4_extract (s : ByteArray) (a : Nat) (h : a ≤ s.size) : n4 (s.extract a s.size) 0 = n4 s a := by
  unfold n4
  rw [bt_extract s a _ h, bt_extract s a _ h, bt_extract s a _ h, bt_extract s a _ h]
  simp
theorem extract_join (s : ByteArray) (a b : Nat) (h1 : a ≤ b) (h2 : b ≤ s.size) : s.extract 0 a ++ s.extract a b = s.extract 0 b := by
  apply ba_ext
  rw [bytesOf_append, bytesOf_extract, bytesOf_extract, bytesOf_extract]
  simp only [List.drop_zero, Nat.sub_zero]
  rw [← List.take_add]
  congr 1; omega
/-- The frame's head and content are what the frame begins with. -/
theorem rframeB_eq (s : ByteArray) (h1 : 4 ≤ s.size) (h4 : n3 s + 8 ≤ s.size) : rframeB (bt s 0) (s.extract 4 (4 + n3 s)) = s.extract 0 (4 + n3 s) := by
  have hz : (s.extract 4 (4 + n3 s)).size = n3 s := by simp; omega
  have e : ⟨#[b8 (bt s 0 : Nat)]⟩ ++ dig (n3 s) 3 = s.extract 0 4 := by
    apply ba_ext
    have := four_at s 0 (by omega)
    simp only [Nat.zero_add] at this
    rw [this, bytesOf_append, dig3]
    have h1 := bt_lt s 1; have h2 := bt_lt s 2; have h3 := bt_lt s 3
    have e1 : n3 s / 65536 % 256 = bt s 1 := by unfold n3; omega
    have e2 : n3 s / 256 % 256 = bt s 2 := by unfold n3; omega
    have e3 : n3 s % 256 = bt s 3 := by unfold n3; omega
    rw [e1, e2, e3, ← bt_at s 0 (by omega), ← bt_at s 1 (by omega), ← bt_at s 2 (by omega), ← bt_at s 3 (by omega), b8_byte, b8_byte, b8_byte, b8_byte]
    rfl
  unfold rframeB
  rw [hz, e]
  exact extract_join s 4 (4 + n3 s) (by omega) (by omega)
theorem rframe_iff (s : ByteArray) (h1 : 4 ≤ s.size) (h4 : n3 s + 8 ≤ s.size) :
    rframe (bt s 0) (s.extract 4 (4 + n3 s)) = s.extract 0 (n3 s + 8) ↔ 4294967295 - crc 4294967295 (bytesOf (s.extract 0 (4 + n3 s))) = n4 (s.extract (4 + n3 s) s.size) 0 := by
  unfold rframe
  rw [rframeB_eq s h1 h4, n4_extract s _ (by omega), ← extract_join s (4 + n3 s) (n3 s + 8) (by omega) h4]
  have e : s.extract (4 + n3 s) (n3 s + 8) = dig (n4 s (4 + n3 s)) 4 := by
    rw [dig_n4 s _ (by omega)]
    congr 1; omega
  rw [e]
  constructor
  · intro h
    have h' := congrArg bytesOf h
    rw [bytesOf_append, bytesOf_append] at h'
    exact dig4_inj (by omega) (n4_lt _ _) (ba_ext (List.append_cancel_left h'))
  · intro h; rw [h]
theorem frame_eq (k : Nat) (s : ByteArray) (hk : k < 256) (hs : s.size ≤ 1048576) : frameB k s = rframe k s := by
  have hc := crc0_lt (cat [headB k s.size, s])
  have e : headB k s.size = ⟨#[b8 (k : Int)]⟩ ++ dig s.size 3 := by
    unfold headB
    apply ba_ext
    rw [be4_dig _ (by omega), dig4, bytesOf_append, dig3]
    have e0 : (k * 16777216 + s.size) / 16777216 % 256 = k := by omega
    have e1 : (k * 16777216 + s.size) / 65536 % 256 = s.size / 65536 % 256 := by omega
    have e2 : (k * 16777216 + s.size) / 256 % 256 = s.size / 256 % 256 := by omega
    have e3 : (k * 16777216 + s.size) % 256 = s.size % 256 := by omega
    rw [e0, e1, e2, e3]; rfl
  unfold frameB rframe rframeB
  rw [be4_dig _ (by omega), cat_two, e]
set_option maxHeartbeats 400000 in
theorem ropen_any (s : ByteArray) (w : World) (hs : s.size ≤ 1000000000) : Calls Try.prog 117 #[.string s] w (ROpenIs s w) := by
  rcases Nat.lt_or_ge s.size 4 with h1 | h1
  · exact ropen_short s w h1
  have h1' := Nat.not_lt.2 h1
  have hb : s[0].toNat = bt s 0 := bt_at s 0 (by omega)
  have hK := bt_lt s 0
  by_cases h2 : bt s 0 = 0
  · exact ropen_low s w hs h1 (by omega) (by show openB s = _; simp only [openB, if_neg h1', h2, if_true])
  have t2 : (((bt s 0 : Nat) : Int) == 0) = false := by simp [h2]
  have hL : (s.extract 1 4).size ≤ 3 := by simp; omega
  rcases Nat.lt_or_ge 1048576 (n3 s) with h3 | h3
  · exact ropen_more s w hs h1 (bt s 0) (n3 s) (fun _ => hb) hK t2 _ rfl hL (num_n3 s h1) (n3_lt s) (.inl ⟨h3, by show openB s = _; simp only [openB, if_neg h1', if_neg h2, if_pos h3]⟩)
  have h3' := Nat.not_lt.2 h3
  rcases Nat.lt_or_ge s.size (n3 s + 8) with h4 | h4
  · exact ropen_more s w hs h1 (bt s 0) (n3 s) (fun _ => hb) hK t2 _ rfl hL (num_n3 s h1) (n3_lt s) (.inr ⟨h3, h4, by show openB s = _; simp only [openB, if_neg h1', if_neg h2, if_neg h3', if_pos h4]⟩)
  have h4' := Nat.not_lt.2 h4
  refine ropen_whole s w hs h1 (bt s 0) (n3 s) (fun _ => hb) hK t2 _ rfl hL (num_n3 s h1) h3 h4 _ _ _ rfl (by simp; omega) rfl rfl ?_
  show openB s = _
  by_cases hc : 4294967295 - crc 4294967295 (bytesOf (s.extract 0 (4 + n3 s))) = n4 (s.extract (4 + n3 s) s.size) 0
  · rw [if_pos ((rframe_iff s h1 h4).2 hc)]
    simp only [openB, if_neg h1', if_neg h2, if_neg h3', if_neg h4', ne_eq, hc, not_true, if_false]
  · rw [if_neg (fun h => hc ((rframe_iff s h1 h4).1 h))]
    simp only [openB, if_neg h1', if_neg h2, if_neg h3', if_neg h4', ne_eq, hc, not_false_eq_true, if_true]
end Go.Proofs.Ytihhfdkcggnjpaa
