import Derived.Test.YtfgkgpkaohkehaaGreatDoorF02b
import Derived.Test.YtfgkgpkaohkehaaGreatDoorSh0
import Derived.WalkKit
import Derived.ProofKit
import Derived.LoopTactic
import Derived.Outline
import Derived.WalkSpells
import Derived.WalkLawsBesides
import Derived.Lib.Hide
import Derived.Deep.LoopGhost
import Derived.Deep.QuietTactic
import Derived.BigQuiet
import Derived.ShutString
import Derived.Deep.RegionWith
import Derived.Laws.ResultCell
namespace Go.Proofs.YtfgkgpkaohkehaaGreatDoor
open Go.ChangeShapes Go.WideShapes Go.ChangeAt Go.RowKit
open Crc
set_option linter.unusedVariables false
theorem clone_any (s : ByteArray) (w : World) (hlim : s.size ≤ 281474976710656) :
    Calls Tryz.prog 54 #[.string s] w fun e w' => e = .returned (.string s) ∧ Gr w w' := by
  go_enter Tryz.func54, Tryz.ntmps54
  go_wp2_with fail
  refine (Tryz.stringslite_Clone s _ hlim).mono ?_
  rintro e w' ⟨rfl, hb⟩
  go_wp2
  go_ret
  exact ⟨rfl, hb⟩
/-- Byte i as a number. -/
def bt (s : ByteArray) (i : Nat) : Nat := if h : i < s.size then s[i].toNat else 0
theorem bt_at (s : ByteArray) (i : Nat) (h : i < s.size) : s[i].toNat = bt s i := by simp [bt, h]
theorem bt_lt (s : ByteArray) (i : Nat) : bt s i < 256 := by unfold bt; split; exact UInt8.toNat_lt _; omega
def n3 (s : ByteArray) : Nat := bt s 1 * 65536 + bt s 2 * 256 + bt s 3
theorem n3_lt (s : ByteArray) : n3 s < 16777216 := by have := bt_lt s 1; have := bt_lt s 2; have := bt_lt s 3; unfold n3; omega
def n4 (s : ByteArray) (i : Nat) : Nat := bt s i * 16777216 + bt s (i + 1) * 65536 + bt s (i + 2) * 256 + bt s (i + 3)
theorem sum_at1 (a : ByteArray) (b off : Nat) (w : World) (hc : w.cell? ⟨b, off, none⟩ = some (.string a)) (ha : a.size ≤ 9223372036854775807) :
    Calls Tryz.prog 53 #[.slice (some ⟨b, off, none⟩) 1 1] w fun e w' => e = .returned (.int .u32 (4294967295 - crc 4294967295 (bytesOf a) : Nat)) ∧ w = w' := by
  rw [← cat_one a]
  exact sum_any [a] b off w (by intro s hs; simp at hs; subst hs; assumption) (by simp) (by
    intro i hi
    match i, hi with
    | 0, _ => exact hc)
theorem num4_n4 (s : ByteArray) (h : 4 ≤ s.size) : num4 s[0] s[1] s[2] s[3] = n4 s 0 := by
  unfold num4 n4
  rw [bt_at s 0, bt_at s 1, bt_at s 2, bt_at s 3]
theorem get_any' (s : ByteArray) (w : World) (hs : 4 ≤ s.size) (hs' : s.size ≤ 9223372036854775807) :
    Calls Tryz.prog 52 #[.string s] w fun e w' => e = .returned (.int .u32 (n4 s 0 : Nat)) ∧ Dr w w' := by
  have := get_any s w hs hs'
  rw [num4_n4 s hs] at this
  exact this
/-- What stands in a frame: its kind, its content, the error. -/
def openB (s : ByteArray) : Nat × ByteArray × Nat :=
  if s.size < 4 then (0, ⟨#[]⟩, 3)
  else if bt s 0 = 0 then (0, ⟨#[]⟩, 4)
  else if 1048576 < n3 s then (0, ⟨#[]⟩, 6)
  else if s.size < n3 s + 8 then (0, ⟨#[]⟩, 3)
  else if 4294967295 - crc 4294967295 (bytesOf (s.extract 0 (4 + n3 s))) ≠ n4 (s.extract (4 + n3 s) s.size) 0 then (0, ⟨#[]⟩, 5)
  else (bt s 0, s.extract 4 (4 + n3 s), 0)
def OpenIs (s : ByteArray) (w : World) (e : Ending) (w' : World) : Prop :=
  e = .returned (.tuple #[.int .u8 (openB s).1, .string (openB s).2.1, .int .i64 (openB s).2.2]) ∧ Gr w w'
theorem openIs_mk {s : ByteArray} {w w' : World} {k : Nat} {t : ByteArray} {n : Nat} (h : Hid (openB s = (k, t, n))) (hg : Gr w w') :
    OpenIs s w (.returned (.tuple #[.int .u8 k, .string t, .int .i64 n])) w' := ⟨by rw [h.out], hg⟩
theorem e5 {s D : ByteArray} {C G K : Nat} (h : Hid (openB s = if C = G then (K, D, 0) else (0, ⟨#[]⟩, 5))) (hne : ((C : Int) != (G : Int)) = true) : Hid (openB s = (0, ⟨#[]⟩, 5)) := by
  have h' := h.out
  rw [if_neg (by intro e; simp [e] at hne)] at h'
  exact h'
theorem e0 {s D : ByteArray} {C G K : Nat} (h : Hid (openB s = if C = G then (K, D, 0) else (0, ⟨#[]⟩, 5))) (hne : ((C : Int) != (G : Int)) = false) : Hid (openB s = (K, D, 0)) := by
  have h' := h.out
  rw [if_pos (by simp at hne; omega)] at h'
  exact h'
/-- The head of a frame, in the walk's spelling: F the four bytes' number, K its kind, N its length. -/
def Head (s : ByteArray) (F K N : Nat) : Prop :=
  n4 s 0 = F ∧ bt s 0 = K ∧ n3 s = N ∧ K < 256 ∧ N < 16777216 ∧ F < 4294967296 ∧ ((F : Int) / 16777216 = (K : Int)) ∧ bits .and .u32 (F : Int) 16777215 = (N : Int)
theorem head_mk (s : ByteArray) : ∃ F K N, Head s F K N := by
  have k0 := bt_lt s 0
  have k1 := n3_lt s
  have hN : n4 s 0 = bt s 0 * 16777216 + n3 s := by unfold n4 n3; simp only [Nat.zero_add]; omega
  refine ⟨n4 s 0, bt s 0, n3 s, rfl, rfl, rfl, k0, k1, by omega, by omega, ?_⟩
  have := u32_and_nat (n4 s 0) 16777215 (by omega) (by decide)
  rw [show (16777215 : Nat) = 2 ^ 24 - 1 by decide, Nat.and_two_pow_sub_one_eq_mod] at this
  rw [show ((2 ^ 24 - 1 : Nat) : Int) = 16777215 by decide] at this
  rw [this]; omega
set_option maxRecDepth 100000 in
set_option maxHeartbeats 1000000 in
theorem open_short (s : ByteArray) (w : World) (h1 : s.size < 4) : Calls Tryz.prog 24 #[.string s] w (OpenIs s w) := by
  have E := Lib.hid (show openB s = (0, ⟨#[]⟩, 3) by simp only [openB, if_pos h1])
  go_enter Tryz.func24, Tryz.ntmps24
  go_wp2
  go_ret3
  exact openIs_mk E (Gr.refl _)
set_option maxRecDepth 100000 in
set_option maxHeartbeats 1000000 in
theorem open_low (s : ByteArray) (w : World) (hs : s.size ≤ 1000000000) (h1 : 4 ≤ s.size) (F N : Nat) (hF : Hid (n4 s 0 = F)) (hFb : F < 4294967296) (hd : True → (F : Int) / 16777216 = 0) (hm : True → bits .and .u32 (F : Int) 16777215 = (N : Int)) (hN : N < 16777216)
    (E : Hid (openB s = (0, ⟨#[]⟩, 4))) : Calls Tryz.prog 24 #[.string s] w (OpenIs s w) := by
  go_enter Tryz.func24, Tryz.ntmps24
  go_wp2_with fail
  refine (get_any' s _ (by omega) (by omega)).mono ?_
  rintro e w' ⟨rfl, n, rfl⟩
  rw [hF.out]
  go_wp2
  go_ret3
  exact openIs_mk E ((Gr.refl _).drewN _)
set_option maxRecDepth 100000 in
set_option maxHeartbeats 1000000 in
theorem open_big (s : ByteArray) (w : World) (hs : s.size ≤ 1000000000) (h1 : 4 ≤ s.size) (F K N : Nat) (hF : Hid (n4 s 0 = F)) (hFb : F < 4294967296) (hd : True → (F : Int) / 16777216 = (K : Int)) (hm : True → bits .and .u32 (F : Int) 16777215 = (N : Int)) (hN : N < 16777216) (hK : K < 256)
    (t2 : ((K : Int) == 0) = false) (h3 : 1048576 < N) (E : Hid (openB s = (0, ⟨#[]⟩, 6))) : Calls Tryz.prog 24 #[.string s] w (OpenIs s w) := by
  go_enter Tryz.func24, Tryz.ntmps24
  go_wp2_with fail
  refine (get_any' s _ (by omega) (by omega)).mono ?_
  rintro e w' ⟨rfl, n, rfl⟩
  rw [hF.out]
  go_wp2
  go_ret3
  exact openIs_mk E ((Gr.refl _).drewN _)
set_option maxRecDepth 100000 in
set_option maxHeartbeats 1000000 in
theorem open_end (s : ByteArray) (w : World) (hs : s.size ≤ 1000000000) (h1 : 4 ≤ s.size) (F K N : Nat) (hF : Hid (n4 s 0 = F)) (hFb : F < 4294967296) (hd : True → (F : Int) / 16777216 = (K : Int)) (hm : True → bits .and .u32 (F : Int) 16777215 = (N : Int)) (hK : K < 256)
    (t2 : ((K : Int) == 0) = false) (h3 : N ≤ 1048576) (h4 : s.size < N + 8) (E : Hid (openB s = (0, ⟨#[]⟩, 3))) : Calls Tryz.prog 24 #[.string s] w (OpenIs s w) := by
  go_enter Tryz.func24, Tryz.ntmps24
  go_wp2_with fail
  refine (get_any' s _ (by omega) (by omega)).mono ?_
  rintro e w' ⟨rfl, n, rfl⟩
  rw [hF.out]
  go_wp2
  go_ret3
  exact openIs_mk E ((Gr.refl _).drewN _)
set_option maxRecDepth 100000 in
set_option maxHeartbeats 1000000 in
theorem open_whole (s : ByteArray) (w : World) (hs : s.size ≤ 1000000000) (h1 : 4 ≤ s.size) (F K N : Nat) (hF : Hid (n4 s 0 = F)) (hFb : F < 4294967296) (hd : True → (F : Int) / 16777216 = (K : Int)) (hm : True → bits .and .u32 (F : Int) 16777215 = (N : Int)) (hK : K < 256)
    (t2 : ((K : Int) == 0) = false) (h3 : N ≤ 1048576) (h4 : N + 8 ≤ s.size) (A B D : ByteArray) (hA : Hid (s.extract 0 (4 + N) = A)) (hB : Hid (s.extract (4 + N) s.size = B)) (hD : Hid (s.extract 4 (4 + N) = D))
    (za : A.size ≤ 9223372036854775807) (zb : 4 ≤ B.size) (zb9 : B.size ≤ 9223372036854775807) (zd : D.size ≤ 281474976710656)
    (C G : Nat) (hC : Hid (4294967295 - crc 4294967295 (bytesOf A) = C)) (hG : Hid (n4 B 0 = G))
    (E : Hid (openB s = if C = G then (K, D, 0) else (0, ⟨#[]⟩, 5))) : Calls Tryz.prog 24 #[.string s] w (OpenIs s w) := by
  have T4 := Lib.hid (show (4 + (N : Int)).toNat = 4 + N by omega)
  go_enter Tryz.func24, Tryz.ntmps24
  go_wp2_with fail
  refine (get_any' s _ (by omega) (by omega)).mono ?_
  rintro e w' ⟨rfl, n, rfl⟩
  rw [hF.out]
  go_wp2
  go_region_with (first | (go_at_call 53; (try rw [T4.out]); rw [hA.out]; refine (sum_at1 _ _ _ _ ?_ za).mono ?_; (focus ((try simp only [World.cell?_drewN]); exact new_cell rfl rfl)); rintro e w' ⟨rfl, rfl⟩; rw [hC.out]) | (go_at_call 52; (try rw [T4.out]); rw [hB.out]; refine (get_any' _ _ zb zb9).mono ?_; rintro e w' ⟨rfl, m, rfl⟩; rw [hG.out]))
  all_goals
    go_wp2_with fail
  all_goals first
    | (go_ret3; exact openIs_mk (e5 E (by assumption)) ((((Gr.refl _).drewN _).alloc _).drewN _))
    | (rw [hD.out]; refine (clone_any D _ zd).mono ?_; rintro e w' ⟨rfl, hg⟩; go_wp2; go_ret3; exact openIs_mk (e0 E (by assumption)) (((((Gr.refl _).drewN _).alloc _).drewN _).trans hg))
theorem open_any (s : ByteArray) (w : World) (hs : s.size ≤ 1000000000) : Calls Tryz.prog 24 #[.string s] w (OpenIs s w) := by
  rcases Nat.lt_or_ge s.size 4 with h1 | h1
  · exact open_short s w h1
  have h1' := Nat.not_lt.2 h1
  obtain ⟨F, K, N, hF, hKe, hNe, hK, hN, hFb, hd, hm⟩ := head_mk s
  by_cases h2 : K = 0
  · subst h2
    exact open_low s w hs h1 F N hF hFb (fun _ => hd) (fun _ => hm) hN (by show openB s = _; simp only [openB, if_neg h1', hKe, if_true])
  have t2 : ((K : Int) == 0) = false := by simp [h2]
  rcases Nat.lt_or_ge 1048576 N with h3 | h3
  · exact open_big s w hs h1 F K N hF hFb (fun _ => hd) (fun _ => hm) hN hK t2 h3 (by show openB s = _; simp only [openB, if_neg h1', hKe, hNe, if_neg h2, if_pos h3])
  have h3' := Nat.not_lt.2 h3
  rcases Nat.lt_or_ge s.size (N + 8) with h4 | h4
  · exact open_end s w hs h1 F K N hF hFb (fun _ => hd) (fun _ => hm) hK t2 h3 h4 (by show openB s = _; simp only [openB, if_neg h1', hKe, hNe, if_neg h2, if_neg h3', if_pos h4])
  have h4' := Nat.not_lt.2 h4
  refine open_whole s w hs h1 F K N hF hFb (fun _ => hd) (fun _ => hm) hK t2 h3 h4 _ _ _ rfl rfl rfl (by simp; omega) (by simp; omega) (by simp; omega) (by simp; omega) _ _ rfl rfl ?_
  show openB s = _
  simp only [openB, if_neg h1', hKe, hNe, if_neg h2, if_neg h3', if_neg h4', ne_eq, ite_not]
end Go.Proofs.YtfgkgpkaohkehaaGreatDoor
namespace Go.Proofs.YtfgkgpkaohkehaaGreatDoor
open Go.ChangeShapes Go.WideShapes Go.ChangeAt Go.RowKit
open Crc
set_option linter.unusedVariables false
/-- string([]byte{x}) over a new block of one. -/
theorem conv1 (w : World) (n0 : Int) (h0 : 0 ≤ n0 ∧ n0 < 256) :
    (convert 78 9 (.slice (some ⟨w.heap.size, 0, none⟩) 1 1)).run Tryz.prog (w.alloc (.cells #[.int .u8 n0] 5)) =
      .ok (.string ⟨#[b8 n0]⟩) (w.alloc (.cells #[.int .u8 n0] 5)) := by
  have := run_convert_bytes_back (P := Tryz.prog) (w.alloc (.cells #[.int .u8 n0] 5)) 78 9 5 ⟨w.heap.size, 0, none⟩ 1 [b8 n0] Tryz.underlying78 Tryz.underlying5 Tryz.underlying9 (by
    intro j hj
    have hj' : j < 1 := hj
    match j, hj' with
    | 0, _ => simp [Addr.add, b8_toNat h0.1 h0.2])
  exact this
theorem conv1_at (k : Int) (h0 : 0 ≤ k ∧ k < 256) (W : World) (b : Nat) (hc : W.cell? ⟨b, 0, none⟩ = some (.int .u8 k)) :
    (convert 78 9 (.slice (some ⟨b, 0, none⟩) 1 1)).run Tryz.prog W = .ok (.string ⟨#[b8 k]⟩) W :=
  run_convert_bytes_back (P := Tryz.prog) W 78 9 5 ⟨b, 0, none⟩ 1 [b8 k] Tryz.underlying78 Tryz.underlying5 Tryz.underlying9 (by
    intro j hj
    have hj' : j < 1 := hj
    match j, hj' with
    | 0, _ => simpa [Addr.add, b8_toNat h0.1 h0.2] using hc)
/-- n bytes of a number, the first the greatest. -/
def dig (v : Nat) : Nat → ByteArray
  | 0 => ⟨#[]⟩
  | k + 1 => ⟨#[b8 (v / 256 ^ k % 256 : Nat)]⟩ ++ dig v k
theorem dig_size (v : Nat) : ∀ k, (dig v k).size = k
  | 0 => rfl
  | k + 1 => by rw [dig, ByteArray.size_append, dig_size v k]; show 1 + k = k + 1; omega
def num (l : List UInt8) : Nat := l.foldl (fun n b => 256 * n + b.toNat) 0
theorem num_snoc (l : List UInt8) (b : UInt8) : num (l ++ [b]) = 256 * num l + b.toNat := by simp [num]
theorem num_lt (l : List UInt8) : num l < 256 ^ l.length := by
  generalize hl : l.length = n
  induction n generalizing l with
  | zero => have := List.length_eq_zero_iff.1 hl; subst this; simp [num]
  | succ n ih =>
    have hne : l ≠ [] := by intro e; simp [e] at hl
    rw [← List.dropLast_concat_getLast hne, num_snoc]
    have h1 := ih l.dropLast (by simp [hl])
    have h2 := (l.getLast hne).toNat_lt
    rw [Nat.pow_succ]; omega
/-- A frame, as the reference makes it. -/
def rframeB (k : Nat) (s : ByteArray) : ByteArray :=
  ⟨#[b8 k]⟩ ++ dig s.size 3 ++ s
def rframe (k : Nat) (s : ByteArray) : ByteArray :=
  rframeB k s ++ dig (4294967295 - crc 4294967295 (bytesOf (rframeB k s))) 4
end Go.Proofs.YtfgkgpkaohkehaaGreatDoor
namespace Go.Proofs.YtfgkgpkaohkehaaGreatDoor
open Go.ChangeShapes Go.WideShapes Go.ChangeAt Go.RowKit
open Crc
set_option linter.unusedVariables false
theorem num_n3 (s : ByteArray) (h : 4 ≤ s.size) : num (bytesOf (s.extract 1 4)) = n3 s := by
  have e : bytesOf (s.extract 1 4) = [s[1], s[2], s[3]] := by
    unfold bytesOf
    apply List.ext_getElem
    · simp; omega
    · intro i h1 h2
      simp at h2
      match i, h2 with
      | 0, _ => simp; rfl
      | 1, _ => simp; rfl
      | 2, _ => simp; rfl
  rw [e]
  unfold n3
  rw [← bt_at s 1 (by omega), ← bt_at s 2 (by omega), ← bt_at s 3 (by omega)]
  simp [num]; omega
def ROpenIs (s : ByteArray) (w : World) (e : Ending) (w' : World) : Prop :=
  e = .returned (.tuple #[.agg #[.int .u8 (openB s).1, .string (openB s).2.1], .int .i64 (openB s).2.2]) ∧ Gr w w'
theorem ropenIs_mk {s : ByteArray} {w w' : World} {k : Nat} {t : ByteArray} {n : Nat} (h : Hid (openB s = (k, t, n))) (hg : Gr w w') :
    ROpenIs s w (.returned (.tuple #[.agg #[.int .u8 k, .string t], .int .i64 n])) w' := ⟨by rw [h.out], hg⟩
theorem toList_eq_iff (R G : ByteArray) : R.toList = G.toList ↔ R = G := by
  constructor
  · intro h
    have h' : R.data.toList = G.data.toList := by simpa [ByteArray.toList_eq] using h
    exact ByteArray.ext (Array.toList_inj.1 h')
  · intro h; rw [h]
theorem e5' {s D R G : ByteArray} {K : Nat} (h : Hid (openB s = if R = G then (K, D, 0) else (0, ⟨#[]⟩, 5))) (hne : (!R.toList == G.toList) = true) : Hid (openB s = (0, ⟨#[]⟩, 5)) := by
  have h' := h.out
  rw [if_neg (by intro e; simp [e] at hne)] at h'
  exact h'
theorem e0' {s D R G : ByteArray} {K : Nat} (h : Hid (openB s = if R = G then (K, D, 0) else (0, ⟨#[]⟩, 5))) (hne : (!R.toList == G.toList) = false) : Hid (openB s = (K, D, 0)) := by
  have h' := h.out
  rw [if_pos ((toList_eq_iff R G).1 (by simpa using hne))] at h'
  exact h'
end Go.Proofs.YtfgkgpkaohkehaaGreatDoor
