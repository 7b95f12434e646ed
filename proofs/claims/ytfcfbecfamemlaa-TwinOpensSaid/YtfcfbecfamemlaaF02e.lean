import Derived.Test.YtfcfbecfamemlaaF02d
import Derived.WalkKit
import Derived.ProofKit
import Derived.LoopTactic
import Derived.Outline
import Derived.WalkSpells
import Derived.WalkLawsBesides
import Derived.Lib.Hide
import Derived.Deep.LoopGhost
import Derived.Deep.QuietTactic
import Derived.BigQuiet
import Derived.ShutString
import Derived.Deep.RegionWith
import Derived.Laws.ResultCell
namespace Go.Proofs.Ytfcfbecfamemlaa
open Go.ChangeShapes Go.WideShapes Go.ChangeAt Go.RowKit
open Crc
set_option linter.unusedVariables false
theorem num_n3 (s : ByteArray) (h : 4 ≤ s.size) : num (bytesOf (s.extract 1 4)) = n3 s := by
  have e : bytesOf (s.extract 1 4) = [s[1], s[2], s[3]] := by
    unfold bytesOf
    apply List.ext_getElem
    · simp; omega
    · intro i h1 h2
      simp at h2
      match i, h2 with
      | 0, _ => simp; rfl
      | 1, _ => simp; rfl
      | 2, _ => simp; rfl
  rw [e]
  unfold n3
  rw [← bt_at s 1 (by omega), ← bt_at s 2 (by omega), ← bt_at s 3 (by omega)]
  simp [num]; omega
def ROpenIs (s : ByteArray) (w : World) (e : Ending) (w' : World) : Prop :=
  e = .returned (.tuple #[.agg #[.int .u8 (openB s).1, .string (openB s).2.1], .int .i64 (openB s).2.2]) ∧ Gr w w'
theorem ropenIs_mk {s : ByteArray} {w w' : World} {k : Nat} {t : ByteArray} {n : Nat} (h : Hid (openB s = (k, t, n))) (hg : Gr w w') :
    ROpenIs s w (.returned (.tuple #[.agg #[.int .u8 k, .string t], .int .i64 n])) w' := ⟨by rw [h.out], hg⟩
theorem toList_eq_iff (R G : ByteArray) : R.toList = G.toList ↔ R = G := by
  constructor
  · intro h
    have h' : R.data.toList = G.data.toList := by simpa [ByteArray.toList_eq] using h
    exact ByteArray.ext (Array.toList_inj.1 h')
  · intro h; rw [h]
theorem e5' {s D R G : ByteArray} {K : Nat} (h : Hid (openB s = if R = G then (K, D, 0) else (0, ⟨#[]⟩, 5))) (hne : (!R.toList == G.toList) = true) : Hid (openB s = (0, ⟨#[]⟩, 5)) := by
  have h' := h.out
  rw [if_neg (by intro e; simp [e] at hne)] at h'
  exact h'
theorem e0' {s D R G : ByteArray} {K : Nat} (h : Hid (openB s = if R = G then (K, D, 0) else (0, ⟨#[]⟩, 5))) (hne : (!R.toList == G.toList) = false) : Hid (openB s = (K, D, 0)) := by
  have h' := h.out
  rw [if_pos ((toList_eq_iff R G).1 (by simpa using hne))] at h'
  exact h'
set_option maxRecDepth 100000 in
set_option maxHeartbeats 400000 in
theorem ropen_short (s : ByteArray) (w : World) (h1 : s.size < 4) : Calls Try.prog 73 #[.string s] w (ROpenIs s w) := by
  have E := Lib.hid (show openB s = (0, ⟨#[]⟩, 3) by simp only [openB, if_pos h1])
  go_enter Try.func73, Try.ntmps73
  go_wp2
  exact bodyPost_ret (v := .tuple #[.agg #[.int .u8 0, .string ⟨#[]⟩], .int .i64 3]) (by simp [results, Try.results73, go_sem]) rfl (ropenIs_mk E ((Gr.refl _).alloc _))
set_option maxRecDepth 100000 in
set_option maxHeartbeats 400000 in
theorem ropen_low (s : ByteArray) (w : World) (hs : s.size ≤ 1000000000) (h1 : 4 ≤ s.size) (h0 : (s[0].toNat : Int) = 0)
    (E : Hid (openB s = (0, ⟨#[]⟩, 4))) : Calls Try.prog 73 #[.string s] w (ROpenIs s w) := by
  have i0 : 0 < s.size := by omega
  go_enter Try.func73, Try.ntmps73
  go_wp2
  exact bodyPost_ret (v := .tuple #[.agg #[.int .u8 0, .string ⟨#[]⟩], .int .i64 4]) (by simp [results, Try.results73, go_sem]) rfl (ropenIs_mk E ((Gr.refl _).alloc _))
set_option maxRecDepth 100000 in
set_option maxHeartbeats 400000 in
theorem ropen_more (s : ByteArray) (w : World) (hs : s.size ≤ 1000000000) (h1 : 4 ≤ s.size) (K N : Nat) (hb : True → s[0].toNat = K) (hK : K < 256) (h0 : ((K : Int) == 0) = false)
    (L : ByteArray) (hL : Hid (s.extract 1 4 = L)) (hLz : L.size ≤ 3) (hN : Hid (num (bytesOf L) = N)) (hNb : N < 16777216)
    (h3 : 1048576 < N ∧ Hid (openB s = (0, ⟨#[]⟩, 6)) ∨ (N ≤ 1048576 ∧ s.size < N + 8 ∧ Hid (openB s = (0, ⟨#[]⟩, 3)))) :
    Calls Try.prog 73 #[.string s] w (ROpenIs s w) := by
  have i0 : 0 < s.size := by omega
  rcases h3 with ⟨h3, E⟩ | ⟨h3, h4, E⟩
  · go_enter Try.func73, Try.ntmps73
    go_wp2_with fail
    rw [hL.out]
    refine (refNumber_any L _ hLz).mono ?_
    rintro e w' ⟨rfl, rfl⟩
    rw [hN.out]
    go_wp2
    exact bodyPost_ret (v := .tuple #[.agg #[.int .u8 0, .string ⟨#[]⟩], .int .i64 6]) (by simp [results, Try.results73, go_sem]) rfl (ropenIs_mk E ((Gr.refl _).alloc _))
  · go_enter Try.func73, Try.ntmps73
    go_wp2_with fail
    rw [hL.out]
    refine (refNumber_any L _ hLz).mono ?_
    rintro e w' ⟨rfl, rfl⟩
    rw [hN.out]
    go_wp2
    exact bodyPost_ret (v := .tuple #[.agg #[.int .u8 0, .string ⟨#[]⟩], .int .i64 3]) (by simp [results, Try.results73, go_sem]) rfl (ropenIs_mk E ((Gr.refl _).alloc _))
set_option maxRecDepth 100000 in
set_option maxHeartbeats 1000000 in
theorem ropen_whole (s : ByteArray) (w : World) (hs : s.size ≤ 1000000000) (h1 : 4 ≤ s.size) (K N : Nat) (hb : True → s[0].toNat = K) (hK : K < 256) (h0 : ((K : Int) == 0) = false)
    (L : ByteArray) (hL : Hid (s.extract 1 4 = L)) (hLz : L.size ≤ 3) (hN : Hid (num (bytesOf L) = N)) (h3 : N ≤ 1048576) (h4 : N + 8 ≤ s.size)
    (D R G : ByteArray) (hD : Hid (s.extract 4 (4 + N) = D)) (hDz : D.size ≤ 1048576) (hR : Hid (rframe K D = R)) (hG : Hid (s.extract 0 (N + 8) = G))
    (E : Hid (openB s = if R = G then (K, D, 0) else (0, ⟨#[]⟩, 5))) :
    Calls Try.prog 73 #[.string s] w (ROpenIs s w) := by
  have i0 : 0 < s.size := by omega
  have i4 : 0 ≤ 4 + (N : Int) ∧ 4 + (N : Int) ≤ s.size := by omega
  have i8 : 0 ≤ (N : Int) + 8 ∧ (N : Int) + 8 ≤ s.size := by omega
  have wr1 : True → IntKind.i64.wrap (4 + (N : Int)) = 4 + (N : Int) := fun _ => IntWalk.i64_in _ (by omega)
  have wr2 : True → IntKind.i64.wrap ((N : Int) + 8) = (N : Int) + 8 := fun _ => IntWalk.i64_in _ (by omega)
  have T4 := Lib.hid (show (4 + (N : Int)).toNat = 4 + N by omega)
  have T8 := Lib.hid (show ((N : Int) + 8).toNat = N + 8 by omega)
  go_enter Try.func73, Try.ntmps73
  go_wp2_with fail
  rw [hL.out]
  refine (refNumber_any L _ hLz).mono ?_
  rintro e w' ⟨rfl, rfl⟩
  rw [hN.out]
  go_wp2
  go_region_with (first | (go_at_call 58; (try rw [T4.out]); rw [hD.out]; refine (rframe_any K D _ hK hDz).mono ?_; rintro e w2 ⟨rfl, hg⟩; rw [hR.out]))
  all_goals
    (try rw [T8.out])
    rw [hG.out]
    obtain ⟨oc, of, os⟩ := hg.of_drew.own
    have c0 := oc 0 _ rfl
    have c1 := oc 1 _ rfl
    have f0 := of 0
    have f1 := of 1
    clear oc of
    go_wp2_with fail
  all_goals first
    | exact bodyPost_ret (v := .tuple #[.agg #[.int .u8 0, .string ⟨#[]⟩], .int .i64 5]) (by simp [results, Try.results73, go_sem, c0, c1]) rfl (ropenIs_mk (e5' E (by assumption)) ((((((Gr.refl _).alloc _).drew).trans hg).setCell (by simp) _).setCell (by simp) _))
    | skip
  all_goals
    have hE := e0' E (by assumption)
    go_region_with (fail)
    go_wp2
    rw [T4.out, hD.out]
    exact bodyPost_ret (v := .tuple #[.agg #[.int .u8 K, .string D], .int .i64 0]) (by simp [results, Try.results73, go_sem, c0, c1]) rfl (ropenIs_mk hE (((((((Gr.refl _).alloc _).drew).trans hg).setCell (by simp) _).setCell (by simp) _).drew))
end Go.Proofs.Ytfcfbecfamemlaa
