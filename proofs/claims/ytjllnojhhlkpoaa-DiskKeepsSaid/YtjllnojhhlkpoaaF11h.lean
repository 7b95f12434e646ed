import Derived.Test.YtjllnojhhlkpoaaF11g
import Derived.WalkKit
import Derived.ProofKit
import Derived.LoopTactic
import Derived.Outline
import Derived.WalkSpells
import Derived.WalkLawsBesides
import Derived.Lib.Hide
import Derived.Deep.LoopGhost
import Derived.Deep.QuietTactic
import Derived.BigQuiet
import Derived.ShutString
import Derived.IntWalk
import Derived.Lib.MinMax
import Derived.OpenShut
import Derived.BigQuiet
import Derived.Deep.RegionWith
import Derived.Deep.RegionHeld3
namespace Go.Proofs.Ytjllnojhhlkpoaa
open Go.ChangeShapes Go.WideShapes Go.ChangeAt Go.RowKit
set_option linter.unusedVariables false
set_option linter.unusedSimpArgs false
open Dk
theorem flip_at (s : ByteArray) (n : Nat) (x : UInt8) (j : Nat) (hj : j < s.data.size) : (Dk.flip s n x).data[j]'(by unfold Dk.flip; simpa using hj) = if n = j then s.data[j] ^^^ x else s.data[j] := by
  unfold Dk.flip; simp only [Array.getElem_modify]
theorem xor_u8 (a b : Nat) (ha : a < 256) (hb : b < 256) : bits .xor .u8 (a : Int) (b : Int) = (((UInt8.ofNat a) ^^^ (UInt8.ofNat b)).toNat : Int) := by
  have := u8_xor_nat a b ha hb
  rw [this]
  simp [UInt8.toNat_xor, Nat.mod_eq_of_lt ha, Nat.mod_eq_of_lt hb]
theorem row_at (w : World) (s : ByteArray) (cap j : Nat) (hj : j < s.data.size) (t : TypeId) :
    (w.alloc (.cells (bytesRow s cap) t ((bytesRow s cap).size, (bytesRow s cap).size + 1))).cell? ⟨w.heap.size, j, none⟩ = some (.int .u8 (s.data[j].toNat : Int)) ∧
    (w.alloc (.cells (bytesRow s cap) t ((bytesRow s cap).size, (bytesRow s cap).size + 1))).frozen? ⟨w.heap.size, j, none⟩ = false := by
  refine ⟨(World.cell?_alloc_mark w (bytesRow s cap) t _ j).trans (bytesRow_at s cap j hj), ?_⟩
  rw [World.frozen?_alloc_mark]
  have h : s.data.size ≤ (bytesRow s cap).size := by unfold bytesRow; simp
  rw [decide_eq_false (show ¬ (bytesRow s cap).size ≤ j by omega)]
  rfl
/-- What string(b) returns behind a byte's turn. -/
theorem back_of {w : World} {nb cap n V : Nat} {s : ByteArray} {x : UInt8} (hn : n < s.data.size) (hV : (s.data[n] ^^^ x).toNat = V)
    (hc : ∀ j (hj : j < s.data.size), w.cell? ⟨nb, j, none⟩ = some (.int .u8 (s.data[j].toNat : Int))) (W : World)
    (hW : W = w.setCell ⟨nb, n, none⟩ (.int .u8 (V : Int)) ∨ W = (w.setCell ⟨nb, n, none⟩ (.int .u8 (V : Int))).drew ∨ W = (w.setCell ⟨nb, n, none⟩ (.int .u8 (V : Int))).drew.drew) :
    (convert 48 9 (.slice (some ⟨nb, 0, none⟩) s.size cap)).run Try.prog W = .ok (.string (Dk.flip s n x)) W := by
  have hl : (Dk.flip s n x).data.toList.length = s.size := by rw [Array.length_toList]; exact Dk.flip_size s n x
  have h := run_convert_bytes_back (P := Try.prog) W 48 9 5 ⟨nb, 0, none⟩ cap (Dk.flip s n x).data.toList Try.underlying48 Try.underlying5 Try.underlying9 ?_
  · rw [hl] at h
    exact h
  · intro j hj
    rw [hl] at hj
    have hj' : j < s.data.size := hj
    have hadd : (⟨nb, 0, none⟩ : Addr).add j = ⟨nb, j, none⟩ := by unfold Addr.add; split <;> simp_all
    rw [hadd]
    have e : (Dk.flip s n x).data.toList[j] = if n = j then s.data[j] ^^^ x else s.data[j] := by rw [Array.getElem_toList]; exact flip_at s n x j hj'
    have e2 : (w.setCell ⟨nb, n, none⟩ (.int .u8 (V : Int))).cell? ⟨nb, j, none⟩ = some (.int .u8 (((Dk.flip s n x).data.toList[j]'(by rw [hl]; exact hj)).toNat : Int)) := by
      rw [e]
      by_cases h2 : n = j
      · subst h2
        rw [if_pos rfl, hV]
        exact World.cell?_setCell_same' _ _ _ (by rw [hc n hn]; rfl)
      · rw [if_neg h2, World.cell?_setCell_other _ _ _ _ (by first | (simp; done) | (simp; omega))]
        exact hc j hj'
    rcases hW with rfl | rfl | rfl
    · exact e2
    · exact ((Gr.refl _).drew).cell e2
    · exact (((Gr.refl _).drew).drew).cell e2
set_option maxRecDepth 100000 in
theorem keep_raw {b k : Nat} {s t : ByteArray} {p : Bool} (w : World) (n0 : w.cell? ⟨b, 1 + k * 3, none⟩ = some (.string s)) (s0 : w.cell? ⟨b, 1 + k * 3 + 1, none⟩ = some (.string t)) (p0 : w.cell? ⟨b, 1 + k * 3 + 2, none⟩ = some (.bool p))
    (fs : w.frozen? ⟨b, 1 + k * 3 + 1, none⟩ = false) (fp : w.frozen? ⟨b, 1 + k * 3 + 2, none⟩ = false) :
    Calls Try.prog 59 #[.pointer (some ⟨b, 1 + k * 3, none⟩)] w fun e w' => e = .returned (.tuple #[]) ∧ w' = (w.setCell ⟨b, 1 + k * 3 + 1, none⟩ (.string s)).setCell ⟨b, 1 + k * 3 + 2, none⟩ (.bool false) := by
  go_enter Try.func59, Try.ntmps59
  go_wp2
  go_end0
  exact ⟨rfl, rfl⟩
theorem spoilt_is {w w3 : World} {b k : Nat} {d : D} {z : ByteArray} (h : DkIs w b d) (hk : k < 4) (hz : z.size = (d.fs k).now.size) (hg : Gr (w.setCell ⟨b, 1 + k * 3, none⟩ (.string z)) w3) :
    DkIs ((w3.setCell ⟨b, 1 + k * 3 + 1, none⟩ (.string z)).setCell ⟨b, 1 + k * 3 + 2, none⟩ (.bool false)) b (putF d k ⟨z, z, false⟩) ∧ Sole b w ((w3.setCell ⟨b, 1 + k * 3 + 1, none⟩ (.string z)).setCell ⟨b, 1 + k * 3 + 2, none⟩ (.bool false)) := by
  have hb : b < (w.setCell ⟨b, 1 + k * 3, none⟩ (.string z)).heap.size := Nat.lt_of_lt_of_le (cell_lt h.room) (Sole.setCell b _ w _).size
  refine ⟨h.of hk (putF_ok h.ok hk (fun _ => List.prefix_rfl) (full_keep h.ok _ _ (by unfold F.size; simp only; omega))) (fun i => by rw [World.frozen?_setCell, World.frozen?_setCell, hg.frozen hb, World.frozen?_setCell]) ?_ ?_ ?_ (fun i v h1 h2 h3 hv => ?_), (((Sole.setCell _ _ _ _).trans (Sole.of_gr hg)).trans (Sole.setCell _ _ _ _)).trans (Sole.setCell _ _ _ _)⟩
  · rw [World.cell?_setCell_other _ _ _ _ (by simp), World.cell?_setCell_other _ _ _ _ (by simp)]
    exact hg.cell (World.cell?_setCell_same' _ _ _ (by rw [h.now k hk]; rfl))
  · rw [World.cell?_setCell_other _ _ _ _ (by simp)]
    exact World.cell?_setCell_same' _ _ _ (by rw [hg.cell ((World.cell?_setCell_other _ _ _ _ (by simp)).trans (h.sure k hk))]; rfl)
  · exact World.cell?_setCell_same' _ _ _ (by rw [World.cell?_setCell_other _ _ _ _ (by simp), hg.cell ((World.cell?_setCell_other _ _ _ _ (by simp)).trans (h.put k hk))]; rfl)
  · rw [World.cell?_setCell_other _ _ _ _ (by simp [h3]), World.cell?_setCell_other _ _ _ _ (by simp [h2])]
    exact hg.cell ((World.cell?_setCell_other _ _ _ _ (by simp [h1])).trans hv)
theorem spoil_eq {d : D} {k n : Nat} (x : UInt8) (hk : k < 4) (he : (d.fs k).now = (d.fs k).sure) (hn : n < (d.fs k).now.size) : spoil d k n x = putF d k ⟨Dk.flip (d.fs k).now n x, Dk.flip (d.fs k).now n x, false⟩ := by
  unfold spoil
  rw [if_pos]
  · rfl
  · exact decide_eq_true ⟨by omega, by omega, he, by omega, by show (n : Int) < _; have : (d.fs (k : Int).toNat) = d.fs k := rfl; rw [this]; omega⟩
set_option maxRecDepth 100000 in
set_option maxHeartbeats 2000000 in
theorem spoil_yes {b : Nat} {d : D} (k n : Nat) (by_ : Nat) (hk : k < 4) (he : (d.fs k).now = (d.fs k).sure) (hn : n < (d.fs k).now.size) (hb : by_ < 256) (w : World) (h : DkIs w b d) :
    Calls Try.prog 55 #[.pointer (some ⟨b, 0, none⟩), .int .i64 (k : Nat), .int .i64 (n : Nat), .int .u8 (by_ : Nat)] w fun e w' => e = .returned (.bool true) ∧ DkIs w' b (spoil d k n (UInt8.ofNat by_)) ∧ Sole b w w' := by
  have SU := Lib.hid (sure_in k hk w h)
  rw [decide_eq_true he] at SU
  have n0 := h.now k hk
  have s0 := h.sure k hk
  have p0 := h.put k hk
  have fn := h.free (1 + k * 3) (by omega)
  have fs := h.free (1 + k * 3 + 1) (by omega)
  have fp := h.free (1 + k * 3 + 2) (by omega)
  have hz := ok_now h.ok k hk
  have HD := Lib.hid h
  have hk4 : (k : Int) < 4 := by omega
  have hblt := cell_lt n0
  have he0 := he
  clear h he
  have HEQ := Lib.hid (spoil_eq (UInt8.ofNat by_) hk he0 hn)
  generalize hnw : (d.fs k).now = s at *
  have HNW := Lib.hid hnw
  clear hnw he0
  have hn4 : (n : Int) < s.size := by omega
  have hconv := fun w : World => run_bytes_of_string (P := Try.prog) w 9 48 5 s Try.underlying9 Try.underlying48 Try.underlying5
  have HBT := Lib.hid (fun (w : World) (cap j : Nat) (hj : j < s.data.size) => row_at w s cap j hj 5)
  obtain ⟨V, hV⟩ : ∃ V : Nat, ((s.data[n]'hn) ^^^ UInt8.ofNat by_).toNat = V := ⟨_, rfl⟩
  have HV := Lib.hid hV
  have HXR := Lib.hid (show bits .xor .u8 ((s.data[n]'hn).toNat : Int) (by_ : Int) = (V : Int) by rw [← hV, xor_u8 _ _ (s.data[n]'hn).toNat_lt hb]; simp)
  clear hV
  go_enter Try.func55, Try.ntmps55
  go_wp2_with fail
  refine SU.out.mono ?_
  rintro e w2 ⟨rfl, hg2⟩
  replace n0 := hg2.cell n0
  replace fn := (hg2.frozen hblt).trans fn
  have HR := Lib.hid (HBT.out w2 (grownCap w2 s.size 0 5))
  have hx := (HR.out n hn).1
  have hxf := (HR.out n hn).2
  have hbk := back_of (w := w2.alloc (.cells (bytesRow s (grownCap w2 s.size 0 5)) 5 ((bytesRow s (grownCap w2 s.size 0 5)).size, (bytesRow s (grownCap w2 s.size 0 5)).size + 1))) (nb := w2.heap.size) (cap := grownCap w2 s.size 0 5) (x := UInt8.ofNat by_) hn HV.out (fun j hj => (HR.out j hj).1)
  have k1 := hbk _ (.inr (.inl rfl))
  have k2 := hbk _ (.inr (.inr rfl))
  clear hbk
  have hne : b ≠ w2.heap.size := Nat.ne_of_lt (Nat.lt_of_lt_of_le hblt hg2.size)
  go_wp2_with (simp only [HXR.out])
  have HZ := Lib.hid (((Gr.refl w2).alloc (.cells (bytesRow s (grownCap w2 s.size 0 5)) 5 ((bytesRow s (grownCap w2 s.size 0 5)).size, (bytesRow s (grownCap w2 s.size 0 5)).size + 1))).setCell (p := ⟨w2.heap.size, n, none⟩) (Nat.le_refl _) (.int .u8 (V : Int)))
  have HSZ := Lib.hid (Dk.flip_size s n (UInt8.ofNat by_))
  clear hx hxf HR hconv HBT HXR
  generalize ((w2.alloc (.cells (bytesRow s (grownCap w2 s.size 0 5)) 5 ((bytesRow s (grownCap w2 s.size 0 5)).size, (bytesRow s (grownCap w2 s.size 0 5)).size + 1))).setCell ⟨w2.heap.size, n, none⟩ (.int .u8 (V : Int))) = wz at *
  generalize hzf : Dk.flip s n (UInt8.ofNat by_) = z at *
  have HZF := Lib.hid hzf
  clear hzf
  have hb2 := cell_lt n0
  replace n0 := HZ.out.cell n0
  replace fn := (HZ.out.frozen hb2).trans fn
  have s0z := (hg2.trans HZ.out).cell s0
  have p0z := (hg2.trans HZ.out).cell p0
  have fsz := ((hg2.trans HZ.out).frozen hblt (o := 1 + k * 3 + 1)).trans fs
  have fpz := ((hg2.trans HZ.out).frozen hblt (o := 1 + k * 3 + 2)).trans fp
  have HG2 := Lib.hid (hg2.trans HZ.out)
  have HDZ := Lib.hid (HD.out.gr HG2.out)
  clear s0 p0 fs fp hg2
  generalize grownCap w2 s.size 0 5 = cap at *
  generalize w2.heap.size = nb at *
  go_region
  go_wp2_with fail
  have hgd : Gr (wz.setCell ⟨b, 1 + k * 3, none⟩ (.string z)) ((wz.setCell ⟨b, 1 + k * 3, none⟩ (.string z)).drew.drew) := ((Gr.refl _).drew).drew
  have hbz : b < (wz.setCell ⟨b, 1 + k * 3, none⟩ (.string z)).heap.size := Nat.lt_of_lt_of_le (cell_lt n0) (Sole.setCell b _ wz _).size
  refine (keep_raw (s := z) (t := (d.fs k).sure) (p := (d.fs k).put) _ (hgd.cell (World.cell?_setCell_same' _ _ _ (by rw [n0]; rfl))) (hgd.cell ((World.cell?_setCell_other _ _ _ _ (by simp)).trans s0z)) (hgd.cell ((World.cell?_setCell_other _ _ _ _ (by simp)).trans p0z))
    ((hgd.frozen hbz).trans (show (wz.setCell ⟨b, 1 + k * 3, none⟩ (.string z)).frozen? ⟨b, 1 + k * 3 + 1, none⟩ = false by rw [World.frozen?_setCell]; exact fsz)) ((hgd.frozen hbz).trans (show (wz.setCell ⟨b, 1 + k * 3, none⟩ (.string z)).frozen? ⟨b, 1 + k * 3 + 2, none⟩ = false by rw [World.frozen?_setCell]; exact fpz))).mono ?_
  rintro e w5 ⟨rfl, hw5⟩
  obtain ⟨hd5, hs5⟩ := spoilt_is HDZ.out hk (by rw [HNW.out]; exact HSZ.out) hgd
  rw [← hw5] at hd5 hs5
  rw [← HEQ.out] at hd5
  have HD5 := Lib.hid hd5
  have HS5 := Lib.hid ((Sole.of_gr HG2.out).trans hs5)
  clear hw5 hd5 hs5 hgd hbz n0 fn s0z p0z fsz fpz k1 k2
  go_wp2
  go_ret
  exact ⟨rfl, HD5.out, HS5.out⟩
/-- What Spoil tells and leaves. -/
def SpoilIs (b : Nat) (d : D) (i n : Int) (x : UInt8) (w : World) (e : Ending) (w' : World) : Prop := e = .returned (.bool (can d i n)) ∧ DkIs w' b (spoil d i n x) ∧ Sole b w w'
theorem spoilIs_no {b : Nat} {d : D} {i n : Int} {x : UInt8} {w w' : World} (hc : can d i n = false) (h : DkIs w b d) (hg : Gr w w') : SpoilIs b d i n x w (.returned (.bool false)) w' := by
  have e : spoil d i n x = d := by unfold spoil; rw [if_neg (by simp [hc])]
  exact ⟨by rw [hc], by rw [e]; exact h.gr hg, Sole.of_gr hg⟩
set_option maxRecDepth 100000 in
set_option maxHeartbeats 1000000 in
theorem spoil_any {b : Nat} {d : D} (i n : Int) (by_ : Nat) (hb : by_ < 256) (w : World) (h : DkIs w b d) :
    Calls Try.prog 55 #[.pointer (some ⟨b, 0, none⟩), .int .i64 i, .int .i64 n, .int .u8 (by_ : Nat)] w (SpoilIs b d i n (UInt8.ofNat by_) w) := by
  cases hi : hasB i
  · have H := Lib.hid (fun w => sure_out i hi w (b := b))
    have HC := Lib.hid (show can d i n = false from decide_eq_false (by have := of_decide_eq_false hi; omega))
    have HD := Lib.hid h
    clear h hi
    go_enter Try.func55, Try.ntmps55
    go_wp2_with fail
    refine (H.out _).mono ?_
    rintro e w2 ⟨rfl, hg⟩
    go_wp2
    go_ret
    exact spoilIs_no HC.out HD.out hg
  · obtain ⟨k, rfl, hk⟩ : ∃ k : Nat, i = (k : Int) ∧ k < 4 := ⟨i.toNat, by have := of_decide_eq_true hi; omega, by have := of_decide_eq_true hi; omega⟩
    have SU := Lib.hid (sure_in k hk w h)
    have HD := Lib.hid h
    have n0 := h.now k hk
    have hk4 : (k : Int) < 4 := by omega
    by_cases he : (d.fs k).now = (d.fs k).sure
    · by_cases h0 : 0 ≤ n
      · obtain ⟨m, rfl⟩ := Int.eq_ofNat_of_zero_le h0
        by_cases h1 : m < (d.fs k).now.size
        · refine (spoil_yes k m by_ hk he h1 hb w h).mono ?_
          rintro e w2 ⟨rfl, hd, hs⟩
          exact ⟨by rw [show can d (k : Int) (m : Int) = true from decide_eq_true ⟨by omega, by omega, he, by omega, by have : (d.fs (k : Int).toNat) = d.fs k := rfl; rw [this]; omega⟩], hd, hs⟩
        · have HC := Lib.hid (show can d (k : Int) (m : Int) = false from decide_eq_false (by have : (d.fs (k : Int).toNat) = d.fs k := rfl; rw [this]; omega))
          rw [decide_eq_true he] at SU
          have hz := ok_now h.ok k hk
          clear h hi he
          generalize (d.fs k).now = s at *
          have hms : (m : Int) ≥ s.size := by omega
          go_enter Try.func55, Try.ntmps55
          go_wp2_with fail
          refine SU.out.mono ?_
          rintro e w2 ⟨rfl, hg⟩
          replace n0 := hg.cell n0
          go_wp2
          go_ret
          exact spoilIs_no HC.out HD.out hg
      · have HC := Lib.hid (show can d (k : Int) n = false from decide_eq_false (by omega))
        rw [decide_eq_true he] at SU
        clear h hi he n0
        go_enter Try.func55, Try.ntmps55
        go_wp2_with fail
        refine SU.out.mono ?_
        rintro e w2 ⟨rfl, hg⟩
        go_wp2
        go_ret
        exact spoilIs_no HC.out HD.out hg
    · have HC := Lib.hid (show can d (k : Int) n = false from decide_eq_false (fun hh => he hh.2.2.1))
      rw [decide_eq_false he] at SU
      clear h hi he n0
      go_enter Try.func55, Try.ntmps55
      go_wp2_with fail
      refine SU.out.mono ?_
      rintro e w2 ⟨rfl, hg⟩
      go_wp2
      go_ret
      exact spoilIs_no HC.out HD.out hg
end Go.Proofs.Ytjllnojhhlkpoaa
