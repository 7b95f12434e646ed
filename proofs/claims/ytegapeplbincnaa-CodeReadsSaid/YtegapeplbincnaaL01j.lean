import Derived.Test.YtegapeplbincnaaL01i
import Derived.WalkKit
import Derived.ProofKit
import Derived.LoopTactic
import Derived.Outline
import Derived.WalkSpells
import Derived.WalkLawsBesides
import Derived.Lib.Hide
import Derived.Deep.LoopGhost
import Derived.Deep.QuietTactic
import Derived.BigQuiet
import Derived.ShutString
import Derived.Deep.RegionWith
import Derived.Deep.RegionHeld3
namespace Go.Proofs.Ytegapeplbincnaa
open Go.ChangeShapes Go.WideShapes Go.ChangeAt Go.RowKit
set_option linter.unusedVariables false
set_option linter.unusedSimpArgs false
theorem rtake_is {r a c : ByteArray} {e n b : Nat} (h : takeS r e n = (a, b, c)) (w : World) (hr : r.size ≤ 1000000) (hn : n ≤ 9223372036854775807) :
    Calls Try.prog 49 #[.agg #[.string r, .int .i64 (e : Int)], .int .i64 (n : Int)] w fun en w' => en = .returned (.tuple #[.agg #[.string a, .int .i64 (b : Int)], .string c]) ∧ Gr w w' := by
  have := refTake_any r e n w hr hn
  unfold RTakeIs at this
  rwa [h] at this
def RBIs (r : ByteArray) (e : Nat) (w : World) (en : Ending) (w' : World) : Prop :=
  en = .returned (.tuple #[.agg #[.string (bS r e).1, .int .i64 ((bS r e).2.1 : Nat)], .bool (bS r e).2.2]) ∧ Gr w w'
theorem rbIs_mk {r a : ByteArray} {e b : Nat} {c : Bool} {w w' : World} (h : Hid (bS r e = (a, b, c))) (hg : Gr w w') : RBIs r e w (.returned (.tuple #[.agg #[.string a, .int .i64 (b : Int)], .bool c])) w' := by
  unfold RBIs; rw [h.out]; exact ⟨rfl, hg⟩
set_option maxRecDepth 100000 in
set_option maxHeartbeats 1000000 in
theorem refB_err (r a : ByteArray) (e b : Nat) (w : World) (hr : r.size ≤ 1000000) (hT : Hid (takeS r e 1 = (a, b, ⟨#[]⟩))) (hb : b ≠ 0) (E : Hid (bS r e = (a, b, false))) :
    Calls Try.prog 18 #[.agg #[.string r, .int .i64 (e : Int)]] w (RBIs r e w) := by
  have t1 : ((b : Int) == 0) = false := by simp; omega
  clear hb
  go_enter Try.func18, Try.ntmps18
  go_wp2_with fail
  refine (rtake_is hT.out _ hr (by omega)).mono ?_
  rintro en w1 ⟨rfl, hg⟩
  obtain ⟨oc, of, ol⟩ := hg.own
  have o0 : w1.cell? ⟨w.heap.size + 1, 0, none⟩ = some (.string ⟨#[]⟩) := by simpa using oc 0 _ rfl
  have o1 : w1.cell? ⟨w.heap.size + 1, 1, none⟩ = some (.int .i64 0) := by simpa using oc 1 _ rfl
  have o2 : w1.frozen? ⟨w.heap.size + 1, 0, none⟩ = false := by simpa using of 0
  have o3 : w1.frozen? ⟨w.heap.size + 1, 1, none⟩ = false := by simpa using of 1
  have ol2 : w.heap.size + 1 < w1.heap.size := by simpa using ol
  have HG := Lib.hid (((Gr.refl w).alloc _).alloc _ |>.trans hg)
  clear oc of ol hg
  go_wp2
  first | go_region_with fail | fail
  all_goals
    go_wp2
    exact bodyPost_ret (v := .tuple #[.agg #[.string a, .int .i64 (b : Nat)], .bool false]) (by simp [results, Try.results18, go_sem, o0, o1, o2, o3, ol2, Nat.ne_of_lt ol2, Nat.ne_of_gt ol2]) rfl (rbIs_mk E (by first | exact HG.out.drew | exact HG.out.drew.setCell (by simp; omega) _ | exact (HG.out.drew.setCell (by simp) _).setCell (by simp) _ | exact ((HG.out.drew.setCell (by simp) _).setCell (by simp) _).setCell (by simp) _ | exact ((HG.out.setCell (by simp) _).drew.setCell (by simp) _).setCell (by simp) _ | exact (((HG.out.setCell (by simp) _).setCell (by simp) _).alloc _).drew | exact ((((HG.out.setCell (by simp) _).setCell (by simp) _).setCell (by simp) _).alloc _).drew | (trace_state; fail)))
set_option maxRecDepth 100000 in
set_option maxHeartbeats 1000000 in
theorem refB_some (r r1 S : ByteArray) (m : Nat) (w : World) (hr : r.size ≤ 1000000) (hT : Hid (takeS r 0 1 = (r1, 0, S))) (i0 : 0 < S.size) (hm : True → S[0].toNat = m)
    (hc : 1 < m ∧ Hid (bS r 0 = (r1, 4, false)) ∨ m ≤ 1 ∧ ∃ x : Bool, ((m : Int) == 1) = x ∧ Hid (bS r 0 = (r1, 0, x))) :
    Calls Try.prog 18 #[.agg #[.string r, .int .i64 ((0 : Nat) : Int)]] w (RBIs r 0 w) := by
  rcases hc with ⟨hlt, E⟩ | ⟨hle, x, hx, E⟩
  · have t1 : (1 : Int) < (m : Int) := by omega
    have t2 : ((m : Int) == 1) = false := by simp; omega
    go_enter Try.func18, Try.ntmps18
    go_wp2_with fail
    refine (rtake_is hT.out _ hr (by omega)).mono ?_
    rintro en w1 ⟨rfl, hg⟩
    obtain ⟨oc, of, ol⟩ := hg.own
    have o0 : w1.cell? ⟨w.heap.size + 1, 0, none⟩ = some (.string ⟨#[]⟩) := by simpa using oc 0 _ rfl
    have o1 : w1.cell? ⟨w.heap.size + 1, 1, none⟩ = some (.int .i64 0) := by simpa using oc 1 _ rfl
    have o2 : w1.frozen? ⟨w.heap.size + 1, 0, none⟩ = false := by simpa using of 0
    have o3 : w1.frozen? ⟨w.heap.size + 1, 1, none⟩ = false := by simpa using of 1
    have ol2 : w.heap.size + 1 < w1.heap.size := by simpa using ol
    have HG := Lib.hid (((Gr.refl w).alloc _).alloc _ |>.trans hg)
    clear oc of ol hg
    go_wp2
    first | go_region_with fail | fail
    all_goals
      go_wp2
      exact bodyPost_ret (v := .tuple #[.agg #[.string r1, .int .i64 (4 : Nat)], .bool false]) (by simp [results, Try.results18, go_sem, o0, o1, o2, o3, ol2, Nat.ne_of_lt ol2, Nat.ne_of_gt ol2]) rfl (rbIs_mk E (by first | exact HG.out.drew | exact HG.out.drew.setCell (by simp; omega) _ | exact (HG.out.drew.setCell (by simp) _).setCell (by simp) _ | exact ((HG.out.drew.setCell (by simp) _).setCell (by simp) _).setCell (by simp) _ | exact ((HG.out.setCell (by simp) _).drew.setCell (by simp) _).setCell (by simp) _ | exact (((HG.out.setCell (by simp) _).setCell (by simp) _).alloc _).drew | exact ((((HG.out.setCell (by simp) _).setCell (by simp) _).setCell (by simp) _).alloc _).drew | (trace_state; fail)))
  · have t1 : (m : Int) ≤ 1 := by omega
    cases x
    all_goals
      go_enter Try.func18, Try.ntmps18
      go_wp2_with fail
      refine (rtake_is hT.out _ hr (by omega)).mono ?_
      rintro en w1 ⟨rfl, hg⟩
      obtain ⟨oc, of, ol⟩ := hg.own
      have o0 : w1.cell? ⟨w.heap.size + 1, 0, none⟩ = some (.string ⟨#[]⟩) := by simpa using oc 0 _ rfl
      have o1 : w1.cell? ⟨w.heap.size + 1, 1, none⟩ = some (.int .i64 0) := by simpa using oc 1 _ rfl
      have o2 : w1.frozen? ⟨w.heap.size + 1, 0, none⟩ = false := by simpa using of 0
      have o3 : w1.frozen? ⟨w.heap.size + 1, 1, none⟩ = false := by simpa using of 1
      have ol2 : w.heap.size + 1 < w1.heap.size := by simpa using ol
      have HG := Lib.hid (((Gr.refl w).alloc _).alloc _ |>.trans hg)
      clear oc of ol hg
      go_wp2
      first | go_region_with fail | fail
      all_goals go_wp2
    all_goals first
    | exact bodyPost_ret (v := .tuple #[.agg #[.string r1, .int .i64 (0 : Nat)], .bool false]) (by simp [results, Try.results18, go_sem, o0, o1, o2, o3, ol2, Nat.ne_of_lt ol2, Nat.ne_of_gt ol2]) rfl (rbIs_mk E (by first | exact HG.out.drew | exact HG.out.drew.setCell (by simp; omega) _ | exact (HG.out.drew.setCell (by simp) _).setCell (by simp) _ | exact ((HG.out.drew.setCell (by simp) _).setCell (by simp) _).setCell (by simp) _ | exact ((HG.out.setCell (by simp) _).drew.setCell (by simp) _).setCell (by simp) _ | exact (((HG.out.setCell (by simp) _).setCell (by simp) _).alloc _).drew | exact ((((HG.out.setCell (by simp) _).setCell (by simp) _).setCell (by simp) _).alloc _).drew))
    | exact bodyPost_ret (v := .tuple #[.agg #[.string r1, .int .i64 (0 : Nat)], .bool true]) (by simp [results, Try.results18, go_sem, o0, o1, o2, o3, ol2, Nat.ne_of_lt ol2, Nat.ne_of_gt ol2]) rfl (rbIs_mk E (by first | exact HG.out.drew | exact HG.out.drew.setCell (by simp; omega) _ | exact (HG.out.drew.setCell (by simp) _).setCell (by simp) _ | exact ((HG.out.drew.setCell (by simp) _).setCell (by simp) _).setCell (by simp) _ | exact ((HG.out.setCell (by simp) _).drew.setCell (by simp) _).setCell (by simp) _ | exact (((HG.out.setCell (by simp) _).setCell (by simp) _).alloc _).drew | exact ((((HG.out.setCell (by simp) _).setCell (by simp) _).setCell (by simp) _).alloc _).drew))
theorem refB_any (r : ByteArray) (e : Nat) (w : World) (hr : r.size ≤ 1000000) : Calls Try.prog 18 #[.agg #[.string r, .int .i64 (e : Int)]] w (RBIs r e w) := by
  by_cases he : e = 0
  · subst he
    rcases Nat.lt_or_ge r.size 1 with hz | hz
    · exact refB_err r r 0 3 w hr (Lib.hid (by unfold takeS; rw [if_neg (by omega), if_pos hz])) (by omega) (Lib.hid (by unfold bS; rw [if_neg (by omega), if_pos hz]))
    · have hsz : (r.extract 0 1).size = 1 := by simp; omega
      have i0 : 0 < (r.extract 0 1).size := by omega
      have hm : (r.extract 0 1)[0].toNat = hd r := by unfold hd; rw [dif_pos (show 0 < r.size by omega), ByteArray.getElem_extract]
      have h1 : ¬ r.size < 1 := by omega
      refine refB_some r (r.extract 1 r.size) (r.extract 0 1) (hd r) w hr (Lib.hid (by unfold takeS; rw [if_neg (by omega), if_neg h1])) i0 (fun _ => hm) ?_
      by_cases hk : 1 < hd r
      · exact .inl ⟨hk, Lib.hid (by unfold bS; rw [if_neg (by omega), if_neg h1, if_pos hk])⟩
      · refine .inr ⟨by omega, decide (hd r = 1), ?_, Lib.hid (by unfold bS; rw [if_neg (by omega), if_neg h1, if_neg hk])⟩
        by_cases h2 : hd r = 1
        · rw [h2]; rfl
        · have : ((hd r : Int) == 1) = false := by simp; omega
          rw [this]; simp [h2]
  · exact refB_err r r e e w hr (Lib.hid (by unfold takeS; rw [if_pos he])) he (Lib.hid (by unfold bS; rw [if_pos he]))
end Go.Proofs.Ytegapeplbincnaa
