import Derived.Test.YtmgpnpmdmelnkaaGreatDoorF05b
import Derived.Test.YtmgpnpmdmelnkaaGreatDoorG03g
import Derived.WalkKit
import Derived.ProofKit
import Derived.LoopTactic
import Derived.Outline
import Derived.WalkSpells
import Derived.WalkLawsBesides
import Derived.Lib.Hide
import Derived.Deep.LoopGhost
import Derived.Deep.QuietTactic
import Derived.BigQuiet
import Derived.ShutString
namespace Go.Proofs.YtmgpnpmdmelnkaaGreatDoor
open Go.ChangeShapes Go.WideShapes Go.ChangeAt Go.RowKit
set_option linter.unusedVariables false
set_option linter.unusedSimpArgs false
/-- What Parse and Made return where there is no path. -/
def noL : List Lk := [.fault 10 ⟨#[112, 97, 116, 104]⟩, .fault 10 ⟨#[]⟩]
def NoneIs (w : World) (e : Ending) (w' : World) : Prop := ∃ u, e = .returned (.tuple #[.agg #[.string ⟨#[]⟩], u]) ∧ Chain w' u noL ∧ Gr w w'
/-- A chain stands where a string's cell is set. -/
theorem Chain.set {w : World} {p : Nat} {s : ByteArray} {x : Value} (hp : w.cell? ⟨p, 0, none⟩ = some (.string s)) : ∀ {L : List Lk} {v : Value}, Chain w v L → Chain (w.setCell ⟨p, 0, none⟩ x) v L
  | [], _, h => h
  | .fault c s :: L, v, ⟨b, u, h, c0, c1, c2, r⟩ => by
    have hb : p ≠ b := by rintro rfl; rw [hp] at c0; cases c0
    have o : ∀ j, (⟨p, 0, none⟩ : Addr) ≠ ⟨b, j, none⟩ := fun j e => hb (by injection e)
    exact ⟨b, u, h, (World.cell?_setCell_other _ _ _ _ (o 0)).trans c0, (World.cell?_setCell_other _ _ _ _ (o 1)).trans c1, (World.cell?_setCell_other _ _ _ _ (o 2)).trans c2, Chain.set hp r⟩
theorem none_any (w : World) (he : ET w) : Calls Tryz.prog 63 #[] w (NoneIs w) := by
  have HE := Lib.hid he
  clear he
  go_enter Tryz.func63, Tryz.ntmps63
  go_wp2_with fail
  refine (of_any 10 _ (by decide)).mono ?_
  rintro e w1 ⟨u, rfl, hu, hg⟩
  have HU := Lib.hid hu
  have HG := Lib.hid (((Gr.refl w).alloc _).trans hg)
  have HC := Lib.hid (hg.own.1 0 _ rfl)
  have HF := Lib.hid (hg.own.2.1 0)
  have hlt := hg.own.2.2
  have c0 := HC.out
  have f0 := HF.out
  clear hu hg
  go_wp2_with fail
  refine (wrap_any u _ _ _ (by decide) (by simp) HU.out (HE.out.gr HG.out)).mono ?_
  rintro e w2 ⟨v, rfl, hv, hg2⟩
  have HV := Lib.hid hv
  have HG2 := Lib.hid (HG.out.trans hg2)
  have c1 := hg2.cell HC.out
  have f1 := (hg2.frozen (o := 0) hlt).trans HF.out
  clear hv hg2 c0 f0
  go_wp2
  refine bodyPost_ret (by simp [results, Tryz.results63, go_sem, c1, f1]; try rfl) rfl ?_
  exact ⟨v, rfl, Chain.set c1 HV.out, HG2.out.setCell (by simp) _⟩
/-- What Made returns. -/
def MadeIs (o : Option (List ByteArray)) (w : World) (e : Ending) (w' : World) : Prop := match o with
  | some l => e = .returned (.tuple #[.agg #[.string (ptext l)], .nilIface]) ∧ Gr w w'
  | none => NoneIs w e w'
theorem ptext_size {l : List ByteArray} (h : l.all okPart = true) : (ptext l).size ≤ 17 * l.length := by
  rw [← bytes_size, ptext_bytes]
  induction l with
  | nil => simp [flat]
  | cons s l ih =>
    simp only [List.all_cons, Bool.and_eq_true] at h
    have h1 := (okPart_size h.1).2.1
    have h2 := ih h.2
    simp only [flat, List.length_cons, List.length_append, bytes_size]; omega
set_option maxRecDepth 100000 in
set_option maxHeartbeats 1000000 in
theorem made_any (a : Option Addr) (ss : List ByteArray) (c : Nat) (w : World) (h : Strs w a ss) (he : ET w) :
    Calls Tryz.prog 39 #[.slice a ss.length c] w (MadeIs (if okParts ss then some ss else none) w) := by
  have hl := h.2.1
  have HS := Lib.hid h
  have HE := Lib.hid he
  clear h he
  by_cases h6 : 6 < ss.length
  · rw [okParts_long h6, if_neg (by simp)]
    go_enter Tryz.func39, Tryz.ntmps39
    go_wp2_with fail
    refine (none_any _ (HE.out.gr ((Gr.refl w).alloc _))).mono ?_
    rintro e w1 ⟨u, rfl, hu, hg⟩
    have c0 : w1.cell? ⟨w.heap.size, 0, none⟩ = some (.string ⟨#[]⟩) := hg.own.1 0 _ rfl
    have f0 := hg.own.2.1 0
    have HU := Lib.hid hu
    have HG := Lib.hid (((Gr.refl w).alloc _).trans hg)
    clear hu hg
    go_wp2
    refine bodyPost_ret (by simp [results, Tryz.results39, go_sem, c0, f0]; try rfl) rfl ?_
    exact ⟨u, rfl, Chain.set c0 HU.out, HG.out.setCell (by simp) _⟩
  · have hle : ss.length ≤ 6 := by omega
    generalize hr : (if okParts ss = true then some ss else none) = r
    have HR := Lib.hid hr; clear hr
    go_enter Tryz.func39, Tryz.ntmps39
    go_wp2
    go_loopw [15] (fun i wr => ∃ (k : Nat) (t : ByteArray), k ≤ ss.length ∧ i = .int .i64 k ∧ Hid ((ss.take k).all okPart = true) ∧ t = ptext (ss.take k) ∧
      Hid (Gr w wr) ∧ wr.cell? ⟨w.heap.size, 0, none⟩ = some (.string ⟨#[]⟩) ∧ wr.frozen? ⟨w.heap.size, 0, none⟩ = false ∧
      wr.cell? ⟨w.heap.size + 1, 0, none⟩ = some (.string t) ∧ wr.frozen? ⟨w.heap.size + 1, 0, none⟩ = false) (fun i _ => ss.length - (intOf i).toNat)
    case atStart =>
      refine ⟨0, _, by omega, rfl, Lib.hid (by simp), rfl, Lib.hid (((Gr.refl w).alloc _).alloc _), ?_, ?_, ?_, ?_⟩
      · exact ((Gr.refl _).alloc _).cell (new_cell rfl rfl)
      · exact (((Gr.refl _).alloc _).frozen (by simp)).trans (new_free rfl)
      · exact new_cell (by simp) rfl
      · exact new_free (by simp)
    case round =>
      obtain ⟨k, t, hk, rfl, hA, rfl, hG, c0, f0, c1, f1⟩ := hrel
      by_cases hlt : k < ss.length
      · obtain ⟨b, off, rfl, hbw, hcell, hsz⟩ := HS.out.at k hlt
        replace hcell := hG.out.cell hcell
        have hS := Lib.hid (allTakeP ss k hlt)
        have hP := Lib.hid (show ptext (ss.take (k + 1)) = ptext (ss.take k) ++ (slash ++ ss[k]) by rw [List.take_succ_eq_append_getElem hlt, ptext_snoc])
        have hB := Lib.hid (fun h => okParts_bad (l := ss) (k := k) hlt h)
        have hbl := hG.out.size
        have l1 := cell_lt c1
        have hts : (ptext (ss.take k)).size ≤ 102 := by
          have := ptext_size hA.out
          rw [List.length_take] at this; omega
        have hps : okPart ss[k] = true → ss[k].size ≤ 16 := fun h => (okPart_size h).2.1
        generalize ss[k] = s at *
        generalize ptext (ss.take k) = t at *
        generalize hq : okPart s = q at *
        have HQ := Lib.hid hq; clear hq
        cases q
        · clear hps
          go_wp2_with (go_at_call 64; refine (isPart_any _ _ (by assumption)).mono ?_; rintro e w' ⟨rfl, rfl⟩; rw [HQ.out])
          refine (none_any _ (HE.out.gr hG.out)).mono ?_
          rintro e w2 ⟨u, rfl, hu, hg⟩
          have c2 := hg.cell c0
          have f2 := (hg.frozen (o := 0) (cell_lt c0)).trans f0
          have HU := Lib.hid hu
          have HG := Lib.hid (hG.out.trans hg)
          clear hu hg c0 f0 c1 f1 hcell
          go_wp2
          refine bodyPost_ret (by simp [results, Tryz.results39, go_sem, c2, f2]; try rfl) rfl ?_
          rw [← HR.out, hB.out (by simp), if_neg (by simp)]
          exact ⟨u, rfl, Chain.set c2 HU.out, HG.out.setCell (by simp) _⟩
        · have hps2 := hps rfl
          clear hps
          go_wp2_with (go_at_call 64; refine (isPart_any _ _ (by assumption)).mono ?_; rintro e w' ⟨rfl, rfl⟩; rw [HQ.out])
          go_roundw
          case rel =>
            have ne : (⟨w.heap.size + 1, 0, none⟩ : Addr) ≠ ⟨w.heap.size, 0, none⟩ := fun e => by injection e with e1; omega
            exact ⟨k + 1, _, by omega, by go_num, Lib.hid (by rw [hS.out, hA.out]; rfl), hP.out.symm, Lib.hid (hG.out.setCell (by simp) _),
              (World.cell?_setCell_other _ _ _ _ ne).trans c0, by rw [World.frozen?_setCell]; exact f0, World.cell?_setCell_same' _ _ _ (by rw [c1]; rfl), by rw [World.frozen?_setCell]; exact f1⟩
          case measure => simp [intOf]; omega
      · obtain rfl : k = ss.length := by omega
        have E := Lib.hid (okParts_of hle hA.out)
        have hP := Lib.hid (show ptext (ss.take ss.length) = ptext ss by rw [List.take_length])
        generalize ptext (ss.take ss.length) = t at *
        go_wp2
        refine bodyPost_ret (by simp [results, Tryz.results39, go_sem, c0, f0]; try rfl) rfl ?_
        rw [← HR.out, if_pos E.out]
        exact ⟨by rw [hP.out], hG.out.setCell (by simp) _⟩
end Go.Proofs.YtmgpnpmdmelnkaaGreatDoor
