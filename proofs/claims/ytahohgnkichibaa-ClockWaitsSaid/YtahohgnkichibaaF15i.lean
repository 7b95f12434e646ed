import Derived.Test.YtahohgnkichibaaF15g
import Derived.Test.YtahohgnkichibaaF15h
import Derived.WalkKit
import Derived.ProofKit
import Derived.LoopTactic
import Derived.Outline
import Derived.WalkSpells
import Derived.WalkLawsBesides
import Derived.Lib.Hide
import Derived.Deep.LoopGhost
import Derived.Deep.QuietTactic
import Derived.BigQuiet
import Derived.ShutString
import Derived.BigQuiet
import Derived.Deep.Onto
import Derived.Deep.RegionWith
import Derived.Deep.RegionHeld3
namespace Go.Proofs.Ytahohgnkichibaa
open Go.ChangeShapes Go.WideShapes Go.ChangeAt Go.RowKit
set_option linter.unusedVariables false
set_option linter.unusedSimpArgs false
/-- How many alarms are due. -/
def dueN (L : List A) (t : Int) : Nat := L.findIdx fun x => decide (t < x.due)
theorem dueN_le (L : List A) (t : Int) : dueN L t ≤ L.length := List.findIdx_le_length
/-- What Due leaves, and its answer. -/
def DueIs (b : Nat) (v : Value) (w : World) (L : List A) (n : Nat) (rv : Value) (w' : World) : Prop :=
  ∃ v', AlIs w' b v' (L.drop n) ∧ Far b v w w' ∧ From v w v' ∧ w'.ownsRow w.heap.size 39 2 rv n (rcells encA (L.take n)) ∧ ∀ k, rv.ownBlock = some k → k ≠ b ∧ v'.ownBlock ≠ some k
set_option maxRecDepth 100000 in
set_option maxHeartbeats 2000000 in
theorem alDue_any {b : Nat} {v : Value} {L : List A} (t : Int) (w : World) (h : AlIs w b v L) : Calls Try.prog 17 #[.pointer (some ⟨b, 0, none⟩), .int .i64 t] w fun e w' => ∃ rv, e = .returned rv ∧ DueIs b v w L (dueN L t) rv w' := by
  have HG := Lib.hid ((Gr.refl w).alloc (.cells #[.int .i64 t] 3))
  have HB := Lib.hid (Blk.new w #[.int .i64 t] 3)
  have H := Lib.hid (h.gr HG.out)
  have c0 := H.out.rowv
  have hl := h.len
  have hform : (v = .slice none 0 0 ∧ L.length = 0) ∨ ∃ g cap, v = .slice (some ⟨g, 0, none⟩) L.length cap ∧ L.length ≤ cap ∧ cap ≤ 9223372036854775807 := by
    rcases h.row.2 with ⟨h1, h2⟩ | ⟨g, cap, cur, h1, _, _, h2, h3, _⟩
    · exact .inl ⟨h1, h2⟩
    · exact .inr ⟨g, cap, h1, h2, by unfold maxLen at h3; omega⟩
  have HF := Lib.hid fun (x : A) (w0 : World) (hg : Gr (w.alloc (.cells #[.int .i64 t] 3)) w0) => dueOne_any x t w.heap.size w0 ((HB.out.gr hg).cell (i := 0) rfl)
  have HI := Lib.hid (idxA_any (p := w.heap.size) (f := 65) (fun x => decide (t < x.due)) L (w.alloc (.cells #[.int .i64 t] 3)) H.out.row h.len (fun _ _ => by kernel_rfl) HF.out)
  have hfst := fstF_first (fun x : A => decide (t < x.due)) L
  have hnl := dueN_le L t
  change (_ ∧ dueN L t = L.length) ∨ (_ = (dueN L t : Int) ∧ dueN L t < L.length) at hfst
  clear h
  generalize fstF (fun x : A => decide (t < x.due)) L 0 = r at *
  generalize dueN L t = n at *
  clear HB HF
  rcases hform with ⟨rfl, h0⟩ | ⟨g, cap, rfl, hcl, hc63⟩
  · have hL := List.length_eq_zero_iff.1 h0
    subst hL
    have hn0 : n = 0 := by simp at hnl; omega
    subst hn0
    rcases hfst with ⟨hr1, hz9⟩ | ⟨_, h2⟩
    · subst hr1
      clear h0 hnl hl hz9
      go_enter Try.func17, Try.ntmps17
      go_wp2_with fail
      refine HI.out.mono ?_
      rintro e w2 ⟨rfl, hg2⟩
      have H2 := Lib.hid (H.out.gr hg2)
      have HG2 := Lib.hid (HG.out.trans hg2)
      have d0 := H2.out.rowv
      clear hg2 c0
      go_wp2_with fail
      refine (cloneA_any (base := b + 1) (([] : List A).take 0) _ (World.ownsRow_nil _ _ _ _) (by rw [List.length_take]; omega)).mono ?_
      rintro e w3 ⟨rv, rfl, hr, hg3⟩
      have H3 := Lib.hid (H2.out.gr hg3)
      have HG3 := Lib.hid (HG2.out.trans hg3)
      have HR := Lib.hid hr
      have HR0 := Lib.hid (World.ownsRow.mono hr (base' := w.heap.size) HG2.out.size)
      have d1 := H3.out.rowv
      clear hr hg3 d0
      go_wp2_with fail
      refine (delA_any (base := b + 1) (i := 0) (j := 0) [] _ H3.out.row (by omega) (by first | omega | simp) (by first | omega | simp)).mono ?_
      rintro e w4 ⟨v4, rfl, hr, hgr, hfr⟩
      have hd : ([] : List A).take 0 ++ ([] : List A).drop 0 = ([] : List A).drop 0 := by simp
      rw [hd] at hr
      have hlen : (([] : List A).drop 0).length ≤ 1000 := by first | (rw [List.length_drop]; omega) | simp
      have HT := Lib.hid (H3.out.reset hr hgr hfr hlen)
      have hbl := cell_lt H3.out.rowv
      have hblk := hgr.block b hbl (fun e => H3.out.off e.symm)
      have e0 : w4.cell? ⟨b, 0, none⟩ = some (.slice none 0 0) := (World.cell?_of_block (w := w3) (a := ⟨b, 0, none⟩) hblk).trans H3.out.rowv
      have e1 : w4.frozen? ⟨b, 0, none⟩ = false := (World.frozen?_of_block (w := w3) (a := ⟨b, 0, none⟩) hblk).trans H3.out.free
      have HRK := Lib.hid (HR0.out.kept hgr (by
        rcases hq : rv.ownBlock with _ | k
        · exact .inl rfl
        · refine .inr (fun e => ?_)
          have h1 := HR.out.lt k hq
          have h2 := H2.out.away k e.symm
          omega))
      have HRO := Lib.hid (fun k (e : rv.ownBlock = some k) => (HR.out.lt k e))
      have HGR := Lib.hid hgr
      have HB2 := Lib.hid (cell_lt H2.out.rowv)
      have HV2 := Lib.hid H2.out.away
      have HV4 := Lib.hid hfr
      clear hgr hfr hblk hbl d1 hd
      generalize hm : (([] : List A).drop 0).length = m at *
      clear hm
      obtain ⟨a4, c4, rfl, hz⟩ := ownsRow_slice hr
      clear hr hz
      go_wp2
      go_ret
      obtain ⟨v6, h6, h7, h8⟩ := HT.out
      have e6 : v6 = .slice a4 m c4 := by
        have h9 := h6.rowv
        rw [World.cell?_setCell_same _ _ _ (by rw [e0])] at h9
        exact (Option.some.inj h9).symm
      subst e6
      refine ⟨rv, rfl, _, h6, (Far.of_gr HG3.out).trans (From.refl _ _) h7, (From.refl _ _).trans HG3.out.size h8, ownsRow_setCell_other (by have := HRK.out; rwa [List.length_take, Nat.min_eq_left (by omega)] at this) (fun e => by have h1 : w2.heap.size ≤ b := (HRO.out b e).1; have := HB2.out; omega) _, fun k e => ⟨?_, fun e2 => ?_⟩⟩
      · have := HRO.out k e; have := HB2.out; omega
      · have h10 := HRO.out k e
        rcases HV4.out k e2 with h11 | h11
        · have := HV2.out k h11; omega
        · omega
    · simp at h2
  · rcases hfst with ⟨hr1, hn1⟩ | ⟨hr1, h2⟩
    · subst hr1 hn1
      go_enter Try.func17, Try.ntmps17
      go_wp2_with fail
      refine HI.out.mono ?_
      rintro e w2 ⟨rfl, hg2⟩
      have H2 := Lib.hid (H.out.gr hg2)
      have HG2 := Lib.hid (HG.out.trans hg2)
      have d0 := H2.out.rowv
      clear hg2 c0
      go_wp2_with fail
      refine (cloneA_any (base := b + 1) (L.take L.length) _ (by rw [List.length_take, Nat.min_eq_left (by omega)]; exact owns_take encA_len L H2.out.row (by omega)) (by rw [List.length_take]; omega)).mono ?_
      rintro e w3 ⟨rv, rfl, hr, hg3⟩
      have H3 := Lib.hid (H2.out.gr hg3)
      have HG3 := Lib.hid (HG2.out.trans hg3)
      have HR := Lib.hid hr
      have HR0 := Lib.hid (World.ownsRow.mono hr (base' := w.heap.size) HG2.out.size)
      have d1 := H3.out.rowv
      clear hr hg3 d0
      go_wp2_with fail
      refine (delA_any (base := b + 1) (i := 0) (j := L.length) L _ H3.out.row (by omega) (by first | omega | simp) (by first | omega | simp)).mono ?_
      rintro e w4 ⟨v4, rfl, hr, hgr, hfr⟩
      have hd : L.take 0 ++ L.drop L.length = L.drop L.length := by simp
      rw [hd] at hr
      have hlen : (L.drop L.length).length ≤ 1000 := by first | (rw [List.length_drop]; omega) | simp
      have HT := Lib.hid (H3.out.reset hr hgr hfr hlen)
      have hbl := cell_lt H3.out.rowv
      have hblk := hgr.block b hbl (fun e => H3.out.off e.symm)
      have e0 : w4.cell? ⟨b, 0, none⟩ = some (.slice (some ⟨g, 0, none⟩) L.length cap) := (World.cell?_of_block (w := w3) (a := ⟨b, 0, none⟩) hblk).trans H3.out.rowv
      have e1 : w4.frozen? ⟨b, 0, none⟩ = false := (World.frozen?_of_block (w := w3) (a := ⟨b, 0, none⟩) hblk).trans H3.out.free
      have HRK := Lib.hid (HR0.out.kept hgr (by
        rcases hq : rv.ownBlock with _ | k
        · exact .inl rfl
        · refine .inr (fun e => ?_)
          have h1 := HR.out.lt k hq
          have h2 := H2.out.away k e.symm
          omega))
      have HRO := Lib.hid (fun k (e : rv.ownBlock = some k) => (HR.out.lt k e))
      have HGR := Lib.hid hgr
      have HB2 := Lib.hid (cell_lt H2.out.rowv)
      have HV2 := Lib.hid H2.out.away
      have HV4 := Lib.hid hfr
      clear hgr hfr hblk hbl d1 hd
      generalize hm : (L.drop L.length).length = m at *
      clear hm
      obtain ⟨a4, c4, rfl, hz⟩ := ownsRow_slice hr
      clear hr hz
      go_wp2
      go_ret
      obtain ⟨v6, h6, h7, h8⟩ := HT.out
      have e6 : v6 = .slice a4 m c4 := by
        have h9 := h6.rowv
        rw [World.cell?_setCell_same _ _ _ (by rw [e0])] at h9
        exact (Option.some.inj h9).symm
      subst e6
      refine ⟨rv, rfl, _, h6, (Far.of_gr HG3.out).trans (From.refl _ _) h7, (From.refl _ _).trans HG3.out.size h8, ownsRow_setCell_other (by have := HRK.out; rwa [List.length_take, Nat.min_eq_left (by omega)] at this) (fun e => by have h1 : w2.heap.size ≤ b := (HRO.out b e).1; have := HB2.out; omega) _, fun k e => ⟨?_, fun e2 => ?_⟩⟩
      · have := HRO.out k e; have := HB2.out; omega
      · have h10 := HRO.out k e
        rcases HV4.out k e2 with h11 | h11
        · have := HV2.out k h11; omega
        · omega
    · subst hr1
      have hnn : ¬ (n : Int) < 0 := by omega
      have hn4 : n ≤ cap := by omega
      go_enter Try.func17, Try.ntmps17
      go_wp2_with fail
      refine HI.out.mono ?_
      rintro e w2 ⟨rfl, hg2⟩
      have H2 := Lib.hid (H.out.gr hg2)
      have HG2 := Lib.hid (HG.out.trans hg2)
      have d0 := H2.out.rowv
      clear hg2 c0
      go_wp2_with fail
      refine (cloneA_any (base := b + 1) (L.take n) _ (by rw [List.length_take, Nat.min_eq_left (by omega)]; exact owns_take encA_len L H2.out.row (by omega)) (by rw [List.length_take]; omega)).mono ?_
      rintro e w3 ⟨rv, rfl, hr, hg3⟩
      have H3 := Lib.hid (H2.out.gr hg3)
      have HG3 := Lib.hid (HG2.out.trans hg3)
      have HR := Lib.hid hr
      have HR0 := Lib.hid (World.ownsRow.mono hr (base' := w.heap.size) HG2.out.size)
      have d1 := H3.out.rowv
      clear hr hg3 d0
      go_wp2_with fail
      refine (delA_any (base := b + 1) (i := 0) (j := n) L _ H3.out.row (by omega) (by first | omega | simp) (by first | omega | simp)).mono ?_
      rintro e w4 ⟨v4, rfl, hr, hgr, hfr⟩
      have hd : L.take 0 ++ L.drop n = L.drop n := by simp
      rw [hd] at hr
      have hlen : (L.drop n).length ≤ 1000 := by first | (rw [List.length_drop]; omega) | simp
      have HT := Lib.hid (H3.out.reset hr hgr hfr hlen)
      have hbl := cell_lt H3.out.rowv
      have hblk := hgr.block b hbl (fun e => H3.out.off e.symm)
      have e0 : w4.cell? ⟨b, 0, none⟩ = some (.slice (some ⟨g, 0, none⟩) L.length cap) := (World.cell?_of_block (w := w3) (a := ⟨b, 0, none⟩) hblk).trans H3.out.rowv
      have e1 : w4.frozen? ⟨b, 0, none⟩ = false := (World.frozen?_of_block (w := w3) (a := ⟨b, 0, none⟩) hblk).trans H3.out.free
      have HRK := Lib.hid (HR0.out.kept hgr (by
        rcases hq : rv.ownBlock with _ | k
        · exact .inl rfl
        · refine .inr (fun e => ?_)
          have h1 := HR.out.lt k hq
          have h2 := H2.out.away k e.symm
          omega))
      have HRO := Lib.hid (fun k (e : rv.ownBlock = some k) => (HR.out.lt k e))
      have HGR := Lib.hid hgr
      have HB2 := Lib.hid (cell_lt H2.out.rowv)
      have HV2 := Lib.hid H2.out.away
      have HV4 := Lib.hid hfr
      clear hgr hfr hblk hbl d1 hd
      generalize hm : (L.drop n).length = m at *
      clear hm
      obtain ⟨a4, c4, rfl, hz⟩ := ownsRow_slice hr
      clear hr hz
      go_wp2
      go_ret
      obtain ⟨v6, h6, h7, h8⟩ := HT.out
      have e6 : v6 = .slice a4 m c4 := by
        have h9 := h6.rowv
        rw [World.cell?_setCell_same _ _ _ (by rw [e0])] at h9
        exact (Option.some.inj h9).symm
      subst e6
      refine ⟨rv, rfl, _, h6, (Far.of_gr HG3.out).trans (From.refl _ _) h7, (From.refl _ _).trans HG3.out.size h8, ownsRow_setCell_other (by have := HRK.out; rwa [List.length_take, Nat.min_eq_left (by omega)] at this) (fun e => by have h1 : w2.heap.size ≤ b := (HRO.out b e).1; have := HB2.out; omega) _, fun k e => ⟨?_, fun e2 => ?_⟩⟩
      · have := HRO.out k e; have := HB2.out; omega
      · have h10 := HRO.out k e
        rcases HV4.out k e2 with h11 | h11
        · have := HV2.out k h11; omega
        · omega
end Go.Proofs.Ytahohgnkichibaa
