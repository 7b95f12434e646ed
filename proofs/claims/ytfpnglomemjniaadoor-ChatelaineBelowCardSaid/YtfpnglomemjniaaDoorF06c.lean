import Derived.Test.YtfpnglomemjniaaDoorF06b
import Derived.WalkKit
import Derived.ProofKit
import Derived.LoopTactic
import Derived.Outline
import Derived.WalkSpells
import Derived.WalkLawsBesides
import Derived.Lib.Hide
import Derived.Deep.LoopGhost
import Derived.Deep.QuietTactic
import Derived.BigQuiet
import Derived.ShutString
namespace Go.Proofs.YtfpnglomemjniaaDoor
open Go.ChangeShapes Go.WideShapes Go.ChangeAt Go.RowKit
set_option linter.unusedVariables false
set_option linter.unusedSimpArgs false
theorem info_path : (Tryd.prog.info? 24).map (fun i => (i.zero, i.size, i.bytes)) = some (some (.agg #[.string ⟨#[]⟩]), 1, 16) := by kernel_rfl
/-- The chain of New's errors. -/
def errL (n : Int) : List Lk := if n = 10 then .fault 10 routeW :: noL else [.fault n routeW, .fault n ⟨#[]⟩]
/-- What New returns. -/
def NewIs (o : Int × List (List ByteArray)) (w : World) (e : Ending) (w' : World) : Prop :=
  (o.1 = 0 ∧ ∃ b, e = .returned (.tuple #[.pointer (some ⟨b, 0, none⟩), .nilIface]) ∧ TabIs w' b o.2 ∧ Gr w w') ∨
  (o.1 ≠ 0 ∧ ∃ b, e = .returned (.tuple #[.pointer none, .iface 68 (.pointer (some ⟨b, 0, none⟩))]) ∧ Chain w' (.iface 68 (.pointer (some ⟨b, 0, none⟩))) (errL o.1) ∧ Gr w w')
theorem strs_of_row2 {w : World} {base : Nat} {e : TypeId} {v : Value} {l : List ByteArray} (h : w.ownsRow base e 1 v l.length (strCells l)) (hz : ∀ s ∈ l, s.size ≤ 9223372036854775807) (hl : l.length ≤ 9223372036854775807) :
    ∃ a cap, v = .slice a l.length cap ∧ Strs w a l ∧ l.length ≤ cap := by
  obtain ⟨a, cap, rfl, hs⟩ := strs_of_row h hz hl
  refine ⟨a, cap, rfl, hs, ?_⟩
  rcases h.2 with ⟨hv, h0⟩ | ⟨g, cap', cur, hv, _, _, hle, _⟩
  · omega
  · injection hv with h1 h2 h3; omega
theorem texts_short {L : List (List ByteArray)} (h : ∀ l ∈ L, okParts l = true) : ∀ s ∈ L.map ptext, s.size ≤ 9223372036854775807 := by
  intro s hs
  obtain ⟨l, hl, rfl⟩ := List.mem_map.1 hs
  have h2 := h l hl
  simp only [okParts, Bool.and_eq_true, decide_eq_true_eq] at h2
  have := ptext_size h2.2; omega
set_option maxRecDepth 100000 in
set_option maxHeartbeats 2000000 in
theorem new2_any (ss : List ByteArray) (a : Option Addr) (c : Nat) (w : World) (h : Strs w a ss) (hz : ∀ s ∈ ss, s.size ≤ 1000) (he : ET w) (hm : ML w) :
    Calls Tryd.prog 32 #[.slice a ss.length c] w (NewIs (newOf ss) w) := by
  have q1 := eqNN
  have q2 := eqIN
  obtain ⟨i0, hi, hz0, hz1, hz2⟩ := info_parts info_path
  have HE := Lib.hid he
  have HM := Lib.hid hm
  have HS := Lib.hid h
  have HZ := Lib.hid hz
  have hlen := h.2.1
  clear h hz he hm
  generalize hr : newOf ss = r
  have HR := Lib.hid hr; clear hr
  by_cases hcfg : ss.length = 0 ∨ 4 < ss.length
  · have hR := Lib.hid (show r = (12, []) by rw [← HR.out]; unfold newOf; rw [if_pos hcfg])
    have fin : ∀ (w9 : World) (bb : Nat), Chain w9 (.iface 68 (.pointer (some ⟨bb, 0, none⟩))) [.fault 12 routeW, .fault 12 ⟨#[]⟩] → Gr w w9 → NewIs r w (.returned (.tuple #[.pointer none, .iface 68 (.pointer (some ⟨bb, 0, none⟩))])) w9 := fun w9 bb h1 h2 => by
      rw [hR.out]; exact .inr ⟨by decide, bb, rfl, h1, h2⟩
    have FIN := Lib.hid fin
    clear fin
    obtain ⟨tz, htz, htz2⟩ : ∃ tz : Bool, ((ss.length : Int) == 0) = tz ∧ (tz = true ∨ tz = false ∧ (4 : Int) < ss.length) := by
      rcases hcfg with h0 | h0
      · exact ⟨true, by rw [h0]; rfl, .inl rfl⟩
      · exact ⟨false, by simp; intro hh; rw [hh] at h0; simp at h0, .inr ⟨rfl, by omega⟩⟩
    clear hcfg
    rcases htz2 with rfl | ⟨rfl, h0⟩
    all_goals
      go_enter Tryd.func32, Tryd.ntmps32
      go_wp2_with fail
      refine (of_any 12 _ (by decide)).mono ?_
      rintro e w3 ⟨u, rfl, hu, hg3⟩
      have HU := Lib.hid hu
      have HG3 := Lib.hid hg3
      clear hu hg3
      go_wp2_with fail
      refine (wrapped_any u _ _ (by decide) (by simp) HU.out (HE.out.gr HG3.out)).mono ?_
      rintro e w4 ⟨v, rfl, hv, hg4⟩
      have HV := Lib.hid hv
      have HG4 := Lib.hid (HG3.out.trans hg4)
      obtain ⟨bb, uu, rfl, -⟩ := hv
      clear hg4
      go_wp2
      go_ret2
      exact FIN.out _ _ HV.out HG4.out
  · have h1 : 1 ≤ ss.length := by omega
    have h4 : ss.length ≤ 4 := by omega
    have hR := Lib.hid (show r = match parseAll ss with
        | none => (10, [])
        | some L => if clash L = true then (11, []) else (0, L) by rw [← HR.out]; unfold newOf; rw [if_neg hcfg]; cases parseAll ss <;> rfl)
    have tz : ((ss.length : Int) == 0) = false := by simp; intro hh; rw [hh] at h1; simp at h1
    have HCFG := Lib.hid hcfg
    clear hcfg
    go_enter Tryd.func32, Tryd.ntmps32
    go_wp2
    go_loopw [4, 21] (fun v i wr => ∃ (L : List (List ByteArray)), L.length ≤ ss.length ∧ i = .int .i64 L.length ∧ Hid (parseAll (ss.take L.length) = some L) ∧ wr.ownsRow w.heap.size 24 1 v L.length (strCells (L.map ptext)) ∧ Hid (Gr w wr)) (fun _ i _ => ss.length - (intOf i).toNat)
    case atStart => exact ⟨[], by simp, rfl, Lib.hid rfl, World.ownsRow_nil _ _ _ _, Lib.hid (Gr.refl _)⟩
    case round =>
      obtain ⟨L, hk, rfl, hP, hown, hG⟩ := hrel
      have hLok := Lib.hid (parseAll_ok hP.out)
      by_cases hlt : L.length < ss.length
      · obtain ⟨b, off, rfl, hbw, hcell, hsz⟩ := HS.out.at L.length hlt
        replace hcell := hG.out.cell hcell
        have hs1 := HZ.out ss[L.length] (List.getElem_mem hlt)
        have hbl := hG.out.size
        have hsn : parseAll (ss.take (L.length + 1)) = (parseOf ss[L.length]).map fun l => L ++ [l] := by
          rw [List.take_succ_eq_append_getElem hlt]; exact parseAll_snoc _ _ _ hP.out
        have hno : parseOf ss[L.length] = none → parseAll ss = none := fun hh => by
          have h5 := parseAll_none (ss.take L.length) ss[L.length] (ss.drop (L.length + 1)) L hP.out hh
          rwa [← List.drop_eq_getElem_cons hlt, List.take_append_drop] at h5
        have PA := Lib.hid (fun h1 h2 => parse_any ss[L.length] wr (by omega) h1 h2)
        have HSN := Lib.hid hsn
        have HNO := Lib.hid hno
        clear hsn hno
        generalize ss[L.length] = s at *
        cases ho : parseOf s with
        | none =>
          rw [ho] at PA
          have hR2 := Lib.hid (show r = (10, []) by rw [hR.out, HNO.out ho])
          clear ho
          go_wp2_with fail
          refine (PA.out (HE.out.gr hG.out) (HM.out.gr hG.out)).mono ?_
          intro e w2 h2
          obtain ⟨b2, rfl, hch, hg2⟩ := none_is h2
          have HG2 := Lib.hid ((hG.out.trans hg2).alloc (.cells #[.string ⟨#[]⟩] 24))
          have HC := Lib.hid (hch.gr ((Gr.refl w2).alloc (.cells #[.string ⟨#[]⟩] 24)))
          clear h2 hch hg2 hown hcell
          go_wp2_with fail
          refine (wrapped_any _ noL _ (by decide) (by decide) HC.out (HE.out.gr HG2.out)).mono ?_
          rintro e w4 ⟨v, rfl, hv, hg4⟩
          have HV := Lib.hid hv
          have HG4 := Lib.hid (HG2.out.trans hg4)
          obtain ⟨bb, uu, rfl, -⟩ := hv
          clear hg4
          go_wp2
          go_ret2
          rw [hR2.out]
          exact .inr ⟨by decide, bb, rfl, HV.out, HG4.out⟩
        | some l =>
          rw [ho] at PA
          have HP2 := Lib.hid (show parseAll (ss.take (L.length + 1)) = some (L ++ [l]) by rw [HSN.out, ho]; rfl)
          clear ho
          obtain ⟨t, ht⟩ : ∃ t, ptext l = t := ⟨_, rfl⟩
          have HTx := Lib.hid ht
          clear ht
          go_wp2_with fail
          refine (PA.out (HE.out.gr hG.out) (HM.out.gr hG.out)).mono ?_
          intro e w2 h2
          obtain ⟨rfl, hg2⟩ := some_is h2
          rw [HTx.out]
          have HG2 := Lib.hid (hG.out.trans hg2)
          have hown2 := ownsRow_gr hg2 hown
          clear h2 hg2 hown hcell
          go_wp2_with (at_builtin; refine wpList_append_own _ rfl _ _ 77 rfl w.heap.size 24 i0 (.agg #[.string ⟨#[]⟩]) 1 16 Tryd.underlying77 hi hz0 hz1 hz2 rfl (by decide) _ _ _ rfl ((hown2.alloc _).alloc _) ⟨w2.heap.size + 1, 0, none⟩ 1 1 [.string t] rfl rfl ?c1 ?c2 ?c3 ?c4 ?c5 ?_)
          try case c1 => simpa using cellsOne (w2.alloc (.cells #[.string t] 24)) (.string t) 24
          try case c2 => first | rfl | (intro u hu; simp at hu; subst hu; rfl)
          case c3 => unfold maxLen; omega
          case c4 => omega
          case c5 => have := HG2.out.size; simp; omega
          · intro v' w3 hown3 hgrow _
            have HG3 := Lib.hid (((HG2.out.alloc (.cells #[.string t] 24)).alloc (.cells #[.string t] 24)).append ((hown2.alloc _).alloc _) hgrow)
            have hsn : (L ++ [l]).length = L.length + 1 := by simp
            have HO3 := Lib.hid (show w3.ownsRow w.heap.size 24 1 v' (L ++ [l]).length (strCells ((L ++ [l]).map ptext)) by rw [hsn]; simpa [strCells, HTx.out] using hown3)
            clear hgrow hown2 hown3
            go_wp2
            go_roundw
            case rel => exact ⟨L ++ [l], by rw [hsn]; omega, by rw [hsn]; go_num, by rw [hsn]; exact HP2, HO3.out, HG3⟩
            case measure => simp [intOf]; omega
      · have hP2 : parseAll ss = some L := by have := hP.out; rwa [List.take_of_length_le (by omega)] at this
        have hR3 := Lib.hid (show r = if clash L = true then (11, []) else (0, L) by rw [hR.out, hP2])
        obtain ⟨ao, cap, hv, hst, hcap⟩ := strs_of_row2 (l := L.map ptext) (by simpa using hown) (texts_short hLok.out.1) (by simp; omega)
        rw [List.length_map] at hv hcap
        subst hv
        have OV := Lib.hid (overlap_any L ao cap wr hst hcap hLok.out.1 (by omega))
        have HST := Lib.hid hst
        clear hown hst hP2
        cases hq : clash L with
        | true =>
          have hR4 := Lib.hid (show r = (11, []) by rw [hR3.out, if_pos hq])
          rw [hq] at OV
          clear hq
          go_wp2_with fail
          refine OV.out.mono ?_
          rintro e w2 ⟨rfl, hg2⟩
          have HG2 := Lib.hid (hG.out.trans hg2)
          clear hg2
          go_wp2_with fail
          refine (of_any 11 _ (by decide)).mono ?_
          rintro e w3 ⟨u, rfl, hu, hg3⟩
          have HU := Lib.hid hu
          have HG3 := Lib.hid (HG2.out.trans hg3)
          clear hu hg3
          go_wp2_with fail
          refine (wrapped_any u _ _ (by decide) (by simp) HU.out (HE.out.gr HG3.out)).mono ?_
          rintro e w4 ⟨v, rfl, hv, hg4⟩
          have HV := Lib.hid hv
          have HG4 := Lib.hid (HG3.out.trans hg4)
          obtain ⟨bb, uu, rfl, -⟩ := hv
          clear hg4
          go_wp2
          go_ret2
          rw [hR4.out]
          exact .inr ⟨by decide, bb, rfl, HV.out, HG4.out⟩
        | false =>
          have hR4 := Lib.hid (show r = (0, L) by rw [hR3.out, if_neg (by rw [hq]; simp)])
          rw [hq] at OV
          clear hq
          go_wp2_with fail
          refine OV.out.mono ?_
          rintro e w2 ⟨rfl, hg2⟩
          have HG2 := Lib.hid (hG.out.trans hg2)
          have HST2 := Lib.hid (HST.out.gr hg2)
          clear hg2
          go_wp2
          go_ret2
          rw [hR4.out]
          exact .inl ⟨rfl, w2.heap.size, rfl, ⟨ao, cap, new_cell rfl rfl, HST2.out.gr ((Gr.refl _).alloc _), hLok.out.1⟩, HG2.out.alloc _⟩
end Go.Proofs.YtfpnglomemjniaaDoor
