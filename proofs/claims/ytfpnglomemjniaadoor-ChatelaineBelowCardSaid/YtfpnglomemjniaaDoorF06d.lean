import Derived.Test.YtfpnglomemjniaaDoorF06c
import Derived.WalkKit
import Derived.ProofKit
import Derived.LoopTactic
import Derived.Outline
import Derived.WalkSpells
import Derived.WalkLawsBesides
import Derived.Lib.Hide
import Derived.Deep.LoopGhost
import Derived.Deep.QuietTactic
import Derived.BigQuiet
import Derived.ShutString
namespace Go.Proofs.YtfpnglomemjniaaDoor
open Go.ChangeShapes Go.WideShapes Go.ChangeAt Go.RowKit
set_option linter.unusedVariables false
set_option linter.unusedSimpArgs false
def cut100 (s : ByteArray) : ByteArray := if 100 < s.size then s.extract 0 100 else s
theorem cut100_le (s : ByteArray) : (cut100 s).size ≤ 100 := by
  unfold cut100; split
  · simp; omega
  · omega
/-- At most six texts, of at most 100 bytes. -/
def fewT (ss : List ByteArray) : List ByteArray := (ss.take 6).map cut100
theorem fewT_le (ss : List ByteArray) : (∀ s ∈ fewT ss, s.size ≤ 100) ∧ (fewT ss).length ≤ 6 := by
  refine ⟨fun s hs => ?_, by simp [fewT]; omega⟩
  obtain ⟨x, _, rfl⟩ := List.mem_map.1 hs
  exact cut100_le x
theorem fewT_snoc {ss : List ByteArray} {k : Nat} (h : k < ss.length) (h6 : k < 6) : fewT (ss.take (k + 1)) = fewT (ss.take k) ++ [cut100 ss[k]] := by
  unfold fewT
  rw [List.take_take, List.take_take, Nat.min_eq_right (by omega), Nat.min_eq_right (by omega), List.take_succ_eq_append_getElem h]; simp only [List.map_append, List.map_cons, List.map_nil]
def SliceIs (l : List ByteArray) (w : World) (e : Ending) (w' : World) : Prop := ∃ a c, e = .returned (.slice a l.length c) ∧ Strs w' a l ∧ Gr w w'
set_option maxRecDepth 100000 in
set_option maxHeartbeats 2000000 in
theorem few06_any (a : Option Addr) (ss : List ByteArray) (c : Nat) (w : World) (h : Strs w a ss) :
    Calls Tryd.prog 31 #[.slice a ss.length c] w (SliceIs (fewT ss) w) := by
  obtain ⟨i0, hi, hz0, hz1, hz2⟩ := info_parts info_str3
  have hl := h.2.1
  have HS := Lib.hid h
  clear h
  generalize hr : fewT ss = r
  have HR := Lib.hid hr; clear hr
  go_enter Tryd.func31, Tryd.ntmps31
  go_wp2
  go_loopw [3, 4] (fun o i wr => ∃ k : Nat, k ≤ ss.length ∧ k ≤ 6 ∧ i = .int .i64 k ∧ wr.ownsRow w.heap.size 9 1 o (fewT (ss.take k)).length (strCells (fewT (ss.take k))) ∧ Hid (Gr w wr)) (fun _ i _ => ss.length - (intOf i).toNat)
  case atStart => exact ⟨0, by omega, by omega, rfl, World.ownsRow_nil _ _ _ _, Lib.hid (Gr.refl _)⟩
  case round =>
    obtain ⟨k, hk, hk6, rfl, hown, hG⟩ := hrel
    have hO := fewT_le (ss.take k)
    by_cases hend : k < ss.length ∧ k < 6
    · obtain ⟨hlt, h6'⟩ := hend
      obtain ⟨b, off, rfl, hbw, hcell, hsz⟩ := HS.out.at k hlt
      replace hcell := hG.out.cell hcell
      have hF := Lib.hid (fewT_snoc hlt h6')
      obtain ⟨ao, cap, rfl, _⟩ := strs_of_row hown (fun s hs => by have := hO.1 s hs; omega) (by omega)
      have hbl := hG.out.size
      have hOl := hO.2
      obtain ⟨u, hu⟩ : ∃ u, cut100 ss[k] = u := ⟨_, rfl⟩
      have hcs : 100 < ss[k].size ∧ ss[k].extract 0 100 = u ∨ ss[k].size ≤ 100 ∧ u = ss[k] := by
        rw [← hu]; unfold cut100
        rcases Nat.lt_or_ge 100 ss[k].size with hh | hh
        · rw [if_pos hh]; exact .inl ⟨hh, rfl⟩
        · rw [if_neg (by omega)]; exact .inr ⟨hh, rfl⟩
      rw [hu] at hF
      clear hu hO
      generalize ss[k] = s at *
      generalize fewT (ss.take k) = O at *
      have HC := Lib.hid hcell
      rcases hcs with ⟨h100, hex⟩ | ⟨h100, rfl⟩
      all_goals
        go_wp2_with (at_builtin; refine wpList_append_own _ rfl _ _ 29 rfl w.heap.size 9 i0 (.string ⟨#[]⟩) 1 16 Tryd.underlying29 hi hz0 hz1 hz2 rfl (by decide) _ _ _ rfl (hown.alloc _) ⟨wr.heap.size, 0, none⟩ 1 1 [.string u] rfl rfl ?c1 ?c2 ?c3 ?c4 ?c5 ?_)
        try case c1 => exact cellsOne wr _ _
        try case c2 => first | rfl | (intro u' hu'; simp at hu'; subst hu'; rfl)
        case c3 => unfold maxLen; omega
        case c4 => omega
        case c5 => first | omega | (simp; omega)
        · intro v' w3 hown3 hgrow _
          have HG3 := Lib.hid ((hG.out.alloc (.cells #[.string u] 9)).append (hown.alloc _) hgrow)
          have hsn : (O ++ [u]).length = O.length + 1 := by simp
          have HO3 := Lib.hid (show w3.ownsRow w.heap.size 9 1 v' (O ++ [u]).length (strCells (O ++ [u])) by rw [hsn]; simpa [strCells] using hown3)
          clear hgrow hown hown3 hcell
          go_wp2
          go_roundw
          case rel => exact ⟨k + 1, by omega, by omega, by go_num, by rw [hF.out]; exact HO3.out, HG3⟩
          case measure => simp [intOf]; omega
    · have hO2 : r = fewT (ss.take k) := by
        rw [← HR.out]
        by_cases hlt : k < ss.length
        · obtain rfl : k = 6 := by omega
          unfold fewT; rw [List.take_take]; rfl
        · rw [List.take_of_length_le (by omega)]
      obtain ⟨ao, cap, rfl, hst⟩ := strs_of_row hown (fun s hs => by have := hO.1 s hs; omega) (by omega)
      have HO2 := Lib.hid hO2
      have HST := Lib.hid hst
      clear hown hst hO2 hO
      by_cases hlt : k < ss.length
      · have hk6' : 6 ≤ k := by omega
        go_wp2
        go_ret
        rw [HO2.out]
        exact ⟨ao, cap, rfl, HST.out, hG.out⟩
      · go_wp2
        go_ret
        rw [HO2.out]
        exact ⟨ao, cap, rfl, HST.out, hG.out⟩
theorem newIs_ok {L : List (List ByteArray)} {w w' : World} {e : Ending} (h : NewIs (0, L) w e w') : ∃ b, e = .returned (.tuple #[.pointer (some ⟨b, 0, none⟩), .nilIface]) ∧ TabIs w' b L ∧ Gr w w' := by
  rcases h with ⟨_, h⟩ | ⟨h, _⟩
  · exact h
  · exact absurd rfl h
theorem newIs_bad {n : Int} {L : List (List ByteArray)} {w w' : World} {e : Ending} (hn : n ≠ 0) (h : NewIs (n, L) w e w') : ∃ b, e = .returned (.tuple #[.pointer none, .iface 68 (.pointer (some ⟨b, 0, none⟩))]) ∧ Chain w' (.iface 68 (.pointer (some ⟨b, 0, none⟩))) (errL n) ∧ Gr w w' := by
  rcases h with ⟨h, _⟩ | ⟨_, h⟩
  · exact absurd h hn
  · exact h
set_option maxRecDepth 100000 in
set_option maxHeartbeats 2000000 in
theorem awake06_any (w : World) (he : ET w) (hm : ML w) :
    Calls Tryd.prog 30 #[] w fun e w' => e = .returned (.bool true) ∧ Gr w w' := by
  have q1 := eqNN
  have q2 := eqIN
  have HE := Lib.hid he
  have HM := Lib.hid hm
  have N := Lib.hid (show newOf [⟨#[47, 97]⟩, ⟨#[47, 98, 47, 99]⟩] = (0, [[⟨#[97]⟩], [⟨#[98]⟩, ⟨#[99]⟩]]) by decide +kernel)
  have P := Lib.hid (show parseOf ⟨#[47, 98, 47, 99, 47, 100]⟩ = some [⟨#[98]⟩, ⟨#[99]⟩, ⟨#[100]⟩] by decide +kernel)
  have F := Lib.hid (show findOf [[⟨#[97]⟩], [⟨#[98]⟩, ⟨#[99]⟩]] [⟨#[98]⟩, ⟨#[99]⟩, ⟨#[100]⟩] = 1 by decide +kernel)
  obtain ⟨t, ht⟩ : ∃ t, ptext [⟨#[98]⟩, ⟨#[99]⟩, ⟨#[100]⟩] = t := ⟨_, rfl⟩
  have HT := Lib.hid ht
  clear he hm ht
  go_enter Tryd.func30, Tryd.ntmps30
  go_wp2_with fail
  have HS : Strs (w.alloc (.cells #[.string ⟨#[47, 97]⟩, .string ⟨#[47, 98, 47, 99]⟩] 9)) (some ⟨w.heap.size, 0, none⟩) [⟨#[47, 97]⟩, ⟨#[47, 98, 47, 99]⟩] := ⟨by decide, by decide, .inr ⟨_, 0, rfl, fun i hi => by
    match i, hi with
    | 0, _ => exact new_cell rfl rfl
    | 1, _ => exact new_cell rfl rfl⟩⟩
  refine (new2_any [⟨#[47, 97]⟩, ⟨#[47, 98, 47, 99]⟩] _ 2 _ HS (by decide) (HE.out.gr ((Gr.refl _).alloc _)) (HM.out.gr ((Gr.refl _).alloc _))).mono ?_
  rw [N.out]
  intro e w1 h1
  obtain ⟨b, rfl, htab, hg1⟩ := newIs_ok h1
  have HG1 := Lib.hid (((Gr.refl w).alloc _).trans hg1)
  have HTb := Lib.hid htab
  clear h1 hg1 htab HS
  go_wp2_with fail
  refine (parse_any _ _ (by decide) (HE.out.gr HG1.out) (HM.out.gr HG1.out)).mono ?_
  rw [P.out]
  intro e w2 h2
  obtain ⟨rfl, hg2⟩ := some_is h2
  rw [HT.out]
  have HG2 := Lib.hid ((HG1.out.trans hg2).alloc (.cells #[.string t] 24))
  have c0 : (w2.alloc (.cells #[.string t] 24)).cell? ⟨w2.heap.size, 0, none⟩ = some (.string t) := new_cell rfl rfl
  have HT2 := Lib.hid ((HTb.out.gr hg2).gr ((Gr.refl w2).alloc (.cells #[.string t] 24)))
  clear h2 hg2
  go_wp2_with fail
  have FA := find_any b [[⟨#[97]⟩], [⟨#[98]⟩, ⟨#[99]⟩]] [⟨#[98]⟩, ⟨#[99]⟩, ⟨#[100]⟩] _ HT2.out (by decide +kernel) (HE.out.gr HG2.out) (by decide)
  rw [F.out, HT.out] at FA
  refine FA.mono ?_
  intro e w3 h3
  obtain ⟨rfl, hg3⟩ : e = .returned (.tuple #[.int .i64 1, .nilIface]) ∧ Gr _ w3 := by
    rcases h3 with ⟨hh, _⟩ | ⟨_, h⟩
    · cases hh
    · exact h
  have HG3 := Lib.hid (HG2.out.trans hg3)
  have LE := Lib.hid (len_any b _ w3 (HT2.out.gr hg3))
  clear h3 hg3 FA c0
  go_wp2_with fail
  refine LE.out.mono ?_
  rintro e w4 ⟨rfl, rfl⟩
  go_wp2
  go_ret
  exact ⟨by first | rfl | simp, HG3.out⟩
end Go.Proofs.YtfpnglomemjniaaDoor
