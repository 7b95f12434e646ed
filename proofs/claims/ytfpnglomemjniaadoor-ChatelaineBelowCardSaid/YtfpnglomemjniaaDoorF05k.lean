import Derived.Test.YtfpnglomemjniaaDoorF05i
import Derived.WalkKit
import Derived.ProofKit
import Derived.LoopTactic
import Derived.Outline
import Derived.WalkSpells
import Derived.WalkLawsBesides
import Derived.Lib.Hide
import Derived.Deep.LoopGhost
import Derived.Deep.QuietTactic
import Derived.BigQuiet
import Derived.ShutString
namespace Go.Proofs.YtfpnglomemjniaaDoor
open Go.ChangeShapes Go.WideShapes Go.ChangeAt Go.RowKit
set_option linter.unusedVariables false
set_option linter.unusedSimpArgs false
/-- The pieces while the reference goes through a text: those that are done, and the one begun. -/
def Mid (s : ByteArray) (j : Nat) (O : List ByteArray) (o : ByteArray) : Prop :=
  (j ≤ s.size → O.map bytesOf ++ pcs (bytesOf o) ((bytesOf s).drop j) = pcs [] ((bytesOf s).drop 1)) ∧ (s.size < j → O.map bytesOf = pcs [] ((bytesOf s).drop 1))
theorem mid_end {s : ByteArray} {O : List ByteArray} {o : ByteArray} (h : Mid s s.size O o) : Mid s (s.size + 1) (O ++ [o]) ⟨#[]⟩ := by
  refine ⟨fun h => by omega, fun _ => ?_⟩
  rw [← h.1 (Nat.le_refl _), List.drop_of_length_le (by rw [bytes_size]; exact Nat.le_refl _)]
  simp [pcs]
theorem drop_byte (s : ByteArray) (j : Nat) (h : j < s.size) : (bytesOf s).drop j = s[j] :: (bytesOf s).drop (j + 1) := by
  unfold bytesOf
  rw [List.drop_eq_getElem_cons (by simpa using h)]; rfl
theorem mid_cut {s : ByteArray} {j : Nat} {O : List ByteArray} {o : ByteArray} (h : Mid s j O o) (hj : j < s.size) (hc : s[j] = 47) : Mid s (j + 1) (O ++ [o]) ⟨#[]⟩ := by
  refine ⟨fun _ => ?_, fun h => by omega⟩
  have := h.1 (by omega)
  rw [drop_byte s j hj, hc] at this
  rw [← this]
  simp [pcs, bytesOf]
theorem mid_go {s : ByteArray} {j : Nat} {O : List ByteArray} {o : ByteArray} (h : Mid s j O o) (hj : j < s.size) (hc : ¬ s[j] = 47) : Mid s (j + 1) O (o ++ s.extract j (j + 1)) := by
  refine ⟨fun _ => ?_, fun h => by omega⟩
  have := h.1 (by omega)
  rw [drop_byte s j hj] at this
  rw [← this]
  have e : bytesOf (s.extract j (j + 1)) = [s[j]] := by
    have e1 := Lib.extract_data s j (j + 1)
    show (s.extract j (j + 1)).data.toList = _
    rw [e1]
    show ((bytesOf s).drop j).take _ = _
    rw [drop_byte s j hj]
    simp
  simp [pcs, hc, bytes_append, e]
theorem mid_done {s : ByteArray} {O : List ByteArray} {o : ByteArray} (h : Mid s (s.size + 1) O o) : O = (pcs [] ((bytesOf s).drop 1)).map fun x => (⟨x.toArray⟩ : ByteArray) := by
  rw [← h.2 (by omega), List.map_map]
  rw [show ((fun x => (⟨x.toArray⟩ : ByteArray)) ∘ bytesOf) = id from funext of_bytes, List.map_id]
/-- What the reference's Parse returns. -/
def ParseIs (o : Option (List ByteArray)) (w : World) (e : Ending) (w' : World) : Prop := match o with
  | some l => ∃ a c, e = .returned (.tuple #[.slice a l.length c, .bool true]) ∧ Strs w' a l ∧ Tagged w' a ∧ Gr w w'
  | none => ∃ v, e = .returned (.tuple #[v, .bool false]) ∧ Gr w w'
set_option maxRecDepth 100000 in
set_option maxHeartbeats 2000000 in
theorem refParse_any (s : ByteArray) (w : World) (hs : s.size ≤ 1000) :
    Calls Tryd.prog 13 #[.string s] w (ParseIs (parseOf s) w) := by
  obtain ⟨i0, hi, hz0, hz1, hz2⟩ := info_parts info_str3
  by_cases h0 : s = slash
  · subst h0
    have E := Lib.hid (show parseOf slash = some [] from rfl)
    rw [E.out]
    have t0 : slash = ⟨#[47]⟩ := rfl
    rw [t0]
    go_enter Tryd.func13, Tryd.ntmps13
    go_wp2
    go_ret2
    exact ⟨_, _, rfl, ⟨by simp, by simp, .inl rfl⟩, tagged_of_row (World.ownsRow_lit (e := 9) (size := 1) (base := w.heap.size) w #[] 0 (Nat.le_refl _) (by decide) rfl), (Gr.refl _).alloc _⟩
  · generalize hr : parseOf s = r
    have HR := Lib.hid hr; clear hr
    have t2 : (s.toList == [47]) = false := by
      rw [ByteArray.toList_eq]
      cases h : (s.data.toList == [47]) with
      | false => rfl
      | true => exact absurd (bytes_inj (show bytesOf s = bytesOf slash from beq_iff_eq.1 h)) h0
    by_cases h1 : s.size = 0
    · have hz : s = ⟨#[]⟩ := ByteArray.ext (Array.eq_empty_of_size_eq_zero h1)
      subst hz
      have hR := Lib.hid (show r = none by rw [← HR.out]; rfl)
      clear h0 h1 hs
      go_enter Tryd.func13, Tryd.ntmps13
      go_wp2
      go_ret2
      rw [hR.out]
      exact ⟨_, rfl, (Gr.refl _).alloc _⟩
    · have t1 : s.toList.isEmpty = false := by
        cases h : s.toList with
        | nil =>
          exfalso; apply h1
          have h' : s.data.toList = [] := by simpa [ByteArray.toList_eq] using h
          simpa using congrArg List.length h'
        | cons _ _ => rfl
      have hpos : 0 < s.size := by omega
      have hd0 := drop_byte s 0 hpos
      rw [List.drop_zero] at hd0
      by_cases hc : s[0] = 47
      · have hR := Lib.hid (show r = (let m := (pcs [] ((bytesOf s).drop 1)).map fun x => (⟨x.toArray⟩ : ByteArray); if okParts m = true then some m else none) by
          rw [← HR.out]; unfold parseOf; rw [if_neg h0, hd0, hc]; rfl)
        have hci : (s[0].toNat : Int) = 47 := by rw [hc]; rfl
        clear h0 hd0
        go_enter Tryd.func13, Tryd.ntmps13
        go_wp2
        have hown0 := World.ownsRow_lit (e := 9) (size := 1) (base := w.heap.size) w #[] 0 (Nat.le_refl _) (by decide) rfl
        go_loopw [4, 5, 6] (fun v o i wr => ∃ (j : Nat) (O : List ByteArray) (u : ByteArray), 1 ≤ j ∧ j ≤ s.size + 1 ∧ i = .int .i64 j ∧ o = .string u ∧ u.size ≤ j ∧ O.length ≤ j ∧ Hid (∀ x ∈ O, x.size ≤ s.size) ∧ wr.ownsRow w.heap.size 9 1 v O.length (strCells O) ∧ Hid (Mid s j O u) ∧ Hid (Gr w wr)) (fun _ _ i _ => s.size + 1 - (intOf i).toNat)
        case atStart => exact ⟨1, [], ⟨#[]⟩, by omega, by omega, rfl, rfl, by decide, by decide, Lib.hid (fun x hx => by cases hx), hown0, Lib.hid ⟨fun _ => rfl, fun h => by omega⟩, Lib.hid ((Gr.refl _).alloc _)⟩
        case round =>
          obtain ⟨j, O, u, hj1, hj2, rfl, rfl, hu, hO, hOx, hown, hM, hG⟩ := hrel
          have hbl := hG.out.size
          by_cases hend : s.size < j
          · have hj : j = s.size + 1 := by omega
            have hfin := mid_done (hj ▸ hM.out)
            have hR2 := Lib.hid (show r = if okParts O = true then some O else none by rw [hR.out, ← hfin])
            obtain ⟨ao, cap, rfl, hst⟩ := strs_of_row hown (fun x hx => by have := hOx.out x hx; omega) (by omega)
            have HST := Lib.hid hst
            have HTG := Lib.hid (tagged_of_row hown)
            clear hst hown hfin
            cases hq : okParts O with
            | false =>
              have hR3 := Lib.hid (show r = none by rw [hR2.out, hq]; rfl)
              have HQ := Lib.hid hq; clear hq
              go_wp2_with fail
              refine (refMade_any ao O cap _ HST.out).mono ?_
              rintro e w2 ⟨rfl, rfl⟩
              rw [HQ.out]
              go_wp2
              go_ret2
              rw [hR3.out]
              exact ⟨_, rfl, hG.out.alloc _⟩
            | true =>
              have hR3 := Lib.hid (show r = some O by rw [hR2.out, hq]; rfl)
              have HQ := Lib.hid hq; clear hq
              go_wp2_with fail
              refine (refMade_any ao O cap _ HST.out).mono ?_
              rintro e w2 ⟨rfl, rfl⟩
              rw [HQ.out]
              go_wp2
              go_ret2
              rw [hR3.out]
              exact ⟨_, _, rfl, HST.out, HTG.out, hG.out⟩
          · have hw : (wr.alloc (.cells #[.string u] 9)).heap.size = wr.heap.size + 1 := by simp
            have Hw := Lib.hid hw; clear hw
            by_cases hlast : j = s.size
            · have hM2 : Hid (Mid s (j + 1) (O ++ [u]) ⟨#[]⟩) := Lib.hid (by rw [hlast]; exact mid_end (hlast ▸ hM.out))
              go_wp2_with (at_builtin; refine wpList_append_own _ rfl _ _ 29 rfl w.heap.size 9 i0 (.string ⟨#[]⟩) 1 16 Tryd.underlying29 hi hz0 hz1 hz2 rfl (by decide) _ _ _ rfl (hown.alloc _) ⟨wr.heap.size, 0, none⟩ 1 1 [.string u] rfl rfl ?c1 ?c2 ?c3 ?c4 ?c5 ?_)
              try case c1 => exact cellsOne wr _ _
              case c2 => first | rfl | (intro u' hu'; simp at hu'; subst hu'; rfl)
              case c3 => unfold maxLen; omega
              case c4 => omega
              case c5 => first | omega | (simp; omega) | (rw [Hw.out]; omega)
              · intro v' w3 hown3 hgrow _
                have HG3 := Lib.hid ((hG.out.alloc (.cells #[.string u] 9)).append (hown.alloc _) hgrow)
                have hsn : (O ++ [u]).length = O.length + 1 := by simp
                have HO3 := Lib.hid (show w3.ownsRow w.heap.size 9 1 v' (O ++ [u]).length (strCells (O ++ [u])) by rw [hsn]; simpa [strCells] using hown3)
                have HX3 := Lib.hid (show ∀ x ∈ O ++ [u], x.size ≤ s.size from fun x hx => by
                  rcases List.mem_append.1 hx with hx | hx
                  · exact hOx.out x hx
                  · simp at hx; rw [hx]; omega)
                clear hgrow hown hown3
                go_wp2
                go_roundw
                case rel => exact ⟨j + 1, O ++ [u], ⟨#[]⟩, by omega, by omega, by go_num, rfl, Nat.zero_le _, by simp; omega, HX3, HO3.out, hM2, HG3⟩
                case measure => simp [intOf]; omega
            · have hlt : j < s.size := by omega
              have hjs : ((j : Int) == (s.size : Int)) = false := by simp; omega
              by_cases hcj : s[j] = 47
              · have hcjI : ((s[j].toNat : Int) == 47) = true := by rw [hcj]; rfl
                have hM2 : Hid (Mid s (j + 1) (O ++ [u]) ⟨#[]⟩) := Lib.hid (mid_cut hM.out hlt hcj)
                go_wp2_with (at_builtin; refine wpList_append_own _ rfl _ _ 29 rfl w.heap.size 9 i0 (.string ⟨#[]⟩) 1 16 Tryd.underlying29 hi hz0 hz1 hz2 rfl (by decide) _ _ _ rfl (hown.alloc _) ⟨wr.heap.size, 0, none⟩ 1 1 [.string u] rfl rfl ?c1 ?c2 ?c3 ?c4 ?c5 ?_)
                try case c1 => exact cellsOne wr _ _
                case c2 => first | rfl | (intro u' hu'; simp at hu'; subst hu'; rfl)
                case c3 => unfold maxLen; omega
                case c4 => omega
                case c5 => first | omega | (simp; omega) | (rw [Hw.out]; omega)
                · intro v' w3 hown3 hgrow _
                  have HG3 := Lib.hid ((hG.out.alloc (.cells #[.string u] 9)).append (hown.alloc _) hgrow)
                  have hsn : (O ++ [u]).length = O.length + 1 := by simp
                  have HO3 := Lib.hid (show w3.ownsRow w.heap.size 9 1 v' (O ++ [u]).length (strCells (O ++ [u])) by rw [hsn]; simpa [strCells] using hown3)
                  have HX3 := Lib.hid (show ∀ x ∈ O ++ [u], x.size ≤ s.size from fun x hx => by
                    rcases List.mem_append.1 hx with hx | hx
                    · exact hOx.out x hx
                    · simp at hx; rw [hx]; omega)
                  clear hgrow hown hown3
                  go_wp2
                  go_roundw
                  case rel => exact ⟨j + 1, O ++ [u], ⟨#[]⟩, by omega, by omega, by go_num, rfl, Nat.zero_le _, by simp; omega, HX3, HO3.out, hM2, HG3⟩
                  case measure => simp [intOf]; omega
              · have hcjI : ((s[j].toNat : Int) == 47) = false := by
                  have h6 : ¬ (s[j].toNat : Int) = 47 := by
                    intro e; apply hcj; apply UInt8.toNat_inj.1
                    have h5 : (UInt8.toNat 47 : Nat) = 47 := rfl
                    omega
                  simpa using h6
                have hM2 := Lib.hid (mid_go hM.out hlt hcj)
                have hxs : (s.extract j (j + 1)).size = 1 := by simp; omega
                go_wp2
                trace_state
                go_roundw
                case rel => exact ⟨j + 1, O, _, by omega, by omega, by go_num, rfl, by simp; omega, by omega, hOx, hown, hM2, hG⟩
                case measure => simp [intOf]; omega
      · have hR := Lib.hid (show r = none by
          rw [← HR.out]; unfold parseOf; rw [if_neg h0, hd0]
          split
          · rename_i r' hr'; injection hr' with e; exact absurd e hc
          · rfl)
        have hci : ¬ (s[0].toNat : Int) = 47 := by
          intro e; apply hc; apply UInt8.toNat_inj.1
          have h5 : (UInt8.toNat 47 : Nat) = 47 := rfl
          omega
        clear h0 hd0
        go_enter Tryd.func13, Tryd.ntmps13
        go_wp2
        go_ret2
        rw [hR.out]
        exact ⟨_, rfl, (Gr.refl _).alloc _⟩
end Go.Proofs.YtfpnglomemjniaaDoor
