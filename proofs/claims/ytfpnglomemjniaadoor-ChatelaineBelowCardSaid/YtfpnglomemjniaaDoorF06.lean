import Derived.Test.YtfpnglomemjniaaDoorF05h
import Derived.Test.YtfpnglomemjniaaDoorF05l
import Derived.Test.YtfpnglomemjniaaDoorM06
import Derived.WalkKit
import Derived.ProofKit
import Derived.LoopTactic
import Derived.Outline
import Derived.WalkSpells
import Derived.WalkLawsBesides
import Derived.Lib.Hide
import Derived.Deep.LoopGhost
import Derived.Deep.QuietTactic
import Derived.BigQuiet
import Derived.ShutString
namespace Go.Proofs.YtfpnglomemjniaaDoor
open Go.ChangeShapes Go.WideShapes Go.ChangeAt Go.RowKit
set_option linter.unusedVariables false
set_option linter.unusedSimpArgs false
def routeW : ByteArray := ⟨#[114, 111, 117, 116, 101]⟩
theorem wrapped_any (v : Value) (L : List Lk) (w : World) (hL : L.length ≤ 1000) (hne : L ≠ []) (h : Chain w v L) (he : ET w) :
    Calls Tryd.prog 49 #[v] w (ChainIs (.fault (codeOf L) routeW :: L) w) := by
  have HV := Lib.hid h
  have HE := Lib.hid he
  clear h he
  go_enter Tryd.func49, Tryd.ntmps49
  go_wp2_with fail
  refine (wrap_any v L routeW _ hL hne HV.out HE.out).mono ?_
  rintro e w1 ⟨u, rfl, hu, hg⟩
  have HU := Lib.hid hu
  clear hu
  go_wp2
  go_ret
  exact ⟨u, rfl, HU.out, hg⟩
/-- A closure that asks whether a path is over the one that it holds. -/
theorem findClos_any (l p : List ByteArray) (b : Nat) (w : World) (hl : okParts l = true) (hp : okParts p = true) (hc : w.cell? ⟨b, 0, none⟩ = some (.string (ptext p))) :
    Calls Tryd.prog 54 #[.agg #[.string (ptext l)], .pointer (some ⟨b, 0, none⟩)] w fun e w' => e = .returned (.bool (overP l p)) ∧ Gr w w' := by
  have O := Lib.hid (fun w => over_any l p w hl hp)
  have hb := cell_lt hc
  have hc2 := ((Gr.refl w).alloc (.cells #[.string (ptext l)] 24)).cell hc
  generalize ptext l = t at *
  generalize ptext p = u at *
  clear hl hp
  go_enter Tryd.func54, Tryd.ntmps54
  go_wp2_with fail
  refine (O.out _).mono ?_
  rintro e w1 ⟨rfl, hg⟩
  have HG := Lib.hid (((Gr.refl w).alloc _).trans hg)
  clear hg
  go_wp2
  go_ret
  exact ⟨rfl, HG.out⟩
theorem lineClos_any (l p : List ByteArray) (b : Nat) (w : World) (hl : okParts l = true) (hp : okParts p = true) (hc : w.cell? ⟨b, 0, none⟩ = some (.string (ptext p))) :
    Calls Tryd.prog 69 #[.agg #[.string (ptext l)], .pointer (some ⟨b, 0, none⟩)] w fun e w' => e = .returned (.bool (lineP l p)) ∧ Gr w w' := by
  have O := Lib.hid (fun w => inLine_any l p w hl hp)
  have hb := cell_lt hc
  have hc2 := ((Gr.refl w).alloc (.cells #[.string (ptext l)] 24)).cell hc
  unfold lineP
  generalize ptext l = t at *
  generalize ptext p = u at *
  generalize (overP l p || overP p l) = z at *
  clear hl hp
  go_enter Tryd.func69, Tryd.ntmps69
  go_wp2_with fail
  refine (O.out _).mono ?_
  rintro e w1 ⟨rfl, hg⟩
  have HG := Lib.hid (((Gr.refl w).alloc _).trans hg)
  clear hg
  go_wp2
  go_ret
  exact ⟨rfl, HG.out⟩
set_option maxRecDepth 100000 in
set_option maxHeartbeats 1000000 in
theorem indexFunc_find (q : List ByteArray → Bool) (L : List (List ByteArray)) (a : Option Addr) (c : Nat) (pt : Nat) (W w : World) (h : Strs W a (L.map ptext)) (hw : Gr W w) (hok : ∀ l ∈ L, okParts l = true)
    (hf : ∀ (l : List ByteArray) (w0 : World), okParts l = true → Gr W w0 → Calls Tryd.prog 54 #[.agg #[.string (ptext l)], .pointer (some ⟨pt, 0, none⟩)] w0 fun e w' => e = .returned (.bool (q l)) ∧ Gr w0 w') :
    Calls Tryd.prog 53 #[.slice a L.length c, .func (.func 54) #[] #[.pointer (some ⟨pt, 0, none⟩)]] w fun e w' => e = .returned (.int .i64 (findFrom q L 0)) ∧ Gr w w' := by
  have HS := Lib.hid h
  have hlen : L.length ≤ 9223372036854775807 := by have := h.2.1; simpa using this
  have HW := Lib.hid hw
  have HOK := Lib.hid hok
  have HF := Lib.hid hf
  clear h hok hf hw
  generalize hr : findFrom q L 0 = r
  have HR := Lib.hid hr; clear hr
  go_enter Tryd.func53, Tryd.ntmps53
  go_wp2
  go_loopw [8] (fun i wr => ∃ k : Nat, k ≤ L.length ∧ i = .int .i64 k ∧ Hid (findFrom q L k = r) ∧ Hid (Gr w wr)) (fun i _ => L.length - (intOf i).toNat)
  case atStart => exact ⟨0, by omega, rfl, HR, Lib.hid (Gr.refl _)⟩
  case round =>
    obtain ⟨k, hk, rfl, hA, hG⟩ := hrel
    by_cases hlt : k < L.length
    · obtain ⟨b1, o1, rfl, _, hc1, _⟩ := HS.out.at k (by simpa using hlt)
      have hc2 := (HW.out.trans hG.out).cell hc1
      simp only [List.getElem_map] at hc2
      clear hc1
      have FC := Lib.hid (HF.out L[k] wr (HOK.out _ (List.getElem_mem hlt)) (HW.out.trans hG.out))
      cases hq : q L[k] with
      | true =>
        have e := Lib.hid (hA.out.symm.trans (findFrom_hit q L hlt hq))
        rw [hq] at FC
        generalize L[k] = l at *
        generalize ptext l = t at *
        clear hq hA
        go_wp2_with fail
        refine FC.out.mono ?_
        rintro e w9 ⟨rfl, hg⟩
        have HG := Lib.hid (hG.out.trans hg)
        clear hg hc2
        go_wp2
        go_ret
        exact ⟨by rw [e.out]; rfl, HG.out⟩
      | false =>
        have e := Lib.hid ((findFrom_miss q L hlt hq).symm.trans hA.out)
        rw [hq] at FC
        generalize L[k] = l at *
        generalize ptext l = t at *
        clear hq hA
        go_wp2_with fail
        refine FC.out.mono ?_
        rintro e w9 ⟨rfl, hg⟩
        have HG := Lib.hid (hG.out.trans hg)
        clear hg hc2
        go_wp2
        go_roundw
        case rel => exact ⟨k + 1, by omega, by go_num, e, HG⟩
        case measure => simp [intOf]; omega
    · have e := Lib.hid (hA.out.symm.trans (findFrom_end q L (by omega)))
      clear hA
      go_wp2
      go_ret
      exact ⟨by rw [e.out]; rfl, hG.out⟩
set_option maxRecDepth 100000 in
set_option maxHeartbeats 1000000 in
theorem indexFunc_line (q : List ByteArray → Bool) (L : List (List ByteArray)) (a : Option Addr) (c : Nat) (pt : Nat) (W w : World) (h : Strs W a (L.map ptext)) (hw : Gr W w) (hok : ∀ l ∈ L, okParts l = true)
    (hf : ∀ (l : List ByteArray) (w0 : World), okParts l = true → Gr W w0 → Calls Tryd.prog 69 #[.agg #[.string (ptext l)], .pointer (some ⟨pt, 0, none⟩)] w0 fun e w' => e = .returned (.bool (q l)) ∧ Gr w0 w') :
    Calls Tryd.prog 53 #[.slice a L.length c, .func (.func 69) #[] #[.pointer (some ⟨pt, 0, none⟩)]] w fun e w' => e = .returned (.int .i64 (findFrom q L 0)) ∧ Gr w w' := by
  have HS := Lib.hid h
  have hlen : L.length ≤ 9223372036854775807 := by have := h.2.1; simpa using this
  have HW := Lib.hid hw
  have HOK := Lib.hid hok
  have HF := Lib.hid hf
  clear h hok hf hw
  generalize hr : findFrom q L 0 = r
  have HR := Lib.hid hr; clear hr
  go_enter Tryd.func53, Tryd.ntmps53
  go_wp2
  go_loopw [8] (fun i wr => ∃ k : Nat, k ≤ L.length ∧ i = .int .i64 k ∧ Hid (findFrom q L k = r) ∧ Hid (Gr w wr)) (fun i _ => L.length - (intOf i).toNat)
  case atStart => exact ⟨0, by omega, rfl, HR, Lib.hid (Gr.refl _)⟩
  case round =>
    obtain ⟨k, hk, rfl, hA, hG⟩ := hrel
    by_cases hlt : k < L.length
    · obtain ⟨b1, o1, rfl, _, hc1, _⟩ := HS.out.at k (by simpa using hlt)
      have hc2 := (HW.out.trans hG.out).cell hc1
      simp only [List.getElem_map] at hc2
      clear hc1
      have FC := Lib.hid (HF.out L[k] wr (HOK.out _ (List.getElem_mem hlt)) (HW.out.trans hG.out))
      cases hq : q L[k] with
      | true =>
        have e := Lib.hid (hA.out.symm.trans (findFrom_hit q L hlt hq))
        rw [hq] at FC
        generalize L[k] = l at *
        generalize ptext l = t at *
        clear hq hA
        go_wp2_with fail
        refine FC.out.mono ?_
        rintro e w9 ⟨rfl, hg⟩
        have HG := Lib.hid (hG.out.trans hg)
        clear hg hc2
        go_wp2
        go_ret
        exact ⟨by rw [e.out]; rfl, HG.out⟩
      | false =>
        have e := Lib.hid ((findFrom_miss q L hlt hq).symm.trans hA.out)
        rw [hq] at FC
        generalize L[k] = l at *
        generalize ptext l = t at *
        clear hq hA
        go_wp2_with fail
        refine FC.out.mono ?_
        rintro e w9 ⟨rfl, hg⟩
        have HG := Lib.hid (hG.out.trans hg)
        clear hg hc2
        go_wp2
        go_roundw
        case rel => exact ⟨k + 1, by omega, by go_num, e, HG⟩
        case measure => simp [intOf]; omega
    · have e := Lib.hid (hA.out.symm.trans (findFrom_end q L (by omega)))
      clear hA
      go_wp2
      go_ret
      exact ⟨by rw [e.out]; rfl, hG.out⟩
end Go.Proofs.YtfpnglomemjniaaDoor
