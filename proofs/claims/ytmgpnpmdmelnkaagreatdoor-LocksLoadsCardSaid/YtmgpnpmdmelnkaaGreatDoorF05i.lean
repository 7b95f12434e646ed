import Derived.Test.YtmgpnpmdmelnkaaGreatDoorF05b
import Derived.Test.YtmgpnpmdmelnkaaGreatDoorG03g
import Derived.Test.YtmgpnpmdmelnkaaGreatDoorM05b
import Derived.Test.YtmgpnpmdmelnkaaGreatDoorM05c
import Derived.WalkKit
import Derived.ProofKit
import Derived.LoopTactic
import Derived.Outline
import Derived.WalkSpells
import Derived.WalkLawsBesides
import Derived.Lib.Hide
import Derived.Deep.LoopGhost
import Derived.Deep.QuietTactic
import Derived.BigQuiet
import Derived.ShutString
namespace Go.Proofs.YtmgpnpmdmelnkaaGreatDoor
open Go.ChangeShapes Go.WideShapes Go.ChangeAt Go.RowKit
set_option linter.unusedVariables false
set_option linter.unusedSimpArgs false
theorem same_step {l m : List ByteArray} {k : Nat} (h1 : k < l.length) (h2 : k < m.length) (ht : l.take k = m.take k) (e : l[k] = m[k]) : l.take (k + 1) = m.take (k + 1) := by
  rw [List.take_succ_eq_append_getElem h1, List.take_succ_eq_append_getElem h2, ht, e]
theorem str_ne (s t : ByteArray) : (s.toList == t.toList) = decide (s = t) := by
  rw [cmpB_eq, Bool.eq_iff_iff]; simp [cmpB_zero]
theorem over_no {l m : List ByteArray} {k : Nat} (h1 : k < l.length) (h2 : k < m.length) (e : ¬ l[k] = m[k]) : overP l m = false := by
  unfold overP
  simp only [decide_eq_false_iff_not]
  intro h
  exact e (h.getElem h1)
theorem over_yes {l m : List ByteArray} (h1 : l.length ≤ m.length) (h : l.take l.length = m.take l.length) : overP l m = true := by
  unfold overP
  rw [decide_eq_true_eq, List.prefix_iff_eq_take]
  rw [List.take_length] at h; exact h
theorem over_long {l m : List ByteArray} (h1 : m.length < l.length) : overP l m = false := by
  unfold overP
  simp only [decide_eq_false_iff_not]
  intro h
  have := h.length_le; omega
set_option maxRecDepth 100000 in
set_option maxHeartbeats 1000000 in
theorem refOver_any (l m : List ByteArray) (a b : Option Addr) (c d : Nat) (w : World) (hl : Strs w a l) (hm : Strs w b m) :
    Calls Tryz.prog 87 #[.slice a l.length c, .slice b m.length d] w fun e w' => e = .returned (.bool (overP l m)) ∧ Gr w w' := by
  have HL := Lib.hid hl
  have HM := Lib.hid hm
  have l1 := hl.2.1
  have l2 := hm.2.1
  clear hl hm
  generalize hr : overP l m = r
  have HR := Lib.hid hr; clear hr
  by_cases hlen : l.length ≤ m.length
  · go_enter Tryz.func87, Tryz.ntmps87
    go_wp2
    go_loopw [13] (fun i wr => ∃ k : Nat, k ≤ l.length ∧ i = .int .i64 k ∧ Hid (l.take k = m.take k) ∧ Hid (Gr w wr)) (fun i _ => l.length - (intOf i).toNat)
    case atStart => exact ⟨0, by omega, rfl, Lib.hid rfl, Lib.hid (Gr.refl _)⟩
    case round =>
      obtain ⟨k, hk, rfl, hA, hG⟩ := hrel
      by_cases hlt : k < l.length
      · obtain ⟨b1, o1, rfl, _, hc1, _⟩ := HL.out.at k hlt
        obtain ⟨b2, o2, rfl, _, hc2, _⟩ := HM.out.at k (by omega)
        replace hc1 := hG.out.cell hc1
        replace hc2 := hG.out.cell hc2
        have hlt2 : k < m.length := by omega
        have hS := Lib.hid (fun (e : l[k] = m[k]) => same_step hlt hlt2 hA.out e)
        have hN := Lib.hid (fun (e : ¬ l[k] = m[k]) => over_no hlt hlt2 e)
        have hq := str_ne l[k] m[k]
        generalize l[k] = s at *
        generalize m[k] = t at *
        by_cases hst : s = t
        · simp only [hst, decide_true] at hq
          go_wp2
          go_region
          go_wp2
          go_roundw
          case rel => exact ⟨k + 1, by omega, by go_num, Lib.hid (hS.out hst), Lib.hid hG.out.drew⟩
          case measure => simp [intOf]; omega
        · simp only [hst, decide_false] at hq
          go_wp2
          go_region
          go_wp2
          go_ret
          exact ⟨by rw [← HR.out, hN.out hst]; rfl, hG.out.drew⟩
      · obtain rfl : k = l.length := by omega
        have E := Lib.hid (over_yes hlen hA.out)
        go_wp2
        go_ret
        exact ⟨by rw [← HR.out, E.out]; rfl, hG.out⟩
  · have E := Lib.hid (over_long (l := l) (m := m) (by omega))
    go_enter Tryz.func87, Tryz.ntmps87
    go_wp2
    go_ret
    exact ⟨by rw [← HR.out, E.out]; rfl, Gr.refl _⟩
set_option maxRecDepth 100000 in
set_option maxHeartbeats 2000000 in
theorem refCompare_any (l m : List ByteArray) (a b : Option Addr) (c d : Nat) (w : World) (hl : Strs w a l) (hm : Strs w b m) :
    Calls Tryz.prog 86 #[.slice a l.length c, .slice b m.length d] w fun e w' => e = .returned (.int .i64 (cmpP l m)) ∧ Gr w w' := by
  have HL := Lib.hid hl
  have HM := Lib.hid hm
  have l1 := hl.2.1
  have l2 := hm.2.1
  clear hl hm
  generalize hr : cmpP l m = r
  have HR := Lib.hid hr; clear hr
  go_enter Tryz.func86, Tryz.ntmps86
  go_wp2
  go_loopw [5] (fun i wr => ∃ k : Nat, k ≤ l.length ∧ k ≤ m.length ∧ i = .int .i64 k ∧ Hid (cmpP (l.drop k) (m.drop k) = r) ∧ Hid (Gr w wr)) (fun i _ => l.length - (intOf i).toNat)
  case atStart => exact ⟨0, by omega, by omega, rfl, Lib.hid HR.out, Lib.hid (Gr.refl _)⟩
  case round =>
    obtain ⟨k, hk, hk2, rfl, hA, hG⟩ := hrel
    by_cases hlt : k < l.length
    · by_cases hlt2 : k < m.length
      · obtain ⟨b1, o1, rfl, _, hc1, _⟩ := HL.out.at k hlt
        obtain ⟨b2, o2, rfl, _, hc2, _⟩ := HM.out.at k hlt2
        replace hc1 := hG.out.cell hc1
        replace hc2 := hG.out.cell hc2
        have hS := Lib.hid (cmpP_step hlt hlt2)
        have hrg := cmpB_range l[k] m[k]
        have hbl := cmpB_less l[k] m[k]
        have hbe := cmpB_eq l[k] m[k]
        generalize cmpB l[k] m[k] = q at *
        generalize l[k] = s at *
        generalize m[k] = t at *
        have hA2 := Lib.hid (hS.out.symm.trans hA.out)
        clear hA hS
        rcases hrg with rfl | rfl | rfl
        · replace hbl : Op.bytesLess s.toList t.toList = true := hbl
          replace hbe : (s.toList == t.toList) = false := hbe
          go_wp2
          go_region
          go_wp2
          go_ret
          exact ⟨by rw [← hA2.out]; rfl, hG.out.drew⟩
        · replace hbl : Op.bytesLess s.toList t.toList = false := hbl
          replace hbe : (s.toList == t.toList) = true := hbe
          go_wp2
          go_region
          go_wp2
          go_region
          go_wp2
          go_roundw
          case rel => exact ⟨k + 1, by omega, by omega, by go_num, Lib.hid (by rw [← hA2.out]; rfl), Lib.hid hG.out.drew.drew⟩
          case measure => simp [intOf]; omega
        · replace hbl : Op.bytesLess s.toList t.toList = false := hbl
          replace hbe : (s.toList == t.toList) = false := hbe
          go_wp2
          go_region
          go_wp2
          go_region
          go_wp2
          go_ret
          exact ⟨by rw [← hA2.out]; rfl, hG.out.drew.drew⟩
      · have e := Lib.hid (hA.out.symm.trans (cmpP_end (.inr (by omega)) hk hk2))
        have h3 : m.length < l.length := by omega
        clear hA
        go_wp2
        go_ret
        refine ⟨?_, hG.out⟩
        rw [e.out, if_neg (by omega), if_pos h3]; rfl
    · have e := Lib.hid (hA.out.symm.trans (cmpP_end (.inl (by omega)) hk hk2))
      clear hA
      by_cases h3 : l.length < m.length
      · go_wp2
        go_ret
        refine ⟨?_, hG.out⟩
        rw [e.out, if_pos h3]; rfl
      · go_wp2
        go_ret
        refine ⟨?_, hG.out⟩
        rw [e.out, if_neg h3, if_neg (by omega)]; rfl
end Go.Proofs.YtmgpnpmdmelnkaaGreatDoor
