import Derived.Test.YtmgpnpmdmelnkaaGreatDoorF05f
import Derived.WalkKit
import Derived.ProofKit
import Derived.LoopTactic
import Derived.Outline
import Derived.WalkSpells
import Derived.WalkLawsBesides
import Derived.Lib.Hide
import Derived.Deep.LoopGhost
import Derived.Deep.QuietTactic
import Derived.BigQuiet
import Derived.ShutString
import Derived.Lib.MinMax
import Derived.Deep.RegionHeld3
namespace Go.Proofs.YtmgpnpmdmelnkaaGreatDoor
open Go.ChangeShapes Go.WideShapes Go.ChangeAt Go.RowKit
set_option linter.unusedVariables false
set_option linter.unusedSimpArgs false
set_option maxRecDepth 100000 in
set_option maxHeartbeats 2000000 in
theorem up_any (l : List ByteArray) (w : World) (h : okParts l = true) :
    Calls Tryz.prog 18 #[.agg #[.string (ptext l)]] w fun e w' => e = .returned (.agg #[.string (ptext l.dropLast)]) ∧ Gr w w' := by
  have hsz : (ptext l).size ≤ 102 := by
    have h2 := h
    simp only [okParts, Bool.and_eq_true, decide_eq_true_eq] at h2
    have := ptext_size h2.2; omega
  have key : ∃ (r : Int) (n : Nat), Lib.lastIndexByte (ptext l) 47 = r ∧ max r 0 = (n : Nat) ∧ n ≤ (ptext l).size ∧ (ptext l).extract 0 n = ptext l.dropLast := by
    rcases List.eq_nil_or_concat l with rfl | ⟨l', x, rfl⟩
    · exact ⟨-1, 0, rfl, by decide, by omega, by rfl⟩
    · have hx : Clean (bytesOf x) := okParts_clean h x (by simp)
      refine ⟨((ptext l').size : Nat), (ptext l').size, by rw [← last_flat l' x hx]; simp, by omega, ?_, ?_⟩
      · have := bytes_size (ptext (l'.concat x))
        have e2 := bytes_size (ptext l')
        rw [ptext_bytes] at this e2
        simp only [List.concat_eq_append, flat_append, List.length_append] at this
        simp only [List.concat_eq_append]
        omega
      · apply bytes_inj
        have e := Lib.extract_data (ptext (l'.concat x)) 0 (ptext l').size
        show ((ptext (l'.concat x)).extract 0 (ptext l').size).data.toList = _
        rw [e]
        show ((bytesOf (ptext (l'.concat x))).drop 0).take _ = _
        rw [ptext_bytes]
        have e3 : (ptext l').size = (flat l').length := by rw [← bytes_size, ptext_bytes]
        rw [e3]
        simp only [List.concat_eq_append, flat_append, List.drop_zero, Nat.sub_zero, List.dropLast_concat, ptext_bytes]
        simp
  obtain ⟨r, n, k1, k2, k3, k4⟩ := key
  rw [← k4]
  clear k4 h
  generalize ptext l = t at *
  have K1 := Lib.hid (show Lib.lastIndexByte t ((⟨#[47]⟩ : ByteArray)[0]'(by decide)).toNat = r from k1); clear k1
  go_enter Tryz.func18, Tryz.ntmps18
  go_wp2
  have HG := (((Gr.refl w).alloc (.cells #[.string t] 40)).alloc (.cells #[.string ⟨#[]⟩] 40))
  have c0 : ((w.alloc (.cells #[.string t] 40)).alloc (.cells #[.string ⟨#[]⟩] 40)).cell? ⟨w.heap.size, 0, none⟩ = some (.string t) := ((Gr.refl _).alloc _).cell (new_cell rfl rfl)
  have c1 : ((w.alloc (.cells #[.string t] 40)).alloc (.cells #[.string ⟨#[]⟩] 40)).cell? ⟨w.heap.size + 1, 0, none⟩ = some (.string ⟨#[]⟩) := new_cell (by simp) rfl
  have f1 : ((w.alloc (.cells #[.string t] 40)).alloc (.cells #[.string ⟨#[]⟩] 40)).frozen? ⟨w.heap.size + 1, 0, none⟩ = false := new_free (by simp)
  generalize (w.alloc (.cells #[.string t] 40)).alloc (.cells #[.string ⟨#[]⟩] 40) = wr at *
  have hr0 : r = -1 ∧ n = 0 ∨ r = (n : Int) := by
    rcases Lib.lastIndexByte_spec t ((⟨#[47]⟩ : ByteArray)[0]'(by decide)).toNat with ⟨h, _⟩ | ⟨i, _, h, _⟩ <;> rw [K1.out] at h <;> omega
  have hmx : max (-1 : Int) 0 = 0 := by decide
  have hmn : max ((n : Nat) : Int) 0 = n := by omega
  rcases hr0 with ⟨rfl, rfl⟩ | rfl
  all_goals
    clear k2
    go_region_held3 (fun w' => Gr w w' ∧ w'.cell? ⟨w.heap.size, 0, none⟩ = some (.string t)) (first | exact ⟨HG, c0⟩ | exact ⟨HG.drew, c0⟩ | (go_split_ands; refine ⟨?_, ?_⟩ <;> first | assumption | exact Gr.drew (by assumption) | exact Gr.drew (Gr.setCell HG (Nat.le_succ _) _) | exact (World.cell?_setCell_other _ _ _ _ (fun e => by injection e with e1; omega)).trans c0)) (first | (go_at_call 37; refine (Tryz.strings_LastIndex_one t _ rfl (by omega) _).mono ?_; rintro e w2 ⟨rfl, rfl⟩; rw [K1.out]))
    go_split_ands
    go_wp2
    refine bodyPost_ret (by simp [results, Tryz.results18, go_sem, c1, f1]; try rfl) rfl ?_
    exact ⟨by first | rfl | simp, by assumption⟩
end Go.Proofs.YtmgpnpmdmelnkaaGreatDoor
