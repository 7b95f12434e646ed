import Derived.Test.YtihhfdkcggnjpaaF16m
import Derived.Test.YtihhfdkcggnjpaaF16k
import Derived.Test.YtihhfdkcggnjpaaSh0
import Derived.WalkKit
import Derived.ProofKit
import Derived.LoopTactic
import Derived.Outline
import Derived.WalkSpells
import Derived.WalkLawsBesides
import Derived.Lib.Hide
import Derived.Deep.LoopGhost
import Derived.Deep.QuietTactic
import Derived.BigQuiet
import Derived.ShutString
import Derived.IntWalk
import Derived.Laws.OwnMore
namespace Go.Proofs.Ytihhfdkcggnjpaa
open Go.ChangeShapes Go.WideShapes Go.ChangeAt Go.RowKit
open Bal
set_option linter.unusedVariables false
set_option linter.unusedSimpArgs false
theorem clone16 (s : ByteArray) (w : World) (hlim : s.size ≤ 281474976710656) :
    Calls Try.prog 159 #[.string s] w fun e w' => e = .returned (.string s) ∧ Gr w w' := by
  go_enter Try.func159, Try.ntmps159
  go_wp2_with fail
  refine (Try.stringslite_Clone s _ hlim).mono ?_
  rintro e w' ⟨rfl, hb⟩
  go_wp2
  go_ret
  exact ⟨rfl, hb⟩
theorem set_same {xs : List Value} {j : Nat} {u : Value} (h : xs[j]? = some u) : xs.set j u = xs := by
  apply List.ext_getElem?
  intro i
  rw [List.getElem?_set]
  split
  · rename_i e
    subst e
    obtain ⟨hl, _⟩ := List.getElem?_eq_some_iff.1 h
    rw [if_pos hl, h]
  · rfl
set_option maxRecDepth 100000 in
set_option maxHeartbeats 1000000 in
/-- A row of entries with texts of their own. -/
theorem copied_any {base : Nat} {v : Value} (L : List E) (w : World) (h : w.ownsRow base 159 4 v L.length (rcells encE L)) (hl : L.length ≤ 1000) (ht : ∀ x ∈ L, x.text.size ≤ 1000000) :
    Calls Try.prog 92 #[v] w fun e w' => ∃ v', e = .returned v' ∧ w'.ownsRow w.heap.size 159 4 v' L.length (rcells encE L) ∧ Gr w w' := by
  have HC := Lib.hid (cloneE_any L w h hl)
  have HT := Lib.hid ht
  obtain ⟨a, c, rfl, _⟩ := ownsRow_slice h
  clear h ht
  go_enter Try.func92, Try.ntmps92
  go_wp2_with fail
  refine HC.out.mono ?_
  rintro e w1 ⟨v, rfl, hv, hg⟩
  obtain ⟨va, vc, rfl, _⟩ := ownsRow_slice hv
  have HV := Lib.hid hv
  have HG := Lib.hid hg
  clear hv hg
  go_wp2
  go_loopw [9] (fun i wr => ∃ k : Nat, k ≤ L.length ∧ i = .int .i64 (k : Nat) ∧ Hid (wr.ownsRow w.heap.size 159 4 (.slice va L.length vc) L.length (rcells encE L)) ∧ Hid (Gr w wr)) (fun i _ => L.length - (intOf i).toNat)
  case atStart => exact ⟨0, by omega, rfl, HV, HG⟩
  case round =>
    clear HV HG
    obtain ⟨k, hk, rfl, HV, HG⟩ := hrel
    by_cases hlt : k < L.length
    · have hk4 : (k : Int) < (L.length : Int) := by omega
      obtain ⟨g, cap, hv, _, _, _, hc⟩ := erow_at HV.out k hlt
      simp only [Value.slice.injEq, true_and] at hv
      obtain ⟨rfl, rfl⟩ := hv
      have HCL := Lib.hid (fun w => clone16 L[k].text w (by have := HT.out _ (List.getElem_mem hlt); omega))
      have HAT := Lib.hid (show (rcells encE L)[k * 4 + 3]? = some (.string L[k].text) by rw [rcells_at encE_len L k hlt 3 (by omega)]; rfl)
      generalize L[k].text = s at *
      go_wp2_with fail
      refine (HCL.out _).mono ?_
      rintro e w9 ⟨rfl, hg9⟩
      have HV9 := Lib.hid (ownsRow_gr hg9 HV.out)
      have hst := (HV9.out.stored (k * 4 + 3) (.string s)).1
      rw [set_same HAT.out] at hst
      have HST := Lib.hid hst
      have hlo := (HV9.out.lt g rfl).1
      have HGG := Lib.hid ((HG.out.trans hg9).setCell (p := ⟨g, k * 4 + 3, none⟩) hlo (.string s))
      obtain ⟨g2, cap2, cur2, hv2, _, _, _, _, _, _, _, hat2, _, hfz2⟩ := owns_open HV9.out (by omega)
      simp only [Value.slice.injEq, Option.some.injEq, Addr.mk.injEq, and_true, true_and] at hv2
      obtain ⟨rfl, rfl⟩ := hv2
      have d0 := hat2 (k * 4 + 3) _ HAT.out
      have d1 := hfz2 (k * 4 + 3)
      clear hat2 hfz2 hst hg9 hc
      go_wp2
      go_roundw
      case rel => exact ⟨k + 1, by omega, by go_num, HST, HGG⟩
      case measure => simp [intOf]; omega
    · have hk5 : ¬ (k : Int) < (L.length : Int) := by omega
      go_wp2
      go_ret
      exact ⟨_, rfl, HV.out, HG.out⟩
/-- What is stored of a text. -/
def kept16 (wit : Bool) (s : ByteArray) : ByteArray := if wit then digD (fnvL (bytesOf s)) 8 else s
theorem kept16_size (wit : Bool) (s : ByteArray) (h : s.size ≤ 1000000) : (kept16 wit s).size ≤ 1000000 := by
  unfold kept16
  split
  · rw [digD_size]; omega
  · exact h
set_option maxRecDepth 100000 in
theorem stored16_any {b : Nat} {wit : Bool} {x1 x2 x3 v x5 x6 : Value} (s : ByteArray) (w : World) (h : Blk w b #[.bool wit, x1, x2, x3, v, x5, x6] 150) (hs : s.size ≤ 1000000) :
    Calls Try.prog 183 #[.pointer (some ⟨b, 0, none⟩), .string s] w fun e w' => e = .returned (.string (kept16 wit s)) ∧ Gr w w' := by
  have a0 : w.cell? ⟨b, 0, none⟩ = some (.bool wit) := h.cell (i := 0) rfl
  have HD := Lib.hid (fun w => digest_any s w hs)
  have HC := Lib.hid (fun w => clone16 s w (by omega))
  cases wit
  · rw [show kept16 false s = s from rfl]
    go_enter Try.func183, Try.ntmps183
    go_wp2_with fail
    refine (HC.out _).mono ?_
    rintro e w1 ⟨rfl, hg⟩
    go_wp2
    go_ret
    exact ⟨rfl, hg⟩
  · rw [show kept16 true s = digD (fnvL (bytesOf s)) 8 from rfl]
    generalize digD (fnvL (bytesOf s)) 8 = X at *
    go_enter Try.func183, Try.ntmps183
    go_wp2_with fail
    refine (HD.out _).mono ?_
    rintro e w1 ⟨rfl, hg⟩
    go_wp2
    go_ret
    exact ⟨rfl, hg⟩
end Go.Proofs.Ytihhfdkcggnjpaa
