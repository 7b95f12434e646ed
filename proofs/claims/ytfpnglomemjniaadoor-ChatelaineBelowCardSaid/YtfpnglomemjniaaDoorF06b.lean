import Derived.Test.YtfpnglomemjniaaDoorF06
import Derived.Test.YtfpnglomemjniaaDoorF05j
import Derived.WalkKit
import Derived.ProofKit
import Derived.LoopTactic
import Derived.Outline
import Derived.WalkSpells
import Derived.WalkLawsBesides
import Derived.Lib.Hide
import Derived.Deep.LoopGhost
import Derived.Deep.QuietTactic
import Derived.BigQuiet
import Derived.ShutString
namespace Go.Proofs.YtfpnglomemjniaaDoor
open Go.ChangeShapes Go.WideShapes Go.ChangeAt Go.RowKit
set_option linter.unusedVariables false
set_option linter.unusedSimpArgs false
set_option maxRecDepth 100000 in
set_option maxHeartbeats 1000000 in
theorem containsFunc_any (q : List ByteArray → Bool) (L : List (List ByteArray)) (a : Option Addr) (c n : Nat) (hn : n = L.length) (pt : Nat) (W w : World) (h : Strs W a (L.map ptext)) (hw : Gr W w) (hok : ∀ l ∈ L, okParts l = true)
    (hf : ∀ (l : List ByteArray) (w0 : World), okParts l = true → Gr W w0 → Calls Tryd.prog 69 #[.agg #[.string (ptext l)], .pointer (some ⟨pt, 0, none⟩)] w0 fun e w' => e = .returned (.bool (q l)) ∧ Gr w0 w') :
    Calls Tryd.prog 68 #[.slice a n c, .func (.func 69) #[] #[.pointer (some ⟨pt, 0, none⟩)]] w fun e w' => e = .returned (.bool (L.any q)) ∧ Gr w w' := by
  subst hn
  have I := Lib.hid (fun w1 hw1 => indexFunc_line q L a c pt W w1 h hw1 hok hf)
  have hq := findFrom_any q L
  have HW := Lib.hid hw
  clear h hok hf hw
  generalize findFrom q L 0 = r at *
  generalize L.any q = z at *
  go_enter Tryd.func68, Tryd.ntmps68
  go_wp2_with fail
  refine (I.out _ HW.out).mono ?_
  rintro e w1 ⟨rfl, hg⟩
  go_wp2
  go_ret
  exact ⟨by rw [← hq]; rfl, hg⟩
theorem clash_append (A B : List (List ByteArray)) (h : clash A = true) : clash (A ++ B) = true := by
  induction A with
  | nil => cases h
  | cons x A ih =>
    simp only [clash, List.cons_append, Bool.or_eq_true, List.any_append] at h ⊢
    rcases h with h | h
    · exact .inl (.inl h)
    · exact .inr (ih h)
set_option maxRecDepth 100000 in
set_option maxHeartbeats 1000000 in
theorem overlap_any (L : List (List ByteArray)) (a : Option Addr) (c : Nat) (w : World) (h : Strs w a (L.map ptext)) (hc : L.length ≤ c) (hok : ∀ l ∈ L, okParts l = true) (h4 : L.length ≤ 4) :
    Calls Tryd.prog 51 #[.slice a L.length c] w fun e w' => e = .returned (.bool (clash L)) ∧ Gr w w' := by
  have hmf : ∀ (fn : Fn) (first cap : Array Value) (w : World), (Instr.makeFunc fn first cap).run Tryd.prog w = .ok (.func fn first cap) w := fun _ _ _ _ => rfl
  have HS := Lib.hid h
  have HOK := Lib.hid hok
  clear h hok
  generalize hr : clash L = r
  have HR := Lib.hid hr; clear hr
  go_enter Tryd.func51, Tryd.ntmps51
  go_wp2
  go_loopw [7] (fun i wr => ∃ k : Nat, k ≤ L.length ∧ i = .int .i64 k ∧ Hid (clash (L.take k) = false) ∧ Hid (Gr w wr)) (fun i _ => L.length - (intOf i).toNat)
  case atStart => exact ⟨0, by omega, rfl, Lib.hid rfl, Lib.hid (Gr.refl _)⟩
  case round =>
    obtain ⟨k, hk, rfl, hA, hG⟩ := hrel
    by_cases hlt : k < L.length
    · obtain ⟨b1, o1, rfl, _, hc1, _⟩ := HS.out.at k (by simpa using hlt)
      have hc2 := hG.out.cell hc1
      simp only [List.getElem_map] at hc2
      clear hc1
      have hsn := clash_snoc (L.take k) L[k]
      rw [← List.take_succ_eq_append_getElem hlt, hA.out, Bool.false_or] at hsn
      have hmem : okParts L[k] = true := HOK.out _ (List.getElem_mem hlt)
      have hW1 : Gr wr (wr.alloc (.cells #[.string (ptext L[k])] 24)) := (Gr.refl wr).alloc _
      have C := Lib.hid (containsFunc_any (fun l => lineP l L[k]) (L.take k) (some ⟨b1, o1, none⟩) c k (by rw [List.length_take]; omega) wr.heap.size (wr.alloc (.cells #[.string (ptext L[k])] 24)) (wr.alloc (.cells #[.string (ptext L[k])] 24))
        (by rw [List.map_take]; exact (by
              have := (HS.out.gr hG.out).gr hW1
              obtain ⟨h1, h2, h3⟩ := this
              refine ⟨fun s hs => h1 s (List.mem_of_mem_take hs), by rw [List.length_take]; omega, ?_⟩
              rcases h3 with h3 | ⟨b, off, hb, hcl⟩
              · exact .inl (by rw [h3]; simp)
              · refine .inr ⟨b, off, hb, fun i hi => ?_⟩
                have hi' : i < (L.map ptext).length := by rw [List.length_take] at hi; omega
                rw [List.getElem_take]
                exact hcl i hi'))
        (Gr.refl _) (fun l hl => HOK.out l (List.mem_of_mem_take hl))
        (fun l w0 hl hg => lineClos_any l L[k] wr.heap.size w0 hl hmem (hg.cell (new_cell rfl rfl))))
      rw [← hsn] at C
      have HN := Lib.hid (show clash (L.take (k + 1)) = true → clash L = true from fun hh => by
        have := clash_append (L.take (k + 1)) (L.drop (k + 1)) hh
        rwa [List.take_append_drop] at this)
      generalize L[k] = l at *
      generalize ptext l = t at *
      clear hmem hsn hW1
      generalize hq : clash (L.take (k + 1)) = q at *
      have HQ := Lib.hid hq; clear hq
      cases q with
      | true =>
        go_wp2_with fail
        refine C.out.mono ?_
        rintro e w9 ⟨rfl, hg⟩
        have HG := Lib.hid ((hG.out.alloc _).trans hg)
        clear hg hc2
        go_wp2
        go_ret
        exact ⟨by rw [← HR.out, HN.out (by simp)]; rfl, HG.out⟩
      | false =>
        go_wp2_with fail
        refine C.out.mono ?_
        rintro e w9 ⟨rfl, hg⟩
        have HG := Lib.hid ((hG.out.alloc _).trans hg)
        clear hg hc2
        go_wp2
        go_roundw
        case rel => exact ⟨k + 1, by omega, by go_num, HQ, HG⟩
        case measure => simp [intOf]; omega
    · obtain rfl : k = L.length := by omega
      have E := Lib.hid (show clash L = false by have := hA.out; rwa [List.take_length] at this)
      go_wp2
      go_ret
      exact ⟨by rw [← HR.out, E.out]; rfl, hG.out⟩
/-- A table of subtrees lies in block b. -/
def TabIs (w : World) (b : Nat) (L : List (List ByteArray)) : Prop := ∃ a c, w.cell? ⟨b, 0, none⟩ = some (.slice a L.length c) ∧ Strs w a (L.map ptext) ∧ ∀ l ∈ L, okParts l = true
theorem TabIs.gr {w w' : World} {b : Nat} {L : List (List ByteArray)} (h : TabIs w b L) (hg : Gr w w') : TabIs w' b L := by
  obtain ⟨a, c, h1, h2, h3⟩ := h
  exact ⟨a, c, hg.cell h1, h2.gr hg, h3⟩
theorem all_any (b : Nat) (v : Value) (w : World) (h : w.cell? ⟨b, 0, none⟩ = some v) :
    Calls Tryd.prog 52 #[.pointer (some ⟨b, 0, none⟩)] w fun e w' => e = .returned v ∧ w = w' := by
  go_enter Tryd.func52, Tryd.ntmps52
  go_wp2
  go_ret
  exact ⟨rfl, rfl⟩
theorem len_any (b : Nat) (L : List (List ByteArray)) (w : World) (h : TabIs w b L) :
    Calls Tryd.prog 34 #[.pointer (some ⟨b, 0, none⟩)] w fun e w' => e = .returned (.int .i64 L.length) ∧ w = w' := by
  obtain ⟨a, c, h1, h2, h3⟩ := h
  have A := Lib.hid (all_any b _ w h1)
  clear h1 h2 h3
  go_enter Tryd.func34, Tryd.ntmps34
  go_wp2_with fail
  refine A.out.mono ?_
  rintro e w1 ⟨rfl, rfl⟩
  go_wp2
  go_ret
  exact ⟨rfl, rfl⟩
/-- The path of a subtree, or the root. -/
def prefixOf (L : List (List ByteArray)) (i : Int) : List ByteArray := if i < 0 then [] else L.getD i.toNat []
set_option maxRecDepth 100000 in
set_option maxHeartbeats 1000000 in
theorem prefix_any (b : Nat) (L : List (List ByteArray)) (i : Int) (w : World) (h : TabIs w b L) (h4 : L.length ≤ 4) :
    Calls Tryd.prog 35 #[.pointer (some ⟨b, 0, none⟩), .int .i64 i] w fun e w' => e = .returned (.agg #[.string (ptext (prefixOf L i))]) ∧ Gr w w' := by
  have HT := Lib.hid h
  obtain ⟨a, c, h1, h2, h3⟩ := h
  have H1 := Lib.hid h1
  have H2 := Lib.hid h2
  clear h1 h2 h3
  have LEN := Lib.hid (fun w' hg => len_any b L w' (HT.out.gr hg))
  rcases Int.lt_or_le i 0 with hi | hi
  · have E := Lib.hid (show ptext (prefixOf L i) = ⟨#[]⟩ by unfold prefixOf; rw [if_pos hi]; rfl)
    rw [E.out]
    go_enter Tryd.func35, Tryd.ntmps35
    go_wp2
    refine bodyPost_ret (by simp [results, Tryd.results35, go_sem]; try rfl) rfl ?_
    exact ⟨rfl, (Gr.refl _).alloc _⟩
  · obtain ⟨k, rfl⟩ : ∃ k : Nat, i = k := ⟨i.toNat, by omega⟩
    by_cases hk : k < L.length
    · have E := Lib.hid (show prefixOf L (k : Nat) = L[k] by unfold prefixOf; rw [if_neg (by omega)]; simp [List.getD_eq_getElem?_getD, hk])
      rw [E.out]
      obtain ⟨b1, o1, rfl, _, hc1, _⟩ := H2.out.at k (by simpa using hk)
      simp only [List.getElem_map] at hc1
      have hc2 := ((Gr.refl w).alloc (.cells #[.string ⟨#[]⟩] 24)).cell hc1
      have A := Lib.hid (fun w' hg => all_any b _ w' ((show Gr w w' from hg).cell H1.out))
      clear hc1
      generalize ptext L[k] = t at *
      go_enter Tryd.func35, Tryd.ntmps35
      go_wp2_with fail
      refine (LEN.out _ ((Gr.refl _).alloc _)).mono ?_
      rintro e w1 ⟨rfl, rfl⟩
      go_wp2_with fail
      refine (A.out _ ((Gr.refl _).alloc _)).mono ?_
      rintro e w1 ⟨rfl, rfl⟩
      go_wp2
      refine bodyPost_ret (by simp [results, Tryd.results35, go_sem]; try rfl) rfl ?_
      exact ⟨rfl, (Gr.refl _).alloc _⟩
    · have E := Lib.hid (show ptext (prefixOf L (k : Nat)) = ⟨#[]⟩ by unfold prefixOf; rw [if_neg (by omega)]; simp [List.getD_eq_getElem?_getD, Nat.not_lt.1 hk]; rfl)
      rw [E.out]
      go_enter Tryd.func35, Tryd.ntmps35
      go_wp2_with fail
      refine (LEN.out _ ((Gr.refl _).alloc _)).mono ?_
      rintro e w1 ⟨rfl, rfl⟩
      go_wp2
      refine bodyPost_ret (by simp [results, Tryd.results35, go_sem]; try rfl) rfl ?_
      exact ⟨rfl, (Gr.refl _).alloc _⟩
/-- What Find returns. -/
def lostL : List Lk := [.fault 11 routeW, .fault 11 ⟨#[]⟩]
def FindIs (k : Int) (w : World) (e : Ending) (w' : World) : Prop := (k = -1 ∧ ∃ b, e = .returned (.tuple #[.int .i64 (-1), .iface 68 (.pointer (some ⟨b, 0, none⟩))]) ∧ Chain w' (.iface 68 (.pointer (some ⟨b, 0, none⟩))) lostL ∧ Gr w w') ∨ (0 ≤ k ∧ e = .returned (.tuple #[.int .i64 k, .nilIface]) ∧ Gr w w')
set_option maxRecDepth 100000 in
set_option maxHeartbeats 1000000 in
theorem find_any (b : Nat) (L : List (List ByteArray)) (p : List ByteArray) (w : World) (h : TabIs w b L) (hp : okParts p = true) (he : ET w) (h4 : L.length ≤ 4) :
    Calls Tryd.prog 36 #[.pointer (some ⟨b, 0, none⟩), .agg #[.string (ptext p)]] w (FindIs (findOf L p) w) := by
  have hmf : ∀ (fn : Fn) (first cap : Array Value) (w : World), (Instr.makeFunc fn first cap).run Tryd.prog w = .ok (.func fn first cap) w := fun _ _ _ _ => rfl
  obtain ⟨a, c, h1, h2, h3⟩ := h
  have HE := Lib.hid he
  have hg0 : Gr w (w.alloc (.cells #[.string (ptext p)] 24)) := (Gr.refl w).alloc _
  have A := Lib.hid (all_any b _ (w.alloc (.cells #[.string (ptext p)] 24)) (hg0.cell h1))
  have I := Lib.hid (indexFunc_find (fun l => overP l p) L a c w.heap.size (w.alloc (.cells #[.string (ptext p)] 24)) (w.alloc (.cells #[.string (ptext p)] 24)) (h2.gr hg0) (Gr.refl _) h3
    (fun l w0 hl hg => findClos_any l p w.heap.size w0 hl hp (hg.cell (new_cell rfl rfl))))
  rw [← findOf_from] at I
  have hk : findOf L p = -1 ∨ 0 ≤ findOf L p := by
    unfold findOf; cases L.findIdx? (fun l => overP l p) <;> simp
  clear h1 h2 h3 hp he hg0
  generalize findOf L p = k at *
  generalize ptext p = t at *
  rcases hk with rfl | hk
  · go_enter Tryd.func36, Tryd.ntmps36
    go_wp2_with fail
    refine A.out.mono ?_
    rintro e w1 ⟨rfl, rfl⟩
    go_wp2_with fail
    refine I.out.mono ?_
    rintro e w2 ⟨rfl, hg⟩
    have HG := Lib.hid (((Gr.refl w).alloc _).trans hg)
    clear hg
    go_wp2_with fail
    refine (of_any 11 _ (by decide)).mono ?_
    rintro e w3 ⟨u, rfl, hu, hg3⟩
    have HU := Lib.hid hu
    have HG3 := Lib.hid (HG.out.trans hg3)
    clear hu hg3
    go_wp2_with fail
    refine (wrapped_any u _ _ (by decide) (by simp) HU.out (HE.out.gr HG3.out)).mono ?_
    rintro e w4 ⟨v, rfl, hv, hg4⟩
    have HV := Lib.hid hv
    have HG4 := Lib.hid (HG3.out.trans hg4)
    obtain ⟨bb, uu, rfl, -⟩ := hv
    clear hg4
    go_wp2
    go_ret2
    exact .inl ⟨rfl, bb, rfl, HV.out, HG4.out⟩
  · go_enter Tryd.func36, Tryd.ntmps36
    go_wp2_with fail
    refine A.out.mono ?_
    rintro e w1 ⟨rfl, rfl⟩
    go_wp2_with fail
    refine I.out.mono ?_
    rintro e w2 ⟨rfl, hg⟩
    have HG := Lib.hid (((Gr.refl w).alloc _).trans hg)
    clear hg
    go_wp2
    go_ret2
    exact .inr ⟨hk, rfl, HG.out⟩
end Go.Proofs.YtfpnglomemjniaaDoor
