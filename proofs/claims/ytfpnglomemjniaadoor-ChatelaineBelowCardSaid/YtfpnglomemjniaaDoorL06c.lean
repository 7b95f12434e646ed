import Derived.Test.YtfpnglomemjniaaDoorF06d
import Derived.Test.YtfpnglomemjniaaDoorF05m
import Derived.Test.YtfpnglomemjniaaDoorF05g
import Derived.Test.YtfpnglomemjniaaDoorF06e
import Derived.Test.YtfpnglomemjniaaDoorL06
import Derived.Test.YtfpnglomemjniaaDoorM06d
import Derived.WalkKit
import Derived.ProofKit
import Derived.LoopTactic
import Derived.Outline
import Derived.WalkSpells
import Derived.WalkLawsBesides
import Derived.Lib.Hide
import Derived.Deep.LoopGhost
import Derived.Deep.QuietTactic
import Derived.BigQuiet
import Derived.ShutString
import Derived.IntWalk
import Derived.Deep.AppendLies
import Derived.Deep.Onto
import Derived.Deep.RegionHeld3
namespace Go.Proofs.YtfpnglomemjniaaDoor
open Go.ChangeShapes Go.WideShapes Go.ChangeAt Go.RowKit
set_option linter.unusedVariables false
set_option linter.unusedSimpArgs false
/-- The text that stands for some parts. -/
def belowT (l : List ByteArray) : ByteArray := shown (madeL l)
theorem belowT_le (l : List ByteArray) : (belowT l).size ≤ 1000 := by
  have h := madeL_ok l
  unfold belowT shown
  split
  · decide
  · simp only [okParts, Bool.and_eq_true, decide_eq_true_eq] at h
    have := ptext_size h.2; omega
theorem textsOf_le {LL : List (List ByteArray)} {k : Nat} : ∀ s ∈ textsOf LL belowT k, s.size ≤ 1000 := by
  intro s hs
  obtain ⟨l, _, rfl⟩ := List.mem_map.1 hs
  exact belowT_le l
theorem textsOf_len {LL : List (List ByteArray)} {k : Nat} (hk : k ≤ LL.length) : (textsOf LL belowT k).length = k := by
  unfold textsOf; rw [List.length_map, List.length_take]; omega
/-- The size of the text in a pointer's cell. -/
def qSize (v : Value) (w : World) : Nat := match v with
  | .pointer (some a) => match w.cell? a with
    | some (.string u) => u.size
    | _ => 0
  | _ => 0
theorem ptext_up {l : List ByteArray} (h : l ≠ []) : (ptext l.dropLast).size < (ptext l).size := by
  rcases List.eq_nil_or_concat l with rfl | ⟨l', x, rfl⟩
  · exact absurd rfl h
  · rw [← bytes_size, ← bytes_size, ptext_bytes, ptext_bytes]
    simp only [List.concat_eq_append, List.dropLast_concat, flat_append, List.length_append, flat, List.length_cons]
    omega
theorem pre_ok {l m : List ByteArray} (h : l <+: m) (hm : okParts m = true) : okParts l = true := by
  simp only [okParts, Bool.and_eq_true, decide_eq_true_eq, List.all_eq_true] at hm ⊢
  exact ⟨Nat.le_trans h.length_le hm.1, fun s hs => hm.2 s (h.subset hs)⟩
/-- What Made returns, whatever it is. -/
theorem made_is {l : List ByteArray} {w w' : World} {e : Ending} (h : MadeIs (if okParts l then some l else none) w e w') : ∃ (t : ByteArray) (v : Value), e = .returned (.tuple #[.agg #[.string t], v]) ∧ Hid (okParts l = true ∧ t = ptext l ∧ v = .nilIface ∨ okParts l = false ∧ ∃ b, v = .iface 68 (.pointer (some ⟨b, 0, none⟩))) ∧ Gr w w' := by
  cases hq : okParts l with
  | true =>
    rw [hq, if_pos rfl] at h
    obtain ⟨h1, h2⟩ := h
    exact ⟨_, _, h1, Lib.hid (.inl ⟨rfl, rfl, rfl⟩), h2⟩
  | false =>
    rw [hq, if_neg (by simp)] at h
    obtain ⟨b, h1, _, h2⟩ := none_is h
    exact ⟨_, _, h1, Lib.hid (.inr ⟨rfl, b, rfl⟩), h2⟩
theorem one_cell {w : World} {b : Nat} {v : Value} (h : w.cell? ⟨b, 0, none⟩ = some v) : ∀ (j : Nat) (u : Value), [v][j]? = some u → w.cell? ((⟨b, 0, none⟩ : Addr).add j) = some u := by
  intro j u hj
  match j, hj with
  | 0, hj =>
    simp at hj; subst hj
    simpa [Addr.add] using h
set_option maxRecDepth 100000 in
set_option maxHeartbeats 8000000 in
theorem below_walk (LL : List (List ByteArray)) (a : Option Addr) (c : Nat) (tt : List ByteArray) (a' : Option Addr) (c' : Nat) (N : Int) (w : World) (h : SRow w a LL) (h' : Strs w a' tt) (hNw : -9223372036854775808 ≤ N ∧ N ≤ 9223372036854775807) (he : ET w) (hm : ML w) :
    Calls Tryd.prog 10 #[.slice a LL.length c, .slice a' tt.length c', .int .i64 N] w fun e w' => e = .returned (.bool true) ∧ Gr w w' := by
  have q1 := eqNN
  have q2 := eqIN
  obtain ⟨i0, hi, hz0, hz1, hz2⟩ := info_parts info_str3
  have HS := Lib.hid h
  have HS' := Lib.hid h'
  have HE := Lib.hid he
  have HM := Lib.hid hm
  have HNW := Lib.hid hNw
  clear h h' he hm hNw
  go_enter Tryd.func10, Tryd.ntmps10
  go_wp2
  go_loopw [7, 8] (fun o i wr => ∃ k : Nat, k ≤ LL.length ∧ k ≤ 4 ∧ i = .int .i64 k ∧ wr.ownsRow w.heap.size 9 1 o k (strCells (textsOf LL belowT k)) ∧ Hid (Gr w wr)) (fun _ i _ => LL.length - (intOf i).toNat)
  case atStart => exact ⟨0, by omega, by omega, rfl, World.ownsRow_nil _ _ _ _, Lib.hid (Gr.refl _)⟩
  case round =>
    obtain ⟨k, hk, hk4, rfl, hown, hG⟩ := hrel
    by_cases hend : k < LL.length ∧ k < 4
    · obtain ⟨hlt, h4'⟩ := hend
      obtain ⟨b, off, ai, ci, rfl, hbw, hcell, hsti⟩ := HS.out.at k hlt
      replace hcell := hG.out.cell hcell
      have MD := Lib.hid (lawMade_any ai LL[k] ci wr (hsti.gr hG.out) (HE.out.gr hG.out))
      have hF := Lib.hid (show textsOf LL belowT (k + 1) = textsOf LL belowT k ++ [shown (madeL LL[k])] from textsOf_snoc hlt)
      have TX := Lib.hid (fun w => text_any (madeL LL[k]) w)
      have hle := belowT_le LL[k]
      unfold belowT at hle
      generalize LL[k] = l at *
      generalize madeL l = ml at *
      generalize shown ml = sh at *
      obtain ⟨t, ht⟩ : ∃ t, ptext ml = t := ⟨_, rfl⟩
      rw [ht] at TX
      have HTX := Lib.hid ht
      clear ht hsti
      go_wp2_with fail
      refine MD.out.mono ?_
      rintro e w2 ⟨am, cm, rfl, hstm, hg2⟩
      rw [HTX.out]
      have HG2 := Lib.hid ((hG.out.trans hg2).alloc (.cells #[.string t] 24))
      have hown2 := (ownsRow_gr hg2 hown).alloc (.cells #[.string t] 24)
      have c0 : (w2.alloc (.cells #[.string t] 24)).cell? ⟨w2.heap.size, 0, none⟩ = some (.string t) := new_cell rfl rfl
      clear hg2 hown hcell hstm
      go_wp2_with fail
      refine (TX.out _).mono ?_
      rintro e w3 ⟨rfl, hg3⟩
      have HG3 := Lib.hid (HG2.out.trans hg3)
      have hown3 := ownsRow_gr hg3 hown2
      clear hg3 hown2 c0
      go_wp2_with (at_builtin; refine wpList_append_own _ rfl _ _ 29 rfl w.heap.size 9 i0 (.string ⟨#[]⟩) 1 16 Tryd.underlying29 hi hz0 hz1 hz2 rfl (by decide) _ _ _ rfl (hown3.alloc _) ⟨w3.heap.size, 0, none⟩ 1 1 [.string sh] rfl rfl ?c1 ?c2 ?c3 ?c4 ?c5 ?_)
      try case c1 => exact cellsOne w3 _ _
      try case c2 => first | rfl | (intro u' hu'; simp at hu'; subst hu'; rfl)
      case c3 => unfold maxLen; omega
      case c4 => omega
      case c5 => have := HG3.out.size; simp; omega
      · intro v' w4 hown4 hgrow _
        have HG4 := Lib.hid ((HG3.out.alloc (.cells #[.string sh] 9)).append (hown3.alloc _) hgrow)
        have HO4 := Lib.hid (show w4.ownsRow w.heap.size 9 1 v' (k + 1) (strCells (textsOf LL belowT (k + 1))) by rw [hF.out]; simpa [strCells] using hown4)
        clear hgrow hown3 hown4
        go_wp2
        go_roundw
        case rel => exact ⟨k + 1, by omega, by omega, by go_num, HO4.out, HG4⟩
        case measure => simp [intOf]; omega
    · have hTl := textsOf_len (LL := LL) hk
      obtain ⟨af, cf, rfl, hst⟩ := strs_of_row (l := textsOf LL belowT k) (by rw [hTl]; exact hown) (fun s hs => Nat.le_trans (textsOf_le s hs) (by decide)) (by omega)
      have NW := Lib.hid (new2_any (textsOf LL belowT k) af cf wr hst textsOf_le (HE.out.gr hG.out) (HM.out.gr hG.out))
      clear hst hown hTl
      generalize textsOf LL belowT k = T at *
      obtain ⟨n, L, hn⟩ : ∃ n L, newOf T = (n, L) := ⟨_, _, rfl⟩
      rw [hn] at NW
      have hex : (k : Int) < (LL.length : Int) ∧ (4 : Int) ≤ k ∨ (LL.length : Int) ≤ k := by omega
      by_cases hn0 : n = 0
      · subst hn0
        obtain ⟨hcl, hL1, hL4, -⟩ := newOf_ok hn
        clear hn
        rcases hex with ⟨hx1, hx2⟩ | hx1
        · skip
          go_wp2_with fail
          refine NW.out.mono ?_
          intro e w3 h3
          obtain ⟨b, rfl, htab, hg3⟩ := newIs_ok h3
          have HG3 := Lib.hid (hG.out.trans hg3)
          have HT3 := Lib.hid htab
          clear h3 htab hg3 NW
          go_wp2_with fail
          refine (len_any b L _ HT3.out).mono ?_
          rintro e w4 ⟨rfl, rfl⟩
          go_wp2
          have HX : Hid (∀ w0 w9 : World, Gr w0 w9 → Gr w3 w0 ∧ TabIs w0 b L → Gr w3 w9 ∧ TabIs w9 b L) := Lib.hid fun w0 w9 hg ⟨h1, h2⟩ => ⟨h1.trans hg, h2.gr hg⟩
          have HS0 := And.intro (Gr.refl w3) HT3.out
          have LE := Lib.hid (fun w hh => len_any b L w hh)
          have hLne : ¬ L = [] := by intro hh; rw [hh] at hL1; simp at hL1
          have hxb : -(L.length : Int) < N.tmod L.length ∧ N.tmod L.length < (L.length : Int) := by
            have h1 := Int.tmod_lt_of_pos N (show (0 : Int) < L.length by omega)
            have h2 := Int.tmod_lt_of_pos (-N) (show (0 : Int) < L.length by omega)
            rw [Int.neg_tmod] at h2
            omega
          obtain ⟨kk, hkk, hkl⟩ : ∃ kk : Nat, (N.tmod L.length + L.length).tmod L.length = kk ∧ kk < L.length := by
            have h1 := Int.tmod_lt_of_pos (N.tmod L.length + L.length) (show (0 : Int) < L.length by omega)
            have h2 := Int.tmod_nonneg (a := N.tmod L.length + L.length) (L.length : Int) (by omega)
            exact ⟨((N.tmod L.length + L.length).tmod L.length).toNat, by omega, by omega⟩
          obtain ⟨x, hx⟩ : ∃ x, N.tmod L.length = x := ⟨_, rfl⟩
          rw [hx] at hxb hkk
          have hw1 : IntKind.i64.wrap (x + L.length) = x + L.length := IntWalk.i64_in _ (by omega)
          refine wp_region_held_drew (S := (fun w' => Gr w3 w' ∧ TabIs w' b L)) (by kernel_rfl) ?inva (fun h0 => ?_)
          case inva => ((try dsimp only); (first | exact HS0 | exact HX.out _ _ ((Gr.refl _).drew) HS0))
          refine wpAnyH_take (i := 0) (oi := { dst := some 62, op := Go.Op.move (.tmp 2), type := 3, pos := "top03.go:23", after := #[], guard := none }) (v := ?va0) rfl (by kernel_rfl) (by kernel_rfl) (by kernel_rfl) (fun _ _ _ h => h) (Or.inl ⟨by rfl, ?ra0⟩) (by assumption) ?_
          case ra0 => (intro w hSw; (try dsimp only at hSw); (go_simp <;> with_reducible rfl))
          try simp only [Act.put, List.setIfInBounds_toArray, List.set_cons_zero, List.set_cons_succ]
          refine wpAnyH_take (i := 1) (oi := { dst := some 63, op := Go.Op.move (.tmp 11), type := 52, pos := "top03.go:23", after := #[], guard := none }) (v := ?va1) rfl (by kernel_rfl) (by kernel_rfl) (by kernel_rfl) (fun _ _ _ h => h) (Or.inl ⟨by rfl, ?ra1⟩) (by assumption) ?_
          case ra1 => (intro w hSw; (try dsimp only at hSw); (go_simp <;> with_reducible rfl))
          try simp only [Act.put, List.setIfInBounds_toArray, List.set_cons_zero, List.set_cons_succ]
          refine wpAnyH_take (i := 4) (oi := { dst := some 66, op := Go.Op.move (.tmp 11), type := 52, pos := "top03.go:23", after := #[], guard := none }) (v := ?va4) rfl (by kernel_rfl) (by kernel_rfl) (by kernel_rfl) (fun _ _ _ h => h) (Or.inl ⟨by rfl, ?ra4⟩) (by assumption) ?_
          case ra4 => (intro w hSw; (try dsimp only at hSw); (go_simp <;> with_reducible rfl))
          try simp only [Act.put, List.setIfInBounds_toArray, List.set_cons_zero, List.set_cons_succ]
          refine wpAnyH_take (i := 7) (oi := { dst := some 69, op := Go.Op.move (.tmp 11), type := 52, pos := "top03.go:23", after := #[], guard := none }) (v := ?va7) rfl (by kernel_rfl) (by kernel_rfl) (by kernel_rfl) (fun _ _ _ h => h) (Or.inl ⟨by rfl, ?ra7⟩) (by assumption) ?_
          case ra7 => (intro w hSw; (try dsimp only at hSw); (go_simp <;> with_reducible rfl))
          try simp only [Act.put, List.setIfInBounds_toArray, List.set_cons_zero, List.set_cons_succ]
          refine wpAnyH_ready (rs := [2]) (by kernel_rfl) (by simp) ?_
          refine AllReadyH.cons (o := { dst := some 64, op := Go.Op.call { callee := Go.Callee.value (.func 34), args := #[.tmp 63], argTypes := #[52] }, type := 3, pos := "top03.go:23", after := #[{ on := 1, ground := .data }], guard := none }) rfl (fun K hK => ?_) AllReadyH.nil
          go_simp
          (go_at_call 34; refine (LE.out _ h0.2).mono ?_; rintro e w9 ⟨rfl, rfl⟩)
          first | refine hK.out _ _ ?sa1 (fun h1 => ?_) | (go_wp2_with fail; refine hK.out _ _ ?sa1 (fun h1 => ?_))
          case sa1 => ((try dsimp only); exact h0)
          clear hK K h0
          try simp only [Act.put, List.setIfInBounds_toArray, List.set_cons_zero, List.set_cons_succ]
          refine wpAnyH_take (i := 3) (oi := { dst := some 65, op := Go.Op.binOp Go.BinOp.rem 3 (.tmp 62) (.tmp 64) 3, type := 3, pos := "top03.go:23", after := #[{ on := 0, ground := .data }, { on := 2, ground := .data }], guard := none }) (v := .int .i64 x) rfl (by kernel_rfl) (by kernel_rfl) (by kernel_rfl) (fun _ _ _ h => h) (Or.inl ⟨by rfl, ?ra3⟩) (by assumption) ?_
          case ra3 => (intro w hSw; (try dsimp only at hSw); go_simp; (first | done | rfl | (rw [if_neg hLne])))
          try simp only [Act.put, List.setIfInBounds_toArray, List.set_cons_zero, List.set_cons_succ]
          refine wpAnyH_ready (rs := [5]) (by kernel_rfl) (by simp) ?_
          refine AllReadyH.cons (o := { dst := some 67, op := Go.Op.call { callee := Go.Callee.value (.func 34), args := #[.tmp 66], argTypes := #[52] }, type := 3, pos := "top03.go:23", after := #[{ on := 4, ground := .data }, { on := 2, ground := .chain }], guard := none }) rfl (fun K hK => ?_) AllReadyH.nil
          go_simp
          (go_at_call 34; refine (LE.out _ h1.2).mono ?_; rintro e w9 ⟨rfl, rfl⟩)
          first | refine hK.out _ _ ?sa2 (fun h2 => ?_) | (go_wp2_with fail; refine hK.out _ _ ?sa2 (fun h2 => ?_))
          case sa2 => ((try dsimp only); exact h1)
          clear hK K h1
          try simp only [Act.put, List.setIfInBounds_toArray, List.set_cons_zero, List.set_cons_succ]
          refine wpAnyH_take (i := 6) (oi := { dst := some 68, op := Go.Op.binOp Go.BinOp.add 3 (.tmp 65) (.tmp 67) 3, type := 3, pos := "top03.go:23", after := #[{ on := 3, ground := .data }, { on := 5, ground := .data }], guard := none }) (v := ?va6) rfl (by kernel_rfl) (by kernel_rfl) (by kernel_rfl) (fun _ _ _ h => h) (Or.inl ⟨by rfl, ?ra6⟩) (by assumption) ?_
          case ra6 => (intro w hSw; (try dsimp only at hSw); (go_simp <;> with_reducible rfl))
          try simp only [Act.put, List.setIfInBounds_toArray, List.set_cons_zero, List.set_cons_succ]
          refine wpAnyH_ready (rs := [8]) (by kernel_rfl) (by simp) ?_
          refine AllReadyH.cons (o := { dst := some 70, op := Go.Op.call { callee := Go.Callee.value (.func 34), args := #[.tmp 69], argTypes := #[52] }, type := 3, pos := "top03.go:23", after := #[{ on := 7, ground := .data }, { on := 5, ground := .chain }], guard := none }) rfl (fun K hK => ?_) AllReadyH.nil
          go_simp
          (go_at_call 34; refine (LE.out _ h2.2).mono ?_; rintro e w9 ⟨rfl, rfl⟩)
          first | refine hK.out _ _ ?sa3 (fun h3 => ?_) | (go_wp2_with fail; refine hK.out _ _ ?sa3 (fun h3 => ?_))
          case sa3 => ((try dsimp only); exact h2)
          clear hK K h2
          try simp only [Act.put, List.setIfInBounds_toArray, List.set_cons_zero, List.set_cons_succ]
          refine wpAnyH_take (i := 9) (oi := { dst := some 71, op := Go.Op.binOp Go.BinOp.rem 3 (.tmp 68) (.tmp 70) 3, type := 3, pos := "top03.go:23", after := #[{ on := 6, ground := .data }, { on := 8, ground := .data }], guard := none }) (v := .int .i64 (kk : Nat)) rfl (by kernel_rfl) (by kernel_rfl) (by kernel_rfl) (fun _ _ _ h => h) (Or.inl ⟨by rfl, ?ra9⟩) (by assumption) ?_
          case ra9 => (intro w hSw; (try dsimp only at hSw); go_simp; (first | done | rfl | (rw [if_neg hLne])))
          try simp only [Act.put, List.setIfInBounds_toArray, List.set_cons_zero, List.set_cons_succ]
          refine wpAnyH_take (i := 10) (oi := { dst := some 2, op := Go.Op.assign (.tmp 71), type := 3, pos := "top03.go:23", after := #[{ on := 9, ground := .data }, { on := 8, ground := .chain }, { on := 0, ground := .phase }, { on := 1, ground := .phase }, { on := 2, ground := .phase }, { on := 3, ground := .phase }, { on := 4, ground := .phase }, { on := 5, ground := .phase }, { on := 6, ground := .phase }, { on := 7, ground := .phase }, { on := 8, ground := .phase }, { on := 9, ground := .phase }], guard := none }) (v := ?va10) rfl (by kernel_rfl) (by kernel_rfl) (by kernel_rfl) (fun _ _ _ h => h) (Or.inl ⟨by rfl, ?ra10⟩) (by assumption) ?_
          case ra10 => (intro w hSw; (try dsimp only at hSw); (go_simp <;> with_reducible rfl))
          try simp only [Act.put, List.setIfInBounds_toArray, List.set_cons_zero, List.set_cons_succ]
          refine wpAnyH_done (by kernel_rfl) ?_ _
          have HGd := Lib.hid HG3.out.drew
          have HTd := Lib.hid (HT3.out.gr ((Gr.refl _).drew))
          clear HS0 HX LE
          generalize w3.drew = w5 at *
          have PR := Lib.hid (fun w hh => prefix_any b L (kk : Nat) w hh hL4)
          rw [show prefixOf L (kk : Nat) = L[kk] by unfold prefixOf; rw [if_neg (by omega)]; simp [List.getD_eq_getElem?_getD, hkl]] at PR
          have FD := Lib.hid (fun q w (hh : TabIs w b L) (h2 : okParts q = true) h3 => find_any b L q w hh h2 h3 hL4)
          have HLok := Lib.hid (show okParts L[kk] = true from HTd.out.choose_spec.choose_spec.2.2 _ (List.getElem_mem hkl))
          have ABOVE := Lib.hid (fun q hq hne => find_above hcl hkl (q := q) hq hne)
          have BELOW := Lib.hid (fun p hp => find_below hcl hkl (p := p) hp)
          generalize L[kk] = M at *
          go_wp2_with fail
          refine (PR.out _ HTd.out).mono ?_
          rintro e w6 ⟨rfl, hg6⟩
          have HG6 := Lib.hid (HGd.out.trans hg6)
          have HT6 := Lib.hid (HTd.out.gr hg6)
          clear hg6 hw1 hkk hx hxb
          obtain ⟨t, ht⟩ : ∃ t, ptext M = t := ⟨_, rfl⟩
          have HTX := Lib.hid ht
          rw [ht] at PR
          rw [ht]
          clear ht
          obtain ⟨w7, hw7⟩ : ∃ w7, w7 = w6.alloc (.cells #[.string t] 24) := ⟨_, rfl⟩
          have HG67 := Lib.hid (show Gr w6 w7 by rw [hw7]; exact (Gr.refl _).alloc _)
          have P7 := Lib.hid (show w7.cell? ⟨w6.heap.size, 0, none⟩ = some (.string t) by rw [hw7]; exact new_cell rfl rfl)
          have F7 := Lib.hid (show w7.frozen? ⟨w6.heap.size, 0, none⟩ = false by rw [hw7]; exact new_free rfl)
          have HS7 := Lib.hid (show w7.heap.size = w6.heap.size + 1 by rw [hw7]; simp)
          have p7 : (w6.alloc (.cells #[.string t] 24)).cell? ⟨w6.heap.size, 0, none⟩ = some (.string t) := new_cell rfl rfl
          go_wp2
          rw [← hw7]
          rw [← hw7] at p7
          have q8 : (w7.alloc (.cells #[.string t] 24)).cell? ⟨w7.heap.size, 0, none⟩ = some (.string t) := new_cell rfl rfl
          have f8 : (w7.alloc (.cells #[.string t] 24)).frozen? ⟨w7.heap.size, 0, none⟩ = false := new_free rfl
          clear hw7 p7
          go_loopw [14] (fun v wr => ∃ (Q : List ByteArray) (u : ByteArray) (qb : Nat), v = .pointer (some ⟨qb, 0, none⟩) ∧ Hid (Q <+: M) ∧ Hid (ptext Q = u) ∧ wr.cell? ⟨qb, 0, none⟩ = some (.string u) ∧ wr.frozen? ⟨qb, 0, none⟩ = false ∧ Hid (Gr w7 wr) ∧ Hid (w7.heap.size ≤ qb)) (fun v wr => qSize v wr)
          case atStart => exact ⟨M, t, w7.heap.size, by first | rfl | (simp [HS7.out]), Lib.hid (List.prefix_refl _), HTX, q8, f8, Lib.hid ((Gr.refl _).alloc _), Lib.hid (Nat.le_refl _)⟩
          case round =>
            obtain ⟨Q, u, qb, rfl, hQ, hu, c0, f0, hG9, hqb⟩ := hrel
            clear q8 f8
            have C0 := Lib.hid c0
            have hok := pre_ok hQ.out HLok.out
            have D := Lib.hid (fun w => depth_any Q w hok)
            have U := Lib.hid (fun w => up_any Q w hok)
            have hlt9 := cell_lt c0
            have hQ6 : Q.length ≤ 6 := by simp only [okParts, Bool.and_eq_true, decide_eq_true_eq] at hok; exact hok.1
            rw [hu.out] at D U
            by_cases hQ0 : Q = []
            · have hq0 : Q.length = 0 := by rw [hQ0]; rfl
              rw [hq0] at D
              clear hQ0 hok hq0 hQ6 C0
              go_wp2_with fail
              refine (D.out _).mono ?_
              rintro e w9 ⟨rfl, hg9⟩
              have HG9 := Lib.hid (hG9.out.trans hg9)
              clear hg9 c0 f0 D U hu hQ hG9 hqb hlt9
              have p9 := HG9.out.cell P7.out
              have f9 := (HG9.out.frozen (o := 0) (cell_lt P7.out)).trans F7.out
              have G69 := Lib.hid (HG67.out.trans HG9.out)
              clear P7 F7 HG67
              go_wp2
              go_loopw [17] (fun v wr => ∃ (j : Nat) (P : List ByteArray) (u : ByteArray), v = .int .i64 (j : Nat) ∧ j ≤ tt.length ∧ j ≤ 6 ∧ Hid (M <+: P) ∧ Hid (okParts P = true) ∧ Hid (ptext P = u) ∧ wr.cell? ⟨w6.heap.size, 0, none⟩ = some (.string u) ∧ wr.frozen? ⟨w6.heap.size, 0, none⟩ = false ∧ Hid (Gr w6 wr)) (fun v _ => tt.length - (intOf v).toNat)
              case atStart => exact ⟨0, M, t, rfl, by omega, by omega, Lib.hid (List.prefix_refl _), HLok, HTX, p9, f9, G69⟩
              case round =>
                obtain ⟨j, P, u, rfl, hj, hj6, hpre, hok, hu, pz, fz, hGz⟩ := hrel
                clear p9 f9 G69 HG9
                rename World => wz
                by_cases hend3 : j < tt.length ∧ j < 6
                · obtain ⟨hlt3, h63⟩ := hend3
                  obtain ⟨b2, off2, ea, hb2, hcell, hs63⟩ := HS'.out.at j hlt3
                  subst ea
                  replace hcell := hGz.out.cell (HG6.out.cell hcell)
                  have HMz := Lib.hid (HM.out.gr (HG6.out.trans hGz.out))
                  have HEz := Lib.hid (HE.out.gr (HG6.out.trans hGz.out))
                  have PO := Lib.hid (fun w hm => parts2_any P w hok.out hm)
                  rw [hu.out] at PO
                  have hP6 : P.length ≤ 6 := by
                    have h2 := hok.out
                    simp only [okParts, Bool.and_eq_true, decide_eq_true_eq] at h2; exact h2.1
                  have HZ0 := Lib.hid (okParts_strs hok.out)
                  obtain ⟨s, hs⟩ : ∃ s, tt[j] = s := ⟨_, rfl⟩
                  rw [hs] at hcell hs63
                  clear hs
                  obtain ⟨PP, hpp⟩ : ∃ PP, PP = P ++ [s] := ⟨_, rfl⟩
                  have HPL := Lib.hid (show PP.length = P.length + 1 by rw [hpp]; simp)
                  have HPRE := Lib.hid (show M <+: PP by rw [hpp]; exact hpre.out.trans (List.prefix_append _ _))
                  have HZ := Lib.hid (show ∀ x ∈ PP, x.size ≤ 9223372036854775807 by
                    rw [hpp]; intro x hx
                    rcases List.mem_append.1 hx with h | h
                    · exact HZ0.out.1 _ h
                    · simp at h; subst h; exact hs63)
                  have hPP := Lib.hid hpp
                  clear hpp HZ0 hs63 hb2
                  have HX : Hid (∀ w9, Gr wz w9 → Gr wz w9 ∧ w9.cell? ⟨w6.heap.size, 0, none⟩ = some (.string u) ∧ w9.cell? ⟨b2, off2 + j, none⟩ = some (.string s)) := Lib.hid fun w9 hg => ⟨hg, hg.cell pz, hg.cell hcell⟩
                  have FZ : Hid (∀ w9, Gr wz w9 → w9.frozen? ⟨w6.heap.size, 0, none⟩ = false) := Lib.hid fun w9 hg => (hg.frozen (o := 0) (cell_lt pz)).trans fz
                  go_wp2
                  refine wp_region_held_drew (S := (fun w' => Gr wz w' ∧ w'.cell? ⟨w6.heap.size, 0, none⟩ = some (.string u) ∧ w'.cell? ⟨b2, off2 + j, none⟩ = some (.string s))) (by kernel_rfl) (HX.out _ ((Gr.refl wz).drew)) (fun hh => ?_)
                  have HTn := Lib.hid ((Gr.refl wz).drew)
                  generalize wz.drew = w0 at *
                  refine wpAnyH_take (i := 0) (oi := { dst := some 105, op := Go.Op.load 24 (.tmp 13), type := 24, pos := "top03.go:32", after := #[], guard := none }) (v := .agg #[.string u]) rfl (by kernel_rfl) (by kernel_rfl) (by kernel_rfl) (fun _ _ _ h => h) (Or.inl ⟨by rfl, (fun w hSw => by (try dsimp only at hSw); obtain ⟨-, hc1, hc2⟩ := hSw; go_simp <;> (first | done | rfl))⟩) (by assumption) ?_
                  try simp only [Act.put, List.setIfInBounds_toArray, List.set_cons_zero, List.set_cons_succ]
                  refine wpAnyH_take (i := 2) (oi := { dst := some 107, op := Go.Op.move (.tmp 1), type := 29, pos := "top03.go:32", after := #[], guard := none }) (v := .slice (some ⟨b2, off2, none⟩) tt.length c') rfl (by kernel_rfl) (by kernel_rfl) (by kernel_rfl) (fun _ _ _ h => h) (Or.inl ⟨by rfl, (fun w hSw => by (try dsimp only at hSw); obtain ⟨-, hc1, hc2⟩ := hSw; go_simp <;> (first | done | rfl))⟩) (by assumption) ?_
                  try simp only [Act.put, List.setIfInBounds_toArray, List.set_cons_zero, List.set_cons_succ]
                  refine wpAnyH_take (i := 3) (oi := { dst := some 108, op := Go.Op.move (.tmp 17), type := 3, pos := "top03.go:32", after := #[], guard := none }) (v := .int .i64 (j : Nat)) rfl (by kernel_rfl) (by kernel_rfl) (by kernel_rfl) (fun _ _ _ h => h) (Or.inl ⟨by rfl, (fun w hSw => by (try dsimp only at hSw); obtain ⟨-, hc1, hc2⟩ := hSw; go_simp <;> (first | done | rfl))⟩) (by assumption) ?_
                  try simp only [Act.put, List.setIfInBounds_toArray, List.set_cons_zero, List.set_cons_succ]
                  refine wpAnyH_take (i := 4) (oi := { dst := some 109, op := Go.Op.indexAddr 29 (.tmp 107) (.tmp 108), type := 0, pos := "top03.go:32", after := #[{ on := 2, ground := .data }, { on := 3, ground := .data }], guard := none }) (v := .pointer (some ⟨b2, off2 + j, none⟩)) rfl (by kernel_rfl) (by kernel_rfl) (by kernel_rfl) (fun _ _ _ h => h) (Or.inl ⟨by rfl, (fun w hSw => by (try dsimp only at hSw); obtain ⟨-, hc1, hc2⟩ := hSw; go_simp <;> (first | done | rfl))⟩) (by assumption) ?_
                  try simp only [Act.put, List.setIfInBounds_toArray, List.set_cons_zero, List.set_cons_succ]
                  refine wpAnyH_take (i := 5) (oi := { dst := some 110, op := Go.Op.load 9 (.tmp 109), type := 9, pos := "top03.go:32", after := #[{ on := 4, ground := .data }], guard := none }) (v := .string s) rfl (by kernel_rfl) (by kernel_rfl) (by kernel_rfl) (fun _ _ _ h => h) (Or.inl ⟨by rfl, (fun w hSw => by (try dsimp only at hSw); obtain ⟨-, hc1, hc2⟩ := hSw; go_simp <;> (first | done | rfl))⟩) (by assumption) ?_
                  try simp only [Act.put, List.setIfInBounds_toArray, List.set_cons_zero, List.set_cons_succ]
                  refine wpAnyH_ready (rs := [1, 6, 12]) (by kernel_rfl) (by simp) ?_
                  refine AllReadyH.cons (o := { dst := some 106, op := Go.Op.call { callee := Go.Callee.value (.func 18), args := #[.tmp 105], argTypes := #[24] }, type := 29, pos := "top03.go:32", after := #[{ on := 0, ground := .data }], guard := none }) rfl (fun K hK => ?_) (AllReadyH.cons (o := { dst := some 111, op := Go.Op.buildSlice 29 1 #[(0, .tmp 110)], type := 29, pos := "top03.go:32", after := #[{ on := 5, ground := .data }], guard := none }) rfl (fun K hK => ?_) (AllReadyH.cons (o := { dst := some 18, op := Go.Op.alloc 24, type := 0, pos := "top03.go:32", after := #[], guard := none }) rfl (fun K hK => ?_) AllReadyH.nil))
                  · skip
                    go_simp
                    go_at_call 18; refine (PO.out _ (HMz.out.gr HTn.out)).mono ?_
                    rintro e w1_5 ⟨pa, pc, rfl, own, gx⟩
                    have g1_5 := Lib.hid (HTn.out.trans gx)
                    replace own := World.ownsRow.mono own HTn.out.size
                    clear gx
                    first | refine hK.out _ _ (HX.out _ g1_5.out) (fun hh => ?_) | (go_wp2_with fail; refine hK.out _ _ (HX.out _ g1_5.out) (fun hh => ?_))
                    clear hK K
                    try simp only [Act.put, List.setIfInBounds_toArray, List.set_cons_zero, List.set_cons_succ]
                    refine wpAnyH_ready (rs := [6, 12]) (by kernel_rfl) (by simp) ?_
                    refine AllReadyH.cons (o := { dst := some 111, op := Go.Op.buildSlice 29 1 #[(0, .tmp 110)], type := 29, pos := "top03.go:32", after := #[{ on := 5, ground := .data }], guard := none }) rfl (fun K hK => ?_) (AllReadyH.cons (o := { dst := some 18, op := Go.Op.alloc 24, type := 0, pos := "top03.go:32", after := #[], guard := none }) rfl (fun K hK => ?_) AllReadyH.nil)
                    · skip
                      go_simp
                      obtain ⟨w6_6, hw⟩ : ∃ wn, wn = w1_5.alloc (.cells #[.string s] 9) := ⟨_, rfl⟩
                      rw [← hw]
                      have gx : Gr w1_5 w6_6 := by rw [hw]; exact (Gr.refl _).alloc _
                      have el : w6_6.cell? ⟨w1_5.heap.size, 0, none⟩ = some (.string s) := by rw [hw]; exact new_cell rfl rfl
                      have g6_6 := Lib.hid (g1_5.out.trans gx)
                      replace own := ownsRow_gr gx own
                      clear gx hw
                      refine hK.out _ _ (HX.out _ g6_6.out) (fun hh => ?_)
                      clear hK K
                      try simp only [Act.put, List.setIfInBounds_toArray, List.set_cons_zero, List.set_cons_succ]
                      refine wpAnyH_ready (rs := [7, 12]) (by kernel_rfl) (by simp) ?_
                      refine AllReadyH.cons (o := { dst := some 112, op := Go.Op.call { callee := Go.Callee.builtin Go.Builtin.append, args := #[.tmp 106, .tmp 111], argTypes := #[29, 29] }, type := 29, pos := "top03.go:32", after := #[{ on := 1, ground := .data }, { on := 6, ground := .data }, { on := 1, ground := .chain }], guard := none }) rfl (fun K hK => ?_) (AllReadyH.cons (o := { dst := some 18, op := Go.Op.alloc 24, type := 0, pos := "top03.go:32", after := #[], guard := none }) rfl (fun K hK => ?_) AllReadyH.nil)
                      · skip
                        refine step_append_lies _ (by rfl) _ _ _ (by rfl) wz.heap.size 9 i0 (.string ⟨#[]⟩) 1 16 Tryd.underlying29 hi hz0 hz1 hz2 rfl (by decide) (.slice pa P.length pc) P.length (strCells P) (by rfl) own ⟨w1_5.heap.size, 0, none⟩ 1 1 [.string s] (by rfl) (by rfl) (one_cell el) (by intro u' hu'; simp at hu'; subst hu'; rfl) (by omega) (by unfold maxLen; omega) (by omega) g6_6.out.size w6_6.heap.size (by rfl) ?_
                        intro ga ca w7_7 own7 hgrow _ _
                        have g7_7 := Lib.hid (g6_6.out.append own hgrow)
                        have own8 : w7_7.ownsRow wz.heap.size 9 1 (.slice (some ⟨ga, 0, none⟩) (P.length + 1) ca) PP.length (strCells PP) := by rw [hPP.out]; simpa [strCells] using own7
                        obtain ⟨af, cf, hv, hst⟩ := strs_of_row own8 HZ.out (by have := HPL.out; omega)
                        rw [hv]
                        clear hv own8 own7 hgrow own el
                        refine hK.out _ _ (HX.out _ g7_7.out) (fun hh => ?_)
                        clear hK K
                        try simp only [Act.put, List.setIfInBounds_toArray, List.set_cons_zero, List.set_cons_succ]
                        refine wpAnyH_ready (rs := [8, 12]) (by kernel_rfl) (by simp) ?_
                        refine AllReadyH.cons (o := { dst := some 113, op := Go.Op.call { callee := Go.Callee.value (.func 20), args := #[.tmp 112], argTypes := #[29] }, type := 27, pos := "top03.go:32", after := #[{ on := 7, ground := .data }, { on := 7, ground := .chain }], guard := none }) rfl (fun K hK => ?_) (AllReadyH.cons (o := { dst := some 18, op := Go.Op.alloc 24, type := 0, pos := "top03.go:32", after := #[], guard := none }) rfl (fun K hK => ?_) AllReadyH.nil)
                        · skip
                          go_simp
                          go_at_call 20
                          refine (made_any af PP cf w7_7 hst (HEz.out.gr g7_7.out)).mono ?_
                          intro e w8_8 hmade
                          obtain ⟨tq, vq, rfl, hV, gx⟩ := made_is hmade
                          have g8_8 := Lib.hid (g7_7.out.trans gx)
                          clear gx hst hmade
                          first | refine hK.out _ _ (HX.out _ g8_8.out) (fun hh => ?_) | (go_wp2_with fail; refine hK.out _ _ (HX.out _ g8_8.out) (fun hh => ?_))
                          clear hK K
                          try simp only [Act.put, List.setIfInBounds_toArray, List.set_cons_zero, List.set_cons_succ]
                          refine wpAnyH_take (i := 9) (oi := { dst := some 104, op := Go.Op.move (.tmp 113), type := 27, pos := "top03.go:32", after := #[{ on := 8, ground := .data }], guard := none }) (v := .tuple #[.agg #[.string tq], vq]) rfl (by kernel_rfl) (by kernel_rfl) (by kernel_rfl) (fun _ _ _ h => h) (Or.inl ⟨by rfl, (fun w hSw => by (try dsimp only at hSw); obtain ⟨-, hc1, hc2⟩ := hSw; go_simp <;> (first | done | rfl))⟩) (by assumption) ?_
                          try simp only [Act.put, List.setIfInBounds_toArray, List.set_cons_zero, List.set_cons_succ]
                          refine wpAnyH_take (i := 10) (oi := { dst := some 114, op := Go.Op.extract (.tmp 104) 0, type := 24, pos := "top03.go:32", after := #[{ on := 9, ground := .data }], guard := none }) (v := .agg #[.string tq]) rfl (by kernel_rfl) (by kernel_rfl) (by kernel_rfl) (fun _ _ _ h => h) (Or.inl ⟨by rfl, (fun w hSw => by (try dsimp only at hSw); obtain ⟨-, hc1, hc2⟩ := hSw; go_simp <;> (first | done | rfl))⟩) (by assumption) ?_
                          try simp only [Act.put, List.setIfInBounds_toArray, List.set_cons_zero, List.set_cons_succ]
                          refine wpAnyH_take (i := 11) (oi := { dst := some 115, op := Go.Op.extract (.tmp 104) 1, type := 26, pos := "top03.go:32", after := #[{ on := 9, ground := .data }, { on := 13, ground := .gcOnly Go.Departure.lateStores }], guard := none }) (v := vq) rfl (by kernel_rfl) (by kernel_rfl) (by kernel_rfl) (fun _ _ _ h => h) (Or.inl ⟨by rfl, (fun w hSw => by (try dsimp only at hSw); obtain ⟨-, hc1, hc2⟩ := hSw; go_simp <;> (first | done | rfl))⟩) (by assumption) ?_
                          try simp only [Act.put, List.setIfInBounds_toArray, List.set_cons_zero, List.set_cons_succ]
                          refine wpAnyH_ready (rs := [12]) (by kernel_rfl) (by simp) ?_
                          refine AllReadyH.cons (o := { dst := some 18, op := Go.Op.alloc 24, type := 0, pos := "top03.go:32", after := #[], guard := none }) rfl (fun K hK => ?_) AllReadyH.nil
                          · skip
                            go_simp
                            obtain ⟨w12_12, hw⟩ : ∃ wn, wn = w8_8.alloc (.cells #[.string ⟨#[]⟩] 24) := ⟨_, rfl⟩
                            rw [← hw]
                            have gx : Gr w8_8 w12_12 := by rw [hw]; exact (Gr.refl _).alloc _
                            have al : w12_12.cell? ⟨w8_8.heap.size, 0, none⟩ = some (.string ⟨#[]⟩) := by rw [hw]; exact new_cell rfl rfl
                            have fl : w12_12.frozen? ⟨w8_8.heap.size, 0, none⟩ = false := by rw [hw]; exact new_free rfl
                            have hnb : wz.heap.size ≤ w8_8.heap.size := g8_8.out.size
                            have g12_12 := Lib.hid (g8_8.out.trans gx)
                            clear gx hw
                            refine hK.out _ _ (HX.out _ g12_12.out) (fun hh => ?_)
                            clear hK K
                            try simp only [Act.put, List.setIfInBounds_toArray, List.set_cons_zero, List.set_cons_succ]
                            refine wpAnyH_ready (rs := [13]) (by kernel_rfl) (by simp) ?_
                            refine AllReadyH.cons (o := { dst := none, op := Go.Op.store 24 (.tmp 18) (.tmp 114), type := 0, pos := "top03.go:32", after := #[{ on := 12, ground := .data }, { on := 10, ground := .data }, { on := 8, ground := .chain }, { on := 0, ground := .phase }, { on := 1, ground := .phase }, { on := 2, ground := .phase }, { on := 3, ground := .phase }, { on := 4, ground := .phase }, { on := 5, ground := .phase }, { on := 6, ground := .phase }, { on := 7, ground := .phase }, { on := 8, ground := .phase }, { on := 9, ground := .phase }, { on := 10, ground := .phase }, { on := 11, ground := .textOnly Go.Departure.lateStores }, { on := 12, ground := .phase }], guard := none }) rfl (fun K hK => ?_) AllReadyH.nil
                            · skip
                              go_simp
                              obtain ⟨w13_13, hw⟩ : ∃ wn, wn = w12_12.setCell ⟨w8_8.heap.size, 0, none⟩ (.string tq) := ⟨_, rfl⟩
                              rw [← hw]
                              have cq : w13_13.cell? ⟨w8_8.heap.size, 0, none⟩ = some (.string tq) := by rw [hw]; exact World.cell?_setCell_same' _ _ _ (by rw [al]; rfl)
                              have g13_13 : Hid (Gr wz w13_13) := Lib.hid (by rw [hw]; exact g12_12.out.setCell hnb _)
                              clear al fl hw
                              refine hK.out _ _ (HX.out _ g13_13.out) (fun hh => ?_)
                              clear hK K
                              try simp only [Act.put, List.setIfInBounds_toArray, List.set_cons_zero, List.set_cons_succ]
                              refine wpAnyH_take (i := 14) (oi := { dst := some 19, op := Go.Op.assign (.tmp 115), type := 26, pos := "top03.go:32", after := #[{ on := 11, ground := .data }, { on := 13, ground := .chain }, { on := 0, ground := .phase }, { on := 1, ground := .phase }, { on := 2, ground := .phase }, { on := 3, ground := .phase }, { on := 4, ground := .phase }, { on := 5, ground := .phase }, { on := 6, ground := .phase }, { on := 7, ground := .phase }, { on := 8, ground := .phase }, { on := 9, ground := .phase }, { on := 10, ground := .phase }, { on := 11, ground := .phase }, { on := 12, ground := .phase }, { on := 13, ground := .phase }], guard := none }) (v := vq) rfl (by kernel_rfl) (by kernel_rfl) (by kernel_rfl) (fun _ _ _ h => h) (Or.inl ⟨by rfl, (fun w hSw => by (try dsimp only at hSw); obtain ⟨-, hc1, hc2⟩ := hSw; go_simp <;> (first | done | rfl))⟩) (by assumption) ?_
                              try simp only [Act.put, List.setIfInBounds_toArray, List.set_cons_zero, List.set_cons_succ]
                              refine wpAnyH_done (by kernel_rfl) ?_ _
                              have pl := g13_13.out.cell pz
                              have fl9 := FZ.out _ g13_13.out
                              have G39 := Lib.hid (hGz.out.trans g13_13.out)
                              clear HX FZ hh pz hcell fz PO HMz HEz HZ hPP HPL hnb
                              rcases hV.out with ⟨ho, ht, hv⟩ | ⟨ho, bb, hv⟩
                              · subst hv
                                have GS := Lib.hid (G39.out.setCell (Nat.le_refl _) (.string tq) : Gr w6 (w13_13.setCell ⟨w6.heap.size, 0, none⟩ (.string tq)))
                                have ps : (w13_13.setCell ⟨w6.heap.size, 0, none⟩ (.string tq)).cell? ⟨w6.heap.size, 0, none⟩ = some (.string tq) := World.cell?_setCell_same' _ _ _ (by rw [pl]; rfl)
                                have fs : (w13_13.setCell ⟨w6.heap.size, 0, none⟩ (.string tq)).frozen? ⟨w6.heap.size, 0, none⟩ = false := by rw [World.frozen?_setCell]; exact fl9
                                have FQ := Lib.hid (fun w hh h3 => FD.out PP w hh ho h3)
                                rw [BELOW.out PP HPRE.out, ← ht] at FQ
                                have HO := Lib.hid ho
                                have HTQ := Lib.hid ht.symm
                                clear ho ht hV
                                go_wp2_with fail
                                refine (FQ.out _ (HT6.out.gr GS.out) (HE.out.gr (HG6.out.trans GS.out))).mono ?_
                                intro e w40 h40
                                obtain ⟨rfl, hg40⟩ := findIs_yes (by omega) h40
                                have ps2 := hg40.cell ps
                                have fs2 := (hg40.frozen (o := 0) (cell_lt ps)).trans fs
                                have G40 := Lib.hid (GS.out.trans hg40)
                                clear h40 hg40 ps fs pl fl9 cq
                                go_wp2
                                go_roundw
                                case rel => exact ⟨j + 1, PP, tq, by go_num, by omega, by omega, HPRE, HO, HTQ, ps2, fs2, G40⟩
                                case measure => simp [intOf]; omega
                              · subst hv
                                clear hV ho cq
                                go_wp2
                                go_roundw
                                case rel => exact ⟨j + 1, P, u, by go_num, by omega, by omega, hpre, hok, hu, pl, fl9, G39⟩
                                case measure => simp [intOf]; omega
                        · skip
                          go_simp
                          obtain ⟨w12_8, hw⟩ : ∃ wn, wn = w7_7.alloc (.cells #[.string ⟨#[]⟩] 24) := ⟨_, rfl⟩
                          rw [← hw]
                          have gx : Gr w7_7 w12_8 := by rw [hw]; exact (Gr.refl _).alloc _
                          have al : w12_8.cell? ⟨w7_7.heap.size, 0, none⟩ = some (.string ⟨#[]⟩) := by rw [hw]; exact new_cell rfl rfl
                          have fl : w12_8.frozen? ⟨w7_7.heap.size, 0, none⟩ = false := by rw [hw]; exact new_free rfl
                          have hnb : wz.heap.size ≤ w7_7.heap.size := g7_7.out.size
                          have g12_8 := Lib.hid (g7_7.out.trans gx)
                          replace hst := hst.gr gx
                          clear gx hw
                          refine hK.out _ _ (HX.out _ g12_8.out) (fun hh => ?_)
                          clear hK K
                          try simp only [Act.put, List.setIfInBounds_toArray, List.set_cons_zero, List.set_cons_succ]
                          refine wpAnyH_ready (rs := [8]) (by kernel_rfl) (by simp) ?_
                          refine AllReadyH.cons (o := { dst := some 113, op := Go.Op.call { callee := Go.Callee.value (.func 20), args := #[.tmp 112], argTypes := #[29] }, type := 27, pos := "top03.go:32", after := #[{ on := 7, ground := .data }, { on := 7, ground := .chain }], guard := none }) rfl (fun K hK => ?_) AllReadyH.nil
                          · skip
                            go_simp
                            go_at_call 20
                            refine (made_any af PP cf w12_8 hst (HEz.out.gr g12_8.out)).mono ?_
                            intro e w8_9 hmade
                            obtain ⟨tq, vq, rfl, hV, gx⟩ := made_is hmade
                            have g8_9 := Lib.hid (g12_8.out.trans gx)
                            replace fl := (gx.frozen (o := 0) (cell_lt al)).trans fl
                            replace al := gx.cell al
                            clear gx hst hmade
                            first | refine hK.out _ _ (HX.out _ g8_9.out) (fun hh => ?_) | (go_wp2_with fail; refine hK.out _ _ (HX.out _ g8_9.out) (fun hh => ?_))
                            clear hK K
                            try simp only [Act.put, List.setIfInBounds_toArray, List.set_cons_zero, List.set_cons_succ]
                            refine wpAnyH_take (i := 9) (oi := { dst := some 104, op := Go.Op.move (.tmp 113), type := 27, pos := "top03.go:32", after := #[{ on := 8, ground := .data }], guard := none }) (v := .tuple #[.agg #[.string tq], vq]) rfl (by kernel_rfl) (by kernel_rfl) (by kernel_rfl) (fun _ _ _ h => h) (Or.inl ⟨by rfl, (fun w hSw => by (try dsimp only at hSw); obtain ⟨-, hc1, hc2⟩ := hSw; go_simp <;> (first | done | rfl))⟩) (by assumption) ?_
                            try simp only [Act.put, List.setIfInBounds_toArray, List.set_cons_zero, List.set_cons_succ]
                            refine wpAnyH_take (i := 10) (oi := { dst := some 114, op := Go.Op.extract (.tmp 104) 0, type := 24, pos := "top03.go:32", after := #[{ on := 9, ground := .data }], guard := none }) (v := .agg #[.string tq]) rfl (by kernel_rfl) (by kernel_rfl) (by kernel_rfl) (fun _ _ _ h => h) (Or.inl ⟨by rfl, (fun w hSw => by (try dsimp only at hSw); obtain ⟨-, hc1, hc2⟩ := hSw; go_simp <;> (first | done | rfl))⟩) (by assumption) ?_
                            try simp only [Act.put, List.setIfInBounds_toArray, List.set_cons_zero, List.set_cons_succ]
                            refine wpAnyH_take (i := 11) (oi := { dst := some 115, op := Go.Op.extract (.tmp 104) 1, type := 26, pos := "top03.go:32", after := #[{ on := 9, ground := .data }, { on := 13, ground := .gcOnly Go.Departure.lateStores }], guard := none }) (v := vq) rfl (by kernel_rfl) (by kernel_rfl) (by kernel_rfl) (fun _ _ _ h => h) (Or.inl ⟨by rfl, (fun w hSw => by (try dsimp only at hSw); obtain ⟨-, hc1, hc2⟩ := hSw; go_simp <;> (first | done | rfl))⟩) (by assumption) ?_
                            try simp only [Act.put, List.setIfInBounds_toArray, List.set_cons_zero, List.set_cons_succ]
                            refine wpAnyH_ready (rs := [13]) (by kernel_rfl) (by simp) ?_
                            refine AllReadyH.cons (o := { dst := none, op := Go.Op.store 24 (.tmp 18) (.tmp 114), type := 0, pos := "top03.go:32", after := #[{ on := 12, ground := .data }, { on := 10, ground := .data }, { on := 8, ground := .chain }, { on := 0, ground := .phase }, { on := 1, ground := .phase }, { on := 2, ground := .phase }, { on := 3, ground := .phase }, { on := 4, ground := .phase }, { on := 5, ground := .phase }, { on := 6, ground := .phase }, { on := 7, ground := .phase }, { on := 8, ground := .phase }, { on := 9, ground := .phase }, { on := 10, ground := .phase }, { on := 11, ground := .textOnly Go.Departure.lateStores }, { on := 12, ground := .phase }], guard := none }) rfl (fun K hK => ?_) AllReadyH.nil
                            · skip
                              go_simp
                              obtain ⟨w13_13, hw⟩ : ∃ wn, wn = w8_9.setCell ⟨w7_7.heap.size, 0, none⟩ (.string tq) := ⟨_, rfl⟩
                              rw [← hw]
                              have cq : w13_13.cell? ⟨w7_7.heap.size, 0, none⟩ = some (.string tq) := by rw [hw]; exact World.cell?_setCell_same' _ _ _ (by rw [al]; rfl)
                              have g13_13 : Hid (Gr wz w13_13) := Lib.hid (by rw [hw]; exact g8_9.out.setCell hnb _)
                              clear al fl hw
                              refine hK.out _ _ (HX.out _ g13_13.out) (fun hh => ?_)
                              clear hK K
                              try simp only [Act.put, List.setIfInBounds_toArray, List.set_cons_zero, List.set_cons_succ]
                              refine wpAnyH_take (i := 14) (oi := { dst := some 19, op := Go.Op.assign (.tmp 115), type := 26, pos := "top03.go:32", after := #[{ on := 11, ground := .data }, { on := 13, ground := .chain }, { on := 0, ground := .phase }, { on := 1, ground := .phase }, { on := 2, ground := .phase }, { on := 3, ground := .phase }, { on := 4, ground := .phase }, { on := 5, ground := .phase }, { on := 6, ground := .phase }, { on := 7, ground := .phase }, { on := 8, ground := .phase }, { on := 9, ground := .phase }, { on := 10, ground := .phase }, { on := 11, ground := .phase }, { on := 12, ground := .phase }, { on := 13, ground := .phase }], guard := none }) (v := vq) rfl (by kernel_rfl) (by kernel_rfl) (by kernel_rfl) (fun _ _ _ h => h) (Or.inl ⟨by rfl, (fun w hSw => by (try dsimp only at hSw); obtain ⟨-, hc1, hc2⟩ := hSw; go_simp <;> (first | done | rfl))⟩) (by assumption) ?_
                              try simp only [Act.put, List.setIfInBounds_toArray, List.set_cons_zero, List.set_cons_succ]
                              refine wpAnyH_done (by kernel_rfl) ?_ _
                              have pl := g13_13.out.cell pz
                              have fl9 := FZ.out _ g13_13.out
                              have G39 := Lib.hid (hGz.out.trans g13_13.out)
                              clear HX FZ hh pz hcell fz PO HMz HEz HZ hPP HPL hnb
                              rcases hV.out with ⟨ho, ht, hv⟩ | ⟨ho, bb, hv⟩
                              · subst hv
                                have GS := Lib.hid (G39.out.setCell (Nat.le_refl _) (.string tq) : Gr w6 (w13_13.setCell ⟨w6.heap.size, 0, none⟩ (.string tq)))
                                have ps : (w13_13.setCell ⟨w6.heap.size, 0, none⟩ (.string tq)).cell? ⟨w6.heap.size, 0, none⟩ = some (.string tq) := World.cell?_setCell_same' _ _ _ (by rw [pl]; rfl)
                                have fs : (w13_13.setCell ⟨w6.heap.size, 0, none⟩ (.string tq)).frozen? ⟨w6.heap.size, 0, none⟩ = false := by rw [World.frozen?_setCell]; exact fl9
                                have FQ := Lib.hid (fun w hh h3 => FD.out PP w hh ho h3)
                                rw [BELOW.out PP HPRE.out, ← ht] at FQ
                                have HO := Lib.hid ho
                                have HTQ := Lib.hid ht.symm
                                clear ho ht hV
                                go_wp2_with fail
                                refine (FQ.out _ (HT6.out.gr GS.out) (HE.out.gr (HG6.out.trans GS.out))).mono ?_
                                intro e w40 h40
                                obtain ⟨rfl, hg40⟩ := findIs_yes (by omega) h40
                                have ps2 := hg40.cell ps
                                have fs2 := (hg40.frozen (o := 0) (cell_lt ps)).trans fs
                                have G40 := Lib.hid (GS.out.trans hg40)
                                clear h40 hg40 ps fs pl fl9 cq
                                go_wp2
                                go_roundw
                                case rel => exact ⟨j + 1, PP, tq, by go_num, by omega, by omega, HPRE, HO, HTQ, ps2, fs2, G40⟩
                                case measure => simp [intOf]; omega
                              · subst hv
                                clear hV ho cq
                                go_wp2
                                go_roundw
                                case rel => exact ⟨j + 1, P, u, by go_num, by omega, by omega, hpre, hok, hu, pl, fl9, G39⟩
                                case measure => simp [intOf]; omega
                      · skip
                        go_simp
                        obtain ⟨w12_7, hw⟩ : ∃ wn, wn = w6_6.alloc (.cells #[.string ⟨#[]⟩] 24) := ⟨_, rfl⟩
                        rw [← hw]
                        have gx : Gr w6_6 w12_7 := by rw [hw]; exact (Gr.refl _).alloc _
                        have al : w12_7.cell? ⟨w6_6.heap.size, 0, none⟩ = some (.string ⟨#[]⟩) := by rw [hw]; exact new_cell rfl rfl
                        have fl : w12_7.frozen? ⟨w6_6.heap.size, 0, none⟩ = false := by rw [hw]; exact new_free rfl
                        have hnb : wz.heap.size ≤ w6_6.heap.size := g6_6.out.size
                        have g12_7 := Lib.hid (g6_6.out.trans gx)
                        have hne : some (w6_6.heap.size) ≠ (Value.slice pa P.length pc).ownBlock := fun hx => by have h1 := (World.ownsRow.lt own _ hx.symm).2; omega
                        replace own := ownsRow_gr gx own
                        replace el := gx.cell el
                        clear gx hw
                        refine hK.out _ _ (HX.out _ g12_7.out) (fun hh => ?_)
                        clear hK K
                        try simp only [Act.put, List.setIfInBounds_toArray, List.set_cons_zero, List.set_cons_succ]
                        refine wpAnyH_ready (rs := [7]) (by kernel_rfl) (by simp) ?_
                        refine AllReadyH.cons (o := { dst := some 112, op := Go.Op.call { callee := Go.Callee.builtin Go.Builtin.append, args := #[.tmp 106, .tmp 111], argTypes := #[29, 29] }, type := 29, pos := "top03.go:32", after := #[{ on := 1, ground := .data }, { on := 6, ground := .data }, { on := 1, ground := .chain }], guard := none }) rfl (fun K hK => ?_) AllReadyH.nil
                        · skip
                          refine step_append_lies _ (by rfl) _ _ _ (by rfl) wz.heap.size 9 i0 (.string ⟨#[]⟩) 1 16 Tryd.underlying29 hi hz0 hz1 hz2 rfl (by decide) (.slice pa P.length pc) P.length (strCells P) (by rfl) own ⟨w1_5.heap.size, 0, none⟩ 1 1 [.string s] (by rfl) (by rfl) (one_cell el) (by intro u' hu'; simp at hu'; subst hu'; rfl) (by omega) (by unfold maxLen; omega) (by omega) g12_7.out.size w12_7.heap.size (by rfl) ?_
                          intro ga ca w7_8 own7 hgrow _ _
                          have g7_8 := Lib.hid (g12_7.out.append own hgrow)
                          replace fl := (hgrow.frozen_far _ (cell_lt al) hne).trans fl
                          replace al := (hgrow.cell_far _ (cell_lt al) hne).trans al
                          clear hne
                          have own8 : w7_8.ownsRow wz.heap.size 9 1 (.slice (some ⟨ga, 0, none⟩) (P.length + 1) ca) PP.length (strCells PP) := by rw [hPP.out]; simpa [strCells] using own7
                          obtain ⟨af, cf, hv, hst⟩ := strs_of_row own8 HZ.out (by have := HPL.out; omega)
                          rw [hv]
                          clear hv own8 own7 hgrow own el
                          refine hK.out _ _ (HX.out _ g7_8.out) (fun hh => ?_)
                          clear hK K
                          try simp only [Act.put, List.setIfInBounds_toArray, List.set_cons_zero, List.set_cons_succ]
                          refine wpAnyH_ready (rs := [8]) (by kernel_rfl) (by simp) ?_
                          refine AllReadyH.cons (o := { dst := some 113, op := Go.Op.call { callee := Go.Callee.value (.func 20), args := #[.tmp 112], argTypes := #[29] }, type := 27, pos := "top03.go:32", after := #[{ on := 7, ground := .data }, { on := 7, ground := .chain }], guard := none }) rfl (fun K hK => ?_) AllReadyH.nil
                          · skip
                            go_simp
                            go_at_call 20
                            refine (made_any af PP cf w7_8 hst (HEz.out.gr g7_8.out)).mono ?_
                            intro e w8_9 hmade
                            obtain ⟨tq, vq, rfl, hV, gx⟩ := made_is hmade
                            have g8_9 := Lib.hid (g7_8.out.trans gx)
                            replace fl := (gx.frozen (o := 0) (cell_lt al)).trans fl
                            replace al := gx.cell al
                            clear gx hst hmade
                            first | refine hK.out _ _ (HX.out _ g8_9.out) (fun hh => ?_) | (go_wp2_with fail; refine hK.out _ _ (HX.out _ g8_9.out) (fun hh => ?_))
                            clear hK K
                            try simp only [Act.put, List.setIfInBounds_toArray, List.set_cons_zero, List.set_cons_succ]
                            refine wpAnyH_take (i := 9) (oi := { dst := some 104, op := Go.Op.move (.tmp 113), type := 27, pos := "top03.go:32", after := #[{ on := 8, ground := .data }], guard := none }) (v := .tuple #[.agg #[.string tq], vq]) rfl (by kernel_rfl) (by kernel_rfl) (by kernel_rfl) (fun _ _ _ h => h) (Or.inl ⟨by rfl, (fun w hSw => by (try dsimp only at hSw); obtain ⟨-, hc1, hc2⟩ := hSw; go_simp <;> (first | done | rfl))⟩) (by assumption) ?_
                            try simp only [Act.put, List.setIfInBounds_toArray, List.set_cons_zero, List.set_cons_succ]
                            refine wpAnyH_take (i := 10) (oi := { dst := some 114, op := Go.Op.extract (.tmp 104) 0, type := 24, pos := "top03.go:32", after := #[{ on := 9, ground := .data }], guard := none }) (v := .agg #[.string tq]) rfl (by kernel_rfl) (by kernel_rfl) (by kernel_rfl) (fun _ _ _ h => h) (Or.inl ⟨by rfl, (fun w hSw => by (try dsimp only at hSw); obtain ⟨-, hc1, hc2⟩ := hSw; go_simp <;> (first | done | rfl))⟩) (by assumption) ?_
                            try simp only [Act.put, List.setIfInBounds_toArray, List.set_cons_zero, List.set_cons_succ]
                            refine wpAnyH_take (i := 11) (oi := { dst := some 115, op := Go.Op.extract (.tmp 104) 1, type := 26, pos := "top03.go:32", after := #[{ on := 9, ground := .data }, { on := 13, ground := .gcOnly Go.Departure.lateStores }], guard := none }) (v := vq) rfl (by kernel_rfl) (by kernel_rfl) (by kernel_rfl) (fun _ _ _ h => h) (Or.inl ⟨by rfl, (fun w hSw => by (try dsimp only at hSw); obtain ⟨-, hc1, hc2⟩ := hSw; go_simp <;> (first | done | rfl))⟩) (by assumption) ?_
                            try simp only [Act.put, List.setIfInBounds_toArray, List.set_cons_zero, List.set_cons_succ]
                            refine wpAnyH_ready (rs := [13]) (by kernel_rfl) (by simp) ?_
                            refine AllReadyH.cons (o := { dst := none, op := Go.Op.store 24 (.tmp 18) (.tmp 114), type := 0, pos := "top03.go:32", after := #[{ on := 12, ground := .data }, { on := 10, ground := .data }, { on := 8, ground := .chain }, { on := 0, ground := .phase }, { on := 1, ground := .phase }, { on := 2, ground := .phase }, { on := 3, ground := .phase }, { on := 4, ground := .phase }, { on := 5, ground := .phase }, { on := 6, ground := .phase }, { on := 7, ground := .phase }, { on := 8, ground := .phase }, { on := 9, ground := .phase }, { on := 10, ground := .phase }, { on := 11, ground := .textOnly Go.Departure.lateStores }, { on := 12, ground := .phase }], guard := none }) rfl (fun K hK => ?_) AllReadyH.nil
                            · skip
                              go_simp
                              obtain ⟨w13_13, hw⟩ : ∃ wn, wn = w8_9.setCell ⟨w6_6.heap.size, 0, none⟩ (.string tq) := ⟨_, rfl⟩
                              rw [← hw]
                              have cq : w13_13.cell? ⟨w6_6.heap.size, 0, none⟩ = some (.string tq) := by rw [hw]; exact World.cell?_setCell_same' _ _ _ (by rw [al]; rfl)
                              have g13_13 : Hid (Gr wz w13_13) := Lib.hid (by rw [hw]; exact g8_9.out.setCell hnb _)
                              clear al fl hw
                              refine hK.out _ _ (HX.out _ g13_13.out) (fun hh => ?_)
                              clear hK K
                              try simp only [Act.put, List.setIfInBounds_toArray, List.set_cons_zero, List.set_cons_succ]
                              refine wpAnyH_take (i := 14) (oi := { dst := some 19, op := Go.Op.assign (.tmp 115), type := 26, pos := "top03.go:32", after := #[{ on := 11, ground := .data }, { on := 13, ground := .chain }, { on := 0, ground := .phase }, { on := 1, ground := .phase }, { on := 2, ground := .phase }, { on := 3, ground := .phase }, { on := 4, ground := .phase }, { on := 5, ground := .phase }, { on := 6, ground := .phase }, { on := 7, ground := .phase }, { on := 8, ground := .phase }, { on := 9, ground := .phase }, { on := 10, ground := .phase }, { on := 11, ground := .phase }, { on := 12, ground := .phase }, { on := 13, ground := .phase }], guard := none }) (v := vq) rfl (by kernel_rfl) (by kernel_rfl) (by kernel_rfl) (fun _ _ _ h => h) (Or.inl ⟨by rfl, (fun w hSw => by (try dsimp only at hSw); obtain ⟨-, hc1, hc2⟩ := hSw; go_simp <;> (first | done | rfl))⟩) (by assumption) ?_
                              try simp only [Act.put, List.setIfInBounds_toArray, List.set_cons_zero, List.set_cons_succ]
                              refine wpAnyH_done (by kernel_rfl) ?_ _
                              have pl := g13_13.out.cell pz
                              have fl9 := FZ.out _ g13_13.out
                              have G39 := Lib.hid (hGz.out.trans g13_13.out)
                              clear HX FZ hh pz hcell fz PO HMz HEz HZ hPP HPL hnb
                              rcases hV.out with ⟨ho, ht, hv⟩ | ⟨ho, bb, hv⟩
                              · subst hv
                                have GS := Lib.hid (G39.out.setCell (Nat.le_refl _) (.string tq) : Gr w6 (w13_13.setCell ⟨w6.heap.size, 0, none⟩ (.string tq)))
                                have ps : (w13_13.setCell ⟨w6.heap.size, 0, none⟩ (.string tq)).cell? ⟨w6.heap.size, 0, none⟩ = some (.string tq) := World.cell?_setCell_same' _ _ _ (by rw [pl]; rfl)
                                have fs : (w13_13.setCell ⟨w6.heap.size, 0, none⟩ (.string tq)).frozen? ⟨w6.heap.size, 0, none⟩ = false := by rw [World.frozen?_setCell]; exact fl9
                                have FQ := Lib.hid (fun w hh h3 => FD.out PP w hh ho h3)
                                rw [BELOW.out PP HPRE.out, ← ht] at FQ
                                have HO := Lib.hid ho
                                have HTQ := Lib.hid ht.symm
                                clear ho ht hV
                                go_wp2_with fail
                                refine (FQ.out _ (HT6.out.gr GS.out) (HE.out.gr (HG6.out.trans GS.out))).mono ?_
                                intro e w40 h40
                                obtain ⟨rfl, hg40⟩ := findIs_yes (by omega) h40
                                have ps2 := hg40.cell ps
                                have fs2 := (hg40.frozen (o := 0) (cell_lt ps)).trans fs
                                have G40 := Lib.hid (GS.out.trans hg40)
                                clear h40 hg40 ps fs pl fl9 cq
                                go_wp2
                                go_roundw
                                case rel => exact ⟨j + 1, PP, tq, by go_num, by omega, by omega, HPRE, HO, HTQ, ps2, fs2, G40⟩
                                case measure => simp [intOf]; omega
                              · subst hv
                                clear hV ho cq
                                go_wp2
                                go_roundw
                                case rel => exact ⟨j + 1, P, u, by go_num, by omega, by omega, hpre, hok, hu, pl, fl9, G39⟩
                                case measure => simp [intOf]; omega
                    · skip
                      go_simp
                      obtain ⟨w12_6, hw⟩ : ∃ wn, wn = w1_5.alloc (.cells #[.string ⟨#[]⟩] 24) := ⟨_, rfl⟩
                      rw [← hw]
                      have gx : Gr w1_5 w12_6 := by rw [hw]; exact (Gr.refl _).alloc _
                      have al : w12_6.cell? ⟨w1_5.heap.size, 0, none⟩ = some (.string ⟨#[]⟩) := by rw [hw]; exact new_cell rfl rfl
                      have fl : w12_6.frozen? ⟨w1_5.heap.size, 0, none⟩ = false := by rw [hw]; exact new_free rfl
                      have hnb : wz.heap.size ≤ w1_5.heap.size := g1_5.out.size
                      have g12_6 := Lib.hid (g1_5.out.trans gx)
                      have hne : some (w1_5.heap.size) ≠ (Value.slice pa P.length pc).ownBlock := fun hx => by have h1 := (World.ownsRow.lt own _ hx.symm).2; omega
                      replace own := ownsRow_gr gx own
                      clear gx hw
                      refine hK.out _ _ (HX.out _ g12_6.out) (fun hh => ?_)
                      clear hK K
                      try simp only [Act.put, List.setIfInBounds_toArray, List.set_cons_zero, List.set_cons_succ]
                      refine wpAnyH_ready (rs := [6]) (by kernel_rfl) (by simp) ?_
                      refine AllReadyH.cons (o := { dst := some 111, op := Go.Op.buildSlice 29 1 #[(0, .tmp 110)], type := 29, pos := "top03.go:32", after := #[{ on := 5, ground := .data }], guard := none }) rfl (fun K hK => ?_) AllReadyH.nil
                      · skip
                        go_simp
                        obtain ⟨w6_7, hw⟩ : ∃ wn, wn = w12_6.alloc (.cells #[.string s] 9) := ⟨_, rfl⟩
                        rw [← hw]
                        have gx : Gr w12_6 w6_7 := by rw [hw]; exact (Gr.refl _).alloc _
                        have el : w6_7.cell? ⟨w12_6.heap.size, 0, none⟩ = some (.string s) := by rw [hw]; exact new_cell rfl rfl
                        have g6_7 := Lib.hid (g12_6.out.trans gx)
                        replace fl := (gx.frozen (o := 0) (cell_lt al)).trans fl
                        replace al := gx.cell al
                        replace own := ownsRow_gr gx own
                        clear gx hw
                        refine hK.out _ _ (HX.out _ g6_7.out) (fun hh => ?_)
                        clear hK K
                        try simp only [Act.put, List.setIfInBounds_toArray, List.set_cons_zero, List.set_cons_succ]
                        refine wpAnyH_ready (rs := [7]) (by kernel_rfl) (by simp) ?_
                        refine AllReadyH.cons (o := { dst := some 112, op := Go.Op.call { callee := Go.Callee.builtin Go.Builtin.append, args := #[.tmp 106, .tmp 111], argTypes := #[29, 29] }, type := 29, pos := "top03.go:32", after := #[{ on := 1, ground := .data }, { on := 6, ground := .data }, { on := 1, ground := .chain }], guard := none }) rfl (fun K hK => ?_) AllReadyH.nil
                        · skip
                          refine step_append_lies _ (by rfl) _ _ _ (by rfl) wz.heap.size 9 i0 (.string ⟨#[]⟩) 1 16 Tryd.underlying29 hi hz0 hz1 hz2 rfl (by decide) (.slice pa P.length pc) P.length (strCells P) (by rfl) own ⟨w12_6.heap.size, 0, none⟩ 1 1 [.string s] (by rfl) (by rfl) (one_cell el) (by intro u' hu'; simp at hu'; subst hu'; rfl) (by omega) (by unfold maxLen; omega) (by omega) g6_7.out.size w6_7.heap.size (by rfl) ?_
                          intro ga ca w7_8 own7 hgrow _ _
                          have g7_8 := Lib.hid (g6_7.out.append own hgrow)
                          replace fl := (hgrow.frozen_far _ (cell_lt al) hne).trans fl
                          replace al := (hgrow.cell_far _ (cell_lt al) hne).trans al
                          clear hne
                          have own8 : w7_8.ownsRow wz.heap.size 9 1 (.slice (some ⟨ga, 0, none⟩) (P.length + 1) ca) PP.length (strCells PP) := by rw [hPP.out]; simpa [strCells] using own7
                          obtain ⟨af, cf, hv, hst⟩ := strs_of_row own8 HZ.out (by have := HPL.out; omega)
                          rw [hv]
                          clear hv own8 own7 hgrow own el
                          refine hK.out _ _ (HX.out _ g7_8.out) (fun hh => ?_)
                          clear hK K
                          try simp only [Act.put, List.setIfInBounds_toArray, List.set_cons_zero, List.set_cons_succ]
                          refine wpAnyH_ready (rs := [8]) (by kernel_rfl) (by simp) ?_
                          refine AllReadyH.cons (o := { dst := some 113, op := Go.Op.call { callee := Go.Callee.value (.func 20), args := #[.tmp 112], argTypes := #[29] }, type := 27, pos := "top03.go:32", after := #[{ on := 7, ground := .data }, { on := 7, ground := .chain }], guard := none }) rfl (fun K hK => ?_) AllReadyH.nil
                          · skip
                            go_simp
                            go_at_call 20
                            refine (made_any af PP cf w7_8 hst (HEz.out.gr g7_8.out)).mono ?_
                            intro e w8_9 hmade
                            obtain ⟨tq, vq, rfl, hV, gx⟩ := made_is hmade
                            have g8_9 := Lib.hid (g7_8.out.trans gx)
                            replace fl := (gx.frozen (o := 0) (cell_lt al)).trans fl
                            replace al := gx.cell al
                            clear gx hst hmade
                            first | refine hK.out _ _ (HX.out _ g8_9.out) (fun hh => ?_) | (go_wp2_with fail; refine hK.out _ _ (HX.out _ g8_9.out) (fun hh => ?_))
                            clear hK K
                            try simp only [Act.put, List.setIfInBounds_toArray, List.set_cons_zero, List.set_cons_succ]
                            refine wpAnyH_take (i := 9) (oi := { dst := some 104, op := Go.Op.move (.tmp 113), type := 27, pos := "top03.go:32", after := #[{ on := 8, ground := .data }], guard := none }) (v := .tuple #[.agg #[.string tq], vq]) rfl (by kernel_rfl) (by kernel_rfl) (by kernel_rfl) (fun _ _ _ h => h) (Or.inl ⟨by rfl, (fun w hSw => by (try dsimp only at hSw); obtain ⟨-, hc1, hc2⟩ := hSw; go_simp <;> (first | done | rfl))⟩) (by assumption) ?_
                            try simp only [Act.put, List.setIfInBounds_toArray, List.set_cons_zero, List.set_cons_succ]
                            refine wpAnyH_take (i := 10) (oi := { dst := some 114, op := Go.Op.extract (.tmp 104) 0, type := 24, pos := "top03.go:32", after := #[{ on := 9, ground := .data }], guard := none }) (v := .agg #[.string tq]) rfl (by kernel_rfl) (by kernel_rfl) (by kernel_rfl) (fun _ _ _ h => h) (Or.inl ⟨by rfl, (fun w hSw => by (try dsimp only at hSw); obtain ⟨-, hc1, hc2⟩ := hSw; go_simp <;> (first | done | rfl))⟩) (by assumption) ?_
                            try simp only [Act.put, List.setIfInBounds_toArray, List.set_cons_zero, List.set_cons_succ]
                            refine wpAnyH_take (i := 11) (oi := { dst := some 115, op := Go.Op.extract (.tmp 104) 1, type := 26, pos := "top03.go:32", after := #[{ on := 9, ground := .data }, { on := 13, ground := .gcOnly Go.Departure.lateStores }], guard := none }) (v := vq) rfl (by kernel_rfl) (by kernel_rfl) (by kernel_rfl) (fun _ _ _ h => h) (Or.inl ⟨by rfl, (fun w hSw => by (try dsimp only at hSw); obtain ⟨-, hc1, hc2⟩ := hSw; go_simp <;> (first | done | rfl))⟩) (by assumption) ?_
                            try simp only [Act.put, List.setIfInBounds_toArray, List.set_cons_zero, List.set_cons_succ]
                            refine wpAnyH_ready (rs := [13]) (by kernel_rfl) (by simp) ?_
                            refine AllReadyH.cons (o := { dst := none, op := Go.Op.store 24 (.tmp 18) (.tmp 114), type := 0, pos := "top03.go:32", after := #[{ on := 12, ground := .data }, { on := 10, ground := .data }, { on := 8, ground := .chain }, { on := 0, ground := .phase }, { on := 1, ground := .phase }, { on := 2, ground := .phase }, { on := 3, ground := .phase }, { on := 4, ground := .phase }, { on := 5, ground := .phase }, { on := 6, ground := .phase }, { on := 7, ground := .phase }, { on := 8, ground := .phase }, { on := 9, ground := .phase }, { on := 10, ground := .phase }, { on := 11, ground := .textOnly Go.Departure.lateStores }, { on := 12, ground := .phase }], guard := none }) rfl (fun K hK => ?_) AllReadyH.nil
                            · skip
                              go_simp
                              obtain ⟨w13_13, hw⟩ : ∃ wn, wn = w8_9.setCell ⟨w1_5.heap.size, 0, none⟩ (.string tq) := ⟨_, rfl⟩
                              rw [← hw]
                              have cq : w13_13.cell? ⟨w1_5.heap.size, 0, none⟩ = some (.string tq) := by rw [hw]; exact World.cell?_setCell_same' _ _ _ (by rw [al]; rfl)
                              have g13_13 : Hid (Gr wz w13_13) := Lib.hid (by rw [hw]; exact g8_9.out.setCell hnb _)
                              clear al fl hw
                              refine hK.out _ _ (HX.out _ g13_13.out) (fun hh => ?_)
                              clear hK K
                              try simp only [Act.put, List.setIfInBounds_toArray, List.set_cons_zero, List.set_cons_succ]
                              refine wpAnyH_take (i := 14) (oi := { dst := some 19, op := Go.Op.assign (.tmp 115), type := 26, pos := "top03.go:32", after := #[{ on := 11, ground := .data }, { on := 13, ground := .chain }, { on := 0, ground := .phase }, { on := 1, ground := .phase }, { on := 2, ground := .phase }, { on := 3, ground := .phase }, { on := 4, ground := .phase }, { on := 5, ground := .phase }, { on := 6, ground := .phase }, { on := 7, ground := .phase }, { on := 8, ground := .phase }, { on := 9, ground := .phase }, { on := 10, ground := .phase }, { on := 11, ground := .phase }, { on := 12, ground := .phase }, { on := 13, ground := .phase }], guard := none }) (v := vq) rfl (by kernel_rfl) (by kernel_rfl) (by kernel_rfl) (fun _ _ _ h => h) (Or.inl ⟨by rfl, (fun w hSw => by (try dsimp only at hSw); obtain ⟨-, hc1, hc2⟩ := hSw; go_simp <;> (first | done | rfl))⟩) (by assumption) ?_
                              try simp only [Act.put, List.setIfInBounds_toArray, List.set_cons_zero, List.set_cons_succ]
                              refine wpAnyH_done (by kernel_rfl) ?_ _
                              have pl := g13_13.out.cell pz
                              have fl9 := FZ.out _ g13_13.out
                              have G39 := Lib.hid (hGz.out.trans g13_13.out)
                              clear HX FZ hh pz hcell fz PO HMz HEz HZ hPP HPL hnb
                              rcases hV.out with ⟨ho, ht, hv⟩ | ⟨ho, bb, hv⟩
                              · subst hv
                                have GS := Lib.hid (G39.out.setCell (Nat.le_refl _) (.string tq) : Gr w6 (w13_13.setCell ⟨w6.heap.size, 0, none⟩ (.string tq)))
                                have ps : (w13_13.setCell ⟨w6.heap.size, 0, none⟩ (.string tq)).cell? ⟨w6.heap.size, 0, none⟩ = some (.string tq) := World.cell?_setCell_same' _ _ _ (by rw [pl]; rfl)
                                have fs : (w13_13.setCell ⟨w6.heap.size, 0, none⟩ (.string tq)).frozen? ⟨w6.heap.size, 0, none⟩ = false := by rw [World.frozen?_setCell]; exact fl9
                                have FQ := Lib.hid (fun w hh h3 => FD.out PP w hh ho h3)
                                rw [BELOW.out PP HPRE.out, ← ht] at FQ
                                have HO := Lib.hid ho
                                have HTQ := Lib.hid ht.symm
                                clear ho ht hV
                                go_wp2_with fail
                                refine (FQ.out _ (HT6.out.gr GS.out) (HE.out.gr (HG6.out.trans GS.out))).mono ?_
                                intro e w40 h40
                                obtain ⟨rfl, hg40⟩ := findIs_yes (by omega) h40
                                have ps2 := hg40.cell ps
                                have fs2 := (hg40.frozen (o := 0) (cell_lt ps)).trans fs
                                have G40 := Lib.hid (GS.out.trans hg40)
                                clear h40 hg40 ps fs pl fl9 cq
                                go_wp2
                                go_roundw
                                case rel => exact ⟨j + 1, PP, tq, by go_num, by omega, by omega, HPRE, HO, HTQ, ps2, fs2, G40⟩
                                case measure => simp [intOf]; omega
                              · subst hv
                                clear hV ho cq
                                go_wp2
                                go_roundw
                                case rel => exact ⟨j + 1, P, u, by go_num, by omega, by omega, hpre, hok, hu, pl, fl9, G39⟩
                                case measure => simp [intOf]; omega
                  · skip
                    go_simp
                    obtain ⟨w6_5, hw⟩ : ∃ wn, wn = w0.alloc (.cells #[.string s] 9) := ⟨_, rfl⟩
                    rw [← hw]
                    have gx : Gr w0 w6_5 := by rw [hw]; exact (Gr.refl _).alloc _
                    have el : w6_5.cell? ⟨w0.heap.size, 0, none⟩ = some (.string s) := by rw [hw]; exact new_cell rfl rfl
                    have g6_5 := Lib.hid (HTn.out.trans gx)
                    clear gx hw
                    refine hK.out _ _ (HX.out _ g6_5.out) (fun hh => ?_)
                    clear hK K
                    try simp only [Act.put, List.setIfInBounds_toArray, List.set_cons_zero, List.set_cons_succ]
                    refine wpAnyH_ready (rs := [1, 12]) (by kernel_rfl) (by simp) ?_
                    refine AllReadyH.cons (o := { dst := some 106, op := Go.Op.call { callee := Go.Callee.value (.func 18), args := #[.tmp 105], argTypes := #[24] }, type := 29, pos := "top03.go:32", after := #[{ on := 0, ground := .data }], guard := none }) rfl (fun K hK => ?_) (AllReadyH.cons (o := { dst := some 18, op := Go.Op.alloc 24, type := 0, pos := "top03.go:32", after := #[], guard := none }) rfl (fun K hK => ?_) AllReadyH.nil)
                    · skip
                      go_simp
                      go_at_call 18; refine (PO.out _ (HMz.out.gr g6_5.out)).mono ?_
                      rintro e w1_6 ⟨pa, pc, rfl, own, gx⟩
                      have g1_6 := Lib.hid (g6_5.out.trans gx)
                      replace el := gx.cell el
                      replace own := World.ownsRow.mono own g6_5.out.size
                      clear gx
                      first | refine hK.out _ _ (HX.out _ g1_6.out) (fun hh => ?_) | (go_wp2_with fail; refine hK.out _ _ (HX.out _ g1_6.out) (fun hh => ?_))
                      clear hK K
                      try simp only [Act.put, List.setIfInBounds_toArray, List.set_cons_zero, List.set_cons_succ]
                      refine wpAnyH_ready (rs := [7, 12]) (by kernel_rfl) (by simp) ?_
                      refine AllReadyH.cons (o := { dst := some 112, op := Go.Op.call { callee := Go.Callee.builtin Go.Builtin.append, args := #[.tmp 106, .tmp 111], argTypes := #[29, 29] }, type := 29, pos := "top03.go:32", after := #[{ on := 1, ground := .data }, { on := 6, ground := .data }, { on := 1, ground := .chain }], guard := none }) rfl (fun K hK => ?_) (AllReadyH.cons (o := { dst := some 18, op := Go.Op.alloc 24, type := 0, pos := "top03.go:32", after := #[], guard := none }) rfl (fun K hK => ?_) AllReadyH.nil)
                      · skip
                        refine step_append_lies _ (by rfl) _ _ _ (by rfl) wz.heap.size 9 i0 (.string ⟨#[]⟩) 1 16 Tryd.underlying29 hi hz0 hz1 hz2 rfl (by decide) (.slice pa P.length pc) P.length (strCells P) (by rfl) own ⟨w0.heap.size, 0, none⟩ 1 1 [.string s] (by rfl) (by rfl) (one_cell el) (by intro u' hu'; simp at hu'; subst hu'; rfl) (by omega) (by unfold maxLen; omega) (by omega) g1_6.out.size w1_6.heap.size (by rfl) ?_
                        intro ga ca w7_7 own7 hgrow _ _
                        have g7_7 := Lib.hid (g1_6.out.append own hgrow)
                        have own8 : w7_7.ownsRow wz.heap.size 9 1 (.slice (some ⟨ga, 0, none⟩) (P.length + 1) ca) PP.length (strCells PP) := by rw [hPP.out]; simpa [strCells] using own7
                        obtain ⟨af, cf, hv, hst⟩ := strs_of_row own8 HZ.out (by have := HPL.out; omega)
                        rw [hv]
                        clear hv own8 own7 hgrow own el
                        refine hK.out _ _ (HX.out _ g7_7.out) (fun hh => ?_)
                        clear hK K
                        try simp only [Act.put, List.setIfInBounds_toArray, List.set_cons_zero, List.set_cons_succ]
                        refine wpAnyH_ready (rs := [8, 12]) (by kernel_rfl) (by simp) ?_
                        refine AllReadyH.cons (o := { dst := some 113, op := Go.Op.call { callee := Go.Callee.value (.func 20), args := #[.tmp 112], argTypes := #[29] }, type := 27, pos := "top03.go:32", after := #[{ on := 7, ground := .data }, { on := 7, ground := .chain }], guard := none }) rfl (fun K hK => ?_) (AllReadyH.cons (o := { dst := some 18, op := Go.Op.alloc 24, type := 0, pos := "top03.go:32", after := #[], guard := none }) rfl (fun K hK => ?_) AllReadyH.nil)
                        · skip
                          go_simp
                          go_at_call 20
                          refine (made_any af PP cf w7_7 hst (HEz.out.gr g7_7.out)).mono ?_
                          intro e w8_8 hmade
                          obtain ⟨tq, vq, rfl, hV, gx⟩ := made_is hmade
                          have g8_8 := Lib.hid (g7_7.out.trans gx)
                          clear gx hst hmade
                          first | refine hK.out _ _ (HX.out _ g8_8.out) (fun hh => ?_) | (go_wp2_with fail; refine hK.out _ _ (HX.out _ g8_8.out) (fun hh => ?_))
                          clear hK K
                          try simp only [Act.put, List.setIfInBounds_toArray, List.set_cons_zero, List.set_cons_succ]
                          refine wpAnyH_take (i := 9) (oi := { dst := some 104, op := Go.Op.move (.tmp 113), type := 27, pos := "top03.go:32", after := #[{ on := 8, ground := .data }], guard := none }) (v := .tuple #[.agg #[.string tq], vq]) rfl (by kernel_rfl) (by kernel_rfl) (by kernel_rfl) (fun _ _ _ h => h) (Or.inl ⟨by rfl, (fun w hSw => by (try dsimp only at hSw); obtain ⟨-, hc1, hc2⟩ := hSw; go_simp <;> (first | done | rfl))⟩) (by assumption) ?_
                          try simp only [Act.put, List.setIfInBounds_toArray, List.set_cons_zero, List.set_cons_succ]
                          refine wpAnyH_take (i := 10) (oi := { dst := some 114, op := Go.Op.extract (.tmp 104) 0, type := 24, pos := "top03.go:32", after := #[{ on := 9, ground := .data }], guard := none }) (v := .agg #[.string tq]) rfl (by kernel_rfl) (by kernel_rfl) (by kernel_rfl) (fun _ _ _ h => h) (Or.inl ⟨by rfl, (fun w hSw => by (try dsimp only at hSw); obtain ⟨-, hc1, hc2⟩ := hSw; go_simp <;> (first | done | rfl))⟩) (by assumption) ?_
                          try simp only [Act.put, List.setIfInBounds_toArray, List.set_cons_zero, List.set_cons_succ]
                          refine wpAnyH_take (i := 11) (oi := { dst := some 115, op := Go.Op.extract (.tmp 104) 1, type := 26, pos := "top03.go:32", after := #[{ on := 9, ground := .data }, { on := 13, ground := .gcOnly Go.Departure.lateStores }], guard := none }) (v := vq) rfl (by kernel_rfl) (by kernel_rfl) (by kernel_rfl) (fun _ _ _ h => h) (Or.inl ⟨by rfl, (fun w hSw => by (try dsimp only at hSw); obtain ⟨-, hc1, hc2⟩ := hSw; go_simp <;> (first | done | rfl))⟩) (by assumption) ?_
                          try simp only [Act.put, List.setIfInBounds_toArray, List.set_cons_zero, List.set_cons_succ]
                          refine wpAnyH_ready (rs := [12]) (by kernel_rfl) (by simp) ?_
                          refine AllReadyH.cons (o := { dst := some 18, op := Go.Op.alloc 24, type := 0, pos := "top03.go:32", after := #[], guard := none }) rfl (fun K hK => ?_) AllReadyH.nil
                          · skip
                            go_simp
                            obtain ⟨w12_12, hw⟩ : ∃ wn, wn = w8_8.alloc (.cells #[.string ⟨#[]⟩] 24) := ⟨_, rfl⟩
                            rw [← hw]
                            have gx : Gr w8_8 w12_12 := by rw [hw]; exact (Gr.refl _).alloc _
                            have al : w12_12.cell? ⟨w8_8.heap.size, 0, none⟩ = some (.string ⟨#[]⟩) := by rw [hw]; exact new_cell rfl rfl
                            have fl : w12_12.frozen? ⟨w8_8.heap.size, 0, none⟩ = false := by rw [hw]; exact new_free rfl
                            have hnb : wz.heap.size ≤ w8_8.heap.size := g8_8.out.size
                            have g12_12 := Lib.hid (g8_8.out.trans gx)
                            clear gx hw
                            refine hK.out _ _ (HX.out _ g12_12.out) (fun hh => ?_)
                            clear hK K
                            try simp only [Act.put, List.setIfInBounds_toArray, List.set_cons_zero, List.set_cons_succ]
                            refine wpAnyH_ready (rs := [13]) (by kernel_rfl) (by simp) ?_
                            refine AllReadyH.cons (o := { dst := none, op := Go.Op.store 24 (.tmp 18) (.tmp 114), type := 0, pos := "top03.go:32", after := #[{ on := 12, ground := .data }, { on := 10, ground := .data }, { on := 8, ground := .chain }, { on := 0, ground := .phase }, { on := 1, ground := .phase }, { on := 2, ground := .phase }, { on := 3, ground := .phase }, { on := 4, ground := .phase }, { on := 5, ground := .phase }, { on := 6, ground := .phase }, { on := 7, ground := .phase }, { on := 8, ground := .phase }, { on := 9, ground := .phase }, { on := 10, ground := .phase }, { on := 11, ground := .textOnly Go.Departure.lateStores }, { on := 12, ground := .phase }], guard := none }) rfl (fun K hK => ?_) AllReadyH.nil
                            · skip
                              go_simp
                              obtain ⟨w13_13, hw⟩ : ∃ wn, wn = w12_12.setCell ⟨w8_8.heap.size, 0, none⟩ (.string tq) := ⟨_, rfl⟩
                              rw [← hw]
                              have cq : w13_13.cell? ⟨w8_8.heap.size, 0, none⟩ = some (.string tq) := by rw [hw]; exact World.cell?_setCell_same' _ _ _ (by rw [al]; rfl)
                              have g13_13 : Hid (Gr wz w13_13) := Lib.hid (by rw [hw]; exact g12_12.out.setCell hnb _)
                              clear al fl hw
                              refine hK.out _ _ (HX.out _ g13_13.out) (fun hh => ?_)
                              clear hK K
                              try simp only [Act.put, List.setIfInBounds_toArray, List.set_cons_zero, List.set_cons_succ]
                              refine wpAnyH_take (i := 14) (oi := { dst := some 19, op := Go.Op.assign (.tmp 115), type := 26, pos := "top03.go:32", after := #[{ on := 11, ground := .data }, { on := 13, ground := .chain }, { on := 0, ground := .phase }, { on := 1, ground := .phase }, { on := 2, ground := .phase }, { on := 3, ground := .phase }, { on := 4, ground := .phase }, { on := 5, ground := .phase }, { on := 6, ground := .phase }, { on := 7, ground := .phase }, { on := 8, ground := .phase }, { on := 9, ground := .phase }, { on := 10, ground := .phase }, { on := 11, ground := .phase }, { on := 12, ground := .phase }, { on := 13, ground := .phase }], guard := none }) (v := vq) rfl (by kernel_rfl) (by kernel_rfl) (by kernel_rfl) (fun _ _ _ h => h) (Or.inl ⟨by rfl, (fun w hSw => by (try dsimp only at hSw); obtain ⟨-, hc1, hc2⟩ := hSw; go_simp <;> (first | done | rfl))⟩) (by assumption) ?_
                              try simp only [Act.put, List.setIfInBounds_toArray, List.set_cons_zero, List.set_cons_succ]
                              refine wpAnyH_done (by kernel_rfl) ?_ _
                              have pl := g13_13.out.cell pz
                              have fl9 := FZ.out _ g13_13.out
                              have G39 := Lib.hid (hGz.out.trans g13_13.out)
                              clear HX FZ hh pz hcell fz PO HMz HEz HZ hPP HPL hnb
                              rcases hV.out with ⟨ho, ht, hv⟩ | ⟨ho, bb, hv⟩
                              · subst hv
                                have GS := Lib.hid (G39.out.setCell (Nat.le_refl _) (.string tq) : Gr w6 (w13_13.setCell ⟨w6.heap.size, 0, none⟩ (.string tq)))
                                have ps : (w13_13.setCell ⟨w6.heap.size, 0, none⟩ (.string tq)).cell? ⟨w6.heap.size, 0, none⟩ = some (.string tq) := World.cell?_setCell_same' _ _ _ (by rw [pl]; rfl)
                                have fs : (w13_13.setCell ⟨w6.heap.size, 0, none⟩ (.string tq)).frozen? ⟨w6.heap.size, 0, none⟩ = false := by rw [World.frozen?_setCell]; exact fl9
                                have FQ := Lib.hid (fun w hh h3 => FD.out PP w hh ho h3)
                                rw [BELOW.out PP HPRE.out, ← ht] at FQ
                                have HO := Lib.hid ho
                                have HTQ := Lib.hid ht.symm
                                clear ho ht hV
                                go_wp2_with fail
                                refine (FQ.out _ (HT6.out.gr GS.out) (HE.out.gr (HG6.out.trans GS.out))).mono ?_
                                intro e w40 h40
                                obtain ⟨rfl, hg40⟩ := findIs_yes (by omega) h40
                                have ps2 := hg40.cell ps
                                have fs2 := (hg40.frozen (o := 0) (cell_lt ps)).trans fs
                                have G40 := Lib.hid (GS.out.trans hg40)
                                clear h40 hg40 ps fs pl fl9 cq
                                go_wp2
                                go_roundw
                                case rel => exact ⟨j + 1, PP, tq, by go_num, by omega, by omega, HPRE, HO, HTQ, ps2, fs2, G40⟩
                                case measure => simp [intOf]; omega
                              · subst hv
                                clear hV ho cq
                                go_wp2
                                go_roundw
                                case rel => exact ⟨j + 1, P, u, by go_num, by omega, by omega, hpre, hok, hu, pl, fl9, G39⟩
                                case measure => simp [intOf]; omega
                        · skip
                          go_simp
                          obtain ⟨w12_8, hw⟩ : ∃ wn, wn = w7_7.alloc (.cells #[.string ⟨#[]⟩] 24) := ⟨_, rfl⟩
                          rw [← hw]
                          have gx : Gr w7_7 w12_8 := by rw [hw]; exact (Gr.refl _).alloc _
                          have al : w12_8.cell? ⟨w7_7.heap.size, 0, none⟩ = some (.string ⟨#[]⟩) := by rw [hw]; exact new_cell rfl rfl
                          have fl : w12_8.frozen? ⟨w7_7.heap.size, 0, none⟩ = false := by rw [hw]; exact new_free rfl
                          have hnb : wz.heap.size ≤ w7_7.heap.size := g7_7.out.size
                          have g12_8 := Lib.hid (g7_7.out.trans gx)
                          replace hst := hst.gr gx
                          clear gx hw
                          refine hK.out _ _ (HX.out _ g12_8.out) (fun hh => ?_)
                          clear hK K
                          try simp only [Act.put, List.setIfInBounds_toArray, List.set_cons_zero, List.set_cons_succ]
                          refine wpAnyH_ready (rs := [8]) (by kernel_rfl) (by simp) ?_
                          refine AllReadyH.cons (o := { dst := some 113, op := Go.Op.call { callee := Go.Callee.value (.func 20), args := #[.tmp 112], argTypes := #[29] }, type := 27, pos := "top03.go:32", after := #[{ on := 7, ground := .data }, { on := 7, ground := .chain }], guard := none }) rfl (fun K hK => ?_) AllReadyH.nil
                          · skip
                            go_simp
                            go_at_call 20
                            refine (made_any af PP cf w12_8 hst (HEz.out.gr g12_8.out)).mono ?_
                            intro e w8_9 hmade
                            obtain ⟨tq, vq, rfl, hV, gx⟩ := made_is hmade
                            have g8_9 := Lib.hid (g12_8.out.trans gx)
                            replace fl := (gx.frozen (o := 0) (cell_lt al)).trans fl
                            replace al := gx.cell al
                            clear gx hst hmade
                            first | refine hK.out _ _ (HX.out _ g8_9.out) (fun hh => ?_) | (go_wp2_with fail; refine hK.out _ _ (HX.out _ g8_9.out) (fun hh => ?_))
                            clear hK K
                            try simp only [Act.put, List.setIfInBounds_toArray, List.set_cons_zero, List.set_cons_succ]
                            refine wpAnyH_take (i := 9) (oi := { dst := some 104, op := Go.Op.move (.tmp 113), type := 27, pos := "top03.go:32", after := #[{ on := 8, ground := .data }], guard := none }) (v := .tuple #[.agg #[.string tq], vq]) rfl (by kernel_rfl) (by kernel_rfl) (by kernel_rfl) (fun _ _ _ h => h) (Or.inl ⟨by rfl, (fun w hSw => by (try dsimp only at hSw); obtain ⟨-, hc1, hc2⟩ := hSw; go_simp <;> (first | done | rfl))⟩) (by assumption) ?_
                            try simp only [Act.put, List.setIfInBounds_toArray, List.set_cons_zero, List.set_cons_succ]
                            refine wpAnyH_take (i := 10) (oi := { dst := some 114, op := Go.Op.extract (.tmp 104) 0, type := 24, pos := "top03.go:32", after := #[{ on := 9, ground := .data }], guard := none }) (v := .agg #[.string tq]) rfl (by kernel_rfl) (by kernel_rfl) (by kernel_rfl) (fun _ _ _ h => h) (Or.inl ⟨by rfl, (fun w hSw => by (try dsimp only at hSw); obtain ⟨-, hc1, hc2⟩ := hSw; go_simp <;> (first | done | rfl))⟩) (by assumption) ?_
                            try simp only [Act.put, List.setIfInBounds_toArray, List.set_cons_zero, List.set_cons_succ]
                            refine wpAnyH_take (i := 11) (oi := { dst := some 115, op := Go.Op.extract (.tmp 104) 1, type := 26, pos := "top03.go:32", after := #[{ on := 9, ground := .data }, { on := 13, ground := .gcOnly Go.Departure.lateStores }], guard := none }) (v := vq) rfl (by kernel_rfl) (by kernel_rfl) (by kernel_rfl) (fun _ _ _ h => h) (Or.inl ⟨by rfl, (fun w hSw => by (try dsimp only at hSw); obtain ⟨-, hc1, hc2⟩ := hSw; go_simp <;> (first | done | rfl))⟩) (by assumption) ?_
                            try simp only [Act.put, List.setIfInBounds_toArray, List.set_cons_zero, List.set_cons_succ]
                            refine wpAnyH_ready (rs := [13]) (by kernel_rfl) (by simp) ?_
                            refine AllReadyH.cons (o := { dst := none, op := Go.Op.store 24 (.tmp 18) (.tmp 114), type := 0, pos := "top03.go:32", after := #[{ on := 12, ground := .data }, { on := 10, ground := .data }, { on := 8, ground := .chain }, { on := 0, ground := .phase }, { on := 1, ground := .phase }, { on := 2, ground := .phase }, { on := 3, ground := .phase }, { on := 4, ground := .phase }, { on := 5, ground := .phase }, { on := 6, ground := .phase }, { on := 7, ground := .phase }, { on := 8, ground := .phase }, { on := 9, ground := .phase }, { on := 10, ground := .phase }, { on := 11, ground := .textOnly Go.Departure.lateStores }, { on := 12, ground := .phase }], guard := none }) rfl (fun K hK => ?_) AllReadyH.nil
                            · skip
                              go_simp
                              obtain ⟨w13_13, hw⟩ : ∃ wn, wn = w8_9.setCell ⟨w7_7.heap.size, 0, none⟩ (.string tq) := ⟨_, rfl⟩
                              rw [← hw]
                              have cq : w13_13.cell? ⟨w7_7.heap.size, 0, none⟩ = some (.string tq) := by rw [hw]; exact World.cell?_setCell_same' _ _ _ (by rw [al]; rfl)
                              have g13_13 : Hid (Gr wz w13_13) := Lib.hid (by rw [hw]; exact g8_9.out.setCell hnb _)
                              clear al fl hw
                              refine hK.out _ _ (HX.out _ g13_13.out) (fun hh => ?_)
                              clear hK K
                              try simp only [Act.put, List.setIfInBounds_toArray, List.set_cons_zero, List.set_cons_succ]
                              refine wpAnyH_take (i := 14) (oi := { dst := some 19, op := Go.Op.assign (.tmp 115), type := 26, pos := "top03.go:32", after := #[{ on := 11, ground := .data }, { on := 13, ground := .chain }, { on := 0, ground := .phase }, { on := 1, ground := .phase }, { on := 2, ground := .phase }, { on := 3, ground := .phase }, { on := 4, ground := .phase }, { on := 5, ground := .phase }, { on := 6, ground := .phase }, { on := 7, ground := .phase }, { on := 8, ground := .phase }, { on := 9, ground := .phase }, { on := 10, ground := .phase }, { on := 11, ground := .phase }, { on := 12, ground := .phase }, { on := 13, ground := .phase }], guard := none }) (v := vq) rfl (by kernel_rfl) (by kernel_rfl) (by kernel_rfl) (fun _ _ _ h => h) (Or.inl ⟨by rfl, (fun w hSw => by (try dsimp only at hSw); obtain ⟨-, hc1, hc2⟩ := hSw; go_simp <;> (first | done | rfl))⟩) (by assumption) ?_
                              try simp only [Act.put, List.setIfInBounds_toArray, List.set_cons_zero, List.set_cons_succ]
                              refine wpAnyH_done (by kernel_rfl) ?_ _
                              have pl := g13_13.out.cell pz
                              have fl9 := FZ.out _ g13_13.out
                              have G39 := Lib.hid (hGz.out.trans g13_13.out)
                              clear HX FZ hh pz hcell fz PO HMz HEz HZ hPP HPL hnb
                              rcases hV.out with ⟨ho, ht, hv⟩ | ⟨ho, bb, hv⟩
                              · subst hv
                                have GS := Lib.hid (G39.out.setCell (Nat.le_refl _) (.string tq) : Gr w6 (w13_13.setCell ⟨w6.heap.size, 0, none⟩ (.string tq)))
                                have ps : (w13_13.setCell ⟨w6.heap.size, 0, none⟩ (.string tq)).cell? ⟨w6.heap.size, 0, none⟩ = some (.string tq) := World.cell?_setCell_same' _ _ _ (by rw [pl]; rfl)
                                have fs : (w13_13.setCell ⟨w6.heap.size, 0, none⟩ (.string tq)).frozen? ⟨w6.heap.size, 0, none⟩ = false := by rw [World.frozen?_setCell]; exact fl9
                                have FQ := Lib.hid (fun w hh h3 => FD.out PP w hh ho h3)
                                rw [BELOW.out PP HPRE.out, ← ht] at FQ
                                have HO := Lib.hid ho
                                have HTQ := Lib.hid ht.symm
                                clear ho ht hV
                                go_wp2_with fail
                                refine (FQ.out _ (HT6.out.gr GS.out) (HE.out.gr (HG6.out.trans GS.out))).mono ?_
                                intro e w40 h40
                                obtain ⟨rfl, hg40⟩ := findIs_yes (by omega) h40
                                have ps2 := hg40.cell ps
                                have fs2 := (hg40.frozen (o := 0) (cell_lt ps)).trans fs
                                have G40 := Lib.hid (GS.out.trans hg40)
                                clear h40 hg40 ps fs pl fl9 cq
                                go_wp2
                                go_roundw
                                case rel => exact ⟨j + 1, PP, tq, by go_num, by omega, by omega, HPRE, HO, HTQ, ps2, fs2, G40⟩
                                case measure => simp [intOf]; omega
                              · subst hv
                                clear hV ho cq
                                go_wp2
                                go_roundw
                                case rel => exact ⟨j + 1, P, u, by go_num, by omega, by omega, hpre, hok, hu, pl, fl9, G39⟩
                                case measure => simp [intOf]; omega
                      · skip
                        go_simp
                        obtain ⟨w12_7, hw⟩ : ∃ wn, wn = w1_6.alloc (.cells #[.string ⟨#[]⟩] 24) := ⟨_, rfl⟩
                        rw [← hw]
                        have gx : Gr w1_6 w12_7 := by rw [hw]; exact (Gr.refl _).alloc _
                        have al : w12_7.cell? ⟨w1_6.heap.size, 0, none⟩ = some (.string ⟨#[]⟩) := by rw [hw]; exact new_cell rfl rfl
                        have fl : w12_7.frozen? ⟨w1_6.heap.size, 0, none⟩ = false := by rw [hw]; exact new_free rfl
                        have hnb : wz.heap.size ≤ w1_6.heap.size := g1_6.out.size
                        have g12_7 := Lib.hid (g1_6.out.trans gx)
                        have hne : some (w1_6.heap.size) ≠ (Value.slice pa P.length pc).ownBlock := fun hx => by have h1 := (World.ownsRow.lt own _ hx.symm).2; omega
                        replace own := ownsRow_gr gx own
                        replace el := gx.cell el
                        clear gx hw
                        refine hK.out _ _ (HX.out _ g12_7.out) (fun hh => ?_)
                        clear hK K
                        try simp only [Act.put, List.setIfInBounds_toArray, List.set_cons_zero, List.set_cons_succ]
                        refine wpAnyH_ready (rs := [7]) (by kernel_rfl) (by simp) ?_
                        refine AllReadyH.cons (o := { dst := some 112, op := Go.Op.call { callee := Go.Callee.builtin Go.Builtin.append, args := #[.tmp 106, .tmp 111], argTypes := #[29, 29] }, type := 29, pos := "top03.go:32", after := #[{ on := 1, ground := .data }, { on := 6, ground := .data }, { on := 1, ground := .chain }], guard := none }) rfl (fun K hK => ?_) AllReadyH.nil
                        · skip
                          refine step_append_lies _ (by rfl) _ _ _ (by rfl) wz.heap.size 9 i0 (.string ⟨#[]⟩) 1 16 Tryd.underlying29 hi hz0 hz1 hz2 rfl (by decide) (.slice pa P.length pc) P.length (strCells P) (by rfl) own ⟨w0.heap.size, 0, none⟩ 1 1 [.string s] (by rfl) (by rfl) (one_cell el) (by intro u' hu'; simp at hu'; subst hu'; rfl) (by omega) (by unfold maxLen; omega) (by omega) g12_7.out.size w12_7.heap.size (by rfl) ?_
                          intro ga ca w7_8 own7 hgrow _ _
                          have g7_8 := Lib.hid (g12_7.out.append own hgrow)
                          replace fl := (hgrow.frozen_far _ (cell_lt al) hne).trans fl
                          replace al := (hgrow.cell_far _ (cell_lt al) hne).trans al
                          clear hne
                          have own8 : w7_8.ownsRow wz.heap.size 9 1 (.slice (some ⟨ga, 0, none⟩) (P.length + 1) ca) PP.length (strCells PP) := by rw [hPP.out]; simpa [strCells] using own7
                          obtain ⟨af, cf, hv, hst⟩ := strs_of_row own8 HZ.out (by have := HPL.out; omega)
                          rw [hv]
                          clear hv own8 own7 hgrow own el
                          refine hK.out _ _ (HX.out _ g7_8.out) (fun hh => ?_)
                          clear hK K
                          try simp only [Act.put, List.setIfInBounds_toArray, List.set_cons_zero, List.set_cons_succ]
                          refine wpAnyH_ready (rs := [8]) (by kernel_rfl) (by simp) ?_
                          refine AllReadyH.cons (o := { dst := some 113, op := Go.Op.call { callee := Go.Callee.value (.func 20), args := #[.tmp 112], argTypes := #[29] }, type := 27, pos := "top03.go:32", after := #[{ on := 7, ground := .data }, { on := 7, ground := .chain }], guard := none }) rfl (fun K hK => ?_) AllReadyH.nil
                          · skip
                            go_simp
                            go_at_call 20
                            refine (made_any af PP cf w7_8 hst (HEz.out.gr g7_8.out)).mono ?_
                            intro e w8_9 hmade
                            obtain ⟨tq, vq, rfl, hV, gx⟩ := made_is hmade
                            have g8_9 := Lib.hid (g7_8.out.trans gx)
                            replace fl := (gx.frozen (o := 0) (cell_lt al)).trans fl
                            replace al := gx.cell al
                            clear gx hst hmade
                            first | refine hK.out _ _ (HX.out _ g8_9.out) (fun hh => ?_) | (go_wp2_with fail; refine hK.out _ _ (HX.out _ g8_9.out) (fun hh => ?_))
                            clear hK K
                            try simp only [Act.put, List.setIfInBounds_toArray, List.set_cons_zero, List.set_cons_succ]
                            refine wpAnyH_take (i := 9) (oi := { dst := some 104, op := Go.Op.move (.tmp 113), type := 27, pos := "top03.go:32", after := #[{ on := 8, ground := .data }], guard := none }) (v := .tuple #[.agg #[.string tq], vq]) rfl (by kernel_rfl) (by kernel_rfl) (by kernel_rfl) (fun _ _ _ h => h) (Or.inl ⟨by rfl, (fun w hSw => by (try dsimp only at hSw); obtain ⟨-, hc1, hc2⟩ := hSw; go_simp <;> (first | done | rfl))⟩) (by assumption) ?_
                            try simp only [Act.put, List.setIfInBounds_toArray, List.set_cons_zero, List.set_cons_succ]
                            refine wpAnyH_take (i := 10) (oi := { dst := some 114, op := Go.Op.extract (.tmp 104) 0, type := 24, pos := "top03.go:32", after := #[{ on := 9, ground := .data }], guard := none }) (v := .agg #[.string tq]) rfl (by kernel_rfl) (by kernel_rfl) (by kernel_rfl) (fun _ _ _ h => h) (Or.inl ⟨by rfl, (fun w hSw => by (try dsimp only at hSw); obtain ⟨-, hc1, hc2⟩ := hSw; go_simp <;> (first | done | rfl))⟩) (by assumption) ?_
                            try simp only [Act.put, List.setIfInBounds_toArray, List.set_cons_zero, List.set_cons_succ]
                            refine wpAnyH_take (i := 11) (oi := { dst := some 115, op := Go.Op.extract (.tmp 104) 1, type := 26, pos := "top03.go:32", after := #[{ on := 9, ground := .data }, { on := 13, ground := .gcOnly Go.Departure.lateStores }], guard := none }) (v := vq) rfl (by kernel_rfl) (by kernel_rfl) (by kernel_rfl) (fun _ _ _ h => h) (Or.inl ⟨by rfl, (fun w hSw => by (try dsimp only at hSw); obtain ⟨-, hc1, hc2⟩ := hSw; go_simp <;> (first | done | rfl))⟩) (by assumption) ?_
                            try simp only [Act.put, List.setIfInBounds_toArray, List.set_cons_zero, List.set_cons_succ]
                            refine wpAnyH_ready (rs := [13]) (by kernel_rfl) (by simp) ?_
                            refine AllReadyH.cons (o := { dst := none, op := Go.Op.store 24 (.tmp 18) (.tmp 114), type := 0, pos := "top03.go:32", after := #[{ on := 12, ground := .data }, { on := 10, ground := .data }, { on := 8, ground := .chain }, { on := 0, ground := .phase }, { on := 1, ground := .phase }, { on := 2, ground := .phase }, { on := 3, ground := .phase }, { on := 4, ground := .phase }, { on := 5, ground := .phase }, { on := 6, ground := .phase }, { on := 7, ground := .phase }, { on := 8, ground := .phase }, { on := 9, ground := .phase }, { on := 10, ground := .phase }, { on := 11, ground := .textOnly Go.Departure.lateStores }, { on := 12, ground := .phase }], guard := none }) rfl (fun K hK => ?_) AllReadyH.nil
                            · skip
                              go_simp
                              obtain ⟨w13_13, hw⟩ : ∃ wn, wn = w8_9.setCell ⟨w1_6.heap.size, 0, none⟩ (.string tq) := ⟨_, rfl⟩
                              rw [← hw]
                              have cq : w13_13.cell? ⟨w1_6.heap.size, 0, none⟩ = some (.string tq) := by rw [hw]; exact World.cell?_setCell_same' _ _ _ (by rw [al]; rfl)
                              have g13_13 : Hid (Gr wz w13_13) := Lib.hid (by rw [hw]; exact g8_9.out.setCell hnb _)
                              clear al fl hw
                              refine hK.out _ _ (HX.out _ g13_13.out) (fun hh => ?_)
                              clear hK K
                              try simp only [Act.put, List.setIfInBounds_toArray, List.set_cons_zero, List.set_cons_succ]
                              refine wpAnyH_take (i := 14) (oi := { dst := some 19, op := Go.Op.assign (.tmp 115), type := 26, pos := "top03.go:32", after := #[{ on := 11, ground := .data }, { on := 13, ground := .chain }, { on := 0, ground := .phase }, { on := 1, ground := .phase }, { on := 2, ground := .phase }, { on := 3, ground := .phase }, { on := 4, ground := .phase }, { on := 5, ground := .phase }, { on := 6, ground := .phase }, { on := 7, ground := .phase }, { on := 8, ground := .phase }, { on := 9, ground := .phase }, { on := 10, ground := .phase }, { on := 11, ground := .phase }, { on := 12, ground := .phase }, { on := 13, ground := .phase }], guard := none }) (v := vq) rfl (by kernel_rfl) (by kernel_rfl) (by kernel_rfl) (fun _ _ _ h => h) (Or.inl ⟨by rfl, (fun w hSw => by (try dsimp only at hSw); obtain ⟨-, hc1, hc2⟩ := hSw; go_simp <;> (first | done | rfl))⟩) (by assumption) ?_
                              try simp only [Act.put, List.setIfInBounds_toArray, List.set_cons_zero, List.set_cons_succ]
                              refine wpAnyH_done (by kernel_rfl) ?_ _
                              have pl := g13_13.out.cell pz
                              have fl9 := FZ.out _ g13_13.out
                              have G39 := Lib.hid (hGz.out.trans g13_13.out)
                              clear HX FZ hh pz hcell fz PO HMz HEz HZ hPP HPL hnb
                              rcases hV.out with ⟨ho, ht, hv⟩ | ⟨ho, bb, hv⟩
                              · subst hv
                                have GS := Lib.hid (G39.out.setCell (Nat.le_refl _) (.string tq) : Gr w6 (w13_13.setCell ⟨w6.heap.size, 0, none⟩ (.string tq)))
                                have ps : (w13_13.setCell ⟨w6.heap.size, 0, none⟩ (.string tq)).cell? ⟨w6.heap.size, 0, none⟩ = some (.string tq) := World.cell?_setCell_same' _ _ _ (by rw [pl]; rfl)
                                have fs : (w13_13.setCell ⟨w6.heap.size, 0, none⟩ (.string tq)).frozen? ⟨w6.heap.size, 0, none⟩ = false := by rw [World.frozen?_setCell]; exact fl9
                                have FQ := Lib.hid (fun w hh h3 => FD.out PP w hh ho h3)
                                rw [BELOW.out PP HPRE.out, ← ht] at FQ
                                have HO := Lib.hid ho
                                have HTQ := Lib.hid ht.symm
                                clear ho ht hV
                                go_wp2_with fail
                                refine (FQ.out _ (HT6.out.gr GS.out) (HE.out.gr (HG6.out.trans GS.out))).mono ?_
                                intro e w40 h40
                                obtain ⟨rfl, hg40⟩ := findIs_yes (by omega) h40
                                have ps2 := hg40.cell ps
                                have fs2 := (hg40.frozen (o := 0) (cell_lt ps)).trans fs
                                have G40 := Lib.hid (GS.out.trans hg40)
                                clear h40 hg40 ps fs pl fl9 cq
                                go_wp2
                                go_roundw
                                case rel => exact ⟨j + 1, PP, tq, by go_num, by omega, by omega, HPRE, HO, HTQ, ps2, fs2, G40⟩
                                case measure => simp [intOf]; omega
                              · subst hv
                                clear hV ho cq
                                go_wp2
                                go_roundw
                                case rel => exact ⟨j + 1, P, u, by go_num, by omega, by omega, hpre, hok, hu, pl, fl9, G39⟩
                                case measure => simp [intOf]; omega
                    · skip
                      go_simp
                      obtain ⟨w12_6, hw⟩ : ∃ wn, wn = w6_5.alloc (.cells #[.string ⟨#[]⟩] 24) := ⟨_, rfl⟩
                      rw [← hw]
                      have gx : Gr w6_5 w12_6 := by rw [hw]; exact (Gr.refl _).alloc _
                      have al : w12_6.cell? ⟨w6_5.heap.size, 0, none⟩ = some (.string ⟨#[]⟩) := by rw [hw]; exact new_cell rfl rfl
                      have fl : w12_6.frozen? ⟨w6_5.heap.size, 0, none⟩ = false := by rw [hw]; exact new_free rfl
                      have hnb : wz.heap.size ≤ w6_5.heap.size := g6_5.out.size
                      have g12_6 := Lib.hid (g6_5.out.trans gx)
                      replace el := gx.cell el
                      clear gx hw
                      refine hK.out _ _ (HX.out _ g12_6.out) (fun hh => ?_)
                      clear hK K
                      try simp only [Act.put, List.setIfInBounds_toArray, List.set_cons_zero, List.set_cons_succ]
                      refine wpAnyH_ready (rs := [1]) (by kernel_rfl) (by simp) ?_
                      refine AllReadyH.cons (o := { dst := some 106, op := Go.Op.call { callee := Go.Callee.value (.func 18), args := #[.tmp 105], argTypes := #[24] }, type := 29, pos := "top03.go:32", after := #[{ on := 0, ground := .data }], guard := none }) rfl (fun K hK => ?_) AllReadyH.nil
                      · skip
                        go_simp
                        go_at_call 18; refine (PO.out _ (HMz.out.gr g12_6.out)).mono ?_
                        rintro e w1_7 ⟨pa, pc, rfl, own, gx⟩
                        have g1_7 := Lib.hid (g12_6.out.trans gx)
                        have hne : some (w6_5.heap.size) ≠ (Value.slice pa P.length pc).ownBlock := fun hx => by have h1 := (World.ownsRow.lt own _ hx.symm).1; have h2 := cell_lt al; omega
                        replace fl := (gx.frozen (o := 0) (cell_lt al)).trans fl
                        replace al := gx.cell al
                        replace el := gx.cell el
                        replace own := World.ownsRow.mono own g12_6.out.size
                        clear gx
                        first | refine hK.out _ _ (HX.out _ g1_7.out) (fun hh => ?_) | (go_wp2_with fail; refine hK.out _ _ (HX.out _ g1_7.out) (fun hh => ?_))
                        clear hK K
                        try simp only [Act.put, List.setIfInBounds_toArray, List.set_cons_zero, List.set_cons_succ]
                        refine wpAnyH_ready (rs := [7]) (by kernel_rfl) (by simp) ?_
                        refine AllReadyH.cons (o := { dst := some 112, op := Go.Op.call { callee := Go.Callee.builtin Go.Builtin.append, args := #[.tmp 106, .tmp 111], argTypes := #[29, 29] }, type := 29, pos := "top03.go:32", after := #[{ on := 1, ground := .data }, { on := 6, ground := .data }, { on := 1, ground := .chain }], guard := none }) rfl (fun K hK => ?_) AllReadyH.nil
                        · skip
                          refine step_append_lies _ (by rfl) _ _ _ (by rfl) wz.heap.size 9 i0 (.string ⟨#[]⟩) 1 16 Tryd.underlying29 hi hz0 hz1 hz2 rfl (by decide) (.slice pa P.length pc) P.length (strCells P) (by rfl) own ⟨w0.heap.size, 0, none⟩ 1 1 [.string s] (by rfl) (by rfl) (one_cell el) (by intro u' hu'; simp at hu'; subst hu'; rfl) (by omega) (by unfold maxLen; omega) (by omega) g1_7.out.size w1_7.heap.size (by rfl) ?_
                          intro ga ca w7_8 own7 hgrow _ _
                          have g7_8 := Lib.hid (g1_7.out.append own hgrow)
                          replace fl := (hgrow.frozen_far _ (cell_lt al) hne).trans fl
                          replace al := (hgrow.cell_far _ (cell_lt al) hne).trans al
                          clear hne
                          have own8 : w7_8.ownsRow wz.heap.size 9 1 (.slice (some ⟨ga, 0, none⟩) (P.length + 1) ca) PP.length (strCells PP) := by rw [hPP.out]; simpa [strCells] using own7
                          obtain ⟨af, cf, hv, hst⟩ := strs_of_row own8 HZ.out (by have := HPL.out; omega)
                          rw [hv]
                          clear hv own8 own7 hgrow own el
                          refine hK.out _ _ (HX.out _ g7_8.out) (fun hh => ?_)
                          clear hK K
                          try simp only [Act.put, List.setIfInBounds_toArray, List.set_cons_zero, List.set_cons_succ]
                          refine wpAnyH_ready (rs := [8]) (by kernel_rfl) (by simp) ?_
                          refine AllReadyH.cons (o := { dst := some 113, op := Go.Op.call { callee := Go.Callee.value (.func 20), args := #[.tmp 112], argTypes := #[29] }, type := 27, pos := "top03.go:32", after := #[{ on := 7, ground := .data }, { on := 7, ground := .chain }], guard := none }) rfl (fun K hK => ?_) AllReadyH.nil
                          · skip
                            go_simp
                            go_at_call 20
                            refine (made_any af PP cf w7_8 hst (HEz.out.gr g7_8.out)).mono ?_
                            intro e w8_9 hmade
                            obtain ⟨tq, vq, rfl, hV, gx⟩ := made_is hmade
                            have g8_9 := Lib.hid (g7_8.out.trans gx)
                            replace fl := (gx.frozen (o := 0) (cell_lt al)).trans fl
                            replace al := gx.cell al
                            clear gx hst hmade
                            first | refine hK.out _ _ (HX.out _ g8_9.out) (fun hh => ?_) | (go_wp2_with fail; refine hK.out _ _ (HX.out _ g8_9.out) (fun hh => ?_))
                            clear hK K
                            try simp only [Act.put, List.setIfInBounds_toArray, List.set_cons_zero, List.set_cons_succ]
                            refine wpAnyH_take (i := 9) (oi := { dst := some 104, op := Go.Op.move (.tmp 113), type := 27, pos := "top03.go:32", after := #[{ on := 8, ground := .data }], guard := none }) (v := .tuple #[.agg #[.string tq], vq]) rfl (by kernel_rfl) (by kernel_rfl) (by kernel_rfl) (fun _ _ _ h => h) (Or.inl ⟨by rfl, (fun w hSw => by (try dsimp only at hSw); obtain ⟨-, hc1, hc2⟩ := hSw; go_simp <;> (first | done | rfl))⟩) (by assumption) ?_
                            try simp only [Act.put, List.setIfInBounds_toArray, List.set_cons_zero, List.set_cons_succ]
                            refine wpAnyH_take (i := 10) (oi := { dst := some 114, op := Go.Op.extract (.tmp 104) 0, type := 24, pos := "top03.go:32", after := #[{ on := 9, ground := .data }], guard := none }) (v := .agg #[.string tq]) rfl (by kernel_rfl) (by kernel_rfl) (by kernel_rfl) (fun _ _ _ h => h) (Or.inl ⟨by rfl, (fun w hSw => by (try dsimp only at hSw); obtain ⟨-, hc1, hc2⟩ := hSw; go_simp <;> (first | done | rfl))⟩) (by assumption) ?_
                            try simp only [Act.put, List.setIfInBounds_toArray, List.set_cons_zero, List.set_cons_succ]
                            refine wpAnyH_take (i := 11) (oi := { dst := some 115, op := Go.Op.extract (.tmp 104) 1, type := 26, pos := "top03.go:32", after := #[{ on := 9, ground := .data }, { on := 13, ground := .gcOnly Go.Departure.lateStores }], guard := none }) (v := vq) rfl (by kernel_rfl) (by kernel_rfl) (by kernel_rfl) (fun _ _ _ h => h) (Or.inl ⟨by rfl, (fun w hSw => by (try dsimp only at hSw); obtain ⟨-, hc1, hc2⟩ := hSw; go_simp <;> (first | done | rfl))⟩) (by assumption) ?_
                            try simp only [Act.put, List.setIfInBounds_toArray, List.set_cons_zero, List.set_cons_succ]
                            refine wpAnyH_ready (rs := [13]) (by kernel_rfl) (by simp) ?_
                            refine AllReadyH.cons (o := { dst := none, op := Go.Op.store 24 (.tmp 18) (.tmp 114), type := 0, pos := "top03.go:32", after := #[{ on := 12, ground := .data }, { on := 10, ground := .data }, { on := 8, ground := .chain }, { on := 0, ground := .phase }, { on := 1, ground := .phase }, { on := 2, ground := .phase }, { on := 3, ground := .phase }, { on := 4, ground := .phase }, { on := 5, ground := .phase }, { on := 6, ground := .phase }, { on := 7, ground := .phase }, { on := 8, ground := .phase }, { on := 9, ground := .phase }, { on := 10, ground := .phase }, { on := 11, ground := .textOnly Go.Departure.lateStores }, { on := 12, ground := .phase }], guard := none }) rfl (fun K hK => ?_) AllReadyH.nil
                            · skip
                              go_simp
                              obtain ⟨w13_13, hw⟩ : ∃ wn, wn = w8_9.setCell ⟨w6_5.heap.size, 0, none⟩ (.string tq) := ⟨_, rfl⟩
                              rw [← hw]
                              have cq : w13_13.cell? ⟨w6_5.heap.size, 0, none⟩ = some (.string tq) := by rw [hw]; exact World.cell?_setCell_same' _ _ _ (by rw [al]; rfl)
                              have g13_13 : Hid (Gr wz w13_13) := Lib.hid (by rw [hw]; exact g8_9.out.setCell hnb _)
                              clear al fl hw
                              refine hK.out _ _ (HX.out _ g13_13.out) (fun hh => ?_)
                              clear hK K
                              try simp only [Act.put, List.setIfInBounds_toArray, List.set_cons_zero, List.set_cons_succ]
                              refine wpAnyH_take (i := 14) (oi := { dst := some 19, op := Go.Op.assign (.tmp 115), type := 26, pos := "top03.go:32", after := #[{ on := 11, ground := .data }, { on := 13, ground := .chain }, { on := 0, ground := .phase }, { on := 1, ground := .phase }, { on := 2, ground := .phase }, { on := 3, ground := .phase }, { on := 4, ground := .phase }, { on := 5, ground := .phase }, { on := 6, ground := .phase }, { on := 7, ground := .phase }, { on := 8, ground := .phase }, { on := 9, ground := .phase }, { on := 10, ground := .phase }, { on := 11, ground := .phase }, { on := 12, ground := .phase }, { on := 13, ground := .phase }], guard := none }) (v := vq) rfl (by kernel_rfl) (by kernel_rfl) (by kernel_rfl) (fun _ _ _ h => h) (Or.inl ⟨by rfl, (fun w hSw => by (try dsimp only at hSw); obtain ⟨-, hc1, hc2⟩ := hSw; go_simp <;> (first | done | rfl))⟩) (by assumption) ?_
                              try simp only [Act.put, List.setIfInBounds_toArray, List.set_cons_zero, List.set_cons_succ]
                              refine wpAnyH_done (by kernel_rfl) ?_ _
                              have pl := g13_13.out.cell pz
                              have fl9 := FZ.out _ g13_13.out
                              have G39 := Lib.hid (hGz.out.trans g13_13.out)
                              clear HX FZ hh pz hcell fz PO HMz HEz HZ hPP HPL hnb
                              rcases hV.out with ⟨ho, ht, hv⟩ | ⟨ho, bb, hv⟩
                              · subst hv
                                have GS := Lib.hid (G39.out.setCell (Nat.le_refl _) (.string tq) : Gr w6 (w13_13.setCell ⟨w6.heap.size, 0, none⟩ (.string tq)))
                                have ps : (w13_13.setCell ⟨w6.heap.size, 0, none⟩ (.string tq)).cell? ⟨w6.heap.size, 0, none⟩ = some (.string tq) := World.cell?_setCell_same' _ _ _ (by rw [pl]; rfl)
                                have fs : (w13_13.setCell ⟨w6.heap.size, 0, none⟩ (.string tq)).frozen? ⟨w6.heap.size, 0, none⟩ = false := by rw [World.frozen?_setCell]; exact fl9
                                have FQ := Lib.hid (fun w hh h3 => FD.out PP w hh ho h3)
                                rw [BELOW.out PP HPRE.out, ← ht] at FQ
                                have HO := Lib.hid ho
                                have HTQ := Lib.hid ht.symm
                                clear ho ht hV
                                go_wp2_with fail
                                refine (FQ.out _ (HT6.out.gr GS.out) (HE.out.gr (HG6.out.trans GS.out))).mono ?_
                                intro e w40 h40
                                obtain ⟨rfl, hg40⟩ := findIs_yes (by omega) h40
                                have ps2 := hg40.cell ps
                                have fs2 := (hg40.frozen (o := 0) (cell_lt ps)).trans fs
                                have G40 := Lib.hid (GS.out.trans hg40)
                                clear h40 hg40 ps fs pl fl9 cq
                                go_wp2
                                go_roundw
                                case rel => exact ⟨j + 1, PP, tq, by go_num, by omega, by omega, HPRE, HO, HTQ, ps2, fs2, G40⟩
                                case measure => simp [intOf]; omega
                              · subst hv
                                clear hV ho cq
                                go_wp2
                                go_roundw
                                case rel => exact ⟨j + 1, P, u, by go_num, by omega, by omega, hpre, hok, hu, pl, fl9, G39⟩
                                case measure => simp [intOf]; omega
                  · skip
                    go_simp
                    obtain ⟨w12_5, hw⟩ : ∃ wn, wn = w0.alloc (.cells #[.string ⟨#[]⟩] 24) := ⟨_, rfl⟩
                    rw [← hw]
                    have gx : Gr w0 w12_5 := by rw [hw]; exact (Gr.refl _).alloc _
                    have al : w12_5.cell? ⟨w0.heap.size, 0, none⟩ = some (.string ⟨#[]⟩) := by rw [hw]; exact new_cell rfl rfl
                    have fl : w12_5.frozen? ⟨w0.heap.size, 0, none⟩ = false := by rw [hw]; exact new_free rfl
                    have hnb : wz.heap.size ≤ w0.heap.size := HTn.out.size
                    have g12_5 := Lib.hid (HTn.out.trans gx)
                    clear gx hw
                    refine hK.out _ _ (HX.out _ g12_5.out) (fun hh => ?_)
                    clear hK K
                    try simp only [Act.put, List.setIfInBounds_toArray, List.set_cons_zero, List.set_cons_succ]
                    refine wpAnyH_ready (rs := [1, 6]) (by kernel_rfl) (by simp) ?_
                    refine AllReadyH.cons (o := { dst := some 106, op := Go.Op.call { callee := Go.Callee.value (.func 18), args := #[.tmp 105], argTypes := #[24] }, type := 29, pos := "top03.go:32", after := #[{ on := 0, ground := .data }], guard := none }) rfl (fun K hK => ?_) (AllReadyH.cons (o := { dst := some 111, op := Go.Op.buildSlice 29 1 #[(0, .tmp 110)], type := 29, pos := "top03.go:32", after := #[{ on := 5, ground := .data }], guard := none }) rfl (fun K hK => ?_) AllReadyH.nil)
                    · skip
                      go_simp
                      go_at_call 18; refine (PO.out _ (HMz.out.gr g12_5.out)).mono ?_
                      rintro e w1_6 ⟨pa, pc, rfl, own, gx⟩
                      have g1_6 := Lib.hid (g12_5.out.trans gx)
                      have hne : some (w0.heap.size) ≠ (Value.slice pa P.length pc).ownBlock := fun hx => by have h1 := (World.ownsRow.lt own _ hx.symm).1; have h2 := cell_lt al; omega
                      replace fl := (gx.frozen (o := 0) (cell_lt al)).trans fl
                      replace al := gx.cell al
                      replace own := World.ownsRow.mono own g12_5.out.size
                      clear gx
                      first | refine hK.out _ _ (HX.out _ g1_6.out) (fun hh => ?_) | (go_wp2_with fail; refine hK.out _ _ (HX.out _ g1_6.out) (fun hh => ?_))
                      clear hK K
                      try simp only [Act.put, List.setIfInBounds_toArray, List.set_cons_zero, List.set_cons_succ]
                      refine wpAnyH_ready (rs := [6]) (by kernel_rfl) (by simp) ?_
                      refine AllReadyH.cons (o := { dst := some 111, op := Go.Op.buildSlice 29 1 #[(0, .tmp 110)], type := 29, pos := "top03.go:32", after := #[{ on := 5, ground := .data }], guard := none }) rfl (fun K hK => ?_) AllReadyH.nil
                      · skip
                        go_simp
                        obtain ⟨w6_7, hw⟩ : ∃ wn, wn = w1_6.alloc (.cells #[.string s] 9) := ⟨_, rfl⟩
                        rw [← hw]
                        have gx : Gr w1_6 w6_7 := by rw [hw]; exact (Gr.refl _).alloc _
                        have el : w6_7.cell? ⟨w1_6.heap.size, 0, none⟩ = some (.string s) := by rw [hw]; exact new_cell rfl rfl
                        have g6_7 := Lib.hid (g1_6.out.trans gx)
                        replace fl := (gx.frozen (o := 0) (cell_lt al)).trans fl
                        replace al := gx.cell al
                        replace own := ownsRow_gr gx own
                        clear gx hw
                        refine hK.out _ _ (HX.out _ g6_7.out) (fun hh => ?_)
                        clear hK K
                        try simp only [Act.put, List.setIfInBounds_toArray, List.set_cons_zero, List.set_cons_succ]
                        refine wpAnyH_ready (rs := [7]) (by kernel_rfl) (by simp) ?_
                        refine AllReadyH.cons (o := { dst := some 112, op := Go.Op.call { callee := Go.Callee.builtin Go.Builtin.append, args := #[.tmp 106, .tmp 111], argTypes := #[29, 29] }, type := 29, pos := "top03.go:32", after := #[{ on := 1, ground := .data }, { on := 6, ground := .data }, { on := 1, ground := .chain }], guard := none }) rfl (fun K hK => ?_) AllReadyH.nil
                        · skip
                          refine step_append_lies _ (by rfl) _ _ _ (by rfl) wz.heap.size 9 i0 (.string ⟨#[]⟩) 1 16 Tryd.underlying29 hi hz0 hz1 hz2 rfl (by decide) (.slice pa P.length pc) P.length (strCells P) (by rfl) own ⟨w1_6.heap.size, 0, none⟩ 1 1 [.string s] (by rfl) (by rfl) (one_cell el) (by intro u' hu'; simp at hu'; subst hu'; rfl) (by omega) (by unfold maxLen; omega) (by omega) g6_7.out.size w6_7.heap.size (by rfl) ?_
                          intro ga ca w7_8 own7 hgrow _ _
                          have g7_8 := Lib.hid (g6_7.out.append own hgrow)
                          replace fl := (hgrow.frozen_far _ (cell_lt al) hne).trans fl
                          replace al := (hgrow.cell_far _ (cell_lt al) hne).trans al
                          clear hne
                          have own8 : w7_8.ownsRow wz.heap.size 9 1 (.slice (some ⟨ga, 0, none⟩) (P.length + 1) ca) PP.length (strCells PP) := by rw [hPP.out]; simpa [strCells] using own7
                          obtain ⟨af, cf, hv, hst⟩ := strs_of_row own8 HZ.out (by have := HPL.out; omega)
                          rw [hv]
                          clear hv own8 own7 hgrow own el
                          refine hK.out _ _ (HX.out _ g7_8.out) (fun hh => ?_)
                          clear hK K
                          try simp only [Act.put, List.setIfInBounds_toArray, List.set_cons_zero, List.set_cons_succ]
                          refine wpAnyH_ready (rs := [8]) (by kernel_rfl) (by simp) ?_
                          refine AllReadyH.cons (o := { dst := some 113, op := Go.Op.call { callee := Go.Callee.value (.func 20), args := #[.tmp 112], argTypes := #[29] }, type := 27, pos := "top03.go:32", after := #[{ on := 7, ground := .data }, { on := 7, ground := .chain }], guard := none }) rfl (fun K hK => ?_) AllReadyH.nil
                          · skip
                            go_simp
                            go_at_call 20
                            refine (made_any af PP cf w7_8 hst (HEz.out.gr g7_8.out)).mono ?_
                            intro e w8_9 hmade
                            obtain ⟨tq, vq, rfl, hV, gx⟩ := made_is hmade
                            have g8_9 := Lib.hid (g7_8.out.trans gx)
                            replace fl := (gx.frozen (o := 0) (cell_lt al)).trans fl
                            replace al := gx.cell al
                            clear gx hst hmade
                            first | refine hK.out _ _ (HX.out _ g8_9.out) (fun hh => ?_) | (go_wp2_with fail; refine hK.out _ _ (HX.out _ g8_9.out) (fun hh => ?_))
                            clear hK K
                            try simp only [Act.put, List.setIfInBounds_toArray, List.set_cons_zero, List.set_cons_succ]
                            refine wpAnyH_take (i := 9) (oi := { dst := some 104, op := Go.Op.move (.tmp 113), type := 27, pos := "top03.go:32", after := #[{ on := 8, ground := .data }], guard := none }) (v := .tuple #[.agg #[.string tq], vq]) rfl (by kernel_rfl) (by kernel_rfl) (by kernel_rfl) (fun _ _ _ h => h) (Or.inl ⟨by rfl, (fun w hSw => by (try dsimp only at hSw); obtain ⟨-, hc1, hc2⟩ := hSw; go_simp <;> (first | done | rfl))⟩) (by assumption) ?_
                            try simp only [Act.put, List.setIfInBounds_toArray, List.set_cons_zero, List.set_cons_succ]
                            refine wpAnyH_take (i := 10) (oi := { dst := some 114, op := Go.Op.extract (.tmp 104) 0, type := 24, pos := "top03.go:32", after := #[{ on := 9, ground := .data }], guard := none }) (v := .agg #[.string tq]) rfl (by kernel_rfl) (by kernel_rfl) (by kernel_rfl) (fun _ _ _ h => h) (Or.inl ⟨by rfl, (fun w hSw => by (try dsimp only at hSw); obtain ⟨-, hc1, hc2⟩ := hSw; go_simp <;> (first | done | rfl))⟩) (by assumption) ?_
                            try simp only [Act.put, List.setIfInBounds_toArray, List.set_cons_zero, List.set_cons_succ]
                            refine wpAnyH_take (i := 11) (oi := { dst := some 115, op := Go.Op.extract (.tmp 104) 1, type := 26, pos := "top03.go:32", after := #[{ on := 9, ground := .data }, { on := 13, ground := .gcOnly Go.Departure.lateStores }], guard := none }) (v := vq) rfl (by kernel_rfl) (by kernel_rfl) (by kernel_rfl) (fun _ _ _ h => h) (Or.inl ⟨by rfl, (fun w hSw => by (try dsimp only at hSw); obtain ⟨-, hc1, hc2⟩ := hSw; go_simp <;> (first | done | rfl))⟩) (by assumption) ?_
                            try simp only [Act.put, List.setIfInBounds_toArray, List.set_cons_zero, List.set_cons_succ]
                            refine wpAnyH_ready (rs := [13]) (by kernel_rfl) (by simp) ?_
                            refine AllReadyH.cons (o := { dst := none, op := Go.Op.store 24 (.tmp 18) (.tmp 114), type := 0, pos := "top03.go:32", after := #[{ on := 12, ground := .data }, { on := 10, ground := .data }, { on := 8, ground := .chain }, { on := 0, ground := .phase }, { on := 1, ground := .phase }, { on := 2, ground := .phase }, { on := 3, ground := .phase }, { on := 4, ground := .phase }, { on := 5, ground := .phase }, { on := 6, ground := .phase }, { on := 7, ground := .phase }, { on := 8, ground := .phase }, { on := 9, ground := .phase }, { on := 10, ground := .phase }, { on := 11, ground := .textOnly Go.Departure.lateStores }, { on := 12, ground := .phase }], guard := none }) rfl (fun K hK => ?_) AllReadyH.nil
                            · skip
                              go_simp
                              obtain ⟨w13_13, hw⟩ : ∃ wn, wn = w8_9.setCell ⟨w0.heap.size, 0, none⟩ (.string tq) := ⟨_, rfl⟩
                              rw [← hw]
                              have cq : w13_13.cell? ⟨w0.heap.size, 0, none⟩ = some (.string tq) := by rw [hw]; exact World.cell?_setCell_same' _ _ _ (by rw [al]; rfl)
                              have g13_13 : Hid (Gr wz w13_13) := Lib.hid (by rw [hw]; exact g8_9.out.setCell hnb _)
                              clear al fl hw
                              refine hK.out _ _ (HX.out _ g13_13.out) (fun hh => ?_)
                              clear hK K
                              try simp only [Act.put, List.setIfInBounds_toArray, List.set_cons_zero, List.set_cons_succ]
                              refine wpAnyH_take (i := 14) (oi := { dst := some 19, op := Go.Op.assign (.tmp 115), type := 26, pos := "top03.go:32", after := #[{ on := 11, ground := .data }, { on := 13, ground := .chain }, { on := 0, ground := .phase }, { on := 1, ground := .phase }, { on := 2, ground := .phase }, { on := 3, ground := .phase }, { on := 4, ground := .phase }, { on := 5, ground := .phase }, { on := 6, ground := .phase }, { on := 7, ground := .phase }, { on := 8, ground := .phase }, { on := 9, ground := .phase }, { on := 10, ground := .phase }, { on := 11, ground := .phase }, { on := 12, ground := .phase }, { on := 13, ground := .phase }], guard := none }) (v := vq) rfl (by kernel_rfl) (by kernel_rfl) (by kernel_rfl) (fun _ _ _ h => h) (Or.inl ⟨by rfl, (fun w hSw => by (try dsimp only at hSw); obtain ⟨-, hc1, hc2⟩ := hSw; go_simp <;> (first | done | rfl))⟩) (by assumption) ?_
                              try simp only [Act.put, List.setIfInBounds_toArray, List.set_cons_zero, List.set_cons_succ]
                              refine wpAnyH_done (by kernel_rfl) ?_ _
                              have pl := g13_13.out.cell pz
                              have fl9 := FZ.out _ g13_13.out
                              have G39 := Lib.hid (hGz.out.trans g13_13.out)
                              clear HX FZ hh pz hcell fz PO HMz HEz HZ hPP HPL hnb
                              rcases hV.out with ⟨ho, ht, hv⟩ | ⟨ho, bb, hv⟩
                              · subst hv
                                have GS := Lib.hid (G39.out.setCell (Nat.le_refl _) (.string tq) : Gr w6 (w13_13.setCell ⟨w6.heap.size, 0, none⟩ (.string tq)))
                                have ps : (w13_13.setCell ⟨w6.heap.size, 0, none⟩ (.string tq)).cell? ⟨w6.heap.size, 0, none⟩ = some (.string tq) := World.cell?_setCell_same' _ _ _ (by rw [pl]; rfl)
                                have fs : (w13_13.setCell ⟨w6.heap.size, 0, none⟩ (.string tq)).frozen? ⟨w6.heap.size, 0, none⟩ = false := by rw [World.frozen?_setCell]; exact fl9
                                have FQ := Lib.hid (fun w hh h3 => FD.out PP w hh ho h3)
                                rw [BELOW.out PP HPRE.out, ← ht] at FQ
                                have HO := Lib.hid ho
                                have HTQ := Lib.hid ht.symm
                                clear ho ht hV
                                go_wp2_with fail
                                refine (FQ.out _ (HT6.out.gr GS.out) (HE.out.gr (HG6.out.trans GS.out))).mono ?_
                                intro e w40 h40
                                obtain ⟨rfl, hg40⟩ := findIs_yes (by omega) h40
                                have ps2 := hg40.cell ps
                                have fs2 := (hg40.frozen (o := 0) (cell_lt ps)).trans fs
                                have G40 := Lib.hid (GS.out.trans hg40)
                                clear h40 hg40 ps fs pl fl9 cq
                                go_wp2
                                go_roundw
                                case rel => exact ⟨j + 1, PP, tq, by go_num, by omega, by omega, HPRE, HO, HTQ, ps2, fs2, G40⟩
                                case measure => simp [intOf]; omega
                              · subst hv
                                clear hV ho cq
                                go_wp2
                                go_roundw
                                case rel => exact ⟨j + 1, P, u, by go_num, by omega, by omega, hpre, hok, hu, pl, fl9, G39⟩
                                case measure => simp [intOf]; omega
                    · skip
                      go_simp
                      obtain ⟨w6_6, hw⟩ : ∃ wn, wn = w12_5.alloc (.cells #[.string s] 9) := ⟨_, rfl⟩
                      rw [← hw]
                      have gx : Gr w12_5 w6_6 := by rw [hw]; exact (Gr.refl _).alloc _
                      have el : w6_6.cell? ⟨w12_5.heap.size, 0, none⟩ = some (.string s) := by rw [hw]; exact new_cell rfl rfl
                      have g6_6 := Lib.hid (g12_5.out.trans gx)
                      replace fl := (gx.frozen (o := 0) (cell_lt al)).trans fl
                      replace al := gx.cell al
                      clear gx hw
                      refine hK.out _ _ (HX.out _ g6_6.out) (fun hh => ?_)
                      clear hK K
                      try simp only [Act.put, List.setIfInBounds_toArray, List.set_cons_zero, List.set_cons_succ]
                      refine wpAnyH_ready (rs := [1]) (by kernel_rfl) (by simp) ?_
                      refine AllReadyH.cons (o := { dst := some 106, op := Go.Op.call { callee := Go.Callee.value (.func 18), args := #[.tmp 105], argTypes := #[24] }, type := 29, pos := "top03.go:32", after := #[{ on := 0, ground := .data }], guard := none }) rfl (fun K hK => ?_) AllReadyH.nil
                      · skip
                        go_simp
                        go_at_call 18; refine (PO.out _ (HMz.out.gr g6_6.out)).mono ?_
                        rintro e w1_7 ⟨pa, pc, rfl, own, gx⟩
                        have g1_7 := Lib.hid (g6_6.out.trans gx)
                        have hne : some (w0.heap.size) ≠ (Value.slice pa P.length pc).ownBlock := fun hx => by have h1 := (World.ownsRow.lt own _ hx.symm).1; have h2 := cell_lt al; omega
                        replace fl := (gx.frozen (o := 0) (cell_lt al)).trans fl
                        replace al := gx.cell al
                        replace el := gx.cell el
                        replace own := World.ownsRow.mono own g6_6.out.size
                        clear gx
                        first | refine hK.out _ _ (HX.out _ g1_7.out) (fun hh => ?_) | (go_wp2_with fail; refine hK.out _ _ (HX.out _ g1_7.out) (fun hh => ?_))
                        clear hK K
                        try simp only [Act.put, List.setIfInBounds_toArray, List.set_cons_zero, List.set_cons_succ]
                        refine wpAnyH_ready (rs := [7]) (by kernel_rfl) (by simp) ?_
                        refine AllReadyH.cons (o := { dst := some 112, op := Go.Op.call { callee := Go.Callee.builtin Go.Builtin.append, args := #[.tmp 106, .tmp 111], argTypes := #[29, 29] }, type := 29, pos := "top03.go:32", after := #[{ on := 1, ground := .data }, { on := 6, ground := .data }, { on := 1, ground := .chain }], guard := none }) rfl (fun K hK => ?_) AllReadyH.nil
                        · skip
                          refine step_append_lies _ (by rfl) _ _ _ (by rfl) wz.heap.size 9 i0 (.string ⟨#[]⟩) 1 16 Tryd.underlying29 hi hz0 hz1 hz2 rfl (by decide) (.slice pa P.length pc) P.length (strCells P) (by rfl) own ⟨w12_5.heap.size, 0, none⟩ 1 1 [.string s] (by rfl) (by rfl) (one_cell el) (by intro u' hu'; simp at hu'; subst hu'; rfl) (by omega) (by unfold maxLen; omega) (by omega) g1_7.out.size w1_7.heap.size (by rfl) ?_
                          intro ga ca w7_8 own7 hgrow _ _
                          have g7_8 := Lib.hid (g1_7.out.append own hgrow)
                          replace fl := (hgrow.frozen_far _ (cell_lt al) hne).trans fl
                          replace al := (hgrow.cell_far _ (cell_lt al) hne).trans al
                          clear hne
                          have own8 : w7_8.ownsRow wz.heap.size 9 1 (.slice (some ⟨ga, 0, none⟩) (P.length + 1) ca) PP.length (strCells PP) := by rw [hPP.out]; simpa [strCells] using own7
                          obtain ⟨af, cf, hv, hst⟩ := strs_of_row own8 HZ.out (by have := HPL.out; omega)
                          rw [hv]
                          clear hv own8 own7 hgrow own el
                          refine hK.out _ _ (HX.out _ g7_8.out) (fun hh => ?_)
                          clear hK K
                          try simp only [Act.put, List.setIfInBounds_toArray, List.set_cons_zero, List.set_cons_succ]
                          refine wpAnyH_ready (rs := [8]) (by kernel_rfl) (by simp) ?_
                          refine AllReadyH.cons (o := { dst := some 113, op := Go.Op.call { callee := Go.Callee.value (.func 20), args := #[.tmp 112], argTypes := #[29] }, type := 27, pos := "top03.go:32", after := #[{ on := 7, ground := .data }, { on := 7, ground := .chain }], guard := none }) rfl (fun K hK => ?_) AllReadyH.nil
                          · skip
                            go_simp
                            go_at_call 20
                            refine (made_any af PP cf w7_8 hst (HEz.out.gr g7_8.out)).mono ?_
                            intro e w8_9 hmade
                            obtain ⟨tq, vq, rfl, hV, gx⟩ := made_is hmade
                            have g8_9 := Lib.hid (g7_8.out.trans gx)
                            replace fl := (gx.frozen (o := 0) (cell_lt al)).trans fl
                            replace al := gx.cell al
                            clear gx hst hmade
                            first | refine hK.out _ _ (HX.out _ g8_9.out) (fun hh => ?_) | (go_wp2_with fail; refine hK.out _ _ (HX.out _ g8_9.out) (fun hh => ?_))
                            clear hK K
                            try simp only [Act.put, List.setIfInBounds_toArray, List.set_cons_zero, List.set_cons_succ]
                            refine wpAnyH_take (i := 9) (oi := { dst := some 104, op := Go.Op.move (.tmp 113), type := 27, pos := "top03.go:32", after := #[{ on := 8, ground := .data }], guard := none }) (v := .tuple #[.agg #[.string tq], vq]) rfl (by kernel_rfl) (by kernel_rfl) (by kernel_rfl) (fun _ _ _ h => h) (Or.inl ⟨by rfl, (fun w hSw => by (try dsimp only at hSw); obtain ⟨-, hc1, hc2⟩ := hSw; go_simp <;> (first | done | rfl))⟩) (by assumption) ?_
                            try simp only [Act.put, List.setIfInBounds_toArray, List.set_cons_zero, List.set_cons_succ]
                            refine wpAnyH_take (i := 10) (oi := { dst := some 114, op := Go.Op.extract (.tmp 104) 0, type := 24, pos := "top03.go:32", after := #[{ on := 9, ground := .data }], guard := none }) (v := .agg #[.string tq]) rfl (by kernel_rfl) (by kernel_rfl) (by kernel_rfl) (fun _ _ _ h => h) (Or.inl ⟨by rfl, (fun w hSw => by (try dsimp only at hSw); obtain ⟨-, hc1, hc2⟩ := hSw; go_simp <;> (first | done | rfl))⟩) (by assumption) ?_
                            try simp only [Act.put, List.setIfInBounds_toArray, List.set_cons_zero, List.set_cons_succ]
                            refine wpAnyH_take (i := 11) (oi := { dst := some 115, op := Go.Op.extract (.tmp 104) 1, type := 26, pos := "top03.go:32", after := #[{ on := 9, ground := .data }, { on := 13, ground := .gcOnly Go.Departure.lateStores }], guard := none }) (v := vq) rfl (by kernel_rfl) (by kernel_rfl) (by kernel_rfl) (fun _ _ _ h => h) (Or.inl ⟨by rfl, (fun w hSw => by (try dsimp only at hSw); obtain ⟨-, hc1, hc2⟩ := hSw; go_simp <;> (first | done | rfl))⟩) (by assumption) ?_
                            try simp only [Act.put, List.setIfInBounds_toArray, List.set_cons_zero, List.set_cons_succ]
                            refine wpAnyH_ready (rs := [13]) (by kernel_rfl) (by simp) ?_
                            refine AllReadyH.cons (o := { dst := none, op := Go.Op.store 24 (.tmp 18) (.tmp 114), type := 0, pos := "top03.go:32", after := #[{ on := 12, ground := .data }, { on := 10, ground := .data }, { on := 8, ground := .chain }, { on := 0, ground := .phase }, { on := 1, ground := .phase }, { on := 2, ground := .phase }, { on := 3, ground := .phase }, { on := 4, ground := .phase }, { on := 5, ground := .phase }, { on := 6, ground := .phase }, { on := 7, ground := .phase }, { on := 8, ground := .phase }, { on := 9, ground := .phase }, { on := 10, ground := .phase }, { on := 11, ground := .textOnly Go.Departure.lateStores }, { on := 12, ground := .phase }], guard := none }) rfl (fun K hK => ?_) AllReadyH.nil
                            · skip
                              go_simp
                              obtain ⟨w13_13, hw⟩ : ∃ wn, wn = w8_9.setCell ⟨w0.heap.size, 0, none⟩ (.string tq) := ⟨_, rfl⟩
                              rw [← hw]
                              have cq : w13_13.cell? ⟨w0.heap.size, 0, none⟩ = some (.string tq) := by rw [hw]; exact World.cell?_setCell_same' _ _ _ (by rw [al]; rfl)
                              have g13_13 : Hid (Gr wz w13_13) := Lib.hid (by rw [hw]; exact g8_9.out.setCell hnb _)
                              clear al fl hw
                              refine hK.out _ _ (HX.out _ g13_13.out) (fun hh => ?_)
                              clear hK K
                              try simp only [Act.put, List.setIfInBounds_toArray, List.set_cons_zero, List.set_cons_succ]
                              refine wpAnyH_take (i := 14) (oi := { dst := some 19, op := Go.Op.assign (.tmp 115), type := 26, pos := "top03.go:32", after := #[{ on := 11, ground := .data }, { on := 13, ground := .chain }, { on := 0, ground := .phase }, { on := 1, ground := .phase }, { on := 2, ground := .phase }, { on := 3, ground := .phase }, { on := 4, ground := .phase }, { on := 5, ground := .phase }, { on := 6, ground := .phase }, { on := 7, ground := .phase }, { on := 8, ground := .phase }, { on := 9, ground := .phase }, { on := 10, ground := .phase }, { on := 11, ground := .phase }, { on := 12, ground := .phase }, { on := 13, ground := .phase }], guard := none }) (v := vq) rfl (by kernel_rfl) (by kernel_rfl) (by kernel_rfl) (fun _ _ _ h => h) (Or.inl ⟨by rfl, (fun w hSw => by (try dsimp only at hSw); obtain ⟨-, hc1, hc2⟩ := hSw; go_simp <;> (first | done | rfl))⟩) (by assumption) ?_
                              try simp only [Act.put, List.setIfInBounds_toArray, List.set_cons_zero, List.set_cons_succ]
                              refine wpAnyH_done (by kernel_rfl) ?_ _
                              have pl := g13_13.out.cell pz
                              have fl9 := FZ.out _ g13_13.out
                              have G39 := Lib.hid (hGz.out.trans g13_13.out)
                              clear HX FZ hh pz hcell fz PO HMz HEz HZ hPP HPL hnb
                              rcases hV.out with ⟨ho, ht, hv⟩ | ⟨ho, bb, hv⟩
                              · subst hv
                                have GS := Lib.hid (G39.out.setCell (Nat.le_refl _) (.string tq) : Gr w6 (w13_13.setCell ⟨w6.heap.size, 0, none⟩ (.string tq)))
                                have ps : (w13_13.setCell ⟨w6.heap.size, 0, none⟩ (.string tq)).cell? ⟨w6.heap.size, 0, none⟩ = some (.string tq) := World.cell?_setCell_same' _ _ _ (by rw [pl]; rfl)
                                have fs : (w13_13.setCell ⟨w6.heap.size, 0, none⟩ (.string tq)).frozen? ⟨w6.heap.size, 0, none⟩ = false := by rw [World.frozen?_setCell]; exact fl9
                                have FQ := Lib.hid (fun w hh h3 => FD.out PP w hh ho h3)
                                rw [BELOW.out PP HPRE.out, ← ht] at FQ
                                have HO := Lib.hid ho
                                have HTQ := Lib.hid ht.symm
                                clear ho ht hV
                                go_wp2_with fail
                                refine (FQ.out _ (HT6.out.gr GS.out) (HE.out.gr (HG6.out.trans GS.out))).mono ?_
                                intro e w40 h40
                                obtain ⟨rfl, hg40⟩ := findIs_yes (by omega) h40
                                have ps2 := hg40.cell ps
                                have fs2 := (hg40.frozen (o := 0) (cell_lt ps)).trans fs
                                have G40 := Lib.hid (GS.out.trans hg40)
                                clear h40 hg40 ps fs pl fl9 cq
                                go_wp2
                                go_roundw
                                case rel => exact ⟨j + 1, PP, tq, by go_num, by omega, by omega, HPRE, HO, HTQ, ps2, fs2, G40⟩
                                case measure => simp [intOf]; omega
                              · subst hv
                                clear hV ho cq
                                go_wp2
                                go_roundw
                                case rel => exact ⟨j + 1, P, u, by go_num, by omega, by omega, hpre, hok, hu, pl, fl9, G39⟩
                                case measure => simp [intOf]; omega
                · have hex3 : (j : Int) < (tt.length : Int) ∧ (6 : Int) ≤ j ∨ (tt.length : Int) ≤ j := by omega
                  clear pz fz
                  have GTz := Lib.hid (HT6.out.gr hGz.out)
                  have FQ := Lib.hid (fun w hh h3 => FD.out M w hh HLok.out h3)
                  rw [BELOW.out M (List.prefix_refl _), HTX.out] at FQ
                  rcases hex3 with ⟨hx3, hx4⟩ | hx3
                  all_goals
                    go_wp2_with fail
                    refine (PR.out _ GTz.out).mono ?_
                    rintro e w41 ⟨rfl, hg41⟩
                    have G41 := Lib.hid (hGz.out.trans hg41)
                    clear hg41
                    go_wp2_with fail
                    refine (FQ.out _ (HT6.out.gr G41.out) (HE.out.gr (HG6.out.trans G41.out))).mono ?_
                    intro e w42 h42
                    obtain ⟨rfl, hg42⟩ := findIs_yes (by omega) h42
                    have G42 := Lib.hid ((HG6.out.trans G41.out).trans hg42)
                    clear h42 hg42
                    go_wp2
                    go_ret
                    exact ⟨by first | rfl | simp, G42.out⟩
            · have hpos : 0 < Q.length := List.length_pos_iff.2 hQ0
              obtain ⟨u', hu'⟩ : ∃ u', ptext Q.dropLast = u' := ⟨_, rfl⟩
              have hsz : u'.size < u.size := by rw [← hu', ← hu.out]; exact ptext_up hQ0
              have hdp : Q.dropLast <+: M := (List.dropLast_prefix Q).trans hQ.out
              have hFO : findOf L Q.dropLast = -1 := ABOVE.out _ hdp (by
                have h1 := hQ.out.length_le
                rw [List.length_dropLast]; omega)
              have hokd := pre_ok hdp HLok.out
              have FQ := Lib.hid (fun w hh h3 => FD.out Q.dropLast w hh hokd h3)
              rw [hFO, hu'] at FQ
              rw [hu'] at U
              have HU' := Lib.hid hu'
              have HDP := Lib.hid hdp
              clear hu' hdp hFO hokd hok hQ0
              go_wp2_with fail
              refine (D.out _).mono ?_
              rintro e w9 ⟨rfl, hg9⟩
              have c1 := hg9.cell c0
              have f1 := (hg9.frozen (o := 0) hlt9).trans f0
              have HG9 := Lib.hid (hG9.out.trans hg9)
              clear hg9 c0 f0 hlt9
              go_wp2_with fail
              refine (U.out _).mono ?_
              rintro e w10 ⟨rfl, hg10⟩
              have c2 := hg10.cell c1
              have f2 := (hg10.frozen (o := 0) (cell_lt c1)).trans f1
              have HG10 := Lib.hid (HG9.out.trans hg10)
              clear hg10 c1 f1
              have HG11 := Lib.hid (HG10.out.setCell hqb.out (.string u') : Gr w7 (w10.setCell ⟨qb, 0, none⟩ (.string u')))
              have c3 : (w10.setCell ⟨qb, 0, none⟩ (.string u')).cell? ⟨qb, 0, none⟩ = some (.string u') := World.cell?_setCell_same' _ _ _ (by rw [c2]; rfl)
              have f3 : (w10.setCell ⟨qb, 0, none⟩ (.string u')).frozen? ⟨qb, 0, none⟩ = false := by rw [World.frozen?_setCell]; exact f2
              have GT := Lib.hid (HT6.out.gr (HG67.out.trans HG11.out))
              have GE := Lib.hid (HE.out.gr ((HG6.out.trans HG67.out).trans HG11.out))
              go_wp2_with fail
              refine (FQ.out _ GT.out GE.out).mono ?_
              intro e w12 h12
              obtain ⟨b12, rfl, -, hg12⟩ := findIs_no h12
              have c4 := hg12.cell c3
              have f4 := (hg12.frozen (o := 0) (cell_lt c3)).trans f3
              have HG12 := Lib.hid (HG11.out.trans hg12)
              have HQB : Hid (w7.heap.size ≤ w12.heap.size) := Lib.hid HG12.out.size
              clear h12 hg12 c2 c3 f2 f3
              go_wp2
              go_roundw
              case rel => exact ⟨Q.dropLast, u', w12.heap.size, by first | rfl | simp, HDP, HU', new_cell rfl rfl, new_free rfl, Lib.hid (HG12.out.alloc _), HQB⟩
              case measure =>
                have e1 : (w12.alloc (.cells #[.string u'] 24)).cell? ⟨w12.heap.size, 0, none⟩ = some (.string u') := new_cell rfl rfl
                simp [qSize, e1, C0.out]
                try omega
        · skip
          go_wp2_with fail
          refine NW.out.mono ?_
          intro e w3 h3
          obtain ⟨b, rfl, htab, hg3⟩ := newIs_ok h3
          have HG3 := Lib.hid (hG.out.trans hg3)
          have HT3 := Lib.hid htab
          clear h3 htab hg3 NW
          go_wp2_with fail
          refine (len_any b L _ HT3.out).mono ?_
          rintro e w4 ⟨rfl, rfl⟩
          go_wp2
          have HX : Hid (∀ w0 w9 : World, Gr w0 w9 → Gr w3 w0 ∧ TabIs w0 b L → Gr w3 w9 ∧ TabIs w9 b L) := Lib.hid fun w0 w9 hg ⟨h1, h2⟩ => ⟨h1.trans hg, h2.gr hg⟩
          have HS0 := And.intro (Gr.refl w3) HT3.out
          have LE := Lib.hid (fun w hh => len_any b L w hh)
          have hLne : ¬ L = [] := by intro hh; rw [hh] at hL1; simp at hL1
          have hxb : -(L.length : Int) < N.tmod L.length ∧ N.tmod L.length < (L.length : Int) := by
            have h1 := Int.tmod_lt_of_pos N (show (0 : Int) < L.length by omega)
            have h2 := Int.tmod_lt_of_pos (-N) (show (0 : Int) < L.length by omega)
            rw [Int.neg_tmod] at h2
            omega
          obtain ⟨kk, hkk, hkl⟩ : ∃ kk : Nat, (N.tmod L.length + L.length).tmod L.length = kk ∧ kk < L.length := by
            have h1 := Int.tmod_lt_of_pos (N.tmod L.length + L.length) (show (0 : Int) < L.length by omega)
            have h2 := Int.tmod_nonneg (a := N.tmod L.length + L.length) (L.length : Int) (by omega)
            exact ⟨((N.tmod L.length + L.length).tmod L.length).toNat, by omega, by omega⟩
          obtain ⟨x, hx⟩ : ∃ x, N.tmod L.length = x := ⟨_, rfl⟩
          rw [hx] at hxb hkk
          have hw1 : IntKind.i64.wrap (x + L.length) = x + L.length := IntWalk.i64_in _ (by omega)
          refine wp_region_held_drew (S := (fun w' => Gr w3 w' ∧ TabIs w' b L)) (by kernel_rfl) ?invb (fun h0 => ?_)
          case invb => ((try dsimp only); (first | exact HS0 | exact HX.out _ _ ((Gr.refl _).drew) HS0))
          refine wpAnyH_take (i := 0) (oi := { dst := some 62, op := Go.Op.move (.tmp 2), type := 3, pos := "top03.go:23", after := #[], guard := none }) (v := ?vb0) rfl (by kernel_rfl) (by kernel_rfl) (by kernel_rfl) (fun _ _ _ h => h) (Or.inl ⟨by rfl, ?rb0⟩) (by assumption) ?_
          case rb0 => (intro w hSw; (try dsimp only at hSw); (go_simp <;> with_reducible rfl))
          try simp only [Act.put, List.setIfInBounds_toArray, List.set_cons_zero, List.set_cons_succ]
          refine wpAnyH_take (i := 1) (oi := { dst := some 63, op := Go.Op.move (.tmp 11), type := 52, pos := "top03.go:23", after := #[], guard := none }) (v := ?vb1) rfl (by kernel_rfl) (by kernel_rfl) (by kernel_rfl) (fun _ _ _ h => h) (Or.inl ⟨by rfl, ?rb1⟩) (by assumption) ?_
          case rb1 => (intro w hSw; (try dsimp only at hSw); (go_simp <;> with_reducible rfl))
          try simp only [Act.put, List.setIfInBounds_toArray, List.set_cons_zero, List.set_cons_succ]
          refine wpAnyH_take (i := 4) (oi := { dst := some 66, op := Go.Op.move (.tmp 11), type := 52, pos := "top03.go:23", after := #[], guard := none }) (v := ?vb4) rfl (by kernel_rfl) (by kernel_rfl) (by kernel_rfl) (fun _ _ _ h => h) (Or.inl ⟨by rfl, ?rb4⟩) (by assumption) ?_
          case rb4 => (intro w hSw; (try dsimp only at hSw); (go_simp <;> with_reducible rfl))
          try simp only [Act.put, List.setIfInBounds_toArray, List.set_cons_zero, List.set_cons_succ]
          refine wpAnyH_take (i := 7) (oi := { dst := some 69, op := Go.Op.move (.tmp 11), type := 52, pos := "top03.go:23", after := #[], guard := none }) (v := ?vb7) rfl (by kernel_rfl) (by kernel_rfl) (by kernel_rfl) (fun _ _ _ h => h) (Or.inl ⟨by rfl, ?rb7⟩) (by assumption) ?_
          case rb7 => (intro w hSw; (try dsimp only at hSw); (go_simp <;> with_reducible rfl))
          try simp only [Act.put, List.setIfInBounds_toArray, List.set_cons_zero, List.set_cons_succ]
          refine wpAnyH_ready (rs := [2]) (by kernel_rfl) (by simp) ?_
          refine AllReadyH.cons (o := { dst := some 64, op := Go.Op.call { callee := Go.Callee.value (.func 34), args := #[.tmp 63], argTypes := #[52] }, type := 3, pos := "top03.go:23", after := #[{ on := 1, ground := .data }], guard := none }) rfl (fun K hK => ?_) AllReadyH.nil
          go_simp
          (go_at_call 34; refine (LE.out _ h0.2).mono ?_; rintro e w9 ⟨rfl, rfl⟩)
          first | refine hK.out _ _ ?sb1 (fun h1 => ?_) | (go_wp2_with fail; refine hK.out _ _ ?sb1 (fun h1 => ?_))
          case sb1 => ((try dsimp only); exact h0)
          clear hK K h0
          try simp only [Act.put, List.setIfInBounds_toArray, List.set_cons_zero, List.set_cons_succ]
          refine wpAnyH_take (i := 3) (oi := { dst := some 65, op := Go.Op.binOp Go.BinOp.rem 3 (.tmp 62) (.tmp 64) 3, type := 3, pos := "top03.go:23", after := #[{ on := 0, ground := .data }, { on := 2, ground := .data }], guard := none }) (v := .int .i64 x) rfl (by kernel_rfl) (by kernel_rfl) (by kernel_rfl) (fun _ _ _ h => h) (Or.inl ⟨by rfl, ?rb3⟩) (by assumption) ?_
          case rb3 => (intro w hSw; (try dsimp only at hSw); go_simp; (first | done | rfl | (rw [if_neg hLne])))
          try simp only [Act.put, List.setIfInBounds_toArray, List.set_cons_zero, List.set_cons_succ]
          refine wpAnyH_ready (rs := [5]) (by kernel_rfl) (by simp) ?_
          refine AllReadyH.cons (o := { dst := some 67, op := Go.Op.call { callee := Go.Callee.value (.func 34), args := #[.tmp 66], argTypes := #[52] }, type := 3, pos := "top03.go:23", after := #[{ on := 4, ground := .data }, { on := 2, ground := .chain }], guard := none }) rfl (fun K hK => ?_) AllReadyH.nil
          go_simp
          (go_at_call 34; refine (LE.out _ h1.2).mono ?_; rintro e w9 ⟨rfl, rfl⟩)
          first | refine hK.out _ _ ?sb2 (fun h2 => ?_) | (go_wp2_with fail; refine hK.out _ _ ?sb2 (fun h2 => ?_))
          case sb2 => ((try dsimp only); exact h1)
          clear hK K h1
          try simp only [Act.put, List.setIfInBounds_toArray, List.set_cons_zero, List.set_cons_succ]
          refine wpAnyH_take (i := 6) (oi := { dst := some 68, op := Go.Op.binOp Go.BinOp.add 3 (.tmp 65) (.tmp 67) 3, type := 3, pos := "top03.go:23", after := #[{ on := 3, ground := .data }, { on := 5, ground := .data }], guard := none }) (v := ?vb6) rfl (by kernel_rfl) (by kernel_rfl) (by kernel_rfl) (fun _ _ _ h => h) (Or.inl ⟨by rfl, ?rb6⟩) (by assumption) ?_
          case rb6 => (intro w hSw; (try dsimp only at hSw); (go_simp <;> with_reducible rfl))
          try simp only [Act.put, List.setIfInBounds_toArray, List.set_cons_zero, List.set_cons_succ]
          refine wpAnyH_ready (rs := [8]) (by kernel_rfl) (by simp) ?_
          refine AllReadyH.cons (o := { dst := some 70, op := Go.Op.call { callee := Go.Callee.value (.func 34), args := #[.tmp 69], argTypes := #[52] }, type := 3, pos := "top03.go:23", after := #[{ on := 7, ground := .data }, { on := 5, ground := .chain }], guard := none }) rfl (fun K hK => ?_) AllReadyH.nil
          go_simp
          (go_at_call 34; refine (LE.out _ h2.2).mono ?_; rintro e w9 ⟨rfl, rfl⟩)
          first | refine hK.out _ _ ?sb3 (fun h3 => ?_) | (go_wp2_with fail; refine hK.out _ _ ?sb3 (fun h3 => ?_))
          case sb3 => ((try dsimp only); exact h2)
          clear hK K h2
          try simp only [Act.put, List.setIfInBounds_toArray, List.set_cons_zero, List.set_cons_succ]
          refine wpAnyH_take (i := 9) (oi := { dst := some 71, op := Go.Op.binOp Go.BinOp.rem 3 (.tmp 68) (.tmp 70) 3, type := 3, pos := "top03.go:23", after := #[{ on := 6, ground := .data }, { on := 8, ground := .data }], guard := none }) (v := .int .i64 (kk : Nat)) rfl (by kernel_rfl) (by kernel_rfl) (by kernel_rfl) (fun _ _ _ h => h) (Or.inl ⟨by rfl, ?rb9⟩) (by assumption) ?_
          case rb9 => (intro w hSw; (try dsimp only at hSw); go_simp; (first | done | rfl | (rw [if_neg hLne])))
          try simp only [Act.put, List.setIfInBounds_toArray, List.set_cons_zero, List.set_cons_succ]
          refine wpAnyH_take (i := 10) (oi := { dst := some 2, op := Go.Op.assign (.tmp 71), type := 3, pos := "top03.go:23", after := #[{ on := 9, ground := .data }, { on := 8, ground := .chain }, { on := 0, ground := .phase }, { on := 1, ground := .phase }, { on := 2, ground := .phase }, { on := 3, ground := .phase }, { on := 4, ground := .phase }, { on := 5, ground := .phase }, { on := 6, ground := .phase }, { on := 7, ground := .phase }, { on := 8, ground := .phase }, { on := 9, ground := .phase }], guard := none }) (v := ?vb10) rfl (by kernel_rfl) (by kernel_rfl) (by kernel_rfl) (fun _ _ _ h => h) (Or.inl ⟨by rfl, ?rb10⟩) (by assumption) ?_
          case rb10 => (intro w hSw; (try dsimp only at hSw); (go_simp <;> with_reducible rfl))
          try simp only [Act.put, List.setIfInBounds_toArray, List.set_cons_zero, List.set_cons_succ]
          refine wpAnyH_done (by kernel_rfl) ?_ _
          have HGd := Lib.hid HG3.out.drew
          have HTd := Lib.hid (HT3.out.gr ((Gr.refl _).drew))
          clear HS0 HX LE
          generalize w3.drew = w5 at *
          have PR := Lib.hid (fun w hh => prefix_any b L (kk : Nat) w hh hL4)
          rw [show prefixOf L (kk : Nat) = L[kk] by unfold prefixOf; rw [if_neg (by omega)]; simp [List.getD_eq_getElem?_getD, hkl]] at PR
          have FD := Lib.hid (fun q w (hh : TabIs w b L) (h2 : okParts q = true) h3 => find_any b L q w hh h2 h3 hL4)
          have HLok := Lib.hid (show okParts L[kk] = true from HTd.out.choose_spec.choose_spec.2.2 _ (List.getElem_mem hkl))
          have ABOVE := Lib.hid (fun q hq hne => find_above hcl hkl (q := q) hq hne)
          have BELOW := Lib.hid (fun p hp => find_below hcl hkl (p := p) hp)
          generalize L[kk] = M at *
          go_wp2_with fail
          refine (PR.out _ HTd.out).mono ?_
          rintro e w6 ⟨rfl, hg6⟩
          have HG6 := Lib.hid (HGd.out.trans hg6)
          have HT6 := Lib.hid (HTd.out.gr hg6)
          clear hg6 hw1 hkk hx hxb
          obtain ⟨t, ht⟩ : ∃ t, ptext M = t := ⟨_, rfl⟩
          have HTX := Lib.hid ht
          rw [ht] at PR
          rw [ht]
          clear ht
          obtain ⟨w7, hw7⟩ : ∃ w7, w7 = w6.alloc (.cells #[.string t] 24) := ⟨_, rfl⟩
          have HG67 := Lib.hid (show Gr w6 w7 by rw [hw7]; exact (Gr.refl _).alloc _)
          have P7 := Lib.hid (show w7.cell? ⟨w6.heap.size, 0, none⟩ = some (.string t) by rw [hw7]; exact new_cell rfl rfl)
          have F7 := Lib.hid (show w7.frozen? ⟨w6.heap.size, 0, none⟩ = false by rw [hw7]; exact new_free rfl)
          have HS7 := Lib.hid (show w7.heap.size = w6.heap.size + 1 by rw [hw7]; simp)
          have p7 : (w6.alloc (.cells #[.string t] 24)).cell? ⟨w6.heap.size, 0, none⟩ = some (.string t) := new_cell rfl rfl
          go_wp2
          rw [← hw7]
          rw [← hw7] at p7
          have q8 : (w7.alloc (.cells #[.string t] 24)).cell? ⟨w7.heap.size, 0, none⟩ = some (.string t) := new_cell rfl rfl
          have f8 : (w7.alloc (.cells #[.string t] 24)).frozen? ⟨w7.heap.size, 0, none⟩ = false := new_free rfl
          clear hw7 p7
          go_loopw [14] (fun v wr => ∃ (Q : List ByteArray) (u : ByteArray) (qb : Nat), v = .pointer (some ⟨qb, 0, none⟩) ∧ Hid (Q <+: M) ∧ Hid (ptext Q = u) ∧ wr.cell? ⟨qb, 0, none⟩ = some (.string u) ∧ wr.frozen? ⟨qb, 0, none⟩ = false ∧ Hid (Gr w7 wr) ∧ Hid (w7.heap.size ≤ qb)) (fun v wr => qSize v wr)
          case atStart => exact ⟨M, t, w7.heap.size, by first | rfl | (simp [HS7.out]), Lib.hid (List.prefix_refl _), HTX, q8, f8, Lib.hid ((Gr.refl _).alloc _), Lib.hid (Nat.le_refl _)⟩
          case round =>
            obtain ⟨Q, u, qb, rfl, hQ, hu, c0, f0, hG9, hqb⟩ := hrel
            clear q8 f8
            have C0 := Lib.hid c0
            have hok := pre_ok hQ.out HLok.out
            have D := Lib.hid (fun w => depth_any Q w hok)
            have U := Lib.hid (fun w => up_any Q w hok)
            have hlt9 := cell_lt c0
            have hQ6 : Q.length ≤ 6 := by simp only [okParts, Bool.and_eq_true, decide_eq_true_eq] at hok; exact hok.1
            rw [hu.out] at D U
            by_cases hQ0 : Q = []
            · have hq0 : Q.length = 0 := by rw [hQ0]; rfl
              rw [hq0] at D
              clear hQ0 hok hq0 hQ6 C0
              go_wp2_with fail
              refine (D.out _).mono ?_
              rintro e w9 ⟨rfl, hg9⟩
              have HG9 := Lib.hid (hG9.out.trans hg9)
              clear hg9 c0 f0 D U hu hQ hG9 hqb hlt9
              have p9 := HG9.out.cell P7.out
              have f9 := (HG9.out.frozen (o := 0) (cell_lt P7.out)).trans F7.out
              have G69 := Lib.hid (HG67.out.trans HG9.out)
              clear P7 F7 HG67
              go_wp2
              go_loopw [17] (fun v wr => ∃ (j : Nat) (P : List ByteArray) (u : ByteArray), v = .int .i64 (j : Nat) ∧ j ≤ tt.length ∧ j ≤ 6 ∧ Hid (M <+: P) ∧ Hid (okParts P = true) ∧ Hid (ptext P = u) ∧ wr.cell? ⟨w6.heap.size, 0, none⟩ = some (.string u) ∧ wr.frozen? ⟨w6.heap.size, 0, none⟩ = false ∧ Hid (Gr w6 wr)) (fun v _ => tt.length - (intOf v).toNat)
              case atStart => exact ⟨0, M, t, rfl, by omega, by omega, Lib.hid (List.prefix_refl _), HLok, HTX, p9, f9, G69⟩
              case round =>
                obtain ⟨j, P, u, rfl, hj, hj6, hpre, hok, hu, pz, fz, hGz⟩ := hrel
                clear p9 f9 G69 HG9
                rename World => wz
                by_cases hend3 : j < tt.length ∧ j < 6
                · obtain ⟨hlt3, h63⟩ := hend3
                  obtain ⟨b2, off2, ea, hb2, hcell, hs63⟩ := HS'.out.at j hlt3
                  subst ea
                  replace hcell := hGz.out.cell (HG6.out.cell hcell)
                  have HMz := Lib.hid (HM.out.gr (HG6.out.trans hGz.out))
                  have HEz := Lib.hid (HE.out.gr (HG6.out.trans hGz.out))
                  have PO := Lib.hid (fun w hm => parts2_any P w hok.out hm)
                  rw [hu.out] at PO
                  have hP6 : P.length ≤ 6 := by
                    have h2 := hok.out
                    simp only [okParts, Bool.and_eq_true, decide_eq_true_eq] at h2; exact h2.1
                  have HZ0 := Lib.hid (okParts_strs hok.out)
                  obtain ⟨s, hs⟩ : ∃ s, tt[j] = s := ⟨_, rfl⟩
                  rw [hs] at hcell hs63
                  clear hs
                  obtain ⟨PP, hpp⟩ : ∃ PP, PP = P ++ [s] := ⟨_, rfl⟩
                  have HPL := Lib.hid (show PP.length = P.length + 1 by rw [hpp]; simp)
                  have HPRE := Lib.hid (show M <+: PP by rw [hpp]; exact hpre.out.trans (List.prefix_append _ _))
                  have HZ := Lib.hid (show ∀ x ∈ PP, x.size ≤ 9223372036854775807 by
                    rw [hpp]; intro x hx
                    rcases List.mem_append.1 hx with h | h
                    · exact HZ0.out.1 _ h
                    · simp at h; subst h; exact hs63)
                  have hPP := Lib.hid hpp
                  clear hpp HZ0 hs63 hb2
                  have HX : Hid (∀ w9, Gr wz w9 → Gr wz w9 ∧ w9.cell? ⟨w6.heap.size, 0, none⟩ = some (.string u) ∧ w9.cell? ⟨b2, off2 + j, none⟩ = some (.string s)) := Lib.hid fun w9 hg => ⟨hg, hg.cell pz, hg.cell hcell⟩
                  have FZ : Hid (∀ w9, Gr wz w9 → w9.frozen? ⟨w6.heap.size, 0, none⟩ = false) := Lib.hid fun w9 hg => (hg.frozen (o := 0) (cell_lt pz)).trans fz
                  go_wp2
                  refine wp_region_held_drew (S := (fun w' => Gr wz w' ∧ w'.cell? ⟨w6.heap.size, 0, none⟩ = some (.string u) ∧ w'.cell? ⟨b2, off2 + j, none⟩ = some (.string s))) (by kernel_rfl) (HX.out _ ((Gr.refl wz).drew)) (fun hh => ?_)
                  have HTn := Lib.hid ((Gr.refl wz).drew)
                  generalize wz.drew = w0 at *
                  refine wpAnyH_take (i := 0) (oi := { dst := some 105, op := Go.Op.load 24 (.tmp 13), type := 24, pos := "top03.go:32", after := #[], guard := none }) (v := .agg #[.string u]) rfl (by kernel_rfl) (by kernel_rfl) (by kernel_rfl) (fun _ _ _ h => h) (Or.inl ⟨by rfl, (fun w hSw => by (try dsimp only at hSw); obtain ⟨-, hc1, hc2⟩ := hSw; go_simp <;> (first | done | rfl))⟩) (by assumption) ?_
                  try simp only [Act.put, List.setIfInBounds_toArray, List.set_cons_zero, List.set_cons_succ]
                  refine wpAnyH_take (i := 2) (oi := { dst := some 107, op := Go.Op.move (.tmp 1), type := 29, pos := "top03.go:32", after := #[], guard := none }) (v := .slice (some ⟨b2, off2, none⟩) tt.length c') rfl (by kernel_rfl) (by kernel_rfl) (by kernel_rfl) (fun _ _ _ h => h) (Or.inl ⟨by rfl, (fun w hSw => by (try dsimp only at hSw); obtain ⟨-, hc1, hc2⟩ := hSw; go_simp <;> (first | done | rfl))⟩) (by assumption) ?_
                  try simp only [Act.put, List.setIfInBounds_toArray, List.set_cons_zero, List.set_cons_succ]
                  refine wpAnyH_take (i := 3) (oi := { dst := some 108, op := Go.Op.move (.tmp 17), type := 3, pos := "top03.go:32", after := #[], guard := none }) (v := .int .i64 (j : Nat)) rfl (by kernel_rfl) (by kernel_rfl) (by kernel_rfl) (fun _ _ _ h => h) (Or.inl ⟨by rfl, (fun w hSw => by (try dsimp only at hSw); obtain ⟨-, hc1, hc2⟩ := hSw; go_simp <;> (first | done | rfl))⟩) (by assumption) ?_
                  try simp only [Act.put, List.setIfInBounds_toArray, List.set_cons_zero, List.set_cons_succ]
                  refine wpAnyH_take (i := 4) (oi := { dst := some 109, op := Go.Op.indexAddr 29 (.tmp 107) (.tmp 108), type := 0, pos := "top03.go:32", after := #[{ on := 2, ground := .data }, { on := 3, ground := .data }], guard := none }) (v := .pointer (some ⟨b2, off2 + j, none⟩)) rfl (by kernel_rfl) (by kernel_rfl) (by kernel_rfl) (fun _ _ _ h => h) (Or.inl ⟨by rfl, (fun w hSw => by (try dsimp only at hSw); obtain ⟨-, hc1, hc2⟩ := hSw; go_simp <;> (first | done | rfl))⟩) (by assumption) ?_
                  try simp only [Act.put, List.setIfInBounds_toArray, List.set_cons_zero, List.set_cons_succ]
                  refine wpAnyH_take (i := 5) (oi := { dst := some 110, op := Go.Op.load 9 (.tmp 109), type := 9, pos := "top03.go:32", after := #[{ on := 4, ground := .data }], guard := none }) (v := .string s) rfl (by kernel_rfl) (by kernel_rfl) (by kernel_rfl) (fun _ _ _ h => h) (Or.inl ⟨by rfl, (fun w hSw => by (try dsimp only at hSw); obtain ⟨-, hc1, hc2⟩ := hSw; go_simp <;> (first | done | rfl))⟩) (by assumption) ?_
                  try simp only [Act.put, List.setIfInBounds_toArray, List.set_cons_zero, List.set_cons_succ]
                  refine wpAnyH_ready (rs := [1, 6, 12]) (by kernel_rfl) (by simp) ?_
                  refine AllReadyH.cons (o := { dst := some 106, op := Go.Op.call { callee := Go.Callee.value (.func 18), args := #[.tmp 105], argTypes := #[24] }, type := 29, pos := "top03.go:32", after := #[{ on := 0, ground := .data }], guard := none }) rfl (fun K hK => ?_) (AllReadyH.cons (o := { dst := some 111, op := Go.Op.buildSlice 29 1 #[(0, .tmp 110)], type := 29, pos := "top03.go:32", after := #[{ on := 5, ground := .data }], guard := none }) rfl (fun K hK => ?_) (AllReadyH.cons (o := { dst := some 18, op := Go.Op.alloc 24, type := 0, pos := "top03.go:32", after := #[], guard := none }) rfl (fun K hK => ?_) AllReadyH.nil))
                  · skip
                    go_simp
                    go_at_call 18; refine (PO.out _ (HMz.out.gr HTn.out)).mono ?_
                    rintro e w1_5 ⟨pa, pc, rfl, own, gx⟩
                    have g1_5 := Lib.hid (HTn.out.trans gx)
                    replace own := World.ownsRow.mono own HTn.out.size
                    clear gx
                    first | refine hK.out _ _ (HX.out _ g1_5.out) (fun hh => ?_) | (go_wp2_with fail; refine hK.out _ _ (HX.out _ g1_5.out) (fun hh => ?_))
                    clear hK K
                    try simp only [Act.put, List.setIfInBounds_toArray, List.set_cons_zero, List.set_cons_succ]
                    refine wpAnyH_ready (rs := [6, 12]) (by kernel_rfl) (by simp) ?_
                    refine AllReadyH.cons (o := { dst := some 111, op := Go.Op.buildSlice 29 1 #[(0, .tmp 110)], type := 29, pos := "top03.go:32", after := #[{ on := 5, ground := .data }], guard := none }) rfl (fun K hK => ?_) (AllReadyH.cons (o := { dst := some 18, op := Go.Op.alloc 24, type := 0, pos := "top03.go:32", after := #[], guard := none }) rfl (fun K hK => ?_) AllReadyH.nil)
                    · skip
                      go_simp
                      obtain ⟨w6_6, hw⟩ : ∃ wn, wn = w1_5.alloc (.cells #[.string s] 9) := ⟨_, rfl⟩
                      rw [← hw]
                      have gx : Gr w1_5 w6_6 := by rw [hw]; exact (Gr.refl _).alloc _
                      have el : w6_6.cell? ⟨w1_5.heap.size, 0, none⟩ = some (.string s) := by rw [hw]; exact new_cell rfl rfl
                      have g6_6 := Lib.hid (g1_5.out.trans gx)
                      replace own := ownsRow_gr gx own
                      clear gx hw
                      refine hK.out _ _ (HX.out _ g6_6.out) (fun hh => ?_)
                      clear hK K
                      try simp only [Act.put, List.setIfInBounds_toArray, List.set_cons_zero, List.set_cons_succ]
                      refine wpAnyH_ready (rs := [7, 12]) (by kernel_rfl) (by simp) ?_
                      refine AllReadyH.cons (o := { dst := some 112, op := Go.Op.call { callee := Go.Callee.builtin Go.Builtin.append, args := #[.tmp 106, .tmp 111], argTypes := #[29, 29] }, type := 29, pos := "top03.go:32", after := #[{ on := 1, ground := .data }, { on := 6, ground := .data }, { on := 1, ground := .chain }], guard := none }) rfl (fun K hK => ?_) (AllReadyH.cons (o := { dst := some 18, op := Go.Op.alloc 24, type := 0, pos := "top03.go:32", after := #[], guard := none }) rfl (fun K hK => ?_) AllReadyH.nil)
                      · skip
                        refine step_append_lies _ (by rfl) _ _ _ (by rfl) wz.heap.size 9 i0 (.string ⟨#[]⟩) 1 16 Tryd.underlying29 hi hz0 hz1 hz2 rfl (by decide) (.slice pa P.length pc) P.length (strCells P) (by rfl) own ⟨w1_5.heap.size, 0, none⟩ 1 1 [.string s] (by rfl) (by rfl) (one_cell el) (by intro u' hu'; simp at hu'; subst hu'; rfl) (by omega) (by unfold maxLen; omega) (by omega) g6_6.out.size w6_6.heap.size (by rfl) ?_
                        intro ga ca w7_7 own7 hgrow _ _
                        have g7_7 := Lib.hid (g6_6.out.append own hgrow)
                        have own8 : w7_7.ownsRow wz.heap.size 9 1 (.slice (some ⟨ga, 0, none⟩) (P.length + 1) ca) PP.length (strCells PP) := by rw [hPP.out]; simpa [strCells] using own7
                        obtain ⟨af, cf, hv, hst⟩ := strs_of_row own8 HZ.out (by have := HPL.out; omega)
                        rw [hv]
                        clear hv own8 own7 hgrow own el
                        refine hK.out _ _ (HX.out _ g7_7.out) (fun hh => ?_)
                        clear hK K
                        try simp only [Act.put, List.setIfInBounds_toArray, List.set_cons_zero, List.set_cons_succ]
                        refine wpAnyH_ready (rs := [8, 12]) (by kernel_rfl) (by simp) ?_
                        refine AllReadyH.cons (o := { dst := some 113, op := Go.Op.call { callee := Go.Callee.value (.func 20), args := #[.tmp 112], argTypes := #[29] }, type := 27, pos := "top03.go:32", after := #[{ on := 7, ground := .data }, { on := 7, ground := .chain }], guard := none }) rfl (fun K hK => ?_) (AllReadyH.cons (o := { dst := some 18, op := Go.Op.alloc 24, type := 0, pos := "top03.go:32", after := #[], guard := none }) rfl (fun K hK => ?_) AllReadyH.nil)
                        · skip
                          go_simp
                          go_at_call 20
                          refine (made_any af PP cf w7_7 hst (HEz.out.gr g7_7.out)).mono ?_
                          intro e w8_8 hmade
                          obtain ⟨tq, vq, rfl, hV, gx⟩ := made_is hmade
                          have g8_8 := Lib.hid (g7_7.out.trans gx)
                          clear gx hst hmade
                          first | refine hK.out _ _ (HX.out _ g8_8.out) (fun hh => ?_) | (go_wp2_with fail; refine hK.out _ _ (HX.out _ g8_8.out) (fun hh => ?_))
                          clear hK K
                          try simp only [Act.put, List.setIfInBounds_toArray, List.set_cons_zero, List.set_cons_succ]
                          refine wpAnyH_take (i := 9) (oi := { dst := some 104, op := Go.Op.move (.tmp 113), type := 27, pos := "top03.go:32", after := #[{ on := 8, ground := .data }], guard := none }) (v := .tuple #[.agg #[.string tq], vq]) rfl (by kernel_rfl) (by kernel_rfl) (by kernel_rfl) (fun _ _ _ h => h) (Or.inl ⟨by rfl, (fun w hSw => by (try dsimp only at hSw); obtain ⟨-, hc1, hc2⟩ := hSw; go_simp <;> (first | done | rfl))⟩) (by assumption) ?_
                          try simp only [Act.put, List.setIfInBounds_toArray, List.set_cons_zero, List.set_cons_succ]
                          refine wpAnyH_take (i := 10) (oi := { dst := some 114, op := Go.Op.extract (.tmp 104) 0, type := 24, pos := "top03.go:32", after := #[{ on := 9, ground := .data }], guard := none }) (v := .agg #[.string tq]) rfl (by kernel_rfl) (by kernel_rfl) (by kernel_rfl) (fun _ _ _ h => h) (Or.inl ⟨by rfl, (fun w hSw => by (try dsimp only at hSw); obtain ⟨-, hc1, hc2⟩ := hSw; go_simp <;> (first | done | rfl))⟩) (by assumption) ?_
                          try simp only [Act.put, List.setIfInBounds_toArray, List.set_cons_zero, List.set_cons_succ]
                          refine wpAnyH_take (i := 11) (oi := { dst := some 115, op := Go.Op.extract (.tmp 104) 1, type := 26, pos := "top03.go:32", after := #[{ on := 9, ground := .data }, { on := 13, ground := .gcOnly Go.Departure.lateStores }], guard := none }) (v := vq) rfl (by kernel_rfl) (by kernel_rfl) (by kernel_rfl) (fun _ _ _ h => h) (Or.inl ⟨by rfl, (fun w hSw => by (try dsimp only at hSw); obtain ⟨-, hc1, hc2⟩ := hSw; go_simp <;> (first | done | rfl))⟩) (by assumption) ?_
                          try simp only [Act.put, List.setIfInBounds_toArray, List.set_cons_zero, List.set_cons_succ]
                          refine wpAnyH_ready (rs := [12]) (by kernel_rfl) (by simp) ?_
                          refine AllReadyH.cons (o := { dst := some 18, op := Go.Op.alloc 24, type := 0, pos := "top03.go:32", after := #[], guard := none }) rfl (fun K hK => ?_) AllReadyH.nil
                          · skip
                            go_simp
                            obtain ⟨w12_12, hw⟩ : ∃ wn, wn = w8_8.alloc (.cells #[.string ⟨#[]⟩] 24) := ⟨_, rfl⟩
                            rw [← hw]
                            have gx : Gr w8_8 w12_12 := by rw [hw]; exact (Gr.refl _).alloc _
                            have al : w12_12.cell? ⟨w8_8.heap.size, 0, none⟩ = some (.string ⟨#[]⟩) := by rw [hw]; exact new_cell rfl rfl
                            have fl : w12_12.frozen? ⟨w8_8.heap.size, 0, none⟩ = false := by rw [hw]; exact new_free rfl
                            have hnb : wz.heap.size ≤ w8_8.heap.size := g8_8.out.size
                            have g12_12 := Lib.hid (g8_8.out.trans gx)
                            clear gx hw
                            refine hK.out _ _ (HX.out _ g12_12.out) (fun hh => ?_)
                            clear hK K
                            try simp only [Act.put, List.setIfInBounds_toArray, List.set_cons_zero, List.set_cons_succ]
                            refine wpAnyH_ready (rs := [13]) (by kernel_rfl) (by simp) ?_
                            refine AllReadyH.cons (o := { dst := none, op := Go.Op.store 24 (.tmp 18) (.tmp 114), type := 0, pos := "top03.go:32", after := #[{ on := 12, ground := .data }, { on := 10, ground := .data }, { on := 8, ground := .chain }, { on := 0, ground := .phase }, { on := 1, ground := .phase }, { on := 2, ground := .phase }, { on := 3, ground := .phase }, { on := 4, ground := .phase }, { on := 5, ground := .phase }, { on := 6, ground := .phase }, { on := 7, ground := .phase }, { on := 8, ground := .phase }, { on := 9, ground := .phase }, { on := 10, ground := .phase }, { on := 11, ground := .textOnly Go.Departure.lateStores }, { on := 12, ground := .phase }], guard := none }) rfl (fun K hK => ?_) AllReadyH.nil
                            · skip
                              go_simp
                              obtain ⟨w13_13, hw⟩ : ∃ wn, wn = w12_12.setCell ⟨w8_8.heap.size, 0, none⟩ (.string tq) := ⟨_, rfl⟩
                              rw [← hw]
                              have cq : w13_13.cell? ⟨w8_8.heap.size, 0, none⟩ = some (.string tq) := by rw [hw]; exact World.cell?_setCell_same' _ _ _ (by rw [al]; rfl)
                              have g13_13 : Hid (Gr wz w13_13) := Lib.hid (by rw [hw]; exact g12_12.out.setCell hnb _)
                              clear al fl hw
                              refine hK.out _ _ (HX.out _ g13_13.out) (fun hh => ?_)
                              clear hK K
                              try simp only [Act.put, List.setIfInBounds_toArray, List.set_cons_zero, List.set_cons_succ]
                              refine wpAnyH_take (i := 14) (oi := { dst := some 19, op := Go.Op.assign (.tmp 115), type := 26, pos := "top03.go:32", after := #[{ on := 11, ground := .data }, { on := 13, ground := .chain }, { on := 0, ground := .phase }, { on := 1, ground := .phase }, { on := 2, ground := .phase }, { on := 3, ground := .phase }, { on := 4, ground := .phase }, { on := 5, ground := .phase }, { on := 6, ground := .phase }, { on := 7, ground := .phase }, { on := 8, ground := .phase }, { on := 9, ground := .phase }, { on := 10, ground := .phase }, { on := 11, ground := .phase }, { on := 12, ground := .phase }, { on := 13, ground := .phase }], guard := none }) (v := vq) rfl (by kernel_rfl) (by kernel_rfl) (by kernel_rfl) (fun _ _ _ h => h) (Or.inl ⟨by rfl, (fun w hSw => by (try dsimp only at hSw); obtain ⟨-, hc1, hc2⟩ := hSw; go_simp <;> (first | done | rfl))⟩) (by assumption) ?_
                              try simp only [Act.put, List.setIfInBounds_toArray, List.set_cons_zero, List.set_cons_succ]
                              refine wpAnyH_done (by kernel_rfl) ?_ _
                              have pl := g13_13.out.cell pz
                              have fl9 := FZ.out _ g13_13.out
                              have G39 := Lib.hid (hGz.out.trans g13_13.out)
                              clear HX FZ hh pz hcell fz PO HMz HEz HZ hPP HPL hnb
                              rcases hV.out with ⟨ho, ht, hv⟩ | ⟨ho, bb, hv⟩
                              · subst hv
                                have GS := Lib.hid (G39.out.setCell (Nat.le_refl _) (.string tq) : Gr w6 (w13_13.setCell ⟨w6.heap.size, 0, none⟩ (.string tq)))
                                have ps : (w13_13.setCell ⟨w6.heap.size, 0, none⟩ (.string tq)).cell? ⟨w6.heap.size, 0, none⟩ = some (.string tq) := World.cell?_setCell_same' _ _ _ (by rw [pl]; rfl)
                                have fs : (w13_13.setCell ⟨w6.heap.size, 0, none⟩ (.string tq)).frozen? ⟨w6.heap.size, 0, none⟩ = false := by rw [World.frozen?_setCell]; exact fl9
                                have FQ := Lib.hid (fun w hh h3 => FD.out PP w hh ho h3)
                                rw [BELOW.out PP HPRE.out, ← ht] at FQ
                                have HO := Lib.hid ho
                                have HTQ := Lib.hid ht.symm
                                clear ho ht hV
                                go_wp2_with fail
                                refine (FQ.out _ (HT6.out.gr GS.out) (HE.out.gr (HG6.out.trans GS.out))).mono ?_
                                intro e w40 h40
                                obtain ⟨rfl, hg40⟩ := findIs_yes (by omega) h40
                                have ps2 := hg40.cell ps
                                have fs2 := (hg40.frozen (o := 0) (cell_lt ps)).trans fs
                                have G40 := Lib.hid (GS.out.trans hg40)
                                clear h40 hg40 ps fs pl fl9 cq
                                go_wp2
                                go_roundw
                                case rel => exact ⟨j + 1, PP, tq, by go_num, by omega, by omega, HPRE, HO, HTQ, ps2, fs2, G40⟩
                                case measure => simp [intOf]; omega
                              · subst hv
                                clear hV ho cq
                                go_wp2
                                go_roundw
                                case rel => exact ⟨j + 1, P, u, by go_num, by omega, by omega, hpre, hok, hu, pl, fl9, G39⟩
                                case measure => simp [intOf]; omega
                        · skip
                          go_simp
                          obtain ⟨w12_8, hw⟩ : ∃ wn, wn = w7_7.alloc (.cells #[.string ⟨#[]⟩] 24) := ⟨_, rfl⟩
                          rw [← hw]
                          have gx : Gr w7_7 w12_8 := by rw [hw]; exact (Gr.refl _).alloc _
                          have al : w12_8.cell? ⟨w7_7.heap.size, 0, none⟩ = some (.string ⟨#[]⟩) := by rw [hw]; exact new_cell rfl rfl
                          have fl : w12_8.frozen? ⟨w7_7.heap.size, 0, none⟩ = false := by rw [hw]; exact new_free rfl
                          have hnb : wz.heap.size ≤ w7_7.heap.size := g7_7.out.size
                          have g12_8 := Lib.hid (g7_7.out.trans gx)
                          replace hst := hst.gr gx
                          clear gx hw
                          refine hK.out _ _ (HX.out _ g12_8.out) (fun hh => ?_)
                          clear hK K
                          try simp only [Act.put, List.setIfInBounds_toArray, List.set_cons_zero, List.set_cons_succ]
                          refine wpAnyH_ready (rs := [8]) (by kernel_rfl) (by simp) ?_
                          refine AllReadyH.cons (o := { dst := some 113, op := Go.Op.call { callee := Go.Callee.value (.func 20), args := #[.tmp 112], argTypes := #[29] }, type := 27, pos := "top03.go:32", after := #[{ on := 7, ground := .data }, { on := 7, ground := .chain }], guard := none }) rfl (fun K hK => ?_) AllReadyH.nil
                          · skip
                            go_simp
                            go_at_call 20
                            refine (made_any af PP cf w12_8 hst (HEz.out.gr g12_8.out)).mono ?_
                            intro e w8_9 hmade
                            obtain ⟨tq, vq, rfl, hV, gx⟩ := made_is hmade
                            have g8_9 := Lib.hid (g12_8.out.trans gx)
                            replace fl := (gx.frozen (o := 0) (cell_lt al)).trans fl
                            replace al := gx.cell al
                            clear gx hst hmade
                            first | refine hK.out _ _ (HX.out _ g8_9.out) (fun hh => ?_) | (go_wp2_with fail; refine hK.out _ _ (HX.out _ g8_9.out) (fun hh => ?_))
                            clear hK K
                            try simp only [Act.put, List.setIfInBounds_toArray, List.set_cons_zero, List.set_cons_succ]
                            refine wpAnyH_take (i := 9) (oi := { dst := some 104, op := Go.Op.move (.tmp 113), type := 27, pos := "top03.go:32", after := #[{ on := 8, ground := .data }], guard := none }) (v := .tuple #[.agg #[.string tq], vq]) rfl (by kernel_rfl) (by kernel_rfl) (by kernel_rfl) (fun _ _ _ h => h) (Or.inl ⟨by rfl, (fun w hSw => by (try dsimp only at hSw); obtain ⟨-, hc1, hc2⟩ := hSw; go_simp <;> (first | done | rfl))⟩) (by assumption) ?_
                            try simp only [Act.put, List.setIfInBounds_toArray, List.set_cons_zero, List.set_cons_succ]
                            refine wpAnyH_take (i := 10) (oi := { dst := some 114, op := Go.Op.extract (.tmp 104) 0, type := 24, pos := "top03.go:32", after := #[{ on := 9, ground := .data }], guard := none }) (v := .agg #[.string tq]) rfl (by kernel_rfl) (by kernel_rfl) (by kernel_rfl) (fun _ _ _ h => h) (Or.inl ⟨by rfl, (fun w hSw => by (try dsimp only at hSw); obtain ⟨-, hc1, hc2⟩ := hSw; go_simp <;> (first | done | rfl))⟩) (by assumption) ?_
                            try simp only [Act.put, List.setIfInBounds_toArray, List.set_cons_zero, List.set_cons_succ]
                            refine wpAnyH_take (i := 11) (oi := { dst := some 115, op := Go.Op.extract (.tmp 104) 1, type := 26, pos := "top03.go:32", after := #[{ on := 9, ground := .data }, { on := 13, ground := .gcOnly Go.Departure.lateStores }], guard := none }) (v := vq) rfl (by kernel_rfl) (by kernel_rfl) (by kernel_rfl) (fun _ _ _ h => h) (Or.inl ⟨by rfl, (fun w hSw => by (try dsimp only at hSw); obtain ⟨-, hc1, hc2⟩ := hSw; go_simp <;> (first | done | rfl))⟩) (by assumption) ?_
                            try simp only [Act.put, List.setIfInBounds_toArray, List.set_cons_zero, List.set_cons_succ]
                            refine wpAnyH_ready (rs := [13]) (by kernel_rfl) (by simp) ?_
                            refine AllReadyH.cons (o := { dst := none, op := Go.Op.store 24 (.tmp 18) (.tmp 114), type := 0, pos := "top03.go:32", after := #[{ on := 12, ground := .data }, { on := 10, ground := .data }, { on := 8, ground := .chain }, { on := 0, ground := .phase }, { on := 1, ground := .phase }, { on := 2, ground := .phase }, { on := 3, ground := .phase }, { on := 4, ground := .phase }, { on := 5, ground := .phase }, { on := 6, ground := .phase }, { on := 7, ground := .phase }, { on := 8, ground := .phase }, { on := 9, ground := .phase }, { on := 10, ground := .phase }, { on := 11, ground := .textOnly Go.Departure.lateStores }, { on := 12, ground := .phase }], guard := none }) rfl (fun K hK => ?_) AllReadyH.nil
                            · skip
                              go_simp
                              obtain ⟨w13_13, hw⟩ : ∃ wn, wn = w8_9.setCell ⟨w7_7.heap.size, 0, none⟩ (.string tq) := ⟨_, rfl⟩
                              rw [← hw]
                              have cq : w13_13.cell? ⟨w7_7.heap.size, 0, none⟩ = some (.string tq) := by rw [hw]; exact World.cell?_setCell_same' _ _ _ (by rw [al]; rfl)
                              have g13_13 : Hid (Gr wz w13_13) := Lib.hid (by rw [hw]; exact g8_9.out.setCell hnb _)
                              clear al fl hw
                              refine hK.out _ _ (HX.out _ g13_13.out) (fun hh => ?_)
                              clear hK K
                              try simp only [Act.put, List.setIfInBounds_toArray, List.set_cons_zero, List.set_cons_succ]
                              refine wpAnyH_take (i := 14) (oi := { dst := some 19, op := Go.Op.assign (.tmp 115), type := 26, pos := "top03.go:32", after := #[{ on := 11, ground := .data }, { on := 13, ground := .chain }, { on := 0, ground := .phase }, { on := 1, ground := .phase }, { on := 2, ground := .phase }, { on := 3, ground := .phase }, { on := 4, ground := .phase }, { on := 5, ground := .phase }, { on := 6, ground := .phase }, { on := 7, ground := .phase }, { on := 8, ground := .phase }, { on := 9, ground := .phase }, { on := 10, ground := .phase }, { on := 11, ground := .phase }, { on := 12, ground := .phase }, { on := 13, ground := .phase }], guard := none }) (v := vq) rfl (by kernel_rfl) (by kernel_rfl) (by kernel_rfl) (fun _ _ _ h => h) (Or.inl ⟨by rfl, (fun w hSw => by (try dsimp only at hSw); obtain ⟨-, hc1, hc2⟩ := hSw; go_simp <;> (first | done | rfl))⟩) (by assumption) ?_
                              try simp only [Act.put, List.setIfInBounds_toArray, List.set_cons_zero, List.set_cons_succ]
                              refine wpAnyH_done (by kernel_rfl) ?_ _
                              have pl := g13_13.out.cell pz
                              have fl9 := FZ.out _ g13_13.out
                              have G39 := Lib.hid (hGz.out.trans g13_13.out)
                              clear HX FZ hh pz hcell fz PO HMz HEz HZ hPP HPL hnb
                              rcases hV.out with ⟨ho, ht, hv⟩ | ⟨ho, bb, hv⟩
                              · subst hv
                                have GS := Lib.hid (G39.out.setCell (Nat.le_refl _) (.string tq) : Gr w6 (w13_13.setCell ⟨w6.heap.size, 0, none⟩ (.string tq)))
                                have ps : (w13_13.setCell ⟨w6.heap.size, 0, none⟩ (.string tq)).cell? ⟨w6.heap.size, 0, none⟩ = some (.string tq) := World.cell?_setCell_same' _ _ _ (by rw [pl]; rfl)
                                have fs : (w13_13.setCell ⟨w6.heap.size, 0, none⟩ (.string tq)).frozen? ⟨w6.heap.size, 0, none⟩ = false := by rw [World.frozen?_setCell]; exact fl9
                                have FQ := Lib.hid (fun w hh h3 => FD.out PP w hh ho h3)
                                rw [BELOW.out PP HPRE.out, ← ht] at FQ
                                have HO := Lib.hid ho
                                have HTQ := Lib.hid ht.symm
                                clear ho ht hV
                                go_wp2_with fail
                                refine (FQ.out _ (HT6.out.gr GS.out) (HE.out.gr (HG6.out.trans GS.out))).mono ?_
                                intro e w40 h40
                                obtain ⟨rfl, hg40⟩ := findIs_yes (by omega) h40
                                have ps2 := hg40.cell ps
                                have fs2 := (hg40.frozen (o := 0) (cell_lt ps)).trans fs
                                have G40 := Lib.hid (GS.out.trans hg40)
                                clear h40 hg40 ps fs pl fl9 cq
                                go_wp2
                                go_roundw
                                case rel => exact ⟨j + 1, PP, tq, by go_num, by omega, by omega, HPRE, HO, HTQ, ps2, fs2, G40⟩
                                case measure => simp [intOf]; omega
                              · subst hv
                                clear hV ho cq
                                go_wp2
                                go_roundw
                                case rel => exact ⟨j + 1, P, u, by go_num, by omega, by omega, hpre, hok, hu, pl, fl9, G39⟩
                                case measure => simp [intOf]; omega
                      · skip
                        go_simp
                        obtain ⟨w12_7, hw⟩ : ∃ wn, wn = w6_6.alloc (.cells #[.string ⟨#[]⟩] 24) := ⟨_, rfl⟩
                        rw [← hw]
                        have gx : Gr w6_6 w12_7 := by rw [hw]; exact (Gr.refl _).alloc _
                        have al : w12_7.cell? ⟨w6_6.heap.size, 0, none⟩ = some (.string ⟨#[]⟩) := by rw [hw]; exact new_cell rfl rfl
                        have fl : w12_7.frozen? ⟨w6_6.heap.size, 0, none⟩ = false := by rw [hw]; exact new_free rfl
                        have hnb : wz.heap.size ≤ w6_6.heap.size := g6_6.out.size
                        have g12_7 := Lib.hid (g6_6.out.trans gx)
                        have hne : some (w6_6.heap.size) ≠ (Value.slice pa P.length pc).ownBlock := fun hx => by have h1 := (World.ownsRow.lt own _ hx.symm).2; omega
                        replace own := ownsRow_gr gx own
                        replace el := gx.cell el
                        clear gx hw
                        refine hK.out _ _ (HX.out _ g12_7.out) (fun hh => ?_)
                        clear hK K
                        try simp only [Act.put, List.setIfInBounds_toArray, List.set_cons_zero, List.set_cons_succ]
                        refine wpAnyH_ready (rs := [7]) (by kernel_rfl) (by simp) ?_
                        refine AllReadyH.cons (o := { dst := some 112, op := Go.Op.call { callee := Go.Callee.builtin Go.Builtin.append, args := #[.tmp 106, .tmp 111], argTypes := #[29, 29] }, type := 29, pos := "top03.go:32", after := #[{ on := 1, ground := .data }, { on := 6, ground := .data }, { on := 1, ground := .chain }], guard := none }) rfl (fun K hK => ?_) AllReadyH.nil
                        · skip
                          refine step_append_lies _ (by rfl) _ _ _ (by rfl) wz.heap.size 9 i0 (.string ⟨#[]⟩) 1 16 Tryd.underlying29 hi hz0 hz1 hz2 rfl (by decide) (.slice pa P.length pc) P.length (strCells P) (by rfl) own ⟨w1_5.heap.size, 0, none⟩ 1 1 [.string s] (by rfl) (by rfl) (one_cell el) (by intro u' hu'; simp at hu'; subst hu'; rfl) (by omega) (by unfold maxLen; omega) (by omega) g12_7.out.size w12_7.heap.size (by rfl) ?_
                          intro ga ca w7_8 own7 hgrow _ _
                          have g7_8 := Lib.hid (g12_7.out.append own hgrow)
                          replace fl := (hgrow.frozen_far _ (cell_lt al) hne).trans fl
                          replace al := (hgrow.cell_far _ (cell_lt al) hne).trans al
                          clear hne
                          have own8 : w7_8.ownsRow wz.heap.size 9 1 (.slice (some ⟨ga, 0, none⟩) (P.length + 1) ca) PP.length (strCells PP) := by rw [hPP.out]; simpa [strCells] using own7
                          obtain ⟨af, cf, hv, hst⟩ := strs_of_row own8 HZ.out (by have := HPL.out; omega)
                          rw [hv]
                          clear hv own8 own7 hgrow own el
                          refine hK.out _ _ (HX.out _ g7_8.out) (fun hh => ?_)
                          clear hK K
                          try simp only [Act.put, List.setIfInBounds_toArray, List.set_cons_zero, List.set_cons_succ]
                          refine wpAnyH_ready (rs := [8]) (by kernel_rfl) (by simp) ?_
                          refine AllReadyH.cons (o := { dst := some 113, op := Go.Op.call { callee := Go.Callee.value (.func 20), args := #[.tmp 112], argTypes := #[29] }, type := 27, pos := "top03.go:32", after := #[{ on := 7, ground := .data }, { on := 7, ground := .chain }], guard := none }) rfl (fun K hK => ?_) AllReadyH.nil
                          · skip
                            go_simp
                            go_at_call 20
                            refine (made_any af PP cf w7_8 hst (HEz.out.gr g7_8.out)).mono ?_
                            intro e w8_9 hmade
                            obtain ⟨tq, vq, rfl, hV, gx⟩ := made_is hmade
                            have g8_9 := Lib.hid (g7_8.out.trans gx)
                            replace fl := (gx.frozen (o := 0) (cell_lt al)).trans fl
                            replace al := gx.cell al
                            clear gx hst hmade
                            first | refine hK.out _ _ (HX.out _ g8_9.out) (fun hh => ?_) | (go_wp2_with fail; refine hK.out _ _ (HX.out _ g8_9.out) (fun hh => ?_))
                            clear hK K
                            try simp only [Act.put, List.setIfInBounds_toArray, List.set_cons_zero, List.set_cons_succ]
                            refine wpAnyH_take (i := 9) (oi := { dst := some 104, op := Go.Op.move (.tmp 113), type := 27, pos := "top03.go:32", after := #[{ on := 8, ground := .data }], guard := none }) (v := .tuple #[.agg #[.string tq], vq]) rfl (by kernel_rfl) (by kernel_rfl) (by kernel_rfl) (fun _ _ _ h => h) (Or.inl ⟨by rfl, (fun w hSw => by (try dsimp only at hSw); obtain ⟨-, hc1, hc2⟩ := hSw; go_simp <;> (first | done | rfl))⟩) (by assumption) ?_
                            try simp only [Act.put, List.setIfInBounds_toArray, List.set_cons_zero, List.set_cons_succ]
                            refine wpAnyH_take (i := 10) (oi := { dst := some 114, op := Go.Op.extract (.tmp 104) 0, type := 24, pos := "top03.go:32", after := #[{ on := 9, ground := .data }], guard := none }) (v := .agg #[.string tq]) rfl (by kernel_rfl) (by kernel_rfl) (by kernel_rfl) (fun _ _ _ h => h) (Or.inl ⟨by rfl, (fun w hSw => by (try dsimp only at hSw); obtain ⟨-, hc1, hc2⟩ := hSw; go_simp <;> (first | done | rfl))⟩) (by assumption) ?_
                            try simp only [Act.put, List.setIfInBounds_toArray, List.set_cons_zero, List.set_cons_succ]
                            refine wpAnyH_take (i := 11) (oi := { dst := some 115, op := Go.Op.extract (.tmp 104) 1, type := 26, pos := "top03.go:32", after := #[{ on := 9, ground := .data }, { on := 13, ground := .gcOnly Go.Departure.lateStores }], guard := none }) (v := vq) rfl (by kernel_rfl) (by kernel_rfl) (by kernel_rfl) (fun _ _ _ h => h) (Or.inl ⟨by rfl, (fun w hSw => by (try dsimp only at hSw); obtain ⟨-, hc1, hc2⟩ := hSw; go_simp <;> (first | done | rfl))⟩) (by assumption) ?_
                            try simp only [Act.put, List.setIfInBounds_toArray, List.set_cons_zero, List.set_cons_succ]
                            refine wpAnyH_ready (rs := [13]) (by kernel_rfl) (by simp) ?_
                            refine AllReadyH.cons (o := { dst := none, op := Go.Op.store 24 (.tmp 18) (.tmp 114), type := 0, pos := "top03.go:32", after := #[{ on := 12, ground := .data }, { on := 10, ground := .data }, { on := 8, ground := .chain }, { on := 0, ground := .phase }, { on := 1, ground := .phase }, { on := 2, ground := .phase }, { on := 3, ground := .phase }, { on := 4, ground := .phase }, { on := 5, ground := .phase }, { on := 6, ground := .phase }, { on := 7, ground := .phase }, { on := 8, ground := .phase }, { on := 9, ground := .phase }, { on := 10, ground := .phase }, { on := 11, ground := .textOnly Go.Departure.lateStores }, { on := 12, ground := .phase }], guard := none }) rfl (fun K hK => ?_) AllReadyH.nil
                            · skip
                              go_simp
                              obtain ⟨w13_13, hw⟩ : ∃ wn, wn = w8_9.setCell ⟨w6_6.heap.size, 0, none⟩ (.string tq) := ⟨_, rfl⟩
                              rw [← hw]
                              have cq : w13_13.cell? ⟨w6_6.heap.size, 0, none⟩ = some (.string tq) := by rw [hw]; exact World.cell?_setCell_same' _ _ _ (by rw [al]; rfl)
                              have g13_13 : Hid (Gr wz w13_13) := Lib.hid (by rw [hw]; exact g8_9.out.setCell hnb _)
                              clear al fl hw
                              refine hK.out _ _ (HX.out _ g13_13.out) (fun hh => ?_)
                              clear hK K
                              try simp only [Act.put, List.setIfInBounds_toArray, List.set_cons_zero, List.set_cons_succ]
                              refine wpAnyH_take (i := 14) (oi := { dst := some 19, op := Go.Op.assign (.tmp 115), type := 26, pos := "top03.go:32", after := #[{ on := 11, ground := .data }, { on := 13, ground := .chain }, { on := 0, ground := .phase }, { on := 1, ground := .phase }, { on := 2, ground := .phase }, { on := 3, ground := .phase }, { on := 4, ground := .phase }, { on := 5, ground := .phase }, { on := 6, ground := .phase }, { on := 7, ground := .phase }, { on := 8, ground := .phase }, { on := 9, ground := .phase }, { on := 10, ground := .phase }, { on := 11, ground := .phase }, { on := 12, ground := .phase }, { on := 13, ground := .phase }], guard := none }) (v := vq) rfl (by kernel_rfl) (by kernel_rfl) (by kernel_rfl) (fun _ _ _ h => h) (Or.inl ⟨by rfl, (fun w hSw => by (try dsimp only at hSw); obtain ⟨-, hc1, hc2⟩ := hSw; go_simp <;> (first | done | rfl))⟩) (by assumption) ?_
                              try simp only [Act.put, List.setIfInBounds_toArray, List.set_cons_zero, List.set_cons_succ]
                              refine wpAnyH_done (by kernel_rfl) ?_ _
                              have pl := g13_13.out.cell pz
                              have fl9 := FZ.out _ g13_13.out
                              have G39 := Lib.hid (hGz.out.trans g13_13.out)
                              clear HX FZ hh pz hcell fz PO HMz HEz HZ hPP HPL hnb
                              rcases hV.out with ⟨ho, ht, hv⟩ | ⟨ho, bb, hv⟩
                              · subst hv
                                have GS := Lib.hid (G39.out.setCell (Nat.le_refl _) (.string tq) : Gr w6 (w13_13.setCell ⟨w6.heap.size, 0, none⟩ (.string tq)))
                                have ps : (w13_13.setCell ⟨w6.heap.size, 0, none⟩ (.string tq)).cell? ⟨w6.heap.size, 0, none⟩ = some (.string tq) := World.cell?_setCell_same' _ _ _ (by rw [pl]; rfl)
                                have fs : (w13_13.setCell ⟨w6.heap.size, 0, none⟩ (.string tq)).frozen? ⟨w6.heap.size, 0, none⟩ = false := by rw [World.frozen?_setCell]; exact fl9
                                have FQ := Lib.hid (fun w hh h3 => FD.out PP w hh ho h3)
                                rw [BELOW.out PP HPRE.out, ← ht] at FQ
                                have HO := Lib.hid ho
                                have HTQ := Lib.hid ht.symm
                                clear ho ht hV
                                go_wp2_with fail
                                refine (FQ.out _ (HT6.out.gr GS.out) (HE.out.gr (HG6.out.trans GS.out))).mono ?_
                                intro e w40 h40
                                obtain ⟨rfl, hg40⟩ := findIs_yes (by omega) h40
                                have ps2 := hg40.cell ps
                                have fs2 := (hg40.frozen (o := 0) (cell_lt ps)).trans fs
                                have G40 := Lib.hid (GS.out.trans hg40)
                                clear h40 hg40 ps fs pl fl9 cq
                                go_wp2
                                go_roundw
                                case rel => exact ⟨j + 1, PP, tq, by go_num, by omega, by omega, HPRE, HO, HTQ, ps2, fs2, G40⟩
                                case measure => simp [intOf]; omega
                              · subst hv
                                clear hV ho cq
                                go_wp2
                                go_roundw
                                case rel => exact ⟨j + 1, P, u, by go_num, by omega, by omega, hpre, hok, hu, pl, fl9, G39⟩
                                case measure => simp [intOf]; omega
                    · skip
                      go_simp
                      obtain ⟨w12_6, hw⟩ : ∃ wn, wn = w1_5.alloc (.cells #[.string ⟨#[]⟩] 24) := ⟨_, rfl⟩
                      rw [← hw]
                      have gx : Gr w1_5 w12_6 := by rw [hw]; exact (Gr.refl _).alloc _
                      have al : w12_6.cell? ⟨w1_5.heap.size, 0, none⟩ = some (.string ⟨#[]⟩) := by rw [hw]; exact new_cell rfl rfl
                      have fl : w12_6.frozen? ⟨w1_5.heap.size, 0, none⟩ = false := by rw [hw]; exact new_free rfl
                      have hnb : wz.heap.size ≤ w1_5.heap.size := g1_5.out.size
                      have g12_6 := Lib.hid (g1_5.out.trans gx)
                      have hne : some (w1_5.heap.size) ≠ (Value.slice pa P.length pc).ownBlock := fun hx => by have h1 := (World.ownsRow.lt own _ hx.symm).2; omega
                      replace own := ownsRow_gr gx own
                      clear gx hw
                      refine hK.out _ _ (HX.out _ g12_6.out) (fun hh => ?_)
                      clear hK K
                      try simp only [Act.put, List.setIfInBounds_toArray, List.set_cons_zero, List.set_cons_succ]
                      refine wpAnyH_ready (rs := [6]) (by kernel_rfl) (by simp) ?_
                      refine AllReadyH.cons (o := { dst := some 111, op := Go.Op.buildSlice 29 1 #[(0, .tmp 110)], type := 29, pos := "top03.go:32", after := #[{ on := 5, ground := .data }], guard := none }) rfl (fun K hK => ?_) AllReadyH.nil
                      · skip
                        go_simp
                        obtain ⟨w6_7, hw⟩ : ∃ wn, wn = w12_6.alloc (.cells #[.string s] 9) := ⟨_, rfl⟩
                        rw [← hw]
                        have gx : Gr w12_6 w6_7 := by rw [hw]; exact (Gr.refl _).alloc _
                        have el : w6_7.cell? ⟨w12_6.heap.size, 0, none⟩ = some (.string s) := by rw [hw]; exact new_cell rfl rfl
                        have g6_7 := Lib.hid (g12_6.out.trans gx)
                        replace fl := (gx.frozen (o := 0) (cell_lt al)).trans fl
                        replace al := gx.cell al
                        replace own := ownsRow_gr gx own
                        clear gx hw
                        refine hK.out _ _ (HX.out _ g6_7.out) (fun hh => ?_)
                        clear hK K
                        try simp only [Act.put, List.setIfInBounds_toArray, List.set_cons_zero, List.set_cons_succ]
                        refine wpAnyH_ready (rs := [7]) (by kernel_rfl) (by simp) ?_
                        refine AllReadyH.cons (o := { dst := some 112, op := Go.Op.call { callee := Go.Callee.builtin Go.Builtin.append, args := #[.tmp 106, .tmp 111], argTypes := #[29, 29] }, type := 29, pos := "top03.go:32", after := #[{ on := 1, ground := .data }, { on := 6, ground := .data }, { on := 1, ground := .chain }], guard := none }) rfl (fun K hK => ?_) AllReadyH.nil
                        · skip
                          refine step_append_lies _ (by rfl) _ _ _ (by rfl) wz.heap.size 9 i0 (.string ⟨#[]⟩) 1 16 Tryd.underlying29 hi hz0 hz1 hz2 rfl (by decide) (.slice pa P.length pc) P.length (strCells P) (by rfl) own ⟨w12_6.heap.size, 0, none⟩ 1 1 [.string s] (by rfl) (by rfl) (one_cell el) (by intro u' hu'; simp at hu'; subst hu'; rfl) (by omega) (by unfold maxLen; omega) (by omega) g6_7.out.size w6_7.heap.size (by rfl) ?_
                          intro ga ca w7_8 own7 hgrow _ _
                          have g7_8 := Lib.hid (g6_7.out.append own hgrow)
                          replace fl := (hgrow.frozen_far _ (cell_lt al) hne).trans fl
                          replace al := (hgrow.cell_far _ (cell_lt al) hne).trans al
                          clear hne
                          have own8 : w7_8.ownsRow wz.heap.size 9 1 (.slice (some ⟨ga, 0, none⟩) (P.length + 1) ca) PP.length (strCells PP) := by rw [hPP.out]; simpa [strCells] using own7
                          obtain ⟨af, cf, hv, hst⟩ := strs_of_row own8 HZ.out (by have := HPL.out; omega)
                          rw [hv]
                          clear hv own8 own7 hgrow own el
                          refine hK.out _ _ (HX.out _ g7_8.out) (fun hh => ?_)
                          clear hK K
                          try simp only [Act.put, List.setIfInBounds_toArray, List.set_cons_zero, List.set_cons_succ]
                          refine wpAnyH_ready (rs := [8]) (by kernel_rfl) (by simp) ?_
                          refine AllReadyH.cons (o := { dst := some 113, op := Go.Op.call { callee := Go.Callee.value (.func 20), args := #[.tmp 112], argTypes := #[29] }, type := 27, pos := "top03.go:32", after := #[{ on := 7, ground := .data }, { on := 7, ground := .chain }], guard := none }) rfl (fun K hK => ?_) AllReadyH.nil
                          · skip
                            go_simp
                            go_at_call 20
                            refine (made_any af PP cf w7_8 hst (HEz.out.gr g7_8.out)).mono ?_
                            intro e w8_9 hmade
                            obtain ⟨tq, vq, rfl, hV, gx⟩ := made_is hmade
                            have g8_9 := Lib.hid (g7_8.out.trans gx)
                            replace fl := (gx.frozen (o := 0) (cell_lt al)).trans fl
                            replace al := gx.cell al
                            clear gx hst hmade
                            first | refine hK.out _ _ (HX.out _ g8_9.out) (fun hh => ?_) | (go_wp2_with fail; refine hK.out _ _ (HX.out _ g8_9.out) (fun hh => ?_))
                            clear hK K
                            try simp only [Act.put, List.setIfInBounds_toArray, List.set_cons_zero, List.set_cons_succ]
                            refine wpAnyH_take (i := 9) (oi := { dst := some 104, op := Go.Op.move (.tmp 113), type := 27, pos := "top03.go:32", after := #[{ on := 8, ground := .data }], guard := none }) (v := .tuple #[.agg #[.string tq], vq]) rfl (by kernel_rfl) (by kernel_rfl) (by kernel_rfl) (fun _ _ _ h => h) (Or.inl ⟨by rfl, (fun w hSw => by (try dsimp only at hSw); obtain ⟨-, hc1, hc2⟩ := hSw; go_simp <;> (first | done | rfl))⟩) (by assumption) ?_
                            try simp only [Act.put, List.setIfInBounds_toArray, List.set_cons_zero, List.set_cons_succ]
                            refine wpAnyH_take (i := 10) (oi := { dst := some 114, op := Go.Op.extract (.tmp 104) 0, type := 24, pos := "top03.go:32", after := #[{ on := 9, ground := .data }], guard := none }) (v := .agg #[.string tq]) rfl (by kernel_rfl) (by kernel_rfl) (by kernel_rfl) (fun _ _ _ h => h) (Or.inl ⟨by rfl, (fun w hSw => by (try dsimp only at hSw); obtain ⟨-, hc1, hc2⟩ := hSw; go_simp <;> (first | done | rfl))⟩) (by assumption) ?_
                            try simp only [Act.put, List.setIfInBounds_toArray, List.set_cons_zero, List.set_cons_succ]
                            refine wpAnyH_take (i := 11) (oi := { dst := some 115, op := Go.Op.extract (.tmp 104) 1, type := 26, pos := "top03.go:32", after := #[{ on := 9, ground := .data }, { on := 13, ground := .gcOnly Go.Departure.lateStores }], guard := none }) (v := vq) rfl (by kernel_rfl) (by kernel_rfl) (by kernel_rfl) (fun _ _ _ h => h) (Or.inl ⟨by rfl, (fun w hSw => by (try dsimp only at hSw); obtain ⟨-, hc1, hc2⟩ := hSw; go_simp <;> (first | done | rfl))⟩) (by assumption) ?_
                            try simp only [Act.put, List.setIfInBounds_toArray, List.set_cons_zero, List.set_cons_succ]
                            refine wpAnyH_ready (rs := [13]) (by kernel_rfl) (by simp) ?_
                            refine AllReadyH.cons (o := { dst := none, op := Go.Op.store 24 (.tmp 18) (.tmp 114), type := 0, pos := "top03.go:32", after := #[{ on := 12, ground := .data }, { on := 10, ground := .data }, { on := 8, ground := .chain }, { on := 0, ground := .phase }, { on := 1, ground := .phase }, { on := 2, ground := .phase }, { on := 3, ground := .phase }, { on := 4, ground := .phase }, { on := 5, ground := .phase }, { on := 6, ground := .phase }, { on := 7, ground := .phase }, { on := 8, ground := .phase }, { on := 9, ground := .phase }, { on := 10, ground := .phase }, { on := 11, ground := .textOnly Go.Departure.lateStores }, { on := 12, ground := .phase }], guard := none }) rfl (fun K hK => ?_) AllReadyH.nil
                            · skip
                              go_simp
                              obtain ⟨w13_13, hw⟩ : ∃ wn, wn = w8_9.setCell ⟨w1_5.heap.size, 0, none⟩ (.string tq) := ⟨_, rfl⟩
                              rw [← hw]
                              have cq : w13_13.cell? ⟨w1_5.heap.size, 0, none⟩ = some (.string tq) := by rw [hw]; exact World.cell?_setCell_same' _ _ _ (by rw [al]; rfl)
                              have g13_13 : Hid (Gr wz w13_13) := Lib.hid (by rw [hw]; exact g8_9.out.setCell hnb _)
                              clear al fl hw
                              refine hK.out _ _ (HX.out _ g13_13.out) (fun hh => ?_)
                              clear hK K
                              try simp only [Act.put, List.setIfInBounds_toArray, List.set_cons_zero, List.set_cons_succ]
                              refine wpAnyH_take (i := 14) (oi := { dst := some 19, op := Go.Op.assign (.tmp 115), type := 26, pos := "top03.go:32", after := #[{ on := 11, ground := .data }, { on := 13, ground := .chain }, { on := 0, ground := .phase }, { on := 1, ground := .phase }, { on := 2, ground := .phase }, { on := 3, ground := .phase }, { on := 4, ground := .phase }, { on := 5, ground := .phase }, { on := 6, ground := .phase }, { on := 7, ground := .phase }, { on := 8, ground := .phase }, { on := 9, ground := .phase }, { on := 10, ground := .phase }, { on := 11, ground := .phase }, { on := 12, ground := .phase }, { on := 13, ground := .phase }], guard := none }) (v := vq) rfl (by kernel_rfl) (by kernel_rfl) (by kernel_rfl) (fun _ _ _ h => h) (Or.inl ⟨by rfl, (fun w hSw => by (try dsimp only at hSw); obtain ⟨-, hc1, hc2⟩ := hSw; go_simp <;> (first | done | rfl))⟩) (by assumption) ?_
                              try simp only [Act.put, List.setIfInBounds_toArray, List.set_cons_zero, List.set_cons_succ]
                              refine wpAnyH_done (by kernel_rfl) ?_ _
                              have pl := g13_13.out.cell pz
                              have fl9 := FZ.out _ g13_13.out
                              have G39 := Lib.hid (hGz.out.trans g13_13.out)
                              clear HX FZ hh pz hcell fz PO HMz HEz HZ hPP HPL hnb
                              rcases hV.out with ⟨ho, ht, hv⟩ | ⟨ho, bb, hv⟩
                              · subst hv
                                have GS := Lib.hid (G39.out.setCell (Nat.le_refl _) (.string tq) : Gr w6 (w13_13.setCell ⟨w6.heap.size, 0, none⟩ (.string tq)))
                                have ps : (w13_13.setCell ⟨w6.heap.size, 0, none⟩ (.string tq)).cell? ⟨w6.heap.size, 0, none⟩ = some (.string tq) := World.cell?_setCell_same' _ _ _ (by rw [pl]; rfl)
                                have fs : (w13_13.setCell ⟨w6.heap.size, 0, none⟩ (.string tq)).frozen? ⟨w6.heap.size, 0, none⟩ = false := by rw [World.frozen?_setCell]; exact fl9
                                have FQ := Lib.hid (fun w hh h3 => FD.out PP w hh ho h3)
                                rw [BELOW.out PP HPRE.out, ← ht] at FQ
                                have HO := Lib.hid ho
                                have HTQ := Lib.hid ht.symm
                                clear ho ht hV
                                go_wp2_with fail
                                refine (FQ.out _ (HT6.out.gr GS.out) (HE.out.gr (HG6.out.trans GS.out))).mono ?_
                                intro e w40 h40
                                obtain ⟨rfl, hg40⟩ := findIs_yes (by omega) h40
                                have ps2 := hg40.cell ps
                                have fs2 := (hg40.frozen (o := 0) (cell_lt ps)).trans fs
                                have G40 := Lib.hid (GS.out.trans hg40)
                                clear h40 hg40 ps fs pl fl9 cq
                                go_wp2
                                go_roundw
                                case rel => exact ⟨j + 1, PP, tq, by go_num, by omega, by omega, HPRE, HO, HTQ, ps2, fs2, G40⟩
                                case measure => simp [intOf]; omega
                              · subst hv
                                clear hV ho cq
                                go_wp2
                                go_roundw
                                case rel => exact ⟨j + 1, P, u, by go_num, by omega, by omega, hpre, hok, hu, pl, fl9, G39⟩
                                case measure => simp [intOf]; omega
                  · skip
                    go_simp
                    obtain ⟨w6_5, hw⟩ : ∃ wn, wn = w0.alloc (.cells #[.string s] 9) := ⟨_, rfl⟩
                    rw [← hw]
                    have gx : Gr w0 w6_5 := by rw [hw]; exact (Gr.refl _).alloc _
                    have el : w6_5.cell? ⟨w0.heap.size, 0, none⟩ = some (.string s) := by rw [hw]; exact new_cell rfl rfl
                    have g6_5 := Lib.hid (HTn.out.trans gx)
                    clear gx hw
                    refine hK.out _ _ (HX.out _ g6_5.out) (fun hh => ?_)
                    clear hK K
                    try simp only [Act.put, List.setIfInBounds_toArray, List.set_cons_zero, List.set_cons_succ]
                    refine wpAnyH_ready (rs := [1, 12]) (by kernel_rfl) (by simp) ?_
                    refine AllReadyH.cons (o := { dst := some 106, op := Go.Op.call { callee := Go.Callee.value (.func 18), args := #[.tmp 105], argTypes := #[24] }, type := 29, pos := "top03.go:32", after := #[{ on := 0, ground := .data }], guard := none }) rfl (fun K hK => ?_) (AllReadyH.cons (o := { dst := some 18, op := Go.Op.alloc 24, type := 0, pos := "top03.go:32", after := #[], guard := none }) rfl (fun K hK => ?_) AllReadyH.nil)
                    · skip
                      go_simp
                      go_at_call 18; refine (PO.out _ (HMz.out.gr g6_5.out)).mono ?_
                      rintro e w1_6 ⟨pa, pc, rfl, own, gx⟩
                      have g1_6 := Lib.hid (g6_5.out.trans gx)
                      replace el := gx.cell el
                      replace own := World.ownsRow.mono own g6_5.out.size
                      clear gx
                      first | refine hK.out _ _ (HX.out _ g1_6.out) (fun hh => ?_) | (go_wp2_with fail; refine hK.out _ _ (HX.out _ g1_6.out) (fun hh => ?_))
                      clear hK K
                      try simp only [Act.put, List.setIfInBounds_toArray, List.set_cons_zero, List.set_cons_succ]
                      refine wpAnyH_ready (rs := [7, 12]) (by kernel_rfl) (by simp) ?_
                      refine AllReadyH.cons (o := { dst := some 112, op := Go.Op.call { callee := Go.Callee.builtin Go.Builtin.append, args := #[.tmp 106, .tmp 111], argTypes := #[29, 29] }, type := 29, pos := "top03.go:32", after := #[{ on := 1, ground := .data }, { on := 6, ground := .data }, { on := 1, ground := .chain }], guard := none }) rfl (fun K hK => ?_) (AllReadyH.cons (o := { dst := some 18, op := Go.Op.alloc 24, type := 0, pos := "top03.go:32", after := #[], guard := none }) rfl (fun K hK => ?_) AllReadyH.nil)
                      · skip
                        refine step_append_lies _ (by rfl) _ _ _ (by rfl) wz.heap.size 9 i0 (.string ⟨#[]⟩) 1 16 Tryd.underlying29 hi hz0 hz1 hz2 rfl (by decide) (.slice pa P.length pc) P.length (strCells P) (by rfl) own ⟨w0.heap.size, 0, none⟩ 1 1 [.string s] (by rfl) (by rfl) (one_cell el) (by intro u' hu'; simp at hu'; subst hu'; rfl) (by omega) (by unfold maxLen; omega) (by omega) g1_6.out.size w1_6.heap.size (by rfl) ?_
                        intro ga ca w7_7 own7 hgrow _ _
                        have g7_7 := Lib.hid (g1_6.out.append own hgrow)
                        have own8 : w7_7.ownsRow wz.heap.size 9 1 (.slice (some ⟨ga, 0, none⟩) (P.length + 1) ca) PP.length (strCells PP) := by rw [hPP.out]; simpa [strCells] using own7
                        obtain ⟨af, cf, hv, hst⟩ := strs_of_row own8 HZ.out (by have := HPL.out; omega)
                        rw [hv]
                        clear hv own8 own7 hgrow own el
                        refine hK.out _ _ (HX.out _ g7_7.out) (fun hh => ?_)
                        clear hK K
                        try simp only [Act.put, List.setIfInBounds_toArray, List.set_cons_zero, List.set_cons_succ]
                        refine wpAnyH_ready (rs := [8, 12]) (by kernel_rfl) (by simp) ?_
                        refine AllReadyH.cons (o := { dst := some 113, op := Go.Op.call { callee := Go.Callee.value (.func 20), args := #[.tmp 112], argTypes := #[29] }, type := 27, pos := "top03.go:32", after := #[{ on := 7, ground := .data }, { on := 7, ground := .chain }], guard := none }) rfl (fun K hK => ?_) (AllReadyH.cons (o := { dst := some 18, op := Go.Op.alloc 24, type := 0, pos := "top03.go:32", after := #[], guard := none }) rfl (fun K hK => ?_) AllReadyH.nil)
                        · skip
                          go_simp
                          go_at_call 20
                          refine (made_any af PP cf w7_7 hst (HEz.out.gr g7_7.out)).mono ?_
                          intro e w8_8 hmade
                          obtain ⟨tq, vq, rfl, hV, gx⟩ := made_is hmade
                          have g8_8 := Lib.hid (g7_7.out.trans gx)
                          clear gx hst hmade
                          first | refine hK.out _ _ (HX.out _ g8_8.out) (fun hh => ?_) | (go_wp2_with fail; refine hK.out _ _ (HX.out _ g8_8.out) (fun hh => ?_))
                          clear hK K
                          try simp only [Act.put, List.setIfInBounds_toArray, List.set_cons_zero, List.set_cons_succ]
                          refine wpAnyH_take (i := 9) (oi := { dst := some 104, op := Go.Op.move (.tmp 113), type := 27, pos := "top03.go:32", after := #[{ on := 8, ground := .data }], guard := none }) (v := .tuple #[.agg #[.string tq], vq]) rfl (by kernel_rfl) (by kernel_rfl) (by kernel_rfl) (fun _ _ _ h => h) (Or.inl ⟨by rfl, (fun w hSw => by (try dsimp only at hSw); obtain ⟨-, hc1, hc2⟩ := hSw; go_simp <;> (first | done | rfl))⟩) (by assumption) ?_
                          try simp only [Act.put, List.setIfInBounds_toArray, List.set_cons_zero, List.set_cons_succ]
                          refine wpAnyH_take (i := 10) (oi := { dst := some 114, op := Go.Op.extract (.tmp 104) 0, type := 24, pos := "top03.go:32", after := #[{ on := 9, ground := .data }], guard := none }) (v := .agg #[.string tq]) rfl (by kernel_rfl) (by kernel_rfl) (by kernel_rfl) (fun _ _ _ h => h) (Or.inl ⟨by rfl, (fun w hSw => by (try dsimp only at hSw); obtain ⟨-, hc1, hc2⟩ := hSw; go_simp <;> (first | done | rfl))⟩) (by assumption) ?_
                          try simp only [Act.put, List.setIfInBounds_toArray, List.set_cons_zero, List.set_cons_succ]
                          refine wpAnyH_take (i := 11) (oi := { dst := some 115, op := Go.Op.extract (.tmp 104) 1, type := 26, pos := "top03.go:32", after := #[{ on := 9, ground := .data }, { on := 13, ground := .gcOnly Go.Departure.lateStores }], guard := none }) (v := vq) rfl (by kernel_rfl) (by kernel_rfl) (by kernel_rfl) (fun _ _ _ h => h) (Or.inl ⟨by rfl, (fun w hSw => by (try dsimp only at hSw); obtain ⟨-, hc1, hc2⟩ := hSw; go_simp <;> (first | done | rfl))⟩) (by assumption) ?_
                          try simp only [Act.put, List.setIfInBounds_toArray, List.set_cons_zero, List.set_cons_succ]
                          refine wpAnyH_ready (rs := [12]) (by kernel_rfl) (by simp) ?_
                          refine AllReadyH.cons (o := { dst := some 18, op := Go.Op.alloc 24, type := 0, pos := "top03.go:32", after := #[], guard := none }) rfl (fun K hK => ?_) AllReadyH.nil
                          · skip
                            go_simp
                            obtain ⟨w12_12, hw⟩ : ∃ wn, wn = w8_8.alloc (.cells #[.string ⟨#[]⟩] 24) := ⟨_, rfl⟩
                            rw [← hw]
                            have gx : Gr w8_8 w12_12 := by rw [hw]; exact (Gr.refl _).alloc _
                            have al : w12_12.cell? ⟨w8_8.heap.size, 0, none⟩ = some (.string ⟨#[]⟩) := by rw [hw]; exact new_cell rfl rfl
                            have fl : w12_12.frozen? ⟨w8_8.heap.size, 0, none⟩ = false := by rw [hw]; exact new_free rfl
                            have hnb : wz.heap.size ≤ w8_8.heap.size := g8_8.out.size
                            have g12_12 := Lib.hid (g8_8.out.trans gx)
                            clear gx hw
                            refine hK.out _ _ (HX.out _ g12_12.out) (fun hh => ?_)
                            clear hK K
                            try simp only [Act.put, List.setIfInBounds_toArray, List.set_cons_zero, List.set_cons_succ]
                            refine wpAnyH_ready (rs := [13]) (by kernel_rfl) (by simp) ?_
                            refine AllReadyH.cons (o := { dst := none, op := Go.Op.store 24 (.tmp 18) (.tmp 114), type := 0, pos := "top03.go:32", after := #[{ on := 12, ground := .data }, { on := 10, ground := .data }, { on := 8, ground := .chain }, { on := 0, ground := .phase }, { on := 1, ground := .phase }, { on := 2, ground := .phase }, { on := 3, ground := .phase }, { on := 4, ground := .phase }, { on := 5, ground := .phase }, { on := 6, ground := .phase }, { on := 7, ground := .phase }, { on := 8, ground := .phase }, { on := 9, ground := .phase }, { on := 10, ground := .phase }, { on := 11, ground := .textOnly Go.Departure.lateStores }, { on := 12, ground := .phase }], guard := none }) rfl (fun K hK => ?_) AllReadyH.nil
                            · skip
                              go_simp
                              obtain ⟨w13_13, hw⟩ : ∃ wn, wn = w12_12.setCell ⟨w8_8.heap.size, 0, none⟩ (.string tq) := ⟨_, rfl⟩
                              rw [← hw]
                              have cq : w13_13.cell? ⟨w8_8.heap.size, 0, none⟩ = some (.string tq) := by rw [hw]; exact World.cell?_setCell_same' _ _ _ (by rw [al]; rfl)
                              have g13_13 : Hid (Gr wz w13_13) := Lib.hid (by rw [hw]; exact g12_12.out.setCell hnb _)
                              clear al fl hw
                              refine hK.out _ _ (HX.out _ g13_13.out) (fun hh => ?_)
                              clear hK K
                              try simp only [Act.put, List.setIfInBounds_toArray, List.set_cons_zero, List.set_cons_succ]
                              refine wpAnyH_take (i := 14) (oi := { dst := some 19, op := Go.Op.assign (.tmp 115), type := 26, pos := "top03.go:32", after := #[{ on := 11, ground := .data }, { on := 13, ground := .chain }, { on := 0, ground := .phase }, { on := 1, ground := .phase }, { on := 2, ground := .phase }, { on := 3, ground := .phase }, { on := 4, ground := .phase }, { on := 5, ground := .phase }, { on := 6, ground := .phase }, { on := 7, ground := .phase }, { on := 8, ground := .phase }, { on := 9, ground := .phase }, { on := 10, ground := .phase }, { on := 11, ground := .phase }, { on := 12, ground := .phase }, { on := 13, ground := .phase }], guard := none }) (v := vq) rfl (by kernel_rfl) (by kernel_rfl) (by kernel_rfl) (fun _ _ _ h => h) (Or.inl ⟨by rfl, (fun w hSw => by (try dsimp only at hSw); obtain ⟨-, hc1, hc2⟩ := hSw; go_simp <;> (first | done | rfl))⟩) (by assumption) ?_
                              try simp only [Act.put, List.setIfInBounds_toArray, List.set_cons_zero, List.set_cons_succ]
                              refine wpAnyH_done (by kernel_rfl) ?_ _
                              have pl := g13_13.out.cell pz
                              have fl9 := FZ.out _ g13_13.out
                              have G39 := Lib.hid (hGz.out.trans g13_13.out)
                              clear HX FZ hh pz hcell fz PO HMz HEz HZ hPP HPL hnb
                              rcases hV.out with ⟨ho, ht, hv⟩ | ⟨ho, bb, hv⟩
                              · subst hv
                                have GS := Lib.hid (G39.out.setCell (Nat.le_refl _) (.string tq) : Gr w6 (w13_13.setCell ⟨w6.heap.size, 0, none⟩ (.string tq)))
                                have ps : (w13_13.setCell ⟨w6.heap.size, 0, none⟩ (.string tq)).cell? ⟨w6.heap.size, 0, none⟩ = some (.string tq) := World.cell?_setCell_same' _ _ _ (by rw [pl]; rfl)
                                have fs : (w13_13.setCell ⟨w6.heap.size, 0, none⟩ (.string tq)).frozen? ⟨w6.heap.size, 0, none⟩ = false := by rw [World.frozen?_setCell]; exact fl9
                                have FQ := Lib.hid (fun w hh h3 => FD.out PP w hh ho h3)
                                rw [BELOW.out PP HPRE.out, ← ht] at FQ
                                have HO := Lib.hid ho
                                have HTQ := Lib.hid ht.symm
                                clear ho ht hV
                                go_wp2_with fail
                                refine (FQ.out _ (HT6.out.gr GS.out) (HE.out.gr (HG6.out.trans GS.out))).mono ?_
                                intro e w40 h40
                                obtain ⟨rfl, hg40⟩ := findIs_yes (by omega) h40
                                have ps2 := hg40.cell ps
                                have fs2 := (hg40.frozen (o := 0) (cell_lt ps)).trans fs
                                have G40 := Lib.hid (GS.out.trans hg40)
                                clear h40 hg40 ps fs pl fl9 cq
                                go_wp2
                                go_roundw
                                case rel => exact ⟨j + 1, PP, tq, by go_num, by omega, by omega, HPRE, HO, HTQ, ps2, fs2, G40⟩
                                case measure => simp [intOf]; omega
                              · subst hv
                                clear hV ho cq
                                go_wp2
                                go_roundw
                                case rel => exact ⟨j + 1, P, u, by go_num, by omega, by omega, hpre, hok, hu, pl, fl9, G39⟩
                                case measure => simp [intOf]; omega
                        · skip
                          go_simp
                          obtain ⟨w12_8, hw⟩ : ∃ wn, wn = w7_7.alloc (.cells #[.string ⟨#[]⟩] 24) := ⟨_, rfl⟩
                          rw [← hw]
                          have gx : Gr w7_7 w12_8 := by rw [hw]; exact (Gr.refl _).alloc _
                          have al : w12_8.cell? ⟨w7_7.heap.size, 0, none⟩ = some (.string ⟨#[]⟩) := by rw [hw]; exact new_cell rfl rfl
                          have fl : w12_8.frozen? ⟨w7_7.heap.size, 0, none⟩ = false := by rw [hw]; exact new_free rfl
                          have hnb : wz.heap.size ≤ w7_7.heap.size := g7_7.out.size
                          have g12_8 := Lib.hid (g7_7.out.trans gx)
                          replace hst := hst.gr gx
                          clear gx hw
                          refine hK.out _ _ (HX.out _ g12_8.out) (fun hh => ?_)
                          clear hK K
                          try simp only [Act.put, List.setIfInBounds_toArray, List.set_cons_zero, List.set_cons_succ]
                          refine wpAnyH_ready (rs := [8]) (by kernel_rfl) (by simp) ?_
                          refine AllReadyH.cons (o := { dst := some 113, op := Go.Op.call { callee := Go.Callee.value (.func 20), args := #[.tmp 112], argTypes := #[29] }, type := 27, pos := "top03.go:32", after := #[{ on := 7, ground := .data }, { on := 7, ground := .chain }], guard := none }) rfl (fun K hK => ?_) AllReadyH.nil
                          · skip
                            go_simp
                            go_at_call 20
                            refine (made_any af PP cf w12_8 hst (HEz.out.gr g12_8.out)).mono ?_
                            intro e w8_9 hmade
                            obtain ⟨tq, vq, rfl, hV, gx⟩ := made_is hmade
                            have g8_9 := Lib.hid (g12_8.out.trans gx)
                            replace fl := (gx.frozen (o := 0) (cell_lt al)).trans fl
                            replace al := gx.cell al
                            clear gx hst hmade
                            first | refine hK.out _ _ (HX.out _ g8_9.out) (fun hh => ?_) | (go_wp2_with fail; refine hK.out _ _ (HX.out _ g8_9.out) (fun hh => ?_))
                            clear hK K
                            try simp only [Act.put, List.setIfInBounds_toArray, List.set_cons_zero, List.set_cons_succ]
                            refine wpAnyH_take (i := 9) (oi := { dst := some 104, op := Go.Op.move (.tmp 113), type := 27, pos := "top03.go:32", after := #[{ on := 8, ground := .data }], guard := none }) (v := .tuple #[.agg #[.string tq], vq]) rfl (by kernel_rfl) (by kernel_rfl) (by kernel_rfl) (fun _ _ _ h => h) (Or.inl ⟨by rfl, (fun w hSw => by (try dsimp only at hSw); obtain ⟨-, hc1, hc2⟩ := hSw; go_simp <;> (first | done | rfl))⟩) (by assumption) ?_
                            try simp only [Act.put, List.setIfInBounds_toArray, List.set_cons_zero, List.set_cons_succ]
                            refine wpAnyH_take (i := 10) (oi := { dst := some 114, op := Go.Op.extract (.tmp 104) 0, type := 24, pos := "top03.go:32", after := #[{ on := 9, ground := .data }], guard := none }) (v := .agg #[.string tq]) rfl (by kernel_rfl) (by kernel_rfl) (by kernel_rfl) (fun _ _ _ h => h) (Or.inl ⟨by rfl, (fun w hSw => by (try dsimp only at hSw); obtain ⟨-, hc1, hc2⟩ := hSw; go_simp <;> (first | done | rfl))⟩) (by assumption) ?_
                            try simp only [Act.put, List.setIfInBounds_toArray, List.set_cons_zero, List.set_cons_succ]
                            refine wpAnyH_take (i := 11) (oi := { dst := some 115, op := Go.Op.extract (.tmp 104) 1, type := 26, pos := "top03.go:32", after := #[{ on := 9, ground := .data }, { on := 13, ground := .gcOnly Go.Departure.lateStores }], guard := none }) (v := vq) rfl (by kernel_rfl) (by kernel_rfl) (by kernel_rfl) (fun _ _ _ h => h) (Or.inl ⟨by rfl, (fun w hSw => by (try dsimp only at hSw); obtain ⟨-, hc1, hc2⟩ := hSw; go_simp <;> (first | done | rfl))⟩) (by assumption) ?_
                            try simp only [Act.put, List.setIfInBounds_toArray, List.set_cons_zero, List.set_cons_succ]
                            refine wpAnyH_ready (rs := [13]) (by kernel_rfl) (by simp) ?_
                            refine AllReadyH.cons (o := { dst := none, op := Go.Op.store 24 (.tmp 18) (.tmp 114), type := 0, pos := "top03.go:32", after := #[{ on := 12, ground := .data }, { on := 10, ground := .data }, { on := 8, ground := .chain }, { on := 0, ground := .phase }, { on := 1, ground := .phase }, { on := 2, ground := .phase }, { on := 3, ground := .phase }, { on := 4, ground := .phase }, { on := 5, ground := .phase }, { on := 6, ground := .phase }, { on := 7, ground := .phase }, { on := 8, ground := .phase }, { on := 9, ground := .phase }, { on := 10, ground := .phase }, { on := 11, ground := .textOnly Go.Departure.lateStores }, { on := 12, ground := .phase }], guard := none }) rfl (fun K hK => ?_) AllReadyH.nil
                            · skip
                              go_simp
                              obtain ⟨w13_13, hw⟩ : ∃ wn, wn = w8_9.setCell ⟨w7_7.heap.size, 0, none⟩ (.string tq) := ⟨_, rfl⟩
                              rw [← hw]
                              have cq : w13_13.cell? ⟨w7_7.heap.size, 0, none⟩ = some (.string tq) := by rw [hw]; exact World.cell?_setCell_same' _ _ _ (by rw [al]; rfl)
                              have g13_13 : Hid (Gr wz w13_13) := Lib.hid (by rw [hw]; exact g8_9.out.setCell hnb _)
                              clear al fl hw
                              refine hK.out _ _ (HX.out _ g13_13.out) (fun hh => ?_)
                              clear hK K
                              try simp only [Act.put, List.setIfInBounds_toArray, List.set_cons_zero, List.set_cons_succ]
                              refine wpAnyH_take (i := 14) (oi := { dst := some 19, op := Go.Op.assign (.tmp 115), type := 26, pos := "top03.go:32", after := #[{ on := 11, ground := .data }, { on := 13, ground := .chain }, { on := 0, ground := .phase }, { on := 1, ground := .phase }, { on := 2, ground := .phase }, { on := 3, ground := .phase }, { on := 4, ground := .phase }, { on := 5, ground := .phase }, { on := 6, ground := .phase }, { on := 7, ground := .phase }, { on := 8, ground := .phase }, { on := 9, ground := .phase }, { on := 10, ground := .phase }, { on := 11, ground := .phase }, { on := 12, ground := .phase }, { on := 13, ground := .phase }], guard := none }) (v := vq) rfl (by kernel_rfl) (by kernel_rfl) (by kernel_rfl) (fun _ _ _ h => h) (Or.inl ⟨by rfl, (fun w hSw => by (try dsimp only at hSw); obtain ⟨-, hc1, hc2⟩ := hSw; go_simp <;> (first | done | rfl))⟩) (by assumption) ?_
                              try simp only [Act.put, List.setIfInBounds_toArray, List.set_cons_zero, List.set_cons_succ]
                              refine wpAnyH_done (by kernel_rfl) ?_ _
                              have pl := g13_13.out.cell pz
                              have fl9 := FZ.out _ g13_13.out
                              have G39 := Lib.hid (hGz.out.trans g13_13.out)
                              clear HX FZ hh pz hcell fz PO HMz HEz HZ hPP HPL hnb
                              rcases hV.out with ⟨ho, ht, hv⟩ | ⟨ho, bb, hv⟩
                              · subst hv
                                have GS := Lib.hid (G39.out.setCell (Nat.le_refl _) (.string tq) : Gr w6 (w13_13.setCell ⟨w6.heap.size, 0, none⟩ (.string tq)))
                                have ps : (w13_13.setCell ⟨w6.heap.size, 0, none⟩ (.string tq)).cell? ⟨w6.heap.size, 0, none⟩ = some (.string tq) := World.cell?_setCell_same' _ _ _ (by rw [pl]; rfl)
                                have fs : (w13_13.setCell ⟨w6.heap.size, 0, none⟩ (.string tq)).frozen? ⟨w6.heap.size, 0, none⟩ = false := by rw [World.frozen?_setCell]; exact fl9
                                have FQ := Lib.hid (fun w hh h3 => FD.out PP w hh ho h3)
                                rw [BELOW.out PP HPRE.out, ← ht] at FQ
                                have HO := Lib.hid ho
                                have HTQ := Lib.hid ht.symm
                                clear ho ht hV
                                go_wp2_with fail
                                refine (FQ.out _ (HT6.out.gr GS.out) (HE.out.gr (HG6.out.trans GS.out))).mono ?_
                                intro e w40 h40
                                obtain ⟨rfl, hg40⟩ := findIs_yes (by omega) h40
                                have ps2 := hg40.cell ps
                                have fs2 := (hg40.frozen (o := 0) (cell_lt ps)).trans fs
                                have G40 := Lib.hid (GS.out.trans hg40)
                                clear h40 hg40 ps fs pl fl9 cq
                                go_wp2
                                go_roundw
                                case rel => exact ⟨j + 1, PP, tq, by go_num, by omega, by omega, HPRE, HO, HTQ, ps2, fs2, G40⟩
                                case measure => simp [intOf]; omega
                              · subst hv
                                clear hV ho cq
                                go_wp2
                                go_roundw
                                case rel => exact ⟨j + 1, P, u, by go_num, by omega, by omega, hpre, hok, hu, pl, fl9, G39⟩
                                case measure => simp [intOf]; omega
                      · skip
                        go_simp
                        obtain ⟨w12_7, hw⟩ : ∃ wn, wn = w1_6.alloc (.cells #[.string ⟨#[]⟩] 24) := ⟨_, rfl⟩
                        rw [← hw]
                        have gx : Gr w1_6 w12_7 := by rw [hw]; exact (Gr.refl _).alloc _
                        have al : w12_7.cell? ⟨w1_6.heap.size, 0, none⟩ = some (.string ⟨#[]⟩) := by rw [hw]; exact new_cell rfl rfl
                        have fl : w12_7.frozen? ⟨w1_6.heap.size, 0, none⟩ = false := by rw [hw]; exact new_free rfl
                        have hnb : wz.heap.size ≤ w1_6.heap.size := g1_6.out.size
                        have g12_7 := Lib.hid (g1_6.out.trans gx)
                        have hne : some (w1_6.heap.size) ≠ (Value.slice pa P.length pc).ownBlock := fun hx => by have h1 := (World.ownsRow.lt own _ hx.symm).2; omega
                        replace own := ownsRow_gr gx own
                        replace el := gx.cell el
                        clear gx hw
                        refine hK.out _ _ (HX.out _ g12_7.out) (fun hh => ?_)
                        clear hK K
                        try simp only [Act.put, List.setIfInBounds_toArray, List.set_cons_zero, List.set_cons_succ]
                        refine wpAnyH_ready (rs := [7]) (by kernel_rfl) (by simp) ?_
                        refine AllReadyH.cons (o := { dst := some 112, op := Go.Op.call { callee := Go.Callee.builtin Go.Builtin.append, args := #[.tmp 106, .tmp 111], argTypes := #[29, 29] }, type := 29, pos := "top03.go:32", after := #[{ on := 1, ground := .data }, { on := 6, ground := .data }, { on := 1, ground := .chain }], guard := none }) rfl (fun K hK => ?_) AllReadyH.nil
                        · skip
                          refine step_append_lies _ (by rfl) _ _ _ (by rfl) wz.heap.size 9 i0 (.string ⟨#[]⟩) 1 16 Tryd.underlying29 hi hz0 hz1 hz2 rfl (by decide) (.slice pa P.length pc) P.length (strCells P) (by rfl) own ⟨w0.heap.size, 0, none⟩ 1 1 [.string s] (by rfl) (by rfl) (one_cell el) (by intro u' hu'; simp at hu'; subst hu'; rfl) (by omega) (by unfold maxLen; omega) (by omega) g12_7.out.size w12_7.heap.size (by rfl) ?_
                          intro ga ca w7_8 own7 hgrow _ _
                          have g7_8 := Lib.hid (g12_7.out.append own hgrow)
                          replace fl := (hgrow.frozen_far _ (cell_lt al) hne).trans fl
                          replace al := (hgrow.cell_far _ (cell_lt al) hne).trans al
                          clear hne
                          have own8 : w7_8.ownsRow wz.heap.size 9 1 (.slice (some ⟨ga, 0, none⟩) (P.length + 1) ca) PP.length (strCells PP) := by rw [hPP.out]; simpa [strCells] using own7
                          obtain ⟨af, cf, hv, hst⟩ := strs_of_row own8 HZ.out (by have := HPL.out; omega)
                          rw [hv]
                          clear hv own8 own7 hgrow own el
                          refine hK.out _ _ (HX.out _ g7_8.out) (fun hh => ?_)
                          clear hK K
                          try simp only [Act.put, List.setIfInBounds_toArray, List.set_cons_zero, List.set_cons_succ]
                          refine wpAnyH_ready (rs := [8]) (by kernel_rfl) (by simp) ?_
                          refine AllReadyH.cons (o := { dst := some 113, op := Go.Op.call { callee := Go.Callee.value (.func 20), args := #[.tmp 112], argTypes := #[29] }, type := 27, pos := "top03.go:32", after := #[{ on := 7, ground := .data }, { on := 7, ground := .chain }], guard := none }) rfl (fun K hK => ?_) AllReadyH.nil
                          · skip
                            go_simp
                            go_at_call 20
                            refine (made_any af PP cf w7_8 hst (HEz.out.gr g7_8.out)).mono ?_
                            intro e w8_9 hmade
                            obtain ⟨tq, vq, rfl, hV, gx⟩ := made_is hmade
                            have g8_9 := Lib.hid (g7_8.out.trans gx)
                            replace fl := (gx.frozen (o := 0) (cell_lt al)).trans fl
                            replace al := gx.cell al
                            clear gx hst hmade
                            first | refine hK.out _ _ (HX.out _ g8_9.out) (fun hh => ?_) | (go_wp2_with fail; refine hK.out _ _ (HX.out _ g8_9.out) (fun hh => ?_))
                            clear hK K
                            try simp only [Act.put, List.setIfInBounds_toArray, List.set_cons_zero, List.set_cons_succ]
                            refine wpAnyH_take (i := 9) (oi := { dst := some 104, op := Go.Op.move (.tmp 113), type := 27, pos := "top03.go:32", after := #[{ on := 8, ground := .data }], guard := none }) (v := .tuple #[.agg #[.string tq], vq]) rfl (by kernel_rfl) (by kernel_rfl) (by kernel_rfl) (fun _ _ _ h => h) (Or.inl ⟨by rfl, (fun w hSw => by (try dsimp only at hSw); obtain ⟨-, hc1, hc2⟩ := hSw; go_simp <;> (first | done | rfl))⟩) (by assumption) ?_
                            try simp only [Act.put, List.setIfInBounds_toArray, List.set_cons_zero, List.set_cons_succ]
                            refine wpAnyH_take (i := 10) (oi := { dst := some 114, op := Go.Op.extract (.tmp 104) 0, type := 24, pos := "top03.go:32", after := #[{ on := 9, ground := .data }], guard := none }) (v := .agg #[.string tq]) rfl (by kernel_rfl) (by kernel_rfl) (by kernel_rfl) (fun _ _ _ h => h) (Or.inl ⟨by rfl, (fun w hSw => by (try dsimp only at hSw); obtain ⟨-, hc1, hc2⟩ := hSw; go_simp <;> (first | done | rfl))⟩) (by assumption) ?_
                            try simp only [Act.put, List.setIfInBounds_toArray, List.set_cons_zero, List.set_cons_succ]
                            refine wpAnyH_take (i := 11) (oi := { dst := some 115, op := Go.Op.extract (.tmp 104) 1, type := 26, pos := "top03.go:32", after := #[{ on := 9, ground := .data }, { on := 13, ground := .gcOnly Go.Departure.lateStores }], guard := none }) (v := vq) rfl (by kernel_rfl) (by kernel_rfl) (by kernel_rfl) (fun _ _ _ h => h) (Or.inl ⟨by rfl, (fun w hSw => by (try dsimp only at hSw); obtain ⟨-, hc1, hc2⟩ := hSw; go_simp <;> (first | done | rfl))⟩) (by assumption) ?_
                            try simp only [Act.put, List.setIfInBounds_toArray, List.set_cons_zero, List.set_cons_succ]
                            refine wpAnyH_ready (rs := [13]) (by kernel_rfl) (by simp) ?_
                            refine AllReadyH.cons (o := { dst := none, op := Go.Op.store 24 (.tmp 18) (.tmp 114), type := 0, pos := "top03.go:32", after := #[{ on := 12, ground := .data }, { on := 10, ground := .data }, { on := 8, ground := .chain }, { on := 0, ground := .phase }, { on := 1, ground := .phase }, { on := 2, ground := .phase }, { on := 3, ground := .phase }, { on := 4, ground := .phase }, { on := 5, ground := .phase }, { on := 6, ground := .phase }, { on := 7, ground := .phase }, { on := 8, ground := .phase }, { on := 9, ground := .phase }, { on := 10, ground := .phase }, { on := 11, ground := .textOnly Go.Departure.lateStores }, { on := 12, ground := .phase }], guard := none }) rfl (fun K hK => ?_) AllReadyH.nil
                            · skip
                              go_simp
                              obtain ⟨w13_13, hw⟩ : ∃ wn, wn = w8_9.setCell ⟨w1_6.heap.size, 0, none⟩ (.string tq) := ⟨_, rfl⟩
                              rw [← hw]
                              have cq : w13_13.cell? ⟨w1_6.heap.size, 0, none⟩ = some (.string tq) := by rw [hw]; exact World.cell?_setCell_same' _ _ _ (by rw [al]; rfl)
                              have g13_13 : Hid (Gr wz w13_13) := Lib.hid (by rw [hw]; exact g8_9.out.setCell hnb _)
                              clear al fl hw
                              refine hK.out _ _ (HX.out _ g13_13.out) (fun hh => ?_)
                              clear hK K
                              try simp only [Act.put, List.setIfInBounds_toArray, List.set_cons_zero, List.set_cons_succ]
                              refine wpAnyH_take (i := 14) (oi := { dst := some 19, op := Go.Op.assign (.tmp 115), type := 26, pos := "top03.go:32", after := #[{ on := 11, ground := .data }, { on := 13, ground := .chain }, { on := 0, ground := .phase }, { on := 1, ground := .phase }, { on := 2, ground := .phase }, { on := 3, ground := .phase }, { on := 4, ground := .phase }, { on := 5, ground := .phase }, { on := 6, ground := .phase }, { on := 7, ground := .phase }, { on := 8, ground := .phase }, { on := 9, ground := .phase }, { on := 10, ground := .phase }, { on := 11, ground := .phase }, { on := 12, ground := .phase }, { on := 13, ground := .phase }], guard := none }) (v := vq) rfl (by kernel_rfl) (by kernel_rfl) (by kernel_rfl) (fun _ _ _ h => h) (Or.inl ⟨by rfl, (fun w hSw => by (try dsimp only at hSw); obtain ⟨-, hc1, hc2⟩ := hSw; go_simp <;> (first | done | rfl))⟩) (by assumption) ?_
                              try simp only [Act.put, List.setIfInBounds_toArray, List.set_cons_zero, List.set_cons_succ]
                              refine wpAnyH_done (by kernel_rfl) ?_ _
                              have pl := g13_13.out.cell pz
                              have fl9 := FZ.out _ g13_13.out
                              have G39 := Lib.hid (hGz.out.trans g13_13.out)
                              clear HX FZ hh pz hcell fz PO HMz HEz HZ hPP HPL hnb
                              rcases hV.out with ⟨ho, ht, hv⟩ | ⟨ho, bb, hv⟩
                              · subst hv
                                have GS := Lib.hid (G39.out.setCell (Nat.le_refl _) (.string tq) : Gr w6 (w13_13.setCell ⟨w6.heap.size, 0, none⟩ (.string tq)))
                                have ps : (w13_13.setCell ⟨w6.heap.size, 0, none⟩ (.string tq)).cell? ⟨w6.heap.size, 0, none⟩ = some (.string tq) := World.cell?_setCell_same' _ _ _ (by rw [pl]; rfl)
                                have fs : (w13_13.setCell ⟨w6.heap.size, 0, none⟩ (.string tq)).frozen? ⟨w6.heap.size, 0, none⟩ = false := by rw [World.frozen?_setCell]; exact fl9
                                have FQ := Lib.hid (fun w hh h3 => FD.out PP w hh ho h3)
                                rw [BELOW.out PP HPRE.out, ← ht] at FQ
                                have HO := Lib.hid ho
                                have HTQ := Lib.hid ht.symm
                                clear ho ht hV
                                go_wp2_with fail
                                refine (FQ.out _ (HT6.out.gr GS.out) (HE.out.gr (HG6.out.trans GS.out))).mono ?_
                                intro e w40 h40
                                obtain ⟨rfl, hg40⟩ := findIs_yes (by omega) h40
                                have ps2 := hg40.cell ps
                                have fs2 := (hg40.frozen (o := 0) (cell_lt ps)).trans fs
                                have G40 := Lib.hid (GS.out.trans hg40)
                                clear h40 hg40 ps fs pl fl9 cq
                                go_wp2
                                go_roundw
                                case rel => exact ⟨j + 1, PP, tq, by go_num, by omega, by omega, HPRE, HO, HTQ, ps2, fs2, G40⟩
                                case measure => simp [intOf]; omega
                              · subst hv
                                clear hV ho cq
                                go_wp2
                                go_roundw
                                case rel => exact ⟨j + 1, P, u, by go_num, by omega, by omega, hpre, hok, hu, pl, fl9, G39⟩
                                case measure => simp [intOf]; omega
                    · skip
                      go_simp
                      obtain ⟨w12_6, hw⟩ : ∃ wn, wn = w6_5.alloc (.cells #[.string ⟨#[]⟩] 24) := ⟨_, rfl⟩
                      rw [← hw]
                      have gx : Gr w6_5 w12_6 := by rw [hw]; exact (Gr.refl _).alloc _
                      have al : w12_6.cell? ⟨w6_5.heap.size, 0, none⟩ = some (.string ⟨#[]⟩) := by rw [hw]; exact new_cell rfl rfl
                      have fl : w12_6.frozen? ⟨w6_5.heap.size, 0, none⟩ = false := by rw [hw]; exact new_free rfl
                      have hnb : wz.heap.size ≤ w6_5.heap.size := g6_5.out.size
                      have g12_6 := Lib.hid (g6_5.out.trans gx)
                      replace el := gx.cell el
                      clear gx hw
                      refine hK.out _ _ (HX.out _ g12_6.out) (fun hh => ?_)
                      clear hK K
                      try simp only [Act.put, List.setIfInBounds_toArray, List.set_cons_zero, List.set_cons_succ]
                      refine wpAnyH_ready (rs := [1]) (by kernel_rfl) (by simp) ?_
                      refine AllReadyH.cons (o := { dst := some 106, op := Go.Op.call { callee := Go.Callee.value (.func 18), args := #[.tmp 105], argTypes := #[24] }, type := 29, pos := "top03.go:32", after := #[{ on := 0, ground := .data }], guard := none }) rfl (fun K hK => ?_) AllReadyH.nil
                      · skip
                        go_simp
                        go_at_call 18; refine (PO.out _ (HMz.out.gr g12_6.out)).mono ?_
                        rintro e w1_7 ⟨pa, pc, rfl, own, gx⟩
                        have g1_7 := Lib.hid (g12_6.out.trans gx)
                        have hne : some (w6_5.heap.size) ≠ (Value.slice pa P.length pc).ownBlock := fun hx => by have h1 := (World.ownsRow.lt own _ hx.symm).1; have h2 := cell_lt al; omega
                        replace fl := (gx.frozen (o := 0) (cell_lt al)).trans fl
                        replace al := gx.cell al
                        replace el := gx.cell el
                        replace own := World.ownsRow.mono own g12_6.out.size
                        clear gx
                        first | refine hK.out _ _ (HX.out _ g1_7.out) (fun hh => ?_) | (go_wp2_with fail; refine hK.out _ _ (HX.out _ g1_7.out) (fun hh => ?_))
                        clear hK K
                        try simp only [Act.put, List.setIfInBounds_toArray, List.set_cons_zero, List.set_cons_succ]
                        refine wpAnyH_ready (rs := [7]) (by kernel_rfl) (by simp) ?_
                        refine AllReadyH.cons (o := { dst := some 112, op := Go.Op.call { callee := Go.Callee.builtin Go.Builtin.append, args := #[.tmp 106, .tmp 111], argTypes := #[29, 29] }, type := 29, pos := "top03.go:32", after := #[{ on := 1, ground := .data }, { on := 6, ground := .data }, { on := 1, ground := .chain }], guard := none }) rfl (fun K hK => ?_) AllReadyH.nil
                        · skip
                          refine step_append_lies _ (by rfl) _ _ _ (by rfl) wz.heap.size 9 i0 (.string ⟨#[]⟩) 1 16 Tryd.underlying29 hi hz0 hz1 hz2 rfl (by decide) (.slice pa P.length pc) P.length (strCells P) (by rfl) own ⟨w0.heap.size, 0, none⟩ 1 1 [.string s] (by rfl) (by rfl) (one_cell el) (by intro u' hu'; simp at hu'; subst hu'; rfl) (by omega) (by unfold maxLen; omega) (by omega) g1_7.out.size w1_7.heap.size (by rfl) ?_
                          intro ga ca w7_8 own7 hgrow _ _
                          have g7_8 := Lib.hid (g1_7.out.append own hgrow)
                          replace fl := (hgrow.frozen_far _ (cell_lt al) hne).trans fl
                          replace al := (hgrow.cell_far _ (cell_lt al) hne).trans al
                          clear hne
                          have own8 : w7_8.ownsRow wz.heap.size 9 1 (.slice (some ⟨ga, 0, none⟩) (P.length + 1) ca) PP.length (strCells PP) := by rw [hPP.out]; simpa [strCells] using own7
                          obtain ⟨af, cf, hv, hst⟩ := strs_of_row own8 HZ.out (by have := HPL.out; omega)
                          rw [hv]
                          clear hv own8 own7 hgrow own el
                          refine hK.out _ _ (HX.out _ g7_8.out) (fun hh => ?_)
                          clear hK K
                          try simp only [Act.put, List.setIfInBounds_toArray, List.set_cons_zero, List.set_cons_succ]
                          refine wpAnyH_ready (rs := [8]) (by kernel_rfl) (by simp) ?_
                          refine AllReadyH.cons (o := { dst := some 113, op := Go.Op.call { callee := Go.Callee.value (.func 20), args := #[.tmp 112], argTypes := #[29] }, type := 27, pos := "top03.go:32", after := #[{ on := 7, ground := .data }, { on := 7, ground := .chain }], guard := none }) rfl (fun K hK => ?_) AllReadyH.nil
                          · skip
                            go_simp
                            go_at_call 20
                            refine (made_any af PP cf w7_8 hst (HEz.out.gr g7_8.out)).mono ?_
                            intro e w8_9 hmade
                            obtain ⟨tq, vq, rfl, hV, gx⟩ := made_is hmade
                            have g8_9 := Lib.hid (g7_8.out.trans gx)
                            replace fl := (gx.frozen (o := 0) (cell_lt al)).trans fl
                            replace al := gx.cell al
                            clear gx hst hmade
                            first | refine hK.out _ _ (HX.out _ g8_9.out) (fun hh => ?_) | (go_wp2_with fail; refine hK.out _ _ (HX.out _ g8_9.out) (fun hh => ?_))
                            clear hK K
                            try simp only [Act.put, List.setIfInBounds_toArray, List.set_cons_zero, List.set_cons_succ]
                            refine wpAnyH_take (i := 9) (oi := { dst := some 104, op := Go.Op.move (.tmp 113), type := 27, pos := "top03.go:32", after := #[{ on := 8, ground := .data }], guard := none }) (v := .tuple #[.agg #[.string tq], vq]) rfl (by kernel_rfl) (by kernel_rfl) (by kernel_rfl) (fun _ _ _ h => h) (Or.inl ⟨by rfl, (fun w hSw => by (try dsimp only at hSw); obtain ⟨-, hc1, hc2⟩ := hSw; go_simp <;> (first | done | rfl))⟩) (by assumption) ?_
                            try simp only [Act.put, List.setIfInBounds_toArray, List.set_cons_zero, List.set_cons_succ]
                            refine wpAnyH_take (i := 10) (oi := { dst := some 114, op := Go.Op.extract (.tmp 104) 0, type := 24, pos := "top03.go:32", after := #[{ on := 9, ground := .data }], guard := none }) (v := .agg #[.string tq]) rfl (by kernel_rfl) (by kernel_rfl) (by kernel_rfl) (fun _ _ _ h => h) (Or.inl ⟨by rfl, (fun w hSw => by (try dsimp only at hSw); obtain ⟨-, hc1, hc2⟩ := hSw; go_simp <;> (first | done | rfl))⟩) (by assumption) ?_
                            try simp only [Act.put, List.setIfInBounds_toArray, List.set_cons_zero, List.set_cons_succ]
                            refine wpAnyH_take (i := 11) (oi := { dst := some 115, op := Go.Op.extract (.tmp 104) 1, type := 26, pos := "top03.go:32", after := #[{ on := 9, ground := .data }, { on := 13, ground := .gcOnly Go.Departure.lateStores }], guard := none }) (v := vq) rfl (by kernel_rfl) (by kernel_rfl) (by kernel_rfl) (fun _ _ _ h => h) (Or.inl ⟨by rfl, (fun w hSw => by (try dsimp only at hSw); obtain ⟨-, hc1, hc2⟩ := hSw; go_simp <;> (first | done | rfl))⟩) (by assumption) ?_
                            try simp only [Act.put, List.setIfInBounds_toArray, List.set_cons_zero, List.set_cons_succ]
                            refine wpAnyH_ready (rs := [13]) (by kernel_rfl) (by simp) ?_
                            refine AllReadyH.cons (o := { dst := none, op := Go.Op.store 24 (.tmp 18) (.tmp 114), type := 0, pos := "top03.go:32", after := #[{ on := 12, ground := .data }, { on := 10, ground := .data }, { on := 8, ground := .chain }, { on := 0, ground := .phase }, { on := 1, ground := .phase }, { on := 2, ground := .phase }, { on := 3, ground := .phase }, { on := 4, ground := .phase }, { on := 5, ground := .phase }, { on := 6, ground := .phase }, { on := 7, ground := .phase }, { on := 8, ground := .phase }, { on := 9, ground := .phase }, { on := 10, ground := .phase }, { on := 11, ground := .textOnly Go.Departure.lateStores }, { on := 12, ground := .phase }], guard := none }) rfl (fun K hK => ?_) AllReadyH.nil
                            · skip
                              go_simp
                              obtain ⟨w13_13, hw⟩ : ∃ wn, wn = w8_9.setCell ⟨w6_5.heap.size, 0, none⟩ (.string tq) := ⟨_, rfl⟩
                              rw [← hw]
                              have cq : w13_13.cell? ⟨w6_5.heap.size, 0, none⟩ = some (.string tq) := by rw [hw]; exact World.cell?_setCell_same' _ _ _ (by rw [al]; rfl)
                              have g13_13 : Hid (Gr wz w13_13) := Lib.hid (by rw [hw]; exact g8_9.out.setCell hnb _)
                              clear al fl hw
                              refine hK.out _ _ (HX.out _ g13_13.out) (fun hh => ?_)
                              clear hK K
                              try simp only [Act.put, List.setIfInBounds_toArray, List.set_cons_zero, List.set_cons_succ]
                              refine wpAnyH_take (i := 14) (oi := { dst := some 19, op := Go.Op.assign (.tmp 115), type := 26, pos := "top03.go:32", after := #[{ on := 11, ground := .data }, { on := 13, ground := .chain }, { on := 0, ground := .phase }, { on := 1, ground := .phase }, { on := 2, ground := .phase }, { on := 3, ground := .phase }, { on := 4, ground := .phase }, { on := 5, ground := .phase }, { on := 6, ground := .phase }, { on := 7, ground := .phase }, { on := 8, ground := .phase }, { on := 9, ground := .phase }, { on := 10, ground := .phase }, { on := 11, ground := .phase }, { on := 12, ground := .phase }, { on := 13, ground := .phase }], guard := none }) (v := vq) rfl (by kernel_rfl) (by kernel_rfl) (by kernel_rfl) (fun _ _ _ h => h) (Or.inl ⟨by rfl, (fun w hSw => by (try dsimp only at hSw); obtain ⟨-, hc1, hc2⟩ := hSw; go_simp <;> (first | done | rfl))⟩) (by assumption) ?_
                              try simp only [Act.put, List.setIfInBounds_toArray, List.set_cons_zero, List.set_cons_succ]
                              refine wpAnyH_done (by kernel_rfl) ?_ _
                              have pl := g13_13.out.cell pz
                              have fl9 := FZ.out _ g13_13.out
                              have G39 := Lib.hid (hGz.out.trans g13_13.out)
                              clear HX FZ hh pz hcell fz PO HMz HEz HZ hPP HPL hnb
                              rcases hV.out with ⟨ho, ht, hv⟩ | ⟨ho, bb, hv⟩
                              · subst hv
                                have GS := Lib.hid (G39.out.setCell (Nat.le_refl _) (.string tq) : Gr w6 (w13_13.setCell ⟨w6.heap.size, 0, none⟩ (.string tq)))
                                have ps : (w13_13.setCell ⟨w6.heap.size, 0, none⟩ (.string tq)).cell? ⟨w6.heap.size, 0, none⟩ = some (.string tq) := World.cell?_setCell_same' _ _ _ (by rw [pl]; rfl)
                                have fs : (w13_13.setCell ⟨w6.heap.size, 0, none⟩ (.string tq)).frozen? ⟨w6.heap.size, 0, none⟩ = false := by rw [World.frozen?_setCell]; exact fl9
                                have FQ := Lib.hid (fun w hh h3 => FD.out PP w hh ho h3)
                                rw [BELOW.out PP HPRE.out, ← ht] at FQ
                                have HO := Lib.hid ho
                                have HTQ := Lib.hid ht.symm
                                clear ho ht hV
                                go_wp2_with fail
                                refine (FQ.out _ (HT6.out.gr GS.out) (HE.out.gr (HG6.out.trans GS.out))).mono ?_
                                intro e w40 h40
                                obtain ⟨rfl, hg40⟩ := findIs_yes (by omega) h40
                                have ps2 := hg40.cell ps
                                have fs2 := (hg40.frozen (o := 0) (cell_lt ps)).trans fs
                                have G40 := Lib.hid (GS.out.trans hg40)
                                clear h40 hg40 ps fs pl fl9 cq
                                go_wp2
                                go_roundw
                                case rel => exact ⟨j + 1, PP, tq, by go_num, by omega, by omega, HPRE, HO, HTQ, ps2, fs2, G40⟩
                                case measure => simp [intOf]; omega
                              · subst hv
                                clear hV ho cq
                                go_wp2
                                go_roundw
                                case rel => exact ⟨j + 1, P, u, by go_num, by omega, by omega, hpre, hok, hu, pl, fl9, G39⟩
                                case measure => simp [intOf]; omega
                  · skip
                    go_simp
                    obtain ⟨w12_5, hw⟩ : ∃ wn, wn = w0.alloc (.cells #[.string ⟨#[]⟩] 24) := ⟨_, rfl⟩
                    rw [← hw]
                    have gx : Gr w0 w12_5 := by rw [hw]; exact (Gr.refl _).alloc _
                    have al : w12_5.cell? ⟨w0.heap.size, 0, none⟩ = some (.string ⟨#[]⟩) := by rw [hw]; exact new_cell rfl rfl
                    have fl : w12_5.frozen? ⟨w0.heap.size, 0, none⟩ = false := by rw [hw]; exact new_free rfl
                    have hnb : wz.heap.size ≤ w0.heap.size := HTn.out.size
                    have g12_5 := Lib.hid (HTn.out.trans gx)
                    clear gx hw
                    refine hK.out _ _ (HX.out _ g12_5.out) (fun hh => ?_)
                    clear hK K
                    try simp only [Act.put, List.setIfInBounds_toArray, List.set_cons_zero, List.set_cons_succ]
                    refine wpAnyH_ready (rs := [1, 6]) (by kernel_rfl) (by simp) ?_
                    refine AllReadyH.cons (o := { dst := some 106, op := Go.Op.call { callee := Go.Callee.value (.func 18), args := #[.tmp 105], argTypes := #[24] }, type := 29, pos := "top03.go:32", after := #[{ on := 0, ground := .data }], guard := none }) rfl (fun K hK => ?_) (AllReadyH.cons (o := { dst := some 111, op := Go.Op.buildSlice 29 1 #[(0, .tmp 110)], type := 29, pos := "top03.go:32", after := #[{ on := 5, ground := .data }], guard := none }) rfl (fun K hK => ?_) AllReadyH.nil)
                    · skip
                      go_simp
                      go_at_call 18; refine (PO.out _ (HMz.out.gr g12_5.out)).mono ?_
                      rintro e w1_6 ⟨pa, pc, rfl, own, gx⟩
                      have g1_6 := Lib.hid (g12_5.out.trans gx)
                      have hne : some (w0.heap.size) ≠ (Value.slice pa P.length pc).ownBlock := fun hx => by have h1 := (World.ownsRow.lt own _ hx.symm).1; have h2 := cell_lt al; omega
                      replace fl := (gx.frozen (o := 0) (cell_lt al)).trans fl
                      replace al := gx.cell al
                      replace own := World.ownsRow.mono own g12_5.out.size
                      clear gx
                      first | refine hK.out _ _ (HX.out _ g1_6.out) (fun hh => ?_) | (go_wp2_with fail; refine hK.out _ _ (HX.out _ g1_6.out) (fun hh => ?_))
                      clear hK K
                      try simp only [Act.put, List.setIfInBounds_toArray, List.set_cons_zero, List.set_cons_succ]
                      refine wpAnyH_ready (rs := [6]) (by kernel_rfl) (by simp) ?_
                      refine AllReadyH.cons (o := { dst := some 111, op := Go.Op.buildSlice 29 1 #[(0, .tmp 110)], type := 29, pos := "top03.go:32", after := #[{ on := 5, ground := .data }], guard := none }) rfl (fun K hK => ?_) AllReadyH.nil
                      · skip
                        go_simp
                        obtain ⟨w6_7, hw⟩ : ∃ wn, wn = w1_6.alloc (.cells #[.string s] 9) := ⟨_, rfl⟩
                        rw [← hw]
                        have gx : Gr w1_6 w6_7 := by rw [hw]; exact (Gr.refl _).alloc _
                        have el : w6_7.cell? ⟨w1_6.heap.size, 0, none⟩ = some (.string s) := by rw [hw]; exact new_cell rfl rfl
                        have g6_7 := Lib.hid (g1_6.out.trans gx)
                        replace fl := (gx.frozen (o := 0) (cell_lt al)).trans fl
                        replace al := gx.cell al
                        replace own := ownsRow_gr gx own
                        clear gx hw
                        refine hK.out _ _ (HX.out _ g6_7.out) (fun hh => ?_)
                        clear hK K
                        try simp only [Act.put, List.setIfInBounds_toArray, List.set_cons_zero, List.set_cons_succ]
                        refine wpAnyH_ready (rs := [7]) (by kernel_rfl) (by simp) ?_
                        refine AllReadyH.cons (o := { dst := some 112, op := Go.Op.call { callee := Go.Callee.builtin Go.Builtin.append, args := #[.tmp 106, .tmp 111], argTypes := #[29, 29] }, type := 29, pos := "top03.go:32", after := #[{ on := 1, ground := .data }, { on := 6, ground := .data }, { on := 1, ground := .chain }], guard := none }) rfl (fun K hK => ?_) AllReadyH.nil
                        · skip
                          refine step_append_lies _ (by rfl) _ _ _ (by rfl) wz.heap.size 9 i0 (.string ⟨#[]⟩) 1 16 Tryd.underlying29 hi hz0 hz1 hz2 rfl (by decide) (.slice pa P.length pc) P.length (strCells P) (by rfl) own ⟨w1_6.heap.size, 0, none⟩ 1 1 [.string s] (by rfl) (by rfl) (one_cell el) (by intro u' hu'; simp at hu'; subst hu'; rfl) (by omega) (by unfold maxLen; omega) (by omega) g6_7.out.size w6_7.heap.size (by rfl) ?_
                          intro ga ca w7_8 own7 hgrow _ _
                          have g7_8 := Lib.hid (g6_7.out.append own hgrow)
                          replace fl := (hgrow.frozen_far _ (cell_lt al) hne).trans fl
                          replace al := (hgrow.cell_far _ (cell_lt al) hne).trans al
                          clear hne
                          have own8 : w7_8.ownsRow wz.heap.size 9 1 (.slice (some ⟨ga, 0, none⟩) (P.length + 1) ca) PP.length (strCells PP) := by rw [hPP.out]; simpa [strCells] using own7
                          obtain ⟨af, cf, hv, hst⟩ := strs_of_row own8 HZ.out (by have := HPL.out; omega)
                          rw [hv]
                          clear hv own8 own7 hgrow own el
                          refine hK.out _ _ (HX.out _ g7_8.out) (fun hh => ?_)
                          clear hK K
                          try simp only [Act.put, List.setIfInBounds_toArray, List.set_cons_zero, List.set_cons_succ]
                          refine wpAnyH_ready (rs := [8]) (by kernel_rfl) (by simp) ?_
                          refine AllReadyH.cons (o := { dst := some 113, op := Go.Op.call { callee := Go.Callee.value (.func 20), args := #[.tmp 112], argTypes := #[29] }, type := 27, pos := "top03.go:32", after := #[{ on := 7, ground := .data }, { on := 7, ground := .chain }], guard := none }) rfl (fun K hK => ?_) AllReadyH.nil
                          · skip
                            go_simp
                            go_at_call 20
                            refine (made_any af PP cf w7_8 hst (HEz.out.gr g7_8.out)).mono ?_
                            intro e w8_9 hmade
                            obtain ⟨tq, vq, rfl, hV, gx⟩ := made_is hmade
                            have g8_9 := Lib.hid (g7_8.out.trans gx)
                            replace fl := (gx.frozen (o := 0) (cell_lt al)).trans fl
                            replace al := gx.cell al
                            clear gx hst hmade
                            first | refine hK.out _ _ (HX.out _ g8_9.out) (fun hh => ?_) | (go_wp2_with fail; refine hK.out _ _ (HX.out _ g8_9.out) (fun hh => ?_))
                            clear hK K
                            try simp only [Act.put, List.setIfInBounds_toArray, List.set_cons_zero, List.set_cons_succ]
                            refine wpAnyH_take (i := 9) (oi := { dst := some 104, op := Go.Op.move (.tmp 113), type := 27, pos := "top03.go:32", after := #[{ on := 8, ground := .data }], guard := none }) (v := .tuple #[.agg #[.string tq], vq]) rfl (by kernel_rfl) (by kernel_rfl) (by kernel_rfl) (fun _ _ _ h => h) (Or.inl ⟨by rfl, (fun w hSw => by (try dsimp only at hSw); obtain ⟨-, hc1, hc2⟩ := hSw; go_simp <;> (first | done | rfl))⟩) (by assumption) ?_
                            try simp only [Act.put, List.setIfInBounds_toArray, List.set_cons_zero, List.set_cons_succ]
                            refine wpAnyH_take (i := 10) (oi := { dst := some 114, op := Go.Op.extract (.tmp 104) 0, type := 24, pos := "top03.go:32", after := #[{ on := 9, ground := .data }], guard := none }) (v := .agg #[.string tq]) rfl (by kernel_rfl) (by kernel_rfl) (by kernel_rfl) (fun _ _ _ h => h) (Or.inl ⟨by rfl, (fun w hSw => by (try dsimp only at hSw); obtain ⟨-, hc1, hc2⟩ := hSw; go_simp <;> (first | done | rfl))⟩) (by assumption) ?_
                            try simp only [Act.put, List.setIfInBounds_toArray, List.set_cons_zero, List.set_cons_succ]
                            refine wpAnyH_take (i := 11) (oi := { dst := some 115, op := Go.Op.extract (.tmp 104) 1, type := 26, pos := "top03.go:32", after := #[{ on := 9, ground := .data }, { on := 13, ground := .gcOnly Go.Departure.lateStores }], guard := none }) (v := vq) rfl (by kernel_rfl) (by kernel_rfl) (by kernel_rfl) (fun _ _ _ h => h) (Or.inl ⟨by rfl, (fun w hSw => by (try dsimp only at hSw); obtain ⟨-, hc1, hc2⟩ := hSw; go_simp <;> (first | done | rfl))⟩) (by assumption) ?_
                            try simp only [Act.put, List.setIfInBounds_toArray, List.set_cons_zero, List.set_cons_succ]
                            refine wpAnyH_ready (rs := [13]) (by kernel_rfl) (by simp) ?_
                            refine AllReadyH.cons (o := { dst := none, op := Go.Op.store 24 (.tmp 18) (.tmp 114), type := 0, pos := "top03.go:32", after := #[{ on := 12, ground := .data }, { on := 10, ground := .data }, { on := 8, ground := .chain }, { on := 0, ground := .phase }, { on := 1, ground := .phase }, { on := 2, ground := .phase }, { on := 3, ground := .phase }, { on := 4, ground := .phase }, { on := 5, ground := .phase }, { on := 6, ground := .phase }, { on := 7, ground := .phase }, { on := 8, ground := .phase }, { on := 9, ground := .phase }, { on := 10, ground := .phase }, { on := 11, ground := .textOnly Go.Departure.lateStores }, { on := 12, ground := .phase }], guard := none }) rfl (fun K hK => ?_) AllReadyH.nil
                            · skip
                              go_simp
                              obtain ⟨w13_13, hw⟩ : ∃ wn, wn = w8_9.setCell ⟨w0.heap.size, 0, none⟩ (.string tq) := ⟨_, rfl⟩
                              rw [← hw]
                              have cq : w13_13.cell? ⟨w0.heap.size, 0, none⟩ = some (.string tq) := by rw [hw]; exact World.cell?_setCell_same' _ _ _ (by rw [al]; rfl)
                              have g13_13 : Hid (Gr wz w13_13) := Lib.hid (by rw [hw]; exact g8_9.out.setCell hnb _)
                              clear al fl hw
                              refine hK.out _ _ (HX.out _ g13_13.out) (fun hh => ?_)
                              clear hK K
                              try simp only [Act.put, List.setIfInBounds_toArray, List.set_cons_zero, List.set_cons_succ]
                              refine wpAnyH_take (i := 14) (oi := { dst := some 19, op := Go.Op.assign (.tmp 115), type := 26, pos := "top03.go:32", after := #[{ on := 11, ground := .data }, { on := 13, ground := .chain }, { on := 0, ground := .phase }, { on := 1, ground := .phase }, { on := 2, ground := .phase }, { on := 3, ground := .phase }, { on := 4, ground := .phase }, { on := 5, ground := .phase }, { on := 6, ground := .phase }, { on := 7, ground := .phase }, { on := 8, ground := .phase }, { on := 9, ground := .phase }, { on := 10, ground := .phase }, { on := 11, ground := .phase }, { on := 12, ground := .phase }, { on := 13, ground := .phase }], guard := none }) (v := vq) rfl (by kernel_rfl) (by kernel_rfl) (by kernel_rfl) (fun _ _ _ h => h) (Or.inl ⟨by rfl, (fun w hSw => by (try dsimp only at hSw); obtain ⟨-, hc1, hc2⟩ := hSw; go_simp <;> (first | done | rfl))⟩) (by assumption) ?_
                              try simp only [Act.put, List.setIfInBounds_toArray, List.set_cons_zero, List.set_cons_succ]
                              refine wpAnyH_done (by kernel_rfl) ?_ _
                              have pl := g13_13.out.cell pz
                              have fl9 := FZ.out _ g13_13.out
                              have G39 := Lib.hid (hGz.out.trans g13_13.out)
                              clear HX FZ hh pz hcell fz PO HMz HEz HZ hPP HPL hnb
                              rcases hV.out with ⟨ho, ht, hv⟩ | ⟨ho, bb, hv⟩
                              · subst hv
                                have GS := Lib.hid (G39.out.setCell (Nat.le_refl _) (.string tq) : Gr w6 (w13_13.setCell ⟨w6.heap.size, 0, none⟩ (.string tq)))
                                have ps : (w13_13.setCell ⟨w6.heap.size, 0, none⟩ (.string tq)).cell? ⟨w6.heap.size, 0, none⟩ = some (.string tq) := World.cell?_setCell_same' _ _ _ (by rw [pl]; rfl)
                                have fs : (w13_13.setCell ⟨w6.heap.size, 0, none⟩ (.string tq)).frozen? ⟨w6.heap.size, 0, none⟩ = false := by rw [World.frozen?_setCell]; exact fl9
                                have FQ := Lib.hid (fun w hh h3 => FD.out PP w hh ho h3)
                                rw [BELOW.out PP HPRE.out, ← ht] at FQ
                                have HO := Lib.hid ho
                                have HTQ := Lib.hid ht.symm
                                clear ho ht hV
                                go_wp2_with fail
                                refine (FQ.out _ (HT6.out.gr GS.out) (HE.out.gr (HG6.out.trans GS.out))).mono ?_
                                intro e w40 h40
                                obtain ⟨rfl, hg40⟩ := findIs_yes (by omega) h40
                                have ps2 := hg40.cell ps
                                have fs2 := (hg40.frozen (o := 0) (cell_lt ps)).trans fs
                                have G40 := Lib.hid (GS.out.trans hg40)
                                clear h40 hg40 ps fs pl fl9 cq
                                go_wp2
                                go_roundw
                                case rel => exact ⟨j + 1, PP, tq, by go_num, by omega, by omega, HPRE, HO, HTQ, ps2, fs2, G40⟩
                                case measure => simp [intOf]; omega
                              · subst hv
                                clear hV ho cq
                                go_wp2
                                go_roundw
                                case rel => exact ⟨j + 1, P, u, by go_num, by omega, by omega, hpre, hok, hu, pl, fl9, G39⟩
                                case measure => simp [intOf]; omega
                    · skip
                      go_simp
                      obtain ⟨w6_6, hw⟩ : ∃ wn, wn = w12_5.alloc (.cells #[.string s] 9) := ⟨_, rfl⟩
                      rw [← hw]
                      have gx : Gr w12_5 w6_6 := by rw [hw]; exact (Gr.refl _).alloc _
                      have el : w6_6.cell? ⟨w12_5.heap.size, 0, none⟩ = some (.string s) := by rw [hw]; exact new_cell rfl rfl
                      have g6_6 := Lib.hid (g12_5.out.trans gx)
                      replace fl := (gx.frozen (o := 0) (cell_lt al)).trans fl
                      replace al := gx.cell al
                      clear gx hw
                      refine hK.out _ _ (HX.out _ g6_6.out) (fun hh => ?_)
                      clear hK K
                      try simp only [Act.put, List.setIfInBounds_toArray, List.set_cons_zero, List.set_cons_succ]
                      refine wpAnyH_ready (rs := [1]) (by kernel_rfl) (by simp) ?_
                      refine AllReadyH.cons (o := { dst := some 106, op := Go.Op.call { callee := Go.Callee.value (.func 18), args := #[.tmp 105], argTypes := #[24] }, type := 29, pos := "top03.go:32", after := #[{ on := 0, ground := .data }], guard := none }) rfl (fun K hK => ?_) AllReadyH.nil
                      · skip
                        go_simp
                        go_at_call 18; refine (PO.out _ (HMz.out.gr g6_6.out)).mono ?_
                        rintro e w1_7 ⟨pa, pc, rfl, own, gx⟩
                        have g1_7 := Lib.hid (g6_6.out.trans gx)
                        have hne : some (w0.heap.size) ≠ (Value.slice pa P.length pc).ownBlock := fun hx => by have h1 := (World.ownsRow.lt own _ hx.symm).1; have h2 := cell_lt al; omega
                        replace fl := (gx.frozen (o := 0) (cell_lt al)).trans fl
                        replace al := gx.cell al
                        replace el := gx.cell el
                        replace own := World.ownsRow.mono own g6_6.out.size
                        clear gx
                        first | refine hK.out _ _ (HX.out _ g1_7.out) (fun hh => ?_) | (go_wp2_with fail; refine hK.out _ _ (HX.out _ g1_7.out) (fun hh => ?_))
                        clear hK K
                        try simp only [Act.put, List.setIfInBounds_toArray, List.set_cons_zero, List.set_cons_succ]
                        refine wpAnyH_ready (rs := [7]) (by kernel_rfl) (by simp) ?_
                        refine AllReadyH.cons (o := { dst := some 112, op := Go.Op.call { callee := Go.Callee.builtin Go.Builtin.append, args := #[.tmp 106, .tmp 111], argTypes := #[29, 29] }, type := 29, pos := "top03.go:32", after := #[{ on := 1, ground := .data }, { on := 6, ground := .data }, { on := 1, ground := .chain }], guard := none }) rfl (fun K hK => ?_) AllReadyH.nil
                        · skip
                          refine step_append_lies _ (by rfl) _ _ _ (by rfl) wz.heap.size 9 i0 (.string ⟨#[]⟩) 1 16 Tryd.underlying29 hi hz0 hz1 hz2 rfl (by decide) (.slice pa P.length pc) P.length (strCells P) (by rfl) own ⟨w12_5.heap.size, 0, none⟩ 1 1 [.string s] (by rfl) (by rfl) (one_cell el) (by intro u' hu'; simp at hu'; subst hu'; rfl) (by omega) (by unfold maxLen; omega) (by omega) g1_7.out.size w1_7.heap.size (by rfl) ?_
                          intro ga ca w7_8 own7 hgrow _ _
                          have g7_8 := Lib.hid (g1_7.out.append own hgrow)
                          replace fl := (hgrow.frozen_far _ (cell_lt al) hne).trans fl
                          replace al := (hgrow.cell_far _ (cell_lt al) hne).trans al
                          clear hne
                          have own8 : w7_8.ownsRow wz.heap.size 9 1 (.slice (some ⟨ga, 0, none⟩) (P.length + 1) ca) PP.length (strCells PP) := by rw [hPP.out]; simpa [strCells] using own7
                          obtain ⟨af, cf, hv, hst⟩ := strs_of_row own8 HZ.out (by have := HPL.out; omega)
                          rw [hv]
                          clear hv own8 own7 hgrow own el
                          refine hK.out _ _ (HX.out _ g7_8.out) (fun hh => ?_)
                          clear hK K
                          try simp only [Act.put, List.setIfInBounds_toArray, List.set_cons_zero, List.set_cons_succ]
                          refine wpAnyH_ready (rs := [8]) (by kernel_rfl) (by simp) ?_
                          refine AllReadyH.cons (o := { dst := some 113, op := Go.Op.call { callee := Go.Callee.value (.func 20), args := #[.tmp 112], argTypes := #[29] }, type := 27, pos := "top03.go:32", after := #[{ on := 7, ground := .data }, { on := 7, ground := .chain }], guard := none }) rfl (fun K hK => ?_) AllReadyH.nil
                          · skip
                            go_simp
                            go_at_call 20
                            refine (made_any af PP cf w7_8 hst (HEz.out.gr g7_8.out)).mono ?_
                            intro e w8_9 hmade
                            obtain ⟨tq, vq, rfl, hV, gx⟩ := made_is hmade
                            have g8_9 := Lib.hid (g7_8.out.trans gx)
                            replace fl := (gx.frozen (o := 0) (cell_lt al)).trans fl
                            replace al := gx.cell al
                            clear gx hst hmade
                            first | refine hK.out _ _ (HX.out _ g8_9.out) (fun hh => ?_) | (go_wp2_with fail; refine hK.out _ _ (HX.out _ g8_9.out) (fun hh => ?_))
                            clear hK K
                            try simp only [Act.put, List.setIfInBounds_toArray, List.set_cons_zero, List.set_cons_succ]
                            refine wpAnyH_take (i := 9) (oi := { dst := some 104, op := Go.Op.move (.tmp 113), type := 27, pos := "top03.go:32", after := #[{ on := 8, ground := .data }], guard := none }) (v := .tuple #[.agg #[.string tq], vq]) rfl (by kernel_rfl) (by kernel_rfl) (by kernel_rfl) (fun _ _ _ h => h) (Or.inl ⟨by rfl, (fun w hSw => by (try dsimp only at hSw); obtain ⟨-, hc1, hc2⟩ := hSw; go_simp <;> (first | done | rfl))⟩) (by assumption) ?_
                            try simp only [Act.put, List.setIfInBounds_toArray, List.set_cons_zero, List.set_cons_succ]
                            refine wpAnyH_take (i := 10) (oi := { dst := some 114, op := Go.Op.extract (.tmp 104) 0, type := 24, pos := "top03.go:32", after := #[{ on := 9, ground := .data }], guard := none }) (v := .agg #[.string tq]) rfl (by kernel_rfl) (by kernel_rfl) (by kernel_rfl) (fun _ _ _ h => h) (Or.inl ⟨by rfl, (fun w hSw => by (try dsimp only at hSw); obtain ⟨-, hc1, hc2⟩ := hSw; go_simp <;> (first | done | rfl))⟩) (by assumption) ?_
                            try simp only [Act.put, List.setIfInBounds_toArray, List.set_cons_zero, List.set_cons_succ]
                            refine wpAnyH_take (i := 11) (oi := { dst := some 115, op := Go.Op.extract (.tmp 104) 1, type := 26, pos := "top03.go:32", after := #[{ on := 9, ground := .data }, { on := 13, ground := .gcOnly Go.Departure.lateStores }], guard := none }) (v := vq) rfl (by kernel_rfl) (by kernel_rfl) (by kernel_rfl) (fun _ _ _ h => h) (Or.inl ⟨by rfl, (fun w hSw => by (try dsimp only at hSw); obtain ⟨-, hc1, hc2⟩ := hSw; go_simp <;> (first | done | rfl))⟩) (by assumption) ?_
                            try simp only [Act.put, List.setIfInBounds_toArray, List.set_cons_zero, List.set_cons_succ]
                            refine wpAnyH_ready (rs := [13]) (by kernel_rfl) (by simp) ?_
                            refine AllReadyH.cons (o := { dst := none, op := Go.Op.store 24 (.tmp 18) (.tmp 114), type := 0, pos := "top03.go:32", after := #[{ on := 12, ground := .data }, { on := 10, ground := .data }, { on := 8, ground := .chain }, { on := 0, ground := .phase }, { on := 1, ground := .phase }, { on := 2, ground := .phase }, { on := 3, ground := .phase }, { on := 4, ground := .phase }, { on := 5, ground := .phase }, { on := 6, ground := .phase }, { on := 7, ground := .phase }, { on := 8, ground := .phase }, { on := 9, ground := .phase }, { on := 10, ground := .phase }, { on := 11, ground := .textOnly Go.Departure.lateStores }, { on := 12, ground := .phase }], guard := none }) rfl (fun K hK => ?_) AllReadyH.nil
                            · skip
                              go_simp
                              obtain ⟨w13_13, hw⟩ : ∃ wn, wn = w8_9.setCell ⟨w0.heap.size, 0, none⟩ (.string tq) := ⟨_, rfl⟩
                              rw [← hw]
                              have cq : w13_13.cell? ⟨w0.heap.size, 0, none⟩ = some (.string tq) := by rw [hw]; exact World.cell?_setCell_same' _ _ _ (by rw [al]; rfl)
                              have g13_13 : Hid (Gr wz w13_13) := Lib.hid (by rw [hw]; exact g8_9.out.setCell hnb _)
                              clear al fl hw
                              refine hK.out _ _ (HX.out _ g13_13.out) (fun hh => ?_)
                              clear hK K
                              try simp only [Act.put, List.setIfInBounds_toArray, List.set_cons_zero, List.set_cons_succ]
                              refine wpAnyH_take (i := 14) (oi := { dst := some 19, op := Go.Op.assign (.tmp 115), type := 26, pos := "top03.go:32", after := #[{ on := 11, ground := .data }, { on := 13, ground := .chain }, { on := 0, ground := .phase }, { on := 1, ground := .phase }, { on := 2, ground := .phase }, { on := 3, ground := .phase }, { on := 4, ground := .phase }, { on := 5, ground := .phase }, { on := 6, ground := .phase }, { on := 7, ground := .phase }, { on := 8, ground := .phase }, { on := 9, ground := .phase }, { on := 10, ground := .phase }, { on := 11, ground := .phase }, { on := 12, ground := .phase }, { on := 13, ground := .phase }], guard := none }) (v := vq) rfl (by kernel_rfl) (by kernel_rfl) (by kernel_rfl) (fun _ _ _ h => h) (Or.inl ⟨by rfl, (fun w hSw => by (try dsimp only at hSw); obtain ⟨-, hc1, hc2⟩ := hSw; go_simp <;> (first | done | rfl))⟩) (by assumption) ?_
                              try simp only [Act.put, List.setIfInBounds_toArray, List.set_cons_zero, List.set_cons_succ]
                              refine wpAnyH_done (by kernel_rfl) ?_ _
                              have pl := g13_13.out.cell pz
                              have fl9 := FZ.out _ g13_13.out
                              have G39 := Lib.hid (hGz.out.trans g13_13.out)
                              clear HX FZ hh pz hcell fz PO HMz HEz HZ hPP HPL hnb
                              rcases hV.out with ⟨ho, ht, hv⟩ | ⟨ho, bb, hv⟩
                              · subst hv
                                have GS := Lib.hid (G39.out.setCell (Nat.le_refl _) (.string tq) : Gr w6 (w13_13.setCell ⟨w6.heap.size, 0, none⟩ (.string tq)))
                                have ps : (w13_13.setCell ⟨w6.heap.size, 0, none⟩ (.string tq)).cell? ⟨w6.heap.size, 0, none⟩ = some (.string tq) := World.cell?_setCell_same' _ _ _ (by rw [pl]; rfl)
                                have fs : (w13_13.setCell ⟨w6.heap.size, 0, none⟩ (.string tq)).frozen? ⟨w6.heap.size, 0, none⟩ = false := by rw [World.frozen?_setCell]; exact fl9
                                have FQ := Lib.hid (fun w hh h3 => FD.out PP w hh ho h3)
                                rw [BELOW.out PP HPRE.out, ← ht] at FQ
                                have HO := Lib.hid ho
                                have HTQ := Lib.hid ht.symm
                                clear ho ht hV
                                go_wp2_with fail
                                refine (FQ.out _ (HT6.out.gr GS.out) (HE.out.gr (HG6.out.trans GS.out))).mono ?_
                                intro e w40 h40
                                obtain ⟨rfl, hg40⟩ := findIs_yes (by omega) h40
                                have ps2 := hg40.cell ps
                                have fs2 := (hg40.frozen (o := 0) (cell_lt ps)).trans fs
                                have G40 := Lib.hid (GS.out.trans hg40)
                                clear h40 hg40 ps fs pl fl9 cq
                                go_wp2
                                go_roundw
                                case rel => exact ⟨j + 1, PP, tq, by go_num, by omega, by omega, HPRE, HO, HTQ, ps2, fs2, G40⟩
                                case measure => simp [intOf]; omega
                              · subst hv
                                clear hV ho cq
                                go_wp2
                                go_roundw
                                case rel => exact ⟨j + 1, P, u, by go_num, by omega, by omega, hpre, hok, hu, pl, fl9, G39⟩
                                case measure => simp [intOf]; omega
                · have hex3 : (j : Int) < (tt.length : Int) ∧ (6 : Int) ≤ j ∨ (tt.length : Int) ≤ j := by omega
                  clear pz fz
                  have GTz := Lib.hid (HT6.out.gr hGz.out)
                  have FQ := Lib.hid (fun w hh h3 => FD.out M w hh HLok.out h3)
                  rw [BELOW.out M (List.prefix_refl _), HTX.out] at FQ
                  rcases hex3 with ⟨hx3, hx4⟩ | hx3
                  all_goals
                    go_wp2_with fail
                    refine (PR.out _ GTz.out).mono ?_
                    rintro e w41 ⟨rfl, hg41⟩
                    have G41 := Lib.hid (hGz.out.trans hg41)
                    clear hg41
                    go_wp2_with fail
                    refine (FQ.out _ (HT6.out.gr G41.out) (HE.out.gr (HG6.out.trans G41.out))).mono ?_
                    intro e w42 h42
                    obtain ⟨rfl, hg42⟩ := findIs_yes (by omega) h42
                    have G42 := Lib.hid ((HG6.out.trans G41.out).trans hg42)
                    clear h42 hg42
                    go_wp2
                    go_ret
                    exact ⟨by first | rfl | simp, G42.out⟩
            · have hpos : 0 < Q.length := List.length_pos_iff.2 hQ0
              obtain ⟨u', hu'⟩ : ∃ u', ptext Q.dropLast = u' := ⟨_, rfl⟩
              have hsz : u'.size < u.size := by rw [← hu', ← hu.out]; exact ptext_up hQ0
              have hdp : Q.dropLast <+: M := (List.dropLast_prefix Q).trans hQ.out
              have hFO : findOf L Q.dropLast = -1 := ABOVE.out _ hdp (by
                have h1 := hQ.out.length_le
                rw [List.length_dropLast]; omega)
              have hokd := pre_ok hdp HLok.out
              have FQ := Lib.hid (fun w hh h3 => FD.out Q.dropLast w hh hokd h3)
              rw [hFO, hu'] at FQ
              rw [hu'] at U
              have HU' := Lib.hid hu'
              have HDP := Lib.hid hdp
              clear hu' hdp hFO hokd hok hQ0
              go_wp2_with fail
              refine (D.out _).mono ?_
              rintro e w9 ⟨rfl, hg9⟩
              have c1 := hg9.cell c0
              have f1 := (hg9.frozen (o := 0) hlt9).trans f0
              have HG9 := Lib.hid (hG9.out.trans hg9)
              clear hg9 c0 f0 hlt9
              go_wp2_with fail
              refine (U.out _).mono ?_
              rintro e w10 ⟨rfl, hg10⟩
              have c2 := hg10.cell c1
              have f2 := (hg10.frozen (o := 0) (cell_lt c1)).trans f1
              have HG10 := Lib.hid (HG9.out.trans hg10)
              clear hg10 c1 f1
              have HG11 := Lib.hid (HG10.out.setCell hqb.out (.string u') : Gr w7 (w10.setCell ⟨qb, 0, none⟩ (.string u')))
              have c3 : (w10.setCell ⟨qb, 0, none⟩ (.string u')).cell? ⟨qb, 0, none⟩ = some (.string u') := World.cell?_setCell_same' _ _ _ (by rw [c2]; rfl)
              have f3 : (w10.setCell ⟨qb, 0, none⟩ (.string u')).frozen? ⟨qb, 0, none⟩ = false := by rw [World.frozen?_setCell]; exact f2
              have GT := Lib.hid (HT6.out.gr (HG67.out.trans HG11.out))
              have GE := Lib.hid (HE.out.gr ((HG6.out.trans HG67.out).trans HG11.out))
              go_wp2_with fail
              refine (FQ.out _ GT.out GE.out).mono ?_
              intro e w12 h12
              obtain ⟨b12, rfl, -, hg12⟩ := findIs_no h12
              have c4 := hg12.cell c3
              have f4 := (hg12.frozen (o := 0) (cell_lt c3)).trans f3
              have HG12 := Lib.hid (HG11.out.trans hg12)
              have HQB : Hid (w7.heap.size ≤ w12.heap.size) := Lib.hid HG12.out.size
              clear h12 hg12 c2 c3 f2 f3
              go_wp2
              go_roundw
              case rel => exact ⟨Q.dropLast, u', w12.heap.size, by first | rfl | simp, HDP, HU', new_cell rfl rfl, new_free rfl, Lib.hid (HG12.out.alloc _), HQB⟩
              case measure =>
                have e1 : (w12.alloc (.cells #[.string u'] 24)).cell? ⟨w12.heap.size, 0, none⟩ = some (.string u') := new_cell rfl rfl
                simp [qSize, e1, C0.out]
                try omega
      · rcases hex with ⟨hx1, hx2⟩ | hx1
        all_goals
          go_wp2_with fail
          refine NW.out.mono ?_
          intro e w3 h3
          obtain ⟨b, rfl, -, hg3⟩ := newIs_bad hn0 h3
          have HG3 := Lib.hid (hG.out.trans hg3)
          clear h3 hg3 NW
          go_wp2
          go_ret
          exact ⟨by first | rfl | simp, HG3.out⟩
end Go.Proofs.YtfpnglomemjniaaDoor
