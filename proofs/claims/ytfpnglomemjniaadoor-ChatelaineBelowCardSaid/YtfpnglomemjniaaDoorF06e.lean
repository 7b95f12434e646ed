import Derived.Test.YtfpnglomemjniaaDoorF06c
import Derived.Test.YtfpnglomemjniaaDoorF05k
import Derived.Test.YtfpnglomemjniaaDoorM06c
import Derived.WalkKit
import Derived.ProofKit
import Derived.LoopTactic
import Derived.Outline
import Derived.WalkSpells
import Derived.WalkLawsBesides
import Derived.Lib.Hide
import Derived.Deep.LoopGhost
import Derived.Deep.QuietTactic
import Derived.BigQuiet
import Derived.ShutString
import Derived.Deep.RegionHeld3
namespace Go.Proofs.YtfpnglomemjniaaDoor
open Go.ChangeShapes Go.WideShapes Go.ChangeAt Go.RowKit
set_option linter.unusedVariables false
set_option linter.unusedSimpArgs false
/-- A slice of slices of strings. -/
def SRow (w : World) (a : Option Addr) (L : List (List ByteArray)) : Prop := L = [] ∨ ∃ b off, a = some ⟨b, off, none⟩ ∧ ∀ i (h : i < L.length), ∃ ai ci, w.cell? ⟨b, off + i, none⟩ = some (.slice ai L[i].length ci) ∧ Strs w ai L[i]
theorem SRow.gr {w w' : World} {a : Option Addr} {L : List (List ByteArray)} (h : SRow w a L) (hg : Gr w w') : SRow w' a L := by
  refine h.imp id ?_
  rintro ⟨b, off, rfl, hc⟩
  refine ⟨b, off, rfl, fun i hi => ?_⟩
  obtain ⟨ai, ci, h1, h2⟩ := hc i hi
  exact ⟨ai, ci, hg.cell h1, h2.gr hg⟩
theorem Tagged.gr {w w' : World} {a : Option Addr} (h : Tagged w a) (hg : Gr w w') : Tagged w' a := by
  rcases h with h | ⟨g, c, fz, rfl, hb⟩
  · exact .inl h
  · refine .inr ⟨g, c, fz, rfl, ?_⟩
    have hlt : g < w.heap.size := by
      rcases Nat.lt_or_ge g w.heap.size with h' | h'
      · exact h'
      · simp [Array.getElem?_eq_none h'] at hb
    exact (Below.block hg g hlt).trans hb
theorem SRow.at {w : World} {a : Option Addr} {L : List (List ByteArray)} (h : SRow w a L) (i : Nat) (hi : i < L.length) : ∃ b off ai ci, a = some ⟨b, off, none⟩ ∧ b < w.heap.size ∧ w.cell? ⟨b, off + i, none⟩ = some (.slice ai L[i].length ci) ∧ Strs w ai L[i] := by
  rcases h with rfl | ⟨b, off, rfl, hc⟩
  · simp at hi
  · obtain ⟨ai, ci, h1, h2⟩ := hc i hi
    exact ⟨b, off, ai, ci, rfl, cell_lt h1, h1, h2⟩
/-- Values that are slices of these. -/
def Rel (w : World) (vs : List Value) (L : List (List ByteArray)) : Prop := vs.length = L.length ∧ ∀ i (h : i < L.length), ∃ ai ci, vs[i]? = some (.slice ai L[i].length ci) ∧ Strs w ai L[i] ∧ Tagged w ai
theorem Rel.gr {w w' : World} {vs : List Value} {L : List (List ByteArray)} (h : Rel w vs L) (hg : Gr w w') : Rel w' vs L := by
  refine ⟨h.1, fun i hi => ?_⟩
  obtain ⟨ai, ci, h1, h2, h3⟩ := h.2 i hi
  exact ⟨ai, ci, h1, h2.gr hg, h3.gr hg⟩
/-- What was tagged strings is as it was behind an append to a row of slices. -/
theorem Rel.append {w w' : World} {vs : List Value} {L : List (List ByteArray)} {base n : Nat} {v : Value} {xs : List Value} (h : Rel w vs L) (ho : w.ownsRow base 29 1 v n xs) (hg : w.grownBy w' v.ownBlock) : Rel w' vs L := by
  refine ⟨h.1, fun i hi => ?_⟩
  obtain ⟨ai, ci, h1, h2, h3⟩ := h.2 i hi
  refine ⟨ai, ci, h1, ?_⟩
  rcases h3 with rfl | ⟨g, c, fz, rfl, hb⟩
  · refine ⟨⟨h2.1, h2.2.1, ?_⟩, .inl rfl⟩
    rcases h2.2.2 with e | ⟨b, off, e, _⟩
    · exact .inl e
    · cases e
  · have hne : some g ≠ v.ownBlock := by
      intro e
      rcases ho.2 with ⟨hv, _⟩ | ⟨g', cap, cur, hv, _, hc, _⟩
      · rw [hv] at e; cases e
      · rw [hv] at e
        simp only [Value.ownBlock, Option.some.injEq] at e
        subst e
        rw [hc] at hb
        simp at hb
    have hlt : g < w.heap.size := by
      rcases Nat.lt_or_ge g w.heap.size with h' | h'
      · exact h'
      · simp [Array.getElem?_eq_none h'] at hb
    have hh : w'.heap[g]? = w.heap[g]? := hg.block g hlt hne
    refine ⟨⟨h2.1, h2.2.1, ?_⟩, .inr ⟨g, c, fz, rfl, hh.trans hb⟩⟩
    rcases h2.2.2 with e | ⟨b, off, e, hcl⟩
    · exact .inl e
    · injection e with e; injection e with e1 e2
      subst e1
      exact .inr ⟨g, off, by rw [← e2], fun i hi => (World.cell?_of_block (w := w) (a := ⟨g, off + i, none⟩) hh).trans (hcl i hi)⟩
theorem Rel.snoc {w : World} {vs : List Value} {L : List (List ByteArray)} {a : Option Addr} {c : Nat} {l : List ByteArray} (h : Rel w vs L) (hl : Strs w a l) (ht : Tagged w a) : Rel w (vs ++ [.slice a l.length c]) (L ++ [l]) := by
  refine ⟨by simp [h.1], fun i hi => ?_⟩
  by_cases hlt : i < L.length
  · obtain ⟨ai, ci, h1, h2, h3⟩ := h.2 i hlt
    refine ⟨ai, ci, ?_, ?_, h3⟩
    · rw [List.getElem?_append_left (by rw [h.1]; exact hlt), h1, List.getElem_append_left hlt]
    · rw [List.getElem_append_left hlt]; exact h2
  · have hi' : i = L.length := by simp at hi; omega
    subst hi'
    refine ⟨a, c, ?_, ?_, ht⟩
    · have e1 : (L ++ [l])[L.length]'hi = l := by simp
      rw [e1, List.getElem?_append_right (by rw [h.1]; exact Nat.le_refl _), h.1]; simp
    · simp; exact hl
theorem srow_of {w : World} {base : Nat} {e : TypeId} {v : Value} {vs : List Value} {L : List (List ByteArray)} (h : w.ownsRow base e 1 v vs.length vs) (hr : Rel w vs L) : ∃ a c, v = .slice a L.length c ∧ SRow w a L := by
  obtain ⟨a, cap, rfl, hc⟩ := ownsRow_slice h
  refine ⟨a, cap, by rw [hr.1], ?_⟩
  rcases hc with ⟨rfl, h0⟩ | ⟨g, rfl, _, hc⟩
  · exact .inl (List.length_eq_zero_iff.1 (by rw [← hr.1]; exact h0))
  · refine .inr ⟨g, 0, rfl, fun i hi => ?_⟩
    obtain ⟨ai, ci, h1, h2, _⟩ := hr.2 i hi
    exact ⟨ai, ci, by rw [Nat.zero_add]; exact hc i _ h1, h2⟩
theorem info_strs : (Tryd.prog.info? 29).map (fun i => (i.zero, i.size, i.bytes)) = some (some (.slice none 0 0), 1, 24) := by kernel_rfl
/-- What the reference's New returns. -/
def RNewIs (o : Int × List (List ByteArray)) (w : World) (e : Ending) (w' : World) : Prop :=
  (o.1 = 0 ∧ ∃ a c, e = .returned (.tuple #[.slice a o.2.length c, .int .i64 0]) ∧ SRow w' a o.2 ∧ Gr w w') ∨ (o.1 ≠ 0 ∧ e = .returned (.tuple #[.slice none 0 0, .int .i64 o.1]) ∧ Gr w w')
set_option maxRecDepth 100000 in
set_option maxHeartbeats 4000000 in
theorem refNew_any (ss : List ByteArray) (a : Option Addr) (c : Nat) (w : World) (h : Strs w a ss) (hz : ∀ s ∈ ss, s.size ≤ 1000) :
    Calls Tryd.prog 33 #[.slice a ss.length c] w (RNewIs (newOf ss) w) := by
  obtain ⟨i0, hi, hz0, hz1, hz2⟩ := info_parts info_strs
  have HS := Lib.hid h
  have HZ := Lib.hid hz
  have hlen := h.2.1
  clear h hz
  generalize hr : newOf ss = r
  have HR := Lib.hid hr; clear hr
  by_cases hcfg : ss.length = 0 ∨ 4 < ss.length
  · have hR := Lib.hid (show r = (12, []) by rw [← HR.out]; unfold newOf; rw [if_pos hcfg])
    obtain ⟨tz, htz, htz2⟩ : ∃ tz : Bool, ((ss.length : Int) == 0) = tz ∧ (tz = true ∨ tz = false ∧ (4 : Int) < ss.length) := by
      rcases hcfg with h0 | h0
      · exact ⟨true, by rw [h0]; rfl, .inl rfl⟩
      · exact ⟨false, by simp; intro hh; rw [hh] at h0; simp at h0, .inr ⟨rfl, by omega⟩⟩
    clear hcfg
    rcases htz2 with rfl | ⟨rfl, h0⟩
    all_goals
      go_enter Tryd.func33, Tryd.ntmps33
      go_wp2
      go_ret2
      rw [hR.out]
      exact .inr ⟨by decide, rfl, Gr.refl _⟩
  · have h1 : 1 ≤ ss.length := by omega
    have h4 : ss.length ≤ 4 := by omega
    have hR := Lib.hid (show r = match parseAll ss with
        | none => (10, [])
        | some L => if clash L = true then (11, []) else (0, L) by rw [← HR.out]; unfold newOf; rw [if_neg hcfg]; cases parseAll ss <;> rfl)
    have tz : ((ss.length : Int) == 0) = false := by simp; intro hh; rw [hh] at h1; simp at h1
    clear hcfg
    go_enter Tryd.func33, Tryd.ntmps33
    go_wp2
    have hown0 := World.ownsRow_lit (e := 29) (size := 1) (base := w.heap.size) w #[] 0 (Nat.le_refl _) (by decide) rfl
    go_loopw [4, 22] (fun v i wr => ∃ (L : List (List ByteArray)) (vs : List Value), L.length ≤ ss.length ∧ i = .int .i64 L.length ∧ Hid (parseAll (ss.take L.length) = some L) ∧ vs.length = L.length ∧ wr.ownsRow w.heap.size 29 1 v vs.length vs ∧ Hid (Rel wr vs L) ∧ Hid (Gr w wr)) (fun _ i _ => ss.length - (intOf i).toNat)
    case atStart => exact ⟨[], [], by simp, rfl, Lib.hid rfl, rfl, hown0, Lib.hid ⟨rfl, fun i hi => by simp at hi⟩, Lib.hid ((Gr.refl _).alloc _)⟩
    case round =>
      obtain ⟨L, vs, hk, rfl, hP, hvl, hown, hRel, hG⟩ := hrel
      clear hown0
      have HVL := Lib.hid hvl
      have hvs4 : vs.length ≤ 4 := by omega
      clear hvl
      by_cases hlt : L.length < ss.length
      · obtain ⟨b, off, rfl, hbw, hcell, hsz⟩ := HS.out.at L.length hlt
        replace hcell := hG.out.cell hcell
        have hs1 := HZ.out ss[L.length] (List.getElem_mem hlt)
        have hbl := hG.out.size
        have hsn : parseAll (ss.take (L.length + 1)) = (parseOf ss[L.length]).map fun l => L ++ [l] := by
          rw [List.take_succ_eq_append_getElem hlt]; exact parseAll_snoc _ _ _ hP.out
        have hno : parseOf ss[L.length] = none → parseAll ss = none := fun hh => by
          have h5 := parseAll_none (ss.take L.length) ss[L.length] (ss.drop (L.length + 1)) L hP.out hh
          rwa [← List.drop_eq_getElem_cons hlt, List.take_append_drop] at h5
        have PA := Lib.hid (refParse_any ss[L.length] wr hs1)
        have HSN := Lib.hid hsn
        have HNO := Lib.hid hno
        clear hsn hno
        generalize ss[L.length] = s at *
        cases ho : parseOf s with
        | none =>
          rw [ho] at PA
          have hR2 := Lib.hid (show r = (10, []) by rw [hR.out, HNO.out ho])
          clear ho
          go_wp2_with fail
          refine PA.out.mono ?_
          intro e w2 h2
          obtain ⟨v2, rfl, hg2⟩ := id (show ∃ v, e = .returned (.tuple #[v, .bool false]) ∧ Gr _ w2 from h2)
          have HG2 := Lib.hid (hG.out.trans hg2)
          clear h2 hg2 hown hcell
          go_wp2
          go_ret2
          rw [hR2.out]
          exact .inr ⟨by decide, rfl, HG2.out⟩
        | some l =>
          rw [ho] at PA
          have HP2 := Lib.hid (show parseAll (ss.take (L.length + 1)) = some (L ++ [l]) by rw [HSN.out, ho]; rfl)
          clear ho
          go_wp2_with fail
          refine PA.out.mono ?_
          intro e w2 h2
          obtain ⟨al, cl, rfl, hst, htg, hg2⟩ := id (show ∃ a c, e = .returned (.tuple #[.slice a l.length c, .bool true]) ∧ Strs w2 a l ∧ Tagged w2 a ∧ Gr _ w2 from h2)
          have HG2 := Lib.hid (hG.out.trans hg2)
          have hown2 := ownsRow_gr hg2 hown
          have HREL := Lib.hid ((hRel.out.gr hg2).snoc (c := cl) hst htg)
          have hll := hst.2.1
          clear h2 hg2 hown hcell hst htg
          go_wp2_with (at_builtin; refine wpList_append_own _ rfl _ _ 55 rfl w.heap.size 29 i0 (.slice none 0 0) 1 24 Tryd.underlying55 hi hz0 hz1 hz2 rfl (by decide) _ _ _ rfl (hown2.alloc _) ⟨w2.heap.size, 0, none⟩ 1 1 [.slice al l.length cl] rfl rfl ?c1 ?c2 ?c3 ?c4 ?c5 ?_)
          try case c1 => simpa using cellsOne w2 (.slice al l.length cl) 29
          try case c2 => first | rfl | (intro u hu; simp at hu; subst hu; rfl)
          case c3 => unfold maxLen; omega
          case c4 => omega
          case c5 => have := HG2.out.size; simp; omega
          · intro v' w3 hown3 hgrow _
            have HG3 := Lib.hid ((HG2.out.alloc (.cells #[.slice al l.length cl] 29)).append (hown2.alloc _) hgrow)
            have hsn : (L ++ [l]).length = L.length + 1 := by simp
            have hsv : (vs ++ [Value.slice al l.length cl]).length = vs.length + 1 := by simp
            have HO3 := Lib.hid (show w3.ownsRow w.heap.size 29 1 v' (vs ++ [Value.slice al l.length cl]).length (vs ++ [Value.slice al l.length cl]) by rw [hsv]; simpa using hown3)
            have HREL3 := Lib.hid ((HREL.out.gr ((Gr.refl w2).alloc (.cells #[.slice al l.length cl] 29))).append (hown2.alloc _) hgrow)
            clear hgrow hown2 hown3
            go_wp2
            go_roundw
            case rel => exact ⟨L ++ [l], vs ++ [Value.slice al l.length cl], by rw [hsn]; omega, by rw [hsn]; go_num, by rw [hsn]; exact HP2, by rw [hsn, hsv, HVL.out], HO3.out, HREL3, HG3⟩
            case measure => simp [intOf]; omega
      · have hP2 : parseAll ss = some L := by have := hP.out; rwa [List.take_of_length_le (by omega)] at this
        have hR3 := Lib.hid (show r = if clash L = true then (11, []) else (0, L) by rw [hR.out, hP2])
        have hL4 : L.length ≤ 4 := by omega
        obtain ⟨ao, cap, rfl, hsr⟩ := srow_of hown hRel.out
        have HSR := Lib.hid hsr
        clear hown hsr hP2
        have HRN := Lib.hid (show clash L = true → r = (11, []) from fun hh => by rw [hR3.out, if_pos hh])
        have HRY := Lib.hid (show clash L = false → r = (0, L) from fun hh => by rw [hR3.out, if_neg (by rw [hh]; simp)])
        generalize wr = wA at *
        go_wp2
        go_loopw [40] (fun i w9 => ∃ k1 : Nat, k1 ≤ L.length ∧ i = .int .i64 k1 ∧ Hid (∀ i (hi : i < L.length) k (hk : k < L.length), i < k1 → i ≠ k → overP L[i] L[k] = false) ∧ Hid (Gr wA w9)) (fun i _ => L.length - (intOf i).toNat)
        case atStart => exact ⟨0, by omega, rfl, Lib.hid (fun i hi k hk h => by omega), Lib.hid (Gr.refl _)⟩
        case round =>
          obtain ⟨k1, hk1, rfl, hN, hG9⟩ := hrel
          by_cases hlt1 : k1 < L.length
          · go_wp2
            go_loopw [45] (fun i w8 => ∃ k2 : Nat, k2 ≤ L.length ∧ i = .int .i64 k2 ∧ Hid (∀ k (hk : k < L.length), k < k2 → k1 ≠ k → overP L[k1] L[k] = false) ∧ Hid (Gr wA w8)) (fun i _ => L.length - (intOf i).toNat)
            case atStart => exact ⟨0, by omega, rfl, Lib.hid (fun k hk h => by omega), hG9⟩
            case round =>
              obtain ⟨k2, hk2, rfl, hN2, hG8⟩ := hrel
              by_cases hlt2 : k2 < L.length
              · obtain ⟨b, off, ai, ci, rfl, hbw, d1, s1⟩ := HSR.out.at k1 hlt1
                obtain ⟨b', off', aj, cj, hb', _, d2, s2⟩ := HSR.out.at k2 hlt2
                obtain ⟨rfl, rfl⟩ : b' = b ∧ off' = off := by injection hb' with e; injection e with e1 e2; exact ⟨e1.symm, e2.symm⟩
                have HOV := Lib.hid (fun w (h : Strs w ai (L[k1]'hlt1)) (h2 : Strs w aj (L[k2]'hlt2)) => refOver_any (L[k1]'hlt1) (L[k2]'hlt2) ai aj ci cj w h h2)
                have HNK := Lib.hid (show (k1 ≠ k2 → overP L[k1] L[k2] = false) → ∀ k (hk : k < L.length), k < k2 + 1 → k1 ≠ k → overP L[k1] L[k] = false from fun hh k hk hkk hne => by
                  rcases Nat.lt_or_ge k k2 with h9 | h9
                  · exact hN2.out k hk h9 hne
                  · obtain rfl : k = k2 := by omega
                    exact hh hne)
                have HCY := Lib.hid (show k1 ≠ k2 → overP L[k1] L[k2] = true → clash L = true from fun hne ho => clash_yes hlt1 hlt2 hne ho)
                have HX : Hid (∀ w0 w9 : World, Gr w0 w9 → Gr wA w0 ∧ w0.cell? ⟨b', off' + k1, none⟩ = some (.slice ai L[k1].length ci) ∧ w0.cell? ⟨b', off' + k2, none⟩ = some (.slice aj L[k2].length cj) ∧ Strs w0 ai L[k1] ∧ Strs w0 aj L[k2] → Gr wA w9 ∧ w9.cell? ⟨b', off' + k1, none⟩ = some (.slice ai L[k1].length ci) ∧ w9.cell? ⟨b', off' + k2, none⟩ = some (.slice aj L[k2].length cj) ∧ Strs w9 ai L[k1] ∧ Strs w9 aj L[k2]) :=
                  Lib.hid fun w0 w9 hg ⟨h1, h2, h3, h4, h5⟩ => ⟨h1.trans hg, hg.cell h2, hg.cell h3, h4.gr hg, h5.gr hg⟩
                have HS0 := And.intro hG8.out (And.intro (hG8.out.cell d1) (And.intro (hG8.out.cell d2) (And.intro (s1.gr hG8.out) (s2.gr hG8.out))))
                clear d1 d2 s1 s2 hb' hbw
                by_cases hne : k1 = k2
                · subst hne
                  have HN3 := Lib.hid (HNK.out (fun h => absurd rfl h))
                  go_wp2
                  refine wp_region_held_drew (S := (fun w' => Gr wA w' ∧ w'.cell? ⟨b', off' + k1, none⟩ = some (.slice ai L[k1].length ci) ∧ w'.cell? ⟨b', off' + k1, none⟩ = some (.slice aj L[k1].length cj) ∧ Strs w' ai L[k1] ∧ Strs w' aj L[k1])) (by kernel_rfl) ?inva (fun h0 => ?_)
                  case inva => ((try dsimp only); (first | exact HS0 | exact HX.out _ _ ((Gr.refl _).drew) HS0))
                  refine wpAnyH_take (i := 0) (oi := { dst := some 48, op := Go.Op.move (Go.Operand.tmp 9), type := 3, pos := "ref.go:21", after := #[], guard := none }) (v := ?va0) rfl (by kernel_rfl) (by kernel_rfl) (by kernel_rfl) (fun _ _ _ h => h) (Or.inl ⟨by rfl, ?ra0⟩) (by assumption) ?_
                  case ra0 => (intro w hSw; (try dsimp only at hSw); (go_simp <;> with_reducible rfl))
                  try simp only [Act.put, List.setIfInBounds_toArray, List.set_cons_zero, List.set_cons_succ]
                  refine wpAnyH_take (i := 1) (oi := { dst := some 49, op := Go.Op.move (Go.Operand.tmp 10), type := 3, pos := "ref.go:21", after := #[], guard := none }) (v := ?va1) rfl (by kernel_rfl) (by kernel_rfl) (by kernel_rfl) (fun _ _ _ h => h) (Or.inl ⟨by rfl, ?ra1⟩) (by assumption) ?_
                  case ra1 => (intro w hSw; (try dsimp only at hSw); (go_simp <;> with_reducible rfl))
                  try simp only [Act.put, List.setIfInBounds_toArray, List.set_cons_zero, List.set_cons_succ]
                  refine wpAnyH_take (i := 2) (oi := { dst := some 50, op := Go.Op.binOp Go.BinOp.neq 3 (Go.Operand.tmp 48) (Go.Operand.tmp 49) 3, type := 4, pos := "ref.go:21", after := #[{ on := 0, ground := Go.Ground.data }, { on := 1, ground := Go.Ground.data }], guard := none }) (v := ?va2) rfl (by kernel_rfl) (by kernel_rfl) (by kernel_rfl) (fun _ _ _ h => h) (Or.inl ⟨by rfl, ?ra2⟩) (by assumption) ?_
                  case ra2 => (intro w hSw; (try dsimp only at hSw); (go_simp <;> with_reducible rfl))
                  try simp only [Act.put, List.setIfInBounds_toArray, List.set_cons_zero, List.set_cons_succ]
                  refine wpAnyH_take (i := 3) (oi := { dst := some 51, op := Go.Op.move (Go.Operand.tmp 50), type := 4, pos := "ref.go:21", after := #[{ on := 2, ground := Go.Ground.data }], guard := none }) (v := ?va3) rfl (by kernel_rfl) (by kernel_rfl) (by kernel_rfl) (fun _ _ _ h => h) (Or.inl ⟨by rfl, ?ra3⟩) (by assumption) ?_
                  case ra3 => (intro w hSw; (try dsimp only at hSw); (go_simp <;> with_reducible rfl))
                  try simp only [Act.put, List.setIfInBounds_toArray, List.set_cons_zero, List.set_cons_succ]
                  refine wpAnyH_take (i := 4) (oi := { dst := some 52, op := Go.Op.move (Go.Operand.tmp 4), type := 55, pos := "ref.go:21", after := #[{ on := 3, ground := Go.Ground.guard }], guard := some (3, true) }) (v := undef) rfl (by kernel_rfl) (by kernel_rfl) (by kernel_rfl) (fun _ _ _ h => h) (Or.inr ⟨by rfl, rfl⟩) (by assumption) ?_
                  try simp only [Act.put, List.setIfInBounds_toArray, List.set_cons_zero, List.set_cons_succ]
                  refine wpAnyH_take (i := 5) (oi := { dst := some 53, op := Go.Op.move (Go.Operand.tmp 9), type := 3, pos := "ref.go:21", after := #[{ on := 3, ground := Go.Ground.guard }], guard := some (3, true) }) (v := undef) rfl (by kernel_rfl) (by kernel_rfl) (by kernel_rfl) (fun _ _ _ h => h) (Or.inr ⟨by rfl, rfl⟩) (by assumption) ?_
                  try simp only [Act.put, List.setIfInBounds_toArray, List.set_cons_zero, List.set_cons_succ]
                  refine wpAnyH_take (i := 6) (oi := { dst := some 54, op := Go.Op.indexAddr 55 (Go.Operand.tmp 52) (Go.Operand.tmp 53), type := 0, pos := "ref.go:21", after := #[{ on := 4, ground := Go.Ground.data }, { on := 5, ground := Go.Ground.data }, { on := 3, ground := Go.Ground.guard }], guard := some (3, true) }) (v := undef) rfl (by kernel_rfl) (by kernel_rfl) (by kernel_rfl) (fun _ _ _ h => h) (Or.inr ⟨by rfl, rfl⟩) (by assumption) ?_
                  try simp only [Act.put, List.setIfInBounds_toArray, List.set_cons_zero, List.set_cons_succ]
                  refine wpAnyH_take (i := 7) (oi := { dst := some 55, op := Go.Op.load 29 (Go.Operand.tmp 54), type := 29, pos := "ref.go:21", after := #[{ on := 6, ground := Go.Ground.data }, { on := 3, ground := Go.Ground.guard }], guard := some (3, true) }) (v := undef) rfl (by kernel_rfl) (by kernel_rfl) (by kernel_rfl) (fun _ _ _ h => h) (Or.inr ⟨by rfl, rfl⟩) (by assumption) ?_
                  try simp only [Act.put, List.setIfInBounds_toArray, List.set_cons_zero, List.set_cons_succ]
                  refine wpAnyH_take (i := 8) (oi := { dst := some 56, op := Go.Op.move (Go.Operand.tmp 4), type := 55, pos := "ref.go:21", after := #[{ on := 3, ground := Go.Ground.guard }], guard := some (3, true) }) (v := undef) rfl (by kernel_rfl) (by kernel_rfl) (by kernel_rfl) (fun _ _ _ h => h) (Or.inr ⟨by rfl, rfl⟩) (by assumption) ?_
                  try simp only [Act.put, List.setIfInBounds_toArray, List.set_cons_zero, List.set_cons_succ]
                  refine wpAnyH_take (i := 9) (oi := { dst := some 57, op := Go.Op.move (Go.Operand.tmp 10), type := 3, pos := "ref.go:21", after := #[{ on := 3, ground := Go.Ground.guard }], guard := some (3, true) }) (v := undef) rfl (by kernel_rfl) (by kernel_rfl) (by kernel_rfl) (fun _ _ _ h => h) (Or.inr ⟨by rfl, rfl⟩) (by assumption) ?_
                  try simp only [Act.put, List.setIfInBounds_toArray, List.set_cons_zero, List.set_cons_succ]
                  refine wpAnyH_take (i := 10) (oi := { dst := some 58, op := Go.Op.indexAddr 55 (Go.Operand.tmp 56) (Go.Operand.tmp 57), type := 0, pos := "ref.go:21", after := #[{ on := 8, ground := Go.Ground.data }, { on := 9, ground := Go.Ground.data }, { on := 3, ground := Go.Ground.guard }], guard := some (3, true) }) (v := undef) rfl (by kernel_rfl) (by kernel_rfl) (by kernel_rfl) (fun _ _ _ h => h) (Or.inr ⟨by rfl, rfl⟩) (by assumption) ?_
                  try simp only [Act.put, List.setIfInBounds_toArray, List.set_cons_zero, List.set_cons_succ]
                  refine wpAnyH_take (i := 11) (oi := { dst := some 59, op := Go.Op.load 29 (Go.Operand.tmp 58), type := 29, pos := "ref.go:21", after := #[{ on := 10, ground := Go.Ground.data }, { on := 3, ground := Go.Ground.guard }], guard := some (3, true) }) (v := undef) rfl (by kernel_rfl) (by kernel_rfl) (by kernel_rfl) (fun _ _ _ h => h) (Or.inr ⟨by rfl, rfl⟩) (by assumption) ?_
                  try simp only [Act.put, List.setIfInBounds_toArray, List.set_cons_zero, List.set_cons_succ]
                  refine wpAnyH_take (i := 12) (oi := { dst := some 60, op := Go.Op.call { callee := Go.Callee.value (Go.Operand.func 26), args := #[Go.Operand.tmp 55, Go.Operand.tmp 59], argTypes := #[29, 29] }, type := 4, pos := "ref.go:21", after := #[{ on := 7, ground := Go.Ground.data }, { on := 11, ground := Go.Ground.data }, { on := 3, ground := Go.Ground.chain }, { on := 3, ground := Go.Ground.guard }], guard := some (3, true) }) (v := undef) rfl (by kernel_rfl) (by kernel_rfl) (by kernel_rfl) (fun _ _ _ h => h) (Or.inr ⟨by rfl, rfl⟩) (by assumption) ?_
                  try simp only [Act.put, List.setIfInBounds_toArray, List.set_cons_zero, List.set_cons_succ]
                  refine wpAnyH_take (i := 13) (oi := { dst := some 61, op := Go.Op.pick (Go.Operand.tmp 51) (Go.Operand.tmp 60) (Go.Operand.const (Go.Value.bool false)), type := 4, pos := "ref.go:21", after := #[{ on := 3, ground := Go.Ground.data }, { on := 12, ground := Go.Ground.data }], guard := none }) (v := ?va13) rfl (by kernel_rfl) (by kernel_rfl) (by kernel_rfl) (fun _ _ _ h => h) (Or.inl ⟨by rfl, ?ra13⟩) (by assumption) ?_
                  case ra13 => (intro w hSw; (try dsimp only at hSw); (go_simp <;> with_reducible rfl))
                  try simp only [Act.put, List.setIfInBounds_toArray, List.set_cons_zero, List.set_cons_succ]
                  refine wpAnyH_done (by kernel_rfl) ?_ _
                  obtain ⟨g9, -, -⟩ := h0
                  have G9 := Lib.hid g9
                  clear g9
                  go_wp2
                  go_roundw
                  case rel => exact ⟨k1 + 1, by omega, by go_num, HN3, G9⟩
                  case measure => simp [intOf]; omega
                · have t1 : ((k1 : Int) != (k2 : Int)) = true := by simp; omega
                  have HNE := Lib.hid hne
                  generalize hl1 : L[k1] = l1 at *
                  generalize hl2 : L[k2] = l2 at *
                  generalize overP l1 l2 = z at *
                  clear hl1 hl2
                  cases z with
                  | true =>
                    have HRR := Lib.hid (HRN.out (HCY.out hne (by simp)))
                    clear hne
                    go_wp2
                    refine wp_region_held_drew (S := (fun w' => Gr wA w' ∧ w'.cell? ⟨b', off' + k1, none⟩ = some (.slice ai l1.length ci) ∧ w'.cell? ⟨b', off' + k2, none⟩ = some (.slice aj l2.length cj) ∧ Strs w' ai l1 ∧ Strs w' aj l2)) (by kernel_rfl) ?invb (fun h0 => ?_)
                    case invb => ((try dsimp only); (first | exact HS0 | exact HX.out _ _ ((Gr.refl _).drew) HS0))
                    refine wpAnyH_take (i := 0) (oi := { dst := some 48, op := Go.Op.move (Go.Operand.tmp 9), type := 3, pos := "ref.go:21", after := #[], guard := none }) (v := ?vb0) rfl (by kernel_rfl) (by kernel_rfl) (by kernel_rfl) (fun _ _ _ h => h) (Or.inl ⟨by rfl, ?rb0⟩) (by assumption) ?_
                    case rb0 => (intro w hSw; (try dsimp only at hSw); (go_simp <;> with_reducible rfl))
                    try simp only [Act.put, List.setIfInBounds_toArray, List.set_cons_zero, List.set_cons_succ]
                    refine wpAnyH_take (i := 1) (oi := { dst := some 49, op := Go.Op.move (Go.Operand.tmp 10), type := 3, pos := "ref.go:21", after := #[], guard := none }) (v := ?vb1) rfl (by kernel_rfl) (by kernel_rfl) (by kernel_rfl) (fun _ _ _ h => h) (Or.inl ⟨by rfl, ?rb1⟩) (by assumption) ?_
                    case rb1 => (intro w hSw; (try dsimp only at hSw); (go_simp <;> with_reducible rfl))
                    try simp only [Act.put, List.setIfInBounds_toArray, List.set_cons_zero, List.set_cons_succ]
                    refine wpAnyH_take (i := 2) (oi := { dst := some 50, op := Go.Op.binOp Go.BinOp.neq 3 (Go.Operand.tmp 48) (Go.Operand.tmp 49) 3, type := 4, pos := "ref.go:21", after := #[{ on := 0, ground := Go.Ground.data }, { on := 1, ground := Go.Ground.data }], guard := none }) (v := .bool true) rfl (by kernel_rfl) (by kernel_rfl) (by kernel_rfl) (fun _ _ _ h => h) (Or.inl ⟨by rfl, ?rb2⟩) (by assumption) ?_
                    case rb2 => (intro w hSw; (try dsimp only at hSw); go_simp; (try (simp; omega)))
                    try simp only [Act.put, List.setIfInBounds_toArray, List.set_cons_zero, List.set_cons_succ]
                    refine wpAnyH_take (i := 3) (oi := { dst := some 51, op := Go.Op.move (Go.Operand.tmp 50), type := 4, pos := "ref.go:21", after := #[{ on := 2, ground := Go.Ground.data }], guard := none }) (v := ?vb3) rfl (by kernel_rfl) (by kernel_rfl) (by kernel_rfl) (fun _ _ _ h => h) (Or.inl ⟨by rfl, ?rb3⟩) (by assumption) ?_
                    case rb3 => (intro w hSw; (try dsimp only at hSw); (go_simp <;> with_reducible rfl))
                    try simp only [Act.put, List.setIfInBounds_toArray, List.set_cons_zero, List.set_cons_succ]
                    refine wpAnyH_take (i := 4) (oi := { dst := some 52, op := Go.Op.move (Go.Operand.tmp 4), type := 55, pos := "ref.go:21", after := #[{ on := 3, ground := Go.Ground.guard }], guard := some (3, true) }) (v := ?vb4) rfl (by kernel_rfl) (by kernel_rfl) (by kernel_rfl) (fun _ _ _ h => h) (Or.inl ⟨by rfl, ?rb4⟩) (by assumption) ?_
                    case rb4 => (intro w hSw; (try dsimp only at hSw); (go_simp <;> with_reducible rfl))
                    try simp only [Act.put, List.setIfInBounds_toArray, List.set_cons_zero, List.set_cons_succ]
                    refine wpAnyH_take (i := 5) (oi := { dst := some 53, op := Go.Op.move (Go.Operand.tmp 9), type := 3, pos := "ref.go:21", after := #[{ on := 3, ground := Go.Ground.guard }], guard := some (3, true) }) (v := ?vb5) rfl (by kernel_rfl) (by kernel_rfl) (by kernel_rfl) (fun _ _ _ h => h) (Or.inl ⟨by rfl, ?rb5⟩) (by assumption) ?_
                    case rb5 => (intro w hSw; (try dsimp only at hSw); (go_simp <;> with_reducible rfl))
                    try simp only [Act.put, List.setIfInBounds_toArray, List.set_cons_zero, List.set_cons_succ]
                    refine wpAnyH_take (i := 6) (oi := { dst := some 54, op := Go.Op.indexAddr 55 (Go.Operand.tmp 52) (Go.Operand.tmp 53), type := 0, pos := "ref.go:21", after := #[{ on := 4, ground := Go.Ground.data }, { on := 5, ground := Go.Ground.data }, { on := 3, ground := Go.Ground.guard }], guard := some (3, true) }) (v := ?vb6) rfl (by kernel_rfl) (by kernel_rfl) (by kernel_rfl) (fun _ _ _ h => h) (Or.inl ⟨by rfl, ?rb6⟩) (by assumption) ?_
                    case rb6 => (intro w hSw; (try dsimp only at hSw); (go_simp <;> with_reducible rfl))
                    try simp only [Act.put, List.setIfInBounds_toArray, List.set_cons_zero, List.set_cons_succ]
                    refine wpAnyH_take (i := 7) (oi := { dst := some 55, op := Go.Op.load 29 (Go.Operand.tmp 54), type := 29, pos := "ref.go:21", after := #[{ on := 6, ground := Go.Ground.data }, { on := 3, ground := Go.Ground.guard }], guard := some (3, true) }) (v := ?vb7) rfl (by kernel_rfl) (by kernel_rfl) (by kernel_rfl) (fun _ _ _ h => h) (Or.inl ⟨by rfl, ?rb7⟩) (by assumption) ?_
                    case rb7 => (intro w hSw; (try dsimp only at hSw); (go_simp <;> with_reducible rfl))
                    try simp only [Act.put, List.setIfInBounds_toArray, List.set_cons_zero, List.set_cons_succ]
                    refine wpAnyH_take (i := 8) (oi := { dst := some 56, op := Go.Op.move (Go.Operand.tmp 4), type := 55, pos := "ref.go:21", after := #[{ on := 3, ground := Go.Ground.guard }], guard := some (3, true) }) (v := ?vb8) rfl (by kernel_rfl) (by kernel_rfl) (by kernel_rfl) (fun _ _ _ h => h) (Or.inl ⟨by rfl, ?rb8⟩) (by assumption) ?_
                    case rb8 => (intro w hSw; (try dsimp only at hSw); (go_simp <;> with_reducible rfl))
                    try simp only [Act.put, List.setIfInBounds_toArray, List.set_cons_zero, List.set_cons_succ]
                    refine wpAnyH_take (i := 9) (oi := { dst := some 57, op := Go.Op.move (Go.Operand.tmp 10), type := 3, pos := "ref.go:21", after := #[{ on := 3, ground := Go.Ground.guard }], guard := some (3, true) }) (v := ?vb9) rfl (by kernel_rfl) (by kernel_rfl) (by kernel_rfl) (fun _ _ _ h => h) (Or.inl ⟨by rfl, ?rb9⟩) (by assumption) ?_
                    case rb9 => (intro w hSw; (try dsimp only at hSw); (go_simp <;> with_reducible rfl))
                    try simp only [Act.put, List.setIfInBounds_toArray, List.set_cons_zero, List.set_cons_succ]
                    refine wpAnyH_take (i := 10) (oi := { dst := some 58, op := Go.Op.indexAddr 55 (Go.Operand.tmp 56) (Go.Operand.tmp 57), type := 0, pos := "ref.go:21", after := #[{ on := 8, ground := Go.Ground.data }, { on := 9, ground := Go.Ground.data }, { on := 3, ground := Go.Ground.guard }], guard := some (3, true) }) (v := ?vb10) rfl (by kernel_rfl) (by kernel_rfl) (by kernel_rfl) (fun _ _ _ h => h) (Or.inl ⟨by rfl, ?rb10⟩) (by assumption) ?_
                    case rb10 => (intro w hSw; (try dsimp only at hSw); (go_simp <;> with_reducible rfl))
                    try simp only [Act.put, List.setIfInBounds_toArray, List.set_cons_zero, List.set_cons_succ]
                    refine wpAnyH_take (i := 11) (oi := { dst := some 59, op := Go.Op.load 29 (Go.Operand.tmp 58), type := 29, pos := "ref.go:21", after := #[{ on := 10, ground := Go.Ground.data }, { on := 3, ground := Go.Ground.guard }], guard := some (3, true) }) (v := ?vb11) rfl (by kernel_rfl) (by kernel_rfl) (by kernel_rfl) (fun _ _ _ h => h) (Or.inl ⟨by rfl, ?rb11⟩) (by assumption) ?_
                    case rb11 => (intro w hSw; (try dsimp only at hSw); (go_simp <;> with_reducible rfl))
                    try simp only [Act.put, List.setIfInBounds_toArray, List.set_cons_zero, List.set_cons_succ]
                    refine wpAnyH_ready (rs := [12]) (by kernel_rfl) (by simp) ?_
                    refine AllReadyH.cons (o := { dst := some 60, op := Go.Op.call { callee := Go.Callee.value (Go.Operand.func 26), args := #[Go.Operand.tmp 55, Go.Operand.tmp 59], argTypes := #[29, 29] }, type := 4, pos := "ref.go:21", after := #[{ on := 7, ground := Go.Ground.data }, { on := 11, ground := Go.Ground.data }, { on := 3, ground := Go.Ground.chain }, { on := 3, ground := Go.Ground.guard }], guard := some (3, true) }) rfl (fun K hK => ?_) AllReadyH.nil
                    go_simp
                    (go_at_call 26; refine (HOV.out _ h0.2.2.2.1 h0.2.2.2.2).mono ?_; rintro e w9 ⟨rfl, hgN⟩)
                    first | refine hK.out _ _ ?sb1 (fun h1 => ?_) | (go_wp2_with fail; refine hK.out _ _ ?sb1 (fun h1 => ?_))
                    case sb1 => ((try dsimp only); exact HX.out _ _ hgN h0)
                    clear hK K h0
                    try simp only [Act.put, List.setIfInBounds_toArray, List.set_cons_zero, List.set_cons_succ]
                    refine wpAnyH_take (i := 13) (oi := { dst := some 61, op := Go.Op.pick (Go.Operand.tmp 51) (Go.Operand.tmp 60) (Go.Operand.const (Go.Value.bool false)), type := 4, pos := "ref.go:21", after := #[{ on := 3, ground := Go.Ground.data }, { on := 12, ground := Go.Ground.data }], guard := none }) (v := ?vb13) rfl (by kernel_rfl) (by kernel_rfl) (by kernel_rfl) (fun _ _ _ h => h) (Or.inl ⟨by rfl, ?rb13⟩) (by assumption) ?_
                    case rb13 => (intro w hSw; (try dsimp only at hSw); (go_simp <;> with_reducible rfl))
                    try simp only [Act.put, List.setIfInBounds_toArray, List.set_cons_zero, List.set_cons_succ]
                    refine wpAnyH_done (by kernel_rfl) ?_ _
                    obtain ⟨g9, -, -⟩ := h1
                    have G9 := Lib.hid g9
                    clear g9
                    go_wp2
                    go_ret2
                    rw [HRR.out]
                    exact .inr ⟨by decide, rfl, hG.out.trans G9.out⟩
                  | false =>
                    have HN3 := Lib.hid (HNK.out (fun _ => by simp))
                    clear hne
                    go_wp2
                    refine wp_region_held_drew (S := (fun w' => Gr wA w' ∧ w'.cell? ⟨b', off' + k1, none⟩ = some (.slice ai l1.length ci) ∧ w'.cell? ⟨b', off' + k2, none⟩ = some (.slice aj l2.length cj) ∧ Strs w' ai l1 ∧ Strs w' aj l2)) (by kernel_rfl) ?invc (fun h0 => ?_)
                    case invc => ((try dsimp only); (first | exact HS0 | exact HX.out _ _ ((Gr.refl _).drew) HS0))
                    refine wpAnyH_take (i := 0) (oi := { dst := some 48, op := Go.Op.move (Go.Operand.tmp 9), type := 3, pos := "ref.go:21", after := #[], guard := none }) (v := ?vc0) rfl (by kernel_rfl) (by kernel_rfl) (by kernel_rfl) (fun _ _ _ h => h) (Or.inl ⟨by rfl, ?rc0⟩) (by assumption) ?_
                    case rc0 => (intro w hSw; (try dsimp only at hSw); (go_simp <;> with_reducible rfl))
                    try simp only [Act.put, List.setIfInBounds_toArray, List.set_cons_zero, List.set_cons_succ]
                    refine wpAnyH_take (i := 1) (oi := { dst := some 49, op := Go.Op.move (Go.Operand.tmp 10), type := 3, pos := "ref.go:21", after := #[], guard := none }) (v := ?vc1) rfl (by kernel_rfl) (by kernel_rfl) (by kernel_rfl) (fun _ _ _ h => h) (Or.inl ⟨by rfl, ?rc1⟩) (by assumption) ?_
                    case rc1 => (intro w hSw; (try dsimp only at hSw); (go_simp <;> with_reducible rfl))
                    try simp only [Act.put, List.setIfInBounds_toArray, List.set_cons_zero, List.set_cons_succ]
                    refine wpAnyH_take (i := 2) (oi := { dst := some 50, op := Go.Op.binOp Go.BinOp.neq 3 (Go.Operand.tmp 48) (Go.Operand.tmp 49) 3, type := 4, pos := "ref.go:21", after := #[{ on := 0, ground := Go.Ground.data }, { on := 1, ground := Go.Ground.data }], guard := none }) (v := .bool true) rfl (by kernel_rfl) (by kernel_rfl) (by kernel_rfl) (fun _ _ _ h => h) (Or.inl ⟨by rfl, ?rc2⟩) (by assumption) ?_
                    case rc2 => (intro w hSw; (try dsimp only at hSw); go_simp; (try (simp; omega)))
                    try simp only [Act.put, List.setIfInBounds_toArray, List.set_cons_zero, List.set_cons_succ]
                    refine wpAnyH_take (i := 3) (oi := { dst := some 51, op := Go.Op.move (Go.Operand.tmp 50), type := 4, pos := "ref.go:21", after := #[{ on := 2, ground := Go.Ground.data }], guard := none }) (v := ?vc3) rfl (by kernel_rfl) (by kernel_rfl) (by kernel_rfl) (fun _ _ _ h => h) (Or.inl ⟨by rfl, ?rc3⟩) (by assumption) ?_
                    case rc3 => (intro w hSw; (try dsimp only at hSw); (go_simp <;> with_reducible rfl))
                    try simp only [Act.put, List.setIfInBounds_toArray, List.set_cons_zero, List.set_cons_succ]
                    refine wpAnyH_take (i := 4) (oi := { dst := some 52, op := Go.Op.move (Go.Operand.tmp 4), type := 55, pos := "ref.go:21", after := #[{ on := 3, ground := Go.Ground.guard }], guard := some (3, true) }) (v := ?vc4) rfl (by kernel_rfl) (by kernel_rfl) (by kernel_rfl) (fun _ _ _ h => h) (Or.inl ⟨by rfl, ?rc4⟩) (by assumption) ?_
                    case rc4 => (intro w hSw; (try dsimp only at hSw); (go_simp <;> with_reducible rfl))
                    try simp only [Act.put, List.setIfInBounds_toArray, List.set_cons_zero, List.set_cons_succ]
                    refine wpAnyH_take (i := 5) (oi := { dst := some 53, op := Go.Op.move (Go.Operand.tmp 9), type := 3, pos := "ref.go:21", after := #[{ on := 3, ground := Go.Ground.guard }], guard := some (3, true) }) (v := ?vc5) rfl (by kernel_rfl) (by kernel_rfl) (by kernel_rfl) (fun _ _ _ h => h) (Or.inl ⟨by rfl, ?rc5⟩) (by assumption) ?_
                    case rc5 => (intro w hSw; (try dsimp only at hSw); (go_simp <;> with_reducible rfl))
                    try simp only [Act.put, List.setIfInBounds_toArray, List.set_cons_zero, List.set_cons_succ]
                    refine wpAnyH_take (i := 6) (oi := { dst := some 54, op := Go.Op.indexAddr 55 (Go.Operand.tmp 52) (Go.Operand.tmp 53), type := 0, pos := "ref.go:21", after := #[{ on := 4, ground := Go.Ground.data }, { on := 5, ground := Go.Ground.data }, { on := 3, ground := Go.Ground.guard }], guard := some (3, true) }) (v := ?vc6) rfl (by kernel_rfl) (by kernel_rfl) (by kernel_rfl) (fun _ _ _ h => h) (Or.inl ⟨by rfl, ?rc6⟩) (by assumption) ?_
                    case rc6 => (intro w hSw; (try dsimp only at hSw); (go_simp <;> with_reducible rfl))
                    try simp only [Act.put, List.setIfInBounds_toArray, List.set_cons_zero, List.set_cons_succ]
                    refine wpAnyH_take (i := 7) (oi := { dst := some 55, op := Go.Op.load 29 (Go.Operand.tmp 54), type := 29, pos := "ref.go:21", after := #[{ on := 6, ground := Go.Ground.data }, { on := 3, ground := Go.Ground.guard }], guard := some (3, true) }) (v := ?vc7) rfl (by kernel_rfl) (by kernel_rfl) (by kernel_rfl) (fun _ _ _ h => h) (Or.inl ⟨by rfl, ?rc7⟩) (by assumption) ?_
                    case rc7 => (intro w hSw; (try dsimp only at hSw); (go_simp <;> with_reducible rfl))
                    try simp only [Act.put, List.setIfInBounds_toArray, List.set_cons_zero, List.set_cons_succ]
                    refine wpAnyH_take (i := 8) (oi := { dst := some 56, op := Go.Op.move (Go.Operand.tmp 4), type := 55, pos := "ref.go:21", after := #[{ on := 3, ground := Go.Ground.guard }], guard := some (3, true) }) (v := ?vc8) rfl (by kernel_rfl) (by kernel_rfl) (by kernel_rfl) (fun _ _ _ h => h) (Or.inl ⟨by rfl, ?rc8⟩) (by assumption) ?_
                    case rc8 => (intro w hSw; (try dsimp only at hSw); (go_simp <;> with_reducible rfl))
                    try simp only [Act.put, List.setIfInBounds_toArray, List.set_cons_zero, List.set_cons_succ]
                    refine wpAnyH_take (i := 9) (oi := { dst := some 57, op := Go.Op.move (Go.Operand.tmp 10), type := 3, pos := "ref.go:21", after := #[{ on := 3, ground := Go.Ground.guard }], guard := some (3, true) }) (v := ?vc9) rfl (by kernel_rfl) (by kernel_rfl) (by kernel_rfl) (fun _ _ _ h => h) (Or.inl ⟨by rfl, ?rc9⟩) (by assumption) ?_
                    case rc9 => (intro w hSw; (try dsimp only at hSw); (go_simp <;> with_reducible rfl))
                    try simp only [Act.put, List.setIfInBounds_toArray, List.set_cons_zero, List.set_cons_succ]
                    refine wpAnyH_take (i := 10) (oi := { dst := some 58, op := Go.Op.indexAddr 55 (Go.Operand.tmp 56) (Go.Operand.tmp 57), type := 0, pos := "ref.go:21", after := #[{ on := 8, ground := Go.Ground.data }, { on := 9, ground := Go.Ground.data }, { on := 3, ground := Go.Ground.guard }], guard := some (3, true) }) (v := ?vc10) rfl (by kernel_rfl) (by kernel_rfl) (by kernel_rfl) (fun _ _ _ h => h) (Or.inl ⟨by rfl, ?rc10⟩) (by assumption) ?_
                    case rc10 => (intro w hSw; (try dsimp only at hSw); (go_simp <;> with_reducible rfl))
                    try simp only [Act.put, List.setIfInBounds_toArray, List.set_cons_zero, List.set_cons_succ]
                    refine wpAnyH_take (i := 11) (oi := { dst := some 59, op := Go.Op.load 29 (Go.Operand.tmp 58), type := 29, pos := "ref.go:21", after := #[{ on := 10, ground := Go.Ground.data }, { on := 3, ground := Go.Ground.guard }], guard := some (3, true) }) (v := ?vc11) rfl (by kernel_rfl) (by kernel_rfl) (by kernel_rfl) (fun _ _ _ h => h) (Or.inl ⟨by rfl, ?rc11⟩) (by assumption) ?_
                    case rc11 => (intro w hSw; (try dsimp only at hSw); (go_simp <;> with_reducible rfl))
                    try simp only [Act.put, List.setIfInBounds_toArray, List.set_cons_zero, List.set_cons_succ]
                    refine wpAnyH_ready (rs := [12]) (by kernel_rfl) (by simp) ?_
                    refine AllReadyH.cons (o := { dst := some 60, op := Go.Op.call { callee := Go.Callee.value (Go.Operand.func 26), args := #[Go.Operand.tmp 55, Go.Operand.tmp 59], argTypes := #[29, 29] }, type := 4, pos := "ref.go:21", after := #[{ on := 7, ground := Go.Ground.data }, { on := 11, ground := Go.Ground.data }, { on := 3, ground := Go.Ground.chain }, { on := 3, ground := Go.Ground.guard }], guard := some (3, true) }) rfl (fun K hK => ?_) AllReadyH.nil
                    go_simp
                    (go_at_call 26; refine (HOV.out _ h0.2.2.2.1 h0.2.2.2.2).mono ?_; rintro e w9 ⟨rfl, hgN⟩)
                    first | refine hK.out _ _ ?sc1 (fun h1 => ?_) | (go_wp2_with fail; refine hK.out _ _ ?sc1 (fun h1 => ?_))
                    case sc1 => ((try dsimp only); exact HX.out _ _ hgN h0)
                    clear hK K h0
                    try simp only [Act.put, List.setIfInBounds_toArray, List.set_cons_zero, List.set_cons_succ]
                    refine wpAnyH_take (i := 13) (oi := { dst := some 61, op := Go.Op.pick (Go.Operand.tmp 51) (Go.Operand.tmp 60) (Go.Operand.const (Go.Value.bool false)), type := 4, pos := "ref.go:21", after := #[{ on := 3, ground := Go.Ground.data }, { on := 12, ground := Go.Ground.data }], guard := none }) (v := ?vc13) rfl (by kernel_rfl) (by kernel_rfl) (by kernel_rfl) (fun _ _ _ h => h) (Or.inl ⟨by rfl, ?rc13⟩) (by assumption) ?_
                    case rc13 => (intro w hSw; (try dsimp only at hSw); (go_simp <;> with_reducible rfl))
                    try simp only [Act.put, List.setIfInBounds_toArray, List.set_cons_zero, List.set_cons_succ]
                    refine wpAnyH_done (by kernel_rfl) ?_ _
                    obtain ⟨g9, -, -⟩ := h1
                    have G9 := Lib.hid g9
                    clear g9
                    go_wp2
                    go_roundw
                    case rel => exact ⟨k2 + 1, by omega, by go_num, HN3, G9⟩
                    case measure => simp [intOf]; omega
              · have HN3 := Lib.hid (show ∀ i (hi : i < L.length) k (hk : k < L.length), i < k1 + 1 → i ≠ k → overP L[i] L[k] = false from fun i hi k hk h9 hne => by
                  rcases Nat.lt_or_ge i k1 with h8 | h8
                  · exact hN.out i hi k hk h8 hne
                  · obtain rfl : i = k1 := by omega
                    exact hN2.out k hk (by omega) hne)
                go_wp2
                go_roundw
                case rel => exact ⟨k1 + 1, by omega, by go_num, HN3, hG8⟩
                case measure => simp [intOf]; omega
          · have HRR := Lib.hid (HRY.out (clash_no (fun i hi k hk hne => hN.out i hi k hk (by omega) hne)))
            go_wp2
            go_ret2
            rw [HRR.out]
            exact .inl ⟨rfl, ao, cap, rfl, HSR.out.gr hG9.out, hG.out.trans hG9.out⟩
end Go.Proofs.YtfpnglomemjniaaDoor
