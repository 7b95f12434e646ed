import Derived.Test.YtmgpnpmdmelnkaaGreatDoorM22b
import Derived.WalkKit
import Derived.ProofKit
import Derived.LoopTactic
import Derived.Outline
import Derived.WalkSpells
import Derived.WalkLawsBesides
import Derived.Lib.Hide
import Derived.Deep.LoopGhost
import Derived.Deep.QuietTactic
import Derived.BigQuiet
import Derived.ShutString
import Derived.IntWalk
import Derived.Lib.MinMax
import Derived.Deep.AppendLies
import Derived.Deep.RegionWith
import Derived.Deep.RegionHeld3
import Derived.Laws.OwnMore
namespace Go.Proofs.YtmgpnpmdmelnkaaGreatDoor
open Go.ChangeShapes Go.WideShapes Go.ChangeAt Go.RowKit
set_option linter.unusedVariables false
set_option linter.unusedSimpArgs false
variable {w0 w : World} {b : Nat} {v1 v2 : Value} {B : Bk}
theorem none_side (v : Value) : v.ownBlock = none ∨ v.ownBlock ≠ (Value.slice none 0 0).ownBlock := by
  rcases hq : v.ownBlock with _ | k
  · exact .inl rfl
  · exact .inr (by simp [Value.ownBlock])
set_option maxRecDepth 100000 in
set_option maxHeartbeats 4000000 in
theorem bserve_any (w : World) (h : BkIs w0 w b v1 v2 B) (hl : B.H.length + B.W.length ≤ 400) (ht : 0 ≤ B.last ∧ B.last ≤ 18446744073709551615) (hM : ML w0) (hS : SrtK B.H) (hH : ∀ y ∈ B.H, IsPath y.txt) (hW : ∀ y ∈ B.W, IsPath y.txt) :
    Calls Tryz.prog 66 #[.pointer (some ⟨b, 0, none⟩)] w fun e w' => ∃ v3, e = .returned v3 ∧ w'.ownsRow w.heap.size 42 4 v3 (serveB B).2.length (rcells encLok (serveB B).2) ∧ BkTo w0 w w' b v1 v2 (serveB B).1 := by
  obtain ⟨i0, hi, hz0, hz1, hz2⟩ : ∃ i0 : TypeInfo, Tryz.prog.info? 42 = some i0 ∧ i0.zero = some (.agg #[.int .i64 0, .string ⟨#[]⟩, .bool false, .int .u64 0]) ∧ i0.size = 4 ∧ i0.bytes = 40 := ⟨_, rfl, rfl, rfl, rfl⟩
  have H := Lib.hid h
  have HM := Lib.hid hM
  have HPW := Lib.hid (fun k (hk : k < B.W.length) => hW _ (List.getElem_mem hk))
  have HSN := Lib.hid (fun k (hk : k < B.W.length) => serveF_snoc B B.W k hk)
  have HP0 : Hid (SvP B 0 (B, [], [])) := Lib.hid ⟨rfl, hS, ⟨hH, fun x hx => by simp at hx, fun x hx => by simp at hx⟩, ⟨by simp, by simp, by simp⟩, ht⟩
  have HS0 : Hid (SvIs w0 w w b v1 v2 (B, [], []) v1 (.slice none 0 0) (.slice none 0 0)) := Lib.hid ⟨h, Far2.refl _ _ _ _, From.refl _ _, World.ownsRow_nil _ _ _ _, World.ownsRow_nil _ _ _ _, .inl rfl, none_side _, none_side _, h.blk.lt, fun k e => (h.r2.lt _ e).2⟩
  have c1 := h.blk.cell (i := 1) rfl
  obtain ⟨a2, k2, rfl, _⟩ := ownsRow_slice h.r2
  have HSB := Lib.hid (show serveB B = (⟨(serveF B B.W).1.H, (serveF B B.W).2.2, (serveF B B.W).1.last⟩, (serveF B B.W).2.1) from rfl)
  clear h hM hS hH hW ht
  go_enter Tryz.func66, Tryz.ntmps66
  go_wp2
  go_loopw [3, 4, 12] (fun x3 x4 i wr => ∃ (j : Nat) (s : Bk × List Lok × List Lok) (u1 : Value), j ≤ B.W.length ∧ i = .int .i64 j ∧ Hid (serveF B (B.W.take j) = s) ∧ Hid (SvP B j s) ∧ Hid (SvIs w0 w wr b v1 (.slice a2 B.W.length k2) s u1 x3 x4)) (fun _ _ i _ => B.W.length - (intOf i).toNat)
  case atStart => exact ⟨0, _, _, by omega, rfl, Lib.hid rfl, HP0, HS0⟩
  case round =>
    clear HS0 HP0 c1
    obtain ⟨j, s, u1, hj, rfl, hs, hP, hI⟩ := hrel
    by_cases hlt : j < B.W.length
    · have hr2 := hI.out.bk.r2
      rw [hP.out.w] at hr2
      obtain ⟨g, cap, hv, d0, d1, d2, d3⟩ := lokrow_at hr2 j hlt
      simp only [Value.slice.injEq] at hv
      obtain ⟨rfl, hnn, rfl⟩ := hv
      clear hnn hr2
      have HST := Lib.hid (HSN.out j hlt)
      rw [hs.out] at HST
      have hpy := HPW.out j hlt
      have HPY := Lib.hid hpy
      have HPN := Lib.hid (hP.out.step hpy)
      have HLEN : Hid (s.1.H.length + s.2.1.length + s.2.2.length + 3 ≤ 1300) := Lib.hid (by have := hP.out.len; omega)
      have HIX := Lib.hid (hI.out.gr ((Gr.refl wr).alloc (.cells #[.int .i64 B.W[j].ses, .string B.W[j].txt, .bool B.W[j].ex, .int .u64 B.W[j].tok] 42)))
      have HYX := Lib.hid (Blk.new wr #[.int .i64 B.W[j].ses, .string B.W[j].txt, .bool B.W[j].ex, .int .u64 B.W[j].tok] 42)
      generalize B.W[j] = y at *
      clear hpy
      go_upto_region 5 with fail
      generalize wr.alloc (.cells #[.int .i64 y.ses, .string y.txt, .bool y.ex, .int .u64 y.tok] 42) = wx at *
      generalize wr.heap.size = c at *
      clear d0 d1 d2 d3 hI
      have hlen := HLEN.out
      have HFR := Lib.hid (bfree_any y s.2.2 wx HIX.out.bk (by have := hP.out.len; omega) HIX.out.r4 (by have := hP.out.len; omega) HPY.out hP.out.path.1 hP.out.path.2.2)
      have y0 := HYX.out.cell (i := 0) rfl
      have y1 := HYX.out.cell (i := 1) rfl
      have y2 := HYX.out.cell (i := 2) rfl
      have y3 := HYX.out.cell (i := 3) rfl
      cases hq : freeB s.1.H s.2.2 y
      · rw [show serveStep s y = (s.1, s.2.1, s.2.2 ++ [y]) by unfold serveStep; rw [if_neg (by rw [hq]; simp)]] at HST HPN
        rw [hq] at HFR
        clear hq
        go_wp2_with fail
        refine HFR.out.mono ?_
        rintro e w5 ⟨rfl, hg5⟩
        have HI5 := Lib.hid (HIX.out.gr hg5)
        have HYB := Lib.hid (HYX.out.gr hg5)
        clear y0 y1 y2 y3 hg5 HFR HIX HYX
        have y0 := HYB.out.cell (i := 0) rfl
        have y1 := HYB.out.cell (i := 1) rfl
        have y2 := HYB.out.cell (i := 2) rfl
        have y3 := HYB.out.cell (i := 3) rfl
        obtain ⟨a4, c4, hv4, _⟩ := ownsRow_slice HI5.out.r4
        subst hv4
        have hrow := ownsRow_gr ((Gr.refl w5).alloc (.cells #[.int .i64 y.ses, .string y.txt, .bool y.ex, .int .u64 y.tok] 42)) HI5.out.r4
        go_wp2_with (at_builtin; go_loud (refine wpList_append_lies _ rfl (.tmp 31) (.tmp 33) 37 rfl w.heap.size 42 i0 (.agg #[.int .i64 0, .string ⟨#[]⟩, .bool false, .int .u64 0]) 4 40 Tryz.underlying37 hi hz0 hz1 hz2 rfl (by decide) _ _ _ rfl hrow ⟨w5.heap.size, 0, none⟩ 1 1 [.int .i64 y.ses, .string y.txt, .bool y.ex, .int .u64 y.tok] rfl (by simp) ?ka1 ?ka2 Nat.one_pos ?ka3 ?ka4 ?ka5 _ rfl ?_))
        case ka1 => exact World.news_of_block (cs := #[.int .i64 y.ses, .string y.txt, .bool y.ex, .int .u64 y.tok]) (t := 42) (fr := (0, 0)) (heap_alloc_new w5 (.cells #[.int .i64 y.ses, .string y.txt, .bool y.ex, .int .u64 y.tok] 42))
        case ka2 => first | (intro u hu; simp at hu; rcases hu with rfl | rfl | rfl | rfl <;> rfl) | exact ⟨rfl, rfl, rfl, rfl⟩
        case ka3 => have := HLEN.out; unfold maxLen; omega
        case ka4 => have := HLEN.out; omega
        case ka5 => have := HI5.out.far.size; simp; omega
        intro g7 cap7 w7 hown7 hgrow7 hat7 hlt7
        have HI7 := Lib.hid ((HI5.out.gr ((Gr.refl w5).alloc (.cells #[.int .i64 y.ses, .string y.txt, .bool y.ex, .int .u64 y.tok] 42))).put4 (y := y) hgrow7 hown7 rfl (hat7.imp id (fun h => h.trans (by simp))))
        clear hown7 hgrow7 hat7 hlt7 hrow y0 y1 y2 y3
        go_wp2
        exact ⟨⟨j + 1, _, _, hlt, by simp, HST, HPN, HI7⟩, by simp [intOf]; omega⟩
      · rw [hq] at HFR
        by_cases hla : s.1.last = 18446744073709551615
        · rw [show serveStep s y = (s.1, s.2.1, s.2.2 ++ [y]) by unfold serveStep; rw [if_neg (fun h => h.2 hla)]] at HST HPN
          have hld : decide (s.1.last = 18446744073709551615) = true := decide_eq_true hla
          clear hq hla
          go_wp2_with fail
          refine HFR.out.mono ?_
          rintro e w5 ⟨rfl, hg5⟩
          have HI5 := Lib.hid (HIX.out.gr hg5)
          have HYB := Lib.hid (HYX.out.gr hg5)
          clear y0 y1 y2 y3 hg5 HFR HIX HYX
          go_wp2_with fail
          refine (exhausted_any w5 HI5.out.bk).mono ?_
          rintro e w6 ⟨rfl, rfl⟩
          have y0 := HYB.out.cell (i := 0) rfl
          have y1 := HYB.out.cell (i := 1) rfl
          have y2 := HYB.out.cell (i := 2) rfl
          have y3 := HYB.out.cell (i := 3) rfl
          obtain ⟨a4, c4, hv4, _⟩ := ownsRow_slice HI5.out.r4
          subst hv4
          have hrow := ownsRow_gr ((Gr.refl w5).alloc (.cells #[.int .i64 y.ses, .string y.txt, .bool y.ex, .int .u64 y.tok] 42)) HI5.out.r4
          go_wp2_with (at_builtin; go_loud (refine wpList_append_lies _ rfl (.tmp 31) (.tmp 33) 37 rfl w.heap.size 42 i0 (.agg #[.int .i64 0, .string ⟨#[]⟩, .bool false, .int .u64 0]) 4 40 Tryz.underlying37 hi hz0 hz1 hz2 rfl (by decide) _ _ _ rfl hrow ⟨w5.heap.size, 0, none⟩ 1 1 [.int .i64 y.ses, .string y.txt, .bool y.ex, .int .u64 y.tok] rfl (by simp) ?kb1 ?kb2 Nat.one_pos ?kb3 ?kb4 ?kb5 _ rfl ?_))
          case kb1 => exact World.news_of_block (cs := #[.int .i64 y.ses, .string y.txt, .bool y.ex, .int .u64 y.tok]) (t := 42) (fr := (0, 0)) (heap_alloc_new w5 (.cells #[.int .i64 y.ses, .string y.txt, .bool y.ex, .int .u64 y.tok] 42))
          case kb2 => first | (intro u hu; simp at hu; rcases hu with rfl | rfl | rfl | rfl <;> rfl) | exact ⟨rfl, rfl, rfl, rfl⟩
          case kb3 => have := HLEN.out; unfold maxLen; omega
          case kb4 => have := HLEN.out; omega
          case kb5 => have := HI5.out.far.size; simp; omega
          intro g7 cap7 w7 hown7 hgrow7 hat7 hlt7
          have HI7 := Lib.hid ((HI5.out.gr ((Gr.refl w5).alloc (.cells #[.int .i64 y.ses, .string y.txt, .bool y.ex, .int .u64 y.tok] 42))).put4 (y := y) hgrow7 hown7 rfl (hat7.imp id (fun h => h.trans (by simp))))
          clear hown7 hgrow7 hat7 hlt7 hrow y0 y1 y2 y3
          go_wp2
          exact ⟨⟨j + 1, _, _, hlt, by simp, HST, HPN, HI7⟩, by simp [intOf]; omega⟩
        · rw [show serveStep s y = (grantB s.1 y, s.2.1 ++ [tokd s.1 y], s.2.2) by unfold serveStep; rw [if_pos ⟨hq, hla⟩]] at HST HPN
          have hld : decide (s.1.last = 18446744073709551615) = false := decide_eq_false hla
          have HLA := Lib.hid hla
          clear hq hla
          go_wp2_with fail
          refine HFR.out.mono ?_
          rintro e w5 ⟨rfl, hg5⟩
          have HI5 := Lib.hid (HIX.out.gr hg5)
          have HYB := Lib.hid (HYX.out.gr hg5)
          clear y0 y1 y2 y3 hg5 HFR HIX HYX
          go_wp2_with fail
          refine (exhausted_any w5 HI5.out.bk).mono ?_
          rintro e w6 ⟨rfl, rfl⟩
          have y0 := HYB.out.cell (i := 0) rfl
          have y1 := HYB.out.cell (i := 1) rfl
          have y2 := HYB.out.cell (i := 2) rfl
          have y3 := HYB.out.cell (i := 3) rfl
          go_wp2_with fail
          refine (bgrant1_any y w5 HI5.out.bk (by have := hP.out.len; omega) (by have := hP.out.last; have := HLA.out; omega) HM.out hP.out.srt HPY.out hP.out.path.1).mono ?_
          rintro e w6 ⟨rfl, ht6⟩
          obtain ⟨u6, hI6⟩ := HI5.out.grant ht6
          have HI6 := Lib.hid hI6
          clear ht6 hI6 y0 y1 y2 y3
          obtain ⟨a3, c3, hv3, _⟩ := ownsRow_slice HI6.out.r3
          subst hv3
          have hrow := ownsRow_gr ((Gr.refl w6).alloc (.cells #[.int .i64 y.ses, .string y.txt, .bool y.ex, .int .u64 (s.1.last + 1)] 42)) HI6.out.r3
          go_wp2_with (at_builtin; go_loud (refine wpList_append_lies _ rfl (.tmp 25) (.tmp 29) 37 rfl w.heap.size 42 i0 (.agg #[.int .i64 0, .string ⟨#[]⟩, .bool false, .int .u64 0]) 4 40 Tryz.underlying37 hi hz0 hz1 hz2 rfl (by decide) _ _ _ rfl hrow ⟨w6.heap.size, 0, none⟩ 1 1 [.int .i64 y.ses, .string y.txt, .bool y.ex, .int .u64 (s.1.last + 1)] rfl (by simp) ?kg1 ?kg2 Nat.one_pos ?kg3 ?kg4 ?kg5 _ rfl ?_))
          case kg1 => exact World.news_of_block (cs := #[.int .i64 y.ses, .string y.txt, .bool y.ex, .int .u64 (s.1.last + 1)]) (t := 42) (fr := (0, 0)) (heap_alloc_new w6 (.cells #[.int .i64 y.ses, .string y.txt, .bool y.ex, .int .u64 (s.1.last + 1)] 42))
          case kg2 => first | (intro u hu; simp at hu; rcases hu with rfl | rfl | rfl | rfl <;> rfl) | exact ⟨rfl, rfl, rfl, rfl⟩
          case kg3 => have := HLEN.out; unfold maxLen; omega
          case kg4 => have := HLEN.out; omega
          case kg5 => have := HI6.out.far.size; simp; omega
          intro g7 cap7 w7 hown7 hgrow7 hat7 hlt7
          have HI7 := Lib.hid ((HI6.out.gr ((Gr.refl w6).alloc (.cells #[.int .i64 y.ses, .string y.txt, .bool y.ex, .int .u64 (s.1.last + 1)] 42))).put3 (y := tokd s.1 y) hgrow7 hown7 rfl (hat7.imp id (fun h => h.trans (by simp))))
          clear hown7 hgrow7 hat7 hlt7 hrow
          go_wp2
          exact ⟨⟨j + 1, _, _, hlt, by simp, HST, HPN, HI7⟩, by simp [intOf]; omega⟩
    · obtain rfl : j = B.W.length := by omega
      rw [List.take_length] at hs
      have hsb : serveB B = (⟨s.1.H, s.2.2, s.1.last⟩, s.2.1) := by rw [HSB.out, hs.out]
      have HSV := Lib.hid hsb
      have b1 := hI.out.bk.blk.cell (i := 1) rfl
      have f1 := hI.out.bk.blk.free 1
      obtain ⟨a3, c3, hv3, _⟩ := ownsRow_slice hI.out.r3
      obtain ⟨a4, c4, hv4, _⟩ := ownsRow_slice hI.out.r4
      subst hv3
      subst hv4
      have HO3 := Lib.hid (fun e => by have := (own_ge hI.out.r3 e).1; have := hI.out.b; omega : Value.ownBlock (.slice a3 s.2.1.length c3) ≠ some b)
      have HO4 := Lib.hid (fun e => by have := (own_ge hI.out.r4 e).1; have := hI.out.b; omega : Value.ownBlock (.slice a4 s.2.2.length c4) ≠ some b)
      clear hsb
      go_wp2
      go_ret
      rw [HSV.out]
      have hO1 := row_offL hI.out.bk.blk hI.out.bk.r1 (by decide)
      refine ⟨_, rfl, ownsRow_setCell_other (a := ⟨b, 1, none⟩) hI.out.r3 HO3.out _, u1, _, ⟨hI.out.bk.base, hI.out.bk.grown.setCell (p := ⟨b, 1, none⟩) hI.out.bk.base _, hI.out.bk.blk.set 1 _, ownsRow_setCell_other (a := ⟨b, 1, none⟩) hI.out.bk.r1 hO1 _, ownsRow_setCell_other (a := ⟨b, 1, none⟩) (owns_base hI.out.r4 H.out.grown.size) HO4.out _, hI.out.n14⟩, ?_, hI.out.fr, fun k e => .inr (own_ge hI.out.r4 e).1⟩
      exact (hI.out.far.weak).trans (From.refl _ _) (From.refl _ _) (Far2.setCell b 1 _ _ wr _)
end Go.Proofs.YtmgpnpmdmelnkaaGreatDoor
