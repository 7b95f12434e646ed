import Derived.Test.YtahohgnkichibaaF15m
import Derived.Test.YtahohgnkichibaaC30
import Derived.WalkKit
import Derived.ProofKit
import Derived.LoopTactic
import Derived.Outline
import Derived.WalkSpells
import Derived.WalkLawsBesides
import Derived.Lib.Hide
import Derived.Deep.LoopGhost
import Derived.Deep.QuietTactic
import Derived.BigQuiet
import Derived.ShutString
import Derived.IntWalk
import Derived.BigQuiet
import Derived.Deep.AppendLies
import Derived.Deep.RegionWith
import Derived.Deep.RegionHeld3
namespace Go.Proofs.Ytahohgnkichibaa
open Go.ChangeShapes Go.WideShapes Go.ChangeAt Go.RowKit
set_option linter.unusedVariables false
set_option linter.unusedSimpArgs false
/-- The row lies off the alarms. -/
def Off15 (rv : Value) (b : Nat) (v : Value) : Prop := ∀ k, rv.ownBlock = some k → k ≠ b ∧ v.ownBlock ≠ some k
theorem Off15.from {w : World} {rv : Value} {b : Nat} {v v' : Value} (h : Off15 rv b v) (hv : From v w v') (hr : ∀ k, rv.ownBlock = some k → k < w.heap.size) : Off15 rv b v' := fun k e => ⟨(h k e).1, fun e2 => by
  rcases hv k e2 with h1 | h1
  · exact (h k e).2 h1
  · have := hr k e; omega⟩
theorem RRow.far {w w' : World} {base b : Nat} {v rv : Value} {R : List A} (h : RRow w base rv R) (hf : Far b v w w') (ho : Off15 rv b v) : RRow w' base rv R :=
  ownsRow_far hf h (fun e => (ho b e).1 rfl) (fun k e => (ho k e).2)
theorem RRow.lts {w : World} {base : Nat} {rv : Value} {R : List A} (h : RRow w base rv R) : ∀ k, rv.ownBlock = some k → k < w.heap.size := fun k e => (h.lt k e).2
theorem off_new {w w3 : World} {b : Nat} {v rv : Value} {L R : List A} (h : AlIs w b v L) (hr : RRow w3 w.heap.size rv R) : Off15 rv b v := fun k e => by
  have h1 := (hr.lt k e).1
  have h2 := cell_lt h.rowv
  exact ⟨by omega, fun e2 => by have := h.away k e2; omega⟩
/-- What a round holds. -/
structure CaIs (w0 w : World) (b : Nat) (v rv : Value) (L R : List A) : Prop where
  own : AlOwn w0 w b v L
  row : RRow w w0.heap.size rv R
  off : Off15 rv b v
  inv : InvA L
  perm : L.Perm R
theorem CaIs.gr {w0 w w' : World} {b : Nat} {v rv : Value} {L R : List A} (h : CaIs w0 w b v rv L R) (hg : Gr w w') : CaIs w0 w' b v rv L R := ⟨h.own.more hg, h.row.gr hg, h.off, h.inv, h.perm⟩
/-- Another row of the document's, new. -/
theorem CaIs.ref {w0 w w' : World} {b : Nat} {v rv : Value} {L R : List A} (h : AlOwn w0 w b v L) (hg : Gr w w') (hr : RRow w' w.heap.size rv R) (hi : InvA L) (hp : L.Perm R) : CaIs w0 w' b v rv L R :=
  ⟨h.more hg, World.ownsRow.mono hr h.gr.size, off_new h.is hr, hi, hp⟩
set_option maxRecDepth 100000 in
set_option maxHeartbeats 8000000 in
theorem alarms_walk (L0 : List Act15) (a : Option Addr) (cap : Nat) (key : Int) (w : World) (hL : Act15Row w a L0) :
    Calls Try.prog 3 #[.slice a L0.length cap, .int .i64 key] w fun e w' => e = .returned (.bool true) ∧ Gr w w' := by
  have HL := Lib.hid hL
  have hll := hL.1
  clear hL
  go_enter Try.func3, Try.ntmps3
  go_wp2_with fail
  refine (awake15 _).mono ?_
  rintro e w1 ⟨rfl, hg1⟩
  have HG1 := Lib.hid hg1
  clear hg1
  go_wp2
  have H3 : Hid (CaIs w ((w1.alloc (.cells #[.slice none 0 0] 26)).alloc (.cells #[] 40)) w1.heap.size (.slice none 0 0) (.slice (some ⟨w1.heap.size + 1, 0, none⟩) 0 0) [] []) := Lib.hid (by
    have h1 := al_new w1
    have h2 := rrow_empty (w1.alloc (.cells #[.slice none 0 0] 26)) w.heap.size (by have := HG1.out.size; simp; omega)
    rw [show (w1.alloc (.cells #[.slice none 0 0] 26)).heap.size = w1.heap.size + 1 by simp] at h2
    refine ⟨⟨h1.is.gr ((Gr.refl _).alloc _), HG1.out.trans (h1.gr.alloc _), HG1.out.size⟩, h2, fun k e => ?_, inv_nil, List.Perm.refl _⟩
    simp [Value.ownBlock] at e ⊢
    omega)
  generalize (w1.alloc (.cells #[.slice none 0 0] 26)).alloc (.cells #[] 40) = wa at *
  generalize hb : w1.heap.size = b at *
  clear HG1 hb
  go_loopw [6, 7] (fun rv i wr => ∃ (k : Nat) (v : Value) (L R : List A), k ≤ L0.length ∧ k ≤ 40 ∧ i = .int .i64 (k : Nat) ∧ L.length ≤ k ∧ Hid (CaIs w wr b v rv L R)) (fun _ i _ => L0.length - (intOf i).toNat)
  case atStart => exact ⟨0, _, [], [], by omega, by omega, rfl, by simp, H3⟩
  case round =>
    clear H3
    obtain ⟨k, v, L, R, hk, hk40, rfl, hlk, H⟩ := hrel
    by_cases hlt : k < L0.length
    · by_cases h40 : k < 40
      · obtain ⟨bb, oo, rfl, hbb, hat, hok⟩ := HL.out.at k hlt
        obtain ⟨c0, c1, c2⟩ := hat.gr H.out.own.gr
        generalize L0[k] = p at *
        obtain ⟨pK, pX, pT⟩ := p
        simp only at c0 c1 c2
        have hk4 : (k : Int) < (L0.length : Int) := by omega
        clear hat hok
        have HG0 := Lib.hid ((Gr.refl wr).alloc (.cells #[.int .i64 pK, .int .i64 pX, .int .i64 pT] 29))
        have H0 := Lib.hid (H.out.gr HG0.out)
        have HB0 := Lib.hid (Blk.new wr #[.int .i64 pK, .int .i64 pX, .int .i64 pT] 29)
        have HP0 := Lib.hid (H.out.own.is)
        have HPB := Lib.hid (show wr.heap.size ≠ b by have := cell_lt H.out.own.is.rowv; omega)
        have HPV := Lib.hid (show v.ownBlock ≠ some wr.heap.size from fun e => by have := H.out.own.is.away _ e; omega)
        have hrl : R.length ≤ 40 := by rw [← H.out.perm.length_eq]; omega
        obtain ⟨ra, rc, rfl⟩ := H.out.row.slice
        clear H HP0
        by_cases h0 : pK = 0
        · subst h0
          have hsl := setA_len L pX pT
          have hol := offA_len L pX
          go_wp2_with fail
          refine (alSet_any pX pT _ H0.out.own.is H0.out.inv (by omega)).mono ?_
          rintro e w2 ⟨rfl, ht⟩
          obtain ⟨v2, h2, hf2, hv2⟩ := H0.out.own.to ht
          have H2 := Lib.hid h2
          have HR2 := Lib.hid (H0.out.row.far hf2 H0.out.off)
          have HB2 := Lib.hid (show Blk w2 wr.heap.size _ _ from (hf2.block _ HB0.out.lt HPB.out HPV.out).trans HB0.out)
          have x0 := HB2.out.cell (i := 0) rfl
          have x1 := HB2.out.cell (i := 1) rfl
          have x2 := HB2.out.cell (i := 2) rfl
          clear ht h2 hf2 hv2 c0 c1 c2
          go_wp2_with fail
          refine (refSet_any15 pX pT R _ HR2.out (by omega)).mono ?_
          rintro e w3 ⟨v3, rfl, hr3, hg3⟩
          have hkl := keyless_len R pX
          have HC := Lib.hid (CaIs.ref H2.out hg3 hr3 (setA_inv H0.out.inv pX pT) (perm_set H0.out.inv H0.out.perm pX pT))
          obtain ⟨r3, c3, rfl⟩ := hr3.slice
          have hl3 : (setA L pX pT).length ≤ k + 1 := by omega
          clear hr3 hg3 x0 x1 x2 hsl hol
          generalize setA L pX pT = L2 at *
          generalize keyless R pX ++ [⟨pX, pT⟩] = R2 at *
          have HAT := Lib.hid (at_last HC.out.inv HC.out.perm key)
          have hpl := HC.out.perm.length_eq
          go_wp2_with fail
          refine (alAt_any key _ HC.out.own.is).mono ?_
          rintro e w5 ⟨rfl, hg5⟩
          rw [HAT.out]
          have HC5 := Lib.hid (HC.out.gr hg5)
          clear hg5
          generalize hlf : lastF key (R2) = q at *
          obtain ⟨qa, qb⟩ := q
          have HLF := Lib.hid hlf
          clear hlf
          go_wp2
          go_loopw [17, 18, 108] (fun u17 u18 i wr => ∃ m : Nat, m ≤ (R2).length ∧ i = .int .i64 (m : Nat) ∧ Hid (u17 = .int .i64 (lastF key ((R2).take m)).1 ∧ u18 = .bool (lastF key ((R2).take m)).2) ∧ Hid (Gr w5 wr)) (fun _ _ i _ => (R2).length - (intOf i).toNat)
          case atStart => exact ⟨0, by omega, rfl, Lib.hid ⟨rfl, rfl⟩, Lib.hid (Gr.refl _)⟩
          case round =>
            obtain ⟨m, hm, rfl, HU, HGI⟩ := hrel
            by_cases hlt2 : m < (R2).length
            · have hm2 : (m : Int) < ((R2).length : Int) := by omega
              obtain ⟨gg, cc, hv, _, hc1, hc2⟩ := HC5.out.row.at m hlt2
              simp only [Value.slice.injEq, true_and] at hv
              obtain ⟨rfl, rfl⟩ := hv
              have d0 := HGI.out.cell hc1
              have d1 := HGI.out.cell hc2
              clear hc1 hc2
              have HY := Lib.hid (fun h => lastF_yes (k := key) hlt2 h)
              have HN := Lib.hid (fun h => lastF_no (k := key) hlt2 h)
              generalize (R2)[m] = y at *
              obtain ⟨yk, yd⟩ := y
              simp only at d0 d1 HY HN
              have HG2 := Lib.hid (HGI.out.alloc (.cells #[.int .i64 yk, .int .i64 yd] 40))
              by_cases hyk : yk = key
              · have HE := Lib.hid (HY.out hyk)
                clear HY HN HU
                subst hyk
                go_wp2
                go_roundw
                case rel => exact ⟨m + 1, by omega, by go_num, Lib.hid (by rw [HE.out]; exact ⟨rfl, rfl⟩), HG2⟩
                case measure => simp [intOf]; omega
              · have HE := Lib.hid (HN.out hyk)
                have HU2 := Lib.hid (show u17 = .int .i64 (lastF key ((R2).take (m + 1))).1 ∧ u18 = .bool (lastF key ((R2).take (m + 1))).2 by rw [HE.out]; exact HU.out)
                clear HY HN HU
                go_wp2
                go_roundw
                case rel => exact ⟨m + 1, by omega, by go_num, HU2, HG2⟩
                case measure => simp [intOf]; omega
            · obtain rfl : m = (R2).length := by omega
              have hu := HU.out
              rw [List.take_length, HLF.out] at hu
              obtain ⟨rfl, rfl⟩ := hu
              have HC6 := Lib.hid (HC5.out.gr HGI.out)
              clear HU
              go_wp2_with fail
              refine (alLen_any _ HC6.out.own.is).mono ?_
              rintro e w6 ⟨rfl, rfl⟩
              generalize hl1 : (L2).length = l1 at *
              generalize hl2 : (R2).length = l2 at *
              have HL1 := Lib.hid hl1
              have HL2 := Lib.hid hl2
              clear hl1 hl2
              subst hpl
              go_wp2
              go_roundw
              case rel => exact ⟨k + 1, _, L2, R2, by omega, by omega, by go_num, by rw [HL1.out]; omega, HC6⟩
              case measure => simp [intOf]; omega
        · by_cases h1 : pK = 1
          · subst h1
            have hol := offA_len L pX
            have HHO := Lib.hid (has_off H0.out.inv H0.out.perm pX)
            go_wp2_with fail
            refine (refOff_any pX R _ H0.out.row (by omega)).mono ?_
            rintro e w2 ⟨v2, rfl, hr2, hg2⟩
            rw [← HHO.out]
            generalize hhq : hasA L pX = hq at *
            have HHQ := Lib.hid hhq
            clear hhq
            have H2 := Lib.hid (H0.out.own.more hg2)
            have HR2 := Lib.hid (hr2.base H0.out.own.gr.size)
            have HO2 := Lib.hid (off_new H0.out.own.is hr2)
            have HB2 := Lib.hid (HB0.out.gr hg2)
            have x0 := HB2.out.cell (i := 0) rfl
            have x1 := HB2.out.cell (i := 1) rfl
            have x2 := HB2.out.cell (i := 2) rfl
            obtain ⟨r3, c3, rfl⟩ := hr2.slice
            clear hr2 hg2 c0 c1 c2
            go_wp2_with fail
            refine (alOff_any pX _ H2.out.is).mono ?_
            rintro e w3 ⟨rfl, ht⟩
            rw [show hasA L pX = hq from HHQ.out]
            obtain ⟨v3, h3, hf3, hv3⟩ := H2.out.to ht
            have HC : Hid (CaIs w w3 b v3 _ (offA L pX) (keyless R pX)) := Lib.hid ⟨h3, HR2.out.far hf3 HO2.out, HO2.out.from hv3 HR2.out.lts, H0.out.inv.sub (offA_sub L pX), perm_off H0.out.inv H0.out.perm pX⟩
            have hl3 : (offA L pX).length ≤ k + 1 := by omega
            clear ht h3 hf3 hv3 x0 x1 x2 hol
            generalize offA L pX = L2 at *
            generalize keyless R pX = R2 at *
            have HAT := Lib.hid (at_last HC.out.inv HC.out.perm key)
            have hpl := HC.out.perm.length_eq
            go_wp2_with fail
            refine (alAt_any key _ HC.out.own.is).mono ?_
            rintro e w5 ⟨rfl, hg5⟩
            rw [HAT.out]
            have HC5 := Lib.hid (HC.out.gr hg5)
            clear hg5
            generalize hlf : lastF key (R2) = q at *
            obtain ⟨qa, qb⟩ := q
            have HLF := Lib.hid hlf
            clear hlf
            go_wp2
            go_loopw [17, 18, 108] (fun u17 u18 i wr => ∃ m : Nat, m ≤ (R2).length ∧ i = .int .i64 (m : Nat) ∧ Hid (u17 = .int .i64 (lastF key ((R2).take m)).1 ∧ u18 = .bool (lastF key ((R2).take m)).2) ∧ Hid (Gr w5 wr)) (fun _ _ i _ => (R2).length - (intOf i).toNat)
            case atStart => exact ⟨0, by omega, rfl, Lib.hid ⟨rfl, rfl⟩, Lib.hid (Gr.refl _)⟩
            case round =>
              obtain ⟨m, hm, rfl, HU, HGI⟩ := hrel
              by_cases hlt2 : m < (R2).length
              · have hm2 : (m : Int) < ((R2).length : Int) := by omega
                obtain ⟨gg, cc, hv, _, hc1, hc2⟩ := HC5.out.row.at m hlt2
                simp only [Value.slice.injEq, true_and] at hv
                obtain ⟨rfl, rfl⟩ := hv
                have d0 := HGI.out.cell hc1
                have d1 := HGI.out.cell hc2
                clear hc1 hc2
                have HY := Lib.hid (fun h => lastF_yes (k := key) hlt2 h)
                have HN := Lib.hid (fun h => lastF_no (k := key) hlt2 h)
                generalize (R2)[m] = y at *
                obtain ⟨yk, yd⟩ := y
                simp only at d0 d1 HY HN
                have HG2 := Lib.hid (HGI.out.alloc (.cells #[.int .i64 yk, .int .i64 yd] 40))
                by_cases hyk : yk = key
                · have HE := Lib.hid (HY.out hyk)
                  clear HY HN HU
                  subst hyk
                  go_wp2
                  go_roundw
                  case rel => exact ⟨m + 1, by omega, by go_num, Lib.hid (by rw [HE.out]; exact ⟨rfl, rfl⟩), HG2⟩
                  case measure => simp [intOf]; omega
                · have HE := Lib.hid (HN.out hyk)
                  have HU2 := Lib.hid (show u17 = .int .i64 (lastF key ((R2).take (m + 1))).1 ∧ u18 = .bool (lastF key ((R2).take (m + 1))).2 by rw [HE.out]; exact HU.out)
                  clear HY HN HU
                  go_wp2
                  go_roundw
                  case rel => exact ⟨m + 1, by omega, by go_num, HU2, HG2⟩
                  case measure => simp [intOf]; omega
              · obtain rfl : m = (R2).length := by omega
                have hu := HU.out
                rw [List.take_length, HLF.out] at hu
                obtain ⟨rfl, rfl⟩ := hu
                have HC6 := Lib.hid (HC5.out.gr HGI.out)
                clear HU
                go_wp2_with fail
                refine (alLen_any _ HC6.out.own.is).mono ?_
                rintro e w6 ⟨rfl, rfl⟩
                generalize hl1 : (L2).length = l1 at *
                generalize hl2 : (R2).length = l2 at *
                have HL1 := Lib.hid hl1
                have HL2 := Lib.hid hl2
                clear hl1 hl2
                subst hpl
                go_wp2
                go_roundw
                case rel => exact ⟨k + 1, _, L2, R2, by omega, by omega, by go_num, by rw [HL1.out]; omega, HC6⟩
                case measure => simp [intOf]; omega
          · by_cases h2 : pK = 2
            · subst h2
              have HDE := Lib.hid (due_eq H0.out.inv H0.out.perm pT)
              have hnl := dueN_le L pT
              have hdr := dueR_len R pT
              have hrr := restR_len R pT
              go_wp2_with fail
              refine (alDue_any pT _ H0.out.own.is).mono ?_
              rintro e w2 ⟨v2, rfl, va, h2, hf2, hv2, hr2, ho2⟩
              have HRV : Hid (w2.ownsRow wr.heap.size 39 2 v2 (dueR R pT).length (rcells encA (dueR R pT))) := Lib.hid (by
                rw [← HDE.out.1]
                have hh : (L.take (dueN L pT)).length = dueN L pT := by rw [List.length_take]; omega
                rw [hh]
                exact World.ownsRow.mono hr2 HG0.out.size)
              have H2 := Lib.hid (H0.out.own.far h2 hf2)
              have HR2 := Lib.hid (H0.out.row.far hf2 H0.out.off)
              have HB2 := Lib.hid (show Blk w2 wr.heap.size _ _ from (hf2.block _ HB0.out.lt HPB.out HPV.out).trans HB0.out)
              have x0 := HB2.out.cell (i := 0) rfl
              have x1 := HB2.out.cell (i := 1) rfl
              have x2 := HB2.out.cell (i := 2) rfl
              clear h2 hf2 hv2 hr2 ho2 c0 c1 c2
              go_wp2_with fail
              refine (refDue_any pT R _ HR2.out (by omega)).mono ?_
              rintro e w3 ⟨v6, v7, rfl, hr6, hr7, hap, hg3⟩
              have hl3 : (L.drop (dueN L pT)).length ≤ k + 1 := by rw [List.length_drop]; omega
              have HC := Lib.hid (CaIs.ref H2.out hg3 hr7 (H0.out.inv.sub (List.drop_sublist _ _)) HDE.out.2)
              have HD6 := Lib.hid (hr6)
              have HRV3 := Lib.hid (ownsRow_gr hg3 HRV.out)
              obtain ⟨r6, c6, rfl⟩ := hr6.slice
              obtain ⟨r7, c7, rfl⟩ := hr7.slice
              obtain ⟨r2, c2, rfl, hz2⟩ := ownsRow_slice HRV.out
              clear hr6 hr7 hap hg3 x0 x1 x2 hz2 HRV HDE
              generalize L.drop (dueN L pT) = L2 at *
              generalize restR R pT = R2 at *
              generalize dueR R pT = D at *
              go_wp2
              go_loopw [87] (fun i wr => ∃ m : Nat, m ≤ D.length ∧ i = .int .i64 (m : Nat) ∧ Hid (Gr w3 wr)) (fun i _ => D.length - (intOf i).toNat)
              case atStart => exact ⟨0, by omega, rfl, Lib.hid (Gr.refl _)⟩
              case round =>
                obtain ⟨m, hm, rfl, HGI⟩ := hrel
                by_cases hlt2 : m < D.length
                · have hm2 : (m : Int) < (D.length : Int) := by omega
                  obtain ⟨gg, cc, hv, _, hc1, hc2⟩ := HD6.out.at m hlt2
                  simp only [Value.slice.injEq, true_and] at hv
                  obtain ⟨rfl, rfl⟩ := hv
                  have d0 := HGI.out.cell hc1
                  have d1 := HGI.out.cell hc2
                  obtain ⟨g2, cc2, hv, hc3, hc4⟩ := row_at (L := D) HRV3.out m hlt2
                  simp only [Value.slice.injEq, true_and] at hv
                  obtain ⟨rfl, rfl⟩ := hv
                  have d2 := HGI.out.cell hc3
                  have d3 := HGI.out.cell hc4
                  clear hc1 hc2 hc3 hc4
                  generalize D[m] = y at *
                  obtain ⟨yk, yd⟩ := y
                  simp only at d0 d1 d2 d3
                  go_wp2_with fail
                  refine wp_region_held_drew (S := (fun w9 => w9.cell? ⟨gg, m * 2, none⟩ = some (.int .i64 yk) ∧ w9.cell? ⟨gg, m * 2 + 1, none⟩ = some (.int .i64 yd) ∧ w9.cell? ⟨g2, m * 2, none⟩ = some (.int .i64 yk) ∧ w9.cell? ⟨g2, m * 2 + 1, none⟩ = some (.int .i64 yd))) (by kernel_rfl) ?invr (fun h0 => ?_)
                  case invr => ((try dsimp only); (exact ⟨d0, d1, d2, d3⟩))
                  refine wpAnyH_take (i := 0) (oi := { dst := some 90, op := Go.Op.move (Go.Operand.tmp 11), type := 24, pos := "law.go:49", after := #[], guard := none }) (v := ?vr1) rfl (by kernel_rfl) (by kernel_rfl) (by kernel_rfl) (fun _ _ _ h => h) (Or.inl ⟨by rfl, ?rr1⟩) (by assumption) ?_
                  case rr1 => (intro w hSw; (try dsimp only at hSw); (go_simp <;> with_reducible rfl))
                  try simp only [Act.put, List.setIfInBounds_toArray, List.set_cons_zero, List.set_cons_succ]
                  refine wpAnyH_take (i := 1) (oi := { dst := some 91, op := Go.Op.move (Go.Operand.tmp 14), type := 3, pos := "law.go:49", after := #[], guard := none }) (v := ?vr2) rfl (by kernel_rfl) (by kernel_rfl) (by kernel_rfl) (fun _ _ _ h => h) (Or.inl ⟨by rfl, ?rr2⟩) (by assumption) ?_
                  case rr2 => (intro w hSw; (try dsimp only at hSw); (go_simp <;> with_reducible rfl))
                  try simp only [Act.put, List.setIfInBounds_toArray, List.set_cons_zero, List.set_cons_succ]
                  refine wpAnyH_take (i := 2) (oi := { dst := some 92, op := Go.Op.indexAddr 24 (Go.Operand.tmp 90) (Go.Operand.tmp 91), type := 0, pos := "law.go:49", after := #[{ on := 0, ground := Go.Ground.data }, { on := 1, ground := Go.Ground.data }], guard := none }) (v := ?vr3) rfl (by kernel_rfl) (by kernel_rfl) (by kernel_rfl) (fun _ _ _ h => h) (Or.inl ⟨by rfl, ?rr3⟩) (by assumption) ?_
                  case rr3 => (intro w hSw; (try dsimp only at hSw); (go_simp <;> with_reducible rfl))
                  try simp only [Act.put, List.setIfInBounds_toArray, List.set_cons_zero, List.set_cons_succ]
                  refine wpAnyH_take (i := 3) (oi := { dst := some 93, op := Go.Op.load 39 (Go.Operand.tmp 92), type := 39, pos := "law.go:49", after := #[{ on := 2, ground := Go.Ground.data }], guard := none }) (v := ?vr4) rfl (by kernel_rfl) (by kernel_rfl) (by kernel_rfl) (fun _ _ _ h => h) (Or.inl ⟨by rfl, ?rr4⟩) (by assumption) ?_
                  case rr4 => (intro w hSw; (try dsimp only at hSw); (go_simp <;> with_reducible rfl))
                  try simp only [Act.put, List.setIfInBounds_toArray, List.set_cons_zero, List.set_cons_succ]
                  refine wpAnyH_take (i := 4) (oi := { dst := some 94, op := Go.Op.move (Go.Operand.tmp 12), type := 27, pos := "law.go:49", after := #[], guard := none }) (v := ?vr5) rfl (by kernel_rfl) (by kernel_rfl) (by kernel_rfl) (fun _ _ _ h => h) (Or.inl ⟨by rfl, ?rr5⟩) (by assumption) ?_
                  case rr5 => (intro w hSw; (try dsimp only at hSw); (go_simp <;> with_reducible rfl))
                  try simp only [Act.put, List.setIfInBounds_toArray, List.set_cons_zero, List.set_cons_succ]
                  refine wpAnyH_take (i := 5) (oi := { dst := some 95, op := Go.Op.move (Go.Operand.tmp 14), type := 3, pos := "law.go:49", after := #[], guard := none }) (v := ?vr6) rfl (by kernel_rfl) (by kernel_rfl) (by kernel_rfl) (fun _ _ _ h => h) (Or.inl ⟨by rfl, ?rr6⟩) (by assumption) ?_
                  case rr6 => (intro w hSw; (try dsimp only at hSw); (go_simp <;> with_reducible rfl))
                  try simp only [Act.put, List.setIfInBounds_toArray, List.set_cons_zero, List.set_cons_succ]
                  refine wpAnyH_take (i := 6) (oi := { dst := some 96, op := Go.Op.indexAddr 27 (Go.Operand.tmp 94) (Go.Operand.tmp 95), type := 0, pos := "law.go:49", after := #[{ on := 4, ground := Go.Ground.data }, { on := 5, ground := Go.Ground.data }], guard := none }) (v := ?vr7) rfl (by kernel_rfl) (by kernel_rfl) (by kernel_rfl) (fun _ _ _ h => h) (Or.inl ⟨by rfl, ?rr7⟩) (by assumption) ?_
                  case rr7 => (intro w hSw; (try dsimp only at hSw); (go_simp <;> with_reducible rfl))
                  try simp only [Act.put, List.setIfInBounds_toArray, List.set_cons_zero, List.set_cons_succ]
                  refine wpAnyH_take (i := 7) (oi := { dst := some 97, op := Go.Op.load 40 (Go.Operand.tmp 96), type := 40, pos := "law.go:49", after := #[{ on := 6, ground := Go.Ground.data }], guard := none }) (v := ?vr8) rfl (by kernel_rfl) (by kernel_rfl) (by kernel_rfl) (fun _ _ _ h => h) (Or.inl ⟨by rfl, ?rr8⟩) (by assumption) ?_
                  case rr8 => (intro w hSw; (try dsimp only at hSw); (go_simp <;> with_reducible rfl))
                  try simp only [Act.put, List.setIfInBounds_toArray, List.set_cons_zero, List.set_cons_succ]
                  refine wpAnyH_take (i := 8) (oi := { dst := some 98, op := Go.Op.binOp Go.BinOp.neq 39 (Go.Operand.tmp 93) (Go.Operand.tmp 97) 39, type := 4, pos := "law.go:49", after := #[{ on := 3, ground := Go.Ground.data }, { on := 7, ground := Go.Ground.data }], guard := none }) (v := ?vr9) rfl (by kernel_rfl) (by kernel_rfl) (by kernel_rfl) (fun _ _ _ h => h) (Or.inl ⟨by rfl, ?rr9⟩) (by assumption) ?_
                  case rr9 => (intro w hSw; (try dsimp only at hSw); (go_simp <;> with_reducible rfl))
                  try simp only [Act.put, List.setIfInBounds_toArray, List.set_cons_zero, List.set_cons_succ]
                  refine wpAnyH_done (by kernel_rfl) ?_ _
                  clear h0 d0 d1 d2 d3
                  go_wp2
                  go_roundw
                  case rel => exact ⟨m + 1, by omega, by go_num, Lib.hid (HGI.out.trans (Gr.refl _).drew)⟩
                  case measure => simp [intOf]; omega
                · obtain rfl : m = D.length := by omega
                  have HC4 := Lib.hid (HC.out.gr HGI.out)
                  clear HC
                  go_wp2_with fail
                  have HAT := Lib.hid (at_last HC4.out.inv HC4.out.perm key)
                  have hpl := HC4.out.perm.length_eq
                  go_wp2_with fail
                  refine (alAt_any key _ HC4.out.own.is).mono ?_
                  rintro e w5 ⟨rfl, hg5⟩
                  rw [HAT.out]
                  have HC5 := Lib.hid (HC4.out.gr hg5)
                  clear hg5
                  generalize hlf : lastF key (R2) = q at *
                  obtain ⟨qa, qb⟩ := q
                  have HLF := Lib.hid hlf
                  clear hlf
                  go_wp2
                  go_loopw [17, 18, 108] (fun u17 u18 i wr => ∃ m : Nat, m ≤ (R2).length ∧ i = .int .i64 (m : Nat) ∧ Hid (u17 = .int .i64 (lastF key ((R2).take m)).1 ∧ u18 = .bool (lastF key ((R2).take m)).2) ∧ Hid (Gr w5 wr)) (fun _ _ i _ => (R2).length - (intOf i).toNat)
                  case atStart => exact ⟨0, by omega, rfl, Lib.hid ⟨rfl, rfl⟩, Lib.hid (Gr.refl _)⟩
                  case round =>
                    obtain ⟨m, hm, rfl, HU, HGI⟩ := hrel
                    by_cases hlt2 : m < (R2).length
                    · have hm2 : (m : Int) < ((R2).length : Int) := by omega
                      obtain ⟨gg, cc, hv, _, hc1, hc2⟩ := HC5.out.row.at m hlt2
                      simp only [Value.slice.injEq, true_and] at hv
                      obtain ⟨rfl, rfl⟩ := hv
                      have d0 := HGI.out.cell hc1
                      have d1 := HGI.out.cell hc2
                      clear hc1 hc2
                      have HY := Lib.hid (fun h => lastF_yes (k := key) hlt2 h)
                      have HN := Lib.hid (fun h => lastF_no (k := key) hlt2 h)
                      generalize (R2)[m] = y at *
                      obtain ⟨yk, yd⟩ := y
                      simp only at d0 d1 HY HN
                      have HG2 := Lib.hid (HGI.out.alloc (.cells #[.int .i64 yk, .int .i64 yd] 40))
                      by_cases hyk : yk = key
                      · have HE := Lib.hid (HY.out hyk)
                        clear HY HN HU
                        subst hyk
                        go_wp2
                        go_roundw
                        case rel => exact ⟨m + 1, by omega, by go_num, Lib.hid (by rw [HE.out]; exact ⟨rfl, rfl⟩), HG2⟩
                        case measure => simp [intOf]; omega
                      · have HE := Lib.hid (HN.out hyk)
                        have HU2 := Lib.hid (show u17 = .int .i64 (lastF key ((R2).take (m + 1))).1 ∧ u18 = .bool (lastF key ((R2).take (m + 1))).2 by rw [HE.out]; exact HU.out)
                        clear HY HN HU
                        go_wp2
                        go_roundw
                        case rel => exact ⟨m + 1, by omega, by go_num, HU2, HG2⟩
                        case measure => simp [intOf]; omega
                    · obtain rfl : m = (R2).length := by omega
                      have hu := HU.out
                      rw [List.take_length, HLF.out] at hu
                      obtain ⟨rfl, rfl⟩ := hu
                      have HC6 := Lib.hid (HC5.out.gr HGI.out)
                      clear HU
                      go_wp2_with fail
                      refine (alLen_any _ HC6.out.own.is).mono ?_
                      rintro e w6 ⟨rfl, rfl⟩
                      generalize hl1 : (L2).length = l1 at *
                      generalize hl2 : (R2).length = l2 at *
                      have HL1 := Lib.hid hl1
                      have HL2 := Lib.hid hl2
                      clear hl1 hl2
                      subst hpl
                      go_wp2
                      go_roundw
                      case rel => exact ⟨k + 1, _, L2, R2, by omega, by omega, by go_num, by rw [HL1.out]; omega, HC6⟩
                      case measure => simp [intOf]; omega
            · skip
              go_wp2_with fail
              have HAT := Lib.hid (at_last H0.out.inv H0.out.perm key)
              have hpl := H0.out.perm.length_eq
              go_wp2_with fail
              refine (alAt_any key _ H0.out.own.is).mono ?_
              rintro e w5 ⟨rfl, hg5⟩
              rw [HAT.out]
              have HC5 := Lib.hid (H0.out.gr hg5)
              clear hg5
              generalize hlf : lastF key (R) = q at *
              obtain ⟨qa, qb⟩ := q
              have HLF := Lib.hid hlf
              clear hlf
              go_wp2
              go_loopw [17, 18, 108] (fun u17 u18 i wr => ∃ m : Nat, m ≤ (R).length ∧ i = .int .i64 (m : Nat) ∧ Hid (u17 = .int .i64 (lastF key ((R).take m)).1 ∧ u18 = .bool (lastF key ((R).take m)).2) ∧ Hid (Gr w5 wr)) (fun _ _ i _ => (R).length - (intOf i).toNat)
              case atStart => exact ⟨0, by omega, rfl, Lib.hid ⟨rfl, rfl⟩, Lib.hid (Gr.refl _)⟩
              case round =>
                obtain ⟨m, hm, rfl, HU, HGI⟩ := hrel
                by_cases hlt2 : m < (R).length
                · have hm2 : (m : Int) < ((R).length : Int) := by omega
                  obtain ⟨gg, cc, hv, _, hc1, hc2⟩ := HC5.out.row.at m hlt2
                  simp only [Value.slice.injEq, true_and] at hv
                  obtain ⟨rfl, rfl⟩ := hv
                  have d0 := HGI.out.cell hc1
                  have d1 := HGI.out.cell hc2
                  clear hc1 hc2
                  have HY := Lib.hid (fun h => lastF_yes (k := key) hlt2 h)
                  have HN := Lib.hid (fun h => lastF_no (k := key) hlt2 h)
                  generalize (R)[m] = y at *
                  obtain ⟨yk, yd⟩ := y
                  simp only at d0 d1 HY HN
                  have HG2 := Lib.hid (HGI.out.alloc (.cells #[.int .i64 yk, .int .i64 yd] 40))
                  by_cases hyk : yk = key
                  · have HE := Lib.hid (HY.out hyk)
                    clear HY HN HU
                    subst hyk
                    go_wp2
                    go_roundw
                    case rel => exact ⟨m + 1, by omega, by go_num, Lib.hid (by rw [HE.out]; exact ⟨rfl, rfl⟩), HG2⟩
                    case measure => simp [intOf]; omega
                  · have HE := Lib.hid (HN.out hyk)
                    have HU2 := Lib.hid (show u17 = .int .i64 (lastF key ((R).take (m + 1))).1 ∧ u18 = .bool (lastF key ((R).take (m + 1))).2 by rw [HE.out]; exact HU.out)
                    clear HY HN HU
                    go_wp2
                    go_roundw
                    case rel => exact ⟨m + 1, by omega, by go_num, HU2, HG2⟩
                    case measure => simp [intOf]; omega
                · obtain rfl : m = (R).length := by omega
                  have hu := HU.out
                  rw [List.take_length, HLF.out] at hu
                  obtain ⟨rfl, rfl⟩ := hu
                  have HC6 := Lib.hid (HC5.out.gr HGI.out)
                  clear HU
                  go_wp2_with fail
                  refine (alLen_any _ HC6.out.own.is).mono ?_
                  rintro e w6 ⟨rfl, rfl⟩
                  generalize hl1 : (L).length = l1 at *
                  generalize hl2 : (R).length = l2 at *
                  have HL1 := Lib.hid hl1
                  have HL2 := Lib.hid hl2
                  clear hl1 hl2
                  subst hpl
                  go_wp2
                  go_roundw
                  case rel => exact ⟨k + 1, _, L, R, by omega, by omega, by go_num, by rw [HL1.out]; omega, HC6⟩
                  case measure => simp [intOf]; omega
      · have hk5 : ¬ (k : Int) < 40 := by omega
        go_wp2
        go_ret
        exact ⟨rfl, H.out.own.gr⟩
    · have hk5 : ¬ (k : Int) < (L0.length : Int) := by omega
      go_wp2
      go_ret
      exact ⟨rfl, H.out.own.gr⟩
end Go.Proofs.Ytahohgnkichibaa
