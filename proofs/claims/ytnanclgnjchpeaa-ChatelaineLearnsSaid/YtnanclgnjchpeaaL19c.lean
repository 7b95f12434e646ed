import Derived.Test.YtnanclgnjchpeaaL19b
import Derived.Test.YtnanclgnjchpeaaM19b
import Derived.WalkKit
import Derived.ProofKit
import Derived.LoopTactic
import Derived.Outline
import Derived.WalkSpells
import Derived.WalkLawsBesides
import Derived.Lib.Hide
import Derived.Deep.LoopGhost
import Derived.Deep.QuietTactic
import Derived.BigQuiet
import Derived.ShutString
import Derived.IntWalk
import Derived.BigQuiet
import Derived.Laws.OwnMore
import Derived.Deep.LoopGhost
import Derived.Laws.BitsLemmas
import Derived.Deep.Cut
import Derived.Deep.CutRange
namespace Go.Proofs.Ytnanclgnjchpeaa
open Go.ChangeShapes Go.WideShapes Go.ChangeAt Go.RowKit
open Bal
set_option linter.unusedVariables false
set_option linter.unusedSimpArgs false
theorem i64_and7 (n : Int) : bits .and .i64 n 7 = n % 8 := by
  have h7 : (BitVec.ofInt 64 7).toNat = 2 ^ 3 - 1 := by decide
  have key : (BitVec.ofInt 64 n &&& BitVec.ofInt 64 7).toNat = (n % ((2 ^ 64 : Nat) : Int)).toNat % 2 ^ 3 := by
    rw [BitVec.toNat_and, BitVec.toNat_ofInt, h7, Nat.and_two_pow_sub_one_eq_mod]
  show IntKind.i64.wrap ((BitVec.ofInt 64 n &&& BitVec.ofInt 64 7).toNat : Nat) = n % 8
  rw [key, IntKind.wrap_i64]
  omega
theorem info_str19 : (Try.prog.info? 9).map (fun i => (i.zero, i.size, i.bytes)) = some (some (.string ⟨#[]⟩), 1, 16) := by kernel_rfl
theorem LnIs.weak {w w0 w1 : World} {b : Nat} {v : Value} {a : Ln} (h : LnIs w0 w1 b v a) (hg : Gr w w0) : LnIs w w1 b v a := ⟨Nat.le_trans hg.size h.base, hg.trans h.grown, h.blk, row_weak h.row hg.size⟩
def GotIs (w : World) (pd : Nat) (T : List ByteArray) (x : Value) : Prop := ∃ a c G, x = .slice a T.length c ∧ GoodG T G ∧ (T = [] ∨ ∃ g, a = some ⟨g, 0, none⟩ ∧ g ≠ pd ∧ ∀ i (h : i < G.length), w.cell? ⟨g, i, none⟩ = some (.string G[i]))
theorem GotIs.gr {w w' : World} {pd : Nat} {T : List ByteArray} {x : Value} (h : GotIs w pd T x) (hg : Gr w w') : GotIs w' pd T x := by
  obtain ⟨a, c, G, e, h1, h2⟩ := h
  refine ⟨a, c, G, e, h1, h2.imp id ?_⟩
  rintro ⟨g, ha, hp, hc⟩
  exact ⟨g, ha, hp, fun i hi => hg.cell (hc i hi)⟩
theorem GotIs.set {w : World} {pd o : Nat} {T : List ByteArray} {x u : Value} (h : GotIs w pd T x) : GotIs (w.setCell ⟨pd, o, none⟩ u) pd T x := by
  obtain ⟨a, c, G, e, h1, h2⟩ := h
  refine ⟨a, c, G, e, h1, h2.imp id ?_⟩
  rintro ⟨g, ha, hp, hc⟩
  exact ⟨g, ha, hp, fun i hi => (World.cell?_setCell_other w ⟨pd, o, none⟩ ⟨g, i, none⟩ u (fun e => hp (congrArg Addr.block e).symm)).trans (hc i hi)⟩
theorem LnIs.other {w0 w : World} {b : Nat} {v : Value} {a : Ln} (h : LnIs w0 w b v a) {g : Nat} (h0 : w0.heap.size ≤ g) (hb : g ≠ b) (hv : v.ownBlock ≠ some g) (o : Nat) (u : Value) : LnIs w0 (w.setCell ⟨g, o, none⟩ u) b v a :=
  ⟨h.base, h.grown.setCell (p := ⟨g, o, none⟩) h0 u, h.blk.other hb.symm o u, ownsRow_setCell_other (a := ⟨g, o, none⟩) h.row hv u⟩
theorem rows_apart {w : World} {b1 b2 n1 n2 k1 k2 : Nat} {t1 t2 : TypeId} {v1 v2 : Value} {x1 x2 : List Value} (h1 : w.ownsRow b1 t1 k1 v1 n1 x1) (h2 : w.ownsRow b2 t2 k2 v2 n2 x2) (hne : t1 ≠ t2) : ∀ k, v1.ownBlock = some k → v2.ownBlock ≠ some k := by
  intro k e1 e2
  rcases h1.2 with ⟨rfl, _⟩ | ⟨g, cap, cur, rfl, _, hc, _⟩
  · simp [Value.ownBlock] at e1
  · rcases h2.2 with ⟨rfl, _⟩ | ⟨g', cap', cur', rfl, _, hc', _⟩
    · simp [Value.ownBlock] at e2
    · simp only [Value.ownBlock, Option.some.injEq] at e1 e2
      subst e1; subst e2
      rw [hc] at hc'
      simp only [Option.some.injEq, Obj.cells.injEq] at hc'
      exact hne hc'.2.1
set_option maxRecDepth 100000 in
set_option maxHeartbeats 8000000 in
theorem learns_walk19 (ss : List ByteArray) (ta : Option Addr) (tc : Nat) (os0 : List Int) (oa0 : Option Addr) (oc0 : Nat) (os1 : List Int) (oa1 : Option Addr) (oc1 : Nat) (ev : Int) (w : World) (hs : Strs w ta ss) (htc : ss.length ≤ tc) (hsz : ∀ s ∈ ss, s.size ≤ 281474976710656) (ho0 : Ints w oa0 os0) (hoc0 : os0.length ≤ oc0) (ho1 : Ints w oa1 os1) (hoc1 : os1.length ≤ oc1) :
    Calls Try.prog 5 #[.slice ta ss.length tc, .agg #[.slice oa0 os0.length oc0, .slice oa1 os1.length oc1], .int .i64 ev] w fun e w' => e = .returned (.bool true) ∧ Gr w w' := by
  obtain ⟨i0, hi, hz0, hz1, hz2⟩ := info_parts info_str19
  have hsl := hs.2.1
  obtain ⟨T, hT⟩ : ∃ T, T = ss.take 40 := ⟨_, rfl⟩
  have HT0 := Lib.hid (hT ▸ hs.take 40 : Strs w ta T)
  have HTZ := Lib.hid (show ∀ s ∈ T, s.size ≤ 281474976710656 from fun s h => hsz s (List.mem_of_mem_take (hT ▸ h)))
  have HTL := Lib.hid (show T.length = min 40 ss.length by rw [hT, List.length_take])
  have htl : T.length ≤ 40 := by rw [HTL.out]; omega
  have HI0 := Lib.hid ho0
  have HI1 := Lib.hid ho1
  have hol0 := ho0.1
  have hol1 := ho1.1
  have hE : 0 ≤ bits .and .i64 ev 7 ∧ bits .and .i64 ev 7 ≤ 7 := by rw [i64_and7]; omega
  obtain ⟨V, hV⟩ : ∃ V, V = bits .and .i64 ev 7 := ⟨_, rfl⟩
  rw [← hV] at hE
  have hV2 := hV.symm
  have hw0 : IntKind.i64.wrap (1 + V) = 1 + V := by rw [IntKind.wrap_i64]; omega
  have hV1 : ¬ (1 + V) = 0 := by omega
  clear hs ho0 ho1 hsz hT hV
  have HP4 := Lib.hid (Blk.new w #[.slice oa0 os0.length oc0, .slice oa1 os1.length oc1] 62)
  have HG4 := Lib.hid ((Gr.refl w).alloc (.cells #[.slice oa0 os0.length oc0, .slice oa1 os1.length oc1] 62))
  have hp4 : Hid (w.heap.size < (w.alloc (.cells #[.slice oa0 os0.length oc0, .slice oa1 os1.length oc1] 62)).heap.size) := Lib.hid HP4.out.lt
  go_enter Try.func5, Try.ntmps5
  go_upto_if 21 with fail
  generalize w.alloc (.cells #[.slice oa0 os0.length oc0, .slice oa1 os1.length oc1] 62) = w4 at *
  go_cut [0] from 19 (fun u wx => u = .slice ta T.length tc ∧ wx = w4)
  case first =>
    by_cases h4 : 40 < ss.length
    · have h5 : (ss.length : Int) > 40 := by omega
      go_wp2
      go_meet
      exact ⟨by rw [HTL.out, Nat.min_eq_left (by omega)], rfl⟩
    · have h5 : ¬ (ss.length : Int) > 40 := by omega
      go_wp2
      go_meet
      exact ⟨by rw [HTL.out, Nat.min_eq_right (by omega)], rfl⟩
  case rest =>
  obtain ⟨rfl, hwc⟩ := hcut
  rw [hwc]
  clear hwc htc hsl HTL
  have HPD := Lib.hid (Blk.new w4 #[.slice none 0 0, .slice none 0 0] 63)
  have HG5 := Lib.hid (HG4.out.alloc (.cells #[.slice none 0 0, .slice none 0 0] 63))
  have HP5 := Lib.hid (HP4.out.gr ((Gr.refl w4).alloc (.cells #[.slice none 0 0, .slice none 0 0] 63)))
  have HPN := Lib.hid (show w.heap.size ≠ w4.heap.size by have := hp4.out; omega)
  have HPB := Lib.hid (show w.heap.size ≤ w4.heap.size by have := hp4.out; omega)
  go_wp2
  generalize w4.alloc (.cells #[.slice none 0 0, .slice none 0 0] 63) = w5 at *
  generalize w4.heap.size = pd at *
  generalize hpe : w.heap.size = p4 at *
  have HPE := Lib.hid hpe
  clear hpe HG4 HP4 hp4
  go_loopg [27] 2 (fun g u27 wr => ∃ (k : Nat) (x0 x1 : Value), g + k = 2 ∧ u27 = .int .i64 (k : Nat) ∧ Hid (Blk wr pd #[x0, x1] 63) ∧ Hid (Blk wr p4 #[.slice oa0 os0.length oc0, .slice oa1 os1.length oc1] 62) ∧ Hid (1 ≤ k → GotIs wr pd T x0) ∧ Hid (2 ≤ k → GotIs wr pd T x1) ∧ Hid (Gr w wr))
  case atStart => exact ⟨0, .slice none 0 0, .slice none 0 0, by omega, rfl, HPD, HP5, Lib.hid (fun h => absurd h (by omega)), Lib.hid (fun h => absurd h (by omega)), HG5⟩
  case round =>
    clear HPD HP5 HG5
    obtain ⟨k, x0, x1, hgk, rfl, HD, HP, HX0, HX1, HG⟩ := hrel
    obtain ⟨wq, hwq⟩ : ∃ wq, wq = wr := ⟨wr, rfl⟩
    rw [← hwq] at HD HP HX0 HX1 HG ⊢
    clear hwq wr
    by_cases hk0 : k = 0
    · subst hk0
      have p4k := HP.out.cell (i := 0) rfl
      go_wp2_with fail
      refine (lnNew_st 0 _).mono ?_
      rintro e w6 ⟨rfl, hA6, hg6⟩
      have HA6 := Lib.hid (show LnIs wq w6 wq.heap.size (.slice none 0 0) ⟨0, 0, []⟩ from hA6)
      have p4k := (HP.out.gr hg6).cell (i := 0) rfl
      have HN6 := Lib.hid hA6.lt
      clear hA6 hg6
      obtain ⟨O, hO⟩ : ∃ O, O = os0.take 120 := ⟨_, rfl⟩
      have HO := Lib.hid (hO ▸ HI0.out.take 120 : Ints w oa0 O)
      have HOL := Lib.hid (show O.length = min 120 os0.length by rw [hO, List.length_take])
      have hol : O.length ≤ 120 := by rw [HOL.out]; omega
      clear hO
      generalize hpb : wq.heap.size = pb at *
      have HPBW := Lib.hid hpb
      clear hpb
      go_upto_if 38 with fail
      go_cut [10] from 36 to 129 (fun u wx => u = .slice oa0 O.length oc0 ∧ wx = w6)
      case first =>
        by_cases h4 : 120 < os0.length
        · have h5 : (os0.length : Int) > 120 := by omega
          go_wp2
          go_meet
          exact ⟨by rw [HOL.out, Nat.min_eq_left (by omega)], rfl⟩
        · have h5 : ¬ (os0.length : Int) > 120 := by omega
          go_wp2
          go_meet
          exact ⟨by rw [HOL.out, Nat.min_eq_right (by omega)], rfl⟩
      case rest =>
      obtain ⟨rfl, hwc⟩ := hcut
      rw [hwc]
      clear hwc p4k HOL
      obtain ⟨w7, hmk, hR7, hg7⟩ := run_makeSlice_full (P := Try.prog) w6 pb 54 9 i0 (.string ⟨#[]⟩) 1 Try.underlying54 hi hz0 hz1 .i64 .i64 T.length (by omega) (by rw [hz2]; omega) (by unfold maxLen; omega) (by have := HN6.out; omega)
      have HR7 := Lib.hid (show w7.ownsRow pb 9 1 (.slice (some ⟨w6.heap.size, 0, none⟩) T.length T.length) T.length ((List.replicate T.length (⟨#[]⟩ : ByteArray)).map .string) by
        have e : (madeCells (Value.string ⟨#[]⟩).cells (T.length * 1)).toList = (List.replicate T.length (⟨#[]⟩ : ByteArray)).map .string := by
          rw [Nat.mul_one]
          exact (toList_madeCells_one (Value.string ⟨#[]⟩) T.length).trans (by simp)
        rw [e] at hR7
        exact hR7)
      have HA7 := Lib.hid (HA6.out.gr (gr_none hg7))
      have HGN := Lib.hid (show pb ≠ w6.heap.size by have := HN6.out; omega)
      have HGL := Lib.hid (show pb ≤ w6.heap.size by have := HN6.out; omega)
      clear hR7 hg7 HA6 HN6
      go_wp2
      generalize w6.heap.size = gg at *
      clear hmk
      go_loopw [46] (fun u46 wz => ∃ (j d : Nat) (a : Ln) (v : Value) (G : List ByteArray), j ≤ O.length ∧ u46 = .int .i64 (j : Nat) ∧ Hid (LnIs wq wz pb v a) ∧ Hid (a.Ok j) ∧ Hid (CInv T d a) ∧ Hid (GoodG T G) ∧ Hid (wz.ownsRow pb 9 1 (.slice (some ⟨gg, 0, none⟩) T.length T.length) T.length (G.map .string))) (fun u46 _ => O.length - (intOf u46).toNat)
      case atStart => exact ⟨0, 0, ⟨0, 0, []⟩, .slice none 0 0, _, by omega, rfl, HA7, Lib.hid (Ln.ok0 (by decide) (by decide)), Lib.hid (cinv0 T), Lib.hid (goodG0 T), HR7⟩
      case round =>
        clear HA7 HR7
        obtain ⟨j, d, a, v, G, hj, rfl, HA, HOK, HC, HGG, HR⟩ := hrel
        by_cases hlt : j < O.length
        · have hj4 : (j : Int) < (O.length : Int) := by omega
          obtain ⟨gb, go, rfl, hc⟩ := (HO.out.gr (HG.out.trans HA.out.grown)).at j hlt
          generalize O[j] = N at *
          by_cases hK0 : N < 0
          · go_wp2
            go_roundw
            case rel => exact ⟨j + 1, d, a, v, G, by omega, by go_num, HA, Lib.hid (HOK.out.mono (Nat.le_succ _)), HC, HGG, HR⟩
            case measure => simp [intOf]; omega
          · by_cases hK1 : (T.length : Int) ≤ N
            · have hK2 : N ≥ (T.length : Int) := hK1
              go_wp2
              go_roundw
              case rel => exact ⟨j + 1, d, a, v, G, by omega, by go_num, HA, Lib.hid (HOK.out.mono (Nat.le_succ _)), HC, HGG, HR⟩
              case measure => simp [intOf]; omega
            · obtain ⟨n, rfl⟩ := Int.eq_ofNat_of_zero_le (Int.not_lt.1 hK0)
              have hkT : n < T.length := by omega
              have hK2 : ¬ (n : Int) ≥ (T.length : Int) := hK1
              have hK3 : (n : Int) < (T.length : Int) := by omega
              have hw1 : IntKind.i64.wrap ((n : Int) + 1) = (n : Int) + 1 := by rw [IntKind.wrap_i64]; omega
              obtain ⟨gt, ot, rfl, ht⟩ := (HT0.out.gr (HG.out.trans HA.out.grown)).at n hkT
              have HLR := Lib.hid (HC.out.learnR htl hkT)
              have HC8 := Lib.hid (HC.out.learn hkT)
              have HOK8 := Lib.hid (HOK.out.learn ((n : Nat) + 1) (HTZ.out T[n] (List.getElem_mem _)))
              have HCL := Lib.hid (fun wz (h : LnIs wq wz pb v a) => learn_st ((n : Nat) + 1) T[n] wz h HOK.out (by omega) (by omega) (HTZ.out T[n] (List.getElem_mem _)))
              rw [HLR.out] at HCL
              clear HLR HC HOK hK0 hK1
              generalize a.learn ((n : Nat) + 1) T[n] = a8 at *
              go_wp2_with fail
              refine (HCL.out _ HA.out).mono ?_
              rintro e w8 ⟨rfl, v8, hA8, hF8, hV8⟩
              have HR8 := Lib.hid (ownsRow_far hF8 HR.out (row_off HA.out.blk HR.out (by decide)) (rows_apart HR.out HA.out.row (by decide)))
              have HA8 := Lib.hid hA8
              clear hA8 hF8 hV8 HA HCL HR ht hc
              go_wp2
              go_loopg [] (T.length - d) (fun g wz => ∃ (d : Nat) (a : Ln) (v : Value) (G : List ByteArray), g + d = T.length ∧ Hid (LnIs wq wz pb v a) ∧ Hid (a.Ok (j + 1)) ∧ Hid (CInv T d a) ∧ Hid (GoodG T G) ∧ Hid (wz.ownsRow pb 9 1 (.slice (some ⟨gg, 0, none⟩) T.length T.length) T.length (G.map .string)))
              case atStart => exact ⟨d, a8, v8, G, by have := HC8.out.dT; omega, HA8, HOK8, HC8, HGG, HR8⟩
              case round =>
                clear HA8 HOK8 HC8 HGG HR8
                obtain ⟨d, a, v, G, hgd, HA, HOK, HC, HGG, HR⟩ := hrel
                have HNS := Lib.hid (fun wz (h : LnIs wq wz pb v a) => next_st wz h HOK.out (by omega))
                cases hnb : a.nextB
                · have hst := HC.out.stay hnb
                  rw [hnb, hst] at HNS
                  clear hst hnb
                  generalize a.nextE = ne at *
                  obtain ⟨n1, n2, n3, n4⟩ := ne
                  simp only at HNS
                  go_wp2_with fail
                  refine (HNS.out _ HA.out).mono ?_
                  rintro e w9 ⟨rfl, v9, hA9, hF9, hV9⟩
                  have HGB := Lib.hid ((Gr.refl w9).alloc (.cells #[.int .i64 n1, .int .u64 n2, .int .i64 n3, .string n4] 44))
                  have HR9 := Lib.hid (ownsRow_gr HGB.out (ownsRow_far hF9 HR.out (row_off HA.out.blk HR.out (by decide)) (rows_apart HR.out HA.out.row (by decide))))
                  have HA9 := Lib.hid (hA9.gr HGB.out)
                  clear hA9 hF9 hV9 HA HNS HR HGB
                  have hDT := HC.out.dT
                  by_cases hm : (j : Int) % (1 + V) = 0
                  · go_wp2_with fail
                    refine (lnDone_any _ HA9.out).mono ?_
                    rintro e wx ⟨rfl, rfl⟩
                    have HLF := Lib.hid (lfold_any a.dn _ HA9.out (by have := HOK.out.len; omega))
                    have HOKF := Lib.hid (HOK.out.fold a.dn)
                    have HCF := Lib.hid (HC.out.fold a.dn)
                    generalize a.fold a.dn = af at *
                    go_wp2_with fail
                    refine HLF.out.mono ?_
                    rintro e w11 ⟨rfl, v11, hA11, hF11, hV11⟩
                    have HR11 := Lib.hid (ownsRow_far hF11 HR9.out (row_off HA9.out.blk HR9.out (by decide)) (rows_apart HR9.out HA9.out.row (by decide)))
                    have HA11 := Lib.hid hA11
                    clear hA11 hF11 hV11 HLF HA9 HR9
                    go_wp2
                    go_roundw
                    case rel => exact ⟨j + 1, d, af, v11, G, by omega, by go_num, HA11, HOKF, HCF, HGG, HR11⟩
                    case measure => simp [intOf]; omega
                  · go_wp2
                    go_roundw
                    case rel => exact ⟨j + 1, d, a, v9, G, by omega, by go_num, HA9, HOK, HC, HGG, HR9⟩
                    case measure => simp [intOf]; omega
                · obtain ⟨hdl, hne, hC9⟩ := HC.out.next hnb
                  rw [hnb, hne] at HNS
                  have HC9 := Lib.hid hC9
                  have HOK9 := Lib.hid (HOK.out.next (by have := HC.out.dn; omega))
                  have HGG9 := Lib.hid (goodG_set HGG.out d hdl)
                  have hGl := HGG.out.1
                  clear hnb hne hC9 HC HOK HGG
                  generalize a.next = a9 at *
                  simp only at HNS
                  go_wp2_with fail
                  refine (HNS.out _ HA.out).mono ?_
                  rintro e w9 ⟨rfl, v9, hA9, hF9, hV9⟩
                  have HRo := Lib.hid (ownsRow_far hF9 HR.out (row_off HA.out.blk HR.out (by decide)) (rows_apart HR.out HA.out.row (by decide)))
                  generalize T[d] = tx at *
                  have HGB := Lib.hid ((Gr.refl w9).alloc (.cells #[.int .i64 ((d : Nat) + 1), .int .u64 0, .int .i64 0, .string tx] 44))
                  have HR9 := Lib.hid (ownsRow_gr HGB.out HRo.out)
                  have HA9 := Lib.hid (hA9.gr HGB.out)
                  have HBX := Lib.hid (Blk.new w9 #[.int .i64 ((d : Nat) + 1), .int .u64 0, .int .i64 0, .string tx] 44)
                  obtain ⟨_, _, _, hv, _, _, _, _, _, _, _, hat, _, hfz⟩ := owns_open HR9.out (by omega)
                  simp only [Value.slice.injEq, Option.some.injEq, Addr.mk.injEq, and_true, true_and] at hv
                  obtain ⟨rfl, rfl⟩ := hv
                  have r0 := hat d (.string (G[d]'(by omega))) (by rw [List.getElem?_map, List.getElem?_eq_getElem (by omega)]; rfl)
                  have r1 := hfz d
                  have x0' := HBX.out.cell (i := 0) rfl
                  have x3' := HBX.out.cell (i := 3) rfl
                  have hd2 : (d : Int) < (T.length : Int) := by omega
                  have hw2 : IntKind.i64.wrap ((d : Int) + 1 - 1) = (d : Int) := by rw [IntKind.wrap_i64]; omega
                  have HNV := Lib.hid (show v9.ownBlock ≠ some gg from fun e => rows_apart HR9.out HA9.out.row (by decide) gg rfl e)
                  have HNB := Lib.hid (show gg ≠ pb from fun e => row_off HA9.out.blk HR9.out (by decide) (by rw [e]; rfl))
                  have HRS := Lib.hid (HR9.out.stored d (.string tx)).1
                  have HAS := Lib.hid (HA9.out.other (by rw [HPBW.out]; exact HGL.out) HNB.out HNV.out d (.string tx))
                  rw [← List.map_set] at HRS
                  clear hA9 hF9 hV9 HA HNS HR HRo HGB HR9 HA9 HBX hat hfz
                  go_wp2
                  go_roundg (T.length - (d + 1))
                  case measure => omega
                  case rel => exact ⟨d + 1, a9, v9, G.set d tx, by omega, HAS, HOK9, HC9, HGG9, HRS⟩
        · have hj4 : ¬ (j : Int) < (O.length : Int) := by omega
          have HGT := Lib.hid (show GotIs wr pd T (.slice (some ⟨gg, 0, none⟩) T.length T.length) from ⟨_, _, G, rfl, HGG.out, by
            by_cases h0 : T = []
            · exact .inl h0
            · obtain ⟨_, _, _, hv, _, _, _, _, _, _, _, hat, _, _⟩ := owns_open HR.out (List.length_pos_iff.2 h0)
              simp only [Value.slice.injEq, Option.some.injEq, Addr.mk.injEq, and_true, true_and] at hv
              obtain ⟨rfl, rfl⟩ := hv
              refine .inr ⟨gg, rfl, ?_, fun i hi => hat i _ (by rw [List.getElem?_map, List.getElem?_eq_getElem hi]; rfl)⟩
              have h1 := HD.out.lt
              have h2 := HPBW.out
              have h3 := HGL.out
              omega⟩)
          have HDr := Lib.hid (HD.out.gr HA.out.grown)
          have HPr := Lib.hid (HP.out.gr HA.out.grown)
          have HAr := Lib.hid (HA.out.weak HG.out)
          have HNV := Lib.hid (show v.ownBlock ≠ some pd from row_off HDr.out HA.out.row (by decide))
          have HNB := Lib.hid (show pd ≠ pb by have h1 := HD.out.lt; have h2 := HPBW.out; omega)
          have HAs := Lib.hid (HAr.out.other (by rw [HPE.out]; exact HPB.out) HNB.out HNV.out 0 (.slice (some ⟨gg, 0, none⟩) T.length T.length))
          have HDs := Lib.hid (HDr.out.set 0 (.slice (some ⟨gg, 0, none⟩) T.length T.length))
          have HPs := Lib.hid (HPr.out.other HPN.out 0 (.slice (some ⟨gg, 0, none⟩) T.length T.length))
          have d0 := HDr.out.cell (i := 0) rfl
          have f0 := HDr.out.free 0
          have HBD := Lib.hid (And.intro HOK.out.bd (And.intro HC.out.dn HC.out.dT))
          have hb1 : ¬ a.ba > a.dn := by have := HOK.out.bd; omega
          have hb2 : ¬ a.dn > (T.length : Int) := by have := HC.out.dn; have := HC.out.dT; omega
          have HBA := Lib.hid (fun wz (h : LnIs w wz pb v a) => lnBase_any wz h)
          have HDN := Lib.hid (fun wz (h : LnIs w wz pb v a) => lnDone_any wz h)
          generalize a.ba = xb at *
          generalize a.dn = xd at *
          have HGW := Lib.hid HA.out.grown
          clear HA HAr HDr HPr HR HGG HOK HC HBD
          go_wp2_with fail
          refine (HBA.out _ HAs.out).mono ?_
          rintro e wx ⟨rfl, rfl⟩
          go_wp2_with fail
          refine (HDN.out _ HAs.out).mono ?_
          rintro e wx ⟨rfl, rfl⟩
          go_wp2_with fail
          refine (HDN.out _ HAs.out).mono ?_
          rintro e wx ⟨rfl, rfl⟩
          go_wp2
          go_roundg (2 - (0 + 1))
          case measure => omega
          case rel => exact ⟨1, _, _, by omega, by go_num, HDs, HPs, Lib.hid (fun _ => HGT.out.set), Lib.hid (fun h => absurd h (by omega)), Lib.hid HAs.out.grown⟩
    · by_cases hk1 : k = 1
      · subst hk1
        have p4k := HP.out.cell (i := 1) rfl
        go_wp2_with fail
        refine (lnNew_st 0 _).mono ?_
        rintro e w6 ⟨rfl, hA6, hg6⟩
        have HA6 := Lib.hid (show LnIs wq w6 wq.heap.size (.slice none 0 0) ⟨0, 0, []⟩ from hA6)
        have p4k := (HP.out.gr hg6).cell (i := 1) rfl
        have HN6 := Lib.hid hA6.lt
        clear hA6 hg6
        obtain ⟨O, hO⟩ : ∃ O, O = os1.take 120 := ⟨_, rfl⟩
        have HO := Lib.hid (hO ▸ HI1.out.take 120 : Ints w oa1 O)
        have HOL := Lib.hid (show O.length = min 120 os1.length by rw [hO, List.length_take])
        have hol : O.length ≤ 120 := by rw [HOL.out]; omega
        clear hO
        generalize hpb : wq.heap.size = pb at *
        have HPBW := Lib.hid hpb
        clear hpb
        go_upto_if 38 with fail
        go_cut [10] from 36 to 129 (fun u wx => u = .slice oa1 O.length oc1 ∧ wx = w6)
        case first =>
          by_cases h4 : 120 < os1.length
          · have h5 : (os1.length : Int) > 120 := by omega
            go_wp2
            go_meet
            exact ⟨by rw [HOL.out, Nat.min_eq_left (by omega)], rfl⟩
          · have h5 : ¬ (os1.length : Int) > 120 := by omega
            go_wp2
            go_meet
            exact ⟨by rw [HOL.out, Nat.min_eq_right (by omega)], rfl⟩
        case rest =>
        obtain ⟨rfl, hwc⟩ := hcut
        rw [hwc]
        clear hwc p4k HOL
        obtain ⟨w7, hmk, hR7, hg7⟩ := run_makeSlice_full (P := Try.prog) w6 pb 54 9 i0 (.string ⟨#[]⟩) 1 Try.underlying54 hi hz0 hz1 .i64 .i64 T.length (by omega) (by rw [hz2]; omega) (by unfold maxLen; omega) (by have := HN6.out; omega)
        have HR7 := Lib.hid (show w7.ownsRow pb 9 1 (.slice (some ⟨w6.heap.size, 0, none⟩) T.length T.length) T.length ((List.replicate T.length (⟨#[]⟩ : ByteArray)).map .string) by
          have e : (madeCells (Value.string ⟨#[]⟩).cells (T.length * 1)).toList = (List.replicate T.length (⟨#[]⟩ : ByteArray)).map .string := by
            rw [Nat.mul_one]
            exact (toList_madeCells_one (Value.string ⟨#[]⟩) T.length).trans (by simp)
          rw [e] at hR7
          exact hR7)
        have HA7 := Lib.hid (HA6.out.gr (gr_none hg7))
        have HGN := Lib.hid (show pb ≠ w6.heap.size by have := HN6.out; omega)
        have HGL := Lib.hid (show pb ≤ w6.heap.size by have := HN6.out; omega)
        clear hR7 hg7 HA6 HN6
        go_wp2
        generalize w6.heap.size = gg at *
        clear hmk
        go_loopw [46] (fun u46 wz => ∃ (j d : Nat) (a : Ln) (v : Value) (G : List ByteArray), j ≤ O.length ∧ u46 = .int .i64 (j : Nat) ∧ Hid (LnIs wq wz pb v a) ∧ Hid (a.Ok j) ∧ Hid (CInv T d a) ∧ Hid (GoodG T G) ∧ Hid (wz.ownsRow pb 9 1 (.slice (some ⟨gg, 0, none⟩) T.length T.length) T.length (G.map .string))) (fun u46 _ => O.length - (intOf u46).toNat)
        case atStart => exact ⟨0, 0, ⟨0, 0, []⟩, .slice none 0 0, _, by omega, rfl, HA7, Lib.hid (Ln.ok0 (by decide) (by decide)), Lib.hid (cinv0 T), Lib.hid (goodG0 T), HR7⟩
        case round =>
          clear HA7 HR7
          obtain ⟨j, d, a, v, G, hj, rfl, HA, HOK, HC, HGG, HR⟩ := hrel
          by_cases hlt : j < O.length
          · have hj4 : (j : Int) < (O.length : Int) := by omega
            obtain ⟨gb, go, rfl, hc⟩ := (HO.out.gr (HG.out.trans HA.out.grown)).at j hlt
            generalize O[j] = N at *
            by_cases hK0 : N < 0
            · go_wp2
              go_roundw
              case rel => exact ⟨j + 1, d, a, v, G, by omega, by go_num, HA, Lib.hid (HOK.out.mono (Nat.le_succ _)), HC, HGG, HR⟩
              case measure => simp [intOf]; omega
            · by_cases hK1 : (T.length : Int) ≤ N
              · have hK2 : N ≥ (T.length : Int) := hK1
                go_wp2
                go_roundw
                case rel => exact ⟨j + 1, d, a, v, G, by omega, by go_num, HA, Lib.hid (HOK.out.mono (Nat.le_succ _)), HC, HGG, HR⟩
                case measure => simp [intOf]; omega
              · obtain ⟨n, rfl⟩ := Int.eq_ofNat_of_zero_le (Int.not_lt.1 hK0)
                have hkT : n < T.length := by omega
                have hK2 : ¬ (n : Int) ≥ (T.length : Int) := hK1
                have hK3 : (n : Int) < (T.length : Int) := by omega
                have hw1 : IntKind.i64.wrap ((n : Int) + 1) = (n : Int) + 1 := by rw [IntKind.wrap_i64]; omega
                obtain ⟨gt, ot, rfl, ht⟩ := (HT0.out.gr (HG.out.trans HA.out.grown)).at n hkT
                have HLR := Lib.hid (HC.out.learnR htl hkT)
                have HC8 := Lib.hid (HC.out.learn hkT)
                have HOK8 := Lib.hid (HOK.out.learn ((n : Nat) + 1) (HTZ.out T[n] (List.getElem_mem _)))
                have HCL := Lib.hid (fun wz (h : LnIs wq wz pb v a) => learn_st ((n : Nat) + 1) T[n] wz h HOK.out (by omega) (by omega) (HTZ.out T[n] (List.getElem_mem _)))
                rw [HLR.out] at HCL
                clear HLR HC HOK hK0 hK1
                generalize a.learn ((n : Nat) + 1) T[n] = a8 at *
                go_wp2_with fail
                refine (HCL.out _ HA.out).mono ?_
                rintro e w8 ⟨rfl, v8, hA8, hF8, hV8⟩
                have HR8 := Lib.hid (ownsRow_far hF8 HR.out (row_off HA.out.blk HR.out (by decide)) (rows_apart HR.out HA.out.row (by decide)))
                have HA8 := Lib.hid hA8
                clear hA8 hF8 hV8 HA HCL HR ht hc
                go_wp2
                go_loopg [] (T.length - d) (fun g wz => ∃ (d : Nat) (a : Ln) (v : Value) (G : List ByteArray), g + d = T.length ∧ Hid (LnIs wq wz pb v a) ∧ Hid (a.Ok (j + 1)) ∧ Hid (CInv T d a) ∧ Hid (GoodG T G) ∧ Hid (wz.ownsRow pb 9 1 (.slice (some ⟨gg, 0, none⟩) T.length T.length) T.length (G.map .string)))
                case atStart => exact ⟨d, a8, v8, G, by have := HC8.out.dT; omega, HA8, HOK8, HC8, HGG, HR8⟩
                case round =>
                  clear HA8 HOK8 HC8 HGG HR8
                  obtain ⟨d, a, v, G, hgd, HA, HOK, HC, HGG, HR⟩ := hrel
                  have HNS := Lib.hid (fun wz (h : LnIs wq wz pb v a) => next_st wz h HOK.out (by omega))
                  cases hnb : a.nextB
                  · have hst := HC.out.stay hnb
                    rw [hnb, hst] at HNS
                    clear hst hnb
                    generalize a.nextE = ne at *
                    obtain ⟨n1, n2, n3, n4⟩ := ne
                    simp only at HNS
                    go_wp2_with fail
                    refine (HNS.out _ HA.out).mono ?_
                    rintro e w9 ⟨rfl, v9, hA9, hF9, hV9⟩
                    have HGB := Lib.hid ((Gr.refl w9).alloc (.cells #[.int .i64 n1, .int .u64 n2, .int .i64 n3, .string n4] 44))
                    have HR9 := Lib.hid (ownsRow_gr HGB.out (ownsRow_far hF9 HR.out (row_off HA.out.blk HR.out (by decide)) (rows_apart HR.out HA.out.row (by decide))))
                    have HA9 := Lib.hid (hA9.gr HGB.out)
                    clear hA9 hF9 hV9 HA HNS HR HGB
                    have hDT := HC.out.dT
                    by_cases hm : (j : Int) % (1 + V) = 0
                    · go_wp2_with fail
                      refine (lnDone_any _ HA9.out).mono ?_
                      rintro e wx ⟨rfl, rfl⟩
                      have HDNE := Lib.hid HC.out.dn
                      by_cases hq : a.dn < (n : Int)
                      · have hw3 : IntKind.i64.wrap (a.dn + 1) = a.dn + 1 := by have := HDNE.out; rw [IntKind.wrap_i64]; omega
                        have HLF := Lib.hid (linstall_any (a.dn + 1) _ HA9.out (by have := HOK.out.len; omega))
                        have HOKF := Lib.hid (HOK.out.install (a.dn + 1) (by omega))
                        have HCF := Lib.hid (show CInv T (d + 1) (a.install (a.dn + 1)) by rw [HDNE.out]; exact HC.out.install (by have := HDNE.out; omega))
                        generalize a.install (a.dn + 1) = af at *
                        go_wp2_with fail
                        refine (lnDone_any _ HA9.out).mono ?_
                        rintro e wx ⟨rfl, rfl⟩
                        go_wp2_with fail
                        refine HLF.out.mono ?_
                        rintro e w11 ⟨rfl, v11, hA11, hF11, hV11⟩
                        have HR11 := Lib.hid (ownsRow_far hF11 HR9.out (row_off HA9.out.blk HR9.out (by decide)) (rows_apart HR9.out HA9.out.row (by decide)))
                        have HA11 := Lib.hid hA11
                        clear hA11 hF11 hV11 HLF HA9 HR9
                        go_wp2
                        go_roundw
                        case rel => exact ⟨j + 1, d + 1, af, v11, G, by omega, by go_num, HA11, HOKF, HCF, HGG, HR11⟩
                        case measure => simp [intOf]; omega
                      · go_wp2
                        go_roundw
                        case rel => exact ⟨j + 1, d, a, v9, G, by omega, by go_num, HA9, HOK, HC, HGG, HR9⟩
                        case measure => simp [intOf]; omega
                    · go_wp2
                      go_roundw
                      case rel => exact ⟨j + 1, d, a, v9, G, by omega, by go_num, HA9, HOK, HC, HGG, HR9⟩
                      case measure => simp [intOf]; omega
                  · obtain ⟨hdl, hne, hC9⟩ := HC.out.next hnb
                    rw [hnb, hne] at HNS
                    have HC9 := Lib.hid hC9
                    have HOK9 := Lib.hid (HOK.out.next (by have := HC.out.dn; omega))
                    have HGG9 := Lib.hid (goodG_set HGG.out d hdl)
                    have hGl := HGG.out.1
                    clear hnb hne hC9 HC HOK HGG
                    generalize a.next = a9 at *
                    simp only at HNS
                    go_wp2_with fail
                    refine (HNS.out _ HA.out).mono ?_
                    rintro e w9 ⟨rfl, v9, hA9, hF9, hV9⟩
                    have HRo := Lib.hid (ownsRow_far hF9 HR.out (row_off HA.out.blk HR.out (by decide)) (rows_apart HR.out HA.out.row (by decide)))
                    generalize T[d] = tx at *
                    have HGB := Lib.hid ((Gr.refl w9).alloc (.cells #[.int .i64 ((d : Nat) + 1), .int .u64 0, .int .i64 0, .string tx] 44))
                    have HR9 := Lib.hid (ownsRow_gr HGB.out HRo.out)
                    have HA9 := Lib.hid (hA9.gr HGB.out)
                    have HBX := Lib.hid (Blk.new w9 #[.int .i64 ((d : Nat) + 1), .int .u64 0, .int .i64 0, .string tx] 44)
                    obtain ⟨_, _, _, hv, _, _, _, _, _, _, _, hat, _, hfz⟩ := owns_open HR9.out (by omega)
                    simp only [Value.slice.injEq, Option.some.injEq, Addr.mk.injEq, and_true, true_and] at hv
                    obtain ⟨rfl, rfl⟩ := hv
                    have r0 := hat d (.string (G[d]'(by omega))) (by rw [List.getElem?_map, List.getElem?_eq_getElem (by omega)]; rfl)
                    have r1 := hfz d
                    have x0' := HBX.out.cell (i := 0) rfl
                    have x3' := HBX.out.cell (i := 3) rfl
                    have hd2 : (d : Int) < (T.length : Int) := by omega
                    have hw2 : IntKind.i64.wrap ((d : Int) + 1 - 1) = (d : Int) := by rw [IntKind.wrap_i64]; omega
                    have HNV := Lib.hid (show v9.ownBlock ≠ some gg from fun e => rows_apart HR9.out HA9.out.row (by decide) gg rfl e)
                    have HNB := Lib.hid (show gg ≠ pb from fun e => row_off HA9.out.blk HR9.out (by decide) (by rw [e]; rfl))
                    have HRS := Lib.hid (HR9.out.stored d (.string tx)).1
                    have HAS := Lib.hid (HA9.out.other (by rw [HPBW.out]; exact HGL.out) HNB.out HNV.out d (.string tx))
                    rw [← List.map_set] at HRS
                    clear hA9 hF9 hV9 HA HNS HR HRo HGB HR9 HA9 HBX hat hfz
                    go_wp2
                    go_roundg (T.length - (d + 1))
                    case measure => omega
                    case rel => exact ⟨d + 1, a9, v9, G.set d tx, by omega, HAS, HOK9, HC9, HGG9, HRS⟩
          · have hj4 : ¬ (j : Int) < (O.length : Int) := by omega
            have HGT := Lib.hid (show GotIs wr pd T (.slice (some ⟨gg, 0, none⟩) T.length T.length) from ⟨_, _, G, rfl, HGG.out, by
              by_cases h0 : T = []
              · exact .inl h0
              · obtain ⟨_, _, _, hv, _, _, _, _, _, _, _, hat, _, _⟩ := owns_open HR.out (List.length_pos_iff.2 h0)
                simp only [Value.slice.injEq, Option.some.injEq, Addr.mk.injEq, and_true, true_and] at hv
                obtain ⟨rfl, rfl⟩ := hv
                refine .inr ⟨gg, rfl, ?_, fun i hi => hat i _ (by rw [List.getElem?_map, List.getElem?_eq_getElem hi]; rfl)⟩
                have h1 := HD.out.lt
                have h2 := HPBW.out
                have h3 := HGL.out
                omega⟩)
            have HDr := Lib.hid (HD.out.gr HA.out.grown)
            have HPr := Lib.hid (HP.out.gr HA.out.grown)
            have HAr := Lib.hid (HA.out.weak HG.out)
            have HNV := Lib.hid (show v.ownBlock ≠ some pd from row_off HDr.out HA.out.row (by decide))
            have HNB := Lib.hid (show pd ≠ pb by have h1 := HD.out.lt; have h2 := HPBW.out; omega)
            have HAs := Lib.hid (HAr.out.other (by rw [HPE.out]; exact HPB.out) HNB.out HNV.out 1 (.slice (some ⟨gg, 0, none⟩) T.length T.length))
            have HDs := Lib.hid (HDr.out.set 1 (.slice (some ⟨gg, 0, none⟩) T.length T.length))
            have HPs := Lib.hid (HPr.out.other HPN.out 1 (.slice (some ⟨gg, 0, none⟩) T.length T.length))
            have d0 := HDr.out.cell (i := 1) rfl
            have f0 := HDr.out.free 1
            have HBD := Lib.hid (And.intro HOK.out.bd (And.intro HC.out.dn HC.out.dT))
            have hb1 : ¬ a.ba > a.dn := by have := HOK.out.bd; omega
            have hb2 : ¬ a.dn > (T.length : Int) := by have := HC.out.dn; have := HC.out.dT; omega
            have HBA := Lib.hid (fun wz (h : LnIs w wz pb v a) => lnBase_any wz h)
            have HDN := Lib.hid (fun wz (h : LnIs w wz pb v a) => lnDone_any wz h)
            generalize a.ba = xb at *
            generalize a.dn = xd at *
            have HGW := Lib.hid HA.out.grown
            clear HA HAr HDr HPr HR HGG HOK HC HBD
            go_wp2_with fail
            refine (HBA.out _ HAs.out).mono ?_
            rintro e wx ⟨rfl, rfl⟩
            go_wp2_with fail
            refine (HDN.out _ HAs.out).mono ?_
            rintro e wx ⟨rfl, rfl⟩
            go_wp2_with fail
            refine (HDN.out _ HAs.out).mono ?_
            rintro e wx ⟨rfl, rfl⟩
            go_wp2
            go_roundg (2 - (1 + 1))
            case measure => omega
            case rel => exact ⟨2, _, _, by omega, by go_num, HDs, HPs, Lib.hid (fun _ => ((HX0.out (by omega)).gr HGW.out).set), Lib.hid (fun _ => HGT.out.set), Lib.hid HAs.out.grown⟩
      · obtain rfl : k = 2 := by omega
        clear hk0 hk1
        have HX0 := Lib.hid (HX0.out (by omega))
        have HX1 := Lib.hid (HX1.out (by omega))
        have HTW := Lib.hid (HT0.out.gr HG.out)
        have e0 := HD.out.cell (i := 0) rfl
        have e1 := HD.out.cell (i := 1) rfl
        go_wp2
        go_loopw [132] (fun u132 wz => ∃ i : Nat, i ≤ T.length ∧ u132 = .int .i64 (i : Nat) ∧ wz = wq) (fun u132 _ => T.length - (intOf u132).toNat)
        case atStart => exact ⟨0, by omega, rfl, rfl⟩
        case round =>
          obtain ⟨i, hi2, rfl, hwz⟩ := hrel
          rw [hwz]
          clear hwz
          by_cases hlt : i < T.length
          · have hi4 : (i : Int) < (T.length : Int) := by omega
            obtain ⟨gt, ot, rfl, ht⟩ := HTW.out.at i hlt
            have HTN := Lib.hid (show T ≠ [] from fun e => by rw [e] at hlt; simp at hlt)
            obtain ⟨a0, c0, G0, rfl, hG0, hq0⟩ := HX0.out
            obtain ⟨g0, rfl, _, hc0⟩ := hq0.resolve_left HTN.out
            obtain ⟨a1, c1, G1, rfl, hG1, hq1⟩ := HX1.out
            obtain ⟨g1, rfl, _, hc1⟩ := hq1.resolve_left HTN.out
            have l0 := hG0.1
            have l1 := hG1.1
            have z0 := hc0 i (by omega)
            have z1 := hc1 i (by omega)
            have y0 := hG0.2 i (by omega) hlt
            have y1 := hG1.2 i (by omega) hlt
            generalize T[i] = tx at *
            generalize G0[i]'(by omega) = q0 at *
            generalize G1[i]'(by omega) = q1 at *
            clear hc0 hc1 hG0 hG1 hq0 hq1 HX0 HX1
            have htt : (tx.toList == tx.toList) = true := by simp
            have HTR := Lib.hid (show (i : Int) + 1 = ((i + 1 : Nat) : Int) by omega)
            go_wp2
            go_loopw [137] (fun u137 wz => ∃ k : Nat, k ≤ 2 ∧ u137 = .int .i64 (k : Nat) ∧ wz = wq) (fun u137 _ => 2 - (intOf u137).toNat)
            case atStart => exact ⟨0, by omega, rfl, rfl⟩
            case round =>
              obtain ⟨k, hk2, rfl, hwz⟩ := hrel
              rw [hwz]
              clear hwz
              by_cases hk0 : k = 0
              · subst hk0
                rcases y0 with rfl | rfl
                · go_wp2
                  go_roundw
                  case rel => exact ⟨1, by omega, by go_num, by first | rfl | trivial⟩
                  case measure => simp [intOf]
                · by_cases hte : q0.toList = []
                  · have hte2 : (q0.toList == (⟨#[]⟩ : ByteArray).toList) = true := by rw [hte]; simp
                    go_wp2
                    go_roundw
                    case rel => exact ⟨1, by omega, by go_num, by first | rfl | trivial⟩
                    case measure => simp [intOf]
                  · have hte2 : (q0.toList == (⟨#[]⟩ : ByteArray).toList) = false := by simpa using hte
                    go_wp2
                    go_roundw
                    case rel => (repeat apply Exists.intro); exact ⟨⟨1, by omega, by go_num, trivial⟩, rfl⟩
                    case measure => simp [intOf]
              · by_cases hk1 : k = 1
                · subst hk1
                  rcases y1 with rfl | rfl
                  · go_wp2
                    go_roundw
                    case rel => exact ⟨2, by omega, by go_num, by first | rfl | trivial⟩
                    case measure => simp [intOf]
                  · by_cases hte : q1.toList = []
                    · have hte2 : (q1.toList == (⟨#[]⟩ : ByteArray).toList) = true := by rw [hte]; simp
                      go_wp2
                      go_roundw
                      case rel => exact ⟨2, by omega, by go_num, by first | rfl | trivial⟩
                      case measure => simp [intOf]
                    · have hte2 : (q1.toList == (⟨#[]⟩ : ByteArray).toList) = false := by simpa using hte
                      go_wp2
                      go_roundw
                      case rel => (repeat apply Exists.intro); exact ⟨⟨2, by omega, by go_num, trivial⟩, rfl⟩
                      case measure => simp [intOf]
                · obtain rfl : k = 2 := by omega
                  go_wp2
                  go_roundw
                  case rel => exact ⟨i + 1, by omega, by go_num, by first | rfl | trivial⟩
                  case measure => simp [intOf]; omega
          · have hi4 : ¬ (i : Int) < (T.length : Int) := by omega
            go_wp2
            go_ret
            exact ⟨rfl, HG.out⟩
end Go.Proofs.Ytnanclgnjchpeaa
