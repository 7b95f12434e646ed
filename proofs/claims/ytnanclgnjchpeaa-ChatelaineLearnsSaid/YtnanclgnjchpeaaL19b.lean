import Derived.Test.YtnanclgnjchpeaaL19
import Derived.Test.YtnanclgnjchpeaaM19
import Derived.Test.YtnanclgnjchpeaaC02
import Derived.WalkKit
import Derived.ProofKit
import Derived.LoopTactic
import Derived.Outline
import Derived.WalkSpells
import Derived.WalkLawsBesides
import Derived.Lib.Hide
import Derived.Deep.LoopGhost
import Derived.Deep.QuietTactic
import Derived.BigQuiet
import Derived.ShutString
import Derived.IntWalk
import Derived.BigQuiet
import Derived.ArgAppend
import Derived.Deep.Cut
import Derived.Deep.CutRange
import Derived.Deep.CutBlock
namespace Go.Proofs.Ytnanclgnjchpeaa
open Go.ChangeShapes Go.WideShapes Go.ChangeAt Go.RowKit
open Bal
set_option linter.unusedVariables false
set_option linter.unusedSimpArgs false
theorem Strs.take {w : World} {a : Option Addr} {l : List ByteArray} (h : Strs w a l) (n : Nat) : Strs w a (l.take n) := by
  obtain ⟨h1, h2, h3⟩ := h
  refine ⟨fun x hx => h1 x (List.mem_of_mem_take hx), by simp; omega, ?_⟩
  rcases h3 with rfl | ⟨b, off, rfl, hc⟩
  · exact .inl (by simp)
  · refine .inr ⟨b, off, rfl, fun i hi => ?_⟩
    have hi' : i < l.length := by simp at hi; omega
    rw [List.getElem_take]; exact hc i hi'
theorem Ints.at {w : World} {a : Option Addr} {l : List Int} (h : Ints w a l) (i : Nat) (hi : i < l.length) : ∃ b off, a = some ⟨b, off, none⟩ ∧ w.cell? ⟨b, off + i, none⟩ = some (.int .i64 l[i]) := by
  rcases h.2.2 with rfl | ⟨b, off, rfl, hc⟩
  · simp at hi
  · exact ⟨b, off, rfl, hc i hi⟩
def upto (k : Nat) : List Int := (List.range k).map fun i => ((i : Nat) : Int)
theorem upto_len (k : Nat) : (upto k).length = k := by simp [upto]
theorem upto_succ (k : Nat) : upto (k + 1) = upto k ++ [((k : Nat) : Int)] := by simp [upto, List.range_succ]
theorem info_int3 : (Try.prog.info? 3).map (fun i => (i.zero, i.size, i.bytes)) = some (some (.int .i64 0), 1, 8) := by kernel_rfl
/-- Texts that lie aside of a learner. -/
def StrsA (w : World) (b : Nat) (v : Value) (a : Option Addr) (ss : List ByteArray) : Prop := Strs w a ss ∧ (ss = [] ∨ ∃ g o, a = some ⟨g, o, none⟩ ∧ g ≠ b ∧ v.ownBlock ≠ some g)
def IntsA (w : World) (b : Nat) (v : Value) (a : Option Addr) (ss : List Int) : Prop := Ints w a ss ∧ (ss = [] ∨ ∃ g o, a = some ⟨g, o, none⟩ ∧ g ≠ b ∧ v.ownBlock ≠ some g)
theorem StrsA.gr {w w' : World} {b : Nat} {v : Value} {a : Option Addr} {ss : List ByteArray} (h : StrsA w b v a ss) (hg : Gr w w') : StrsA w' b v a ss := ⟨h.1.gr hg, h.2⟩
theorem IntsA.gr {w w' : World} {b : Nat} {v : Value} {a : Option Addr} {ss : List Int} (h : IntsA w b v a ss) (hg : Gr w w') : IntsA w' b v a ss := ⟨h.1.gr hg, h.2⟩
theorem StrsA.step {w w' : World} {b : Nat} {v v' : Value} {a : Option Addr} {ss : List ByteArray} (h : StrsA w b v a ss) (hf : Far b v w w') (hv : From v w v') : StrsA w' b v' a ss := by
  obtain ⟨⟨h1, h2, h3⟩, h4⟩ := h
  rcases h4 with rfl | ⟨g, o, rfl, hb, hn⟩
  · exact ⟨⟨h1, h2, .inl rfl⟩, .inl rfl⟩
  · rcases h3 with rfl | ⟨g', o', he, hc⟩
    · exact ⟨⟨h1, h2, .inl rfl⟩, .inl rfl⟩
    · simp only [Option.some.injEq, Addr.mk.injEq, and_true] at he
      obtain ⟨rfl, rfl⟩ := he
      refine ⟨⟨h1, h2, .inr ⟨g, o, rfl, fun i hi => hf.cell hb hn (hc i hi)⟩⟩, ?_⟩
      by_cases e : ss = []
      · exact .inl e
      · refine .inr ⟨g, o, rfl, hb, fun e2 => ?_⟩
        rcases hv _ e2 with h | h
        · exact hn h
        · have := cell_lt (hc 0 (List.length_pos_iff.2 e)); have : g < w.heap.size := this; omega
theorem IntsA.step {w w' : World} {b : Nat} {v v' : Value} {a : Option Addr} {ss : List Int} (h : IntsA w b v a ss) (hf : Far b v w w') (hv : From v w v') : IntsA w' b v' a ss := by
  obtain ⟨⟨h1, h2, h3⟩, h4⟩ := h
  rcases h4 with rfl | ⟨g, o, rfl, hb, hn⟩
  · exact ⟨⟨h1, h2, .inl rfl⟩, .inl rfl⟩
  · rcases h3 with rfl | ⟨g', o', he, hc⟩
    · exact ⟨⟨h1, h2, .inl rfl⟩, .inl rfl⟩
    · simp only [Option.some.injEq, Addr.mk.injEq, and_true] at he
      obtain ⟨rfl, rfl⟩ := he
      refine ⟨⟨h1, h2, .inr ⟨g, o, rfl, fun i hi => hf.cell hb hn (hc i hi)⟩⟩, ?_⟩
      by_cases e : ss = []
      · exact .inl e
      · refine .inr ⟨g, o, rfl, hb, fun e2 => ?_⟩
        rcases hv _ e2 with h | h
        · exact hn h
        · have := cell_lt (hc 0 (List.length_pos_iff.2 e)); have : g < w.heap.size := this; omega
theorem StrsA.arg {w w2 : World} {b : Nat} {a : Option Addr} {ss : List ByteArray} (h : Strs w a ss) (hg : Gr w w2) (hb : w.heap.size ≤ b) : StrsA w2 b (.slice none 0 0) a ss := by
  refine ⟨h.gr hg, ?_⟩
  rcases h.2.2 with rfl | ⟨g, o, rfl, hc⟩
  · exact .inl rfl
  · by_cases e : ss = []
    · exact .inl e
    · have := cell_lt (hc 0 (List.length_pos_iff.2 e))
      have : g < w.heap.size := this
      exact .inr ⟨g, o, rfl, by omega, by simp [Value.ownBlock]⟩
theorem IntsA.arg {w w2 : World} {b : Nat} {a : Option Addr} {ss : List Int} (h : Ints w a ss) (hg : Gr w w2) (hb : w.heap.size ≤ b) : IntsA w2 b (.slice none 0 0) a ss := by
  refine ⟨h.gr hg, ?_⟩
  rcases h.2.2 with rfl | ⟨g, o, rfl, hc⟩
  · exact .inl rfl
  · by_cases e : ss = []
    · exact .inl e
    · have := cell_lt (hc 0 (List.length_pos_iff.2 e))
      have : g < w.heap.size := this
      exact .inr ⟨g, o, rfl, by omega, by simp [Value.ownBlock]⟩
theorem gr_none {w w' : World} (h : w.grownBy w' none) : Gr w w' := ⟨h.os, h.tape, h.output, h.size, fun k hk => h.block k hk (by simp)⟩
theorem wf_i64 (n : Nat) (h2 : n ≤ 100) : (Lit.int .i64 (n : Int)).wf = true := by
  simp [Lit.wf, IntKind.min, IntKind.max, IntKind.signed, IntKind.bits]
  omega
set_option maxRecDepth 100000 in
set_option maxHeartbeats 4000000 in
theorem order_walk19 (B0 : Int) (ss : List ByteArray) (ta : Option Addr) (tc : Nat) (os : List Int) (oa : Option Addr) (oc : Nat) (w : World) (hs : Strs w ta ss) (htc : ss.length ≤ tc) (hsz : ∀ s ∈ ss, s.size ≤ 281474976710656) (ho : Ints w oa os) (hoc : os.length ≤ oc) :
    Calls Try.prog 4 #[.int .i64 B0, .slice ta ss.length tc, .slice oa os.length oc] w fun e w' => e = .returned (.bool true) ∧ Gr w w' := by
  obtain ⟨i0, hi, hz0, hz1, hz2⟩ := info_parts info_int3
  obtain ⟨B, hB⟩ : ∃ B, max 0 (min B0 1000) = B := ⟨_, rfl⟩
  have hB0 : 0 ≤ B ∧ B ≤ 1000 := by omega
  have HB2 := Lib.hid (show max B 0 = B by omega)
  have hsl := hs.2.1
  have hol := ho.1
  obtain ⟨T, hT⟩ : ∃ T, T = ss.take 40 := ⟨_, rfl⟩
  obtain ⟨O, hO⟩ : ∃ O, O = os.take 200 := ⟨_, rfl⟩
  have HT0 := Lib.hid (hT ▸ hs.take 40 : Strs w ta T)
  have HTZ := Lib.hid (show ∀ s ∈ T, s.size ≤ 281474976710656 from fun s h => hsz s (List.mem_of_mem_take (hT ▸ h)))
  have HO0 := Lib.hid (hO ▸ ho.take 200 : Ints w oa O)
  have HTL := Lib.hid (show T.length = min 40 ss.length by rw [hT, List.length_take])
  have HOL := Lib.hid (show O.length = min 200 os.length by rw [hO, List.length_take])
  have htl : T.length ≤ 40 := by rw [HTL.out]; omega
  have hool : O.length ≤ 200 := by rw [HOL.out]; omega
  have hoc2 : O.length ≤ oc := by rw [HOL.out]; omega
  clear hs ho hsz hT hO
  go_enter Try.func4, Try.ntmps4
  go_wp2_with fail
  refine (awake19 _).mono ?_
  rintro e w1 ⟨rfl, hg1⟩
  have HG1 := Lib.hid hg1
  clear hg1
  go_wp2_with fail
  refine (lnNew_st B _).mono ?_
  rintro e w2 ⟨rfl, hA2, hg2⟩
  rw [HB2.out] at hA2
  have HA2 := Lib.hid hA2
  clear hA2
  have HG2 := Lib.hid (HG1.out.trans hg2)
  have hpb : Hid (w.heap.size ≤ w1.heap.size) := Lib.hid HG1.out.size
  have hpl : Hid (w1.heap.size < w2.heap.size) := Lib.hid HA2.out.lt
  clear hg2
  generalize hpq : w1.heap.size = pb at *
  have HPQ := Lib.hid hpq
  clear hpq
  go_upto_if 27 with fail
  go_cut [1] from 25 (fun u wx => u = .slice ta T.length tc ∧ wx = w2)
  case first =>
    by_cases h4 : 40 < ss.length
    · have h5 : (ss.length : Int) > 40 := by omega
      go_wp2
      go_meet
      exact ⟨by rw [HTL.out, Nat.min_eq_left (by omega)], rfl⟩
    · have h5 : ¬ (ss.length : Int) > 40 := by omega
      go_wp2
      go_meet
      exact ⟨by rw [HTL.out, Nat.min_eq_right (by omega)], rfl⟩
  case rest =>
  obtain ⟨rfl, hwc⟩ := hcut
  rw [hwc]
  clear hwc
  go_upto_if 32 with fail
  go_cut [2] from 25 (fun u wx => u = .slice oa O.length oc ∧ wx = w2)
  case first =>
    by_cases h4 : 200 < os.length
    · have h5 : (os.length : Int) > 200 := by omega
      go_wp2
      go_meet
      exact ⟨by rw [HOL.out, Nat.min_eq_left (by omega)], rfl⟩
    · have h5 : ¬ (os.length : Int) > 200 := by omega
      go_wp2
      go_meet
      exact ⟨by rw [HOL.out, Nat.min_eq_right (by omega)], rfl⟩
  case rest =>
  obtain ⟨rfl, hwc⟩ := hcut
  rw [hwc]
  clear hwc
  have HT := Lib.hid (StrsA.arg (b := pb) HT0.out HG2.out hpb.out)
  have HOO := Lib.hid (IntsA.arg (b := pb) HO0.out HG2.out hpb.out)
  clear HT0 HO0 HTL HOL htc hoc hsl hol
  go_wp2
  go_loopw [2, 8, 37] (fun u2 u8 u37 wr => ∃ (k : Nat) (xa : Option Addr) (xc : Nat), k ≤ T.length ∧ u37 = .int .i64 (k : Nat) ∧ u2 = .slice xa (O ++ upto k).length xc ∧ (O ++ upto k).length ≤ xc ∧ Hid (IntsA wr pb (.slice none 0 0) xa (O ++ upto k)) ∧ Hid (Gr w2 wr)) (fun _ _ u37 _ => T.length - (intOf u37).toNat)
  case atStart => exact ⟨0, oa, oc, by omega, rfl, by simp [upto], by simpa [upto] using hoc2, by simpa [upto] using HOO, Lib.hid (Gr.refl _)⟩
  case round =>
    obtain ⟨k, xa, xc, hk, rfl, rfl, hxc, HX, HG3⟩ := hrel
    by_cases hlt : k < T.length
    · have hk4 : (k : Int) < (T.length : Int) := by omega
      have Hsn := Lib.hid (show O ++ upto (k + 1) = (O ++ upto k) ++ [((k : Nat) : Int)] by rw [upto_succ, List.append_assoc])
      have hlen : (O ++ upto k).length ≤ 240 := by rw [List.length_append, upto_len]; omega
      clear HOO
      generalize O ++ upto k = M at *
      go_wp2_with (at_builtin; refine wpList_append_grows _ rfl (.tmp 45) (.tmp 47) 55 rfl 3 i0 (.int .i64 0) 1 8 Try.underlying55 hi hz0 hz1 hz2 rfl (by decide) xa M.length M.length (M.map (.int .i64)) rfl ?g1 (by simp) ?g2 ⟨wr.heap.size, 0, none⟩ 1 1 [.int .i64 (k : Nat)] rfl rfl ?g3 ?g4 (by omega) ?g5 ?g6 ?_)
      case g1 => rintro rfl; have := HX.out.1.2.2; rcases this with h | ⟨_, _, h, _⟩ <;> simp_all
      case g2 =>
        intro b hb j u hj
        obtain ⟨bb, off, he, hc⟩ := HX.out.1.2.2.resolve_left (by rintro rfl; simp at hj)
        rw [hb] at he
        obtain rfl := Option.some.inj he
        rw [addr_add]
        have hj2 : j < M.length := by have := (List.getElem?_eq_some_iff.1 hj).1; simpa using this
        rw [List.getElem?_map, List.getElem?_eq_getElem hj2] at hj
        obtain rfl := Option.some.inj hj
        exact ((Gr.refl wr).alloc _).cell (hc j hj2)
      case g3 =>
        intro j u hj
        have hj2 := (List.getElem?_eq_some_iff.1 hj).1
        obtain rfl : j = 0 := by simpa using hj2
        rw [addr_add, Nat.zero_add]
        exact (Blk.new wr #[.int .i64 (k : Nat)] _).cell (by simpa using hj)
      case g4 => intro u hu; simp at hu; subst hu; rfl
      case g5 => unfold maxLen; omega
      case g6 => omega
      · intro v' w3 hown hgrow
        have hG3 : Gr w2 w3 := (HG3.out.alloc (.cells #[.int .i64 (k : Nat)] 3)).trans (gr_none hgrow)
        obtain ⟨g, cap, cur, hv, hbg, _, _, hnc, _, _, _, hat, _⟩ := owns_open hown (by omega)
        subst hv
        have HGP := Lib.hid (show g ≠ pb by have h1 := hpl.out; have h2 := HG3.out.size; have h3 : wr.heap.size ≤ (wr.alloc (.cells #[.int .i64 (k : Nat)] 3)).heap.size := ((Gr.refl wr).alloc _).size; omega)
        have HI3 := Lib.hid (show IntsA w3 pb (.slice none 0 0) (some ⟨g, 0, none⟩) (M ++ [((k : Nat) : Int)]) from ⟨⟨by rw [List.length_append]; simp; omega, fun n hn => by
          rcases List.mem_append.1 hn with h | h
          · exact HX.out.1.2.1 n h
          · obtain rfl := List.mem_singleton.1 h
            exact wf_i64 k (by omega), .inr ⟨g, 0, rfl, fun i hi2 => by
            rw [Nat.zero_add]
            refine hat i _ ?_
            rw [show M.map (Value.int .i64) ++ [.int .i64 ((k : Nat) : Int)] = (M ++ [((k : Nat) : Int)]).map (Value.int .i64) by simp, List.getElem?_map, List.getElem?_eq_getElem hi2]
            rfl⟩⟩, .inr ⟨g, 0, rfl, HGP.out, by simp [Value.ownBlock]⟩⟩)
        have HG4 := Lib.hid hG3
        have hl2 : M.length + 1 = (M ++ [((k : Nat) : Int)]).length := by simp
        rw [← Hsn.out] at HI3 hl2
        clear hown hgrow hG3 hat
        go_wp2
        go_roundw
        case rel => exact ⟨k + 1, some ⟨g, 0, none⟩, cap, by omega, by go_num, by rw [← hl2], by rw [← hl2]; exact hnc, HI3, HG4⟩
        case measure => simp [intOf]; omega
    · have hk4 : ¬ (k : Int) < (T.length : Int) := by omega
      obtain rfl : k = T.length := by omega
      have HM := Lib.hid (show ∀ n : Nat, n < T.length → ((n : Nat) : Int) ∈ O ++ upto T.length from fun n hn => List.mem_append.2 (.inr (List.mem_map.2 ⟨n, List.mem_range.2 hn, rfl⟩)))
      have hml : (O ++ upto T.length).length ≤ 240 := by rw [List.length_append, upto_len]; omega
      clear HOO hk4 hxc
      generalize O ++ upto T.length = M at *
      have HA3 := Lib.hid (HA2.out.gr HG3.out)
      have HT3 := Lib.hid (HT.out.gr HG3.out)
      clear HA2 HT hk
      go_wp2
      go_loopw [9, 52] (fun u9 u52 wz => ∃ (j d : Nat) (a : Ln) (v : Value), j ≤ M.length ∧ u9 = .int .i64 (d : Nat) ∧ u52 = .int .i64 (j : Nat) ∧ Hid (LnIs w1 wz pb v a) ∧ Hid (a.Ok j) ∧ Hid (LInv B T d a) ∧ Hid (∀ n : Nat, n < T.length → ((n : Nat) : Int) ∈ M.take j → hasE a.L (B + 1 + (n : Nat)) = true) ∧ Hid (hasE a.L (B + 1 + (d : Nat)) = false) ∧ Hid (StrsA wz pb v ta T) ∧ Hid (IntsA wz pb v xa M)) (fun _ u52 _ => M.length - (intOf u52).toNat)
      case atStart => exact ⟨0, 0, ⟨B, B, []⟩, .slice none 0 0, by omega, rfl, rfl, HA3, Lib.hid (Ln.ok0 hB0.1 (by omega)), Lib.hid (linv0 T), Lib.hid (by simp), Lib.hid rfl, HT3, HX⟩
      case round =>
        clear HA3 HT3 HX HG3
        obtain ⟨j, d, a, v, hj, rfl, rfl, HA, HOK, HI, HKN, HNX, HT, HX⟩ := hrel
        by_cases hlt : j < M.length
        · have hj4 : (j : Int) < (M.length : Int) := by omega
          obtain ⟨gb, go, rfl, hc⟩ := HX.out.1.at j hlt
          have HTK := Lib.hid (List.take_succ_eq_append_getElem hlt)
          generalize M[j] = K at *
          by_cases hK0 : K < 0
          · have HKN2 := Lib.hid (show ∀ n : Nat, n < T.length → ((n : Nat) : Int) ∈ M.take (j + 1) → hasE a.L (B + 1 + (n : Nat)) = true from fun n hn hm => by
              rw [HTK.out] at hm
              rcases List.mem_append.1 hm with h | h
              · exact HKN.out n hn h
              · have := List.mem_singleton.1 h; omega)
            go_wp2
            go_roundw
            case rel => exact ⟨j + 1, d, a, v, by omega, rfl, by go_num, HA, Lib.hid (HOK.out.mono (Nat.le_succ _)), HI, HKN2, HNX, HT, HX⟩
            case measure => simp [intOf]; omega
          · by_cases hK1 : (T.length : Int) ≤ K
            · have hK2 : K ≥ (T.length : Int) := hK1
              have HKN2 := Lib.hid (show ∀ n : Nat, n < T.length → ((n : Nat) : Int) ∈ M.take (j + 1) → hasE a.L (B + 1 + (n : Nat)) = true from fun n hn hm => by
                rw [HTK.out] at hm
                rcases List.mem_append.1 hm with h | h
                · exact HKN.out n hn h
                · have := List.mem_singleton.1 h; omega)
              go_wp2
              go_roundw
              case rel => exact ⟨j + 1, d, a, v, by omega, rfl, by go_num, HA, Lib.hid (HOK.out.mono (Nat.le_succ _)), HI, HKN2, HNX, HT, HX⟩
              case measure => simp [intOf]; omega
            · obtain ⟨k, rfl⟩ := Int.eq_ofNat_of_zero_le (Int.not_lt.1 hK0)
              have hkT : k < T.length := by omega
              have hK2 : ¬ (k : Int) ≥ (T.length : Int) := hK1
              have hK3 : (k : Int) < (T.length : Int) := by omega
              have hw1 : IntKind.i64.wrap (B + 1) = B + 1 := by rw [IntKind.wrap_i64]; omega
              have hw2 : IntKind.i64.wrap (B + 1 + (k : Int)) = B + 1 + (k : Int) := by rw [IntKind.wrap_i64]; omega
              obtain ⟨gt, ot, rfl, ht⟩ := HT.out.1.at k hkT
              have HLR := Lib.hid (HI.out.learnR htl hkT)
              obtain ⟨hI4, hh4⟩ := HI.out.learn htl hkT
              have HI4 := Lib.hid hI4
              have HOK4 := Lib.hid (HOK.out.learn (B + 1 + (k : Nat)) (HTZ.out T[k] (List.getElem_mem _)))
              have HKN4 := Lib.hid (show ∀ n : Nat, n < T.length → ((n : Nat) : Int) ∈ M.take (j + 1) → hasE (a.learn (B + 1 + (k : Nat)) T[k]).L (B + 1 + (n : Nat)) = true from fun n hn hm => by
                rw [HTK.out] at hm
                rw [hh4]
                rcases List.mem_append.1 hm with h | h
                · rw [HKN.out n hn h, Bool.or_true]
                · have := List.mem_singleton.1 h
                  rw [decide_eq_true (by omega), Bool.true_or])
              have HC := Lib.hid (fun wz (h : LnIs w1 wz pb v a) => learn_st (B + 1 + (k : Nat)) T[k] wz h HOK.out (by omega) (by omega) (HTZ.out T[k] (List.getElem_mem _)))
              rw [HLR.out] at HC
              clear hI4 hh4 HLR HI HOK HKN HTK hK0 hK1
              generalize a.learn (B + 1 + (k : Nat)) T[k] = a4 at *
              go_wp2_with fail
              refine (HC.out _ HA.out).mono ?_
              rintro e w4 ⟨rfl, v4, hA4, hF4, hV4⟩
              have HA4 := Lib.hid hA4
              have HT4 := Lib.hid (HT.out.step hF4 hV4)
              have HX4 := Lib.hid (HX.out.step hF4 hV4)
              clear hA4 hF4 hV4 HA HC HT HX ht hc
              go_wp2
              go_loopw [9] (fun u9 wz => ∃ (d : Nat) (a : Ln) (v : Value), u9 = .int .i64 (d : Nat) ∧ d ≤ T.length ∧ Hid (LnIs w1 wz pb v a) ∧ Hid (a.Ok (j + 1)) ∧ Hid (LInv B T d a) ∧ Hid (∀ n : Nat, n < T.length → ((n : Nat) : Int) ∈ M.take (j + 1) → hasE a.L (B + 1 + (n : Nat)) = true) ∧ Hid (StrsA wz pb v (some ⟨gt, ot, none⟩) T) ∧ Hid (IntsA wz pb v (some ⟨gb, go, none⟩) M)) (fun u9 _ => T.length - (intOf u9).toNat)
              case atStart => exact ⟨d, a4, v4, rfl, HI4.out.dT, HA4, HOK4, HI4, HKN4, HT4, HX4⟩
              case round =>
                clear HA4 HT4 HX4 HI4 HOK4 HKN4 HNX
                obtain ⟨d, a, v, rfl, hdT, HA, HOK, HI, HKN, HT, HX⟩ := hrel
                have HNS := Lib.hid (fun wz (h : LnIs w1 wz pb v a) => next_st wz h HOK.out (by omega))
                cases hnb : a.nextB
                · obtain ⟨hst, hno⟩ := HI.out.stay hnb
                  rw [hnb, hst] at HNS
                  have HNO := Lib.hid hno
                  clear hst hno hnb
                  generalize a.nextE = ne at *
                  obtain ⟨n1, n2, n3, n4⟩ := ne
                  simp only at HNS
                  go_wp2_with fail
                  refine (HNS.out _ HA.out).mono ?_
                  rintro e w5 ⟨rfl, v5, hA5, hF5, hV5⟩
                  have HGB := Lib.hid ((Gr.refl w5).alloc (.cells #[.int .i64 n1, .int .u64 n2, .int .i64 n3, .string n4] 44))
                  have HA5 := Lib.hid (hA5.gr HGB.out)
                  have HT5 := Lib.hid ((HT.out.step hF5 hV5).gr HGB.out)
                  have HX5 := Lib.hid ((HX.out.step hF5 hV5).gr HGB.out)
                  clear hA5 hF5 hV5 HA HT HX HNS HGB
                  go_wp2
                  go_roundw
                  case rel => exact ⟨j + 1, d, a, v5, by omega, rfl, by go_num, HA5, HOK, HI, HKN, HNO, HT5, HX5⟩
                  case measure => simp [intOf]; omega
                · obtain ⟨hdl, hne, hI5, hL5⟩ := HI.out.next hnb
                  rw [hnb, hne] at HNS
                  have HI5 := Lib.hid hI5
                  have HOK5 := Lib.hid (HOK.out.next (by have := HI.out.dn; omega))
                  have HKN5 := Lib.hid (show ∀ n : Nat, n < T.length → ((n : Nat) : Int) ∈ M.take (j + 1) → hasE a.next.L (B + 1 + (n : Nat)) = true by rw [hL5]; exact HKN.out)
                  clear hnb hne hI5 hL5 HI HOK HKN
                  generalize a.next = a5 at *
                  simp only at HNS
                  go_wp2_with fail
                  refine (HNS.out _ HA.out).mono ?_
                  rintro e w5 ⟨rfl, v5, hA5, hF5, hV5⟩
                  have HT5 := Lib.hid (HT.out.step hF5 hV5)
                  obtain ⟨gt2, ot2, hte, ht⟩ := HT5.out.1.at d hdl
                  simp only [Option.some.injEq, Addr.mk.injEq, and_true] at hte
                  obtain ⟨rfl, rfl⟩ := hte
                  generalize T[d] = tx at *
                  have HGB := Lib.hid ((Gr.refl w5).alloc (.cells #[.int .i64 (B + 1 + (d : Nat)), .int .u64 0, .int .i64 0, .string tx] 44))
                  have HA6 := Lib.hid (hA5.gr HGB.out)
                  have HT6 := Lib.hid (HT5.out.gr HGB.out)
                  have HX6 := Lib.hid ((HX.out.step hF5 hV5).gr HGB.out)
                  have HBX := Lib.hid (Blk.new w5 #[.int .i64 (B + 1 + (d : Nat)), .int .u64 0, .int .i64 0, .string tx] 44)
                  have ht2 := HGB.out.cell ht.2.1
                  have x0 := HBX.out.cell (i := 0) rfl
                  have x3 := HBX.out.cell (i := 3) rfl
                  have hd1 : ¬ (d : Int) ≥ (T.length : Int) := by omega
                  have hd2 : (d : Int) < (T.length : Int) := by omega
                  have hw1 : IntKind.i64.wrap (B + 1) = B + 1 := by rw [IntKind.wrap_i64]; omega
                  have hw2 : IntKind.i64.wrap (B + 1 + (d : Int)) = B + 1 + (d : Int) := by rw [IntKind.wrap_i64]; omega
                  have hss : (tx.toList == tx.toList) = true := by simp
                  clear hA5 hF5 hV5 HA HT HX HNS HT5 ht
                  go_wp2
                  go_quiet (fail)
                  go_wp2
                  go_roundw
                  case rel => exact ⟨d + 1, a5, v5, by go_num, by omega, Lib.hid (HA6.out.gr ((Gr.refl _).drewN _)), HOK5, HI5, HKN5, Lib.hid (HT6.out.gr ((Gr.refl _).drewN _)), Lib.hid (HX6.out.gr ((Gr.refl _).drewN _))⟩
                  case measure => simp [intOf]; omega
        · have hj4 : ¬ (j : Int) < (M.length : Int) := by omega
          obtain rfl : j = M.length := by omega
          obtain ⟨hdT, hL⟩ := HI.out.all HOK.out (fun k hk => HKN.out k hk (by rw [List.take_length]; exact HM.out k hk)) HNX.out
          have HMI := Lib.hid (fun wz (h : LnIs w1 wz pb v a) => lmissing_any d wz h (by have := HI.out.ba; have := HI.out.dn; omega) (by omega) (by omega) ⟨by have := HI.out.dn; omega, HOK.out.d1⟩)
          rw [List.drop_eq_nil_of_le (show a.L.length ≤ d by omega)] at HMI
          have HLG := Lib.hid (fun wz (h : LnIs w1 wz pb v a) => llog_any d 0 99 wz h HOK.out.asc (by have := HI.out.ba; have := HI.out.dn; omega) (by omega) (by omega) HOK.out.txt)
          rw [log_all HOK.out hL (by omega)] at HLG
          have HDN := Lib.hid (fun wz (h : LnIs w1 wz pb v a) => lnDone_any wz h)
          rw [HI.out.dn] at HDN
          have hw3 : IntKind.i64.wrap (B + (d : Int)) = B + (d : Int) := by rw [IntKind.wrap_i64]; omega
          subst hdT
          clear hlt HI HOK HKN HNX HM HT HX hj4
          go_wp2_with fail
          refine (HMI.out _ HA.out).mono ?_
          rintro e w5 ⟨rfl, hg5⟩
          have HA5 := Lib.hid (HA.out.gr hg5)
          clear hg5 HA
          simp only [missE]
          go_wp2_with fail
          refine (HDN.out _ HA5.out).mono ?_
          rintro e w6 ⟨rfl, rfl⟩
          go_wp2_with fail
          refine (HLG.out _ HA5.out).mono ?_
          rintro e w7 ⟨ra, rc, rfl, _, hg7⟩
          have HG7 := Lib.hid (HG1.out.trans (HA5.out.grown.trans hg7))
          clear hg7
          go_wp2
          go_ret
          exact ⟨rfl, HG7.out⟩
end Go.Proofs.Ytnanclgnjchpeaa
