import Derived.Test.YtihhfdkcggnjpaaK6
import Derived.Test.YtihhfdkcggnjpaaF02g
import Derived.WalkKit
import Derived.ProofKit
import Derived.LoopTactic
import Derived.Outline
import Derived.WalkSpells
import Derived.WalkLawsBesides
import Derived.Lib.Hide
import Derived.Deep.LoopGhost
import Derived.Deep.QuietTactic
import Derived.BigQuiet
import Derived.ShutString
import Derived.Test.YtihhfdkcggnjpaaF10r
import Derived.Test.YtihhfdkcggnjpaaK8
import Derived.Test.YtihhfdkcggnjpaaF10t
import Derived.Test.YtihhfdkcggnjpaaF10l
import Derived.IntWalk
import Derived.Deep.MidRow
import Derived.Deep.RegionHeld3
namespace Go.Proofs.Ytihhfdkcggnjpaa
open Crc
set_option linter.unusedVariables false
set_option linter.unusedSimpArgs false
theorem bt_list (s : ByteArray) (i : Nat) : bt s i = ((bytesOf s).getD i 0).toNat := by
  unfold bt bytesOf
  by_cases h : i < s.size
  · rw [dif_pos h]
    have h' : i < s.data.toList.length := by simpa using h
    rw [List.getD_eq_getElem?_getD, List.getElem?_eq_getElem h']
    rfl
  · rw [dif_neg h]
    have h' : s.data.toList.length ≤ i := by simpa using h
    rw [List.getD_eq_getElem?_getD, List.getElem?_eq_none h']
    rfl
theorem rframe_size (k : Nat) (s : ByteArray) : (rframe k s).size = s.size + 8 := by
  unfold rframe rframeB
  rw [ByteArray.size_append, ByteArray.size_append, ByteArray.size_append, dig_size, dig_size]
  show 1 + 3 + s.size + 4 = _; omega
theorem extract_left (a b : ByteArray) : (a ++ b).extract 0 a.size = a := by
  apply ba_ext
  rw [bytesOf_extract, bytesOf_append, List.drop_zero, Nat.sub_zero, ← bytesOf_length a]
  exact List.take_left
theorem frame_bytes (k : Nat) (s m : ByteArray) : bytesOf (rframe k s ++ m) = b8 (k : Int) :: b8 (s.size / 65536 % 256 : Nat) :: b8 (s.size / 256 % 256 : Nat) :: b8 (s.size % 256 : Nat) :: (bytesOf s ++ (bytesOf (dig (4294967295 - crc 4294967295 (bytesOf (rframeB k s))) 4) ++ bytesOf m)) := by
  unfold rframe
  rw [bytesOf_append, bytesOf_append]
  unfold rframeB
  rw [bytesOf_append, bytesOf_append, dig3]
  simp [bytesOf]
theorem open_frame (k : Nat) (s m : ByteArray) (hk : k < 256) (hk1 : 1 ≤ k) (hs : s.size ≤ 1048576) : openB (rframe k s ++ m) = (k, s, 0) := by
  have hb := frame_bytes k s m
  have hz : (rframe k s ++ m).size = s.size + 8 + m.size := by rw [ByteArray.size_append, rframe_size]
  have b0 : bt (rframe k s ++ m) 0 = k := by rw [bt_list, hb]; simp only [List.getD_cons_zero]; exact b8_nat k hk
  have b1 : bt (rframe k s ++ m) 1 = s.size / 65536 % 256 := by rw [bt_list, hb]; simp only [List.getD_cons_succ, List.getD_cons_zero]; exact b8_nat _ (by omega)
  have b2 : bt (rframe k s ++ m) 2 = s.size / 256 % 256 := by rw [bt_list, hb]; simp only [List.getD_cons_succ, List.getD_cons_zero]; exact b8_nat _ (by omega)
  have b3 : bt (rframe k s ++ m) 3 = s.size % 256 := by rw [bt_list, hb]; simp only [List.getD_cons_succ, List.getD_cons_zero]; exact b8_nat _ (by omega)
  have hn : n3 (rframe k s ++ m) = s.size := by unfold n3; rw [b1, b2, b3]; omega
  have hx : (rframe k s ++ m).extract 4 (4 + s.size) = s := by
    apply ba_ext
    rw [bytesOf_extract, hb]
    have : 4 + s.size - 4 = (bytesOf s).length := by rw [bytesOf_length]; omega
    rw [this]
    exact List.take_left
  have hy : (rframe k s ++ m).extract 0 (s.size + 8) = rframe k s := by rw [← rframe_size k s]; exact extract_left _ _
  have hi := (rframe_iff (rframe k s ++ m) (by omega) (by rw [hn]; omega)).1 (by rw [b0, hn, hx, hy])
  rw [hn] at hi
  have c1 : ¬ (rframe k s ++ m).size < 4 := by omega
  have c2 : ¬ k = 0 := by omega
  have c3 : ¬ 1048576 < s.size := by omega
  have c4 : ¬ (rframe k s ++ m).size < s.size + 8 := by omega
  unfold openB
  rw [if_neg c1, b0, if_neg c2, hn, if_neg c3, if_neg c4, if_neg (not_not_intro hi), hx]
end Go.Proofs.Ytihhfdkcggnjpaa
/- A message's bytes are read back: the model's Parse. -/
namespace Go.Proofs.Ytihhfdkcggnjpaa
open Enc Bal
set_option linter.unusedVariables false
set_option linter.unusedSimpArgs false
theorem getS_back2 (R : ByteArray) (c m : Nat) (t : List UInt8) (hc : c < 18446744073709551616) (hm : m ≤ 11) (h0 : c = 0 → m = 0) (h : bytesOf R = encU c ++ (encN (m : Int) ++ t)) : getS R 0 = (ofL t, 0, c, m) := by
  have h1 := uS_back R c (encN (m : Int) ++ t) hc h
  have h2 : nS (ofL (encN (m : Int) ++ t)) 0 11 = (ofL t, 0, m) := nS_back _ m t 11 (by omega) (by omega) (by rw [bytesOf_ofL]; unfold encN; rw [show (max (m : Int) 0).toNat = m by omega])
  unfold getS
  rw [h1]
  simp only
  rw [h2]
  simp only [ne_eq, not_true_eq_false, if_false]
  rw [if_neg (by omega)]
theorem nS_back2 (R : ByteArray) (v most : Int) (t : List UInt8) (h0 : 0 ≤ v) (hm : v ≤ most) (hM : most ≤ 1099511627776) (h : bytesOf R = encN v ++ t) : nS R 0 most = (ofL t, 0, v.toNat) :=
  nS_back R v.toNat t most (by omega) (by omega) (by rw [h]; unfold encN; rw [show (max v 0).toNat = v.toNat by omega])
structure EFit (y : E) : Prop where
  slot : 0 ≤ y.slot ∧ y.slot ≤ 1099511627776
  c : 0 ≤ y.c ∧ y.c < 18446744073709551616
  n : 0 ≤ y.n ∧ y.n ≤ 11
  z : y.c = 0 → y.n = 0
  text : y.text.size ≤ 400
theorem entR_back (R : ByteArray) (y : E) (t : List UInt8) (last : Int) (hy : EFit y) (hl : last < y.slot) (h : bytesOf R = insE y ++ t) : entR R 0 last = (ofL t, 0, y) := by
  obtain ⟨ys, yc, yn, yt⟩ := y
  obtain ⟨h1, h2, h3, h4, h5⟩ := hy
  simp only [insE, List.append_assoc] at h h1 h2 h3 h4 h5 hl
  have e1 := nS_back2 R ys 1099511627776 _ h1.1 h1.2 (by decide) h
  have e2 := getS_back2 (ofL (encU yc.toNat ++ (encN yn ++ (encS (bytesOf yt) ++ t)))) yc.toNat yn.toNat (encS (bytesOf yt) ++ t) (by omega) (by omega) (by omega) (by rw [bytesOf_ofL, show ((yn.toNat : Nat) : Int) = yn by omega])
  have e3 := sS_back (ofL (encS (bytesOf yt) ++ t)) yt t 400 (by omega) (by omega) (bytesOf_ofL _)
  rw [entR_eq e1 (by rw [if_neg (by omega)]; exact e2) e3]
  simp only [Prod.mk.injEq, E.mk.injEq, true_and, and_true]
  omega
def slotB (L : List E) : Nat → Int
  | 0 => -1
  | k + 1 => (L[k]?.map E.slot).getD 0
theorem slotB_succ (L : List E) (k : Nat) (h : k < L.length) : slotB L (k + 1) = L[k].slot := by
  show (L[k]?.map E.slot).getD 0 = _
  rw [List.getElem?_eq_getElem h]; rfl
theorem entsR_back (R : ByteArray) (L : List E) (t : List UInt8) (hL : ∀ y ∈ L, EFit y) (hc : chainB L = true) (h : bytesOf R = L.flatMap insE ++ t) : ∀ k, k ≤ L.length → entsR R 0 k = ⟨ofL ((L.drop k).flatMap insE ++ t), 0, slotB L k, L.take k⟩
  | 0, _ => by rw [entsR]; simp only [List.drop_zero, List.take_zero, slotB]; rw [← h, ofL_bytes]
  | k + 1, hk => by
    have ih := entsR_back R L t hL hc h k (by omega)
    have hs : slotB L k < L[k].slot := by
      cases k with
      | zero => have := (hL L[0] (List.getElem_mem _)).slot; show (-1 : Int) < _; omega
      | succ j =>
        have := (chainB_iff L).1 hc j (by omega)
        rw [slotB_succ L j (by omega)]
        exact this
    rw [entsR, ih, entS]
    simp only
    rw [entR_back _ L[k] ((L.drop (k + 1)).flatMap insE ++ t) _ (hL _ (List.getElem_mem _)) hs (by rw [bytesOf_ofL, List.drop_eq_getElem_cons hk, List.flatMap_cons, List.append_assoc])]
    simp only [RdS.mk.injEq, true_and]
    refine ⟨?_, ?_⟩
    · exact (slotB_succ L k (by omega)).symm
    · rw [List.take_succ_eq_append_getElem (by omega)]
structure MFit (m : Mg) : Prop where
  kd : 1 ≤ m.kd ∧ m.kd ≤ 13
  frm : 0 ≤ m.frm ∧ m.frm ≤ 11
  tt : 0 ≤ m.tt ∧ m.tt ≤ 11
  sub : 0 ≤ m.sub ∧ m.sub ≤ 3
  c : 0 ≤ m.c ∧ m.c < 18446744073709551616
  n : 0 ≤ m.n ∧ m.n ≤ 11
  z : m.c = 0 → m.n = 0
  slot : 0 ≤ m.slot ∧ m.slot ≤ 1099511627776
  time : 0 ≤ m.time ∧ m.time ≤ 1099511627776
  text : m.text.size ≤ 131072
  len : m.L.length ≤ 64
  ent : ∀ y ∈ m.L, EFit y
  chain : chainB m.L = true
theorem Mg.fit {m : Mg} (hm : m.Sm) (hc : m.check = 0) : MFit m := by
  have k := checkOk hc
  unfold Mg.check checkM at hc
  by_cases h1 : kindB m.kd = true
  case neg => rw [if_neg h1] at hc; simp at hc
  rw [if_pos h1] at hc
  by_cases h2 : rangeB m.frm m.tt m.sub m.c m.n m.slot m.time m.L = true
  case neg => rw [if_neg h2] at hc; simp at hc
  rw [if_pos h2] at hc
  by_cases h3 : shortB m.text m.L = true
  case neg => rw [if_neg h3] at hc; simp at hc
  rw [if_pos h3] at hc
  by_cases h4 : chainB m.L = true
  case neg => rw [if_neg h4] at hc; simp at hc
  clear hc
  simp only [rangeB, Bool.and_eq_true, decide_eq_true_eq, upB_iff, balB, Bool.not_eq_true', List.any_eq_false, Bool.or_eq_true] at h2
  obtain ⟨a1, a2, a3, a4, a5, a6, a7⟩ := h2
  refine ⟨k.kd, k.frm, k.tt, k.sub, hm.c, k.n, by have := a4.2; omega, k.slot, k.time, k.text, k.len, fun y hy => ?_, h4⟩
  have e := k.ent y hy
  have e1 := a7 y hy
  have e2 := hm.ent y hy
  simp only [badE, balB, Bool.or_eq_true, Bool.not_eq_true', decide_eq_true_eq, not_or, Bool.not_eq_false, Bool.and_eq_true, upB_iff] at e1
  exact ⟨⟨e.1, e.2.1⟩, ⟨e2.2.1, e2.2.2.1⟩, ⟨e.2.2.1, e.2.2.2.1⟩, by have := e1.2.2; omega, e.2.2.2.2⟩
theorem headR_back (m : Mg) (hm : MFit m) (rest : List UInt8) :
    headR (ofL (inHead m.frm m.tt m.sub m.c.toNat m.n.toNat m.slot m.time m.ok m.text m.L.length ++ rest)) = ⟨ofL rest, 0, m.frm.toNat, m.tt.toNat, m.sub.toNat, m.c.toNat, m.n.toNat, m.slot.toNat, m.time.toNat, m.ok, m.text, m.L.length⟩ := by
  obtain ⟨k, f, t, s, c, n, sl, ti, ok, tx, L⟩ := m
  obtain ⟨p1, p2, p3, p4, p5, p6, p7, p8, p9, p10, p11, p12, p13⟩ := hm
  simp only at p1 p2 p3 p4 p5 p6 p7 p8 p9 p10 p11 p12 p13
  simp only [inHead, List.append_assoc]
  have e1 := nS_back2 (ofL (encN f ++ (encN t ++ (encN s ++ (encU c.toNat ++ (encN (n.toNat : Int) ++ (encN sl ++ (encN ti ++ (encB ok ++ (encS (bytesOf tx) ++ (encN (L.length : Int) ++ rest))))))))))) f 11 _ p2.1 p2.2 (by decide) (bytesOf_ofL _)
  have e2 := nS_back2 _ t 11 _ p3.1 p3.2 (by decide) (bytesOf_ofL (encN t ++ (encN s ++ (encU c.toNat ++ (encN (n.toNat : Int) ++ (encN sl ++ (encN ti ++ (encB ok ++ (encS (bytesOf tx) ++ (encN (L.length : Int) ++ rest))))))))))
  have e3 := nS_back2 _ s 3 _ p4.1 p4.2 (by decide) (bytesOf_ofL (encN s ++ (encU c.toNat ++ (encN (n.toNat : Int) ++ (encN sl ++ (encN ti ++ (encB ok ++ (encS (bytesOf tx) ++ (encN (L.length : Int) ++ rest)))))))))
  have e4 := getS_back2 _ c.toNat n.toNat _ (by omega) (by omega) (by omega) (bytesOf_ofL (encU c.toNat ++ (encN (n.toNat : Int) ++ (encN sl ++ (encN ti ++ (encB ok ++ (encS (bytesOf tx) ++ (encN (L.length : Int) ++ rest))))))))
  have e5 := nS_back2 _ sl 1099511627776 _ p8.1 p8.2 (by decide) (bytesOf_ofL (encN sl ++ (encN ti ++ (encB ok ++ (encS (bytesOf tx) ++ (encN (L.length : Int) ++ rest))))))
  have e6 := nS_back2 _ ti 1099511627776 _ p9.1 p9.2 (by decide) (bytesOf_ofL (encN ti ++ (encB ok ++ (encS (bytesOf tx) ++ (encN (L.length : Int) ++ rest)))))
  have e7 := bS_back _ ok _ (bytesOf_ofL (encB ok ++ (encS (bytesOf tx) ++ (encN (L.length : Int) ++ rest))))
  have e8 := sS_back _ tx _ 131072 (by omega) (by omega) (bytesOf_ofL (encS (bytesOf tx) ++ (encN (L.length : Int) ++ rest)))
  have e9 := nS_back2 _ (L.length : Int) 64 _ (by omega) (by omega) (by decide) (bytesOf_ofL (encN (L.length : Int) ++ rest))
  unfold headR
  simp only [e1, e2, e3, e4, e5, e6, e7, e8, e9, Int.toNat_natCast]
theorem done_nil : doneE (ofL []) 0 = 0 := by unfold doneE; rw [if_neg (by rw [ofL_size]; simp)]
theorem parse_bytes {m : Mg} (hm : m.Sm) (hc : m.check = 0) (x : ByteArray) : parseM (m.bytes ++ x) = if 0 < x.size then (4, Mg.zero) else (0, m) := by
  have hf := Mg.fit hm hc
  have hz := Mg.inside_size hm hc
  have hO := open_frame m.kd.toNat m.inside x (by have := hf.kd; omega) (by have := hf.kd; omega) (by omega)
  have hH := headR_back m hf (m.L.flatMap insE)
  have hE := entsR_back (ofL (m.L.flatMap insE)) m.L [] hf.ent hf.chain (by rw [bytesOf_ofL, List.append_nil]) m.L.length (Nat.le_refl _)
  rw [List.drop_length, List.take_length] at hE
  have hI : inR m.inside = ⟨ofL [], 0, slotB m.L m.L.length, m.L⟩ := by
    unfold inR Mg.inside inL
    rw [hH]
    exact hE
  have hN : headR m.inside = ⟨ofL (m.L.flatMap insE), 0, m.frm.toNat, m.tt.toNat, m.sub.toNat, m.c.toNat, m.n.toNat, m.slot.toNat, m.time.toNat, m.ok, m.text, m.L.length⟩ := hH
  have hs : (rframe m.kd.toNat m.inside ++ x).size = m.inside.size + 8 + x.size := by rw [ByteArray.size_append, rframe_size]
  rw [Mg.bytes_eq hm hc]
  unfold parseM
  rw [hO]
  simp only
  rw [hI, hN, hs, if_neg (by simp), if_neg (by have := hf.kd; omega)]
  simp only
  rw [done_nil, if_neg (by simp)]
  by_cases h0 : 0 < x.size
  · rw [if_pos h0, if_pos (by omega)]
  · rw [if_neg h0, if_neg (by omega)]
    simp only [Prod.mk.injEq, true_and]
    unfold mgOf
    obtain ⟨k, f, t, s, c, n, sl, ti, ok, tx, L⟩ := m
    obtain ⟨p1, p2, p3, p4, p5, p6, p7, p8, p9, p10, p11, p12, p13⟩ := hf
    simp only [Mg.mk.injEq, and_true] at *
    omega
end Go.Proofs.Ytihhfdkcggnjpaa
namespace Go.Proofs.Ytihhfdkcggnjpaa
open Go.ChangeShapes Go.WideShapes Go.ChangeAt Go.RowKit
open Enc Bal
set_option linter.unusedVariables false
set_option linter.unusedSimpArgs false
theorem app_none (s : ByteArray) : s ++ (⟨#[]⟩ : ByteArray) = s := eB (by rw [bytesOf_app]; simp [bytesOf])
theorem Mg.bytes_size {m : Mg} (hm : m.Sm) (hc : m.check = 0) : m.bytes.size ≤ 200008 := by
  have := Mg.inside_size hm hc
  rw [Mg.bytes_eq hm hc, rframe_size]; omega
theorem parse_back {m : Mg} (hm : m.Sm) (hc : m.check = 0) (w : World) :
    Calls Try.prog 46 #[.string m.bytes] w fun e w' => ∃ a q, e = .returned (.tuple #[.agg #[.int .i64 m.kd, .int .i64 m.frm, .int .i64 m.tt, .int .i64 m.sub, .int .u64 m.c, .int .i64 m.n, .int .i64 m.slot, .int .i64 m.time, .bool m.ok, .string m.text, .slice a m.L.length q], .int .i64 0]) ∧ Gr w w' ∧ Hid (ORow 159 w' m.L a q) := by
  have hz := Mg.bytes_size hm hc
  have hp := parse_bytes hm hc ⟨#[]⟩
  rw [if_neg (by decide), app_none] at hp
  have := parse10_any m.bytes (by omega) w
  rw [hp] at this
  exact this
theorem parse_long {m : Mg} (hm : m.Sm) (hc : m.check = 0) (w : World) :
    Calls Try.prog 46 #[.string (m.bytes ++ ⟨#[120]⟩)] w fun e w' => ∃ a q, e = .returned (.tuple #[.agg #[.int .i64 0, .int .i64 0, .int .i64 0, .int .i64 0, .int .u64 0, .int .i64 0, .int .i64 0, .int .i64 0, .bool false, .string ⟨#[]⟩, .slice a 0 q], .int .i64 4]) ∧ Gr w w' := by
  have hz := Mg.bytes_size hm hc
  have hp := parse_bytes hm hc ⟨#[120]⟩
  rw [if_pos (by decide)] at hp
  have := parse10_any (m.bytes ++ ⟨#[120]⟩) (by rw [ByteArray.size_append]; show m.bytes.size + 1 ≤ _; omega) w
  rw [hp] at this
  refine this.mono ?_
  rintro e w' ⟨a, q, h, hg, _⟩
  exact ⟨a, q, h, hg⟩
set_option maxRecDepth 100000 in
set_option maxHeartbeats 8000000 in
theorem msgBack_walk (a0 a1 a2 a3 a4 a5 a6 a7 : Int) (a8 : Bool) (at_ : ByteArray) (aL : List E) (va : Option Addr) (ca0 : Nat) (w : World) (ha : (⟨a0, a1, a2, a3, a4, a5, a6, a7, a8, at_, aL⟩ : Mg).Wf ∧ ERow w va aL ∧ aL.length ≤ ca0) :
    Calls Try.prog 7 #[.agg #[.int .i64 a0, .int .i64 a1, .int .i64 a2, .int .i64 a3, .int .u64 a4, .int .i64 a5, .int .i64 a6, .int .i64 a7, .bool a8, .string at_, .slice va aL.length ca0]] w fun e w' => e = .returned (.bool true) ∧ Gr w w' := by
  obtain ⟨ha1, ha2, ha3⟩ := ha
  have HRT := Lib.hid fun w9 (hg : Gr w w9) => right10_any a0 a1 a2 a3 a4 a5 a6 a7 a8 at_ aL w9 ha1 (ha2.gr hg) ha3
  clear ha1 ha2 ha3
  go_enter Try.func7, Try.ntmps7
  have HG0 := Lib.hid ((Gr.refl w).alloc (.cells #[.int .i64 a0, .int .i64 a1, .int .i64 a2, .int .i64 a3, .int .u64 a4, .int .i64 a5, .int .i64 a6, .int .i64 a7, .bool a8, .string at_, .slice va aL.length ca0] 81))
  have HBA := Lib.hid (Blk.new w #[.int .i64 a0, .int .i64 a1, .int .i64 a2, .int .i64 a3, .int .u64 a4, .int .i64 a5, .int .i64 a6, .int .i64 a7, .bool a8, .string at_, .slice va aL.length ca0] 81)
  go_wp2_with fail
  refine (awake10 _).mono ?_
  rintro e wz ⟨rfl, hg1⟩
  replace HG0 := Lib.hid (HG0.out.trans hg1)
  replace HBA := Lib.hid (HBA.out.gr hg1)
  clear hg1
  have q0 := HBA.out.cell (i := 0) rfl
  have q1 := HBA.out.cell (i := 1) rfl
  have q2 := HBA.out.cell (i := 2) rfl
  have q3 := HBA.out.cell (i := 3) rfl
  have q4 := HBA.out.cell (i := 4) rfl
  have q5 := HBA.out.cell (i := 5) rfl
  have q6 := HBA.out.cell (i := 6) rfl
  have q7 := HBA.out.cell (i := 7) rfl
  have q8 := HBA.out.cell (i := 8) rfl
  have q9 := HBA.out.cell (i := 9) rfl
  have q10 := HBA.out.cell (i := 10) rfl
  generalize hpp : w.heap.size = p at *
  have HWP := Lib.hid (show w.heap.size ≤ p from Nat.le_of_eq hpp)
  clear hpp
  go_wp2_with fail
  refine (HRT.out _ HG0.out).mono ?_
  rintro e w1 ⟨k, ms1, la, qa, rfl, HM1, HK, HRA, hg⟩
  replace HG0 := Lib.hid (HG0.out.trans hg)
  replace HBA := Lib.hid (HBA.out.gr hg)
  clear hg q0 q1 q2 q3 q4 q5 q6 q7 q8 q9 q10 HRT
  have hk1 := HK.out.1
  have hk2 := HK.out.2
  have hl1 : k.L.length ≤ 1000 := by have := hk1.len; omega
  have HOW := Lib.hid fun aa q w9 => own_mg (a := aa) (q := q) k hl1 w9
  have HBY := Lib.hid fun aa q w9 => bytesX_mg (a := aa) (q := q) k hk1 w9
  have HRB := Lib.hid fun aa q w9 => refBytes_mg (a := aa) (q := q) k hk1 hk2 w9
  have HP1 := Lib.hid fun w9 => parse_back hk1 hk2 w9
  have HP2 := Lib.hid fun w9 => parse_long hk1 hk2 w9
  have HSM := Lib.hid fun o1 o2 p1 p2 w9 h1 h2 => same_mg (o1 := o1) (o2 := o2) (p1 := p1) (p2 := p2) k k hl1 hl1 w9 h1 h2
  have hbz := Mg.bytes_size hk1 hk2
  rw [Mg.same_self] at HSM
  generalize k.bytes = by_ at *
  obtain ⟨k0, k1, k2, k3, k4, k5, k6, k7, k8, kt, kL⟩ := k
  simp only at HOW HBY HRB HP1 HSM HM1 HRA
  clear hk1 hk2 HK hl1
  obtain ⟨nl, hnl⟩ : ∃ n, kL.length = n := ⟨_, rfl⟩
  simp only [hnl] at HOW HBY HRB HP1 HSM HM1
  clear hnl
  obtain ⟨ms, hms, hml, hT, hO, hgr, hBl⟩ := blk_put HBA.out #[.int .i64 k0, .int .i64 k1, .int .i64 k2, .int .i64 k3, .int .u64 k4, .int .i64 k5, .int .i64 k6, .int .i64 k7, .bool k8, .string kt, .slice la nl qa] rfl (eleven_one _ _ _ _ _ _ _ _ _ _ _ _ _)
  obtain rfl : ms = ms1 := by rw [HM1.out]; have := congrArg (fun v => match v with | Value.agg a => a.toList | _ => []) hms; simpa using this.symm
  have HG := Lib.hid (gr_put HG0.out hgr HWP.out)
  replace HRA := Lib.hid (HRA.out.put HBA.out (by decide) hgr)
  replace HBA := Lib.hid hBl
  have HML := Lib.hid hml
  have HTT := Lib.hid hT
  have HOO := Lib.hid hO
  clear hms hml hT hO hgr hBl HM1 HG0
  have q0 := HBA.out.cell (i := 0) rfl
  have q1 := HBA.out.cell (i := 1) rfl
  have q2 := HBA.out.cell (i := 2) rfl
  have q3 := HBA.out.cell (i := 3) rfl
  have q4 := HBA.out.cell (i := 4) rfl
  have q5 := HBA.out.cell (i := 5) rfl
  have q6 := HBA.out.cell (i := 6) rfl
  have q7 := HBA.out.cell (i := 7) rfl
  have q8 := HBA.out.cell (i := 8) rfl
  have q9 := HBA.out.cell (i := 9) rfl
  have q10 := HBA.out.cell (i := 10) rfl
  go_wp2_with (first | (refine wpList_store_mid rfl 81 (.tmp 1) (.tmp 12) (by rfl) p 0 ms.toArray (by rfl) (by rfl) HTT.out (by rw [HML.out]; kernel_rfl) HOO.out ?_))
  clear HML HTT HOO
  generalize w1.setCells p 0 ms = w2 at *
  refine (HOW.out _ _ _ HRA.out).mono ?_
  rintro e w3 ⟨oa, ua, rfl, HRO, hg⟩
  clear q0 q1 q2 q3 q4 q5 q6 q7 q8 q9 q10 HOW
  have hA := (Gr.refl w3).alloc (.cells #[.int .i64 k0, .int .i64 k1, .int .i64 k2, .int .i64 k3, .int .u64 k4, .int .i64 k5, .int .i64 k6, .int .i64 k7, .bool k8, .string kt, .slice oa nl ua] 69)
  replace HG := Lib.hid ((HG.out.trans hg).trans hA)
  replace HRA := Lib.hid ((HRA.out.gr hg).gr hA)
  replace HBA := Lib.hid ((HBA.out.gr hg).gr hA)
  replace HRO := Lib.hid (HRO.out.gr hA)
  have HBX := Lib.hid (Blk.new w3 #[.int .i64 k0, .int .i64 k1, .int .i64 k2, .int .i64 k3, .int .u64 k4, .int .i64 k5, .int .i64 k6, .int .i64 k7, .bool k8, .string kt, .slice oa nl ua] 69)
  clear hA hg
  have j0 := HBX.out.cell (i := 0) rfl
  have j1 := HBX.out.cell (i := 1) rfl
  have j2 := HBX.out.cell (i := 2) rfl
  have j3 := HBX.out.cell (i := 3) rfl
  have j4 := HBX.out.cell (i := 4) rfl
  have j5 := HBX.out.cell (i := 5) rfl
  have j6 := HBX.out.cell (i := 6) rfl
  have j7 := HBX.out.cell (i := 7) rfl
  have j8 := HBX.out.cell (i := 8) rfl
  have j9 := HBX.out.cell (i := 9) rfl
  have j10 := HBX.out.cell (i := 10) rfl
  go_wp2_with fail
  generalize w3.alloc (.cells #[.int .i64 k0, .int .i64 k1, .int .i64 k2, .int .i64 k3, .int .u64 k4, .int .i64 k5, .int .i64 k6, .int .i64 k7, .bool k8, .string kt, .slice oa nl ua] 69) = w4 at *
  generalize w3.heap.size = x at *
  refine (HBY.out _ _ _ HRO.out).mono ?_
  rintro e w5 ⟨rfl, hg⟩
  clear j0 j1 j2 j3 j4 j5 j6 j7 j8 j9 j10 HBY
  replace HG := Lib.hid (HG.out.trans hg)
  replace HRA := Lib.hid (HRA.out.gr hg)
  replace HRO := Lib.hid (HRO.out.gr hg)
  replace HBA := Lib.hid (HBA.out.gr hg)
  replace HBX := Lib.hid (HBX.out.gr hg)
  clear hg
  go_wp2_with fail
  refine (HP1.out _).mono ?_
  rintro e w6 ⟨ya, yq, rfl, hg, HRY⟩
  clear HP1
  have hA := (Gr.refl w6).alloc (.cells #[.int .i64 k0, .int .i64 k1, .int .i64 k2, .int .i64 k3, .int .u64 k4, .int .i64 k5, .int .i64 k6, .int .i64 k7, .bool k8, .string kt, .slice ya nl yq] 69)
  replace HG := Lib.hid ((HG.out.trans hg).trans hA)
  replace HRA := Lib.hid ((HRA.out.gr hg).gr hA)
  replace HRO := Lib.hid ((HRO.out.gr hg).gr hA)
  replace HBA := Lib.hid ((HBA.out.gr hg).gr hA)
  replace HBX := Lib.hid ((HBX.out.gr hg).gr hA)
  replace HRY := Lib.hid (HRY.out.gr hA)
  have HBY := Lib.hid (Blk.new w6 #[.int .i64 k0, .int .i64 k1, .int .i64 k2, .int .i64 k3, .int .u64 k4, .int .i64 k5, .int .i64 k6, .int .i64 k7, .bool k8, .string kt, .slice ya nl yq] 69)
  clear hA hg
  have hcat : (by_ ++ (⟨#[120]⟩ : ByteArray)).size ≤ 200009 := by rw [ByteArray.size_append]; show by_.size + 1 ≤ _; omega
  go_wp2_with fail
  generalize w6.alloc (.cells #[.int .i64 k0, .int .i64 k1, .int .i64 k2, .int .i64 k3, .int .u64 k4, .int .i64 k5, .int .i64 k6, .int .i64 k7, .bool k8, .string kt, .slice ya nl yq] 69) = w7 at *
  generalize w6.heap.size = y at *
  trace_state
  refine (HP2.out _).mono ?_
  rintro e w8 ⟨za, zq, rfl, hg⟩
  clear HP2
  have hA := (Gr.refl w8).alloc (.cells #[.int .i64 0, .int .i64 0, .int .i64 0, .int .i64 0, .int .u64 0, .int .i64 0, .int .i64 0, .int .i64 0, .bool false, .string ⟨#[]⟩, .slice za 0 zq] 69)
  replace HG := Lib.hid ((HG.out.trans hg).trans hA)
  replace HRA := Lib.hid ((HRA.out.gr hg).gr hA)
  replace HRO := Lib.hid ((HRO.out.gr hg).gr hA)
  replace HBA := Lib.hid ((HBA.out.gr hg).gr hA)
  replace HBX := Lib.hid ((HBX.out.gr hg).gr hA)
  replace HRY := Lib.hid ((HRY.out.gr hg).gr hA)
  replace HBY := Lib.hid ((HBY.out.gr hg).gr hA)
  clear hA hg
  have j0 := HBX.out.cell (i := 0) rfl
  have j1 := HBX.out.cell (i := 1) rfl
  have j2 := HBX.out.cell (i := 2) rfl
  have j3 := HBX.out.cell (i := 3) rfl
  have j4 := HBX.out.cell (i := 4) rfl
  have j5 := HBX.out.cell (i := 5) rfl
  have j6 := HBX.out.cell (i := 6) rfl
  have j7 := HBX.out.cell (i := 7) rfl
  have j8 := HBX.out.cell (i := 8) rfl
  have j9 := HBX.out.cell (i := 9) rfl
  have j10 := HBX.out.cell (i := 10) rfl
  have i0 := HBY.out.cell (i := 0) rfl
  have i1 := HBY.out.cell (i := 1) rfl
  have i2 := HBY.out.cell (i := 2) rfl
  have i3 := HBY.out.cell (i := 3) rfl
  have i4 := HBY.out.cell (i := 4) rfl
  have i5 := HBY.out.cell (i := 5) rfl
  have i6 := HBY.out.cell (i := 6) rfl
  have i7 := HBY.out.cell (i := 7) rfl
  have i8 := HBY.out.cell (i := 8) rfl
  have i9 := HBY.out.cell (i := 9) rfl
  have i10 := HBY.out.cell (i := 10) rfl
  go_wp2_with fail
  generalize w8.alloc (.cells #[.int .i64 0, .int .i64 0, .int .i64 0, .int .i64 0, .int .u64 0, .int .i64 0, .int .i64 0, .int .i64 0, .bool false, .string ⟨#[]⟩, .slice za 0 zq] 69) = w9 at *
  generalize w8.heap.size = z at *
  refine (HSM.out _ _ _ _ _ HRO.out HRY.out).mono ?_
  rintro e wa ⟨rfl, hg⟩
  clear HSM j0 j1 j2 j3 j4 j5 j6 j7 j8 j9 j10 i0 i1 i2 i3 i4 i5 i6 i7 i8 i9 i10
  replace HG := Lib.hid (HG.out.trans hg)
  replace HRA := Lib.hid (HRA.out.gr hg)
  replace HBA := Lib.hid (HBA.out.gr hg)
  clear hg
  have q0 := HBA.out.cell (i := 0) rfl
  have q1 := HBA.out.cell (i := 1) rfl
  have q2 := HBA.out.cell (i := 2) rfl
  have q3 := HBA.out.cell (i := 3) rfl
  have q4 := HBA.out.cell (i := 4) rfl
  have q5 := HBA.out.cell (i := 5) rfl
  have q6 := HBA.out.cell (i := 6) rfl
  have q7 := HBA.out.cell (i := 7) rfl
  have q8 := HBA.out.cell (i := 8) rfl
  have q9 := HBA.out.cell (i := 9) rfl
  have q10 := HBA.out.cell (i := 10) rfl
  go_wp2_with fail
  refine (HRB.out _ _ _ HRA.out).mono ?_
  rintro e wb ⟨rfl, hg⟩
  replace HG := Lib.hid (HG.out.trans hg)
  clear hg HRB
  go_wp2
  go_ret
  exact ⟨by first | rfl | simp, HG.out⟩
  end Go.Proofs.Ytihhfdkcggnjpaa
/- What is read as a message was written so. -/
namespace Go.Proofs.Ytihhfdkcggnjpaa
open Crc
open Enc Bal
set_option linter.unusedVariables false
set_option linter.unusedSimpArgs false
theorem uS_lt26 (r : ByteArray) (e : Nat) : (uS r e).2.2 < 18446744073709551616 := by
  have h1 := hd_lt r
  unfold uS
  split
  · exact (by decide : (0 : Nat) < 18446744073709551616)
  · split
    · exact (by decide : (0 : Nat) < 18446744073709551616)
    · unfold uR
      split
      · split
        · simp only; omega
        · exact (by decide : (0 : Nat) < 18446744073709551616)
      · split
        · exact (by decide : (0 : Nat) < 18446744073709551616)
        · split
          · have h2 := num8_lt (bytesOf ((r.extract 1 r.size).extract 0 (more (hd r))))
            have h3 : (bytesOf ((r.extract 1 r.size).extract 0 (more (hd r)))).length ≤ 8 := by
              rw [bytesOf_length]; have := more_le (hd r); simp; omega
            have h4 : (256 : Nat) ^ (bytesOf ((r.extract 1 r.size).extract 0 (more (hd r)))).length ≤ 256 ^ 8 := Nat.pow_le_pow_right (by decide) h3
            simp only
            omega
          · exact (by decide : (0 : Nat) < 18446744073709551616)
theorem uS_e {p r : ByteArray} {e v : Nat} (h : uS p e = (r, 0, v)) : e = 0 := by
  by_cases h9 : e = 0
  · exact h9
  · unfold uS at h
    rw [if_pos h9] at h
    simp only [Prod.mk.injEq] at h
    exact absurd h.2.1 h9
theorem nS_form {p r : ByteArray} {e v : Nat} {most : Int} (hm : 0 ≤ most) (h : nS p e most = (r, 0, v)) : e = 0 ∧ p = ofL (encN (v : Int)) ++ r ∧ (v : Int) ≤ most := by
  unfold nS at h
  split at h
  · simp at h
  · rename_i hv
    have he := uS_e h
    subst he
    have hf := uS_form h
    rw [h] at hv
    refine ⟨rfl, ?_, by simp only at hv; omega⟩
    unfold encN
    rw [show (max (v : Int) 0).toNat = v by omega]
    exact hf
theorem bS_form {p r : ByteArray} {e : Nat} {b : Bool} (h : bS p e = (r, 0, b)) : e = 0 ∧ p = ofL (encB b) ++ r := by
  unfold bS at h
  split at h
  · rename_i h9
    simp only [Prod.mk.injEq] at h
    exact absurd h.2.1 h9
  · split at h
    · simp at h
    · split at h
      · simp at h
      · rename_i h0 h1 h2
        simp only [Prod.mk.injEq, true_and] at h
        obtain ⟨rfl, rfl⟩ := h
        refine ⟨by omega, ?_⟩
        apply eB
        rw [hd_list p (by omega), bytesOf_app, bytesOf_ofL]
        rcases (show hd p = 0 ∨ hd p = 1 by omega) with h3 | h3 <;> rw [h3] <;> rfl
theorem getS_form {p r : ByteArray} {e c n : Nat} (h : getS p e = (r, 0, c, n)) : e = 0 ∧ p = ofL (encU c) ++ (ofL (encN (n : Int)) ++ r) ∧ n ≤ 11 ∧ (c = 0 → n = 0) ∧ c < 18446744073709551616 := by
  obtain ⟨a, b, c2, a2, b2, n2, hu, hn, hl, h11, hw⟩ := getS_ways p e
  rcases hw with ⟨h1, h2⟩ | ⟨_, _, _, h2⟩ | ⟨h1, h3, h2⟩
  · rw [h2] at h; simp only [Prod.mk.injEq] at h; exact absurd h.2.1 h1
  · rw [h2] at h; simp at h
  · rw [h2] at h
    simp only [Prod.mk.injEq, true_and] at h
    obtain ⟨rfl, rfl, rfl⟩ := h
    subst h1
    obtain ⟨rfl, ha, _⟩ := nS_form (by decide) hn
    have he := uS_e hu
    subst he
    have hl := uS_lt26 p 0
    rw [hu] at hl
    refine ⟨rfl, ?_, h11, fun h0 => ?_, hl⟩
    · rw [← ha]; exact uS_form hu
    · by_cases h9 : n2 = 0
      · exact h9
      · exact absurd ⟨h0, h9⟩ h3
theorem sS_most {p r S : ByteArray} {e b : Nat} {most : Int} (hm : 0 ≤ most) (h : sS p e most = (r, b, S)) : (S.size : Int) ≤ most ∧ S.size ≤ p.size := by
  have h1 := nS_most p e most
  have h2 := nS_left p e most
  unfold sS at h
  have h3 : S.size ≤ (nS p e most).2.2 ∧ S.size ≤ (nS p e most).1.size := by
    unfold takeS at h
    split at h
    · simp only [Prod.mk.injEq] at h; obtain ⟨_, _, rfl⟩ := h; exact ⟨Nat.zero_le _, Nat.zero_le _⟩
    · split at h
      · simp only [Prod.mk.injEq] at h; obtain ⟨_, _, rfl⟩ := h; exact ⟨Nat.zero_le _, Nat.zero_le _⟩
      · simp only [Prod.mk.injEq] at h; obtain ⟨_, _, rfl⟩ := h; simp; omega
  omega
theorem entR_form {r c : ByteArray} {e : Nat} {last : Int} {y : E} (h : entR r e last = (c, 0, y)) : e = 0 ∧ EFit y ∧ last < y.slot ∧ r = ofL (insE y) ++ c := by
  obtain ⟨a, e1, sl, h1⟩ : ∃ a b c, nS r e 1099511627776 = (a, b, c) := ⟨_, _, _, rfl⟩
  obtain ⟨b, e2, c0, n0, h2⟩ : ∃ x y z u, getS a (if (sl : Int) ≤ last then failE e1 4 else e1) = (x, y, z, u) := ⟨_, _, _, _, rfl⟩
  obtain ⟨c2, e3, tx, h3⟩ : ∃ x y z, sS b e2 400 = (x, y, z) := ⟨_, _, _, rfl⟩
  rw [entR_eq h1 h2 h3] at h
  simp only [Prod.mk.injEq] at h
  obtain ⟨rfl, rfl, rfl⟩ := h
  obtain ⟨rfl, f3⟩ := sS_form h3
  have m3 := sS_most (by decide) h3
  obtain ⟨he, f2, n11, hz, hc⟩ := getS_form h2
  have hsl : ¬ (sl : Int) ≤ last ∧ e1 = 0 := by
    by_cases hs : (sl : Int) ≤ last
    · rw [if_pos hs] at he
      unfold failE at he
      split at he
      · simp at he
      · rename_i h9; exact absurd he h9
    · rw [if_neg hs] at he; exact ⟨hs, he⟩
  obtain ⟨hs, rfl⟩ := hsl
  obtain ⟨rfl, f1, m1⟩ := nS_form (by decide) h1
  refine ⟨rfl, ⟨⟨by show (0 : Int) ≤ sl; omega, m1⟩, ⟨by show (0 : Int) ≤ c0; omega, by show (c0 : Int) < _; omega⟩, ⟨by show (0 : Int) ≤ n0; omega, by show (n0 : Int) ≤ _; omega⟩, fun h => by have h' : (c0 : Int) = 0 := h; have := hz (by omega); show (n0 : Int) = 0; omega, by show tx.size ≤ 400; omega⟩, by show last < (sl : Int); omega, ?_⟩
  rw [f1, f2, f3]
  show _ = ofL (encN (sl : Int) ++ (encU ((c0 : Int)).toNat ++ encN (n0 : Int)) ++ encS (bytesOf tx)) ++ c2
  rw [← ofL_app, ← ofL_app, ← ofL_app, glue, glue, glue, Int.toNat_natCast]
theorem slotB_len (L : List E) (y : E) : slotB (L ++ [y]) (L ++ [y]).length = y.slot := by
  rw [List.length_append]
  show slotB (L ++ [y]) (L.length + 1) = _
  rw [slotB_succ (L ++ [y]) L.length (by simp)]
  simp
theorem chain_snoc {L : List E} {y : E} (h : chainB L = true) (hl : slotB L L.length < y.slot) : chainB (L ++ [y]) = true := by
  refine (chainB_iff _).2 fun i hi => ?_
  rw [List.length_append] at hi
  simp only [List.length_cons, List.length_nil, Nat.zero_add] at hi
  by_cases h1 : i + 1 < L.length
  · rw [List.getElem_append_left (by omega), List.getElem_append_left h1]
    exact (chainB_iff L).1 h i h1
  · have e : L.length = i + 1 := by omega
    rw [e, slotB_succ L i (by omega)] at hl
    rw [List.getElem_append_left (by omega), List.getElem_append_right (by omega)]
    simpa [e] using hl
theorem entsR_form (r : ByteArray) (e k : Nat) : (entsR r e k).e = 0 → e = 0 ∧ (∀ y ∈ (entsR r e k).L, EFit y) ∧ chainB (entsR r e k).L = true ∧ r = ofL ((entsR r e k).L.flatMap insE) ++ (entsR r e k).r ∧ (entsR r e k).last = slotB (entsR r e k).L (entsR r e k).L.length := by
  induction k with
  | zero =>
    intro h
    simp only [entsR] at h ⊢
    refine ⟨h, by simp, rfl, ?_, rfl⟩
    apply eB; rw [bytesOf_app, bytesOf_ofL]; simp
  | succ k ih =>
    intro h
    rw [entsR, entS] at h ⊢
    simp only at h ⊢
    obtain ⟨c, b, y, hr⟩ : ∃ c b y, entR (entsR r e k).r (entsR r e k).e (entsR r e k).last = (c, b, y) := ⟨_, _, _, rfl⟩
    rw [hr] at h ⊢
    simp only at h ⊢
    subst h
    obtain ⟨h1, h2, h3, h4⟩ := entR_form hr
    obtain ⟨i1, i2, i3, i4, i5⟩ := ih h1
    refine ⟨i1, fun z hz => ?_, chain_snoc i3 (by rw [← i5]; exact h3), ?_, (slotB_len _ _).symm⟩
    · rcases List.mem_append.1 hz with hz | hz
      · exact i2 z hz
      · rw [List.mem_singleton.1 hz]; exact h2
    · rw [List.flatMap_append, ← ofL_app, glue]
      simp only [List.flatMap_cons, List.flatMap_nil, List.append_nil]
      rw [← h4]
      exact i4
theorem headR_form (p : ByteArray) (h : (headR p).e = 0) : ∃ H, headR p = H ∧ p = ofL (inHead H.frm H.tt H.sub H.c H.n H.slot H.time H.ok H.text H.cnt) ++ H.r ∧ H.frm ≤ 11 ∧ H.tt ≤ 11 ∧ H.sub ≤ 3 ∧ H.c < 18446744073709551616 ∧ H.n ≤ 11 ∧ (H.c = 0 → H.n = 0) ∧ H.slot ≤ 1099511627776 ∧ H.time ≤ 1099511627776 ∧ H.text.size ≤ 131072 ∧ H.text.size ≤ p.size ∧ H.cnt ≤ 64 := by
  obtain ⟨r1, e1, frm, r2, e2, tt, r3, e3, sub, r4, e4, c, n, r5, e5, slot, r6, e6, time, r7, e7, ok, r8, e8, text, r9, e9, cnt, q1, q2, q3, q4, q5, q6, q7, q8, q9, hH, l1, l2, l3, l4, l5, l6, l7, l8, l9, hc⟩ := headR_ways p
  rw [hH] at h
  simp only at h
  subst h
  obtain ⟨rfl, f9, m9⟩ := nS_form (by decide) q9
  obtain ⟨rfl, f8⟩ := sS_form q8
  have m8 := sS_most (by decide) q8
  obtain ⟨rfl, f7⟩ := bS_form q7
  obtain ⟨rfl, f6, m6⟩ := nS_form (by decide) q6
  obtain ⟨rfl, f5, m5⟩ := nS_form (by decide) q5
  obtain ⟨rfl, f4, n4, z4, c4⟩ := getS_form q4
  obtain ⟨rfl, f3, m3⟩ := nS_form (by decide) q3
  obtain ⟨rfl, f2, m2⟩ := nS_form (by decide) q2
  obtain ⟨_, f1, m1⟩ := nS_form (by decide) q1
  refine ⟨_, hH, ?_, by show frm ≤ _; omega, by show tt ≤ _; omega, by show sub ≤ _; omega, c4, n4, z4, by show slot ≤ _; omega, by show time ≤ _; omega, by show text.size ≤ _; omega, by show text.size ≤ _; omega, hc⟩
  simp only [inHead]
  rw [f1, f2, f3, f4, f5, f6, f7, f8, f9]
  simp only [← ofL_app, glue]
theorem open_full {s t : ByteArray} {k : Nat} (h : openB s = (k, t, 0)) (hs : ¬ t.size + 8 < s.size) : rframe k t = s := by
  have hok := openB_ok s k t h
  unfold openB at h
  split at h
  · simp at h
  · split at h
    · simp at h
    · split at h
      · simp at h
      · split at h
        · simp at h
        · rename_i h1 h2 h3 h4
          split at h
          · simp at h
          · rename_i h5
            simp only [Prod.mk.injEq, and_true] at h
            obtain ⟨rfl, rfl⟩ := h
            have hz : (s.extract 4 (4 + n3 s)).size = n3 s := by simp; omega
            rw [hz] at hs hok
            have hi := (rframe_iff s (by omega) (by omega)).2 (by omega)
            rw [hi, show n3 s + 8 = s.size by omega]
            exact ByteArray.extract_zero_size
theorem Mg.check_fit {m : Mg} (h : MFit m) : m.check = 0 := by
  have h1 : kindB m.kd = true := by have := h.kd; simp only [kindB, Bool.and_eq_true, decide_eq_true_eq]; omega
  have bal : ∀ c n : Int, 0 ≤ c → 0 ≤ n ∧ n ≤ 11 → (c = 0 → n = 0) → balB c n = true := fun c n hc hn hz => by
    simp only [balB, Bool.and_eq_true, Bool.or_eq_true, decide_eq_true_eq, upB_iff]
    refine ⟨hn, ?_⟩
    by_cases h0 : c = 0
    · right; exact ⟨h0, hz h0⟩
    · left; omega
  have h2 : rangeB m.frm m.tt m.sub m.c m.n m.slot m.time m.L = true := by
    simp only [rangeB, Bool.and_eq_true, upB_iff, Bool.not_eq_true', List.any_eq_false]
    refine ⟨h.frm, h.tt, h.sub, bal _ _ h.c.1 h.n h.z, h.slot, h.time, fun y hy => ?_⟩
    have e := h.ent y hy
    simp only [badE, Bool.or_eq_true, Bool.not_eq_true', not_or, Bool.not_eq_false, upB_iff]
    exact ⟨e.slot, bal _ _ e.c.1 e.n e.z⟩
  have h3 : shortB m.text m.L = true := by
    simp only [shortB, Bool.and_eq_true, decide_eq_true_eq, Bool.not_eq_true', List.any_eq_false, bigE]
    refine ⟨h.text, h.len, fun y hy => ?_⟩
    have := (h.ent y hy).text
    omega
  show checkM _ _ _ _ _ _ _ _ _ _ = 0
  unfold checkM
  rw [if_pos h1, if_pos h2, if_pos h3, if_pos h.chain]
theorem parse_form {s : ByteArray} {m : Mg} (hs : s.size ≤ 1000) (h : parseM s = (0, m)) : m.Sm ∧ m.check = 0 ∧ m.bytes = s := by
  obtain ⟨k, t, en, hO⟩ : ∃ a b c, openB s = (a, b, c) := ⟨_, _, _, rfl⟩
  unfold parseM at h
  rw [hO] at h
  simp only at h
  by_cases h0 : en ≠ 0
  · rw [if_pos h0] at h; simp only [Prod.mk.injEq] at h; exact absurd h.1 h0
  rw [if_neg h0] at h
  obtain rfl : en = 0 := by omega
  by_cases h1 : 13 < k
  · rw [if_pos h1] at h; simp at h
  rw [if_neg h1] at h
  by_cases h2 : doneE (inR t).r (inR t).e ≠ 0
  · rw [if_pos h2] at h; simp only [Prod.mk.injEq] at h; exact absurd h.1 h2
  rw [if_neg h2] at h
  by_cases h3 : t.size + 8 < s.size
  · rw [if_pos h3] at h; simp at h
  rw [if_neg h3] at h
  simp only [Prod.mk.injEq, true_and] at h
  obtain ⟨d1, d2⟩ := done_zero (show doneE (inR t).r (inR t).e = 0 by omega)
  have hok := openB_ok s k t hO
  have hf := open_full hO h3
  obtain ⟨e0, e1, e2, e3, _⟩ := entsR_form (headR t).r (headR t).e (headR t).cnt d2
  obtain ⟨H, hH, g1, g2, g3, g4, g5, g6, g7, g8, g9, g10, g11, g12⟩ := headR_form t e0
  have hlen := entsR_len (headR t).r (headR t).e (headR t).cnt
  have hI : inR t = entsR (headR t).r (headR t).e (headR t).cnt := rfl
  rw [← hI] at e1 e2 e3 hlen
  rw [hH] at h e3 hlen
  have hr : (inR t).r = ⟨#[]⟩ := eB (List.eq_nil_of_length_eq_zero (by rw [lenB]; exact d1))
  rw [hr] at e3
  generalize (inR t).L = L at *
  clear hI hr d1 d2 e0 h2 hH
  subst h
  obtain ⟨Hr, He, frm, tt, sub, c, n, slot, time, ok, text, cnt⟩ := H
  simp only at g1 g2 g3 g4 g5 g6 g7 g8 g9 g10 g11 g12 e3 hlen
  subst hlen
  have hfit : MFit (mgOf k ⟨Hr, He, frm, tt, sub, c, n, slot, time, ok, text, L.length⟩ L) := by
    refine ⟨?_, ?_, ?_, ?_, ?_, ?_, ?_, ?_, ?_, g10, g12, e1, e2⟩
    all_goals (unfold mgOf; simp only)
    all_goals omega
  have hsm : (mgOf k ⟨Hr, He, frm, tt, sub, c, n, slot, time, ok, text, L.length⟩ L).Sm := by
    have wf : ∀ x : Int, 0 ≤ x → x ≤ 1099511627776 → (Lit.int .i64 x).wf = true := fun x h1 h2 => by simp [Lit.wf, IntKind.min, IntKind.max, IntKind.bits, IntKind.signed]; omega
    refine ⟨wf _ ?_ ?_, wf _ ?_ ?_, wf _ ?_ ?_, wf _ hfit.slot.1 hfit.slot.2, wf _ hfit.time.1 hfit.time.2, hfit.c, ?_, ?_, fun y hy => ?_⟩
    · exact hfit.frm.1
    · have := hfit.frm.2; omega
    · exact hfit.tt.1
    · have := hfit.tt.2; omega
    · exact hfit.sub.1
    · have := hfit.sub.2; omega
    · show text.size ≤ 1000; omega
    · show L.length ≤ 100; omega
    · have := e1 y hy
      exact ⟨wf _ this.slot.1 this.slot.2, this.c.1, this.c.2, by have := this.text; omega⟩
  have hck := Mg.check_fit hfit
  refine ⟨hsm, hck, ?_⟩
  rw [Mg.bytes_eq hsm hck, ← hf]
  unfold Mg.inside mgOf inL
  simp only [Int.toNat_natCast]
  rw [g1, e3, show (⟨#[]⟩ : ByteArray) = ofL [] from rfl, ofL_app (L.flatMap insE) [], List.append_nil, ofL_app]
end Go.Proofs.Ytihhfdkcggnjpaa
