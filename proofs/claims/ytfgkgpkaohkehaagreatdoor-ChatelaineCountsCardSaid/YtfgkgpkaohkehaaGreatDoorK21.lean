import Derived.Test.YtfgkgpkaohkehaaGreatDoorK20
import Derived.WalkKit
import Derived.ProofKit
import Derived.LoopTactic
import Derived.Outline
import Derived.WalkSpells
import Derived.WalkLawsBesides
import Derived.Lib.Hide
import Derived.Deep.LoopGhost
import Derived.Deep.QuietTactic
import Derived.BigQuiet
import Derived.ShutString
import Derived.Test.YtfgkgpkaohkehaaGreatDoorK9
import Derived.Test.YtfgkgpkaohkehaaGreatDoorK13
import Derived.IntWalk
import Derived.Deep.RegionHeld3
namespace Go.Proofs.YtfgkgpkaohkehaaGreatDoor
open Enc Bal
set_option linter.unusedVariables false
set_option linter.unusedSimpArgs false
theorem ofL_inj {a b : List UInt8} (h : ofL a = ofL b) : a = b := by rw [← bytesOf_ofL a, h, bytesOf_ofL]
theorem encU_inj {v v' : Nat} {r r' : List UInt8} (hv : v < 18446744073709551616) (hv' : v' < 18446744073709551616) (h : encU v ++ r = encU v' ++ r') : v = v' ∧ r = r' := by
  have h1 := uS_back (ofL (encU v ++ r)) v r hv (bytesOf_ofL _)
  have h2 := uS_back (ofL (encU v ++ r)) v' r' hv' (by rw [bytesOf_ofL, h])
  rw [h1] at h2
  simp only [Prod.mk.injEq, true_and] at h2
  exact ⟨h2.2, ofL_inj h2.1⟩
theorem encN_inj {v v' : Int} {r r' : List UInt8} (hv : 0 ≤ v ∧ v < 18446744073709551616) (hv' : 0 ≤ v' ∧ v' < 18446744073709551616) (h : encN v ++ r = encN v' ++ r') : v = v' ∧ r = r' := by
  unfold encN at h
  have := encU_inj (by omega) (by omega) h
  exact ⟨by omega, this.2⟩
theorem encB_inj {v v' : Bool} {r r' : List UInt8} (h : encB v ++ r = encB v' ++ r') : v = v' ∧ r = r' := by
  simp only [encB, List.cons_append, List.nil_append, List.cons.injEq] at h
  refine ⟨?_, h.2⟩
  cases v <;> cases v' <;> first | rfl | exact absurd h.1 (by decide)
theorem encS_inj {v v' : ByteArray} {r r' : List UInt8} (hv : v.size ≤ 1000) (hv' : v'.size ≤ 1000) (h : Enc.encS (bytesOf v) ++ r = Enc.encS (bytesOf v') ++ r') : v = v' ∧ r = r' := by
  unfold Enc.encS at h
  rw [lenB, lenB, List.append_assoc, List.append_assoc] at h
  obtain ⟨h1, h2⟩ := encU_inj (by omega) (by omega) h
  obtain ⟨h3, h4⟩ := List.append_inj h2 (by rw [lenB, lenB, h1])
  exact ⟨by rw [← ofL_bytes v, h3, ofL_bytes], h4⟩
def EGood (y : E) : Prop := 0 ≤ y.slot ∧ y.slot < 18446744073709551616 ∧ 0 ≤ y.c ∧ y.c < 18446744073709551616 ∧ 0 ≤ y.n ∧ y.n ≤ 11 ∧ y.text.size ≤ 1000
theorem insE_inj {x y : E} {r r' : List UInt8} (hx : EGood x) (hy : EGood y) (h : insE x ++ r = insE y ++ r') : x = y ∧ r = r' := by
  obtain ⟨xs, xc, xn, xt⟩ := x
  obtain ⟨ys, yc, yn, yt⟩ := y
  obtain ⟨a1, a2, a3, a4, a5, a6, a7⟩ := hx
  obtain ⟨b1, b2, b3, b4, b5, b6, b7⟩ := hy
  simp only [insE, List.append_assoc] at *
  obtain ⟨e1, h1⟩ := encN_inj ⟨a1, a2⟩ ⟨b1, b2⟩ h
  obtain ⟨e2, h2⟩ := encU_inj (by omega) (by omega) h1
  obtain ⟨e3, h3⟩ := encN_inj ⟨a5, by omega⟩ ⟨b5, by omega⟩ h2
  obtain ⟨e4, h4⟩ := encS_inj a7 b7 h3
  obtain rfl : xc = yc := by omega
  subst e1 e3 e4
  exact ⟨rfl, h4⟩
theorem insL_inj : ∀ {L M : List E}, L.length = M.length → (∀ y ∈ L, EGood y) → (∀ y ∈ M, EGood y) → L.flatMap insE = M.flatMap insE → L = M
  | [], [], _, _, _, _ => rfl
  | [], _ :: _, h, _, _, _ => by simp at h
  | _ :: _, [], h, _, _, _ => by simp at h
  | x :: L, y :: M, h, hL, hM, e => by
    rw [List.flatMap_cons, List.flatMap_cons] at e
    obtain ⟨e1, e2⟩ := insE_inj (hL x (by simp)) (hM y (by simp)) e
    rw [e1, insL_inj (by simpa using h) (fun z hz => hL z (by simp [hz])) (fun z hz => hM z (by simp [hz])) e2]
theorem inL_inj {f t s c n sl ti f2 t2 s2 c2 n2 sl2 ti2 : Nat} {ok ok2 : Bool} {tx tx2 : ByteArray} {L M : List E}
    (h : f < 18446744073709551616 ∧ t < 18446744073709551616 ∧ s < 18446744073709551616 ∧ c < 18446744073709551616 ∧ n ≤ 11 ∧ sl < 18446744073709551616 ∧ ti < 18446744073709551616 ∧ tx.size ≤ 1000 ∧ L.length ≤ 100 ∧ ∀ y ∈ L, EGood y)
    (h' : f2 < 18446744073709551616 ∧ t2 < 18446744073709551616 ∧ s2 < 18446744073709551616 ∧ c2 < 18446744073709551616 ∧ n2 ≤ 11 ∧ sl2 < 18446744073709551616 ∧ ti2 < 18446744073709551616 ∧ tx2.size ≤ 1000 ∧ M.length ≤ 100 ∧ ∀ y ∈ M, EGood y)
    (e : inL f t s c n sl ti ok tx L = inL f2 t2 s2 c2 n2 sl2 ti2 ok2 tx2 M) : f = f2 ∧ t = t2 ∧ s = s2 ∧ c = c2 ∧ n = n2 ∧ sl = sl2 ∧ ti = ti2 ∧ ok = ok2 ∧ tx = tx2 ∧ L = M := by
  obtain ⟨a1, a2, a3, a4, a5, a6, a7, a8, a9, a10⟩ := h
  obtain ⟨b1, b2, b3, b4, b5, b6, b7, b8, b9, b10⟩ := h'
  replace e := ofL_inj e
  simp only [inHead, List.append_assoc] at e
  obtain ⟨e1, q1⟩ := encN_inj (by omega) (by omega) e
  obtain ⟨e2, q2⟩ := encN_inj (by omega) (by omega) q1
  obtain ⟨e3, q3⟩ := encN_inj (by omega) (by omega) q2
  obtain ⟨e4, q4⟩ := encU_inj (by omega) (by omega) q3
  obtain ⟨e5, q5⟩ := encN_inj (by omega) (by omega) q4
  obtain ⟨e6, q6⟩ := encN_inj (by omega) (by omega) q5
  obtain ⟨e7, q7⟩ := encN_inj (by omega) (by omega) q6
  obtain ⟨e8, q8⟩ := encB_inj q7
  obtain ⟨e9, q9⟩ := encS_inj a8 b8 q8
  obtain ⟨e10, q10⟩ := encN_inj (by omega) (by omega) q9
  exact ⟨by omega, by omega, by omega, e4, by omega, by omega, by omega, e8, e9, insL_inj (by omega) a10 b10 q10⟩
end Go.Proofs.YtfgkgpkaohkehaaGreatDoor
namespace Go.Proofs.YtfgkgpkaohkehaaGreatDoor
open Go.ChangeShapes Go.WideShapes Go.ChangeAt Go.RowKit
open Enc
set_option linter.unusedVariables false
section
variable {P : Program} (w : World)
/-- A text's bytes are appended: the new slice lies in the old row or in a new block. -/
theorem wpList_append_text_lies {ops : Array Oper} {rest : List Oper} {o : Oper} {a : Act} {Q : Exit → Act → World → Prop} (hgd : o.guard = none) (sl x : Operand) (t u : TypeId)
    (ho : o.op = .call { callee := .builtin .append, args := #[sl, x], argTypes := #[t, u] })
    (base : Nat) (e : TypeId) (i : TypeInfo) (ht : P.underlying t = some (.slice e)) (hu : P.underlying u = some .string) (hi : P.info? e = some i) (hz : i.zero = some (.int .u8 0))
    (hsize : i.size = 1) (hby : i.bytes = 1)
    (v : Value) (n : Nat) (xs : List Value) (hs : a.eval sl = v) (hown : w.ownsRow base e 1 v n xs) (s : ByteArray) (hx : a.eval x = .string s)
    (h63 : n + s.size ≤ maxLen) (hbytes : n + s.size ≤ 140737488355328) (hbase : base ≤ w.heap.size)
    (h : ∀ v' w', w'.ownsRow base e 1 v' (n + s.size) (xs ++ Lib.strCells s) → w.grownBy w' v.ownBlock → (∀ g, v'.ownBlock = some g → v.ownBlock = some g ∨ w.heap.size ≤ g) → wpList P ops Q rest (a.put o.dst v') w') : wpList P ops Q (o :: rest) a w := by
  refine wpList_plain hgd fun K hK => ?_
  obtain ⟨v', w', hr, h2, h3, _⟩ := Lib.run_append_own_string (P := P) w base t u o.type e i ht hu hi hz hsize hby v n xs hown s h63 hbytes hbase
  have hat : ∀ g, v'.ownBlock = some g → v.ownBlock = some g ∨ w.heap.size ≤ g := by
    intro g hg
    have hxl : xs.length = n := by simpa using hown.1
    rcases hown.2 with ⟨rfl, rfl⟩ | ⟨k, cap, cur, rfl, hbg, hk, hnc, hcm, hcs, htake⟩
    · obtain ⟨v2, w2, hr2, k2, _, _⟩ := Lib.run_append_own_string (P := P) w w.heap.size t u o.type e i ht hu hi hz hsize hby (.slice none 0 0) 0 [] (World.ownsRow_nil _ _ _ _) s h63 hbytes (Nat.le_refl _)
      rw [hr] at hr2
      injection hr2 with e1 e2
      subst e1
      exact .inr (k2.lt g hg).1
    · by_cases hroom : n + s.size ≤ cap
      · have hcs' : cur.size = cap := by simpa using hcs
        have hr2 := Lib.run_append_room_string (P := P) w t u o.type e i ht hu hi hsize k n cap cur hk s hroom (by omega)
        rw [hr] at hr2
        injection hr2 with e1 e2
        subst e1
        exact .inl hg
      · have holds : ∀ j u, xs[j]? = some u → w.cell? ((⟨k, 0, none⟩ : Addr).add j) = some u := hown.cells (g := k) rfl
        have h63' : ((n + s.size : Nat) : Int) ≤ 9223372036854775807 := by simp only [maxLen] at h63; omega
        have hr2 := Lib.run_append_grow_string (P := P) w t u o.type e i (.int .u8 0) ht hu hi hz ⟨k, 0, none⟩ n cap xs (by rw [hsize]; simpa using hxl) holds s (by omega) h63' (by rw [hby]; exact growslice_fits (by omega) (by omega))
        rw [hr] at hr2
        injection hr2 with e1 e2
        subst e1
        simp [Value.ownBlock] at hg
        exact .inr (by omega)
  unfold Oper.wp execOp
  simp only [ho, resolve, invoke, builtin, Sem.run_bind, Sem.run_pure, Result.andThen_ok, List.map_toArray, List.map_cons, List.map_nil, hs, hx, hr]
  exact hK _ _ (h v' w' h2 h3 hat)
end
/-- As 'wr_keeps', of any slice. -/
theorem wr_keeps_any {w w0 w1 : World} {p n cap : Nat} {v u : Value} {a : Option Addr} (hc : w.cell? ⟨p, 0, none⟩ = some v) (hg : Gr w w0) (hgrow : w0.grownBy w1 v.ownBlock) (hat : ∀ g, (Value.slice a n cap).ownBlock = some g → v.ownBlock = some g ∨ w.heap.size ≤ g) (hc1 : w1.cell? ⟨p, 0, none⟩ = some u) :
    Keeps p w (w1.setCell ⟨p, 0, none⟩ (.slice a n cap)) := by
  have hs := hg.size
  refine ⟨by have := hgrow.size; simp [World.setCell]; omega, fun b hb hne hf => ⟨?_, ?_⟩⟩
  · rw [Below.heap_setCell _ _ _ _ hne, hgrow.block b (by omega) (fun e => hf v hc e.symm)]
    exact hg.below.block b hb
  · intro x hx
    rw [World.cell?_setCell_same' _ _ _ (by rw [hc1]; rfl)] at hx
    simp only [Option.some.injEq] at hx
    subst hx
    intro e
    rcases hat b e with h1 | h1
    · exact hf v hc h1
    · omega
set_option maxRecDepth 100000 in
set_option maxHeartbeats 1000000 in
theorem wS_keeps (p b off : Nat) (s : ByteArray) (l : List UInt8) (w : World) (h : WrIs w p l) (hc : w.cell? ⟨b, off, none⟩ = some (.string s)) (hl : l.length ≤ 100000000) (hs : s.size ≤ 100000000) :
    Calls Tryz.prog 36 #[.pointer (some ⟨p, 0, none⟩), .slice (some ⟨b, off, none⟩) 1 1] w fun e w' => e = .returned (.pointer (some ⟨p, 0, none⟩)) ∧ WrIs w' p (l ++ Enc.encS (bytesOf s)) ∧ Below p w w' ∧ Keeps p w w' := by
  obtain ⟨i0, hi, hz0, hz1, hz2⟩ := info_parts info_u8
  have H := Lib.hid h
  clear h
  go_enter Tryz.func36, Tryz.ntmps36
  go_wp2
  go_loopw [9] (fun i wr => (i = .int .i64 0 ∧ wr = w) ∨ (i = .int .i64 1 ∧ Hid (WrIs wr p (l ++ Enc.encS (bytesOf s))) ∧ Below p w wr ∧ Hid (Keeps p w wr))) (fun i _ => 1 - (intOf i).toNat)
  case atStart => exact .inl ⟨rfl, rfl⟩
  case round =>
    rcases hrel with ⟨rfl, rfl⟩ | ⟨rfl, hW, hB, hK⟩
    · go_wp2_with fail
      refine (number_any p s.size l _ H.out (by omega)).mono ?_
      rintro e w1 ⟨rfl, hW1, hB1, hK1⟩
      have hle := encU_le s.size
      have hL : (l ++ encU s.size).length ≤ 100000009 := by rw [List.length_append]; omega
      have HE := Lib.hid (show Enc.encS (bytesOf s) = encU s.size ++ bytesOf s by unfold Enc.encS; rw [show (bytesOf s).length = s.size by simp [bytesOf]])
      generalize hLL : l ++ encU s.size = L at *
      have HL := Lib.hid hLL; clear hLL hle
      obtain ⟨a0, c0, hcp, hf, hp, hown⟩ := hW1
      have Hcp := Lib.hid hcp
      have HK1 := Lib.hid hK1; clear hK1
      go_wp2_with (refine wpList_append_text_lies _ rfl (.tmp 22) (.tmp 23) 78 9 rfl (p + 1) 5 i0 Tryz.underlying78 Tryz.underlying9 hi hz0 hz1 hz2 _ _ _ rfl hown s rfl (by unfold maxLen; omega) (by omega) (by omega) ?_)
      intro v' w2 hown2 hgrow hat2
      obtain ⟨a2, c2, rfl, _⟩ := ownsRow_slice hown2
      obtain ⟨hc1, hf1, hp1, hB2⟩ := wr_grow hp Hcp.out hf hown (Gr.refl _) hgrow
      have hst : bCells L ++ Lib.strCells s = bCells (L ++ bytesOf s) := by simp [bCells, Lib.strCells, bytesOf]
      rw [hst] at hown2
      obtain ⟨hW2, hB3⟩ := wr_store hp1 hc1 hf1 (by simp [bytesOf]) hown2
      have hB4 := (hB1.trans hB2).trans hB3
      have HW2 := Lib.hid hW2
      have HK2 := Lib.hid (HK1.out.trans (wr_keeps_any Hcp.out (Gr.refl _) hgrow hat2 hc1))
      clear hgrow hown hown2 hf hcp hB1 hB2 hB3 hW2 hst hat2
      go_wp2
      go_roundw
      case rel => exact .inr ⟨rfl, (by show WrIs _ p _; rw [HE.out, ← List.append_assoc, HL.out]; exact HW2.out), hB4, HK2⟩
      case measure => simp [intOf]
    · go_wp2
      go_ret
      exact ⟨rfl, hW, hB, hK.out⟩
end Go.Proofs.YtfgkgpkaohkehaaGreatDoor
namespace Go.Proofs.YtfgkgpkaohkehaaGreatDoor
open Go.ChangeShapes Go.WideShapes Go.ChangeAt Go.RowKit
open Enc Bal
set_option linter.unusedVariables false
set_option linter.unusedSimpArgs false
theorem cutZ0 {G : World → Prop} {Q : Prop} (S : World → Prop) (main : (∀ w, S w → G w) → Q) (rest : ∀ w, S w → G w) : Q := main rest
theorem cutZ1 {G : Nat → World → Prop} {Q : Prop} (S : Nat → World → Prop) (main : (∀ p w, S p w → G p w) → Q) (rest : ∀ p w, S p w → G p w) : Q := main rest
theorem cutZ2 {G : Nat → Nat → World → Prop} {Q : Prop} (S : Nat → Nat → World → Prop) (main : (∀ p q w, S p q w → G p q w) → Q) (rest : ∀ p q w, S p q w → G p q w) : Q := main rest
theorem cutZ3 {G : Nat → Nat → Nat → World → Prop} {Q : Prop} (S : Nat → Nat → Nat → World → Prop) (main : (∀ p q r w, S p q r w → G p q r w) → Q) (rest : ∀ p q r w, S p q r w → G p q r w) : Q := main rest
theorem cutZ4 {G : Nat → Nat → Nat → Nat → World → Prop} {Q : Prop} (S : Nat → Nat → Nat → Nat → World → Prop) (main : (∀ p q r s w, S p q r s w → G p q r s w) → Q) (rest : ∀ p q r s w, S p q r s w → G p q r s w) : Q := main rest
theorem keeps_gr {p : Nat} {w w' : World} (hp : p < w.heap.size) (hg : Gr w w') : Keeps p w w' := ⟨hg.size, fun b hb _ hf => ⟨hg.below.block b hb, hf.gr hp hg⟩⟩
/-- A Writer in block p that holds these bytes, and what has turned since a world. -/
def St (p : Nat) (wd : World) (l : List UInt8) (w : World) : Prop := WrIs w p l ∧ Keeps p wd w ∧ Below p wd w
/-- A block beside the Writer, with these cells. -/
def Sl (p : Nat) (w : World) (s : Nat) (vs : List Value) : Prop := s ≠ p ∧ Free w p s ∧ s < w.heap.size ∧ ∀ i v, vs[i]? = some v → w.cell? ⟨s, i, none⟩ = some v
theorem St.start {p : Nat} {w : World} {l : List UInt8} (h : WrIs w p l) : St p w l w := ⟨h, Keeps.refl _ _, Below.refl _ _⟩
theorem St.gr {p : Nat} {wd w w' : World} {l : List UInt8} (h : St p wd l w) (hg : Gr w w') : St p wd l w' :=
  ⟨h.1.gr hg, h.2.1.trans (keeps_gr (wrLt h.1) hg), h.2.2.trans (hg.below.mono (Nat.le_of_lt (wrLt h.1)))⟩
theorem St.call {p : Nat} {wd w w' : World} {l l' : List UInt8} (h : St p wd l w) (hW : WrIs w' p l') (hB : Below p w w') (hK : Keeps p w w') : St p wd l' w' := ⟨hW, h.2.1.trans hK, h.2.2.trans hB⟩
theorem St.sub {p : Nat} {w0 wd w : World} {l l' : List UInt8} (h : St p wd l w) (h0 : St p w0 l' wd) : St p w0 l w := ⟨h.1, h0.2.1.trans h.2.1, h0.2.2.trans h.2.2⟩
theorem Sl.gr {p : Nat} {wd w w' : World} {l : List UInt8} {s : Nat} {vs : List Value} (hS : St p wd l w) (h : Sl p w s vs) (hg : Gr w w') : Sl p w' s vs :=
  ⟨h.1, h.2.1.gr (wrLt hS.1) hg, Nat.lt_of_lt_of_le h.2.2.1 hg.size, fun i v hv => hg.cell (h.2.2.2 i v hv)⟩
theorem Sl.keeps {p : Nat} {w w' : World} {s : Nat} {vs : List Value} (h : Sl p w s vs) (hk : Keeps p w w') : Sl p w' s vs :=
  ⟨h.1, (hk.2 s h.2.2.1 h.1 h.2.1).2, Nat.lt_of_lt_of_le h.2.2.1 hk.1, fun i v hv => hk.cell h.1 h.2.1 (h.2.2.2 i v hv)⟩
theorem Sl.new {p : Nat} {wd w : World} {l : List UInt8} (hS : St p wd l w) (cs : List Value) (t : TypeId) : Sl p (w.alloc (.cells cs.toArray t)) w.heap.size cs :=
  ⟨by have := wrLt hS.1; omega, free_new hS.1 _, by simp, fun i v hv => new_cell rfl (by simpa using hv)⟩
theorem Sl.old {p : Nat} {w : World} {l : List UInt8} {s : Nat} {vs : List Value} (hW : WrIs w p l) (hb : s < p) (hc : ∀ i v, vs[i]? = some v → w.cell? ⟨s, i, none⟩ = some v) : Sl p w s vs := by
  have hp := wrLt hW
  obtain ⟨a, cap, hc', _, _, hown⟩ := hW
  refine ⟨by omega, ?_, by omega, hc⟩
  intro v hv
  rw [hc'] at hv
  cases hv
  intro e
  have := hown.lt s e
  omega
theorem stN1 {p s : Nat} {wd w : World} {l : List UInt8} (x : Int) (hS : St p wd l w) (hs : Sl p w s [.int .i64 x]) (hl : l.length ≤ 1000000) (hx : x ≤ 9223372036854775807) :
    Calls Tryz.prog 34 #[.pointer (some ⟨p, 0, none⟩), .slice (some ⟨s, 0, none⟩) 1 1] w fun e w' => e = .returned (.pointer (some ⟨p, 0, none⟩)) ∧ St p wd (l ++ encN x) w' ∧ Keeps p w w' := by
  refine (wN_any p s 0 [x] l w hS.1 hs.1 hs.2.1 (fun i hi => ?_) hl (by simp) (by intro v hv; simp at hv; omega)).mono ?_
  · match i, hi with
    | 0, _ => exact hs.2.2.2 0 _ rfl
  · rintro e w' ⟨rfl, hW, hB, hK⟩
    exact ⟨rfl, hS.call (by simpa [encNs] using hW) hB hK, hK⟩
theorem stN2 {p s : Nat} {wd w : World} {l : List UInt8} (x y : Int) (hS : St p wd l w) (hs : Sl p w s [.int .i64 x, .int .i64 y]) (hl : l.length ≤ 1000000) (hx : x ≤ 9223372036854775807) (hy : y ≤ 9223372036854775807) :
    Calls Tryz.prog 34 #[.pointer (some ⟨p, 0, none⟩), .slice (some ⟨s, 0, none⟩) 2 2] w fun e w' => e = .returned (.pointer (some ⟨p, 0, none⟩)) ∧ St p wd (l ++ (encN x ++ encN y)) w' ∧ Keeps p w w' := by
  refine (wN_any p s 0 [x, y] l w hS.1 hs.1 hs.2.1 (fun i hi => ?_) hl (by simp) (by intro v hv; simp at hv; omega)).mono ?_
  · match i, hi with
    | 0, _ => exact hs.2.2.2 0 _ rfl
    | 1, _ => exact hs.2.2.2 1 _ rfl
  · rintro e w' ⟨rfl, hW, hB, hK⟩
    exact ⟨rfl, hS.call (by simpa [encNs] using hW) hB hK, hK⟩
theorem stN3 {p s : Nat} {wd w : World} {l : List UInt8} (x y z : Int) (hS : St p wd l w) (hs : Sl p w s [.int .i64 x, .int .i64 y, .int .i64 z]) (hl : l.length ≤ 1000000) (hx : x ≤ 9223372036854775807) (hy : y ≤ 9223372036854775807) (hz : z ≤ 9223372036854775807) :
    Calls Tryz.prog 34 #[.pointer (some ⟨p, 0, none⟩), .slice (some ⟨s, 0, none⟩) 3 3] w fun e w' => e = .returned (.pointer (some ⟨p, 0, none⟩)) ∧ St p wd (l ++ (encN x ++ (encN y ++ encN z))) w' ∧ Keeps p w w' := by
  refine (wN_any p s 0 [x, y, z] l w hS.1 hs.1 hs.2.1 (fun i hi => ?_) hl (by simp) (by intro v hv; simp at hv; omega)).mono ?_
  · match i, hi with
    | 0, _ => exact hs.2.2.2 0 _ rfl
    | 1, _ => exact hs.2.2.2 1 _ rfl
    | 2, _ => exact hs.2.2.2 2 _ rfl
  · rintro e w' ⟨rfl, hW, hB, hK⟩
    exact ⟨rfl, hS.call (by simpa [encNs] using hW) hB hK, hK⟩
theorem stU1 {p s : Nat} {wd w : World} {l : List UInt8} (x : Nat) (hS : St p wd l w) (hs : Sl p w s [.int .u64 (x : Nat)]) (hl : l.length ≤ 1000000) :
    Calls Tryz.prog 64 #[.pointer (some ⟨p, 0, none⟩), .slice (some ⟨s, 0, none⟩) 1 1] w fun e w' => e = .returned (.pointer (some ⟨p, 0, none⟩)) ∧ St p wd (l ++ encU x) w' ∧ Keeps p w w' := by
  refine (wU_1 p x s l w hS.1 hs.1 hs.2.1 hs.2.2.1 (hs.2.2.2 0 _ rfl) hl).mono ?_
  rintro e w' ⟨rfl, hW, hB, hK⟩
  exact ⟨rfl, hS.call hW hB hK, hK⟩
theorem stB {p s : Nat} {wd w : World} {l : List UInt8} (x : Bool) (hS : St p wd l w) (hs : Sl p w s [.bool x]) (hl : l.length ≤ 1000000) :
    Calls Tryz.prog 35 #[.pointer (some ⟨p, 0, none⟩), .slice (some ⟨s, 0, none⟩) 1 1] w fun e w' => e = .returned (.pointer (some ⟨p, 0, none⟩)) ∧ St p wd (l ++ encB x) w' ∧ Keeps p w w' := by
  refine (wB_one p s 0 x l w hS.1 (hs.2.2.2 0 _ rfl) (by omega)).mono ?_
  rintro e w' ⟨rfl, hW, hB, hK⟩
  exact ⟨rfl, hS.call hW hB hK, hK⟩
theorem stS {p s : Nat} {wd w : World} {l : List UInt8} (x : ByteArray) (hS : St p wd l w) (hs : Sl p w s [.string x]) (hl : l.length ≤ 1000000) (hx : x.size ≤ 1000000) :
    Calls Tryz.prog 36 #[.pointer (some ⟨p, 0, none⟩), .slice (some ⟨s, 0, none⟩) 1 1] w fun e w' => e = .returned (.pointer (some ⟨p, 0, none⟩)) ∧ St p wd (l ++ Enc.encS (bytesOf x)) w' ∧ Keeps p w w' := by
  refine (wS_keeps p s 0 x l w hS.1 (hs.2.2.2 0 _ rfl) (by omega) (by omega)).mono ?_
  rintro e w' ⟨rfl, hW, hB, hK⟩
  exact ⟨rfl, hS.call hW hB hK, hK⟩
set_option maxRecDepth 100000 in
set_option maxHeartbeats 2000000 in
theorem bPutK_any (p c n : Nat) (l : List UInt8) (w : World) (h : WrIs w p l) (hl : l.length ≤ 900000) (hn : n ≤ 11) :
    Calls Tryz.prog 33 #[.agg #[.int .u64 c, .int .i64 n], .pointer (some ⟨p, 0, none⟩)] w fun e w' => e = .returned (.tuple #[]) ∧ WrIs w' p (l ++ encU c ++ encN n) ∧ Below p w w' ∧ Keeps p w w' := by
  have hul := encU_le c
  have hp := wrLt h
  go_enter Tryz.func33, Tryz.ntmps33
  go_wp2
  have HSB := Lib.hid (Sl.new (St.start h) [.int .u64 (c : Nat), .int .i64 (n : Nat)] 38)
  have HS1 := Lib.hid ((St.start h).gr ((Gr.refl w).alloc (.cells #[.int .u64 (c : Nat), .int .i64 (n : Nat)] 38)))
  have k0 := HSB.out.2.2.2 0 _ rfl
  have k1 := HSB.out.2.2.2 1 _ rfl
  have HS2 := HS1
  clear h
  generalize w.heap.size = b at *
  generalize w.alloc (.cells #[.int .u64 (c : Nat), .int .i64 (n : Nat)] 38) = wz at *
  refine wp_region_held_drew (S := (fun w9 => w9.cell? ⟨b, 0, none⟩ = some (.int .u64 (c : Nat)) ∧ w9.cell? ⟨b, 1, none⟩ = some (.int .i64 (n : Nat)))) (by kernel_rfl) ?invd (fun h0 => ?_)
  case invd => ((try dsimp only); exact ⟨k0, k1⟩)
  have HSt := Lib.hid (St.start (HS1.out.gr (Gr.refl wz).drew).1)
  replace HS1 := Lib.hid (HS1.out.gr (Gr.refl wz).drew)
  have HSl_b := Lib.hid (Sl.gr HS2.out HSB.out (Gr.refl wz).drew)
  clear HS2 HSB
  generalize wz.drew = wd at *
  refine wpAnyH_take (i := 0) (oi := { dst := some 4, op := Go.Op.move (Go.Operand.tmp 1), type := 82, pos := "ballot.go:54", after := #[], guard := none }) (v := ?vd0) rfl (by kernel_rfl) (by kernel_rfl) (by kernel_rfl) (fun _ _ _ h => h) (Or.inl ⟨by rfl, ?rd0⟩) (by assumption) ?_
  case rd0 => (intro w hSw; (try dsimp only at hSw); (go_simp <;> with_reducible rfl))
  try simp only [Act.put, List.setIfInBounds_toArray, List.set_cons_zero, List.set_cons_succ]
  refine wpAnyH_take (i := 1) (oi := { dst := some 5, op := Go.Op.fieldAddr 38 (Go.Operand.tmp 2) 0, type := 0, pos := "ballot.go:54", after := #[], guard := none }) (v := ?vd1) rfl (by kernel_rfl) (by kernel_rfl) (by kernel_rfl) (fun _ _ _ h => h) (Or.inl ⟨by rfl, ?rd1⟩) (by assumption) ?_
  case rd1 => (intro w hSw; (try dsimp only at hSw); (go_simp <;> with_reducible rfl))
  try simp only [Act.put, List.setIfInBounds_toArray, List.set_cons_zero, List.set_cons_succ]
  refine wpAnyH_take (i := 2) (oi := { dst := some 6, op := Go.Op.load 36 (Go.Operand.tmp 5), type := 36, pos := "ballot.go:54", after := #[{ on := 1, ground := Go.Ground.data }], guard := none }) (v := ?vd2) rfl (by kernel_rfl) (by kernel_rfl) (by kernel_rfl) (fun _ _ _ h => h) (Or.inl ⟨by rfl, ?rd2⟩) (by assumption) ?_
  case rd2 => (intro w hSw; (try dsimp only at hSw); (go_simp <;> with_reducible rfl))
  try simp only [Act.put, List.setIfInBounds_toArray, List.set_cons_zero, List.set_cons_succ]
  refine wpAnyH_take (i := 5) (oi := { dst := some 9, op := Go.Op.fieldAddr 38 (Go.Operand.tmp 2) 1, type := 0, pos := "ballot.go:54", after := #[], guard := none }) (v := ?vd5) rfl (by kernel_rfl) (by kernel_rfl) (by kernel_rfl) (fun _ _ _ h => h) (Or.inl ⟨by rfl, ?rd5⟩) (by assumption) ?_
  case rd5 => (intro w hSw; (try dsimp only at hSw); (go_simp <;> with_reducible rfl))
  try simp only [Act.put, List.setIfInBounds_toArray, List.set_cons_zero, List.set_cons_succ]
  refine wpAnyH_take (i := 6) (oi := { dst := some 10, op := Go.Op.load 3 (Go.Operand.tmp 9), type := 3, pos := "ballot.go:54", after := #[{ on := 5, ground := Go.Ground.data }], guard := none }) (v := ?vd6) rfl (by kernel_rfl) (by kernel_rfl) (by kernel_rfl) (fun _ _ _ h => h) (Or.inl ⟨by rfl, ?rd6⟩) (by assumption) ?_
  case rd6 => (intro w hSw; (try dsimp only at hSw); (go_simp <;> with_reducible rfl))
  try simp only [Act.put, List.setIfInBounds_toArray, List.set_cons_zero, List.set_cons_succ]
  apply cutZ2 (fun s3 s7 w9 => Hid (St p wd (l ++ encU c ++ encN (n : Int)) w9) ∧ Hid (Sl p w9 b [.int .u64 (c : Nat), .int .i64 (n : Nat)]))
  intro HLd6
  apply cutZ2 (fun s3 s7 w9 => Hid (St p wd (l ++ encU c) w9) ∧ Hid (Sl p w9 b [.int .u64 (c : Nat), .int .i64 (n : Nat)]) ∧ Hid (Sl p w9 s7 [.int .i64 (n : Nat)]))
  intro HLd5
  apply cutZ2 (fun s3 s7 w9 => Hid (St p wd (l) w9) ∧ Hid (Sl p w9 b [.int .u64 (c : Nat), .int .i64 (n : Nat)]) ∧ Hid (Sl p w9 s3 [.int .u64 (c : Nat)]) ∧ Hid (Sl p w9 s7 [.int .i64 (n : Nat)]))
  intro HLd4
  apply cutZ1 (fun s3 w9 => Hid (St p wd (l ++ encU c) w9) ∧ Hid (Sl p w9 b [.int .u64 (c : Nat), .int .i64 (n : Nat)]))
  intro HLd3
  apply cutZ1 (fun s7 w9 => Hid (St p wd (l) w9) ∧ Hid (Sl p w9 b [.int .u64 (c : Nat), .int .i64 (n : Nat)]) ∧ Hid (Sl p w9 s7 [.int .i64 (n : Nat)]))
  intro HLd2
  apply cutZ1 (fun s3 w9 => Hid (St p wd (l) w9) ∧ Hid (Sl p w9 b [.int .u64 (c : Nat), .int .i64 (n : Nat)]) ∧ Hid (Sl p w9 s3 [.int .u64 (c : Nat)]))
  intro HLd1
  · skip
    refine wpAnyH_ready (rs := [3, 7]) (by kernel_rfl) (by simp) ?_
    refine AllReadyH.cons (o := { dst := some 7, op := Go.Op.buildSlice 137 1 #[(0, Go.Operand.tmp 6)], type := 137, pos := "ballot.go:54", after := #[{ on := 2, ground := Go.Ground.data }], guard := none }) rfl (fun K hK => ?_) (AllReadyH.cons (o := { dst := some 11, op := Go.Op.buildSlice 61 1 #[(0, Go.Operand.tmp 10)], type := 61, pos := "ballot.go:54", after := #[{ on := 6, ground := Go.Ground.data }], guard := none }) rfl (fun K hK => ?_) AllReadyH.nil)
    · skip
      go_simp
      obtain ⟨s3, hsx⟩ : ∃ s, s = wd.heap.size := ⟨_, rfl⟩
      rw [← hsx]
      obtain ⟨wn, hwx⟩ : ∃ wn, wn = wd.alloc (.cells #[.int .u64 (c : Nat)] 36) := ⟨_, rfl⟩
      rw [← hwx]
      have gx : Gr wd wn := by rw [hwx]; exact (Gr.refl _).alloc _
      have HSl3 := Lib.hid (show Sl p wn s3 [.int .u64 (c : Nat)] from by rw [hwx, hsx]; exact Sl.new HSt.out _ _)
      replace HSl_b := Lib.hid (Sl.gr HSt.out HSl_b.out gx)
      replace HSt := Lib.hid (HSt.out.gr gx)
      clear gx hwx hsx
      first | refine hK.out _ _ ?sd0_3 (fun hp => ?_) | (go_wp2_with fail; refine hK.out _ _ ?sd0_3 (fun hp => ?_))
      case sd0_3 => ((try dsimp only); exact ⟨HSl_b.out.2.2.2 0 _ rfl, HSl_b.out.2.2.2 1 _ rfl⟩)
      clear hK K hp
      try simp only [Act.put, List.setIfInBounds_toArray, List.set_cons_zero, List.set_cons_succ]
      exact HLd1 s3 wn ⟨HSt, HSl_b, HSl3⟩
    · skip
      go_simp
      obtain ⟨s7, hsx⟩ : ∃ s, s = wd.heap.size := ⟨_, rfl⟩
      rw [← hsx]
      obtain ⟨wn, hwx⟩ : ∃ wn, wn = wd.alloc (.cells #[.int .i64 (n : Nat)] 3) := ⟨_, rfl⟩
      rw [← hwx]
      have gx : Gr wd wn := by rw [hwx]; exact (Gr.refl _).alloc _
      have HSl7 := Lib.hid (show Sl p wn s7 [.int .i64 (n : Nat)] from by rw [hwx, hsx]; exact Sl.new HSt.out _ _)
      replace HSl_b := Lib.hid (Sl.gr HSt.out HSl_b.out gx)
      replace HSt := Lib.hid (HSt.out.gr gx)
      clear gx hwx hsx
      first | refine hK.out _ _ ?sd0_7 (fun hp => ?_) | (go_wp2_with fail; refine hK.out _ _ ?sd0_7 (fun hp => ?_))
      case sd0_7 => ((try dsimp only); exact ⟨HSl_b.out.2.2.2 0 _ rfl, HSl_b.out.2.2.2 1 _ rfl⟩)
      clear hK K hp
      try simp only [Act.put, List.setIfInBounds_toArray, List.set_cons_zero, List.set_cons_succ]
      exact HLd2 s7 wn ⟨HSt, HSl_b, HSl7⟩
  · intro s3 wy hSt
    obtain ⟨HSt, HSl_b, HSl3⟩ := hSt
    refine wpAnyH_ready (rs := [4, 7]) (by kernel_rfl) (by simp) ?_
    refine AllReadyH.cons (o := { dst := some 8, op := Go.Op.call { callee := Go.Callee.value (Go.Operand.func 64), args := #[Go.Operand.tmp 4, Go.Operand.tmp 7], argTypes := #[82, 137] }, type := 82, pos := "ballot.go:54", after := #[{ on := 0, ground := Go.Ground.data }, { on := 3, ground := Go.Ground.data }], guard := none }) rfl (fun K hK => ?_) (AllReadyH.cons (o := { dst := some 11, op := Go.Op.buildSlice 61 1 #[(0, Go.Operand.tmp 10)], type := 61, pos := "ballot.go:54", after := #[{ on := 6, ground := Go.Ground.data }], guard := none }) rfl (fun K hK => ?_) AllReadyH.nil)
    · skip
      go_simp
      go_at_call 64
      refine (stU1 c HSt.out HSl3.out (by omega)).mono ?_
      rintro e wn ⟨rfl, hSt2, hK2⟩
      replace HSl_b := Lib.hid (Sl.keeps HSl_b.out hK2)
      replace HSt := Lib.hid hSt2
      clear hSt2 hK2
      clear HSl3
      first | refine hK.out _ _ ?sd1_4 (fun hp => ?_) | (go_wp2_with fail; refine hK.out _ _ ?sd1_4 (fun hp => ?_))
      case sd1_4 => ((try dsimp only); exact ⟨HSl_b.out.2.2.2 0 _ rfl, HSl_b.out.2.2.2 1 _ rfl⟩)
      clear hK K hp
      try simp only [Act.put, List.setIfInBounds_toArray, List.set_cons_zero, List.set_cons_succ]
      exact HLd3 s3 wn ⟨HSt, HSl_b⟩
    · skip
      go_simp
      obtain ⟨s7, hsx⟩ : ∃ s, s = wy.heap.size := ⟨_, rfl⟩
      rw [← hsx]
      obtain ⟨wn, hwx⟩ : ∃ wn, wn = wy.alloc (.cells #[.int .i64 (n : Nat)] 3) := ⟨_, rfl⟩
      rw [← hwx]
      have gx : Gr wy wn := by rw [hwx]; exact (Gr.refl _).alloc _
      have HSl7 := Lib.hid (show Sl p wn s7 [.int .i64 (n : Nat)] from by rw [hwx, hsx]; exact Sl.new HSt.out _ _)
      replace HSl_b := Lib.hid (Sl.gr HSt.out HSl_b.out gx)
      replace HSl3 := Lib.hid (Sl.gr HSt.out HSl3.out gx)
      replace HSt := Lib.hid (HSt.out.gr gx)
      clear gx hwx hsx
      first | refine hK.out _ _ ?sd1_7 (fun hp => ?_) | (go_wp2_with fail; refine hK.out _ _ ?sd1_7 (fun hp => ?_))
      case sd1_7 => ((try dsimp only); exact ⟨HSl_b.out.2.2.2 0 _ rfl, HSl_b.out.2.2.2 1 _ rfl⟩)
      clear hK K hp
      try simp only [Act.put, List.setIfInBounds_toArray, List.set_cons_zero, List.set_cons_succ]
      exact HLd4 s3 s7 wn ⟨HSt, HSl_b, HSl3, HSl7⟩
  · intro s7 wy hSt
    obtain ⟨HSt, HSl_b, HSl7⟩ := hSt
    refine wpAnyH_ready (rs := [3]) (by kernel_rfl) (by simp) ?_
    refine AllReadyH.cons (o := { dst := some 7, op := Go.Op.buildSlice 137 1 #[(0, Go.Operand.tmp 6)], type := 137, pos := "ballot.go:54", after := #[{ on := 2, ground := Go.Ground.data }], guard := none }) rfl (fun K hK => ?_) AllReadyH.nil
    go_simp
    obtain ⟨s3, hsx⟩ : ∃ s, s = wy.heap.size := ⟨_, rfl⟩
    rw [← hsx]
    obtain ⟨wn, hwx⟩ : ∃ wn, wn = wy.alloc (.cells #[.int .u64 (c : Nat)] 36) := ⟨_, rfl⟩
    rw [← hwx]
    have gx : Gr wy wn := by rw [hwx]; exact (Gr.refl _).alloc _
    have HSl3 := Lib.hid (show Sl p wn s3 [.int .u64 (c : Nat)] from by rw [hwx, hsx]; exact Sl.new HSt.out _ _)
    replace HSl_b := Lib.hid (Sl.gr HSt.out HSl_b.out gx)
    replace HSl7 := Lib.hid (Sl.gr HSt.out HSl7.out gx)
    replace HSt := Lib.hid (HSt.out.gr gx)
    clear gx hwx hsx
    first | refine hK.out _ _ ?sd2_3 (fun hp => ?_) | (go_wp2_with fail; refine hK.out _ _ ?sd2_3 (fun hp => ?_))
    case sd2_3 => ((try dsimp only); exact ⟨HSl_b.out.2.2.2 0 _ rfl, HSl_b.out.2.2.2 1 _ rfl⟩)
    clear hK K hp
    try simp only [Act.put, List.setIfInBounds_toArray, List.set_cons_zero, List.set_cons_succ]
    exact HLd4 s3 s7 wn ⟨HSt, HSl_b, HSl3, HSl7⟩
  · intro s3 wy hSt
    obtain ⟨HSt, HSl_b⟩ := hSt
    refine wpAnyH_ready (rs := [7]) (by kernel_rfl) (by simp) ?_
    refine AllReadyH.cons (o := { dst := some 11, op := Go.Op.buildSlice 61 1 #[(0, Go.Operand.tmp 10)], type := 61, pos := "ballot.go:54", after := #[{ on := 6, ground := Go.Ground.data }], guard := none }) rfl (fun K hK => ?_) AllReadyH.nil
    go_simp
    obtain ⟨s7, hsx⟩ : ∃ s, s = wy.heap.size := ⟨_, rfl⟩
    rw [← hsx]
    obtain ⟨wn, hwx⟩ : ∃ wn, wn = wy.alloc (.cells #[.int .i64 (n : Nat)] 3) := ⟨_, rfl⟩
    rw [← hwx]
    have gx : Gr wy wn := by rw [hwx]; exact (Gr.refl _).alloc _
    have HSl7 := Lib.hid (show Sl p wn s7 [.int .i64 (n : Nat)] from by rw [hwx, hsx]; exact Sl.new HSt.out _ _)
    replace HSl_b := Lib.hid (Sl.gr HSt.out HSl_b.out gx)
    replace HSt := Lib.hid (HSt.out.gr gx)
    clear gx hwx hsx
    first | refine hK.out _ _ ?sd3_7 (fun hp => ?_) | (go_wp2_with fail; refine hK.out _ _ ?sd3_7 (fun hp => ?_))
    case sd3_7 => ((try dsimp only); exact ⟨HSl_b.out.2.2.2 0 _ rfl, HSl_b.out.2.2.2 1 _ rfl⟩)
    clear hK K hp
    try simp only [Act.put, List.setIfInBounds_toArray, List.set_cons_zero, List.set_cons_succ]
    exact HLd5 s3 s7 wn ⟨HSt, HSl_b, HSl7⟩
  · intro s3 s7 wy hSt
    obtain ⟨HSt, HSl_b, HSl3, HSl7⟩ := hSt
    refine wpAnyH_ready (rs := [4]) (by kernel_rfl) (by simp) ?_
    refine AllReadyH.cons (o := { dst := some 8, op := Go.Op.call { callee := Go.Callee.value (Go.Operand.func 64), args := #[Go.Operand.tmp 4, Go.Operand.tmp 7], argTypes := #[82, 137] }, type := 82, pos := "ballot.go:54", after := #[{ on := 0, ground := Go.Ground.data }, { on := 3, ground := Go.Ground.data }], guard := none }) rfl (fun K hK => ?_) AllReadyH.nil
    go_simp
    go_at_call 64
    refine (stU1 c HSt.out HSl3.out (by omega)).mono ?_
    rintro e wn ⟨rfl, hSt2, hK2⟩
    replace HSl_b := Lib.hid (Sl.keeps HSl_b.out hK2)
    replace HSl7 := Lib.hid (Sl.keeps HSl7.out hK2)
    replace HSt := Lib.hid hSt2
    clear hSt2 hK2
    clear HSl3
    first | refine hK.out _ _ ?sd4_4 (fun hp => ?_) | (go_wp2_with fail; refine hK.out _ _ ?sd4_4 (fun hp => ?_))
    case sd4_4 => ((try dsimp only); exact ⟨HSl_b.out.2.2.2 0 _ rfl, HSl_b.out.2.2.2 1 _ rfl⟩)
    clear hK K hp
    try simp only [Act.put, List.setIfInBounds_toArray, List.set_cons_zero, List.set_cons_succ]
    exact HLd5 s3 s7 wn ⟨HSt, HSl_b, HSl7⟩
  · intro s3 s7 wy hSt
    obtain ⟨HSt, HSl_b, HSl7⟩ := hSt
    refine wpAnyH_ready (rs := [8]) (by kernel_rfl) (by simp) ?_
    refine AllReadyH.cons (o := { dst := some 12, op := Go.Op.call { callee := Go.Callee.value (Go.Operand.func 34), args := #[Go.Operand.tmp 8, Go.Operand.tmp 11], argTypes := #[82, 61] }, type := 82, pos := "ballot.go:54", after := #[{ on := 4, ground := Go.Ground.data }, { on := 7, ground := Go.Ground.data }, { on := 4, ground := Go.Ground.chain }], guard := none }) rfl (fun K hK => ?_) AllReadyH.nil
    go_simp
    go_at_call 34
    refine (stN1 (n : Int) HSt.out HSl7.out (by rw [List.length_append]; omega) (by omega)).mono ?_
    rintro e wn ⟨rfl, hSt2, hK2⟩
    replace HSl_b := Lib.hid (Sl.keeps HSl_b.out hK2)
    replace HSt := Lib.hid hSt2
    clear hSt2 hK2
    clear HSl7
    first | refine hK.out _ _ ?sd5_8 (fun hp => ?_) | (go_wp2_with fail; refine hK.out _ _ ?sd5_8 (fun hp => ?_))
    case sd5_8 => ((try dsimp only); exact ⟨HSl_b.out.2.2.2 0 _ rfl, HSl_b.out.2.2.2 1 _ rfl⟩)
    clear hK K hp
    try simp only [Act.put, List.setIfInBounds_toArray, List.set_cons_zero, List.set_cons_succ]
    exact HLd6 s3 s7 wn ⟨HSt, HSl_b⟩
  · intro s3 s7 wy hSt
    obtain ⟨HSt, HSl_b⟩ := hSt
    refine wpAnyH_done (by kernel_rfl) ?_ _
    have H9 := Lib.hid (HSt.out.sub HS1.out)
    clear HSt HSl_b
    go_wp2
    first | go_end0 | go_ret
    exact ⟨rfl, H9.out.1, H9.out.2.2, H9.out.2.1⟩
theorem stPut {p : Nat} {wd w : World} {l : List UInt8} (c n : Nat) (hS : St p wd l w) (hl : l.length ≤ 900000) (hn : n ≤ 11) :
    Calls Tryz.prog 33 #[.agg #[.int .u64 c, .int .i64 n], .pointer (some ⟨p, 0, none⟩)] w fun e w' => e = .returned (.tuple #[]) ∧ St p wd (l ++ (encU c ++ encN n)) w' ∧ Keeps p w w' := by
  refine (bPutK_any p c n l w hS.1 hl hn).mono ?_
  rintro e w' ⟨rfl, hW, hB, hK⟩
  exact ⟨rfl, hS.call (by rw [← List.append_assoc]; exact hW) hB hK, hK⟩
end Go.Proofs.YtfgkgpkaohkehaaGreatDoor
