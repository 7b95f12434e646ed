import Derived.Test.YtahohgnkichibabF14k
import Derived.Test.YtahohgnkichibabC17
import Derived.WalkKit
import Derived.ProofKit
import Derived.LoopTactic
import Derived.Outline
import Derived.WalkSpells
import Derived.WalkLawsBesides
import Derived.Lib.Hide
import Derived.Deep.LoopGhost
import Derived.Deep.QuietTactic
import Derived.BigQuiet
import Derived.ShutString
import Derived.IntWalk
import Derived.Lib.MinMax
import Derived.BigQuiet
import Derived.Deep.AppendLies
import Derived.Deep.RegionWith
import Derived.Deep.RegionHeld3
namespace Go.Proofs.Ytahohgnkichibab
open Go.ChangeShapes Go.WideShapes Go.ChangeAt Go.RowKit
set_option linter.unusedVariables false
set_option linter.unusedSimpArgs false
open Nt
/-- A call, by the program and by the document. -/
def DoIs (b c : Nat) (v : Value) (w : World) (y : N) (e : Ending) (w' : World) : Prop :=
  ∃ rv' v', e = .returned (.tuple #[rv', .bool true]) ∧ RfIs w' (c + 1) rv' y ∧ NtIs w' b v' y ∧ Far b v w w' ∧ From v w v' ∧ RfOff w' rv' b v'
/-- What a walk holds: a net of the program's and one of the document's, and what turned since. -/
structure Pair (w0 w : World) (b c : Nat) (v0 v : Value) (rv : Value) (x y : N) : Prop where
  is : NtIs w b v x
  rf : RfIs w c rv y
  far : Far b v0 w0 w
  frm : From v0 w0 v
  off : RfOff w rv b v
theorem Pair.gr {w0 w w' : World} {b c : Nat} {v0 v rv : Value} {x y : N} (h : Pair w0 w b c v0 v rv x y) (hg : Gr w w') : Pair w0 w' b c v0 v rv x y :=
  ⟨h.is.gr hg, h.rf.gr hg, (h.far.trans h.frm (Far.of_gr hg)), h.frm, h.off.gr hg⟩
theorem Pair.ref {w0 w w' : World} {b c d : Nat} {v0 v rv rv' : Value} {x y z : N} (h : Pair w0 w b c v0 v rv x y) (hr : RfIs w' d rv' z) (hg : Gr w w') (hn : RfNew w rv w' rv') : Pair w0 w' b d v0 v rv' x z :=
  ⟨h.is.gr hg, hr, h.far.trans h.frm (Far.of_gr hg), h.frm, h.off.ref h.is hn hg.size⟩
theorem Pair.net {w0 w w' : World} {b c : Nat} {v0 v v' rv : Value} {x y z : N} (h : Pair w0 w b c v0 v rv x y) (hi : NtIs w' b v' z) (hf : Far b v w w') (hv : From v w v') : Pair w0 w' b c v0 v' rv z y :=
  ⟨hi, h.rf.far hf h.off, h.far.trans h.frm hf, h.frm.trans h.far.size hv, h.off.net hf hv⟩
/-- A store into a block that is neither's. -/
theorem Pair.set {w0 w : World} {b c n o : Nat} {v0 v rv : Value} {x y : N} (h : Pair w0 w b c v0 v rv x y) (hn : w0.heap.size ≤ n) (u : Value) (hnb : n ≠ b) (hv : v.ownBlock ≠ some n)
    (hr : RowsOf rv fun u => u.ownBlock ≠ some n) : Pair w0 (w.setCell ⟨n, o, none⟩ u) b c v0 v rv x y := by
  have hb : ∀ k, k ≠ n → (w.setCell ⟨n, o, none⟩ u).heap[k]? = w.heap[k]? := fun k hk => Below.heap_setCell _ _ _ _ hk
  have hfar : Far n (.slice none 0 0) w (w.setCell ⟨n, o, none⟩ u) := Far.setCell n o _ w u
  refine ⟨h.is.far hfar (fun e => hnb e.symm) (by simp [Value.ownBlock]) hv (by simp [Value.ownBlock]), ?_, ⟨h.far.os, h.far.tape, h.far.output, by have := h.far.size; simpa [World.setCell] using this, fun k hk h1 h2 => (hb k (by omega)).trans (h.far.block k hk h1 h2)⟩, h.frm, h.off.mono fun u hu k e => ⟨by have := (hu k e).1; simpa [World.setCell] using this, (hu k e).2⟩⟩
  obtain ⟨⟨lv, cv, M, h1, h2, h3, h4, h5⟩, ok⟩ := h.rf
  obtain ⟨n', lv', cv', e, q1, q2⟩ := hr
  rw [h1] at e
  simp only [Value.agg.injEq, Array.mk.injEq, List.cons.injEq, and_true] at e
  obtain ⟨_, rfl, rfl⟩ := e
  exact ⟨⟨lv, cv, M, h1, h2.set q1 _, h3.set q2 _, h4, h5⟩, ok⟩
/-- A block of the call's own. -/
structure Own (w0 w : World) (n b : Nat) (v rv : Value) : Prop where
  lo : w0.heap.size ≤ n
  lt : n < w.heap.size
  sd : Aside14 n b v
  rows : RowsOf rv fun u => u.ownBlock ≠ some n
theorem Own.new {w0 w : World} {b c : Nat} {v0 v rv : Value} {x y : N} (h : Pair w0 w b c v0 v rv x y) (o : Obj) : Own w0 (w.alloc o) w.heap.size b v rv :=
  ⟨h.far.size, by simp, h.is.aside (Nat.le_refl _), h.off.mono fun u hu e => by have := (hu _ e).1; omega⟩
theorem Own.gr {w0 w w' : World} {n b : Nat} {v rv : Value} (h : Own w0 w n b v rv) (hg : Gr w w') : Own w0 w' n b v rv := ⟨h.lo, Nat.lt_of_lt_of_le h.lt hg.size, h.sd, h.rows⟩
theorem Own.ref {w0 w w' : World} {n b : Nat} {v rv rv' : Value} (h : Own w0 w n b v rv) (hg : Gr w w') (hn : RfNew w rv w' rv') : Own w0 w' n b v rv' :=
  ⟨h.lo, Nat.lt_of_lt_of_le h.lt hg.size, h.sd, hn _ h.rows fun u hu e => by have := (hu _ e).1; have := h.lt; omega⟩
theorem Own.net {w0 w w' : World} {n b : Nat} {v v' rv : Value} (h : Own w0 w n b v rv) (hf : Far b v w w') (hv : From v w v') : Own w0 w' n b v' rv := ⟨h.lo, Nat.lt_of_lt_of_le h.lt hf.size, h.sd.from h.lt hv, h.rows⟩
theorem Pair.put {w0 w : World} {b c n o : Nat} {v0 v rv : Value} {x y : N} (h : Pair w0 w b c v0 v rv x y) (hn : Own w0 w n b v rv) (u : Value) : Pair w0 (w.setCell ⟨n, o, none⟩ u) b c v0 v rv x y := h.set hn.lo u hn.sd.1 hn.sd.2 hn.rows
/-- The four blocks that the call makes first. -/
theorem chain_facts {w : World} {b c : Nat} {v rv : Value} {x y : N} (h : Pair w w b c v v rv x y) (c1 c2 c3 c4 : Array Value) (t1 t2 t3 t4 : TypeId) :
    Pair w ((((w.alloc (.cells c1 t1)).alloc (.cells c2 t2)).alloc (.cells c3 t3)).alloc (.cells c4 t4)) b c v v rv x y ∧
    Own w ((((w.alloc (.cells c1 t1)).alloc (.cells c2 t2)).alloc (.cells c3 t3)).alloc (.cells c4 t4)) w.heap.size b v rv ∧
    Own w ((((w.alloc (.cells c1 t1)).alloc (.cells c2 t2)).alloc (.cells c3 t3)).alloc (.cells c4 t4)) (w.heap.size + 1) b v rv ∧
    Own w ((((w.alloc (.cells c1 t1)).alloc (.cells c2 t2)).alloc (.cells c3 t3)).alloc (.cells c4 t4)) (w.heap.size + 1 + 1) b v rv ∧
    Own w ((((w.alloc (.cells c1 t1)).alloc (.cells c2 t2)).alloc (.cells c3 t3)).alloc (.cells c4 t4)) (w.heap.size + 1 + 1 + 1) b v rv ∧
    Blk ((((w.alloc (.cells c1 t1)).alloc (.cells c2 t2)).alloc (.cells c3 t3)).alloc (.cells c4 t4)) w.heap.size c1 t1 ∧
    Blk ((((w.alloc (.cells c1 t1)).alloc (.cells c2 t2)).alloc (.cells c3 t3)).alloc (.cells c4 t4)) (w.heap.size + 1) c2 t2 ∧
    Blk ((((w.alloc (.cells c1 t1)).alloc (.cells c2 t2)).alloc (.cells c3 t3)).alloc (.cells c4 t4)) (w.heap.size + 1 + 1) c3 t3 ∧
    Blk ((((w.alloc (.cells c1 t1)).alloc (.cells c2 t2)).alloc (.cells c3 t3)).alloc (.cells c4 t4)) (w.heap.size + 1 + 1 + 1) c4 t4 := by
  have g1 := (Gr.refl w).alloc (.cells c1 t1)
  have g2 := g1.alloc (.cells c2 t2)
  have g3 := g2.alloc (.cells c3 t3)
  have s1 : (w.alloc (.cells c1 t1)).heap.size = w.heap.size + 1 := by simp
  have s2 : ((w.alloc (.cells c1 t1)).alloc (.cells c2 t2)).heap.size = w.heap.size + 1 + 1 := by simp
  have s3 : (((w.alloc (.cells c1 t1)).alloc (.cells c2 t2)).alloc (.cells c3 t3)).heap.size = w.heap.size + 1 + 1 + 1 := by simp
  have o1 := Own.new (h.gr g1) (.cells c2 t2)
  have o2 := Own.new (h.gr g2) (.cells c3 t3)
  have o3 := Own.new (h.gr g3) (.cells c4 t4)
  have b1 := Blk.new (w.alloc (.cells c1 t1)) c2 t2
  have b2 := Blk.new ((w.alloc (.cells c1 t1)).alloc (.cells c2 t2)) c3 t3
  have b3 := Blk.new (((w.alloc (.cells c1 t1)).alloc (.cells c2 t2)).alloc (.cells c3 t3)) c4 t4
  rw [s1] at o1 b1
  rw [s2] at o2 b2
  rw [s3] at o3 b3
  exact ⟨h.gr (g3.alloc _), (Own.new h _).gr ((((Gr.refl _).alloc _).alloc _).alloc _), o1.gr (((Gr.refl _).alloc _).alloc _), o2.gr ((Gr.refl _).alloc _), o3,
    (Blk.new w _ _).gr ((((Gr.refl _).alloc _).alloc _).alloc _), b1.gr (((Gr.refl _).alloc _).alloc _), b2.gr ((Gr.refl _).alloc _), b3⟩
theorem Pair.put3 {w0 w w9 : World} {b c n : Nat} {v0 v rv : Value} {x y : N} (h : Pair w0 w b c v0 v rv x y) (hn : Own w0 w9 n b v rv) (u0 u1 u2 : Value) :
    Pair w0 (((w.setCell ⟨n, 0, none⟩ u0).setCell ⟨n, 1, none⟩ u1).setCell ⟨n, 2, none⟩ u2) b c v0 v rv x y :=
  ((h.set hn.lo u0 hn.sd.1 hn.sd.2 hn.rows).set hn.lo u1 hn.sd.1 hn.sd.2 hn.rows).set hn.lo u2 hn.sd.1 hn.sd.2 hn.rows
theorem Pair.does {w0 w : World} {b c : Nat} {v0 v rv : Value} {x : N} (h : Pair w0 w b (c + 1) v0 v rv x x) : DoIs b c v0 w0 x (.returned (.tuple #[rv, .bool true])) w :=
  ⟨_, _, rfl, h.rf, h.is, h.far, h.frm, h.off⟩
theorem Pair.most {w0 w : World} {b c d : Nat} {v0 v rv : Value} {x y : N} (h : Pair w0 w b c v0 v rv x y) (hd : c ≤ d) : Pair w0 w b d v0 v rv x y := ⟨h.is, h.rf.more hd, h.far, h.frm, h.off⟩
theorem RfIs.healed {w : World} {c n : Nat} {lv cv : Value} {x : N} (h : RfIs w c (.agg #[.int .i64 (n : Nat), lv, cv]) x) : RfIs w c (.agg #[.int .i64 (n : Nat), lv, .slice none 0 0]) (Nt.heal x) := by
  obtain ⟨⟨l, k, M, h1, h2, h3, h4, h5⟩, ok⟩ := h
  simp only [Value.agg.injEq, Array.mk.injEq, List.cons.injEq, Value.int.injEq, and_true, true_and] at h1
  obtain ⟨hn, rfl, rfl⟩ := h1
  refine ⟨⟨lv, .slice none 0 0, [], by rw [hn]; rfl, h2, ⟨none, 0, rfl, .inl rfl⟩, by simp, fun a b => ?_⟩, heal_ok ok⟩
  unfold Nt.isCut Nt.heal
  simp
theorem RfNew.healed {w : World} {n : Nat} {lv cv : Value} : RfNew w (.agg #[.int .i64 (n : Nat), lv, cv]) w (.agg #[.int .i64 (n : Nat), lv, .slice none 0 0]) := fun Q hQ hF => by
  obtain ⟨n', lv', cv', e, q1, q2⟩ := hQ
  simp only [Value.agg.injEq, Array.mk.injEq, List.cons.injEq, and_true] at e
  obtain ⟨rfl, rfl, rfl⟩ := e
  exact ⟨_, _, _, rfl, q1, hF _ (fun k e => by simp [Value.ownBlock] at e)⟩
set_option maxRecDepth 100000 in
set_option maxHeartbeats 2000000 in
theorem lawDo_other {b c : Nat} {v rv : Value} {x : N} (K A B : Int) (s : ByteArray) (w : World) (h : NtIs w b v x) (hr : RfIs w c rv x) (ho : RfOff w rv b v) (hc : c ≤ 1000000) (hs : s.size ≤ 9223372036854775807) (hK : K < 0 ∨ 7 < K) :
    Calls Try.prog 7 #[.pointer (some ⟨b, 0, none⟩), rv, .agg #[.int .i64 K, .int .i64 A, .int .i64 B, .string s]] w (DoIs b c v w x) := by
  have HP0 := Lib.hid (Pair.mk (w0 := w) (v0 := v) h hr (Far.refl _ _ _) (From.refl _ _) ho)
  obtain ⟨⟨lv, cv, M, rfl, h2, h3, h4, h5⟩, ok⟩ := hr
  obtain ⟨la, lc, rfl, h2⟩ := h2
  obtain ⟨ca, cc, rfl, h3⟩ := h3
  have HLV := Lib.hid h2
  clear h2 h3 h4 h5 ho h ok
  generalize M.length = cm at *
  have HTH : Hid (Nt.hasB x A = decide (0 ≤ A ∧ A < (x.L.length : Int))) := Lib.hid rfl
  generalize hln : x.L.length = ln at *
  have HLN := Lib.hid hln
  clear hln
  generalize hxn : x.n = n at *
  have HXN := Lib.hid hxn
  clear hxn
  have hK0 : ¬ K = 0 := by omega
  have hK1 : ¬ K = 1 := by omega
  have hK2 : ¬ K = 2 := by omega
  have hK3 : ¬ K = 3 := by omega
  have hK4 : ¬ K = 4 := by omega
  have hK5 : ¬ K = 5 := by omega
  have hK6 : ¬ K = 6 := by omega
  have hK7 : ¬ K = 7 := by omega
  by_cases hth : 0 ≤ A ∧ A < (ln : Int)
  · obtain ⟨hA, hA2⟩ := hth
    have HT := Lib.hid (HTH.out.trans (decide_eq_true ⟨hA, hA2⟩))
    clear HTH
    obtain ⟨k, rfl⟩ : ∃ k : Nat, A = (k : Int) := ⟨A.toNat, by omega⟩
    have hkx : k < x.L.length := by rw [HLN.out]; omega
    rcases HLV.out with h1 | ⟨g, rfl, hcl⟩
    · omega
    have HG4 := Lib.hid (((((Gr.refl w).alloc (.cells #[.int .i64 (n : Nat), .slice (some ⟨g, 0, none⟩) ln lc, .slice ca cm cc] 29)).alloc (.cells #[.int .i64 K, .int .i64 (k : Nat), .int .i64 B, .string s] 34)).alloc (.cells #[.int .i64 0, .slice none 0 0, .slice none 0 0] 29)).alloc (.cells #[.int .i64 0, .int .i64 0, .string ⟨#[]⟩] 50))
    have e0 := HG4.out.cell (hcl _ _ (pcells_at x.L k hkx).1)
    have e1 := HG4.out.cell (hcl _ _ (pcells_at x.L k hkx).2.1)
    have e2 := HG4.out.cell (hcl _ _ (pcells_at x.L k hkx).2.2)
    have HA := Lib.hid (look_at hkx)
    clear hcl
    generalize x.L[k] = pp at *
    obtain ⟨pA, pB, ps⟩ := pp
    simp only at e0 e1 e2
    go_enter Try.func7, Try.ntmps7
    go_wp2
    refine bodyPost_ret (v := .tuple #[.agg #[.int .i64 (n : Nat), .slice (some ⟨g, 0, none⟩) ln lc, .slice ca cm cc], .bool true]) (by simp [results, Try.results7, go_sem]; try rfl) rfl ?_
    have HE := Lib.hid (HP0.out.gr (((((Gr.refl w).alloc (.cells #[.int .i64 (n : Nat), .slice (some ⟨g, 0, none⟩) ln lc, .slice ca cm cc] 29)).alloc (.cells #[.int .i64 K, .int .i64 (k : Nat), .int .i64 B, .string s] 34)).alloc (.cells #[.int .i64 (n : Nat), .slice (some ⟨g, 0, none⟩) ln lc, .slice ca cm cc] 29)).alloc (.cells #[.int .i64 pA, .int .i64 pB, .string ps] 50)))
    exact ⟨_, _, rfl, HE.out.rf.more (by omega), HE.out.is, HE.out.far, HE.out.frm, HE.out.off⟩
  · have HT := Lib.hid (HTH.out.trans (decide_eq_false hth))
    clear HTH
    by_cases hA : 0 ≤ A
    · have hA2 : ¬ A < (ln : Int) := fun e => hth ⟨hA, e⟩
      clear hth
      go_enter Try.func7, Try.ntmps7
      go_wp2
      refine bodyPost_ret (v := .tuple #[.agg #[.int .i64 (n : Nat), .slice la ln lc, .slice ca cm cc], .bool true]) (by simp [results, Try.results7, go_sem]; try rfl) rfl ?_
      have HE := Lib.hid (HP0.out.gr (((((Gr.refl w).alloc (.cells #[.int .i64 (n : Nat), .slice la ln lc, .slice ca cm cc] 29)).alloc (.cells #[.int .i64 K, .int .i64 A, .int .i64 B, .string s] 34)).alloc (.cells #[.int .i64 (n : Nat), .slice la ln lc, .slice ca cm cc] 29)).alloc (.cells #[.int .i64 0, .int .i64 0, .string ⟨#[]⟩] 50)))
      exact ⟨_, _, rfl, HE.out.rf.more (by omega), HE.out.is, HE.out.far, HE.out.frm, HE.out.off⟩
    · clear hth
      go_enter Try.func7, Try.ntmps7
      go_wp2
      refine bodyPost_ret (v := .tuple #[.agg #[.int .i64 (n : Nat), .slice la ln lc, .slice ca cm cc], .bool true]) (by simp [results, Try.results7, go_sem]; try rfl) rfl ?_
      have HE := Lib.hid (HP0.out.gr (((((Gr.refl w).alloc (.cells #[.int .i64 (n : Nat), .slice la ln lc, .slice ca cm cc] 29)).alloc (.cells #[.int .i64 K, .int .i64 A, .int .i64 B, .string s] 34)).alloc (.cells #[.int .i64 (n : Nat), .slice la ln lc, .slice ca cm cc] 29)).alloc (.cells #[.int .i64 0, .int .i64 0, .string ⟨#[]⟩] 50)))
      exact ⟨_, _, rfl, HE.out.rf.more (by omega), HE.out.is, HE.out.far, HE.out.frm, HE.out.off⟩
set_option maxRecDepth 100000 in
set_option maxHeartbeats 2000000 in
theorem lawDo_cut {b c : Nat} {v rv : Value} {x : N} (K A B : Int) (s : ByteArray) (w : World) (h : NtIs w b v x) (hr : RfIs w c rv x) (ho : RfOff w rv b v) (hc : c ≤ 1000000) (hs : s.size ≤ 9223372036854775807) :
    Calls Try.prog 7 #[.pointer (some ⟨b, 0, none⟩), rv, .agg #[.int .i64 5, .int .i64 A, .int .i64 B, .string s]] w (DoIs b c v w (Nt.setCut x A B true)) := by
  have HP0 := Lib.hid (Pair.mk (w0 := w) (v0 := v) h hr (Far.refl _ _ _) (From.refl _ _) ho)
  obtain ⟨⟨lv, cv, M, rfl, h2, h3, h4, h5⟩, ok⟩ := hr
  obtain ⟨la, lc, rfl, h2⟩ := h2
  obtain ⟨ca, cc, rfl, h3⟩ := h3
  have HLV := Lib.hid h2
  clear h2 h3 h4 h5 ho h ok
  generalize M.length = cm at *
  have HTH : Hid (Nt.hasB x A = decide (0 ≤ A ∧ A < (x.L.length : Int))) := Lib.hid rfl
  generalize hln : x.L.length = ln at *
  have HLN := Lib.hid hln
  clear hln
  generalize hxn : x.n = n at *
  have HXN := Lib.hid hxn
  clear hxn
  by_cases hth : 0 ≤ A ∧ A < (ln : Int)
  · obtain ⟨hA, hA2⟩ := hth
    have HT := Lib.hid (HTH.out.trans (decide_eq_true ⟨hA, hA2⟩))
    clear HTH
    obtain ⟨k, rfl⟩ : ∃ k : Nat, A = (k : Int) := ⟨A.toNat, by omega⟩
    have hkx : k < x.L.length := by rw [HLN.out]; omega
    rcases HLV.out with h1 | ⟨g, rfl, hcl⟩
    · omega
    have HG4 := Lib.hid (((((Gr.refl w).alloc (.cells #[.int .i64 (n : Nat), .slice (some ⟨g, 0, none⟩) ln lc, .slice ca cm cc] 29)).alloc (.cells #[.int .i64 5, .int .i64 (k : Nat), .int .i64 B, .string s] 34)).alloc (.cells #[.int .i64 0, .slice none 0 0, .slice none 0 0] 29)).alloc (.cells #[.int .i64 0, .int .i64 0, .string ⟨#[]⟩] 50))
    have e0 := HG4.out.cell (hcl _ _ (pcells_at x.L k hkx).1)
    have e1 := HG4.out.cell (hcl _ _ (pcells_at x.L k hkx).2.1)
    have e2 := HG4.out.cell (hcl _ _ (pcells_at x.L k hkx).2.2)
    have HA := Lib.hid (look_at hkx)
    clear hcl
    generalize x.L[k] = pp at *
    obtain ⟨pA, pB, ps⟩ := pp
    simp only at e0 e1 e2
    have CF := Lib.hid (chain_facts HP0.out #[.int .i64 (n : Nat), .slice (some ⟨g, 0, none⟩) ln lc, .slice ca cm cc] #[.int .i64 5, .int .i64 (k : Nat), .int .i64 B, .string s] #[.int .i64 0, .slice none 0 0, .slice none 0 0] #[.int .i64 pA, .int .i64 pB, .string ps] 29 34 29 50)
    obtain ⟨hp4, o0, o1, o2, o3, b0, b1, b2, b3⟩ := CF.out
    have HP4 := Lib.hid hp4
    have O40 := Lib.hid o0
    have B40 := Lib.hid b0
    have O41 := Lib.hid o1
    have B41 := Lib.hid b1
    have O42 := Lib.hid o2
    have B42 := Lib.hid b2
    have O43 := Lib.hid o3
    have B43 := Lib.hid b3
    clear CF hp4 o0 o1 o2 o3 b0 b1 b2 b3
    go_enter Try.func7, Try.ntmps7
    go_wp2_with fail
    refine (cut_any14 ((k : Nat)) B true _ HP4.out.is).mono ?_
    rintro e w6 ⟨rfl, v6, h6, hf6, hv6⟩
    have HP6 := Lib.hid (HP4.out.net h6 hf6 hv6)
    have O60 := Lib.hid (O40.out.net hf6 hv6)
    have B60 := Lib.hid (B40.out.far hf6 O40.out.sd.1 O40.out.sd.2)
    have O61 := Lib.hid (O41.out.net hf6 hv6)
    have B61 := Lib.hid (B41.out.far hf6 O41.out.sd.1 O41.out.sd.2)
    have O62 := Lib.hid (O42.out.net hf6 hv6)
    have B62 := Lib.hid (B42.out.far hf6 O42.out.sd.1 O42.out.sd.2)
    have O63 := Lib.hid (O43.out.net hf6 hv6)
    have B63 := Lib.hid (B43.out.far hf6 O43.out.sd.1 O43.out.sd.2)
    clear h6 hf6 hv6
    have x00 := B60.out.cell (i := 0) rfl
    have x01 := B60.out.cell (i := 1) rfl
    have x02 := B60.out.cell (i := 2) rfl
    have x10 := B61.out.cell (i := 0) rfl
    have x11 := B61.out.cell (i := 1) rfl
    have x12 := B61.out.cell (i := 2) rfl
    have x13 := B61.out.cell (i := 3) rfl
    go_wp2_with fail
    refine (refSetCut_any ((k : Nat)) B true _ HP6.out.rf hc).mono ?_
    rintro e w7 ⟨rv7, rfl, hr7, hg7, hn7⟩
    have HP7 := Lib.hid (HP6.out.ref hr7 hg7 hn7)
    have O70 := Lib.hid (O60.out.ref hg7 hn7)
    have B70 := Lib.hid (B60.out.gr hg7)
    have O71 := Lib.hid (O61.out.ref hg7 hn7)
    have B71 := Lib.hid (B61.out.gr hg7)
    have O72 := Lib.hid (O62.out.ref hg7 hn7)
    have B72 := Lib.hid (B62.out.gr hg7)
    have O73 := Lib.hid (O63.out.ref hg7 hn7)
    have B73 := Lib.hid (B63.out.gr hg7)
    clear hr7 hg7 hn7 x00 x01 x02 x10 x11 x12 x13
    have hform := HP7.out.rf
    obtain ⟨⟨l7, c7, M7, hrv, g2, g3, _, _⟩, _⟩ := hform
    obtain ⟨la7, lc7, rfl, _⟩ := g2
    obtain ⟨ca7, cc7, rfl, _⟩ := g3
    subst hrv
    generalize hZ : Nt.setCut x ((k : Nat)) B true = Z at *
    clear hZ
    have x00 := B70.out.cell (i := 0) rfl
    have x01 := B70.out.cell (i := 1) rfl
    have x02 := B70.out.cell (i := 2) rfl
    have x20 := B72.out.cell (i := 0) rfl
    have x21 := B72.out.cell (i := 1) rfl
    have x22 := B72.out.cell (i := 2) rfl
    have y00 := B70.out.free 0
    have y01 := B70.out.free 1
    have y02 := B70.out.free 2
    have y20 := B72.out.free 0
    have y21 := B72.out.free 1
    have y22 := B72.out.free 2
    go_wp2
    refine bodyPost_ret (v := .tuple #[.agg #[.int .i64 (Z.n : Nat), .slice la7 Z.L.length lc7, .slice ca7 M7.length cc7], .bool true]) (by simp [results, Try.results7, go_sem, x20, x21, x22, y20, y21, y22]; try rfl) rfl ?_
    exact ((HP7.out.put3 O70.out _ _ _).put3 O72.out _ _ _).does
  · have HT := Lib.hid (HTH.out.trans (decide_eq_false hth))
    clear HTH
    by_cases hA : 0 ≤ A
    · have hA2 : ¬ A < (ln : Int) := fun e => hth ⟨hA, e⟩
      clear hth
      have CF := Lib.hid (chain_facts HP0.out #[.int .i64 (n : Nat), .slice la ln lc, .slice ca cm cc] #[.int .i64 5, .int .i64 A, .int .i64 B, .string s] #[.int .i64 0, .slice none 0 0, .slice none 0 0] #[.int .i64 0, .int .i64 0, .string ⟨#[]⟩] 29 34 29 50)
      obtain ⟨hp4, o0, o1, o2, o3, b0, b1, b2, b3⟩ := CF.out
      have HP4 := Lib.hid hp4
      have O40 := Lib.hid o0
      have B40 := Lib.hid b0
      have O41 := Lib.hid o1
      have B41 := Lib.hid b1
      have O42 := Lib.hid o2
      have B42 := Lib.hid b2
      have O43 := Lib.hid o3
      have B43 := Lib.hid b3
      clear CF hp4 o0 o1 o2 o3 b0 b1 b2 b3
      go_enter Try.func7, Try.ntmps7
      go_wp2_with fail
      refine (cut_any14 (A) B true _ HP4.out.is).mono ?_
      rintro e w6 ⟨rfl, v6, h6, hf6, hv6⟩
      have HP6 := Lib.hid (HP4.out.net h6 hf6 hv6)
      have O60 := Lib.hid (O40.out.net hf6 hv6)
      have B60 := Lib.hid (B40.out.far hf6 O40.out.sd.1 O40.out.sd.2)
      have O61 := Lib.hid (O41.out.net hf6 hv6)
      have B61 := Lib.hid (B41.out.far hf6 O41.out.sd.1 O41.out.sd.2)
      have O62 := Lib.hid (O42.out.net hf6 hv6)
      have B62 := Lib.hid (B42.out.far hf6 O42.out.sd.1 O42.out.sd.2)
      have O63 := Lib.hid (O43.out.net hf6 hv6)
      have B63 := Lib.hid (B43.out.far hf6 O43.out.sd.1 O43.out.sd.2)
      clear h6 hf6 hv6
      have x00 := B60.out.cell (i := 0) rfl
      have x01 := B60.out.cell (i := 1) rfl
      have x02 := B60.out.cell (i := 2) rfl
      have x10 := B61.out.cell (i := 0) rfl
      have x11 := B61.out.cell (i := 1) rfl
      have x12 := B61.out.cell (i := 2) rfl
      have x13 := B61.out.cell (i := 3) rfl
      go_wp2_with fail
      refine (refSetCut_any (A) B true _ HP6.out.rf hc).mono ?_
      rintro e w7 ⟨rv7, rfl, hr7, hg7, hn7⟩
      have HP7 := Lib.hid (HP6.out.ref hr7 hg7 hn7)
      have O70 := Lib.hid (O60.out.ref hg7 hn7)
      have B70 := Lib.hid (B60.out.gr hg7)
      have O71 := Lib.hid (O61.out.ref hg7 hn7)
      have B71 := Lib.hid (B61.out.gr hg7)
      have O72 := Lib.hid (O62.out.ref hg7 hn7)
      have B72 := Lib.hid (B62.out.gr hg7)
      have O73 := Lib.hid (O63.out.ref hg7 hn7)
      have B73 := Lib.hid (B63.out.gr hg7)
      clear hr7 hg7 hn7 x00 x01 x02 x10 x11 x12 x13
      have hform := HP7.out.rf
      obtain ⟨⟨l7, c7, M7, hrv, g2, g3, _, _⟩, _⟩ := hform
      obtain ⟨la7, lc7, rfl, _⟩ := g2
      obtain ⟨ca7, cc7, rfl, _⟩ := g3
      subst hrv
      generalize hZ : Nt.setCut x (A) B true = Z at *
      clear hZ
      have x00 := B70.out.cell (i := 0) rfl
      have x01 := B70.out.cell (i := 1) rfl
      have x02 := B70.out.cell (i := 2) rfl
      have x20 := B72.out.cell (i := 0) rfl
      have x21 := B72.out.cell (i := 1) rfl
      have x22 := B72.out.cell (i := 2) rfl
      have y00 := B70.out.free 0
      have y01 := B70.out.free 1
      have y02 := B70.out.free 2
      have y20 := B72.out.free 0
      have y21 := B72.out.free 1
      have y22 := B72.out.free 2
      go_wp2
      refine bodyPost_ret (v := .tuple #[.agg #[.int .i64 (Z.n : Nat), .slice la7 Z.L.length lc7, .slice ca7 M7.length cc7], .bool true]) (by simp [results, Try.results7, go_sem, x20, x21, x22, y20, y21, y22]; try rfl) rfl ?_
      exact ((HP7.out.put3 O70.out _ _ _).put3 O72.out _ _ _).does
    · clear hth
      have CF := Lib.hid (chain_facts HP0.out #[.int .i64 (n : Nat), .slice la ln lc, .slice ca cm cc] #[.int .i64 5, .int .i64 A, .int .i64 B, .string s] #[.int .i64 0, .slice none 0 0, .slice none 0 0] #[.int .i64 0, .int .i64 0, .string ⟨#[]⟩] 29 34 29 50)
      obtain ⟨hp4, o0, o1, o2, o3, b0, b1, b2, b3⟩ := CF.out
      have HP4 := Lib.hid hp4
      have O40 := Lib.hid o0
      have B40 := Lib.hid b0
      have O41 := Lib.hid o1
      have B41 := Lib.hid b1
      have O42 := Lib.hid o2
      have B42 := Lib.hid b2
      have O43 := Lib.hid o3
      have B43 := Lib.hid b3
      clear CF hp4 o0 o1 o2 o3 b0 b1 b2 b3
      go_enter Try.func7, Try.ntmps7
      go_wp2_with fail
      refine (cut_any14 (A) B true _ HP4.out.is).mono ?_
      rintro e w6 ⟨rfl, v6, h6, hf6, hv6⟩
      have HP6 := Lib.hid (HP4.out.net h6 hf6 hv6)
      have O60 := Lib.hid (O40.out.net hf6 hv6)
      have B60 := Lib.hid (B40.out.far hf6 O40.out.sd.1 O40.out.sd.2)
      have O61 := Lib.hid (O41.out.net hf6 hv6)
      have B61 := Lib.hid (B41.out.far hf6 O41.out.sd.1 O41.out.sd.2)
      have O62 := Lib.hid (O42.out.net hf6 hv6)
      have B62 := Lib.hid (B42.out.far hf6 O42.out.sd.1 O42.out.sd.2)
      have O63 := Lib.hid (O43.out.net hf6 hv6)
      have B63 := Lib.hid (B43.out.far hf6 O43.out.sd.1 O43.out.sd.2)
      clear h6 hf6 hv6
      have x00 := B60.out.cell (i := 0) rfl
      have x01 := B60.out.cell (i := 1) rfl
      have x02 := B60.out.cell (i := 2) rfl
      have x10 := B61.out.cell (i := 0) rfl
      have x11 := B61.out.cell (i := 1) rfl
      have x12 := B61.out.cell (i := 2) rfl
      have x13 := B61.out.cell (i := 3) rfl
      go_wp2_with fail
      refine (refSetCut_any (A) B true _ HP6.out.rf hc).mono ?_
      rintro e w7 ⟨rv7, rfl, hr7, hg7, hn7⟩
      have HP7 := Lib.hid (HP6.out.ref hr7 hg7 hn7)
      have O70 := Lib.hid (O60.out.ref hg7 hn7)
      have B70 := Lib.hid (B60.out.gr hg7)
      have O71 := Lib.hid (O61.out.ref hg7 hn7)
      have B71 := Lib.hid (B61.out.gr hg7)
      have O72 := Lib.hid (O62.out.ref hg7 hn7)
      have B72 := Lib.hid (B62.out.gr hg7)
      have O73 := Lib.hid (O63.out.ref hg7 hn7)
      have B73 := Lib.hid (B63.out.gr hg7)
      clear hr7 hg7 hn7 x00 x01 x02 x10 x11 x12 x13
      have hform := HP7.out.rf
      obtain ⟨⟨l7, c7, M7, hrv, g2, g3, _, _⟩, _⟩ := hform
      obtain ⟨la7, lc7, rfl, _⟩ := g2
      obtain ⟨ca7, cc7, rfl, _⟩ := g3
      subst hrv
      generalize hZ : Nt.setCut x (A) B true = Z at *
      clear hZ
      have x00 := B70.out.cell (i := 0) rfl
      have x01 := B70.out.cell (i := 1) rfl
      have x02 := B70.out.cell (i := 2) rfl
      have x20 := B72.out.cell (i := 0) rfl
      have x21 := B72.out.cell (i := 1) rfl
      have x22 := B72.out.cell (i := 2) rfl
      have y00 := B70.out.free 0
      have y01 := B70.out.free 1
      have y02 := B70.out.free 2
      have y20 := B72.out.free 0
      have y21 := B72.out.free 1
      have y22 := B72.out.free 2
      go_wp2
      refine bodyPost_ret (v := .tuple #[.agg #[.int .i64 (Z.n : Nat), .slice la7 Z.L.length lc7, .slice ca7 M7.length cc7], .bool true]) (by simp [results, Try.results7, go_sem, x20, x21, x22, y20, y21, y22]; try rfl) rfl ?_
      exact ((HP7.out.put3 O70.out _ _ _).put3 O72.out _ _ _).does
set_option maxRecDepth 100000 in
set_option maxHeartbeats 2000000 in
theorem lawDo_uncut {b c : Nat} {v rv : Value} {x : N} (K A B : Int) (s : ByteArray) (w : World) (h : NtIs w b v x) (hr : RfIs w c rv x) (ho : RfOff w rv b v) (hc : c ≤ 1000000) (hs : s.size ≤ 9223372036854775807) :
    Calls Try.prog 7 #[.pointer (some ⟨b, 0, none⟩), rv, .agg #[.int .i64 6, .int .i64 A, .int .i64 B, .string s]] w (DoIs b c v w (Nt.setCut x A B false)) := by
  have HP0 := Lib.hid (Pair.mk (w0 := w) (v0 := v) h hr (Far.refl _ _ _) (From.refl _ _) ho)
  obtain ⟨⟨lv, cv, M, rfl, h2, h3, h4, h5⟩, ok⟩ := hr
  obtain ⟨la, lc, rfl, h2⟩ := h2
  obtain ⟨ca, cc, rfl, h3⟩ := h3
  have HLV := Lib.hid h2
  clear h2 h3 h4 h5 ho h ok
  generalize M.length = cm at *
  have HTH : Hid (Nt.hasB x A = decide (0 ≤ A ∧ A < (x.L.length : Int))) := Lib.hid rfl
  generalize hln : x.L.length = ln at *
  have HLN := Lib.hid hln
  clear hln
  generalize hxn : x.n = n at *
  have HXN := Lib.hid hxn
  clear hxn
  by_cases hth : 0 ≤ A ∧ A < (ln : Int)
  · obtain ⟨hA, hA2⟩ := hth
    have HT := Lib.hid (HTH.out.trans (decide_eq_true ⟨hA, hA2⟩))
    clear HTH
    obtain ⟨k, rfl⟩ : ∃ k : Nat, A = (k : Int) := ⟨A.toNat, by omega⟩
    have hkx : k < x.L.length := by rw [HLN.out]; omega
    rcases HLV.out with h1 | ⟨g, rfl, hcl⟩
    · omega
    have HG4 := Lib.hid (((((Gr.refl w).alloc (.cells #[.int .i64 (n : Nat), .slice (some ⟨g, 0, none⟩) ln lc, .slice ca cm cc] 29)).alloc (.cells #[.int .i64 6, .int .i64 (k : Nat), .int .i64 B, .string s] 34)).alloc (.cells #[.int .i64 0, .slice none 0 0, .slice none 0 0] 29)).alloc (.cells #[.int .i64 0, .int .i64 0, .string ⟨#[]⟩] 50))
    have e0 := HG4.out.cell (hcl _ _ (pcells_at x.L k hkx).1)
    have e1 := HG4.out.cell (hcl _ _ (pcells_at x.L k hkx).2.1)
    have e2 := HG4.out.cell (hcl _ _ (pcells_at x.L k hkx).2.2)
    have HA := Lib.hid (look_at hkx)
    clear hcl
    generalize x.L[k] = pp at *
    obtain ⟨pA, pB, ps⟩ := pp
    simp only at e0 e1 e2
    have CF := Lib.hid (chain_facts HP0.out #[.int .i64 (n : Nat), .slice (some ⟨g, 0, none⟩) ln lc, .slice ca cm cc] #[.int .i64 6, .int .i64 (k : Nat), .int .i64 B, .string s] #[.int .i64 0, .slice none 0 0, .slice none 0 0] #[.int .i64 pA, .int .i64 pB, .string ps] 29 34 29 50)
    obtain ⟨hp4, o0, o1, o2, o3, b0, b1, b2, b3⟩ := CF.out
    have HP4 := Lib.hid hp4
    have O40 := Lib.hid o0
    have B40 := Lib.hid b0
    have O41 := Lib.hid o1
    have B41 := Lib.hid b1
    have O42 := Lib.hid o2
    have B42 := Lib.hid b2
    have O43 := Lib.hid o3
    have B43 := Lib.hid b3
    clear CF hp4 o0 o1 o2 o3 b0 b1 b2 b3
    go_enter Try.func7, Try.ntmps7
    go_wp2_with fail
    refine (cut_any14 ((k : Nat)) B false _ HP4.out.is).mono ?_
    rintro e w6 ⟨rfl, v6, h6, hf6, hv6⟩
    have HP6 := Lib.hid (HP4.out.net h6 hf6 hv6)
    have O60 := Lib.hid (O40.out.net hf6 hv6)
    have B60 := Lib.hid (B40.out.far hf6 O40.out.sd.1 O40.out.sd.2)
    have O61 := Lib.hid (O41.out.net hf6 hv6)
    have B61 := Lib.hid (B41.out.far hf6 O41.out.sd.1 O41.out.sd.2)
    have O62 := Lib.hid (O42.out.net hf6 hv6)
    have B62 := Lib.hid (B42.out.far hf6 O42.out.sd.1 O42.out.sd.2)
    have O63 := Lib.hid (O43.out.net hf6 hv6)
    have B63 := Lib.hid (B43.out.far hf6 O43.out.sd.1 O43.out.sd.2)
    clear h6 hf6 hv6
    have x00 := B60.out.cell (i := 0) rfl
    have x01 := B60.out.cell (i := 1) rfl
    have x02 := B60.out.cell (i := 2) rfl
    have x10 := B61.out.cell (i := 0) rfl
    have x11 := B61.out.cell (i := 1) rfl
    have x12 := B61.out.cell (i := 2) rfl
    have x13 := B61.out.cell (i := 3) rfl
    go_wp2_with fail
    refine (refSetCut_any ((k : Nat)) B false _ HP6.out.rf hc).mono ?_
    rintro e w7 ⟨rv7, rfl, hr7, hg7, hn7⟩
    have HP7 := Lib.hid (HP6.out.ref hr7 hg7 hn7)
    have O70 := Lib.hid (O60.out.ref hg7 hn7)
    have B70 := Lib.hid (B60.out.gr hg7)
    have O71 := Lib.hid (O61.out.ref hg7 hn7)
    have B71 := Lib.hid (B61.out.gr hg7)
    have O72 := Lib.hid (O62.out.ref hg7 hn7)
    have B72 := Lib.hid (B62.out.gr hg7)
    have O73 := Lib.hid (O63.out.ref hg7 hn7)
    have B73 := Lib.hid (B63.out.gr hg7)
    clear hr7 hg7 hn7 x00 x01 x02 x10 x11 x12 x13
    have hform := HP7.out.rf
    obtain ⟨⟨l7, c7, M7, hrv, g2, g3, _, _⟩, _⟩ := hform
    obtain ⟨la7, lc7, rfl, _⟩ := g2
    obtain ⟨ca7, cc7, rfl, _⟩ := g3
    subst hrv
    generalize hZ : Nt.setCut x ((k : Nat)) B false = Z at *
    clear hZ
    have x00 := B70.out.cell (i := 0) rfl
    have x01 := B70.out.cell (i := 1) rfl
    have x02 := B70.out.cell (i := 2) rfl
    have x20 := B72.out.cell (i := 0) rfl
    have x21 := B72.out.cell (i := 1) rfl
    have x22 := B72.out.cell (i := 2) rfl
    have y00 := B70.out.free 0
    have y01 := B70.out.free 1
    have y02 := B70.out.free 2
    have y20 := B72.out.free 0
    have y21 := B72.out.free 1
    have y22 := B72.out.free 2
    go_wp2
    refine bodyPost_ret (v := .tuple #[.agg #[.int .i64 (Z.n : Nat), .slice la7 Z.L.length lc7, .slice ca7 M7.length cc7], .bool true]) (by simp [results, Try.results7, go_sem, x20, x21, x22, y20, y21, y22]; try rfl) rfl ?_
    exact ((HP7.out.put3 O70.out _ _ _).put3 O72.out _ _ _).does
  · have HT := Lib.hid (HTH.out.trans (decide_eq_false hth))
    clear HTH
    by_cases hA : 0 ≤ A
    · have hA2 : ¬ A < (ln : Int) := fun e => hth ⟨hA, e⟩
      clear hth
      have CF := Lib.hid (chain_facts HP0.out #[.int .i64 (n : Nat), .slice la ln lc, .slice ca cm cc] #[.int .i64 6, .int .i64 A, .int .i64 B, .string s] #[.int .i64 0, .slice none 0 0, .slice none 0 0] #[.int .i64 0, .int .i64 0, .string ⟨#[]⟩] 29 34 29 50)
      obtain ⟨hp4, o0, o1, o2, o3, b0, b1, b2, b3⟩ := CF.out
      have HP4 := Lib.hid hp4
      have O40 := Lib.hid o0
      have B40 := Lib.hid b0
      have O41 := Lib.hid o1
      have B41 := Lib.hid b1
      have O42 := Lib.hid o2
      have B42 := Lib.hid b2
      have O43 := Lib.hid o3
      have B43 := Lib.hid b3
      clear CF hp4 o0 o1 o2 o3 b0 b1 b2 b3
      go_enter Try.func7, Try.ntmps7
      go_wp2_with fail
      refine (cut_any14 (A) B false _ HP4.out.is).mono ?_
      rintro e w6 ⟨rfl, v6, h6, hf6, hv6⟩
      have HP6 := Lib.hid (HP4.out.net h6 hf6 hv6)
      have O60 := Lib.hid (O40.out.net hf6 hv6)
      have B60 := Lib.hid (B40.out.far hf6 O40.out.sd.1 O40.out.sd.2)
      have O61 := Lib.hid (O41.out.net hf6 hv6)
      have B61 := Lib.hid (B41.out.far hf6 O41.out.sd.1 O41.out.sd.2)
      have O62 := Lib.hid (O42.out.net hf6 hv6)
      have B62 := Lib.hid (B42.out.far hf6 O42.out.sd.1 O42.out.sd.2)
      have O63 := Lib.hid (O43.out.net hf6 hv6)
      have B63 := Lib.hid (B43.out.far hf6 O43.out.sd.1 O43.out.sd.2)
      clear h6 hf6 hv6
      have x00 := B60.out.cell (i := 0) rfl
      have x01 := B60.out.cell (i := 1) rfl
      have x02 := B60.out.cell (i := 2) rfl
      have x10 := B61.out.cell (i := 0) rfl
      have x11 := B61.out.cell (i := 1) rfl
      have x12 := B61.out.cell (i := 2) rfl
      have x13 := B61.out.cell (i := 3) rfl
      go_wp2_with fail
      refine (refSetCut_any (A) B false _ HP6.out.rf hc).mono ?_
      rintro e w7 ⟨rv7, rfl, hr7, hg7, hn7⟩
      have HP7 := Lib.hid (HP6.out.ref hr7 hg7 hn7)
      have O70 := Lib.hid (O60.out.ref hg7 hn7)
      have B70 := Lib.hid (B60.out.gr hg7)
      have O71 := Lib.hid (O61.out.ref hg7 hn7)
      have B71 := Lib.hid (B61.out.gr hg7)
      have O72 := Lib.hid (O62.out.ref hg7 hn7)
      have B72 := Lib.hid (B62.out.gr hg7)
      have O73 := Lib.hid (O63.out.ref hg7 hn7)
      have B73 := Lib.hid (B63.out.gr hg7)
      clear hr7 hg7 hn7 x00 x01 x02 x10 x11 x12 x13
      have hform := HP7.out.rf
      obtain ⟨⟨l7, c7, M7, hrv, g2, g3, _, _⟩, _⟩ := hform
      obtain ⟨la7, lc7, rfl, _⟩ := g2
      obtain ⟨ca7, cc7, rfl, _⟩ := g3
      subst hrv
      generalize hZ : Nt.setCut x (A) B false = Z at *
      clear hZ
      have x00 := B70.out.cell (i := 0) rfl
      have x01 := B70.out.cell (i := 1) rfl
      have x02 := B70.out.cell (i := 2) rfl
      have x20 := B72.out.cell (i := 0) rfl
      have x21 := B72.out.cell (i := 1) rfl
      have x22 := B72.out.cell (i := 2) rfl
      have y00 := B70.out.free 0
      have y01 := B70.out.free 1
      have y02 := B70.out.free 2
      have y20 := B72.out.free 0
      have y21 := B72.out.free 1
      have y22 := B72.out.free 2
      go_wp2
      refine bodyPost_ret (v := .tuple #[.agg #[.int .i64 (Z.n : Nat), .slice la7 Z.L.length lc7, .slice ca7 M7.length cc7], .bool true]) (by simp [results, Try.results7, go_sem, x20, x21, x22, y20, y21, y22]; try rfl) rfl ?_
      exact ((HP7.out.put3 O70.out _ _ _).put3 O72.out _ _ _).does
    · clear hth
      have CF := Lib.hid (chain_facts HP0.out #[.int .i64 (n : Nat), .slice la ln lc, .slice ca cm cc] #[.int .i64 6, .int .i64 A, .int .i64 B, .string s] #[.int .i64 0, .slice none 0 0, .slice none 0 0] #[.int .i64 0, .int .i64 0, .string ⟨#[]⟩] 29 34 29 50)
      obtain ⟨hp4, o0, o1, o2, o3, b0, b1, b2, b3⟩ := CF.out
      have HP4 := Lib.hid hp4
      have O40 := Lib.hid o0
      have B40 := Lib.hid b0
      have O41 := Lib.hid o1
      have B41 := Lib.hid b1
      have O42 := Lib.hid o2
      have B42 := Lib.hid b2
      have O43 := Lib.hid o3
      have B43 := Lib.hid b3
      clear CF hp4 o0 o1 o2 o3 b0 b1 b2 b3
      go_enter Try.func7, Try.ntmps7
      go_wp2_with fail
      refine (cut_any14 (A) B false _ HP4.out.is).mono ?_
      rintro e w6 ⟨rfl, v6, h6, hf6, hv6⟩
      have HP6 := Lib.hid (HP4.out.net h6 hf6 hv6)
      have O60 := Lib.hid (O40.out.net hf6 hv6)
      have B60 := Lib.hid (B40.out.far hf6 O40.out.sd.1 O40.out.sd.2)
      have O61 := Lib.hid (O41.out.net hf6 hv6)
      have B61 := Lib.hid (B41.out.far hf6 O41.out.sd.1 O41.out.sd.2)
      have O62 := Lib.hid (O42.out.net hf6 hv6)
      have B62 := Lib.hid (B42.out.far hf6 O42.out.sd.1 O42.out.sd.2)
      have O63 := Lib.hid (O43.out.net hf6 hv6)
      have B63 := Lib.hid (B43.out.far hf6 O43.out.sd.1 O43.out.sd.2)
      clear h6 hf6 hv6
      have x00 := B60.out.cell (i := 0) rfl
      have x01 := B60.out.cell (i := 1) rfl
      have x02 := B60.out.cell (i := 2) rfl
      have x10 := B61.out.cell (i := 0) rfl
      have x11 := B61.out.cell (i := 1) rfl
      have x12 := B61.out.cell (i := 2) rfl
      have x13 := B61.out.cell (i := 3) rfl
      go_wp2_with fail
      refine (refSetCut_any (A) B false _ HP6.out.rf hc).mono ?_
      rintro e w7 ⟨rv7, rfl, hr7, hg7, hn7⟩
      have HP7 := Lib.hid (HP6.out.ref hr7 hg7 hn7)
      have O70 := Lib.hid (O60.out.ref hg7 hn7)
      have B70 := Lib.hid (B60.out.gr hg7)
      have O71 := Lib.hid (O61.out.ref hg7 hn7)
      have B71 := Lib.hid (B61.out.gr hg7)
      have O72 := Lib.hid (O62.out.ref hg7 hn7)
      have B72 := Lib.hid (B62.out.gr hg7)
      have O73 := Lib.hid (O63.out.ref hg7 hn7)
      have B73 := Lib.hid (B63.out.gr hg7)
      clear hr7 hg7 hn7 x00 x01 x02 x10 x11 x12 x13
      have hform := HP7.out.rf
      obtain ⟨⟨l7, c7, M7, hrv, g2, g3, _, _⟩, _⟩ := hform
      obtain ⟨la7, lc7, rfl, _⟩ := g2
      obtain ⟨ca7, cc7, rfl, _⟩ := g3
      subst hrv
      generalize hZ : Nt.setCut x (A) B false = Z at *
      clear hZ
      have x00 := B70.out.cell (i := 0) rfl
      have x01 := B70.out.cell (i := 1) rfl
      have x02 := B70.out.cell (i := 2) rfl
      have x20 := B72.out.cell (i := 0) rfl
      have x21 := B72.out.cell (i := 1) rfl
      have x22 := B72.out.cell (i := 2) rfl
      have y00 := B70.out.free 0
      have y01 := B70.out.free 1
      have y02 := B70.out.free 2
      have y20 := B72.out.free 0
      have y21 := B72.out.free 1
      have y22 := B72.out.free 2
      go_wp2
      refine bodyPost_ret (v := .tuple #[.agg #[.int .i64 (Z.n : Nat), .slice la7 Z.L.length lc7, .slice ca7 M7.length cc7], .bool true]) (by simp [results, Try.results7, go_sem, x20, x21, x22, y20, y21, y22]; try rfl) rfl ?_
      exact ((HP7.out.put3 O70.out _ _ _).put3 O72.out _ _ _).does
set_option maxRecDepth 100000 in
set_option maxHeartbeats 2000000 in
theorem lawDo_heal {b c : Nat} {v rv : Value} {x : N} (K A B : Int) (s : ByteArray) (w : World) (h : NtIs w b v x) (hr : RfIs w c rv x) (ho : RfOff w rv b v) (hc : c ≤ 1000000) (hs : s.size ≤ 9223372036854775807) :
    Calls Try.prog 7 #[.pointer (some ⟨b, 0, none⟩), rv, .agg #[.int .i64 7, .int .i64 A, .int .i64 B, .string s]] w (DoIs b c v w (Nt.heal x)) := by
  have HP0 := Lib.hid (Pair.mk (w0 := w) (v0 := v) h hr (Far.refl _ _ _) (From.refl _ _) ho)
  obtain ⟨⟨lv, cv, M, rfl, h2, h3, h4, h5⟩, ok⟩ := hr
  obtain ⟨la, lc, rfl, h2⟩ := h2
  obtain ⟨ca, cc, rfl, h3⟩ := h3
  have HLV := Lib.hid h2
  clear h2 h3 h4 h5 ho h ok
  generalize M.length = cm at *
  have HTH : Hid (Nt.hasB x A = decide (0 ≤ A ∧ A < (x.L.length : Int))) := Lib.hid rfl
  generalize hln : x.L.length = ln at *
  have HLN := Lib.hid hln
  clear hln
  generalize hxn : x.n = n at *
  have HXN := Lib.hid hxn
  clear hxn
  by_cases hth : 0 ≤ A ∧ A < (ln : Int)
  · obtain ⟨hA, hA2⟩ := hth
    have HT := Lib.hid (HTH.out.trans (decide_eq_true ⟨hA, hA2⟩))
    clear HTH
    obtain ⟨k, rfl⟩ : ∃ k : Nat, A = (k : Int) := ⟨A.toNat, by omega⟩
    have hkx : k < x.L.length := by rw [HLN.out]; omega
    rcases HLV.out with h1 | ⟨g, rfl, hcl⟩
    · omega
    have HG4 := Lib.hid (((((Gr.refl w).alloc (.cells #[.int .i64 (n : Nat), .slice (some ⟨g, 0, none⟩) ln lc, .slice ca cm cc] 29)).alloc (.cells #[.int .i64 7, .int .i64 (k : Nat), .int .i64 B, .string s] 34)).alloc (.cells #[.int .i64 0, .slice none 0 0, .slice none 0 0] 29)).alloc (.cells #[.int .i64 0, .int .i64 0, .string ⟨#[]⟩] 50))
    have e0 := HG4.out.cell (hcl _ _ (pcells_at x.L k hkx).1)
    have e1 := HG4.out.cell (hcl _ _ (pcells_at x.L k hkx).2.1)
    have e2 := HG4.out.cell (hcl _ _ (pcells_at x.L k hkx).2.2)
    have HA := Lib.hid (look_at hkx)
    clear hcl
    generalize x.L[k] = pp at *
    obtain ⟨pA, pB, ps⟩ := pp
    simp only at e0 e1 e2
    have CF := Lib.hid (chain_facts HP0.out #[.int .i64 (n : Nat), .slice (some ⟨g, 0, none⟩) ln lc, .slice ca cm cc] #[.int .i64 7, .int .i64 (k : Nat), .int .i64 B, .string s] #[.int .i64 0, .slice none 0 0, .slice none 0 0] #[.int .i64 pA, .int .i64 pB, .string ps] 29 34 29 50)
    obtain ⟨hp4, o0, o1, o2, o3, b0, b1, b2, b3⟩ := CF.out
    have HP4 := Lib.hid hp4
    have O40 := Lib.hid o0
    have B40 := Lib.hid b0
    have O41 := Lib.hid o1
    have B41 := Lib.hid b1
    have O42 := Lib.hid o2
    have B42 := Lib.hid b2
    have O43 := Lib.hid o3
    have B43 := Lib.hid b3
    clear CF hp4 o0 o1 o2 o3 b0 b1 b2 b3
    go_enter Try.func7, Try.ntmps7
    go_wp2_with fail
    refine (heal_any _ HP4.out.is).mono ?_
    rintro e w6 ⟨rfl, v6, h6, hf6, hv6⟩
    have HP6 := Lib.hid (HP4.out.net h6 hf6 hv6)
    have O60 := Lib.hid (O40.out.net hf6 hv6)
    have B60 := Lib.hid (B40.out.far hf6 O40.out.sd.1 O40.out.sd.2)
    have O61 := Lib.hid (O41.out.net hf6 hv6)
    have B61 := Lib.hid (B41.out.far hf6 O41.out.sd.1 O41.out.sd.2)
    have O62 := Lib.hid (O42.out.net hf6 hv6)
    have B62 := Lib.hid (B42.out.far hf6 O42.out.sd.1 O42.out.sd.2)
    have O63 := Lib.hid (O43.out.net hf6 hv6)
    have B63 := Lib.hid (B43.out.far hf6 O43.out.sd.1 O43.out.sd.2)
    clear h6 hf6 hv6
    have HP7 := Lib.hid (HP6.out.ref HP6.out.rf.healed (Gr.refl _) RfNew.healed)
    have O70 := Lib.hid (O60.out.ref (Gr.refl _) RfNew.healed)
    have O72 := Lib.hid (O62.out.ref (Gr.refl _) RfNew.healed)
    generalize hZ : Nt.heal x = Z at *
    clear hZ
    have x00 := B60.out.cell (i := 0) rfl
    have x01 := B60.out.cell (i := 1) rfl
    have x02 := B60.out.cell (i := 2) rfl
    have x20 := B62.out.cell (i := 0) rfl
    have x21 := B62.out.cell (i := 1) rfl
    have x22 := B62.out.cell (i := 2) rfl
    have y00 := B60.out.free 0
    have y01 := B60.out.free 1
    have y02 := B60.out.free 2
    have y20 := B62.out.free 0
    have y21 := B62.out.free 1
    have y22 := B62.out.free 2
    go_wp2
    refine bodyPost_ret (v := .tuple #[.agg #[.int .i64 (n : Nat), .slice (some ⟨g, 0, none⟩) ln lc, .slice none 0 0], .bool true]) (by simp [results, Try.results7, go_sem, x20, x21, x22, y20, y21, y22]; try rfl) rfl ?_
    exact (((HP7.out.set O70.out.lo _ O70.out.sd.1 O70.out.sd.2 O70.out.rows).put3 O72.out _ _ _).most (by omega)).does
  · have HT := Lib.hid (HTH.out.trans (decide_eq_false hth))
    clear HTH
    by_cases hA : 0 ≤ A
    · have hA2 : ¬ A < (ln : Int) := fun e => hth ⟨hA, e⟩
      clear hth
      have CF := Lib.hid (chain_facts HP0.out #[.int .i64 (n : Nat), .slice la ln lc, .slice ca cm cc] #[.int .i64 7, .int .i64 A, .int .i64 B, .string s] #[.int .i64 0, .slice none 0 0, .slice none 0 0] #[.int .i64 0, .int .i64 0, .string ⟨#[]⟩] 29 34 29 50)
      obtain ⟨hp4, o0, o1, o2, o3, b0, b1, b2, b3⟩ := CF.out
      have HP4 := Lib.hid hp4
      have O40 := Lib.hid o0
      have B40 := Lib.hid b0
      have O41 := Lib.hid o1
      have B41 := Lib.hid b1
      have O42 := Lib.hid o2
      have B42 := Lib.hid b2
      have O43 := Lib.hid o3
      have B43 := Lib.hid b3
      clear CF hp4 o0 o1 o2 o3 b0 b1 b2 b3
      go_enter Try.func7, Try.ntmps7
      go_wp2_with fail
      refine (heal_any _ HP4.out.is).mono ?_
      rintro e w6 ⟨rfl, v6, h6, hf6, hv6⟩
      have HP6 := Lib.hid (HP4.out.net h6 hf6 hv6)
      have O60 := Lib.hid (O40.out.net hf6 hv6)
      have B60 := Lib.hid (B40.out.far hf6 O40.out.sd.1 O40.out.sd.2)
      have O61 := Lib.hid (O41.out.net hf6 hv6)
      have B61 := Lib.hid (B41.out.far hf6 O41.out.sd.1 O41.out.sd.2)
      have O62 := Lib.hid (O42.out.net hf6 hv6)
      have B62 := Lib.hid (B42.out.far hf6 O42.out.sd.1 O42.out.sd.2)
      have O63 := Lib.hid (O43.out.net hf6 hv6)
      have B63 := Lib.hid (B43.out.far hf6 O43.out.sd.1 O43.out.sd.2)
      clear h6 hf6 hv6
      have HP7 := Lib.hid (HP6.out.ref HP6.out.rf.healed (Gr.refl _) RfNew.healed)
      have O70 := Lib.hid (O60.out.ref (Gr.refl _) RfNew.healed)
      have O72 := Lib.hid (O62.out.ref (Gr.refl _) RfNew.healed)
      generalize hZ : Nt.heal x = Z at *
      clear hZ
      have x00 := B60.out.cell (i := 0) rfl
      have x01 := B60.out.cell (i := 1) rfl
      have x02 := B60.out.cell (i := 2) rfl
      have x20 := B62.out.cell (i := 0) rfl
      have x21 := B62.out.cell (i := 1) rfl
      have x22 := B62.out.cell (i := 2) rfl
      have y00 := B60.out.free 0
      have y01 := B60.out.free 1
      have y02 := B60.out.free 2
      have y20 := B62.out.free 0
      have y21 := B62.out.free 1
      have y22 := B62.out.free 2
      go_wp2
      refine bodyPost_ret (v := .tuple #[.agg #[.int .i64 (n : Nat), .slice la ln lc, .slice none 0 0], .bool true]) (by simp [results, Try.results7, go_sem, x20, x21, x22, y20, y21, y22]; try rfl) rfl ?_
      exact (((HP7.out.set O70.out.lo _ O70.out.sd.1 O70.out.sd.2 O70.out.rows).put3 O72.out _ _ _).most (by omega)).does
    · clear hth
      have CF := Lib.hid (chain_facts HP0.out #[.int .i64 (n : Nat), .slice la ln lc, .slice ca cm cc] #[.int .i64 7, .int .i64 A, .int .i64 B, .string s] #[.int .i64 0, .slice none 0 0, .slice none 0 0] #[.int .i64 0, .int .i64 0, .string ⟨#[]⟩] 29 34 29 50)
      obtain ⟨hp4, o0, o1, o2, o3, b0, b1, b2, b3⟩ := CF.out
      have HP4 := Lib.hid hp4
      have O40 := Lib.hid o0
      have B40 := Lib.hid b0
      have O41 := Lib.hid o1
      have B41 := Lib.hid b1
      have O42 := Lib.hid o2
      have B42 := Lib.hid b2
      have O43 := Lib.hid o3
      have B43 := Lib.hid b3
      clear CF hp4 o0 o1 o2 o3 b0 b1 b2 b3
      go_enter Try.func7, Try.ntmps7
      go_wp2_with fail
      refine (heal_any _ HP4.out.is).mono ?_
      rintro e w6 ⟨rfl, v6, h6, hf6, hv6⟩
      have HP6 := Lib.hid (HP4.out.net h6 hf6 hv6)
      have O60 := Lib.hid (O40.out.net hf6 hv6)
      have B60 := Lib.hid (B40.out.far hf6 O40.out.sd.1 O40.out.sd.2)
      have O61 := Lib.hid (O41.out.net hf6 hv6)
      have B61 := Lib.hid (B41.out.far hf6 O41.out.sd.1 O41.out.sd.2)
      have O62 := Lib.hid (O42.out.net hf6 hv6)
      have B62 := Lib.hid (B42.out.far hf6 O42.out.sd.1 O42.out.sd.2)
      have O63 := Lib.hid (O43.out.net hf6 hv6)
      have B63 := Lib.hid (B43.out.far hf6 O43.out.sd.1 O43.out.sd.2)
      clear h6 hf6 hv6
      have HP7 := Lib.hid (HP6.out.ref HP6.out.rf.healed (Gr.refl _) RfNew.healed)
      have O70 := Lib.hid (O60.out.ref (Gr.refl _) RfNew.healed)
      have O72 := Lib.hid (O62.out.ref (Gr.refl _) RfNew.healed)
      generalize hZ : Nt.heal x = Z at *
      clear hZ
      have x00 := B60.out.cell (i := 0) rfl
      have x01 := B60.out.cell (i := 1) rfl
      have x02 := B60.out.cell (i := 2) rfl
      have x20 := B62.out.cell (i := 0) rfl
      have x21 := B62.out.cell (i := 1) rfl
      have x22 := B62.out.cell (i := 2) rfl
      have y00 := B60.out.free 0
      have y01 := B60.out.free 1
      have y02 := B60.out.free 2
      have y20 := B62.out.free 0
      have y21 := B62.out.free 1
      have y22 := B62.out.free 2
      go_wp2
      refine bodyPost_ret (v := .tuple #[.agg #[.int .i64 (n : Nat), .slice la ln lc, .slice none 0 0], .bool true]) (by simp [results, Try.results7, go_sem, x20, x21, x22, y20, y21, y22]; try rfl) rfl ?_
      exact (((HP7.out.set O70.out.lo _ O70.out.sd.1 O70.out.sd.2 O70.out.rows).put3 O72.out _ _ _).most (by omega)).does
end Go.Proofs.Ytahohgnkichibab
