import Derived.Test.YtahohgnkichibabF14q
import Derived.Test.YtahohgnkichibabC26
import Derived.WalkKit
import Derived.ProofKit
import Derived.LoopTactic
import Derived.Outline
import Derived.WalkSpells
import Derived.WalkLawsBesides
import Derived.Lib.Hide
import Derived.Deep.LoopGhost
import Derived.Deep.QuietTactic
import Derived.BigQuiet
import Derived.ShutString
import Derived.IntWalk
import Derived.Lib.MinMax
import Derived.BigQuiet
import Derived.Deep.AppendLies
import Derived.Deep.RegionWith
import Derived.Deep.RegionHeld3
namespace Go.Proofs.Ytahohgnkichibab
open Go.ChangeShapes Go.WideShapes Go.ChangeAt Go.RowKit
set_option linter.unusedVariables false
set_option linter.unusedSimpArgs false
open Nt
/-- Each packet has a way. -/
def Ways (x : N) : Prop := ∀ p ∈ x.L, wayB x.n p.a p.b = true
theorem ways_add {x : N} (h : Ways x) {p : P} (hp : wayB x.n p.a p.b = true) : Ways (add x p).1 := by
  unfold add
  split
  · intro q hq
    rcases List.mem_append.1 hq with h1 | h1
    · exact h q h1
    · simp at h1; subst h1; exact hp
  · exact h
theorem ways_send {x : N} (h : Ways x) (p : P) : Ways (send x p).1 := by
  unfold send
  split
  · rename_i hp; exact ways_add h hp
  · exact h
theorem ways_drop {x : N} (h : Ways x) (k : Int) : Ways (drop x k) := by
  unfold Nt.drop
  split
  · intro q hq; exact h q (List.mem_of_mem_eraseIdx hq)
  · exact h
theorem drop_n (x : N) (k : Int) : (drop x k).n = x.n := by unfold Nt.drop; split <;> rfl
theorem ways_look {x : N} (h : Ways x) {k : Int} (hb : hasB x k = true) : wayB x.n (Nt.look x k).1.a (Nt.look x k).1.b = true := by
  have h1 := of_decide_eq_true hb
  have hn : k.toNat < x.L.length := by omega
  unfold Nt.look
  rw [if_pos hb]
  show wayB x.n (x.L.getD k.toNat pzero).a (x.L.getD k.toNat pzero).b = true
  rw [List.getD_eq_getElem?_getD, List.getElem?_eq_getElem hn]
  exact h _ (List.getElem_mem hn)
theorem ways_again {x : N} (h : Ways x) (k : Int) : Ways (again x k).1 := by
  unfold again
  split
  · rename_i hb; exact ways_add h (ways_look h hb)
  · exact h
theorem ways_last {x : N} (h : Ways x) (k : Int) : Ways (last x k).1 := by
  unfold last
  split
  · rename_i hb; exact ways_add (ways_drop h k) (by rw [drop_n]; exact ways_look h hb)
  · exact h
theorem ways_cut {x : N} (h : Ways x) (a b : Int) (q : Bool) : Ways (setCut x a b q) := by
  unfold setCut
  split
  · exact h
  · exact h
/-- A call, by the program and by the document, whatever it is. -/
theorem lawDo_all {x : N} (K A B : Int) (s : ByteArray) (hs : s.size ≤ 9223372036854775807) (hw : Ways x) :
    ∃ y, Ways y ∧ ∀ (b c : Nat) (v rv : Value) (w : World), NtIs w b v x → RfIs w c rv x → RfOff w rv b v → c ≤ 1000000 → Calls Try.prog 7 #[.pointer (some ⟨b, 0, none⟩), rv, .agg #[.int .i64 K, .int .i64 A, .int .i64 B, .string s]] w (DoIs b c v w y) := by
  by_cases h0 : K = 0
  · subst h0; exact ⟨_, ways_send hw _, fun b c v rv w h hr ho hc => lawDo_send 0 A B s w h hr ho hc hs⟩
  by_cases h1 : K = 1
  · subst h1; exact ⟨_, ways_drop hw _, fun b c v rv w h hr ho hc => lawDo_take 1 A B s w h hr ho hc hs⟩
  by_cases h2 : K = 2
  · subst h2; exact ⟨_, ways_drop hw _, fun b c v rv w h hr ho hc => lawDo_drop 2 A B s w h hr ho hc hs⟩
  by_cases h3 : K = 3
  · subst h3; exact ⟨_, ways_again hw _, fun b c v rv w h hr ho hc => lawDo_again 3 A B s w h hr ho hc hs hw⟩
  by_cases h4 : K = 4
  · subst h4; exact ⟨_, ways_last hw _, fun b c v rv w h hr ho hc => lawDo_last 4 A B s w h hr ho hc hs hw⟩
  by_cases h5 : K = 5
  · subst h5; exact ⟨_, ways_cut hw _ _ _, fun b c v rv w h hr ho hc => lawDo_cut 5 A B s w h hr ho hc hs⟩
  by_cases h6 : K = 6
  · subst h6; exact ⟨_, ways_cut hw _ _ _, fun b c v rv w h hr ho hc => lawDo_uncut 6 A B s w h hr ho hc hs⟩
  by_cases h7 : K = 7
  · subst h7; exact ⟨heal x, hw, fun b c v rv w h hr ho hc => lawDo_heal 7 A B s w h hr ho hc hs⟩
  exact ⟨x, hw, fun b c v rv w h hr ho hc => lawDo_other K A B s w h hr ho hc hs (by omega)⟩
theorem CRow.but {w w' : World} {v : Value} {n m : Nat} {cs : List Value} (h : CRow w v n cs) (hk : ∀ g, g ≠ m → ∀ j, w'.cell? ⟨g, j, none⟩ = w.cell? ⟨g, j, none⟩)
    (hb : n ≠ 0 → ∃ z, cs[1]? = some (.int .i64 z)) {a : Option Addr} {n1 c1 : Nat} (hs : w.cell? ⟨m, 1, none⟩ = some (.slice a n1 c1)) : CRow w' v n cs := by
  obtain ⟨la, cap, hv, h1⟩ := h
  refine ⟨la, cap, hv, ?_⟩
  rcases h1 with h1 | ⟨g, ha, hc⟩
  · exact .inl h1
  · by_cases hn : n = 0
    · exact .inl hn
    · obtain ⟨z, hz⟩ := hb hn
      have hg : g ≠ m := fun e => by
        have := hc 1 _ hz
        rw [e, hs] at this
        cases this
      exact .inr ⟨g, ha, fun j u hj => (hk g hg j).trans (hc j u hj)⟩
theorem RfIs.but {w w' : World} {c m : Nat} {rv : Value} {x : N} (h : RfIs w c rv x) (hk : ∀ g, g ≠ m → ∀ j, w'.cell? ⟨g, j, none⟩ = w.cell? ⟨g, j, none⟩) {a : Option Addr} {n1 c1 : Nat} (hs : w.cell? ⟨m, 1, none⟩ = some (.slice a n1 c1)) : RfIs w' c rv x := by
  obtain ⟨⟨lv, cv, M, h1, h2, h3, h4, h5⟩, ok⟩ := h
  refine ⟨⟨lv, cv, M, h1, h2.but hk (fun hn => ?_) hs, h3.but hk (fun hn => ?_) hs, h4, h5⟩, ok⟩
  · exact ⟨_, (pcells_at x.L 0 (by omega)).2.1⟩
  · exact ⟨_, (wcells_at M 0 (by omega)).2⟩
/-- What a round holds. -/
structure NpIs (w0 w : World) (b n6 k : Nat) (v lv cv : Value) (x : N) : Prop where
  own : NtOwn w0 w b v x
  rf : RfIs w k (.agg #[.int .i64 x.n, lv, cv]) x
  off : RfOff w (.agg #[.int .i64 x.n, lv, cv]) b v
  sd : Aside14 n6 b v
  blk : Blk w n6 #[.int .i64 x.n, lv, cv] 29
  lo : w0.heap.size ≤ n6
  ways : Ways x
theorem NpIs.gr {w0 w w' : World} {b n6 k : Nat} {v lv cv : Value} {x : N} (h : NpIs w0 w b n6 k v lv cv x) (hg : Gr w w') : NpIs w0 w' b n6 k v lv cv x :=
  ⟨h.own.more hg, h.rf.gr hg, h.off.gr hg, h.sd, h.blk.gr hg, h.lo, h.ways⟩
/-- Behind the call, and the store of its result. -/
theorem NpIs.next {w0 w w' : World} {b n6 k : Nat} {v lv cv v' la ca : Value} {x y : N} (h : NpIs w0 w b n6 k v lv cv x) (h1 : RfIs w' (k + 1) (.agg #[.int .i64 y.n, la, ca]) y) (h2 : NtIs w' b v' y) (h3 : Far b v w w') (h4 : From v w v') (h5 : RfOff w' (.agg #[.int .i64 y.n, la, ca]) b v')
    {a : Option Addr} {n1 c1 : Nat} (hlv : lv = .slice a n1 c1) (hy : Ways y) :
    NpIs w0 (((w'.setCell ⟨n6, 0, none⟩ (.int .i64 y.n)).setCell ⟨n6, 1, none⟩ la).setCell ⟨n6, 2, none⟩ ca) b n6 (k + 1) v' la ca y := by
  have hb := h.blk.far h3 h.sd.1 h.sd.2
  have hsd := h.sd.from h.blk.lt h4
  have hcell : ∀ g, g ≠ n6 → ∀ j, (((w'.setCell ⟨n6, 0, none⟩ (.int .i64 y.n)).setCell ⟨n6, 1, none⟩ la).setCell ⟨n6, 2, none⟩ ca).cell? ⟨g, j, none⟩ = w'.cell? ⟨g, j, none⟩ := fun g hg j => by
    rw [World.cell?_setCell_other _ _ _ _ (by simp [hg]), World.cell?_setCell_other _ _ _ _ (by simp [hg]), World.cell?_setCell_other _ _ _ _ (by simp [hg])]
  have S3 : Far n6 (.slice none 0 0) w' (((w'.setCell ⟨n6, 0, none⟩ (.int .i64 y.n)).setCell ⟨n6, 1, none⟩ la).setCell ⟨n6, 2, none⟩ ca) := ((Far.setCell n6 0 _ _ _).trans (From.refl _ _) (Far.setCell n6 1 _ _ _)).trans (From.refl _ _) (Far.setCell n6 2 _ _ _)
  have ho := h.own.far h2 h3
  refine ⟨⟨ho.is.far S3 (fun e => hsd.1 e.symm) (by simp [Value.ownBlock]) hsd.2 (fun k _ e => by simp [Value.ownBlock] at e), ?_, ho.lo⟩, h1.but hcell (hb.cell (i := 1) (v := .slice a n1 c1) (by rw [hlv]; rfl)), h5.mono fun u hu g e => ⟨by have := (hu g e).1; simpa [World.setCell] using this, (hu g e).2⟩, hsd, hb.store3 _ _ _, h.lo, hy⟩
  exact (((ho.gr.setCell (p := ⟨n6, 0, none⟩) h.lo _).setCell (p := ⟨n6, 1, none⟩) h.lo _).setCell (p := ⟨n6, 2, none⟩) h.lo _)
/-- Behind the call of do, its result stored into a block of the round's own. -/
structure DoneIs (w3 w : World) (b k n9 : Nat) (v v' : Value) (rv : Value) (cs : Array Value) (y : N) : Prop where
  rf : RfIs w k rv y
  is : NtIs w b v' y
  far : Far b v w3 w
  frm : From v w3 v'
  off : RfOff w rv b v'
  blk : Blk w n9 cs 29
theorem DoneIs.gr {w3 w w' : World} {b k n9 : Nat} {v v' rv : Value} {cs : Array Value} {y : N} (h : DoneIs w3 w b k n9 v v' rv cs y) (hg : Gr w w') : DoneIs w3 w' b k n9 v v' rv cs y :=
  ⟨h.rf.gr hg, h.is.gr hg, h.far.trans h.frm (Far.of_gr hg), h.frm, h.off.gr hg, h.blk.gr hg⟩
theorem cell_set3 {w : World} {b o n : Nat} {v u0 u1 u2 : Value} (h : w.cell? ⟨b, o, none⟩ = some v) (hn : b ≠ n) : (((w.setCell ⟨n, 0, none⟩ u0).setCell ⟨n, 1, none⟩ u1).setCell ⟨n, 2, none⟩ u2).cell? ⟨b, o, none⟩ = some v := by
  rw [World.cell?_setCell_other _ _ _ _ (by simp [hn]), World.cell?_setCell_other _ _ _ _ (by simp [hn]), World.cell?_setCell_other _ _ _ _ (by simp [hn])]
  exact h
theorem done_new {w3 w9 : World} {b k : Nat} {v v' rv : Value} {y : N} (h1 : RfIs w9 k rv y) (h2 : NtIs w9 b v' y) (h3 : Far b v w3 w9) (h4 : From v w3 v') (h5 : RfOff w9 rv b v') (u0 u1 u2 : Value) :
    DoneIs w3 (w9.alloc (.cells #[u0, u1, u2] 29)) b k w9.heap.size v v' rv #[u0, u1, u2] y :=
  DoneIs.mk (h1.gr ((Gr.refl _).alloc _)) (h2.gr ((Gr.refl _).alloc _)) (h3.trans h4 (Far.of_gr ((Gr.refl _).alloc _))) h4 (h5.gr ((Gr.refl _).alloc _)) (Blk.new _ _ _)
theorem done_store {w3 w9 : World} {b k n9 : Nat} {v v' rv : Value} {y : N} (h1 : RfIs w9 k rv y) (h2 : NtIs w9 b v' y) (h3 : Far b v w3 w9) (h4 : From v w3 v') (h5 : RfOff w9 rv b v')
    (hb : Blk w9 n9 #[.int .i64 0, .slice none 0 0, .slice none 0 0] 29) (hn : w3.heap.size ≤ n9) (hs : Aside14 n9 b v') (u0 u1 u2 : Value) :
    DoneIs w3 (((w9.setCell ⟨n9, 0, none⟩ u0).setCell ⟨n9, 1, none⟩ u1).setCell ⟨n9, 2, none⟩ u2) b k n9 v v' rv #[u0, u1, u2] y := by
  have hcell : ∀ g, g ≠ n9 → ∀ j, (((w9.setCell ⟨n9, 0, none⟩ u0).setCell ⟨n9, 1, none⟩ u1).setCell ⟨n9, 2, none⟩ u2).cell? ⟨g, j, none⟩ = w9.cell? ⟨g, j, none⟩ := fun g hg j => by
    rw [World.cell?_setCell_other _ _ _ _ (by simp [hg]), World.cell?_setCell_other _ _ _ _ (by simp [hg]), World.cell?_setCell_other _ _ _ _ (by simp [hg])]
  have S3 : Far n9 (.slice none 0 0) w9 (((w9.setCell ⟨n9, 0, none⟩ u0).setCell ⟨n9, 1, none⟩ u1).setCell ⟨n9, 2, none⟩ u2) := ((Far.setCell n9 0 _ _ _).trans (From.refl _ _) (Far.setCell n9 1 _ _ _)).trans (From.refl _ _) (Far.setCell n9 2 _ _ _)
  refine ⟨h1.but hcell (hb.cell (i := 1) (v := .slice none 0 0) rfl), h2.far S3 (fun e => hs.1 e.symm) (by simp [Value.ownBlock]) hs.2 (fun k _ e => by simp [Value.ownBlock] at e), ⟨S3.os.trans h3.os, S3.tape.trans h3.tape, S3.output.trans h3.output, Nat.le_trans h3.size S3.size, fun i hi h6 h7 => (S3.block i (Nat.lt_of_lt_of_le hi h3.size) (by omega) (by simp [Value.ownBlock])).trans (h3.block i hi h6 h7)⟩, h4,
    h5.mono fun u hu g e => ⟨by have := (hu g e).1; simpa [World.setCell] using this, (hu g e).2⟩, hb.store3 _ _ _⟩
theorem new_net_ref (w : World) (n : Int) : RfIs w 0 (.agg #[.int .i64 (Nt.new n).n, .slice none 0 0, .slice none 0 0]) (Nt.new n) :=
  ⟨⟨_, _, [], rfl, ⟨none, 0, rfl, .inl rfl⟩, ⟨none, 0, rfl, .inl rfl⟩, by simp, fun a b => by unfold Nt.isCut Nt.new; simp⟩, new_ok n⟩
set_option maxRecDepth 100000 in
set_option maxHeartbeats 4000000 in
theorem plays_walk14 (n : Int) (L : List ActN) (a : Option Addr) (cap : Nat) (w : World) (hL : ActNRow w a L) :
    Calls Try.prog 3 #[.int .i64 n, .slice a L.length cap] w fun e w' => e = .returned (.bool true) ∧ Gr w w' := by
  have HL := Lib.hid hL
  have hll := hL.1
  clear hL
  go_enter Try.func3, Try.ntmps3
  go_wp2_with fail
  refine (awake14 _).mono ?_
  rintro e w1 ⟨rfl, hg1⟩
  have HG1 := Lib.hid hg1
  clear hg1
  go_wp2_with fail
  refine (nnew_any n _).mono ?_
  rintro e w2 ⟨b, rfl, hb, h2, hg2⟩
  have H2 := Lib.hid (NtOwn.mk h2 (HG1.out.trans hg2) (by have := HG1.out.size; omega))
  clear hb hg2 h2
  go_wp2
  have hmx : max 0 (min n 12) = (((Nt.new n).n : Nat) : Int) := by show _ = (((min (max n 0) 12).toNat : Nat) : Int); omega
  rw [hmx]
  have H3 := Lib.hid (NpIs.mk (k := 0) (n6 := w2.heap.size) (lv := .slice none 0 0) (cv := .slice none 0 0) (H2.out.more ((Gr.refl w2).alloc (.cells #[.int .i64 (Nt.new n).n, .slice none 0 0, .slice none 0 0] 29))) (new_net_ref _ n) ⟨_, _, _, rfl, fun k e => by simp [Value.ownBlock] at e, fun k e => by simp [Value.ownBlock] at e⟩ (H2.out.is.aside (Nat.le_refl _)) (Blk.new w2 _ _) H2.out.gr.size (fun p hp => by simp [Nt.new] at hp))
  generalize w2.alloc (.cells #[.int .i64 ((Nt.new n).n : Nat), .slice none 0 0, .slice none 0 0] 29) = wa at *
  generalize w2.heap.size = n6 at *
  clear H2 HG1
  go_loopw [7] (fun i wr => ∃ (k : Nat) (v : Value) (la ca : Option Addr) (lc cn cc : Nat) (x : N), k ≤ L.length ∧ k ≤ 40 ∧ i = .int .i64 (k : Nat) ∧ Hid (NpIs w wr b n6 k v (.slice la x.L.length lc) (.slice ca cn cc) x)) (fun i _ => L.length - (intOf i).toNat)
  case atStart => exact ⟨0, _, none, none, 0, 0, 0, Nt.new n, by omega, by omega, rfl, H3⟩
  case round =>
    clear H3
    obtain ⟨k, v, la, ca, lc, cn, cc, x, hk, hk40, rfl, H⟩ := hrel
    by_cases hlt : k < L.length
    · by_cases h40 : k < 40
      · obtain ⟨bb, oo, rfl, hbb, hat, hok⟩ := HL.out.at k hlt
        obtain ⟨c0, c1, c2, c3⟩ := hat.gr H.out.own.gr
        generalize L[k] = p at *
        have hS := hok.2.2.2
        obtain ⟨pK, pA, pB, pS⟩ := p
        simp only at c0 c1 c2 c3 hS
        have hk4 : (k : Int) < (L.length : Int) := by omega
        clear hat hok
        obtain ⟨y, hy, hdo⟩ := lawDo_all pK pA pB pS hS H.out.ways
        have HY := Lib.hid hy
        have HD := Lib.hid hdo
        clear hy hdo
        go_wp2_with fail
        refine (nclone_any _ H.out.own.is).mono ?_
        rintro e w3 ⟨c, vc, rfl, hc, h3, hg3⟩
        have HC := Lib.hid h3
        have HCL := Lib.hid hc
        have H3 := Lib.hid (H.out.gr hg3)
        have HAC := Lib.hid (fun g (e : vc.ownBlock = some g) => h3.away g e)
        have HBL := Lib.hid (show b < wr.heap.size from cell_lt H.out.own.is.nodes)
        have HVL := Lib.hid (fun g (e : v.ownBlock = some g) => H.out.own.is.away g e)
        have HLOV := Lib.hid H.out.own.lov
        have HLO := Lib.hid H.out.own.lo
        have e0 := hg3.cell c0
        have e1 := hg3.cell c1
        have e2 := hg3.cell c2
        have e3 := hg3.cell c3
        clear c0 c1 c2 c3 hc h3 hg3
        have x60 := H3.out.blk.cell (i := 0) rfl
        have x61 := H3.out.blk.cell (i := 1) rfl
        have x62 := H3.out.blk.cell (i := 2) rfl
        go_wp2_with fail
        have HG4 := Lib.hid ((Gr.refl w3).drew)
        have HG5 := Lib.hid (((Gr.refl w3).drew).alloc (.cells #[.int .i64 0, .slice none 0 0, .slice none 0 0] 29))
        have H4 := Lib.hid (H3.out.gr HG4.out)
        have H5 := Lib.hid (H3.out.gr HG5.out)
        have HB5 : Hid (Blk (w3.drew.alloc (.cells #[.int .i64 0, .slice none 0 0, .slice none 0 0] 29)) w3.heap.size #[.int .i64 0, .slice none 0 0, .slice none 0 0] 29) := Lib.hid (Blk.new w3.drew _ _)
        have HA5 := Lib.hid (H3.out.own.is.aside (Nat.le_refl _))
        have HNB := Lib.hid (show bb ≠ b by have := HLO.out; omega)
        have HNV := Lib.hid (show v.ownBlock ≠ some bb from fun e => by have := HLOV.out _ e; omega)
        have HN69 := Lib.hid (show n6 ≠ w3.heap.size by have := H3.out.blk.lt; omega)
        have HBN := Lib.hid (show bb ≠ w3.heap.size by have := H3.out.own.gr.size; omega)
        have HCB := Lib.hid (show c ≠ b by have := HBL.out; have := HCL.out; omega)
        have HVC := Lib.hid (show v.ownBlock ≠ some c from fun e => by have := HVL.out _ e; have := HCL.out; omega)
        have HCC := Lib.hid (show vc.ownBlock ≠ some b from fun e => by have := HAC.out _ e; have := HBL.out; have := HCL.out; omega)
        have HCV := Lib.hid (show ∀ g, vc.ownBlock = some g → v.ownBlock ≠ some g from fun g e e2 => by have := HAC.out _ e; have := HVL.out _ e2; have := HCL.out; omega)
        refine wp_region_held_drew (S := (fun w9 => w9.cell? ⟨n6, 0, none⟩ = some (.int .i64 (x.n : Nat)) ∧ w9.cell? ⟨n6, 1, none⟩ = some (.slice la x.L.length lc) ∧ w9.cell? ⟨n6, 2, none⟩ = some (.slice ca cn cc) ∧ w9.cell? ⟨bb, oo + k * 4, none⟩ = some (.int .i64 pK) ∧ w9.cell? ⟨bb, oo + k * 4 + 1, none⟩ = some (.int .i64 pA) ∧ w9.cell? ⟨bb, oo + k * 4 + 2, none⟩ = some (.int .i64 pB) ∧ w9.cell? ⟨bb, oo + k * 4 + 3, none⟩ = some (.string pS))) (by kernel_rfl) ?inva (fun h0 => ?_)
        case inva => ((try dsimp only); (exact ⟨x60, x61, x62, e0, e1, e2, e3⟩))
        refine wpAnyH_take (i := 0) (oi := { dst := some 34, op := Go.Op.move (Go.Operand.tmp 5), type := 24, pos := "law.go:104", after := #[], guard := none }) (v := ?va1) rfl (by kernel_rfl) (by kernel_rfl) (by kernel_rfl) (fun _ _ _ h => h) (Or.inl ⟨by rfl, ?ra1⟩) (by assumption) ?_
        case ra1 => (intro w hSw; (try dsimp only at hSw); (go_simp <;> with_reducible rfl))
        try simp only [Act.put, List.setIfInBounds_toArray, List.set_cons_zero, List.set_cons_succ]
        refine wpAnyH_take (i := 1) (oi := { dst := some 35, op := Go.Op.load 29 (Go.Operand.tmp 6), type := 29, pos := "law.go:104", after := #[], guard := none }) (v := ?va2) rfl (by kernel_rfl) (by kernel_rfl) (by kernel_rfl) (fun _ _ _ h => h) (Or.inl ⟨by rfl, ?ra2⟩) (by assumption) ?_
        case ra2 => (intro w hSw; (try dsimp only at hSw); (go_simp <;> with_reducible rfl))
        try simp only [Act.put, List.setIfInBounds_toArray, List.set_cons_zero, List.set_cons_succ]
        refine wpAnyH_take (i := 2) (oi := { dst := some 36, op := Go.Op.move (Go.Operand.tmp 1), type := 22, pos := "law.go:104", after := #[], guard := none }) (v := ?va3) rfl (by kernel_rfl) (by kernel_rfl) (by kernel_rfl) (fun _ _ _ h => h) (Or.inl ⟨by rfl, ?ra3⟩) (by assumption) ?_
        case ra3 => (intro w hSw; (try dsimp only at hSw); (go_simp <;> with_reducible rfl))
        try simp only [Act.put, List.setIfInBounds_toArray, List.set_cons_zero, List.set_cons_succ]
        refine wpAnyH_take (i := 3) (oi := { dst := some 37, op := Go.Op.move (Go.Operand.tmp 7), type := 3, pos := "law.go:104", after := #[], guard := none }) (v := ?va4) rfl (by kernel_rfl) (by kernel_rfl) (by kernel_rfl) (fun _ _ _ h => h) (Or.inl ⟨by rfl, ?ra4⟩) (by assumption) ?_
        case ra4 => (intro w hSw; (try dsimp only at hSw); (go_simp <;> with_reducible rfl))
        try simp only [Act.put, List.setIfInBounds_toArray, List.set_cons_zero, List.set_cons_succ]
        refine wpAnyH_take (i := 4) (oi := { dst := some 38, op := Go.Op.indexAddr 22 (Go.Operand.tmp 36) (Go.Operand.tmp 37), type := 0, pos := "law.go:104", after := #[{ on := 2, ground := Go.Ground.data }, { on := 3, ground := Go.Ground.data }], guard := none }) (v := ?va5) rfl (by kernel_rfl) (by kernel_rfl) (by kernel_rfl) (fun _ _ _ h => h) (Or.inl ⟨by rfl, ?ra5⟩) (by assumption) ?_
        case ra5 => (intro w hSw; (try dsimp only at hSw); (go_simp <;> with_reducible rfl))
        try simp only [Act.put, List.setIfInBounds_toArray, List.set_cons_zero, List.set_cons_succ]
        refine wpAnyH_take (i := 5) (oi := { dst := some 39, op := Go.Op.load 34 (Go.Operand.tmp 38), type := 34, pos := "law.go:104", after := #[{ on := 4, ground := Go.Ground.data }], guard := none }) (v := ?va6) rfl (by kernel_rfl) (by kernel_rfl) (by kernel_rfl) (fun _ _ _ h => h) (Or.inl ⟨by rfl, ?ra6⟩) (by assumption) ?_
        case ra6 => (intro w hSw; (try dsimp only at hSw); (go_simp <;> with_reducible rfl))
        try simp only [Act.put, List.setIfInBounds_toArray, List.set_cons_zero, List.set_cons_succ]
        refine wpAnyH_ready (rs := [6, 10]) (by kernel_rfl) (by simp) ?_
        refine AllReadyH.cons (o := { dst := some 40, op := Go.Op.call { callee := Go.Callee.value (Go.Operand.func 7), args := #[Go.Operand.tmp 34, Go.Operand.tmp 35, Go.Operand.tmp 39], argTypes := #[24, 29, 34] }, type := 31, pos := "law.go:104", after := #[{ on := 0, ground := Go.Ground.data }, { on := 1, ground := Go.Ground.data }, { on := 5, ground := Go.Ground.data }], guard := none }) rfl (fun K hK => ?_) (AllReadyH.cons (o := { dst := some 9, op := Go.Op.alloc 29, type := 0, pos := "law.go:104", after := #[], guard := none }) rfl (fun K hK => ?_) AllReadyH.nil)
        · skip
          go_simp
          go_at_call 7
          refine (HD.out b k v _ _ H4.out.own.is H4.out.rf H4.out.off (by omega)).mono ?_
          rintro e w9 ⟨rv9, v9, rfl, h1, h2, h3, h4, h5⟩
          have hform := h1
          obtain ⟨⟨l7, c7, M7, hrv, g2, g3, _, _⟩, _⟩ := hform
          obtain ⟨la7, lc7, rfl, _⟩ := g2
          obtain ⟨ca7, cc7, rfl, _⟩ := g3
          subst hrv
          have QF := Lib.hid ((Far.of_gr HG4.out).trans (From.refl v w3) h3)
          have B6 := Lib.hid (H3.out.blk.far QF.out H3.out.sd.1 H3.out.sd.2)
          have QE := Lib.hid (show _ ∧ _ ∧ _ ∧ _ from ⟨QF.out.cell HNB.out HNV.out e0, QF.out.cell HNB.out HNV.out e1, QF.out.cell HNB.out HNV.out e2, QF.out.cell HNB.out HNV.out e3⟩)
          have Q1 := Lib.hid h1
          have Q2 := Lib.hid h2
          have Q4 := Lib.hid (show From v w3 v9 from fun g e => (h4 g e).imp id (fun h => Nat.le_trans HG4.out.size h))
          have Q5 := Lib.hid h5
          clear h1 h2 h3 h4 h5
          first | refine hK.out _ _ ?sa7 (fun h7 => ?_) | (go_wp2_with fail; refine hK.out _ _ ?sa7 (fun h7 => ?_))
          case sa7 => ((try dsimp only); (exact ⟨(B6.out).cell rfl, (B6.out).cell rfl, (B6.out).cell rfl, QE.out⟩))
          clear hK K h0
          try simp only [Act.put, List.setIfInBounds_toArray, List.set_cons_zero, List.set_cons_succ]
          refine wpAnyH_take (i := 7) (oi := { dst := some 33, op := Go.Op.move (Go.Operand.tmp 40), type := 31, pos := "law.go:104", after := #[{ on := 6, ground := Go.Ground.data }], guard := none }) (v := ?va8) rfl (by kernel_rfl) (by kernel_rfl) (by kernel_rfl) (fun _ _ _ h => h) (Or.inl ⟨by rfl, ?ra8⟩) (by assumption) ?_
          case ra8 => (intro w hSw; (try dsimp only at hSw); (go_simp <;> with_reducible rfl))
          try simp only [Act.put, List.setIfInBounds_toArray, List.set_cons_zero, List.set_cons_succ]
          refine wpAnyH_take (i := 8) (oi := { dst := some 41, op := Go.Op.extract (Go.Operand.tmp 33) 0, type := 29, pos := "law.go:104", after := #[{ on := 7, ground := Go.Ground.data }], guard := none }) (v := ?va9) rfl (by kernel_rfl) (by kernel_rfl) (by kernel_rfl) (fun _ _ _ h => h) (Or.inl ⟨by rfl, ?ra9⟩) (by assumption) ?_
          case ra9 => (intro w hSw; (try dsimp only at hSw); (go_simp <;> with_reducible rfl))
          try simp only [Act.put, List.setIfInBounds_toArray, List.set_cons_zero, List.set_cons_succ]
          refine wpAnyH_take (i := 9) (oi := { dst := some 42, op := Go.Op.extract (Go.Operand.tmp 33) 1, type := 4, pos := "law.go:104", after := #[{ on := 7, ground := Go.Ground.data }, { on := 11, ground := Go.Ground.gcOnly Go.Departure.lateStores }], guard := none }) (v := ?va10) rfl (by kernel_rfl) (by kernel_rfl) (by kernel_rfl) (fun _ _ _ h => h) (Or.inl ⟨by rfl, ?ra10⟩) (by assumption) ?_
          case ra10 => (intro w hSw; (try dsimp only at hSw); (go_simp <;> with_reducible rfl))
          try simp only [Act.put, List.setIfInBounds_toArray, List.set_cons_zero, List.set_cons_succ]
          refine wpAnyH_ready (rs := [10]) (by kernel_rfl) (by simp) ?_
          refine AllReadyH.cons (o := { dst := some 9, op := Go.Op.alloc 29, type := 0, pos := "law.go:104", after := #[], guard := none }) rfl (fun K hK => ?_) AllReadyH.nil
          go_simp
          skip
          first | refine hK.out _ _ ?sa11 (fun h11 => ?_) | (go_wp2_with fail; refine hK.out _ _ ?sa11 (fun h11 => ?_))
          case sa11 => ((try dsimp only); (exact ⟨(B6.out.gr ((Gr.refl w9).alloc _)).cell rfl, (B6.out.gr ((Gr.refl w9).alloc _)).cell rfl, (B6.out.gr ((Gr.refl w9).alloc _)).cell rfl, ((Gr.refl w9).alloc _).cell QE.out.1, ((Gr.refl w9).alloc _).cell QE.out.2.1, ((Gr.refl w9).alloc _).cell QE.out.2.2.1, ((Gr.refl w9).alloc _).cell QE.out.2.2.2⟩))
          clear hK K h7
          try simp only [Act.put, List.setIfInBounds_toArray, List.set_cons_zero, List.set_cons_succ]
          refine wpAnyH_ready (rs := [11]) (by kernel_rfl) (by simp) ?_
          refine AllReadyH.cons (o := { dst := none, op := Go.Op.store 29 (Go.Operand.tmp 9) (Go.Operand.tmp 41), type := 0, pos := "law.go:104", after := #[{ on := 10, ground := Go.Ground.data }, { on := 8, ground := Go.Ground.data }, { on := 6, ground := Go.Ground.chain }, { on := 0, ground := Go.Ground.phase }, { on := 1, ground := Go.Ground.phase }, { on := 2, ground := Go.Ground.phase }, { on := 3, ground := Go.Ground.phase }, { on := 4, ground := Go.Ground.phase }, { on := 5, ground := Go.Ground.phase }, { on := 6, ground := Go.Ground.phase }, { on := 7, ground := Go.Ground.phase }, { on := 8, ground := Go.Ground.phase }, { on := 9, ground := Go.Ground.textOnly Go.Departure.lateStores }, { on := 10, ground := Go.Ground.phase }], guard := none }) rfl (fun K hK => ?_) AllReadyH.nil
          go_simp
          skip
          first | refine hK.out _ _ ?sa12 (fun h12 => ?_) | (go_wp2_with fail; refine hK.out _ _ ?sa12 (fun h12 => ?_))
          case sa12 => ((try dsimp only); (exact ⟨(B6.out.gr ((Gr.refl w9).alloc _)).cell rfl, (B6.out.gr ((Gr.refl w9).alloc _)).cell rfl, (B6.out.gr ((Gr.refl w9).alloc _)).cell rfl, ((Gr.refl w9).alloc _).cell QE.out.1, ((Gr.refl w9).alloc _).cell QE.out.2.1, ((Gr.refl w9).alloc _).cell QE.out.2.2.1, ((Gr.refl w9).alloc _).cell QE.out.2.2.2⟩))
          clear hK K h11
          try simp only [Act.put, List.setIfInBounds_toArray, List.set_cons_zero, List.set_cons_succ]
          refine wpAnyH_take (i := 12) (oi := { dst := some 10, op := Go.Op.assign (Go.Operand.tmp 42), type := 4, pos := "law.go:104", after := #[{ on := 9, ground := Go.Ground.data }, { on := 11, ground := Go.Ground.chain }, { on := 0, ground := Go.Ground.phase }, { on := 1, ground := Go.Ground.phase }, { on := 2, ground := Go.Ground.phase }, { on := 3, ground := Go.Ground.phase }, { on := 4, ground := Go.Ground.phase }, { on := 5, ground := Go.Ground.phase }, { on := 6, ground := Go.Ground.phase }, { on := 7, ground := Go.Ground.phase }, { on := 8, ground := Go.Ground.phase }, { on := 9, ground := Go.Ground.phase }, { on := 10, ground := Go.Ground.phase }, { on := 11, ground := Go.Ground.phase }], guard := none }) (v := ?va13) rfl (by kernel_rfl) (by kernel_rfl) (by kernel_rfl) (fun _ _ _ h => h) (Or.inl ⟨by rfl, ?ra13⟩) (by assumption) ?_
          case ra13 => (intro w hSw; (try dsimp only at hSw); (go_simp <;> with_reducible rfl))
          try simp only [Act.put, List.setIfInBounds_toArray, List.set_cons_zero, List.set_cons_succ]
          refine wpAnyH_done (by kernel_rfl) ?_ _
          clear h12 x60 x61 x62 e0 e1 e2 e3
          have D := Lib.hid (done_new Q1.out Q2.out QF.out Q4.out Q5.out (.int .i64 (y.n : Nat)) (.slice la7 y.L.length lc7) (.slice ca7 M7.length cc7))
          generalize w9.alloc (.cells #[.int .i64 (y.n : Nat), .slice la7 y.L.length lc7, .slice ca7 M7.length cc7] 29) = w5 at *
          generalize w9.heap.size = n9 at *
          clear B6 QE QF Q1 Q2 Q4 Q5
          have B6 := Lib.hid (H3.out.blk.far D.out.far H3.out.sd.1 H3.out.sd.2)
          have z0 := D.out.blk.cell (i := 0) rfl
          have z1 := D.out.blk.cell (i := 1) rfl
          have z2 := D.out.blk.cell (i := 2) rfl
          go_wp2_with fail
          refine (lawIs_any _ D.out.is D.out.rf (by omega)).mono ?_
          rintro e w6 ⟨rfl, hg6⟩
          have HC6 := Lib.hid ((HC.out.far D.out.far HCB.out HVC.out HCC.out HCV.out).gr hg6)
          have HR6 := Lib.hid ((H3.out.rf.far D.out.far H3.out.off).gr hg6)
          have D6 := Lib.hid (D.out.gr hg6)
          have B66 := Lib.hid (B6.out.gr hg6)
          have x60 := B66.out.cell (i := 0) rfl
          have x61 := B66.out.cell (i := 1) rfl
          have x62 := B66.out.cell (i := 2) rfl
          clear hg6 z0 z1 z2
          go_wp2_with fail
          refine (lawIs_any _ HC6.out HR6.out (by omega)).mono ?_
          rintro e w7 ⟨rfl, hg7⟩
          have D7 := Lib.hid (D6.out.gr hg7)
          have B67 := Lib.hid (B66.out.gr hg7)
          clear hg7 x60 x61 x62
          have z0 := D7.out.blk.cell (i := 0) rfl
          have z1 := D7.out.blk.cell (i := 1) rfl
          have z2 := D7.out.blk.cell (i := 2) rfl
          have x60 := B67.out.cell (i := 0) rfl
          have x61 := B67.out.cell (i := 1) rfl
          have x62 := B67.out.cell (i := 2) rfl
          have y60 := B67.out.free 0
          have y61 := B67.out.free 1
          have y62 := B67.out.free 2
          go_wp2
          go_roundw
          case rel => exact ⟨k + 1, v9, la7, ca7, lc7, M7.length, cc7, y, by omega, by omega, by go_num, Lib.hid (H3.out.next D7.out.rf D7.out.is D7.out.far D7.out.frm D7.out.off rfl HY.out)⟩
          case measure => simp [intOf]; omega
        · skip
          go_simp
          skip
          first | refine hK.out _ _ ?sa14 (fun h14 => ?_) | (go_wp2_with fail; refine hK.out _ _ ?sa14 (fun h14 => ?_))
          case sa14 => ((try dsimp only); (exact ⟨(H5.out.blk).cell rfl, (H5.out.blk).cell rfl, (H5.out.blk).cell rfl, HG5.out.cell e0, HG5.out.cell e1, HG5.out.cell e2, HG5.out.cell e3⟩))
          clear hK K h0
          try simp only [Act.put, List.setIfInBounds_toArray, List.set_cons_zero, List.set_cons_succ]
          refine wpAnyH_ready (rs := [6]) (by kernel_rfl) (by simp) ?_
          refine AllReadyH.cons (o := { dst := some 40, op := Go.Op.call { callee := Go.Callee.value (Go.Operand.func 7), args := #[Go.Operand.tmp 34, Go.Operand.tmp 35, Go.Operand.tmp 39], argTypes := #[24, 29, 34] }, type := 31, pos := "law.go:104", after := #[{ on := 0, ground := Go.Ground.data }, { on := 1, ground := Go.Ground.data }, { on := 5, ground := Go.Ground.data }], guard := none }) rfl (fun K hK => ?_) AllReadyH.nil
          go_simp
          go_at_call 7
          refine (HD.out b k v _ _ H5.out.own.is H5.out.rf H5.out.off (by omega)).mono ?_
          rintro e w9 ⟨rv9, v9, rfl, h1, h2, h3, h4, h5⟩
          have hform := h1
          obtain ⟨⟨l7, c7, M7, hrv, g2, g3, _, _⟩, _⟩ := hform
          obtain ⟨la7, lc7, rfl, _⟩ := g2
          obtain ⟨ca7, cc7, rfl, _⟩ := g3
          subst hrv
          have QF := Lib.hid ((Far.of_gr HG5.out).trans (From.refl v w3) h3)
          have B6 := Lib.hid (H3.out.blk.far QF.out H3.out.sd.1 H3.out.sd.2)
          have QE := Lib.hid (show _ ∧ _ ∧ _ ∧ _ from ⟨QF.out.cell HNB.out HNV.out e0, QF.out.cell HNB.out HNV.out e1, QF.out.cell HNB.out HNV.out e2, QF.out.cell HNB.out HNV.out e3⟩)
          have Q1 := Lib.hid h1
          have Q2 := Lib.hid h2
          have Q4 := Lib.hid (show From v w3 v9 from fun g e => (h4 g e).imp id (fun h => Nat.le_trans HG5.out.size h))
          have Q5 := Lib.hid h5
          have B9 := Lib.hid (HB5.out.far h3 HA5.out.1 HA5.out.2)
          have QA := Lib.hid (HA5.out.from HB5.out.lt h4)
          have z0 := B9.out.cell (i := 0) rfl
          have z1 := B9.out.cell (i := 1) rfl
          have z2 := B9.out.cell (i := 2) rfl
          have y0 := B9.out.free 0
          have y1 := B9.out.free 1
          have y2 := B9.out.free 2
          clear h1 h2 h3 h4 h5
          first | refine hK.out _ _ ?sa15 (fun h15 => ?_) | (go_wp2_with fail; refine hK.out _ _ ?sa15 (fun h15 => ?_))
          case sa15 => ((try dsimp only); (exact ⟨(B6.out).cell rfl, (B6.out).cell rfl, (B6.out).cell rfl, QE.out⟩))
          clear hK K h14
          try simp only [Act.put, List.setIfInBounds_toArray, List.set_cons_zero, List.set_cons_succ]
          refine wpAnyH_take (i := 7) (oi := { dst := some 33, op := Go.Op.move (Go.Operand.tmp 40), type := 31, pos := "law.go:104", after := #[{ on := 6, ground := Go.Ground.data }], guard := none }) (v := ?va16) rfl (by kernel_rfl) (by kernel_rfl) (by kernel_rfl) (fun _ _ _ h => h) (Or.inl ⟨by rfl, ?ra16⟩) (by assumption) ?_
          case ra16 => (intro w hSw; (try dsimp only at hSw); (go_simp <;> with_reducible rfl))
          try simp only [Act.put, List.setIfInBounds_toArray, List.set_cons_zero, List.set_cons_succ]
          refine wpAnyH_take (i := 8) (oi := { dst := some 41, op := Go.Op.extract (Go.Operand.tmp 33) 0, type := 29, pos := "law.go:104", after := #[{ on := 7, ground := Go.Ground.data }], guard := none }) (v := ?va17) rfl (by kernel_rfl) (by kernel_rfl) (by kernel_rfl) (fun _ _ _ h => h) (Or.inl ⟨by rfl, ?ra17⟩) (by assumption) ?_
          case ra17 => (intro w hSw; (try dsimp only at hSw); (go_simp <;> with_reducible rfl))
          try simp only [Act.put, List.setIfInBounds_toArray, List.set_cons_zero, List.set_cons_succ]
          refine wpAnyH_take (i := 9) (oi := { dst := some 42, op := Go.Op.extract (Go.Operand.tmp 33) 1, type := 4, pos := "law.go:104", after := #[{ on := 7, ground := Go.Ground.data }, { on := 11, ground := Go.Ground.gcOnly Go.Departure.lateStores }], guard := none }) (v := ?va18) rfl (by kernel_rfl) (by kernel_rfl) (by kernel_rfl) (fun _ _ _ h => h) (Or.inl ⟨by rfl, ?ra18⟩) (by assumption) ?_
          case ra18 => (intro w hSw; (try dsimp only at hSw); (go_simp <;> with_reducible rfl))
          try simp only [Act.put, List.setIfInBounds_toArray, List.set_cons_zero, List.set_cons_succ]
          refine wpAnyH_ready (rs := [11]) (by kernel_rfl) (by simp) ?_
          refine AllReadyH.cons (o := { dst := none, op := Go.Op.store 29 (Go.Operand.tmp 9) (Go.Operand.tmp 41), type := 0, pos := "law.go:104", after := #[{ on := 10, ground := Go.Ground.data }, { on := 8, ground := Go.Ground.data }, { on := 6, ground := Go.Ground.chain }, { on := 0, ground := Go.Ground.phase }, { on := 1, ground := Go.Ground.phase }, { on := 2, ground := Go.Ground.phase }, { on := 3, ground := Go.Ground.phase }, { on := 4, ground := Go.Ground.phase }, { on := 5, ground := Go.Ground.phase }, { on := 6, ground := Go.Ground.phase }, { on := 7, ground := Go.Ground.phase }, { on := 8, ground := Go.Ground.phase }, { on := 9, ground := Go.Ground.textOnly Go.Departure.lateStores }, { on := 10, ground := Go.Ground.phase }], guard := none }) rfl (fun K hK => ?_) AllReadyH.nil
          go_simp
          skip
          first | refine hK.out _ _ ?sa19 (fun h19 => ?_) | (go_wp2_with fail; refine hK.out _ _ ?sa19 (fun h19 => ?_))
          case sa19 => ((try dsimp only); (exact ⟨(B6.out.apart3 HN69.out _ _ _).cell rfl, (B6.out.apart3 HN69.out _ _ _).cell rfl, (B6.out.apart3 HN69.out _ _ _).cell rfl, cell_set3 QE.out.1 HBN.out, cell_set3 QE.out.2.1 HBN.out, cell_set3 QE.out.2.2.1 HBN.out, cell_set3 QE.out.2.2.2 HBN.out⟩))
          clear hK K h15
          try simp only [Act.put, List.setIfInBounds_toArray, List.set_cons_zero, List.set_cons_succ]
          refine wpAnyH_take (i := 12) (oi := { dst := some 10, op := Go.Op.assign (Go.Operand.tmp 42), type := 4, pos := "law.go:104", after := #[{ on := 9, ground := Go.Ground.data }, { on := 11, ground := Go.Ground.chain }, { on := 0, ground := Go.Ground.phase }, { on := 1, ground := Go.Ground.phase }, { on := 2, ground := Go.Ground.phase }, { on := 3, ground := Go.Ground.phase }, { on := 4, ground := Go.Ground.phase }, { on := 5, ground := Go.Ground.phase }, { on := 6, ground := Go.Ground.phase }, { on := 7, ground := Go.Ground.phase }, { on := 8, ground := Go.Ground.phase }, { on := 9, ground := Go.Ground.phase }, { on := 10, ground := Go.Ground.phase }, { on := 11, ground := Go.Ground.phase }], guard := none }) (v := ?va20) rfl (by kernel_rfl) (by kernel_rfl) (by kernel_rfl) (fun _ _ _ h => h) (Or.inl ⟨by rfl, ?ra20⟩) (by assumption) ?_
          case ra20 => (intro w hSw; (try dsimp only at hSw); (go_simp <;> with_reducible rfl))
          try simp only [Act.put, List.setIfInBounds_toArray, List.set_cons_zero, List.set_cons_succ]
          refine wpAnyH_done (by kernel_rfl) ?_ _
          clear h19 x60 x61 x62 e0 e1 e2 e3 z0 z1 z2 y0 y1 y2
          have D := Lib.hid (done_store Q1.out Q2.out QF.out Q4.out Q5.out B9.out (Nat.le_refl _) QA.out (.int .i64 (y.n : Nat)) (.slice la7 y.L.length lc7) (.slice ca7 M7.length cc7))
          generalize ((w9.setCell ⟨w3.heap.size, 0, none⟩ (.int .i64 (y.n : Nat))).setCell ⟨w3.heap.size, 1, none⟩ (.slice la7 y.L.length lc7)).setCell ⟨w3.heap.size, 2, none⟩ (.slice ca7 M7.length cc7) = w5 at *
          generalize w3.heap.size = n9 at *
          clear B6 QE QF Q1 Q2 Q4 Q5 B9 QA
          have B6 := Lib.hid (H3.out.blk.far D.out.far H3.out.sd.1 H3.out.sd.2)
          have z0 := D.out.blk.cell (i := 0) rfl
          have z1 := D.out.blk.cell (i := 1) rfl
          have z2 := D.out.blk.cell (i := 2) rfl
          go_wp2_with fail
          refine (lawIs_any _ D.out.is D.out.rf (by omega)).mono ?_
          rintro e w6 ⟨rfl, hg6⟩
          have HC6 := Lib.hid ((HC.out.far D.out.far HCB.out HVC.out HCC.out HCV.out).gr hg6)
          have HR6 := Lib.hid ((H3.out.rf.far D.out.far H3.out.off).gr hg6)
          have D6 := Lib.hid (D.out.gr hg6)
          have B66 := Lib.hid (B6.out.gr hg6)
          have x60 := B66.out.cell (i := 0) rfl
          have x61 := B66.out.cell (i := 1) rfl
          have x62 := B66.out.cell (i := 2) rfl
          clear hg6 z0 z1 z2
          go_wp2_with fail
          refine (lawIs_any _ HC6.out HR6.out (by omega)).mono ?_
          rintro e w7 ⟨rfl, hg7⟩
          have D7 := Lib.hid (D6.out.gr hg7)
          have B67 := Lib.hid (B66.out.gr hg7)
          clear hg7 x60 x61 x62
          have z0 := D7.out.blk.cell (i := 0) rfl
          have z1 := D7.out.blk.cell (i := 1) rfl
          have z2 := D7.out.blk.cell (i := 2) rfl
          have x60 := B67.out.cell (i := 0) rfl
          have x61 := B67.out.cell (i := 1) rfl
          have x62 := B67.out.cell (i := 2) rfl
          have y60 := B67.out.free 0
          have y61 := B67.out.free 1
          have y62 := B67.out.free 2
          go_wp2
          go_roundw
          case rel => exact ⟨k + 1, v9, la7, ca7, lc7, M7.length, cc7, y, by omega, by omega, by go_num, Lib.hid (H3.out.next D7.out.rf D7.out.is D7.out.far D7.out.frm D7.out.off rfl HY.out)⟩
          case measure => simp [intOf]; omega
      · have hk5 : ¬ (k : Int) < 40 := by omega
        go_wp2
        go_ret
        exact ⟨rfl, H.out.own.gr⟩
    · have hk5 : ¬ (k : Int) < (L.length : Int) := by omega
      go_wp2
      go_ret
      exact ⟨rfl, H.out.own.gr⟩
end Go.Proofs.Ytahohgnkichibab
