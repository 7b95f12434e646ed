import Derived.Test.YtmgpnpmdmelnkaaGreatDoorF22m
import Derived.WalkKit
import Derived.ProofKit
import Derived.LoopTactic
import Derived.Outline
import Derived.WalkSpells
import Derived.WalkLawsBesides
import Derived.Lib.Hide
import Derived.Deep.LoopGhost
import Derived.Deep.QuietTactic
import Derived.BigQuiet
import Derived.ShutString
import Derived.IntWalk
import Derived.Lib.MinMax
import Derived.Deep.AppendLies
import Derived.Deep.RegionWith
import Derived.Deep.RegionHeld3
import Derived.Laws.OwnMore
namespace Go.Proofs.YtmgpnpmdmelnkaaGreatDoor
open Go.ChangeShapes Go.WideShapes Go.ChangeAt Go.RowKit
set_option linter.unusedVariables false
set_option linter.unusedSimpArgs false
variable {w0 w : World} {b : Nat} {v1 v2 : Value} {B : Bk}
/-- Who waits is granted, or left: one after the other. -/
noncomputable def serveStep (s : Bk × List Lok × List Lok) (x : Lok) : Bk × List Lok × List Lok :=
  if freeB s.1.H s.2.2 x = true ∧ s.1.last ≠ 18446744073709551615 then (grantB s.1 x, s.2.1 ++ [tokd s.1 x], s.2.2) else (s.1, s.2.1, s.2.2 ++ [x])
noncomputable def serveF (B : Bk) (L : List Lok) : Bk × List Lok × List Lok := L.foldl serveStep (B, [], [])
noncomputable def serveB (B : Bk) : Bk × List Lok := (⟨(serveF B B.W).1.H, (serveF B B.W).2.2, (serveF B B.W).1.last⟩, (serveF B B.W).2.1)
theorem serveF_snoc (B : Bk) (L : List Lok) (j : Nat) (h : j < L.length) : serveF B (L.take (j + 1)) = serveStep (serveF B (L.take j)) L[j] := by
  unfold serveF
  rw [List.take_succ_eq_append_getElem h, List.foldl_append]
  rfl
structure SvP (B : Bk) (j : Nat) (s : Bk × List Lok × List Lok) : Prop where
  w : s.1.W = B.W
  srt : SrtK s.1.H
  path : (∀ x ∈ s.1.H, IsPath x.txt) ∧ (∀ x ∈ s.2.1, IsPath x.txt) ∧ ∀ x ∈ s.2.2, IsPath x.txt
  len : s.1.H.length ≤ B.H.length + j ∧ s.2.1.length ≤ j ∧ s.2.2.length ≤ j
  last : 0 ≤ s.1.last ∧ s.1.last ≤ 18446744073709551615
theorem SvP.step {j : Nat} {s : Bk × List Lok × List Lok} (h : SvP B j s) {x : Lok} (hx : IsPath x.txt) : SvP B (j + 1) (serveStep s x) := by
  obtain ⟨h1, h2, h3⟩ := h.len
  unfold serveStep
  split
  · rename_i hc
    refine ⟨h.w, srt_ins h.srt _, ⟨fun y hy => ?_, fun y hy => ?_, h.path.2.2⟩, ⟨?_, ?_, by show s.2.2.length ≤ _; omega⟩, ?_⟩
    · have hy : y ∈ ins s.1.H (posK s.1.H (tokd s.1 x)) (tokd s.1 x) := hy
      unfold ins at hy
      rcases List.mem_append.1 hy with hy | hy
      · exact h.path.1 y (List.mem_of_mem_take hy)
      · rcases List.mem_cons.1 hy with rfl | hy
        · exact hx
        · exact h.path.1 y (List.mem_of_mem_drop hy)
    · rcases List.mem_append.1 hy with hy | hy
      · exact h.path.2.1 y hy
      · simp at hy; subst hy; exact hx
    · show (ins s.1.H (posK s.1.H (tokd s.1 x)) (tokd s.1 x)).length ≤ _
      rw [ins_len _ _ _ (show posK s.1.H (tokd s.1 x) ≤ s.1.H.length from List.findIdx_le_length)]; omega
    · show (s.2.1 ++ [_]).length ≤ _
      rw [List.length_append]; simp; omega
    · have := h.last
      have := hc.2
      show 0 ≤ s.1.last + 1 ∧ s.1.last + 1 ≤ _
      omega
  · refine ⟨h.w, h.srt, ⟨h.path.1, h.path.2.1, fun y hy => ?_⟩, ⟨by show s.1.H.length ≤ _; omega, by show s.2.1.length ≤ _; omega, ?_⟩, h.last⟩
    · rcases List.mem_append.1 hy with hy | hy
      · exact h.path.2.2 y hy
      · simp at hy; subst hy; exact hx
    · show (s.2.2 ++ [x]).length ≤ _
      rw [List.length_append]; simp; omega
structure SvIs (w0 w wr : World) (b : Nat) (v1 v2 : Value) (s : Bk × List Lok × List Lok) (u1 v3 v4 : Value) : Prop where
  bk : BkIs w0 wr b u1 v2 s.1
  far : Far2 b v1 (.slice none 0 0) w wr
  fr : From v1 w u1
  r3 : wr.ownsRow w.heap.size 42 4 v3 s.2.1.length (rcells encLok s.2.1)
  r4 : wr.ownsRow w.heap.size 42 4 v4 s.2.2.length (rcells encLok s.2.2)
  n34 : v3.ownBlock = none ∨ v3.ownBlock ≠ v4.ownBlock
  n13 : u1.ownBlock = none ∨ u1.ownBlock ≠ v3.ownBlock
  n14 : u1.ownBlock = none ∨ u1.ownBlock ≠ v4.ownBlock
  b : b < w.heap.size
  v2 : ∀ k, v2.ownBlock = some k → k < w.heap.size
variable {wr wx : World} {s : Bk × List Lok × List Lok} {u1 v3 v4 : Value}
theorem SvIs.gr (h : SvIs w0 w wr b v1 v2 s u1 v3 v4) (hg : Gr wr wx) : SvIs w0 w wx b v1 v2 s u1 v3 v4 :=
  ⟨h.bk.gr hg, h.far.trans (From.refl _ _) (From.refl _ _) (Far2.of_gr hg), h.fr, ownsRow_gr hg h.r3, ownsRow_gr hg h.r4, h.n34, h.n13, h.n14, h.b, h.v2⟩
theorem own_ge {w : World} {base k n g : Nat} {e : TypeId} {v : Value} {xs : List Value} (h : w.ownsRow base e k v n xs) (hv : v.ownBlock = some g) : base ≤ g ∧ g < w.heap.size := h.lt _ hv
/-- A grant. -/
theorem SvIs.grant (h : SvIs w0 w wr b v1 v2 s u1 v3 v4) {B' : Bk} (ht : BkTo1 w0 wr wx b u1 v2 B') : ∃ u1', SvIs w0 w wx b v1 v2 (B', s.2.1, s.2.2) u1' v3 v4 := by
  obtain ⟨u1', hk, hF, hf⟩ := ht
  have hrow : ∀ {v : Value} {n : Nat} {xs : List Value}, wr.ownsRow w.heap.size 42 4 v n xs → (u1.ownBlock = none ∨ u1.ownBlock ≠ v.ownBlock) → wx.ownsRow w.heap.size 42 4 v n xs ∧ (u1'.ownBlock = none ∨ u1'.ownBlock ≠ v.ownBlock) := by
    intro v n xs hr hn
    have hkeep : wx.ownsRow w.heap.size 42 4 v n xs := by
      obtain ⟨h1, h2⟩ := hr
      refine ⟨h1, h2.imp id ?_⟩
      rintro ⟨g, cap, cur, rfl, hg, hc, r⟩
      have hlt : g < wr.heap.size := (Array.getElem?_eq_some_iff.1 hc).1
      refine ⟨g, cap, cur, rfl, hg, (hF.block g hlt (by have := h.b; omega) (fun e => ?_) (by simp [Value.ownBlock])).trans hc, r⟩
      rcases hn with h3 | h3
      · rw [h3] at e; simp at e
      · exact h3 (e.trans rfl)
    refine ⟨hkeep, ?_⟩
    rcases hq : u1'.ownBlock with _ | k
    · exact .inl rfl
    · refine .inr (fun e => ?_)
      rcases hf k hq with h3 | h3
      · rcases hn with h4 | h4
        · rw [h4] at h3; simp at h3
        · exact h4 (h3.trans e)
      · have := (own_ge hr e.symm).2; omega
  exact ⟨u1', hk, h.far.trans h.fr (From.refl _ _) hF, fun k e => by
    rcases hf k e with h3 | h3
    · exact h.fr k h3
    · exact .inr (Nat.le_trans h.far.size h3), (hrow h.r3 h.n13).1, (hrow h.r4 h.n14).1, h.n34, (hrow h.r3 h.n13).2, (hrow h.r4 h.n14).2, h.b, h.v2⟩
theorem bk_kept {w0 wr wx : World} {b : Nat} {u1 v2 v : Value} {B : Bk} (h : BkIs w0 wr b u1 v2 B) (hg : wr.grownBy wx v.ownBlock) (hv : ∀ k, v.ownBlock = some k → w0.heap.size ≤ k) (hb : v.ownBlock ≠ some b) (h1 : u1.ownBlock = none ∨ u1.ownBlock ≠ v.ownBlock) (h2 : v2.ownBlock = none ∨ v2.ownBlock ≠ v.ownBlock) : BkIs w0 wx b u1 v2 B :=
  ⟨h.base, Below.trans h.grown ⟨hg.os, hg.tape, hg.output, hg.size, fun k hk => hg.block k (Nat.lt_of_lt_of_le hk h.grown.size) (fun e => by have := hv k e.symm; omega)⟩, h.blk.keptB hg hb, h.r1.kept hg h1, h.r2.kept hg h2, h.ne⟩
theorem own_swap {a b : Option Nat} (h : a = none ∨ a ≠ b) : b = none ∨ b ≠ a := ne_swap h
/-- An append to those that are granted. -/
theorem SvIs.put3 (h : SvIs w0 w wr b v1 v2 s u1 v3 v4) {y : Lok} {v3' : Value} {g : Nat} (hg : wr.grownBy wx v3.ownBlock) (ho : wx.ownsRow w.heap.size 42 4 v3' (s.2.1.length + 1) (rcells encLok s.2.1 ++ encLok y)) (hown : v3'.ownBlock = some g) (hat : v3.ownBlock = some g ∨ g = wr.heap.size) : SvIs w0 w wx b v1 v2 (s.1, s.2.1 ++ [y], s.2.2) u1 v3' v4 := by
  have lo3 : ∀ k, v3.ownBlock = some k → w.heap.size ≤ k := fun k e => (own_ge h.r3 e).1
  have hne : ∀ {v : Value} {n : Nat} {xs : List Value} {base : Nat} {e : TypeId}, wr.ownsRow base e 4 v n xs → (v.ownBlock = none ∨ v.ownBlock ≠ v3.ownBlock) → (v.ownBlock = none ∨ v.ownBlock ≠ v3'.ownBlock) := by
    intro v n xs base e hr hn
    rcases hq : v.ownBlock with _ | k
    · exact .inl rfl
    · refine .inr (fun e => ?_)
      rw [hown] at e
      obtain rfl : k = g := Option.some.inj e
      rcases hat with h3 | h3
      · rcases hn with h4 | h4
        · rw [hq] at h4; simp at h4
        · exact h4 (hq.trans h3.symm)
      · have := (own_ge hr hq).2; omega
  refine ⟨bk_kept h.bk hg (fun k e => Nat.le_trans (Nat.le_trans h.bk.base (Nat.le_of_lt h.b)) (lo3 k e)) (fun e => by have := lo3 _ e; have := h.b; omega) h.n13 ?_, ?_, h.fr, ?_, h.r4.kept hg (own_swap h.n34), own_swap (hne h.r4 (own_swap h.n34)), hne h.bk.r1 h.n13, h.n14, h.b, h.v2⟩
  · rcases hq : v2.ownBlock with _ | k
    · exact .inl rfl
    · exact .inr (fun e => by have := lo3 k e.symm; have := h.v2 k hq; omega)
  · exact ⟨hg.os.trans h.far.os, hg.tape.trans h.far.tape, hg.output.trans h.far.output, Nat.le_trans h.far.size hg.size, fun k hk h1 h2 h3 => (hg.block k (Nat.lt_of_lt_of_le hk h.far.size) (fun e => by have := lo3 k e.symm; omega)).trans (h.far.block k hk h1 h2 h3)⟩
  · show wx.ownsRow _ _ _ _ (s.2.1 ++ [y]).length (rcells encLok (s.2.1 ++ [y]))
    rw [List.length_append, rcells_snoc]
    exact ho
theorem SvIs.put4 (h : SvIs w0 w wr b v1 v2 s u1 v3 v4) {y : Lok} {v4' : Value} {g : Nat} (hg : wr.grownBy wx v4.ownBlock) (ho : wx.ownsRow w.heap.size 42 4 v4' (s.2.2.length + 1) (rcells encLok s.2.2 ++ encLok y)) (hown : v4'.ownBlock = some g) (hat : v4.ownBlock = some g ∨ g = wr.heap.size) : SvIs w0 w wx b v1 v2 (s.1, s.2.1, s.2.2 ++ [y]) u1 v3 v4' := by
  have lo4 : ∀ k, v4.ownBlock = some k → w.heap.size ≤ k := fun k e => (own_ge h.r4 e).1
  have hne : ∀ {v : Value} {n : Nat} {xs : List Value} {base : Nat} {e : TypeId}, wr.ownsRow base e 4 v n xs → (v.ownBlock = none ∨ v.ownBlock ≠ v4.ownBlock) → (v.ownBlock = none ∨ v.ownBlock ≠ v4'.ownBlock) := by
    intro v n xs base e hr hn
    rcases hq : v.ownBlock with _ | k
    · exact .inl rfl
    · refine .inr (fun e => ?_)
      rw [hown] at e
      obtain rfl : k = g := Option.some.inj e
      rcases hat with h3 | h3
      · rcases hn with h4 | h4
        · rw [hq] at h4; simp at h4
        · exact h4 (hq.trans h3.symm)
      · have := (own_ge hr hq).2; omega
  refine ⟨bk_kept h.bk hg (fun k e => Nat.le_trans (Nat.le_trans h.bk.base (Nat.le_of_lt h.b)) (lo4 k e)) (fun e => by have := lo4 _ e; have := h.b; omega) h.n14 ?_, ?_, h.fr, h.r3.kept hg h.n34, ?_, hne h.r3 h.n34, h.n13, hne h.bk.r1 h.n14, h.b, h.v2⟩
  · rcases hq : v2.ownBlock with _ | k
    · exact .inl rfl
    · exact .inr (fun e => by have := lo4 k e.symm; have := h.v2 k hq; omega)
  · exact ⟨hg.os.trans h.far.os, hg.tape.trans h.far.tape, hg.output.trans h.far.output, Nat.le_trans h.far.size hg.size, fun k hk h1 h2 h3 => (hg.block k (Nat.lt_of_lt_of_le hk h.far.size) (fun e => by have := lo4 k e.symm; omega)).trans (h.far.block k hk h1 h2 h3)⟩
  · show wx.ownsRow _ _ _ _ (s.2.2 ++ [y]).length (rcells encLok (s.2.2 ++ [y]))
    rw [List.length_append, rcells_snoc]
    exact ho
end Go.Proofs.YtmgpnpmdmelnkaaGreatDoor
namespace Go.Proofs.YtmgpnpmdmelnkaaGreatDoor
open Go.ChangeShapes Go.WideShapes Go.ChangeAt Go.RowKit
set_option linter.unusedVariables false
set_option linter.unusedSimpArgs false
variable {w0 w : World} {b : Nat} {v1 v2 : Value} {B : Bk}
theorem none_side (v : Value) : v.ownBlock = none ∨ v.ownBlock ≠ (Value.slice none 0 0).ownBlock := by
  rcases hq : v.ownBlock with _ | k
  · exact .inl rfl
  · exact .inr (by simp [Value.ownBlock])
set_option maxRecDepth 100000 in
set_option maxHeartbeats 4000000 in
theorem bserve_any (w : World) (h : BkIs w0 w b v1 v2 B) (hl : B.H.length + B.W.length ≤ 400) (ht : 0 ≤ B.last ∧ B.last ≤ 18446744073709551615) (hM : ML w0) (hS : SrtK B.H) (hH : ∀ y ∈ B.H, IsPath y.txt) (hW : ∀ y ∈ B.W, IsPath y.txt) :
    Calls Tryz.prog 66 #[.pointer (some ⟨b, 0, none⟩)] w fun e w' => ∃ v3, e = .returned v3 ∧ w'.ownsRow w.heap.size 42 4 v3 (serveB B).2.length (rcells encLok (serveB B).2) ∧ BkTo w0 w w' b v1 v2 (serveB B).1 := by
  obtain ⟨i0, hi, hz0, hz1, hz2⟩ : ∃ i0 : TypeInfo, Tryz.prog.info? 42 = some i0 ∧ i0.zero = some (.agg #[.int .i64 0, .string ⟨#[]⟩, .bool false, .int .u64 0]) ∧ i0.size = 4 ∧ i0.bytes = 40 := ⟨_, rfl, rfl, rfl, rfl⟩
  have H := Lib.hid h
  have HM := Lib.hid hM
  have HPW := Lib.hid (fun k (hk : k < B.W.length) => hW _ (List.getElem_mem hk))
  have HSN := Lib.hid (fun k (hk : k < B.W.length) => serveF_snoc B B.W k hk)
  have HP0 : Hid (SvP B 0 (B, [], [])) := Lib.hid ⟨rfl, hS, ⟨hH, fun x hx => by simp at hx, fun x hx => by simp at hx⟩, ⟨by simp, by simp, by simp⟩, ht⟩
  have HS0 : Hid (SvIs w0 w w b v1 v2 (B, [], []) v1 (.slice none 0 0) (.slice none 0 0)) := Lib.hid ⟨h, Far2.refl _ _ _ _, From.refl _ _, World.ownsRow_nil _ _ _ _, World.ownsRow_nil _ _ _ _, .inl rfl, none_side _, none_side _, h.blk.lt, fun k e => (h.r2.lt _ e).2⟩
  have c1 := h.blk.cell (i := 1) rfl
  obtain ⟨a2, k2, rfl, _⟩ := ownsRow_slice h.r2
  have HSB := Lib.hid (show serveB B = (⟨(serveF B B.W).1.H, (serveF B B.W).2.2, (serveF B B.W).1.last⟩, (serveF B B.W).2.1) from rfl)
  clear h hM hS hH hW ht
  go_enter Tryz.func66, Tryz.ntmps66
  go_wp2
  go_loopw [3, 4, 12] (fun x3 x4 i wr => ∃ (j : Nat) (s : Bk × List Lok × List Lok) (u1 : Value), j ≤ B.W.length ∧ i = .int .i64 j ∧ Hid (serveF B (B.W.take j) = s) ∧ Hid (SvP B j s) ∧ Hid (SvIs w0 w wr b v1 (.slice a2 B.W.length k2) s u1 x3 x4)) (fun _ _ i _ => B.W.length - (intOf i).toNat)
  case atStart => exact ⟨0, _, _, by omega, rfl, Lib.hid rfl, HP0, HS0⟩
  case round =>
    clear HS0 HP0 c1
    obtain ⟨j, s, u1, hj, rfl, hs, hP, hI⟩ := hrel
    by_cases hlt : j < B.W.length
    · have hr2 := hI.out.bk.r2
      rw [hP.out.w] at hr2
      obtain ⟨g, cap, hv, d0, d1, d2, d3⟩ := lokrow_at hr2 j hlt
      simp only [Value.slice.injEq] at hv
      obtain ⟨rfl, hnn, rfl⟩ := hv
      clear hnn hr2
      have HST := Lib.hid (HSN.out j hlt)
      rw [hs.out] at HST
      have hpy := HPW.out j hlt
      have HPY := Lib.hid hpy
      have HPN := Lib.hid (hP.out.step hpy)
      have HLEN : Hid (s.1.H.length + s.2.1.length + s.2.2.length + 3 ≤ 1300) := Lib.hid (by have := hP.out.len; omega)
      have HIX := Lib.hid (hI.out.gr ((Gr.refl wr).alloc (.cells #[.int .i64 B.W[j].ses, .string B.W[j].txt, .bool B.W[j].ex, .int .u64 B.W[j].tok] 42)))
      have HYX := Lib.hid (Blk.new wr #[.int .i64 B.W[j].ses, .string B.W[j].txt, .bool B.W[j].ex, .int .u64 B.W[j].tok] 42)
      generalize B.W[j] = y at *
      clear hpy
      go_upto_region 5 with fail
      generalize wr.alloc (.cells #[.int .i64 y.ses, .string y.txt, .bool y.ex, .int .u64 y.tok] 42) = wx at *
      generalize wr.heap.size = c at *
      clear d0 d1 d2 d3 hI
      have hlen := HLEN.out
      have HFR := Lib.hid (bfree_any y s.2.2 wx HIX.out.bk (by have := hP.out.len; omega) HIX.out.r4 (by have := hP.out.len; omega) HPY.out hP.out.path.1 hP.out.path.2.2)
      have y0 := HYX.out.cell (i := 0) rfl
      have y1 := HYX.out.cell (i := 1) rfl
      have y2 := HYX.out.cell (i := 2) rfl
      have y3 := HYX.out.cell (i := 3) rfl
      cases hq : freeB s.1.H s.2.2 y
      · rw [show serveStep s y = (s.1, s.2.1, s.2.2 ++ [y]) by unfold serveStep; rw [if_neg (by rw [hq]; simp)]] at HST HPN
        rw [hq] at HFR
        clear hq
        go_wp2_with fail
        refine HFR.out.mono ?_
        rintro e w5 ⟨rfl, hg5⟩
        have HI5 := Lib.hid (HIX.out.gr hg5)
        have HYB := Lib.hid (HYX.out.gr hg5)
        clear y0 y1 y2 y3 hg5 HFR HIX HYX
        have y0 := HYB.out.cell (i := 0) rfl
        have y1 := HYB.out.cell (i := 1) rfl
        have y2 := HYB.out.cell (i := 2) rfl
        have y3 := HYB.out.cell (i := 3) rfl
        obtain ⟨a4, c4, hv4, _⟩ := ownsRow_slice HI5.out.r4
        subst hv4
        have hrow := ownsRow_gr ((Gr.refl w5).alloc (.cells #[.int .i64 y.ses, .string y.txt, .bool y.ex, .int .u64 y.tok] 42)) HI5.out.r4
        go_wp2_with (at_builtin; go_loud (refine wpList_append_lies _ rfl (.tmp 31) (.tmp 33) 37 rfl w.heap.size 42 i0 (.agg #[.int .i64 0, .string ⟨#[]⟩, .bool false, .int .u64 0]) 4 40 Tryz.underlying37 hi hz0 hz1 hz2 rfl (by decide) _ _ _ rfl hrow ⟨w5.heap.size, 0, none⟩ 1 1 [.int .i64 y.ses, .string y.txt, .bool y.ex, .int .u64 y.tok] rfl (by simp) ?ka1 ?ka2 Nat.one_pos ?ka3 ?ka4 ?ka5 _ rfl ?_))
        case ka1 => exact World.news_of_block (cs := #[.int .i64 y.ses, .string y.txt, .bool y.ex, .int .u64 y.tok]) (t := 42) (fr := (0, 0)) (heap_alloc_new w5 (.cells #[.int .i64 y.ses, .string y.txt, .bool y.ex, .int .u64 y.tok] 42))
        case ka2 => first | (intro u hu; simp at hu; rcases hu with rfl | rfl | rfl | rfl <;> rfl) | exact ⟨rfl, rfl, rfl, rfl⟩
        case ka3 => have := HLEN.out; unfold maxLen; omega
        case ka4 => have := HLEN.out; omega
        case ka5 => have := HI5.out.far.size; simp; omega
        intro g7 cap7 w7 hown7 hgrow7 hat7 hlt7
        have HI7 := Lib.hid ((HI5.out.gr ((Gr.refl w5).alloc (.cells #[.int .i64 y.ses, .string y.txt, .bool y.ex, .int .u64 y.tok] 42))).put4 (y := y) hgrow7 hown7 rfl (hat7.imp id (fun h => h.trans (by simp))))
        clear hown7 hgrow7 hat7 hlt7 hrow y0 y1 y2 y3
        go_wp2
        exact ⟨⟨j + 1, _, _, hlt, by simp, HST, HPN, HI7⟩, by simp [intOf]; omega⟩
      · rw [hq] at HFR
        by_cases hla : s.1.last = 18446744073709551615
        · rw [show serveStep s y = (s.1, s.2.1, s.2.2 ++ [y]) by unfold serveStep; rw [if_neg (fun h => h.2 hla)]] at HST HPN
          have hld : decide (s.1.last = 18446744073709551615) = true := decide_eq_true hla
          clear hq hla
          go_wp2_with fail
          refine HFR.out.mono ?_
          rintro e w5 ⟨rfl, hg5⟩
          have HI5 := Lib.hid (HIX.out.gr hg5)
          have HYB := Lib.hid (HYX.out.gr hg5)
          clear y0 y1 y2 y3 hg5 HFR HIX HYX
          go_wp2_with fail
          refine (exhausted_any w5 HI5.out.bk).mono ?_
          rintro e w6 ⟨rfl, rfl⟩
          have y0 := HYB.out.cell (i := 0) rfl
          have y1 := HYB.out.cell (i := 1) rfl
          have y2 := HYB.out.cell (i := 2) rfl
          have y3 := HYB.out.cell (i := 3) rfl
          obtain ⟨a4, c4, hv4, _⟩ := ownsRow_slice HI5.out.r4
          subst hv4
          have hrow := ownsRow_gr ((Gr.refl w5).alloc (.cells #[.int .i64 y.ses, .string y.txt, .bool y.ex, .int .u64 y.tok] 42)) HI5.out.r4
          go_wp2_with (at_builtin; go_loud (refine wpList_append_lies _ rfl (.tmp 31) (.tmp 33) 37 rfl w.heap.size 42 i0 (.agg #[.int .i64 0, .string ⟨#[]⟩, .bool false, .int .u64 0]) 4 40 Tryz.underlying37 hi hz0 hz1 hz2 rfl (by decide) _ _ _ rfl hrow ⟨w5.heap.size, 0, none⟩ 1 1 [.int .i64 y.ses, .string y.txt, .bool y.ex, .int .u64 y.tok] rfl (by simp) ?kb1 ?kb2 Nat.one_pos ?kb3 ?kb4 ?kb5 _ rfl ?_))
          case kb1 => exact World.news_of_block (cs := #[.int .i64 y.ses, .string y.txt, .bool y.ex, .int .u64 y.tok]) (t := 42) (fr := (0, 0)) (heap_alloc_new w5 (.cells #[.int .i64 y.ses, .string y.txt, .bool y.ex, .int .u64 y.tok] 42))
          case kb2 => first | (intro u hu; simp at hu; rcases hu with rfl | rfl | rfl | rfl <;> rfl) | exact ⟨rfl, rfl, rfl, rfl⟩
          case kb3 => have := HLEN.out; unfold maxLen; omega
          case kb4 => have := HLEN.out; omega
          case kb5 => have := HI5.out.far.size; simp; omega
          intro g7 cap7 w7 hown7 hgrow7 hat7 hlt7
          have HI7 := Lib.hid ((HI5.out.gr ((Gr.refl w5).alloc (.cells #[.int .i64 y.ses, .string y.txt, .bool y.ex, .int .u64 y.tok] 42))).put4 (y := y) hgrow7 hown7 rfl (hat7.imp id (fun h => h.trans (by simp))))
          clear hown7 hgrow7 hat7 hlt7 hrow y0 y1 y2 y3
          go_wp2
          exact ⟨⟨j + 1, _, _, hlt, by simp, HST, HPN, HI7⟩, by simp [intOf]; omega⟩
        · rw [show serveStep s y = (grantB s.1 y, s.2.1 ++ [tokd s.1 y], s.2.2) by unfold serveStep; rw [if_pos ⟨hq, hla⟩]] at HST HPN
          have hld : decide (s.1.last = 18446744073709551615) = false := decide_eq_false hla
          have HLA := Lib.hid hla
          clear hq hla
          go_wp2_with fail
          refine HFR.out.mono ?_
          rintro e w5 ⟨rfl, hg5⟩
          have HI5 := Lib.hid (HIX.out.gr hg5)
          have HYB := Lib.hid (HYX.out.gr hg5)
          clear y0 y1 y2 y3 hg5 HFR HIX HYX
          go_wp2_with fail
          refine (exhausted_any w5 HI5.out.bk).mono ?_
          rintro e w6 ⟨rfl, rfl⟩
          have y0 := HYB.out.cell (i := 0) rfl
          have y1 := HYB.out.cell (i := 1) rfl
          have y2 := HYB.out.cell (i := 2) rfl
          have y3 := HYB.out.cell (i := 3) rfl
          go_wp2_with fail
          refine (bgrant1_any y w5 HI5.out.bk (by have := hP.out.len; omega) (by have := hP.out.last; have := HLA.out; omega) HM.out hP.out.srt HPY.out hP.out.path.1).mono ?_
          rintro e w6 ⟨rfl, ht6⟩
          obtain ⟨u6, hI6⟩ := HI5.out.grant ht6
          have HI6 := Lib.hid hI6
          clear ht6 hI6 y0 y1 y2 y3
          obtain ⟨a3, c3, hv3, _⟩ := ownsRow_slice HI6.out.r3
          subst hv3
          have hrow := ownsRow_gr ((Gr.refl w6).alloc (.cells #[.int .i64 y.ses, .string y.txt, .bool y.ex, .int .u64 (s.1.last + 1)] 42)) HI6.out.r3
          go_wp2_with (at_builtin; go_loud (refine wpList_append_lies _ rfl (.tmp 25) (.tmp 29) 37 rfl w.heap.size 42 i0 (.agg #[.int .i64 0, .string ⟨#[]⟩, .bool false, .int .u64 0]) 4 40 Tryz.underlying37 hi hz0 hz1 hz2 rfl (by decide) _ _ _ rfl hrow ⟨w6.heap.size, 0, none⟩ 1 1 [.int .i64 y.ses, .string y.txt, .bool y.ex, .int .u64 (s.1.last + 1)] rfl (by simp) ?kg1 ?kg2 Nat.one_pos ?kg3 ?kg4 ?kg5 _ rfl ?_))
          case kg1 => exact World.news_of_block (cs := #[.int .i64 y.ses, .string y.txt, .bool y.ex, .int .u64 (s.1.last + 1)]) (t := 42) (fr := (0, 0)) (heap_alloc_new w6 (.cells #[.int .i64 y.ses, .string y.txt, .bool y.ex, .int .u64 (s.1.last + 1)] 42))
          case kg2 => first | (intro u hu; simp at hu; rcases hu with rfl | rfl | rfl | rfl <;> rfl) | exact ⟨rfl, rfl, rfl, rfl⟩
          case kg3 => have := HLEN.out; unfold maxLen; omega
          case kg4 => have := HLEN.out; omega
          case kg5 => have := HI6.out.far.size; simp; omega
          intro g7 cap7 w7 hown7 hgrow7 hat7 hlt7
          have HI7 := Lib.hid ((HI6.out.gr ((Gr.refl w6).alloc (.cells #[.int .i64 y.ses, .string y.txt, .bool y.ex, .int .u64 (s.1.last + 1)] 42))).put3 (y := tokd s.1 y) hgrow7 hown7 rfl (hat7.imp id (fun h => h.trans (by simp))))
          clear hown7 hgrow7 hat7 hlt7 hrow
          go_wp2
          exact ⟨⟨j + 1, _, _, hlt, by simp, HST, HPN, HI7⟩, by simp [intOf]; omega⟩
    · obtain rfl : j = B.W.length := by omega
      rw [List.take_length] at hs
      have hsb : serveB B = (⟨s.1.H, s.2.2, s.1.last⟩, s.2.1) := by rw [HSB.out, hs.out]
      have HSV := Lib.hid hsb
      have b1 := hI.out.bk.blk.cell (i := 1) rfl
      have f1 := hI.out.bk.blk.free 1
      obtain ⟨a3, c3, hv3, _⟩ := ownsRow_slice hI.out.r3
      obtain ⟨a4, c4, hv4, _⟩ := ownsRow_slice hI.out.r4
      subst hv3
      subst hv4
      have HO3 := Lib.hid (fun e => by have := (own_ge hI.out.r3 e).1; have := hI.out.b; omega : Value.ownBlock (.slice a3 s.2.1.length c3) ≠ some b)
      have HO4 := Lib.hid (fun e => by have := (own_ge hI.out.r4 e).1; have := hI.out.b; omega : Value.ownBlock (.slice a4 s.2.2.length c4) ≠ some b)
      clear hsb
      go_wp2
      go_ret
      rw [HSV.out]
      have hO1 := row_offL hI.out.bk.blk hI.out.bk.r1 (by decide)
      refine ⟨_, rfl, ownsRow_setCell_other (a := ⟨b, 1, none⟩) hI.out.r3 HO3.out _, u1, _, ⟨hI.out.bk.base, hI.out.bk.grown.setCell (p := ⟨b, 1, none⟩) hI.out.bk.base _, hI.out.bk.blk.set 1 _, ownsRow_setCell_other (a := ⟨b, 1, none⟩) hI.out.bk.r1 hO1 _, ownsRow_setCell_other (a := ⟨b, 1, none⟩) (owns_base hI.out.r4 H.out.grown.size) HO4.out _, hI.out.n14⟩, ?_, hI.out.fr, fun k e => .inr (own_ge hI.out.r4 e).1⟩
      exact (hI.out.far.weak).trans (From.refl _ _) (From.refl _ _) (Far2.setCell b 1 _ _ wr _)
end Go.Proofs.YtmgpnpmdmelnkaaGreatDoor
namespace Go.Proofs.YtmgpnpmdmelnkaaGreatDoor
open Go.ChangeShapes Go.WideShapes Go.ChangeAt Go.RowKit
set_option linter.unusedVariables false
set_option linter.unusedSimpArgs false
theorem BkIs.set1 {w0 w w1 : World} {b : Nat} {v1 v2 v1' : Value} {B : Bk} {L : List Lok} (h : BkIs w0 w b v1 v2 B) (hg : w.grownBy w1 v1.ownBlock) (ho : w1.ownsRow w0.heap.size 42 4 v1' L.length (rcells encLok L)) (hf : From v1 w v1') :
    BkIs w0 (w1.setCell ⟨b, 0, none⟩ v1') b v1' v2 ⟨L, B.W, B.last⟩ ∧ Far2 b v1 v2 w (w1.setCell ⟨b, 0, none⟩ v1') := by
  have hb1 := row_offL h.blk h.r1 (by decide)
  have hb2 := row_offL h.blk h.r2 (by decide)
  have hB := h.blk.keptB hg hb1
  have hn : v1'.ownBlock = none ∨ v1'.ownBlock ≠ v2.ownBlock := by
    rcases hq : v1'.ownBlock with _ | k
    · exact .inl rfl
    · refine .inr (fun e => ?_)
      rcases hf k hq with h3 | h3
      · rcases h.ne with h4 | h4
        · rw [h4] at h3; simp at h3
        · exact h4 (h3.trans e)
      · have := (h.r2.lt _ e.symm).2; omega
  exact ⟨⟨h.base, (h.grown.append h.r1 hg).setCell (p := ⟨b, 0, none⟩) h.base _, hB.set 0 _, ownsRow_setCell_other (a := ⟨b, 0, none⟩) ho (row_offL hB ho (by decide)) _, ownsRow_setCell_other (a := ⟨b, 0, none⟩) (h.r2.kept hg (ne_swap h.ne)) hb2 _, hn⟩, (Far2.of_grown1 hg).trans (From.refl _ _) (From.refl _ _) (Far2.setCell b 0 _ _ w1 _)⟩
theorem BkIs.set2 {w0 w w1 : World} {b : Nat} {v1 v2 v2' : Value} {B : Bk} {L : List Lok} (h : BkIs w0 w b v1 v2 B) (hg : w.grownBy w1 v2.ownBlock) (ho : w1.ownsRow w0.heap.size 42 4 v2' L.length (rcells encLok L)) (hf : From v2 w v2') :
    BkIs w0 (w1.setCell ⟨b, 1, none⟩ v2') b v1 v2' ⟨B.H, L, B.last⟩ ∧ Far2 b v1 v2 w (w1.setCell ⟨b, 1, none⟩ v2') := by
  have hb1 := row_offL h.blk h.r1 (by decide)
  have hb2 := row_offL h.blk h.r2 (by decide)
  have hB := h.blk.keptB hg hb2
  have hn : v1.ownBlock = none ∨ v1.ownBlock ≠ v2'.ownBlock := by
    rcases hq : v1.ownBlock with _ | k
    · exact .inl rfl
    · refine .inr (fun e => ?_)
      rcases hf k e.symm with h3 | h3
      · rcases h.ne with h4 | h4
        · rw [hq] at h4; simp at h4
        · exact h4 (hq.trans h3.symm)
      · have := (h.r1.lt _ hq).2; omega
  exact ⟨⟨h.base, (h.grown.append h.r2 hg).setCell (p := ⟨b, 1, none⟩) h.base _, hB.set 1 _, ownsRow_setCell_other (a := ⟨b, 1, none⟩) (h.r1.kept hg h.ne) hb1 _, ownsRow_setCell_other (a := ⟨b, 1, none⟩) ho (row_offL hB ho (by decide)) _, hn⟩, (Far2.of_grown2 hg).trans (From.refl _ _) (From.refl _ _) (Far2.setCell b 1 _ _ w1 _)⟩
variable {w0 w : World} {b : Nat} {v1 v2 : Value} {B : Bk}
noncomputable def remB (q : Lok → Bool) (B : Bk) : Bk × List Lok := serveB ⟨restL q B.H, restL q B.W, B.last⟩
theorem rest_len (q : Lok → Bool) (L : List Lok) : (restL q L).length ≤ L.length := List.length_filter_le _ _
theorem rest_path {q : Lok → Bool} {L : List Lok} (h : ∀ y ∈ L, IsPath y.txt) : ∀ y ∈ restL q L, IsPath y.txt := fun y hy => h y (List.mem_filter.1 hy).1
theorem rest_srt {q : Lok → Bool} {L : List Lok} (h : SrtK L) : SrtK (restL q L) := List.Pairwise.filter _ h
set_option maxRecDepth 100000 in
set_option maxHeartbeats 2000000 in
theorem bremB_any {f : Nat} {rv : Value} (q : Lok → Bool) (w : World) (h : BkIs w0 w b v1 v2 B) (hl : B.H.length + B.W.length ≤ 400) (ht : 0 ≤ B.last ∧ B.last ≤ 18446744073709551615) (hM : ML w0) (hS : SrtK B.H) (hH : ∀ y ∈ B.H, IsPath y.txt) (hW : ∀ y ∈ B.W, IsPath y.txt)
    (he : ∀ args w, (callFunc f args).run Tryz.prog w = .ok (.enter f args) w) (hf : ∀ (x : Lok) (c : World), Calls Tryz.prog f #[rv, .agg #[.int .i64 x.ses, .string x.txt, .bool x.ex, .int .u64 x.tok]] c fun e w' => e = .returned (.bool (q x)) ∧ Gr c w') :
    Calls Tryz.prog 40 #[.pointer (some ⟨b, 0, none⟩), .func (.func f) #[rv] #[]] w fun e w' => ∃ v3, e = .returned v3 ∧ w'.ownsRow w.heap.size 42 4 v3 (remB q B).2.length (rcells encLok (remB q B).2) ∧ BkTo w0 w w' b v1 v2 (remB q B).1 := by
  have H := Lib.hid h
  have HF := Lib.hid hf
  have HE := Lib.hid he
  have HALL := Lib.hid (And.intro ht (And.intro hM (And.intro hS (And.intro hH hW))))
  have HD1 := Lib.hid (delLokB_any q B.H w h.r1 (by omega) he (fun x _ c _ => HF.out x c))
  have b0 := h.blk.cell (i := 0) rfl
  have hlt := h.blk.lt
  obtain ⟨a1, k1, rfl, _⟩ := ownsRow_slice h.r1
  obtain ⟨a2, k2, rfl, _⟩ := ownsRow_slice h.r2
  have hl1 := rest_len q B.H
  have hl2 := rest_len q B.W
  clear h hf he ht hM hS hH hW
  go_enter Tryz.func40, Tryz.ntmps40
  go_wp2_with fail
  refine HD1.out.mono ?_
  rintro e w1 ⟨v1', rfl, ho1, hg1, hf1⟩
  obtain ⟨a1', k1', hv1', _⟩ := ownsRow_slice ho1
  subst hv1'
  have hset := H.out.set1 hg1 ho1 hf1
  have HS1 := Lib.hid hset.1
  have HF1 := Lib.hid hset.2
  have HFR1 := Lib.hid hf1
  have hB1 := H.out.blk.keptB hg1 (row_offL H.out.blk H.out.r1 (by decide))
  have z0 := hB1.cell (i := 0) rfl
  have z1 := hB1.free 0
  clear ho1 hg1 hf1 hset HD1 b0
  go_upto_region 2 with fail
  clear hB1 z0 z1
  generalize w1.setCell ⟨b, 0, none⟩ (.slice a1' (restL q B.H).length k1') = w2 at *
  have HD2 := Lib.hid (delLokB_any q B.W w2 HS1.out.r2 (by omega) HE.out (fun x _ c _ => HF.out x c))
  have b1 := HS1.out.blk.cell (i := 1) rfl
  go_wp2_with fail
  refine HD2.out.mono ?_
  rintro e w3 ⟨v2', rfl, ho2, hg2, hf2⟩
  obtain ⟨a2', k2', hv2', _⟩ := ownsRow_slice ho2
  subst hv2'
  have hset := HS1.out.set2 hg2 ho2 hf2
  have HS2 := Lib.hid hset.1
  have HF2 := Lib.hid hset.2
  have HFR2 := Lib.hid hf2
  have hB2 := HS1.out.blk.keptB hg2 (row_offL HS1.out.blk HS1.out.r2 (by decide))
  have z0 := hB2.cell (i := 1) rfl
  have z1 := hB2.free 1
  clear ho2 hg2 hf2 hset HD2 b1
  go_upto_region 3 with fail
  clear hB2 z0 z1
  generalize w3.setCell ⟨b, 1, none⟩ (.slice a2' (restL q B.W).length k2') = w4 at *
  go_wp2_with fail
  refine (bserve_any w4 HS2.out (by show (restL q B.H).length + (restL q B.W).length ≤ 400; omega) HALL.out.1 HALL.out.2.1 (rest_srt HALL.out.2.2.1) (rest_path HALL.out.2.2.2.1) (rest_path HALL.out.2.2.2.2)).mono ?_
  rintro e w5 ⟨v3, rfl, ho3, hto⟩
  obtain ⟨u1, u2, hk, hF, f1, f2⟩ := hto
  obtain ⟨a3, k3, hv3, _⟩ := ownsRow_slice ho3
  subst hv3
  have hsz : w.heap.size ≤ w4.heap.size := Nat.le_trans HF1.out.size HF2.out.size
  have hFF := (HF1.out.trans HFR1.out (From.refl _ _) HF2.out)
  have RES := Lib.hid (And.intro (owns_base ho3 hsz) (show BkTo w0 w w5 b (.slice a1 B.H.length k1) (.slice a2 B.W.length k2) (remB q B).1 from ⟨u1, u2, hk, hFF.trans HFR1.out (fun k e => (HFR2.out k e).imp id (fun h => Nat.le_trans HF1.out.size h)) hF, fun k e => by
    rcases f1 k e with h3 | h3
    · exact HFR1.out k h3
    · exact .inr (Nat.le_trans hsz h3), fun k e => by
    rcases f2 k e with h3 | h3
    · exact (HFR2.out k h3).imp id (fun h => Nat.le_trans HF1.out.size h)
    · exact .inr (Nat.le_trans hsz h3)⟩))
  clear ho3 hk hF f1 f2 hFF hsz
  go_wp2
  go_ret
  exact ⟨_, rfl, RES.out.1, RES.out.2⟩
set_option maxRecDepth 100000 in
set_option maxHeartbeats 2000000 in
theorem bremC_any {f p : Nat} {u : Value} (q : Lok → Bool) (w : World) (h : BkIs w0 w b v1 v2 B) (hl : B.H.length + B.W.length ≤ 400) (ht : 0 ≤ B.last ∧ B.last ≤ 18446744073709551615) (hM : ML w0) (hS : SrtK B.H) (hH : ∀ y ∈ B.H, IsPath y.txt) (hW : ∀ y ∈ B.W, IsPath y.txt)
    (he : ∀ args w, (callFunc f args).run Tryz.prog w = .ok (.enter f args) w) (hc : w.cell? ⟨p, 0, none⟩ = some u) (hpb : p ≠ b) (hp1 : v1.ownBlock ≠ some p) (hp2 : v2.ownBlock ≠ some p) (hf : ∀ (x : Lok) (c : World), c.cell? ⟨p, 0, none⟩ = some u → Calls Tryz.prog f #[.agg #[.int .i64 x.ses, .string x.txt, .bool x.ex, .int .u64 x.tok], .pointer (some ⟨p, 0, none⟩)] c fun e w' => e = .returned (.bool (q x)) ∧ Gr c w') :
    Calls Tryz.prog 40 #[.pointer (some ⟨b, 0, none⟩), .func (.func f) #[] #[.pointer (some ⟨p, 0, none⟩)]] w fun e w' => ∃ v3, e = .returned v3 ∧ w'.ownsRow w.heap.size 42 4 v3 (remB q B).2.length (rcells encLok (remB q B).2) ∧ BkTo w0 w w' b v1 v2 (remB q B).1 := by
  have H := Lib.hid h
  have HF := Lib.hid hf
  have HE := Lib.hid he
  have HALL := Lib.hid (And.intro ht (And.intro hM (And.intro hS (And.intro hH hW))))
  have HD1 := Lib.hid (delLokC_any q B.H w h.r1 (by omega) he (fun x _ c hg => HF.out x c ((World.cell?_of_block (w := w) (a := ⟨p, 0, none⟩) (hg.block p (cell_lt hc) (fun e => hp1 e.symm))).trans hc)))
  have b0 := h.blk.cell (i := 0) rfl
  have hlt := h.blk.lt
  have HCP := Lib.hid (And.intro hc (And.intro hpb (And.intro hp1 hp2)))
  clear hc hpb hp1 hp2
  obtain ⟨a1, k1, rfl, _⟩ := ownsRow_slice h.r1
  obtain ⟨a2, k2, rfl, _⟩ := ownsRow_slice h.r2
  have hl1 := rest_len q B.H
  have hl2 := rest_len q B.W
  clear h hf he ht hM hS hH hW
  go_enter Tryz.func40, Tryz.ntmps40
  go_wp2_with fail
  refine HD1.out.mono ?_
  rintro e w1 ⟨v1', rfl, ho1, hg1, hf1⟩
  obtain ⟨a1', k1', hv1', _⟩ := ownsRow_slice ho1
  subst hv1'
  have hset := H.out.set1 hg1 ho1 hf1
  have HS1 := Lib.hid hset.1
  have HF1 := Lib.hid hset.2
  have HFR1 := Lib.hid hf1
  have hB1 := H.out.blk.keptB hg1 (row_offL H.out.blk H.out.r1 (by decide))
  have z0 := hB1.cell (i := 0) rfl
  have z1 := hB1.free 0
  clear ho1 hg1 hf1 hset HD1 b0
  go_upto_region 2 with fail
  clear hB1 z0 z1
  generalize w1.setCell ⟨b, 0, none⟩ (.slice a1' (restL q B.H).length k1') = w2 at *
  have HC2 : Hid (w2.cell? ⟨p, 0, none⟩ = some u) := Lib.hid ((World.cell?_of_block (w := w) (a := ⟨p, 0, none⟩) (HF1.out.block p (cell_lt HCP.out.1) HCP.out.2.1 HCP.out.2.2.1 HCP.out.2.2.2)).trans HCP.out.1)
  have HP2 := Lib.hid HCP.out.2.2.2
  have HD2 := Lib.hid (delLokC_any q B.W w2 HS1.out.r2 (by omega) HE.out (fun x _ c hg => HF.out x c ((World.cell?_of_block (w := w2) (a := ⟨p, 0, none⟩) (hg.block p (cell_lt HC2.out) (fun e => HP2.out e.symm))).trans HC2.out)))
  have b1 := HS1.out.blk.cell (i := 1) rfl
  go_wp2_with fail
  refine HD2.out.mono ?_
  rintro e w3 ⟨v2', rfl, ho2, hg2, hf2⟩
  obtain ⟨a2', k2', hv2', _⟩ := ownsRow_slice ho2
  subst hv2'
  have hset := HS1.out.set2 hg2 ho2 hf2
  have HS2 := Lib.hid hset.1
  have HF2 := Lib.hid hset.2
  have HFR2 := Lib.hid hf2
  have hB2 := HS1.out.blk.keptB hg2 (row_offL HS1.out.blk HS1.out.r2 (by decide))
  have z0 := hB2.cell (i := 1) rfl
  have z1 := hB2.free 1
  clear ho2 hg2 hf2 hset HD2 b1
  go_upto_region 3 with fail
  clear hB2 z0 z1
  generalize w3.setCell ⟨b, 1, none⟩ (.slice a2' (restL q B.W).length k2') = w4 at *
  go_wp2_with fail
  refine (bserve_any w4 HS2.out (by show (restL q B.H).length + (restL q B.W).length ≤ 400; omega) HALL.out.1 HALL.out.2.1 (rest_srt HALL.out.2.2.1) (rest_path HALL.out.2.2.2.1) (rest_path HALL.out.2.2.2.2)).mono ?_
  rintro e w5 ⟨v3, rfl, ho3, hto⟩
  obtain ⟨u1, u2, hk, hF, f1, f2⟩ := hto
  obtain ⟨a3, k3, hv3, _⟩ := ownsRow_slice ho3
  subst hv3
  have hsz : w.heap.size ≤ w4.heap.size := Nat.le_trans HF1.out.size HF2.out.size
  have hFF := (HF1.out.trans HFR1.out (From.refl _ _) HF2.out)
  have RES := Lib.hid (And.intro (owns_base ho3 hsz) (show BkTo w0 w w5 b (.slice a1 B.H.length k1) (.slice a2 B.W.length k2) (remB q B).1 from ⟨u1, u2, hk, hFF.trans HFR1.out (fun k e => (HFR2.out k e).imp id (fun h => Nat.le_trans HF1.out.size h)) hF, fun k e => by
    rcases f1 k e with h3 | h3
    · exact HFR1.out k h3
    · exact .inr (Nat.le_trans hsz h3), fun k e => by
    rcases f2 k e with h3 | h3
    · exact (HFR2.out k h3).imp id (fun h => Nat.le_trans HF1.out.size h)
    · exact .inr (Nat.le_trans hsz h3)⟩))
  clear ho3 hk hF f1 f2 hFF hsz
  go_wp2
  go_ret
  exact ⟨_, rfl, RES.out.1, RES.out.2⟩
noncomputable def relB (B : Bk) (s : Int) (t : ByteArray) : Bk × List Lok × Int := if (findB B s t).2 < 0 then (B, [], 20) else ((remB (sameB (findB B s t).1) B).1, (remB (sameB (findB B s t).1) B).2, 0)
set_option maxRecDepth 100000 in
set_option maxHeartbeats 2000000 in
theorem brel_any (s : Int) (t : ByteArray) (w : World) (h : BkIs w0 w b v1 v2 B) (hl : B.H.length + B.W.length ≤ 400) (ht : 0 ≤ B.last ∧ B.last ≤ 18446744073709551615) (hM : ML w0) (hS : SrtK B.H) (hH : ∀ y ∈ B.H, IsPath y.txt) (hW : ∀ y ∈ B.W, IsPath y.txt) :
    Calls Tryz.prog 20 #[.pointer (some ⟨b, 0, none⟩), .int .i64 s, .agg #[.string t]] w fun e w' => ∃ v3, e = .returned (.tuple #[v3, .int .i64 (relB B s t).2.2]) ∧ w'.ownsRow w.heap.size 42 4 v3 (relB B s t).2.1.length (rcells encLok (relB B s t).2.1) ∧ BkTo w0 w w' b v1 v2 (relB B s t).1 := by
  have H := Lib.hid h
  have HALL := Lib.hid (And.intro hl (And.intro ht (And.intro hM (And.intro hS (And.intro hH hW)))))
  have HG1 := Lib.hid ((Gr.refl w).alloc (.cells #[.string t] 40))
  have HT := Lib.hid (Blk.new w #[.string t] 40)
  have HRB := Lib.hid (show relB B s t = if (findB B s t).2 < 0 then (B, [], 20) else ((remB (sameB (findB B s t).1) B).1, (remB (sameB (findB B s t).1) B).2, 0) from rfl)
  have he : ∀ args w, (callFunc 33 args).run Tryz.prog w = .ok (.enter 33 args) w := fun _ _ => by kernel_rfl
  have HE := Lib.hid he
  have hl5 : B.H.length + B.W.length ≤ 500 := by omega
  clear h hl ht hM hS hH hW he
  have t0 := HT.out.cell (i := 0) rfl
  go_enter Tryz.func20, Tryz.ntmps20
  go_wp2_with fail
  refine (bfind_any s t _ (H.out.gr HG1.out) hl5).mono ?_
  rintro e w2 ⟨rfl, hg2⟩
  have HG2 := Lib.hid (HG1.out.trans hg2)
  clear t0 hg2 hl5
  generalize hfd : findB B s t = fd at *
  clear hfd
  obtain ⟨fl, pl⟩ := fd
  simp only at HRB
  have HG3 := Lib.hid (HG2.out.alloc (.cells #[.int .i64 fl.ses, .string fl.txt, .bool fl.ex, .int .u64 fl.tok] 42))
  have HBF := Lib.hid (Blk.new w2 #[.int .i64 fl.ses, .string fl.txt, .bool fl.ex, .int .u64 fl.tok] 42)
  by_cases hp : pl < 0
  · have HR : Hid (relB B s t = (B, [], 20)) := Lib.hid (by rw [HRB.out, if_pos hp])
    clear HRB
    go_wp2
    refine bodyPost_ret (v := .tuple #[.slice none 0 0, .int .i64 20]) (by simp [results, Tryz.results20, go_sem]; try rfl) rfl ?_
    rw [HR.out]
    exact ⟨_, rfl, World.ownsRow_nil _ _ _ _, H.out.to HG3.out⟩
  · have HR : Hid (relB B s t = ((remB (sameB fl) B).1, (remB (sameB fl) B).2, 0)) := Lib.hid (by rw [HRB.out, if_neg hp])
    have HREM := Lib.hid (bremB_any (f := 33) (rv := .agg #[.int .i64 fl.ses, .string fl.txt, .bool fl.ex, .int .u64 fl.tok]) (sameB fl) _ (H.out.gr HG3.out) HALL.out.1 HALL.out.2.1 HALL.out.2.2.1 HALL.out.2.2.2.1 HALL.out.2.2.2.2.1 HALL.out.2.2.2.2.2 HE.out (fun x c => lsame_any fl x c))
    have x0 := HBF.out.cell (i := 0) rfl
    have x1 := HBF.out.cell (i := 1) rfl
    have x2 := HBF.out.cell (i := 2) rfl
    have x3 := HBF.out.cell (i := 3) rfl
    clear HRB
    go_wp2_with fail
    refine HREM.out.mono ?_
    rintro e w5 ⟨v3, rfl, ho3, hto⟩
    obtain ⟨a3, k3, hv3, _⟩ := ownsRow_slice ho3
    subst hv3
    have RES := Lib.hid (And.intro (owns_base ho3 HG3.out.size) (BkTo.pre HG3.out hto))
    generalize (remB (sameB fl) B) = rr at *
    clear ho3 hto
    go_wp2
    refine bodyPost_ret (v := .tuple #[.slice a3 rr.2.length k3, .int .i64 0]) (by simp [results, Tryz.results20, go_sem]; try rfl) rfl ?_
    rw [HR.out]
    exact ⟨_, rfl, RES.out.1, RES.out.2⟩
noncomputable def dropB (B : Bk) (s : Int) : Bk × List Lok := remB (fun x => x.ses == s) B
set_option maxRecDepth 100000 in
set_option maxHeartbeats 2000000 in
theorem bdrop_any (s : Int) (w : World) (h : BkIs w0 w b v1 v2 B) (hl : B.H.length + B.W.length ≤ 400) (ht : 0 ≤ B.last ∧ B.last ≤ 18446744073709551615) (hM : ML w0) (hS : SrtK B.H) (hH : ∀ y ∈ B.H, IsPath y.txt) (hW : ∀ y ∈ B.W, IsPath y.txt) :
    Calls Tryz.prog 21 #[.pointer (some ⟨b, 0, none⟩), .int .i64 s] w fun e w' => ∃ v3, e = .returned v3 ∧ w'.ownsRow w.heap.size 42 4 v3 (dropB B s).2.length (rcells encLok (dropB B s).2) ∧ BkTo w0 w w' b v1 v2 (dropB B s).1 := by
  have H := Lib.hid h
  have HG1 := Lib.hid ((Gr.refl w).alloc (.cells #[.int .i64 s] 3))
  have HT := Lib.hid (Blk.new w #[.int .i64 s] 3)
  have he : ∀ args w, (callFunc 41 args).run Tryz.prog w = .ok (.enter 41 args) w := fun _ _ => by kernel_rfl
  have HREM := Lib.hid (bremC_any (f := 41) (p := w.heap.size) (u := .int .i64 s) (fun x => x.ses == s) _ (H.out.gr HG1.out) hl ht hM hS hH hW he (HT.out.cell (i := 0) rfl) (by have := h.blk.lt; omega) (fun e => by have := (h.r1.lt _ e).2; omega) (fun e => by have := (h.r2.lt _ e).2; omega) (fun x c hc => ldrop_any x s w.heap.size c hc))
  clear h hl ht hM hS hH hW he
  have t0 := HT.out.cell (i := 0) rfl
  unfold dropB
  go_enter Tryz.func21, Tryz.ntmps21
  go_wp2_with fail
  refine HREM.out.mono ?_
  rintro e w5 ⟨v3, rfl, ho3, hto⟩
  obtain ⟨a3, k3, hv3, _⟩ := ownsRow_slice ho3
  subst hv3
  have RES := Lib.hid (And.intro (owns_base ho3 HG1.out.size) (BkTo.pre HG1.out hto))
  generalize hrr : (remB (fun x => x.ses == s) B) = rr at *
  have HRR := Lib.hid hrr
  clear ho3 hto t0 hrr
  go_wp2
  go_ret
  rw [HRR.out]
  exact ⟨_, rfl, RES.out.1, RES.out.2⟩
end Go.Proofs.YtmgpnpmdmelnkaaGreatDoor
namespace Go.Proofs.YtmgpnpmdmelnkaaGreatDoor
open Go.ChangeShapes Go.WideShapes Go.ChangeAt Go.RowKit
set_option linter.unusedVariables false
set_option linter.unusedSimpArgs false
/-- What a lock is, but for its token. -/
def sig (x : Lok) : Int × ByteArray × Bool := (x.ses, x.txt, x.ex)
theorem sameB_iff {x y : Lok} : sameB x y = true ↔ x.ses = y.ses ∧ x.txt = y.txt := by unfold sameB; simp
theorem sameB_not {x y : Lok} : sameB x y = false ↔ ¬ (x.ses = y.ses ∧ x.txt = y.txt) := by rw [← sameB_iff]; simp
def Apart (x y : Lok) : Prop := ¬ (x.ses = y.ses ∧ x.txt = y.txt)
theorem Apart.symm {x y : Lok} (h : Apart x y) : Apart y x := fun ⟨a, b⟩ => h ⟨a.symm, b.symm⟩
theorem mem_ins {L : List Lok} {i : Nat} {x y : Lok} : y ∈ ins L i x ↔ y = x ∨ y ∈ L := by
  unfold ins
  have : L = L.take i ++ L.drop i := (List.take_append_drop i L).symm
  constructor
  · intro h
    rcases List.mem_append.1 h with h | h
    · exact .inr (List.mem_of_mem_take h)
    · rcases List.mem_cons.1 h with h | h
      · exact .inl h
      · exact .inr (List.mem_of_mem_drop h)
  · rintro (h | h)
    · subst h; simp
    · rw [this] at h
      rcases List.mem_append.1 h with h | h
      · exact List.mem_append.2 (.inl h)
      · exact List.mem_append.2 (.inr (List.mem_cons_of_mem _ h))
theorem ins_perm (L : List Lok) (i : Nat) (x : Lok) : (ins L i x).Perm (x :: L) := by
  unfold ins
  have h := List.perm_middle (a := x) (l₁ := L.take i) (l₂ := L.drop i)
  rwa [List.take_append_drop] at h
theorem free_mono {H H' O : List Lok} {x : Lok} (h : freeB H O x = false) (hs : ∀ y ∈ H, y ∈ H') : freeB H' O x = false := by
  unfold freeB at *
  simp only [Bool.and_eq_false_iff, Bool.not_eq_false', List.any_eq_true] at *
  rcases h with ⟨y, hy, hc⟩ | h
  · exact .inl ⟨y, hs y hy, hc⟩
  · exact .inr h
/-- A book, but for those who wait without need. -/
structure Pre (t0 : Int) (B : Bk) : Prop where
  srt : SrtK B.H
  path : ∀ x ∈ B.H ++ B.W, IsPath x.txt
  last : t0 ≤ B.last
  tokH : ∀ x ∈ B.H, t0 < x.tok ∧ x.tok ≤ B.last
  tokW : ∀ x ∈ B.W, x.tok = 0
  keys : (B.H ++ B.W).Pairwise Apart
def Stuck (B : Bk) : Prop := ∀ i (h : i < B.W.length), freeB B.H (B.W.take i) B.W[i] = false
theorem pre_new (t : Int) : Pre t ⟨[], [], t⟩ := ⟨List.Pairwise.nil, fun x hx => by simp at hx, Int.le_refl _, fun x hx => by simp at hx, fun x hx => by simp at hx, List.Pairwise.nil⟩
theorem grant_pre {t0 : Int} {B : Bk} (h : Pre t0 B) {x : Lok} (hx : IsPath x.txt) (hk : ∀ y ∈ B.H ++ B.W, Apart x y) : Pre t0 (grantB B x) := by
  refine ⟨srt_ins h.srt _, fun y hy => ?_, by have := h.last; show t0 ≤ B.last + 1; omega, fun y hy => ?_, h.tokW, ?_⟩
  · rcases List.mem_append.1 hy with hy | hy
    · rcases mem_ins.1 hy with rfl | hy
      · exact hx
      · exact h.path y (List.mem_append.2 (.inl hy))
    · exact h.path y (List.mem_append.2 (.inr hy))
  · have h0 := h.last
    rcases mem_ins.1 hy with rfl | hy
    · show t0 < B.last + 1 ∧ B.last + 1 ≤ B.last + 1; omega
    · have := h.tokH y hy
      show t0 < y.tok ∧ y.tok ≤ B.last + 1; omega
  · show (ins B.H _ _ ++ B.W).Pairwise Apart
    have hp : (ins B.H (posK B.H (tokd B x)) (tokd B x) ++ B.W).Perm (tokd B x :: (B.H ++ B.W)) := (ins_perm _ _ _).append_right _
    rw [hp.pairwise_iff (fun {a b} hab => hab.symm), List.pairwise_cons]
    exact ⟨fun y hy => hk y hy, h.keys⟩
theorem pre_rest {t0 : Int} {B : Bk} (h : Pre t0 B) (q : Lok → Bool) : Pre t0 ⟨restL q B.H, restL q B.W, B.last⟩ := by
  refine ⟨rest_srt h.srt, fun x hx => ?_, h.last, fun x hx => h.tokH x (List.mem_filter.1 hx).1, fun x hx => h.tokW x (List.mem_filter.1 hx).1, ?_⟩
  · rcases List.mem_append.1 hx with hx | hx
    · exact h.path x (List.mem_append.2 (.inl (List.mem_filter.1 hx).1))
    · exact h.path x (List.mem_append.2 (.inr (List.mem_filter.1 hx).1))
  · show (restL q B.H ++ restL q B.W).Pairwise Apart
    unfold restL
    rw [← List.filter_append]
    exact h.keys.filter _
/-- serve, one after the other: what holds behind the first ones (D), with the others (R) still to come. -/
structure Serving (t0 : Int) (B : Bk) (s : Bk × List Lok × List Lok) (R : List Lok) : Prop where
  pre : Pre t0 ⟨s.1.H, s.2.2 ++ R, s.1.last⟩
  stuck : ∀ i (h : i < s.2.2.length), freeB s.1.H (s.2.2.take i) s.2.2[i] = false
  perm : ((s.1.H ++ (s.2.2 ++ R)).map sig).Perm ((B.H ++ B.W).map sig)
  held : ∀ x ∈ B.H, x ∈ s.1.H
  last : B.last ≤ s.1.last ∧ s.1.last + s.2.2.length + R.length ≤ B.last + B.W.length
/-- What serve leaves. -/
structure Served (t0 : Int) (B B' : Bk) : Prop where
  pre : Pre t0 B'
  stuck : Stuck B'
  perm : ((B'.H ++ B'.W).map sig).Perm ((B.H ++ B.W).map sig)
  held : ∀ x ∈ B.H, x ∈ B'.H
  last : B.last ≤ B'.last ∧ B'.last + B'.W.length ≤ B.last + B.W.length
/-- A book as it is between calls; n bounds what it has. -/
structure Inv (t0 : Int) (n : Nat) (B : Bk) : Prop where
  pre : Pre t0 B
  stuck : Stuck B
  len : B.H.length + B.W.length ≤ n
  last : B.last + B.W.length ≤ t0 + n
theorem find_neg {B : Bk} {s : Int} {t : ByteArray} (h : (findB B s t).2 < 0) : ∀ y ∈ B.H ++ B.W, ¬ (s = y.ses ∧ t = y.txt) := by
  have s1 := fstF_spec (sameB (askL s t)) B.H 0
  have s2 := fstF_spec (sameB (askL s t)) B.W 0
  unfold findB at h
  generalize fstF (sameB (askL s t)) B.H 0 = i1 at *
  generalize fstF (sameB (askL s t)) B.W 0 = i2 at *
  by_cases h1 : 0 ≤ i1
  · rw [if_pos h1] at h; simp at h
  · rw [if_neg h1] at h
    by_cases h2 : 0 ≤ i2
    · rw [if_pos h2] at h; simp at h; omega
    · intro y hy
      rcases s1 with ⟨_, s1⟩ | ⟨i, _, e, _⟩
      · rcases s2 with ⟨_, s2⟩ | ⟨i, _, e, _⟩
        · rcases List.mem_append.1 hy with hy | hy
          · obtain ⟨j, hj, rfl⟩ := List.getElem_of_mem hy
            exact sameB_not.1 (s1 j hj (by omega))
          · obtain ⟨j, hj, rfl⟩ := List.getElem_of_mem hy
            exact sameB_not.1 (s2 j hj (by omega))
        · omega
      · omega
theorem Inv.more {t0 : Int} {n m : Nat} {B : Bk} (h : Inv t0 n B) (hm : n ≤ m) : Inv t0 m B := ⟨h.pre, h.stuck, Nat.le_trans h.len hm, by have := h.last; omega⟩
structure Removed (t0 : Int) (n : Nat) (q : Lok → Bool) (B B' : Bk) : Prop where
  inv : Inv t0 n B'
  perm : ((B'.H ++ B'.W).map sig).Perm ((restL q (B.H ++ B.W)).map sig)
  held : ∀ x ∈ B.H, q x = false → x ∈ B'.H
def ofS (m : Int) (L : List Lok) : List (Int × ByteArray × Bool) := (L.map sig).filter (fun g => g.1 == m)
/-- What a session has, is kept by others' drops. -/
structure Kept (t0 : Int) (n : Nat) (m : Int) (B B' : Bk) : Prop where
  inv : Inv t0 n B'
  perm : (ofS m (B'.H ++ B'.W)).Perm (ofS m (B.H ++ B.W))
  held : ∀ x ∈ B.H, x.ses = m → x ∈ B'.H
  ses : ∀ x ∈ B'.H ++ B'.W, ∃ y ∈ B.H ++ B.W, y.ses = x.ses
theorem Kept.refl {t0 : Int} {n : Nat} {m : Int} {B : Bk} (h : Inv t0 n B) : Kept t0 n m B B := ⟨h, List.Perm.refl _, fun x hx _ => hx, fun x hx => ⟨x, hx, rfl⟩⟩
theorem Kept.trans {t0 : Int} {n : Nat} {m : Int} {A B C : Bk} (h : Kept t0 n m A B) (k : Kept t0 n m B C) : Kept t0 n m A C :=
  ⟨k.inv, k.perm.trans h.perm, fun x hx hm => k.held x (h.held x hx hm) hm, fun x hx => by
    obtain ⟨y, hy, e⟩ := k.ses x hx
    obtain ⟨z, hz, e2⟩ := h.ses y hy
    exact ⟨z, hz, e2.trans e⟩⟩
end Go.Proofs.YtmgpnpmdmelnkaaGreatDoor
