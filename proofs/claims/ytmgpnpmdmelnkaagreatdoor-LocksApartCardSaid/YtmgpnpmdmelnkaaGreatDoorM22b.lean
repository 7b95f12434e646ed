import Derived.Test.YtmgpnpmdmelnkaaGreatDoorF22m
import Derived.WalkKit
import Derived.ProofKit
import Derived.LoopTactic
import Derived.Outline
import Derived.WalkSpells
import Derived.WalkLawsBesides
import Derived.Lib.Hide
import Derived.Deep.LoopGhost
import Derived.Deep.QuietTactic
import Derived.BigQuiet
import Derived.ShutString
import Derived.IntWalk
import Derived.Lib.MinMax
import Derived.Deep.AppendLies
import Derived.Deep.RegionWith
import Derived.Deep.RegionHeld3
import Derived.Laws.OwnMore
namespace Go.Proofs.YtmgpnpmdmelnkaaGreatDoor
open Go.ChangeShapes Go.WideShapes Go.ChangeAt Go.RowKit
set_option linter.unusedVariables false
set_option linter.unusedSimpArgs false
variable {w0 w : World} {b : Nat} {v1 v2 : Value} {B : Bk}
/-- Who waits is granted, or left: one after the other. -/
noncomputable def serveStep (s : Bk × List Lok × List Lok) (x : Lok) : Bk × List Lok × List Lok :=
  if freeB s.1.H s.2.2 x = true ∧ s.1.last ≠ 18446744073709551615 then (grantB s.1 x, s.2.1 ++ [tokd s.1 x], s.2.2) else (s.1, s.2.1, s.2.2 ++ [x])
noncomputable def serveF (B : Bk) (L : List Lok) : Bk × List Lok × List Lok := L.foldl serveStep (B, [], [])
noncomputable def serveB (B : Bk) : Bk × List Lok := (⟨(serveF B B.W).1.H, (serveF B B.W).2.2, (serveF B B.W).1.last⟩, (serveF B B.W).2.1)
theorem serveF_snoc (B : Bk) (L : List Lok) (j : Nat) (h : j < L.length) : serveF B (L.take (j + 1)) = serveStep (serveF B (L.take j)) L[j] := by
  unfold serveF
  rw [List.take_succ_eq_append_getElem h, List.foldl_append]
  rfl
structure SvP (B : Bk) (j : Nat) (s : Bk × List Lok × List Lok) : Prop where
  w : s.1.W = B.W
  srt : SrtK s.1.H
  path : (∀ x ∈ s.1.H, IsPath x.txt) ∧ (∀ x ∈ s.2.1, IsPath x.txt) ∧ ∀ x ∈ s.2.2, IsPath x.txt
  len : s.1.H.length ≤ B.H.length + j ∧ s.2.1.length ≤ j ∧ s.2.2.length ≤ j
  last : 0 ≤ s.1.last ∧ s.1.last ≤ 18446744073709551615
theorem SvP.step {j : Nat} {s : Bk × List Lok × List Lok} (h : SvP B j s) {x : Lok} (hx : IsPath x.txt) : SvP B (j + 1) (serveStep s x) := by
  obtain ⟨h1, h2, h3⟩ := h.len
  unfold serveStep
  split
  · rename_i hc
    refine ⟨h.w, srt_ins h.srt _, ⟨fun y hy => ?_, fun y hy => ?_, h.path.2.2⟩, ⟨?_, ?_, by show s.2.2.length ≤ _; omega⟩, ?_⟩
    · have hy : y ∈ ins s.1.H (posK s.1.H (tokd s.1 x)) (tokd s.1 x) := hy
      unfold ins at hy
      rcases List.mem_append.1 hy with hy | hy
      · exact h.path.1 y (List.mem_of_mem_take hy)
      · rcases List.mem_cons.1 hy with rfl | hy
        · exact hx
        · exact h.path.1 y (List.mem_of_mem_drop hy)
    · rcases List.mem_append.1 hy with hy | hy
      · exact h.path.2.1 y hy
      · simp at hy; subst hy; exact hx
    · show (ins s.1.H (posK s.1.H (tokd s.1 x)) (tokd s.1 x)).length ≤ _
      rw [ins_len _ _ _ (show posK s.1.H (tokd s.1 x) ≤ s.1.H.length from List.findIdx_le_length)]; omega
    · show (s.2.1 ++ [_]).length ≤ _
      rw [List.length_append]; simp; omega
    · have := h.last
      have := hc.2
      show 0 ≤ s.1.last + 1 ∧ s.1.last + 1 ≤ _
      omega
  · refine ⟨h.w, h.srt, ⟨h.path.1, h.path.2.1, fun y hy => ?_⟩, ⟨by show s.1.H.length ≤ _; omega, by show s.2.1.length ≤ _; omega, ?_⟩, h.last⟩
    · rcases List.mem_append.1 hy with hy | hy
      · exact h.path.2.2 y hy
      · simp at hy; subst hy; exact hx
    · show (s.2.2 ++ [x]).length ≤ _
      rw [List.length_append]; simp; omega
structure SvIs (w0 w wr : World) (b : Nat) (v1 v2 : Value) (s : Bk × List Lok × List Lok) (u1 v3 v4 : Value) : Prop where
  bk : BkIs w0 wr b u1 v2 s.1
  far : Far2 b v1 (.slice none 0 0) w wr
  fr : From v1 w u1
  r3 : wr.ownsRow w.heap.size 42 4 v3 s.2.1.length (rcells encLok s.2.1)
  r4 : wr.ownsRow w.heap.size 42 4 v4 s.2.2.length (rcells encLok s.2.2)
  n34 : v3.ownBlock = none ∨ v3.ownBlock ≠ v4.ownBlock
  n13 : u1.ownBlock = none ∨ u1.ownBlock ≠ v3.ownBlock
  n14 : u1.ownBlock = none ∨ u1.ownBlock ≠ v4.ownBlock
  b : b < w.heap.size
  v2 : ∀ k, v2.ownBlock = some k → k < w.heap.size
variable {wr wx : World} {s : Bk × List Lok × List Lok} {u1 v3 v4 : Value}
theorem SvIs.gr (h : SvIs w0 w wr b v1 v2 s u1 v3 v4) (hg : Gr wr wx) : SvIs w0 w wx b v1 v2 s u1 v3 v4 :=
  ⟨h.bk.gr hg, h.far.trans (From.refl _ _) (From.refl _ _) (Far2.of_gr hg), h.fr, ownsRow_gr hg h.r3, ownsRow_gr hg h.r4, h.n34, h.n13, h.n14, h.b, h.v2⟩
theorem own_ge {w : World} {base k n g : Nat} {e : TypeId} {v : Value} {xs : List Value} (h : w.ownsRow base e k v n xs) (hv : v.ownBlock = some g) : base ≤ g ∧ g < w.heap.size := h.lt _ hv
/-- A grant. -/
theorem SvIs.grant (h : SvIs w0 w wr b v1 v2 s u1 v3 v4) {B' : Bk} (ht : BkTo1 w0 wr wx b u1 v2 B') : ∃ u1', SvIs w0 w wx b v1 v2 (B', s.2.1, s.2.2) u1' v3 v4 := by
  obtain ⟨u1', hk, hF, hf⟩ := ht
  have hrow : ∀ {v : Value} {n : Nat} {xs : List Value}, wr.ownsRow w.heap.size 42 4 v n xs → (u1.ownBlock = none ∨ u1.ownBlock ≠ v.ownBlock) → wx.ownsRow w.heap.size 42 4 v n xs ∧ (u1'.ownBlock = none ∨ u1'.ownBlock ≠ v.ownBlock) := by
    intro v n xs hr hn
    have hkeep : wx.ownsRow w.heap.size 42 4 v n xs := by
      obtain ⟨h1, h2⟩ := hr
      refine ⟨h1, h2.imp id ?_⟩
      rintro ⟨g, cap, cur, rfl, hg, hc, r⟩
      have hlt : g < wr.heap.size := (Array.getElem?_eq_some_iff.1 hc).1
      refine ⟨g, cap, cur, rfl, hg, (hF.block g hlt (by have := h.b; omega) (fun e => ?_) (by simp [Value.ownBlock])).trans hc, r⟩
      rcases hn with h3 | h3
      · rw [h3] at e; simp at e
      · exact h3 (e.trans rfl)
    refine ⟨hkeep, ?_⟩
    rcases hq : u1'.ownBlock with _ | k
    · exact .inl rfl
    · refine .inr (fun e => ?_)
      rcases hf k hq with h3 | h3
      · rcases hn with h4 | h4
        · rw [h4] at h3; simp at h3
        · exact h4 (h3.trans e)
      · have := (own_ge hr e.symm).2; omega
  exact ⟨u1', hk, h.far.trans h.fr (From.refl _ _) hF, fun k e => by
    rcases hf k e with h3 | h3
    · exact h.fr k h3
    · exact .inr (Nat.le_trans h.far.size h3), (hrow h.r3 h.n13).1, (hrow h.r4 h.n14).1, h.n34, (hrow h.r3 h.n13).2, (hrow h.r4 h.n14).2, h.b, h.v2⟩
theorem own_none_grown {v : Value} {b : Nat} {v1 v2 : Value} {wr wx : World} (hg : wr.grownBy wx v.ownBlock) {lo : Nat} (hv : ∀ k, v.ownBlock = some k → lo ≤ k) : ∀ k, k < wr.heap.size → k < lo → wx.heap[k]? = wr.heap[k]? :=
  fun k hk hl => hg.block k hk (fun e => by have := hv k e.symm; omega)
theorem bk_kept {w0 wr wx : World} {b : Nat} {u1 v2 v : Value} {B : Bk} (h : BkIs w0 wr b u1 v2 B) (hg : wr.grownBy wx v.ownBlock) (hv : ∀ k, v.ownBlock = some k → w0.heap.size ≤ k) (hb : v.ownBlock ≠ some b) (h1 : u1.ownBlock = none ∨ u1.ownBlock ≠ v.ownBlock) (h2 : v2.ownBlock = none ∨ v2.ownBlock ≠ v.ownBlock) : BkIs w0 wx b u1 v2 B :=
  ⟨h.base, Below.trans h.grown ⟨hg.os, hg.tape, hg.output, hg.size, fun k hk => hg.block k (Nat.lt_of_lt_of_le hk h.grown.size) (fun e => by have := hv k e.symm; omega)⟩, h.blk.keptB hg hb, h.r1.kept hg h1, h.r2.kept hg h2, h.ne⟩
theorem own_swap {a b : Option Nat} (h : a = none ∨ a ≠ b) : b = none ∨ b ≠ a := ne_swap h
/-- An append to those that are granted. -/
theorem SvIs.put3 (h : SvIs w0 w wr b v1 v2 s u1 v3 v4) {y : Lok} {v3' : Value} {g : Nat} (hg : wr.grownBy wx v3.ownBlock) (ho : wx.ownsRow w.heap.size 42 4 v3' (s.2.1.length + 1) (rcells encLok s.2.1 ++ encLok y)) (hown : v3'.ownBlock = some g) (hat : v3.ownBlock = some g ∨ g = wr.heap.size) : SvIs w0 w wx b v1 v2 (s.1, s.2.1 ++ [y], s.2.2) u1 v3' v4 := by
  have lo3 : ∀ k, v3.ownBlock = some k → w.heap.size ≤ k := fun k e => (own_ge h.r3 e).1
  have hne : ∀ {v : Value} {n : Nat} {xs : List Value} {base : Nat} {e : TypeId}, wr.ownsRow base e 4 v n xs → (v.ownBlock = none ∨ v.ownBlock ≠ v3.ownBlock) → (v.ownBlock = none ∨ v.ownBlock ≠ v3'.ownBlock) := by
    intro v n xs base e hr hn
    rcases hq : v.ownBlock with _ | k
    · exact .inl rfl
    · refine .inr (fun e => ?_)
      rw [hown] at e
      obtain rfl : k = g := Option.some.inj e
      rcases hat with h3 | h3
      · rcases hn with h4 | h4
        · rw [hq] at h4; simp at h4
        · exact h4 (hq.trans h3.symm)
      · have := (own_ge hr hq).2; omega
  refine ⟨bk_kept h.bk hg (fun k e => Nat.le_trans (Nat.le_trans h.bk.base (Nat.le_of_lt h.b)) (lo3 k e)) (fun e => by have := lo3 _ e; have := h.b; omega) h.n13 ?_, ?_, h.fr, ?_, h.r4.kept hg (own_swap h.n34), own_swap (hne h.r4 (own_swap h.n34)), hne h.bk.r1 h.n13, h.n14, h.b, h.v2⟩
  · rcases hq : v2.ownBlock with _ | k
    · exact .inl rfl
    · exact .inr (fun e => by have := lo3 k e.symm; have := h.v2 k hq; omega)
  · exact ⟨hg.os.trans h.far.os, hg.tape.trans h.far.tape, hg.output.trans h.far.output, Nat.le_trans h.far.size hg.size, fun k hk h1 h2 h3 => (hg.block k (Nat.lt_of_lt_of_le hk h.far.size) (fun e => by have := lo3 k e.symm; omega)).trans (h.far.block k hk h1 h2 h3)⟩
  · show wx.ownsRow _ _ _ _ (s.2.1 ++ [y]).length (rcells encLok (s.2.1 ++ [y]))
    rw [List.length_append, rcells_snoc]
    exact ho
theorem SvIs.put4 (h : SvIs w0 w wr b v1 v2 s u1 v3 v4) {y : Lok} {v4' : Value} {g : Nat} (hg : wr.grownBy wx v4.ownBlock) (ho : wx.ownsRow w.heap.size 42 4 v4' (s.2.2.length + 1) (rcells encLok s.2.2 ++ encLok y)) (hown : v4'.ownBlock = some g) (hat : v4.ownBlock = some g ∨ g = wr.heap.size) : SvIs w0 w wx b v1 v2 (s.1, s.2.1, s.2.2 ++ [y]) u1 v3 v4' := by
  have lo4 : ∀ k, v4.ownBlock = some k → w.heap.size ≤ k := fun k e => (own_ge h.r4 e).1
  have hne : ∀ {v : Value} {n : Nat} {xs : List Value} {base : Nat} {e : TypeId}, wr.ownsRow base e 4 v n xs → (v.ownBlock = none ∨ v.ownBlock ≠ v4.ownBlock) → (v.ownBlock = none ∨ v.ownBlock ≠ v4'.ownBlock) := by
    intro v n xs base e hr hn
    rcases hq : v.ownBlock with _ | k
    · exact .inl rfl
    · refine .inr (fun e => ?_)
      rw [hown] at e
      obtain rfl : k = g := Option.some.inj e
      rcases hat with h3 | h3
      · rcases hn with h4 | h4
        · rw [hq] at h4; simp at h4
        · exact h4 (hq.trans h3.symm)
      · have := (own_ge hr hq).2; omega
  refine ⟨bk_kept h.bk hg (fun k e => Nat.le_trans (Nat.le_trans h.bk.base (Nat.le_of_lt h.b)) (lo4 k e)) (fun e => by have := lo4 _ e; have := h.b; omega) h.n14 ?_, ?_, h.fr, h.r3.kept hg h.n34, ?_, hne h.r3 h.n34, h.n13, hne h.bk.r1 h.n14, h.b, h.v2⟩
  · rcases hq : v2.ownBlock with _ | k
    · exact .inl rfl
    · exact .inr (fun e => by have := lo4 k e.symm; have := h.v2 k hq; omega)
  · exact ⟨hg.os.trans h.far.os, hg.tape.trans h.far.tape, hg.output.trans h.far.output, Nat.le_trans h.far.size hg.size, fun k hk h1 h2 h3 => (hg.block k (Nat.lt_of_lt_of_le hk h.far.size) (fun e => by have := lo4 k e.symm; omega)).trans (h.far.block k hk h1 h2 h3)⟩
  · show wx.ownsRow _ _ _ _ (s.2.2 ++ [y]).length (rcells encLok (s.2.2 ++ [y]))
    rw [List.length_append, rcells_snoc]
    exact ho
end Go.Proofs.YtmgpnpmdmelnkaaGreatDoor
