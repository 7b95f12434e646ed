import Derived.Test.YtahohgnkichibabF14b
import Derived.WalkKit
import Derived.ProofKit
import Derived.LoopTactic
import Derived.Outline
import Derived.WalkSpells
import Derived.WalkLawsBesides
import Derived.Lib.Hide
import Derived.Deep.LoopGhost
import Derived.Deep.QuietTactic
import Derived.BigQuiet
import Derived.ShutString
import Derived.IntWalk
import Derived.Lib.MinMax
import Derived.Lib.SliceRun
import Derived.Deep.AppendLies
import Derived.Deep.RegionWith
import Derived.Deep.RegionHeld3
import Derived.Deep.RegionLaw
import Derived.Deep.Upon
namespace Go.Proofs.Ytahohgnkichibab
open Go.ChangeShapes Go.WideShapes Go.ChangeAt Go.RowKit
set_option linter.unusedVariables false
set_option linter.unusedSimpArgs false
open Nt
theorem run_clear_any (w : World) (t e ty : TypeId) (z : Value) (ht : Try.prog.underlying t = some (.slice e)) (hv : ∀ w, (zeroValue e).run Try.prog w = .ok z w) (m : Nat) (L : List Value) (hz : (Builtin.zeroCells z.cells (m + 1)).toList = L) (h1 : ∀ v ∈ L, v.oneCell' = true) (b o c : Nat)
    (hc : ∀ j, j < L.length → (w.cell? ⟨b, o + j, none⟩).isSome = true) (hf : ∀ j, j < L.length → w.frozen? ⟨b, o + j, none⟩ = false) :
    (Builtin.clear_ #[t] ty #[.slice (some ⟨b, o, none⟩) (m + 1) c]).run Try.prog w = .ok (.tuple #[]) (w.setCells b o L) := by
  have hst := run_storeCells_cells (P := Try.prog) b o L 0 w (by simpa using hc) (by simpa using hf) h1
  simp only [Nat.add_zero] at hst
  simp [Builtin.clear_, run_underlying ht, hv, hz, hst]
theorem zero_packet (w : World) : (zeroValue 39).run Try.prog w = .ok (.agg #[.int .i64 0, .int .i64 0, .string ⟨#[]⟩]) w := by kernel_rfl
/-- Behind the stores of some cells a row owns what it holds then. -/
theorem owns_cells {w w2 : World} {base g cap n m : Nat} {t : TypeId} {xs ys : List Value} (h : w.ownsRow base t 3 (.slice (some ⟨g, 0, none⟩) n cap) n xs) 
    (hm : m ≤ n) (hl : ys.length = m * 3) (hk : ∃ cur : Array Value, w2.heap[g]? = some (.cells cur t (0, 0)) ∧ cur.size = cap * 3 ∧ ∀ (j : Nat) (u : Value), ys[j]? = some u → cur[j]? = some u) : w2.ownsRow base t 3 (.slice (some ⟨g, 0, none⟩) m cap) m ys := by
  obtain ⟨cur, hc, hs, hy⟩ := hk
  rcases h.2 with ⟨h0, _⟩ | ⟨g', cap', cur', hv', hb, _, h1, h2, _⟩
  · simp at h0
  · simp only [Value.slice.injEq, Option.some.injEq, Addr.mk.injEq, and_true, true_and] at hv'
    obtain ⟨rfl, rfl⟩ := hv'
    refine ⟨hl, .inr ⟨g, cap, cur, rfl, hb, hc, by omega, h2, hs, ?_⟩⟩
    apply List.ext_getElem?
    intro j
    by_cases hj : j < m * 3
    · rw [List.getElem?_take_of_lt hj, Array.getElem?_toList, List.getElem?_eq_getElem (by omega)]
      exact hy j _ (List.getElem?_eq_getElem (by omega))
    · rw [List.getElem?_take_eq_none (by omega), List.getElem?_eq_none (by omega)]
theorem heap_setCells {g : Nat} {t : TypeId} : ∀ (vs : List Value) (o : Nat) (w : World) (cur : Array Value), w.heap[g]? = some (.cells cur t (0, 0)) → ∃ cur2, (w.setCells g o vs).heap[g]? = some (.cells cur2 t (0, 0)) ∧ cur2.size = cur.size
  | [], _, w, cur, h => ⟨cur, h, rfl⟩
  | v :: r, o, w, cur, h => by
    obtain ⟨c2, h2, hs⟩ := heap_setCells r (o + 1) (w.setCell ⟨g, o, none⟩ v) (cur.setIfInBounds o v) (heap_setCell_same w g o cur t v h)
    exact ⟨c2, h2, by rw [hs]; simp⟩
theorem grown_refl (w : World) (r : Option Nat) : w.grownBy w r := ⟨rfl, rfl, rfl, Nat.le_refl _, fun _ _ _ => rfl⟩
theorem grown_trans {a b c : World} {r : Option Nat} (h : a.grownBy b r) (k : b.grownBy c r) : a.grownBy c r :=
  ⟨k.os.trans h.os, k.tape.trans h.tape, k.output.trans h.output, Nat.le_trans h.size k.size, fun i hi hr => (k.block i (Nat.lt_of_lt_of_le hi h.size) hr).trans (h.block i hi hr)⟩
theorem grown_drew {a b : World} {r : Option Nat} (h : a.grownBy b r) : a.grownBy b.drew r := ⟨h.os, h.tape, h.output, h.size, h.block⟩
theorem grown_cells (g : Nat) : ∀ (vs : List Value) (o : Nat) (w : World), w.grownBy (w.setCells g o vs) (some g)
  | [], _, w => grown_refl _ _
  | v :: r, o, w => grown_trans (b := w.setCell ⟨g, o, none⟩ v) ⟨rfl, rfl, rfl, by simp [World.setCell], fun k _ hk => Below.heap_setCell _ _ _ _ (fun e => hk (by rw [e]))⟩ (grown_cells g r (o + 1) _)
theorem deleted {w : World} {base g cap k m : Nat} (L : List P) (hL : L.length = k + m + 1) (ho : w.ownsRow base 39 3 (.slice (some ⟨g, 0, none⟩) (k + m + 1) cap) (k + m + 1) (pcells L)) :
    ((w.drew.setCells g (k * 3) (pcells (L.drop (k + 1)))).setCells g ((k + m) * 3) [.int .i64 0, .int .i64 0, .string ⟨#[]⟩]).ownsRow base 39 3 (.slice (some ⟨g, 0, none⟩) (k + m) cap) (k + m) (pcells (L.eraseIdx k)) := by
  have hl1 : (pcells (L.drop (k + 1))).length = m * 3 := by rw [pcells_len, List.length_drop]; omega
  have hl0 : (pcells (L.take k)).length = k * 3 := by rw [pcells_len, List.length_take]; omega
  have hy : pcells (L.eraseIdx k) = pcells (L.take k) ++ pcells (L.drop (k + 1)) := by rw [List.eraseIdx_eq_take_drop_succ, pcells_append]
  have hy2 : (pcells (L.eraseIdx k)).length = (k + m) * 3 := by rw [hy, List.length_append, hl0, hl1]; omega
  have hold := ho.cells (g := g) rfl
  have hold : ∀ j u, (pcells L)[j]? = some u → w.cell? ⟨g, j, none⟩ = some u := fun j u hj => by
    have h1 := hold j u hj
    have hadd : (⟨g, 0, none⟩ : Addr).add j = ⟨g, j, none⟩ := by unfold Addr.add; split <;> simp_all
    rwa [hadd] at h1
  have hp := pcells_split L k (by omega)
  refine owns_cells ho (by omega) hy2 ?_
  rcases ho.2 with ⟨h0, _⟩ | ⟨g', cap', cur, hv', _, hb, h1, _, hs, _⟩
  · simp at h0
  · simp only [Value.slice.injEq, Option.some.injEq, Addr.mk.injEq, and_true, true_and] at hv'
    obtain ⟨rfl, rfl⟩ := hv'
    obtain ⟨c1, hc1, z1⟩ := heap_setCells (pcells (L.drop (k + 1))) (k * 3) w.drew cur hb
    obtain ⟨c2, hc2, z2⟩ := heap_setCells [.int .i64 0, .int .i64 0, .string ⟨#[]⟩] ((k + m) * 3) _ c1 hc1
    refine ⟨c2, hc2, by rw [z2, z1, hs], fun j u hj => ?_⟩
    have hjl := (List.getElem?_eq_some_iff.1 hj).1
    rw [hy2] at hjl
    have hcell := cell_of_row _ g j c2 _ _ hc2
    rw [← hcell, World.cell?_setCells_out _ _ _ _ _ (fun _ _ => Or.inl hjl)]
    rw [hy] at hj
    by_cases hjk : j < k * 3
    · rw [World.cell?_setCells_out _ _ _ _ _ (fun _ _ => Or.inl hjk)]
      refine hold j u ?_
      rw [hp, List.getElem?_append_left (by omega)]
      rwa [List.getElem?_append_left (by omega)] at hj
    · have hin := World.cell?_setCells_in g (pcells (L.drop (k + 1))) (k * 3) w.drew (fun i hi => by
        have hw := cell_of_row w g (k * 3 + i) cur _ _ hb
        show (w.cell? ⟨g, k * 3 + i, none⟩).isSome = true
        rw [hw, Array.getElem?_eq_getElem (by rw [hs]; have : (k + m + 1) * 3 ≤ cap * 3 := Nat.mul_le_mul_right _ h1; omega)]; rfl) (j - k * 3) (by omega)
      rw [show k * 3 + (j - k * 3) = j by omega] at hin
      rw [hin, ← hj, List.getElem?_append_right (by omega), hl0, List.getElem?_eq_getElem (by omega)]
set_option maxRecDepth 1000000 in
set_option maxHeartbeats 2000000 in
theorem ndelete_any {base g cap k m : Nat} (L : List P) (w : World) (hL : L.length = k + m + 1) (ho : w.ownsRow base 39 3 (.slice (some ⟨g, 0, none⟩) (k + m + 1) cap) (k + m + 1) (pcells L)) (hl : k + m + 1 ≤ 4000) :
    Calls Try.prog 29 #[.slice (some ⟨g, 0, none⟩) (k + m + 1) cap, .int .i64 (k : Nat), .int .i64 ((k : Nat) + 1)] w fun e w' => e = .returned (.slice (some ⟨g, 0, none⟩) (k + m) cap) ∧ w'.ownsRow base 39 3 (.slice (some ⟨g, 0, none⟩) (k + m) cap) (k + m) (pcells (L.eraseIdx k)) ∧ w.grownBy w' (some g) := by
  obtain ⟨i0, hi0, hz0, hz1, hz2⟩ := info_parts info_packet
  have HF := Lib.hid (deleted L hL ho)
  have hl1 : (pcells (L.drop (k + 1))).length = m * 3 := by rw [pcells_len, List.length_drop]; omega
  have hone := Lib.hid (pcells_one (L.drop (k + 1)))
  obtain ⟨cur, hb, hcl, hcm, hs, hat⟩ : ∃ cur, w.heap[g]? = some (.cells cur 39 (0, 0)) ∧ k + m + 1 ≤ cap ∧ cap ≤ 9223372036854775807 ∧ cur.size = cap * 3 ∧ ∀ (j : Nat) (u : Value), (pcells L)[j]? = some u → cur[j]? = some u := by
    have hold := ho.cells (g := g) rfl
    rcases ho.2 with ⟨h0, _⟩ | ⟨g', cap', cur, hv', _, hb, h1, h2, hs, _⟩
    · simp at h0
    · simp only [Value.slice.injEq, Option.some.injEq, Addr.mk.injEq, and_true, true_and] at hv'
      obtain ⟨rfl, rfl⟩ := hv'
      refine ⟨cur, hb, h1, h2, hs, fun j u hj => ?_⟩
      have h3 := hold j u hj
      have hadd : (⟨g, 0, none⟩ : Addr).add j = ⟨g, j, none⟩ := by unfold Addr.add; split <;> simp_all
      rw [hadd, cell_of_row w g j cur _ _ hb] at h3
      exact h3
  have hc3 : (k + m + 1) * 3 ≤ cap * 3 := Nat.mul_le_mul_right _ hcl
  have there : ∀ j, j < (k + m + 1) * 3 → (w.cell? ⟨g, j, none⟩).isSome = true := fun j hj => by
    rw [cell_of_row w g j cur _ _ hb, Array.getElem?_eq_getElem (by omega)]; rfl
  have free : ∀ j, w.frozen? ⟨g, j, none⟩ = false := fun j => frozen_of_row w g j cur _ hb
  have hp := pcells_split L k (by omega)
  have hl0 : (pcells (L.take k)).length = k * 3 := by rw [pcells_len, List.length_take]; omega
  have hsrc : ∀ t u, (pcells (L.drop (k + 1)))[t]? = some u → w.drew.cell? ⟨g, (k + 1) * 3 + t, none⟩ = some u := fun t u ht => by
    show w.cell? ⟨g, (k + 1) * 3 + t, none⟩ = some u
    rw [cell_of_row w g _ cur _ _ hb]
    refine hat _ _ ?_
    rw [hp, List.getElem?_append_right (by omega), hl0, List.getElem?_append_right (by simp [P.cells]; omega)]
    rw [show (k + 1) * 3 + t - k * 3 - (P.cells L[k]).length = t by simp [P.cells]; omega]
    exact ht
  have s3 : Hid (∀ j, j < (pcells (L.drop (k + 1))).length → (w.drew.cell? ⟨g, 0 + k * 3 + j, none⟩).isSome = true ∧ w.drew.frozen? ⟨g, 0 + k * 3 + j, none⟩ = false) := Lib.hid fun j hj => by
    rw [hl1] at hj
    rw [Nat.zero_add]
    exact ⟨there _ (by omega), free _⟩
  have HS := Lib.hid hsrc
  have S1 := Lib.hid hl1
  have hclr : ∀ ty, (Builtin.clear_ #[44] ty #[.slice (some ⟨g, (k + m) * 3, none⟩) 1 (cap - (k + m))]).run Try.prog (w.drew.setCells g (k * 3) (pcells (L.drop (k + 1)))) = .ok (.tuple #[]) ((w.drew.setCells g (k * 3) (pcells (L.drop (k + 1)))).setCells g ((k + m) * 3) [.int .i64 0, .int .i64 0, .string ⟨#[]⟩]) :=
    fun ty => run_clear_any _ _ _ ty _ Try.underlying44 zero_packet 0 [.int .i64 0, .int .i64 0, .string ⟨#[]⟩] (by kernel_rfl) (by intro u hu; simp at hu; rcases hu with rfl | rfl | rfl <;> rfl) g _ _
      (fun j hj => World.isSome_setCells _ _ _ _ _ (there _ (by simp at hj; omega))) (fun j hj => by rw [World.frozen?_setCells]; exact free _)
  obtain ⟨news, hnews⟩ : ∃ news, pcells (L.drop (k + 1)) = news := ⟨_, rfl⟩
  rw [hnews] at HF hl1 hone s3 HS S1 hclr
  obtain ⟨W1, hW1⟩ : ∃ W1, w.drew.setCells g (k * 3) news = W1 := ⟨_, rfl⟩
  rw [hW1] at HF hclr
  have HW1 := Lib.hid hW1
  have HGR := Lib.hid (grown_trans (grown_drew (grown_refl w (some g))) (grown_trans (hW1 ▸ grown_cells g news (k * 3) w.drew) (grown_cells g [.int .i64 0, .int .i64 0, .string ⟨#[]⟩] ((k + m) * 3) W1)))
  clear hsrc hat hp hl0 hl1 there free hb hs ho hnews hW1 hL
  have HS0 : Hid (∀ t u, news[t]? = some u → w.drew.cell? ((⟨g, (k + 1) * 3, none⟩ : Addr).add t) = some u) := Lib.hid fun t u ht => by
    have hadd : (⟨g, (k + 1) * 3, none⟩ : Addr).add t = ⟨g, (k + 1) * 3 + t, none⟩ := by unfold Addr.add; split <;> simp_all
    rw [hadd]; exact HS.out t u ht
  clear HS
  by_cases hcj : cap = k + 1
  · obtain rfl : m = 0 := by omega
    subst hcj
    have HS1 : Hid (∀ t u, news[t]? = some u → w.drew.cell? ((⟨g, 0, none⟩ : Addr).add t) = some u) := Lib.hid fun t u ht => by
      have h0 := S1.out
      have h1 : news = [] := List.length_eq_zero_iff.1 (by omega)
      rw [h1] at ht
      simp at ht
    simp only [Nat.add_zero, show k + 1 - k = 1 by omega] at hclr HF HGR ⊢
    have hb1 : (k : Int) ≤ (k : Int) + 1 := by omega
    have hb2 : 0 ≤ (k : Int) + 1 := by omega
    go_enter Try.func29, Try.ntmps29
    go_wp2_with fail
    go_region_law? (refine step_append_room rfl (.tmp 22) (.tmp 25) 44 rfl 39 i0 3 Try.underlying44 hi0 hz1 g 0 k (k + 1) (by simp [Act.eval, Act.put]) ⟨g, 0, none⟩ 0 0 news (by simp [Act.eval, Act.put]) S1.out HS1.out hone.out (by omega) s3.out ?_; rw [Nat.zero_add, HW1.out])
    go_wp2_with (simp only [hclr])
    go_ret
    exact ⟨rfl, HF.out, HGR.out⟩
  · go_enter Try.func29, Try.ntmps29
    go_wp2_with fail
    have hic : k ≤ cap := by omega
    have hjc : k + 1 ≤ cap := by omega
    have ha1 : k + m + 1 - (k + 1) = m := by omega
    have hb2 : 0 ≤ (k : Int) + 1 := by omega
    have hb3 : (k : Int) ≤ (k : Int) + (m : Int) := by omega
    go_region_law? (refine step_append_room rfl (.tmp 22) (.tmp 25) 44 rfl 39 i0 3 Try.underlying44 hi0 hz1 g 0 k cap (by simp [Act.eval, Act.put]) ⟨g, (k + 1) * 3, none⟩ m (cap - (k + 1)) news (by simp [Act.eval, Act.put, ha1]) S1.out HS0.out hone.out (by omega) s3.out ?_; rw [Nat.zero_add, HW1.out])
    go_wp2_with (simp only [hclr])
    go_ret
    exact ⟨rfl, HF.out, HGR.out⟩
theorem way_nat {n : Nat} {a b : Int} (hn : n ≤ 12) (h : wayB n a b = true) : ∃ i j : Nat, a = (i : Int) ∧ b = (j : Int) ∧ i < 12 ∧ j < 12 := by
  have h1 := of_decide_eq_true h
  exact ⟨a.toNat, b.toNat, by omega, by omega, by omega, by omega⟩
set_option maxRecDepth 100000 in
theorem isCut_any {b : Nat} {v : Value} {x : N} (a c : Int) (w : World) (h : NtIs w b v x) :
    Calls Try.prog 24 #[.pointer (some ⟨b, 0, none⟩), .int .i64 a, .int .i64 c] w fun e w' => e = .returned (.bool (Nt.isCut x a c)) ∧ w = w' := by
  have HW := Lib.hid (connects_any a c w h)
  unfold Nt.isCut
  cases hw : wayB x.n a c
  · rw [hw] at HW
    clear h hw
    go_enter Try.func24, Try.ntmps24
    go_wp2_with fail
    refine HW.out.mono ?_
    rintro e w2 ⟨rfl, rfl⟩
    go_wp2
    go_ret
    exact ⟨rfl, rfl⟩
  · rw [hw] at HW
    obtain ⟨i, j, rfl, rfl, hi, hj⟩ := way_nat h.ok.n hw
    have c2 := h.cut i j hi hj
    clear h hw
    rw [show (i : Int).toNat = i by omega, show (j : Int).toNat = j by omega]
    generalize x.cut i j = q at *
    have hi2 : (i : Int) < 12 := by omega
    have hj2 : (j : Int) < 12 := by omega
    go_enter Try.func24, Try.ntmps24
    go_wp2_with fail
    refine HW.out.mono ?_
    rintro e w2 ⟨rfl, rfl⟩
    go_wp2
    go_ret
    exact ⟨rfl, rfl⟩
theorem NtIs.setCut {w : World} {b : Nat} {v : Value} {x : N} (h : NtIs w b v x) (i j : Nat) (hi : i < 12) (hj : j < 12) (q : Bool) :
    NtIs (w.setCell ⟨b, 2 + i * 12 + j, none⟩ (.bool q)) b v ⟨x.n, x.L, fun k l => if k = i ∧ l = j then q else x.cut k l⟩ := by
  have o : ∀ k u, k ≠ 2 + i * 12 + j → w.cell? ⟨b, k, none⟩ = some u → (w.setCell ⟨b, 2 + i * 12 + j, none⟩ (.bool q)).cell? ⟨b, k, none⟩ = some u := fun k u hk hu => by
    rw [World.cell?_setCell_other _ _ _ _ (by simp [hk])]; exact hu
  refine ⟨o _ _ (by omega) h.nodes, o _ _ (by omega) h.rowv, fun k l hk hl => ?_, fun k hk => by rw [World.frozen?_setCell]; exact h.free k hk, ?_, ⟨h.ok.n, h.ok.l, h.ok.s⟩⟩
  · by_cases e : k = i ∧ l = j
    · obtain ⟨rfl, rfl⟩ := e
      simp only [and_self, if_true]
      exact World.cell?_setCell_same' _ _ _ (by rw [h.cut k l hk hl]; rfl)
    · simp only [if_neg e]
      exact o _ _ (by omega) (h.cut k l hk hl)
  · exact ownsRow_far (Far.setCell b _ (.slice none 0 0) w _) h.row (fun e => by have := h.away b e; omega) (fun k _ e => by simp [Value.ownBlock] at e)
set_option maxRecDepth 100000 in
theorem cut_any14 {b : Nat} {v : Value} {x : N} (a c : Int) (q : Bool) (w : World) (h : NtIs w b v x) :
    Calls Try.prog 20 #[.pointer (some ⟨b, 0, none⟩), .int .i64 a, .int .i64 c, .bool q] w fun e w' => e = .returned (.tuple #[]) ∧ NtTo b v w (Nt.setCut x a c q) w' := by
  have HW := Lib.hid (connects_any a c w h)
  have H := Lib.hid h
  unfold Nt.setCut
  cases hw : wayB x.n a c
  · rw [hw] at HW
    clear h hw
    go_enter Try.func20, Try.ntmps20
    go_wp2_with fail
    refine HW.out.mono ?_
    rintro e w2 ⟨rfl, rfl⟩
    go_wp2
    go_end0
    exact ⟨rfl, NtTo.same H.out (Gr.refl _)⟩
  · rw [hw] at HW
    obtain ⟨i, j, rfl, rfl, hi, hj⟩ := way_nat h.ok.n hw
    have c2 := h.cut i j hi hj
    have f2 := h.free (2 + i * 12 + j) (by omega)
    have HS := Lib.hid (h.setCut i j hi hj q)
    clear h hw
    rw [show (i : Int).toNat = i by omega, show (j : Int).toNat = j by omega]
    generalize x.cut i j = q0 at *
    have hi2 : (i : Int) < 12 := by omega
    have hj2 : (j : Int) < 12 := by omega
    go_enter Try.func20, Try.ntmps20
    go_wp2_with fail
    refine HW.out.mono ?_
    rintro e w2 ⟨rfl, rfl⟩
    go_wp2
    go_end0
    exact ⟨rfl, v, HS.out, Far.setCell _ _ _ _ _, From.refl _ _⟩
end Go.Proofs.Ytahohgnkichibab
