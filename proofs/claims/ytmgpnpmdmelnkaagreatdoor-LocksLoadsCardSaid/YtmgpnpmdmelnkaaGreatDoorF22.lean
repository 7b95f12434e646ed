import Derived.Test.YtmgpnpmdmelnkaaGreatDoorK2
import Derived.WalkKit
import Derived.ProofKit
import Derived.LoopTactic
import Derived.Outline
import Derived.WalkSpells
import Derived.WalkLawsBesides
import Derived.Lib.Hide
import Derived.Deep.LoopGhost
import Derived.Deep.QuietTactic
import Derived.BigQuiet
import Derived.ShutString
import Derived.Deep.AppendLies
import Derived.Shelf.Spec.SlicesInsertGrow
namespace Go.Proofs.YtmgpnpmdmelnkaaGreatDoor
open Go.ChangeShapes Go.WideShapes Go.ChangeAt Go.RowKit
set_option linter.unusedVariables false
set_option linter.unusedSimpArgs false
structure Lok where
  ses : Int
  txt : ByteArray
  ex : Bool
  tok : Int
def encLok (x : Lok) : List Value := [.int .i64 x.ses, .string x.txt, .bool x.ex, .int .u64 x.tok]
theorem encLok_len (x : Lok) : (encLok x).length = 4 := rfl
theorem encLok_one (x : Lok) : ∀ v ∈ encLok x, v.oneCell' = true := by
  intro v hv
  simp only [encLok, List.mem_cons, List.not_mem_nil, or_false] at hv
  rcases hv with rfl | rfl | rfl | rfl <;> rfl
set_option maxRecDepth 100000 in
set_option maxHeartbeats 1000000 in
/-- slices.Insert of one element into a row that the call owns. -/
theorem insLok_end {base vb : Nat} {v : Value} (L : List Lok) (x : Lok) (w : World) (h : w.ownsRow base 42 4 v L.length (rcells encLok L)) (hl : L.length ≤ 100000) (hb : base ≤ w.heap.size) (hx : Blk w vb (encLok x).toArray 42) :
    Calls Tryz.prog 68 #[v, .int .i64 (L.length : Nat), .slice (some ⟨vb, 0, none⟩) 1 1] w fun e w' => ∃ v', e = .returned v' ∧ w'.ownsRow base 42 4 v' (L.length + 1) (rcells encLok (ins L L.length x)) ∧ w.grownBy w' v.ownBlock ∧ From v w v' := by
  obtain ⟨i0, hi0, hz0, hz1, hz2⟩ : ∃ i0 : TypeInfo, Tryz.prog.info? 42 = some i0 ∧ i0.zero = some (.agg #[.int .i64 0, .string ⟨#[]⟩, .bool false, .int .u64 0]) ∧ i0.size = 4 ∧ i0.bytes = 40 := ⟨_, rfl, rfl, rfl, rfl⟩
  rw [ins_end, rcells_snoc]
  have hform : (v = .slice none 0 0 ∧ L.length = 0) ∨ ∃ g cap, v = .slice (some ⟨g, 0, none⟩) L.length cap := by
    rcases h.2 with ⟨h1, h2⟩ | ⟨g, cap, cur, h1, _⟩
    · exact .inl ⟨h1, h2⟩
    · exact .inr ⟨g, cap, h1⟩
  have HN : Hid (∀ j u, (encLok x)[j]? = some u → w.cell? ⟨vb, j, none⟩ = some u) := Lib.hid fun j u hj => by
    have := World.news_of_block hx j u hj
    rwa [addr_add, Nat.zero_add] at this
  have H := Lib.hid h
  have ho1 := Lib.hid (encLok_one x)
  have hlen := encLok_len x
  generalize encLok x = xs at *
  generalize rcells encLok L = ys at *
  generalize L.length = n at *
  clear h hx
  rcases hform with ⟨rfl, rfl⟩ | ⟨g, cap, rfl⟩
  · skip
    go_enter Tryz.func68, Tryz.ntmps68
    go_wp2_with (at_builtin; go_loud (refine wpList_append_lies _ rfl (.tmp 23) (.tmp 24) 37 rfl base 42 i0 (.agg #[.int .i64 0, .string ⟨#[]⟩, .bool false, .int .u64 0]) 4 40 Tryz.underlying37 hi0 hz0 hz1 hz2 rfl (by decide) _ _ _ rfl H.out ⟨vb, 0, none⟩ 1 1 xs rfl (by simpa using hlen) ?c1 ?c2 Nat.one_pos ?c3 ?c4 ?c5 _ rfl ?_))
    case c1 => intro j u hj; rw [addr_add, Nat.zero_add]; exact HN.out j u hj
    case c2 => exact ho1.out
    case c3 => unfold maxLen; omega
    case c4 => omega
    case c5 => exact hb
    intro g7 cap7 w7 hown7 hgrow7 hat7 hlt7
    go_wp2
    go_ret
    refine ⟨_, rfl, hown7, hgrow7, fun k e => ?_⟩
    simp [Value.ownBlock] at e
    subst e
    exact hat7.imp id (fun h => by omega)
  · by_cases hcn : cap = n
    · subst hcn
      go_enter Tryz.func68, Tryz.ntmps68
      go_wp2_with (at_builtin; go_loud (refine wpList_append_lies _ rfl (.tmp 23) (.tmp 24) 37 rfl base 42 i0 (.agg #[.int .i64 0, .string ⟨#[]⟩, .bool false, .int .u64 0]) 4 40 Tryz.underlying37 hi0 hz0 hz1 hz2 rfl (by decide) _ _ _ rfl H.out ⟨vb, 0, none⟩ 1 1 xs rfl (by simpa using hlen) ?c1 ?c2 Nat.one_pos ?c3 ?c4 ?c5 _ rfl ?_))
      case c1 => intro j u hj; rw [addr_add, Nat.zero_add]; exact HN.out j u hj
      case c2 => exact ho1.out
      case c3 => unfold maxLen; omega
      case c4 => omega
      case c5 => exact hb
      intro g7 cap7 w7 hown7 hgrow7 hat7 hlt7
      go_wp2
      go_ret
      refine ⟨_, rfl, hown7, hgrow7, fun k e => ?_⟩
      simp [Value.ownBlock] at e
      subst e
      exact hat7.imp id (fun h => by omega)
    · skip
      go_enter Tryz.func68, Tryz.ntmps68
      go_wp2_with (at_builtin; go_loud (refine wpList_append_lies _ rfl (.tmp 23) (.tmp 24) 37 rfl base 42 i0 (.agg #[.int .i64 0, .string ⟨#[]⟩, .bool false, .int .u64 0]) 4 40 Tryz.underlying37 hi0 hz0 hz1 hz2 rfl (by decide) _ _ _ rfl H.out ⟨vb, 0, none⟩ 1 1 xs rfl (by simpa using hlen) ?c1 ?c2 Nat.one_pos ?c3 ?c4 ?c5 _ rfl ?_))
      case c1 => intro j u hj; rw [addr_add, Nat.zero_add]; exact HN.out j u hj
      case c2 => exact ho1.out
      case c3 => unfold maxLen; omega
      case c4 => omega
      case c5 => exact hb
      intro g7 cap7 w7 hown7 hgrow7 hat7 hlt7
      go_wp2
      go_ret
      refine ⟨_, rfl, hown7, hgrow7, fun k e => ?_⟩
      simp [Value.ownBlock] at e
      subst e
      exact hat7.imp id (fun h => by omega)
set_option maxRecDepth 100000 in
set_option maxHeartbeats 1000000 in
theorem insLok_shift {base vb g cap i : Nat} (L : List Lok) (x : Lok) (w : World) (h : w.ownsRow base 42 4 (.slice (some ⟨g, 0, none⟩) L.length cap) L.length (rcells encLok L)) (hi : i < L.length) (hr : L.length + 1 ≤ cap) (hl : L.length ≤ 100000) (hx : Blk w vb (encLok x).toArray 42) (hv : vb ≠ g) :
    Calls Tryz.prog 68 #[.slice (some ⟨g, 0, none⟩) L.length cap, .int .i64 (i : Nat), .slice (some ⟨vb, 0, none⟩) 1 1] w fun e w' => e = .returned (.slice (some ⟨g, 0, none⟩) (L.length + 1) cap) ∧ w'.ownsRow base 42 4 (.slice (some ⟨g, 0, none⟩) (L.length + 1) cap) (L.length + 1) (rcells encLok (ins L i x)) ∧ w.grownBy w' (some g) := by
  obtain ⟨g', cap', cur, hve, hbg, hlt, hcur, h1, h2, h3, h4, hat, hso, hfz⟩ := owns_open h (by omega)
  simp only [Value.slice.injEq, Option.some.injEq, Addr.mk.injEq, and_true, true_and] at hve
  obtain ⟨rfl, rfl⟩ := hve
  have hsz : (Tryz.prog.info? 42).map (·.size) = some 4 := rfl
  have hk := encLok_len
  have l1 : (rcells encLok (L.take i)).length = i * 4 := by rw [rcells_len hk, List.length_take, Nat.min_eq_left (by omega)]
  have l2 : (rcells encLok (L.drop i)).length = (L.length - i) * 4 := by rw [rcells_len hk, List.length_drop]
  have hsp : rcells encLok L = rcells encLok (L.take i) ++ rcells encLok (L.drop i) := by rw [← rcells_append, List.take_append_drop]
  have HF := Lib.hid (inserted (W := w.drew) (i := i) hk L x (by omega) hbg hcur h3 hr h2 (fun j u hj => hat j u (by rw [hsp, List.getElem?_append_left (List.getElem?_eq_some_iff.1 hj).1]; exact hj)) (.inl rfl))
  have hone := rcells_one encLok_one (L.drop i)
  have hgr := grown_trans (grown_drew (grown_refl w (some g))) (grown_trans (grown_cells g (rcells encLok (L.drop i)) ((i + 1) * 4) w.drew) (grown_cells g (encLok x) (i * 4) _))
  have hov : ∀ lb cb, (callFunc 82 #[.slice (some ⟨vb, 0, none⟩) 1 1, .slice (some ⟨g, (i + 1) * 4, none⟩) lb cb]).run Tryz.prog w = .ok (.value (.bool false)) w := fun lb cb => by
    rw [run_callFunc_extern Tryz.func82 (by kernel_rfl) (by kernel_rfl) (by kernel_rfl) (e := Extern.SlicesOverlaps.overlaps #[37, 37] #[4]) (by kernel_rfl),
      Lib.run_overlaps_apart w 37 4 42 Tryz.underlying37 4 (fun w => by kernel_rfl) ⟨vb, 0, none⟩ ⟨g, (i + 1) * 4, none⟩ 1 1 lb cb hv 42 42 4 (cap * 4) (by simp [World.shape?, show w.heap[vb]? = _ from hx]; rfl) (by simp [World.shape?, hcur, h3]) (by omega) (hx.free 0) (hx.free _)]
    rfl
  have hcp1 : ∀ ty dc sc, (Builtin.copy_ #[37, 37] ty #[.slice (some ⟨g, (i + 1) * 4, none⟩) (L.length - i) dc, .slice (some ⟨g, i * 4, none⟩) (L.length + 1 - i) sc]).run Tryz.prog w.drew = .ok (goInt ((L.length - i : Nat) : Int)) (w.drew.setCells g ((i + 1) * 4) (rcells encLok (L.drop i))) := fun ty dc sc => by
    have hm : Nat.min (L.length + 1 - i) (L.length - i) = L.length - i := by simp only [Nat.min_def]; split <;> omega
    have := run_copy_k (P := Tryz.prog) w.drew 37 37 ty 42 4 g ((i + 1) * 4) (L.length - i) dc ⟨g, i * 4, none⟩ (L.length + 1 - i) sc (rcells encLok (L.drop i)) Tryz.underlying37 hsz (by rw [hm]; exact l2)
      (fun j u hj => by rw [addr_add]; exact hat _ u (by rw [hsp, List.getElem?_append_right (by omega), l1, Nat.add_sub_cancel_left]; exact hj))
      (fun j hj => hso _ (by omega)) (fun j hj => hfz _) hone
    rwa [hm] at this
  have hcp2 : ∀ ty dc, (Builtin.copy_ #[37, 37] ty #[.slice (some ⟨g, i * 4, none⟩) (L.length + 1 - i) dc, .slice (some ⟨vb, 0, none⟩) 1 1]).run Tryz.prog (w.drew.setCells g ((i + 1) * 4) (rcells encLok (L.drop i))) = .ok (goInt 1) ((w.drew.setCells g ((i + 1) * 4) (rcells encLok (L.drop i))).setCells g (i * 4) (encLok x)) := fun ty dc => by
    have hm : Nat.min 1 (L.length + 1 - i) = 1 := by simp only [Nat.min_def]; split <;> omega
    have := run_copy_k (P := Tryz.prog) (w.drew.setCells g ((i + 1) * 4) (rcells encLok (L.drop i))) 37 37 ty 42 4 g (i * 4) (L.length + 1 - i) dc ⟨vb, 0, none⟩ 1 1 (encLok x) Tryz.underlying37 hsz (by rw [hm]; rfl)
      (fun j u hj => by rw [addr_add, Nat.zero_add, World.cell?_setCells_out g _ _ _ _ (fun e _ => absurd e hv)]; exact hx.cell (by simpa using hj))
      (fun j hj => isSome_setCells g (rcells encLok (L.drop i)) ((i + 1) * 4) w.drew (fun j2 hj2 => hso ((i + 1) * 4 + j2) (by omega)) (i * 4 + j) (hso (i * 4 + j) (by rw [hk] at hj; omega))) (fun j hj => by rw [World.frozen?_setCells]; exact hfz _) (encLok_one x)
    rwa [hm] at this
  have hz2 : ¬ ((i : Int) = (L.length : Int)) := by omega
  have hw1 : IntKind.i64.wrap ((i : Int) + 1) = (i : Int) + 1 := by rw [IntKind.wrap_i64]; unfold maxLen at h2; omega
  have hw2 : IntKind.i64.wrap ((L.length : Int) + 1) = (L.length : Int) + 1 := by rw [IntKind.wrap_i64]; unfold maxLen at h2; omega
  have hb1 : (0 : Int) ≤ (i : Int) + 1 := by omega
  have htn : ((i : Int) + 1).toNat = i + 1 := by omega
  have hc63 : cap ≤ 9223372036854775807 := by unfold maxLen at h2; omega
  have HGR := Lib.hid hgr
  generalize rcells encLok (L.drop i) = ds at *
  generalize encLok x = xs at *
  generalize rcells encLok (ins L i x) = ys at *
  generalize L.length = n at *
  obtain ⟨W1, hW1⟩ : ∃ W1, w.drew.setCells g ((i + 1) * 4) ds = W1 := ⟨_, rfl⟩
  rw [hW1] at hcp1 hcp2 HF HGR
  clear hsz hk l1 l2 hsp hone hgr hat hso hfz hcur hx hW1 h h4 h3 hlt hbg
  have hb2 : ¬ (cap = i + 1) := by omega
  have hb3 : (i : Int) ≤ (n : Int) + 1 := by omega
  have hb4 : ¬ (cap = i) := by omega
  have hin : i ≤ n := by omega
  go_enter Tryz.func68, Tryz.ntmps68
  go_wp2_with (simp only [hov])
  go_region_law? (refine step_copy_runI rfl _ _ 37 37 rfl _ _ (by simp [Act.eval, Act.put]) (by simp [Act.eval, Act.put]) (hcp1 _ _ _) ?_)
  go_wp2_with (at_builtin; refine wpList_copy_runI _ rfl _ _ 37 37 rfl _ _ rfl rfl (hcp2 _ _) ?_)
  go_ret
  exact ⟨rfl, HF.out, HGR.out⟩
set_option maxRecDepth 100000 in
set_option maxHeartbeats 1000000 in
theorem insLok_grow {base vb g cap i : Nat} (L : List Lok) (x : Lok) (w : World) (h : w.ownsRow base 42 4 (.slice (some ⟨g, 0, none⟩) L.length cap) L.length (rcells encLok L)) (hi : i < L.length) (hr : cap < L.length + 1) (hl : L.length ≤ 100000) (hb : base ≤ w.heap.size) (hx : Blk w vb (encLok x).toArray 42) :
    Calls Tryz.prog 68 #[.slice (some ⟨g, 0, none⟩) L.length cap, .int .i64 (i : Nat), .slice (some ⟨vb, 0, none⟩) 1 1] w fun e w' => ∃ v', e = .returned v' ∧ w'.ownsRow base 42 4 v' (L.length + 1) (rcells encLok (ins L i x)) ∧ w.grownBy w' (some g) ∧ From (.slice (some ⟨g, 0, none⟩) L.length cap) w v' := by
  obtain ⟨i0, hi0, hz0, hz1, hz2⟩ : ∃ i0 : TypeInfo, Tryz.prog.info? 42 = some i0 ∧ i0.zero = some (.agg #[.int .i64 0, .string ⟨#[]⟩, .bool false, .int .u64 0]) ∧ i0.size = 4 ∧ i0.bytes = 40 := ⟨_, rfl, rfl, rfl, rfl⟩
  obtain ⟨g', cap', cur, hve, hbg, hlt, hcur, h1, h2, h3, h4, hat, hso, hfz⟩ := owns_open h (by omega)
  simp only [Value.slice.injEq, Option.some.injEq, Addr.mk.injEq, and_true, true_and] at hve
  obtain ⟨rfl, rfl⟩ := hve
  have hsz : (Tryz.prog.info? 42).map (·.size) = some 4 := rfl
  have hk := encLok_len
  have l1 : (rcells encLok (L.take i)).length = i * 4 := by rw [rcells_len hk, List.length_take, Nat.min_eq_left (by omega)]
  have l2 : (rcells encLok (L.drop i)).length = (L.length - i) * 4 := by rw [rcells_len hk, List.length_drop]
  have hsp : rcells encLok L = rcells encLok (L.take i) ++ rcells encLok (L.drop i) := by rw [← rcells_append, List.take_append_drop]
  have hone := rcells_one encLok_one (L.drop i)
  have hvw := hx.lt
  obtain ⟨G, hG⟩ : ∃ G, G = grownCap w (L.length + 1) cap 42 := ⟨_, rfl⟩
  have hGn : L.length + 1 ≤ G := by rw [hG]; exact grownCap_ge w _ _ _
  have hGm : G ≤ maxLen := by rw [hG]; exact grownCap_le_maxLen w _ _ _ (by unfold maxLen; omega)
  obtain ⟨ROW, hROW⟩ : ∃ ROW : Array Value, ROW = (rcells encLok (L.take i)).toArray ++ Builtin.zeroCells (.agg #[.int .i64 0, .string ⟨#[]⟩, .bool false, .int .u64 0] : Value).cells (L.length + 1 - i) ++ Builtin.zeroCells (.agg #[.int .i64 0, .string ⟨#[]⟩, .bool false, .int .u64 0] : Value).cells (G - (L.length + 1)) := ⟨_, rfl⟩
  have hRs : ROW.size = G * 4 := by
    rw [hROW, Array.size_append, Array.size_append, size_zeroCells, size_zeroCells, List.size_toArray, l1, show (.agg #[.int .i64 0, .string ⟨#[]⟩, .bool false, .int .u64 0] : Value).cells.size = 4 from rfl]
    omega
  have hold : (Builtin.firstCells i0.size i (.slice (some ⟨g, 0, none⟩) i cap)).run Tryz.prog w.drew = .ok (rcells encLok (L.take i)).toArray w.drew := by
    rw [hz1]
    refine run_firstCells_some w.drew 4 i ⟨g, 0, none⟩ i cap _ l1 (fun j u hj => ?_)
    rw [addr_add, Nat.zero_add]
    exact hat j u (by rw [hsp, List.getElem?_append_left (List.getElem?_eq_some_iff.1 hj).1]; exact hj)
  have hkk : (L.length : Int) + 1 - (i : Int) = ((L.length + 1 - i : Nat) : Int) := by omega
  have hik : i + (L.length + 1 - i) = L.length + 1 := by omega
  have hrz : ∀ ty, (Builtin.append_ #[37, 3] ty #[.slice (some ⟨g, 0, none⟩) i cap, .int .i64 ((L.length : Int) + 1 - (i : Int))]).run Tryz.prog w =
      .ok (.slice (some ⟨w.heap.size, 0, none⟩) (L.length + 1) G) (w.drew.alloc (.cells ROW 42)) := fun ty => by
    have h := Lib.run_append_grow_zeros w 37 3 ty 42 i0 _ .i64 .i64 Tryz.underlying37 Tryz.underlying3 hi0 hz0 (some ⟨g, 0, none⟩) i cap (rcells encLok (L.take i)) hold (L.length + 1 - i) (by omega) (by omega) (by omega) (by omega) (by rw [hz2]; omega) (by rw [hz2, hik]; exact growslice_fits hr (by omega))
    rw [hik, ← hG, ← hROW] at h
    rw [hkk]
    exact h
  obtain ⟨W1, hW1⟩ : ∃ W1, W1 = w.drew.alloc (.cells ROW 42) := ⟨_, rfl⟩
  rw [← hW1] at hrz
  have hB : W1.heap[w.heap.size]? = some (.cells ROW 42 (0, 0)) := by rw [hW1]; exact heap_alloc_new w.drew _
  have hN : ∀ j, j < G * 4 → (W1.cell? ⟨w.heap.size, j, none⟩).isSome = true := fun j hj => by
    rw [cell_of_row W1 _ j ROW _ _ hB, Array.getElem?_eq_getElem (by omega)]; rfl
  have hNf : ∀ j, W1.frozen? ⟨w.heap.size, j, none⟩ = false := fun j => frozen_of_row W1 _ j ROW _ hB
  have hOb : ∀ j v, w.cell? ⟨g, j, none⟩ = some v → W1.cell? ⟨g, j, none⟩ = some v := fun j v h => by rw [hW1, World.cell?_alloc_past (w := w.drew) _ g j hlt]; exact h
  have hOv : ∀ j v, w.cell? ⟨vb, j, none⟩ = some v → W1.cell? ⟨vb, j, none⟩ = some v := fun j v h => by rw [hW1, World.cell?_alloc_past (w := w.drew) _ vb j hvw]; exact h
  have hF := inserted (W := W1.drew) (i := i) hk L x (by omega) hb hB hRs hGn hGm (fun j u hj => by
    have hj2 := (List.getElem?_eq_some_iff.1 hj).1
    show W1.cell? _ = _
    rw [cell_of_row W1 _ j ROW _ _ hB, hROW, Array.getElem?_append_left (by rw [Array.size_append, List.size_toArray]; omega), Array.getElem?_append_left (by rw [List.size_toArray]; omega), List.getElem?_toArray]
    exact hj) (.inr rfl)
  have hgr : w.grownBy ((W1.drew.setCells w.heap.size (i * 4) (encLok x)).setCells w.heap.size ((i + 1) * 4) (rcells encLok (L.drop i))) (some g) := by
    have h := grown_new (w := w.drew) (o := .cells ROW 42) (r := some g) (grown_trans (grown_drew (grown_refl _ _)) (grown_trans (grown_cells w.heap.size (encLok x) (i * 4) (w.drew.alloc (.cells ROW 42)).drew) (grown_cells w.heap.size (rcells encLok (L.drop i)) ((i + 1) * 4) _)))
    rw [← hW1] at h
    exact ⟨h.os, h.tape, h.output, h.size, h.block⟩
  have HF := Lib.hid hF
  have HGR := Lib.hid hgr
  have hcpA : ∀ (W : World), (∀ x, W.cell? x = W1.cell? x) → (∀ x, W.frozen? x = W1.frozen? x) → ∀ ty dc, (Builtin.copy_ #[37, 37] ty #[.slice (some ⟨w.heap.size, i * 4, none⟩) (L.length + 1 - i) dc, .slice (some ⟨vb, 0, none⟩) 1 1]).run Tryz.prog W = .ok (goInt 1) (W.setCells w.heap.size (i * 4) (encLok x)) := fun W hWc hWf ty dc => by
    have hm : Nat.min 1 (L.length + 1 - i) = 1 := by simp only [Nat.min_def]; split <;> omega
    have := run_copy_k (P := Tryz.prog) W 37 37 ty 42 4 w.heap.size (i * 4) (L.length + 1 - i) dc ⟨vb, 0, none⟩ 1 1 (encLok x) Tryz.underlying37 hsz (by rw [hm]; rfl)
      (fun j u hj => by rw [addr_add, Nat.zero_add, hWc]; exact hOv _ u (hx.cell (by simpa using hj)))
      (fun j hj => by rw [hWc]; exact hN _ (by rw [hk] at hj; omega)) (fun j hj => by rw [hWf]; exact hNf _) (encLok_one x)
    rwa [hm] at this
  have hgN : g ≠ w.heap.size := by omega
  have hcpB : ∀ (W : World), (∀ y, W.cell? y = (W1.setCells w.heap.size (i * 4) (encLok x)).cell? y) → (∀ y, W.frozen? y = W1.frozen? y) → ∀ ty dc sc, (Builtin.copy_ #[37, 37] ty #[.slice (some ⟨w.heap.size, (i + 1) * 4, none⟩) (L.length - i) dc, .slice (some ⟨g, i * 4, none⟩) (L.length - i) sc]).run Tryz.prog W = .ok (goInt ((L.length - i : Nat) : Int)) (W.setCells w.heap.size ((i + 1) * 4) (rcells encLok (L.drop i))) := fun W hWc hWf ty dc sc => by
    have hm : Nat.min (L.length - i) (L.length - i) = L.length - i := by simp only [Nat.min_def]; split <;> omega
    have := run_copy_k (P := Tryz.prog) W 37 37 ty 42 4 w.heap.size ((i + 1) * 4) (L.length - i) dc ⟨g, i * 4, none⟩ (L.length - i) sc (rcells encLok (L.drop i)) Tryz.underlying37 hsz (by rw [hm]; exact l2)
      (fun j u hj => by
        rw [addr_add, hWc, World.cell?_setCells_out _ _ _ _ _ (fun e _ => absurd e hgN)]
        exact hOb _ u (hat _ u (by rw [hsp, List.getElem?_append_right (by omega), l1, Nat.add_sub_cancel_left]; exact hj)))
      (fun j hj => by rw [hWc]; exact isSome_setCells w.heap.size (encLok x) (i * 4) W1 (fun t ht => hN _ (by rw [hk] at ht; omega)) _ (hN _ (by omega)))
      (fun j hj => by rw [hWf]; exact hNf _) hone
    rwa [hm] at this
  subst hW1
  have hE1 : ∀ y, ((w.alloc (.cells ROW 42)).drew).cell? y = (w.drew.alloc (.cells ROW 42)).cell? y := fun y => rfl
  have hE2 : ∀ y, ((w.alloc (.cells ROW 42)).drew).frozen? y = (w.drew.alloc (.cells ROW 42)).frozen? y := fun y => rfl
  have hF1 : ∀ y, (((w.alloc (.cells ROW 42)).drew.setCells w.heap.size (i * 4) (encLok x)).drew).cell? y = ((w.drew.alloc (.cells ROW 42)).setCells w.heap.size (i * 4) (encLok x)).cell? y := fun y => rfl
  have hF2 : ∀ y, (((w.alloc (.cells ROW 42)).drew.setCells w.heap.size (i * 4) (encLok x)).drew).frozen? y = (w.drew.alloc (.cells ROW 42)).frozen? y := fun y => by
    show ((w.alloc (.cells ROW 42)).drew.setCells w.heap.size (i * 4) (encLok x)).frozen? y = _
    rw [World.frozen?_setCells]; rfl
  have hz2 : ¬ ((i : Int) = (L.length : Int)) := by omega
  have hz3 : (cap : Int) < (L.length : Int) + 1 := by omega
  have hw1 : IntKind.i64.wrap ((i : Int) + 1) = (i : Int) + 1 := by rw [IntKind.wrap_i64]; omega
  have hw2 : IntKind.i64.wrap ((L.length : Int) + 1) = (L.length : Int) + 1 := by rw [IntKind.wrap_i64]; omega
  have hw3 : IntKind.i64.wrap ((L.length : Int) + 1 - (i : Int)) = (L.length : Int) + 1 - (i : Int) := by rw [IntKind.wrap_i64]; omega
  have hb1 : (0 : Int) ≤ (i : Int) + 1 := by omega
  have htn : ((i : Int) + 1).toNat = i + 1 := by omega
  have hc63 : G ≤ 9223372036854775807 := by unfold maxLen at hGm; omega
  have hc64 : cap ≤ 9223372036854775807 := by unfold maxLen at h2; omega
  generalize rcells encLok (L.drop i) = ds at *
  generalize encLok x = xs at *
  generalize rcells encLok (ins L i x) = ys at *
  generalize rcells encLok (L.take i) = ts at *
  generalize rcells encLok L = ls at *
  generalize L.length = n at *
  clear hsz hk l1 l2 hsp hone hgr hat hso hfz hcur hx h h4 h3 hbg hF hB hN hNf hOb hOv hold hROW hRs hG hkk hik hvw
  have hb2 : ¬ (G = i + 1) := by omega
  have hb3 : (i : Int) ≤ (n : Int) := by omega
  have hb4 : ¬ (cap = i) := by omega
  have hb5 : ¬ (G = i) := by omega
  have hin : i ≤ n := by omega
  go_enter Tryz.func68, Tryz.ntmps68
  go_wp2_with (first
    | (at_builtin; refine Lib.wpList_append_run _ rfl _ _ _ _ rfl _ _ rfl rfl _ _ (hrz _) ?_)
    | (at_builtin; refine wpList_copy_runI _ rfl _ _ 37 37 rfl _ _ rfl rfl (hcpA _ hE1 hE2 _ _) ?_)
    | (at_builtin; refine wpList_copy_runI _ rfl _ _ 37 37 rfl _ _ rfl rfl (hcpA _ (fun _ => rfl) (fun _ => rfl) _ _) ?_))
  go_region_law? (refine step_copy_runI rfl _ _ 37 37 rfl (.slice (some ⟨w.heap.size, (i + 1) * 4, none⟩) (n - i) (G - (i + 1))) (.slice (some ⟨g, i * 4, none⟩) (n - i) (cap - i)) (by simp [Act.eval, Act.put]) (by simp [Act.eval, Act.put]) (hcpB _ hF1 hF2 3 (G - (i + 1)) (cap - i)) ?_)
  go_wp2
  go_ret
  rw [drew_setCells]
  refine ⟨.slice (some ⟨w.heap.size, 0, none⟩) (n + 1) G, rfl, HF.out, HGR.out, fun k e => ?_⟩
  simp [Value.ownBlock] at e
  exact .inr (by omega)
/-- slices.Insert of one element into a row that the call owns. -/
theorem insLok_any {base vb i : Nat} {v : Value} (L : List Lok) (x : Lok) (w : World) (h : w.ownsRow base 42 4 v L.length (rcells encLok L)) (hi : i ≤ L.length) (hl : L.length ≤ 100000) (hb : base ≤ w.heap.size) (hx : Blk w vb (encLok x).toArray 42) (hv : v.ownBlock ≠ some vb) :
    Calls Tryz.prog 68 #[v, .int .i64 (i : Nat), .slice (some ⟨vb, 0, none⟩) 1 1] w fun e w' => ∃ v', e = .returned v' ∧ w'.ownsRow base 42 4 v' (L.length + 1) (rcells encLok (ins L i x)) ∧ w.grownBy w' v.ownBlock ∧ From v w v' := by
  by_cases hin : i = L.length
  · subst hin
    exact insLok_end L x w h hl hb hx
  · obtain ⟨g, cap, cur, rfl, _⟩ := owns_open h (by omega)
    by_cases hr : cap < L.length + 1
    · exact insLok_grow L x w h (by omega) hr hl hb hx
    · refine (insLok_shift L x w h (by omega) (by omega) hl hx (fun e => hv (by rw [e]; rfl))).mono ?_
      rintro e w' ⟨rfl, h1, h2⟩
      exact ⟨_, rfl, h1, h2, fun k e => .inl e⟩
end Go.Proofs.YtmgpnpmdmelnkaaGreatDoor
