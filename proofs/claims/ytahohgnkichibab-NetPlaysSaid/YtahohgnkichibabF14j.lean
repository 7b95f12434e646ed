import Derived.Test.YtahohgnkichibabF14i
import Derived.WalkKit
import Derived.ProofKit
import Derived.LoopTactic
import Derived.Outline
import Derived.WalkSpells
import Derived.WalkLawsBesides
import Derived.Lib.Hide
import Derived.Deep.LoopGhost
import Derived.Deep.QuietTactic
import Derived.BigQuiet
import Derived.ShutString
import Derived.IntWalk
import Derived.Lib.MinMax
import Derived.Deep.AppendLies
import Derived.Deep.MidRow
import Derived.Deep.RegionWith
import Derived.Deep.RegionHeld3
import Derived.Deep.RegionLaw
import Derived.ArgAppend
namespace Go.Proofs.Ytahohgnkichibab
open Go.ChangeShapes Go.WideShapes Go.ChangeAt Go.RowKit
set_option linter.unusedVariables false
set_option linter.unusedSimpArgs false
open Nt
theorem zero_ways (w : World) : (zeroValue 45).run Try.prog w = .ok (.agg (Array.replicate 12 (.bool false))) w := by kernel_rfl
theorem zero_cells12 : (Builtin.zeroCells (Value.agg (Array.replicate 12 (Value.bool false))).cells (11 + 1)).toList = List.replicate 144 (Value.bool false) := by kernel_rfl
theorem heal_is {w : World} {b : Nat} {v : Value} {x : N} (h : NtIs w b v x) : NtTo b v w (Nt.heal x) (w.setCells b 2 (List.replicate 144 (.bool false))) := by
  have hg := grown_cells b (List.replicate 144 (.bool false)) 2 w
  have hlt := cell_lt h.nodes
  refine ⟨v, ⟨?_, ?_, fun i j hi hj => ?_, fun i hi => ?_, ?_, heal_ok h.ok⟩, ⟨hg.os, hg.tape, hg.output, hg.size, fun k hk hb _ => hg.block k hk (fun e => hb (by simpa using e))⟩, From.refl _ _⟩
  · rw [World.cell?_setCells_out _ _ _ _ _ (fun _ _ => Or.inl (show 0 < 2 by omega))]; exact h.nodes
  · rw [World.cell?_setCells_out _ _ _ _ _ (fun _ _ => Or.inl (show 1 < 2 by omega))]; exact h.rowv
  · have hin := World.cell?_setCells_in b (List.replicate 144 (Value.bool false)) 2 w (fun m hm => by
      have hm2 : m < 144 := by simpa using hm
      have := h.cut (m / 12) (m % 12) (by omega) (by omega)
      rw [show 2 + m / 12 * 12 + m % 12 = 2 + m by omega] at this
      rw [this]; rfl) (i * 12 + j) (by simp; omega)
    rw [show 2 + (i * 12 + j) = 2 + i * 12 + j by omega] at hin
    rw [hin]
    show (some _ : Option Value) = some (.bool false)
    rw [List.getElem_replicate]
  · rw [World.frozen?_setCells]; exact h.free i hi
  · refine h.row.kept hg ?_
    cases hv : v.ownBlock with
    | none => exact .inl rfl
    | some k => exact .inr (fun e => by have := (h.away k hv).1; simp at e; omega)
set_option maxRecDepth 100000 in
theorem heal_any {b : Nat} {v : Value} {x : N} (w : World) (h : NtIs w b v x) :
    Calls Try.prog 22 #[.pointer (some ⟨b, 0, none⟩)] w fun e w' => e = .returned (.tuple #[]) ∧ NtTo b v w (Nt.heal x) w' := by
  have HT := Lib.hid (heal_is h)
  have hclr : ∀ ty, (Builtin.clear_ #[61] ty #[.slice (some ⟨b, 2, none⟩) 12 12]).run Try.prog w = .ok (.tuple #[]) (w.setCells b 2 (List.replicate 144 (.bool false))) :=
    fun ty => run_clear_any _ _ _ ty _ Try.underlying61 zero_ways 11 _ zero_cells12 (by intro u hu; rw [List.eq_of_mem_replicate hu]; rfl) b _ _
      (fun j hj => by
        have hm2 : j < 144 := by simpa using hj
        have := h.cut (j / 12) (j % 12) (by omega) (by omega)
        rw [show 2 + j / 12 * 12 + j % 12 = 2 + j by omega] at this
        rw [this]; rfl) (fun j hj => h.free _ (by have hm2 : j < 144 := (by simpa using hj); omega))
  clear h
  generalize hL : List.replicate 144 (Value.bool false) = LR at *
  clear hL
  go_enter Try.func22, Try.ntmps22
  go_wp2_with (simp only [hclr])
  go_end0
  exact ⟨rfl, HT.out⟩
theorem wpList_append_zero {P : Program} {ops : Array Oper} {rest : List Oper} {o : Oper} {a : Act} {Q : Exit → Act → World → Prop} (w : World) (hgd : o.guard = none) (s x : Operand) (t : TypeId)
    (ho : o.op = .call { callee := .builtin .append, args := #[s, x], argTypes := #[t, t] }) (e : TypeId) (i : TypeInfo) (ht : P.underlying t = some (.slice e)) (hi : P.info? e = some i)
    (b n cap : Nat) (la : Option Addr) (c : Nat) (hs : a.eval s = .slice (some ⟨b, 0, none⟩) n cap) (hx : a.eval x = .slice la 0 c) (hn : n ≤ cap) (h : wpList P ops Q rest (a.put o.dst (.slice (some ⟨b, 0, none⟩) n cap)) w) : wpList P ops Q (o :: rest) a w :=
  wpList_plain hgd fun K hK => by
    have hrun := run_append_zero (P := P) w t o.type e i ht hi b n cap la c hn
    unfold Oper.wp
    simp [execOp, ho, resolve, invoke, builtin, hs, hx, hrun, Result.andThen]
    exact hK _ _ h
set_option maxRecDepth 100000 in
theorem sclone_any {base : Nat} {v : Value} (L : List P) (w : World) (h : w.ownsRow base 39 3 v L.length (pcells L)) (hl : L.length ≤ 4000) :
    Calls Try.prog 13 #[v] w fun e w' => ∃ v', e = .returned v' ∧ w'.ownsRow w.heap.size 39 3 v' L.length (pcells L) ∧ Gr w w' := by
  obtain ⟨i0, hi, hz0, hz1, hz2⟩ := info_parts info_packet
  have hu : ∀ (w : World) (a : Option Addr) (n c n' c' : Nat), (binOp .eql 44 (.slice a n c) (.slice none n' c')).run Try.prog w = .ok (.bool a.isNone) w := fun w a n c n' c' => Lib.run_eql_slice_nil w _ _ a n c n' c' Try.underlying44
  rcases Nat.eq_zero_or_pos L.length with h0 | h0
  · obtain rfl := List.length_eq_zero_iff.1 h0
    rcases h.2 with ⟨rfl, _⟩ | ⟨g, cap, cur, rfl, _⟩
    · clear h h0
      go_enter Try.func13, Try.ntmps13
      go_wp2
      go_ret
      exact ⟨_, rfl, World.ownsRow_nil _ _ _ _, Gr.refl _⟩
    · clear h h0
      have HM := Lib.hid (World.ownsRow_made (base := w.heap.size) (e := 39) (size := 3) w #[] 0 (Nat.le_refl _) (by unfold maxLen; omega) rfl)
      show Calls Try.prog 13 #[.slice (some ⟨g, 0, none⟩) 0 cap] w fun e w' => ∃ v', e = .returned v' ∧ w'.ownsRow w.heap.size 39 3 v' 0 [] ∧ Gr w w'
      go_enter Try.func13, Try.ntmps13
      go_wp2_with (at_builtin; go_loud (refine wpList_append_zero _ rfl (.tmp 5) (.tmp 6) 44 rfl 39 i0 Try.underlying44 hi _ 0 0 _ _ rfl rfl (Nat.le_refl _) ?_))
      go_wp2
      go_ret
      exact ⟨_, rfl, HM.out, (Gr.refl _).alloc _⟩
  · obtain ⟨g, cap, rfl, hb, hlt⟩ := h.form h0
    have hc := h.cells (g := g) rfl
    have HM := Lib.hid (World.ownsRow_made (base := w.heap.size) (e := 39) (size := 3) w #[] 0 (Nat.le_refl _) (by unfold maxLen; omega) rfl)
    have HC := Lib.hid (fun j u hj => ((Gr.refl w).alloc (.cells #[] 39)).cell (show w.cell? ⟨g, j, none⟩ = some u by have h1 := hc j u hj; have hadd : (⟨g, 0, none⟩ : Addr).add j = ⟨g, j, none⟩ := (by unfold Addr.add; split <;> simp_all); rw [hadd] at h1; exact h1))
    have HLL := Lib.hid (pcells_len L)
    have HON := Lib.hid (pcells_one L)
    clear h hc
    generalize L.length = ln at *
    generalize pcells L = cs at *
    go_enter Try.func13, Try.ntmps13
    go_wp2_with (at_builtin; go_loud (refine wpList_append_lies _ rfl (.tmp 5) (.tmp 6) 44 rfl w.heap.size 39 i0 (.agg #[.int .i64 0, .int .i64 0, .string ⟨#[]⟩]) 3 32 Try.underlying44 hi hz0 hz1 hz2 rfl (by decide) (.slice (some ⟨w.heap.size, 0, none⟩) 0 0) 0 [] rfl HM.out ⟨g, 0, none⟩ ln cap cs rfl HLL.out ?c1 HON.out h0 ?c3 ?c4 ?c5 _ rfl ?_))
    case c1 => intro j u hj; have h1 := HC.out j u hj; have hadd : (⟨g, 0, none⟩ : Addr).add j = ⟨g, j, none⟩ := (by unfold Addr.add; split <;> simp_all); rw [hadd]; exact h1
    case c3 => unfold maxLen; omega
    case c4 => omega
    case c5 => simp
    intro g7 cap7 w7 hown7 hgrow7 hat7 hlt7
    try simp only [Nat.zero_add, List.nil_append] at hown7
    have HG7 := Lib.hid (((Gr.refl w).alloc (.cells #[] 39)).append HM.out hgrow7)
    have HO7 := Lib.hid hown7
    clear hown7 hgrow7 hat7 hlt7
    go_wp2
    go_ret
    exact ⟨_, rfl, HO7.out, HG7.out⟩
/-- All cells of a net. -/
def ncells (x : N) (v : Value) : List Value := .int .i64 x.n :: v :: (List.range 144).map fun k => .bool (x.cut (k / 12) (k % 12))
theorem ncells_len (x : N) (v : Value) : (ncells x v).length = 146 := by simp [ncells]
theorem ncells_cut (x : N) (v : Value) (i j : Nat) (hi : i < 12) (hj : j < 12) : (ncells x v)[2 + i * 12 + j]? = some (.bool (x.cut i j)) := by
  unfold ncells
  rw [show 2 + i * 12 + j = (i * 12 + j) + 1 + 1 by omega, List.getElem?_cons_succ, List.getElem?_cons_succ, List.getElem?_map, List.getElem?_range (by omega)]
  show some (Value.bool (x.cut ((i * 12 + j) / 12) ((i * 12 + j) % 12))) = _
  rw [show (i * 12 + j) / 12 = i by omega, show (i * 12 + j) % 12 = j by omega]
theorem NtIs.range {w : World} {b : Nat} {v : Value} {x : N} (h : NtIs w b v x) : w.rangeAt b 0 (ncells x v) := fun j u hj => by
  rw [Nat.zero_add]
  match j with
  | 0 => simp [ncells] at hj; subst hj; exact h.nodes
  | 1 => simp [ncells] at hj; subst hj; exact h.rowv
  | k + 2 =>
    have hk : k < 144 := by have := (List.getElem?_eq_some_iff.1 hj).1; rw [ncells_len] at this; omega
    have h1 := ncells_cut x v (k / 12) (k % 12) (by omega) (by omega)
    rw [show 2 + k / 12 * 12 + k % 12 = k + 2 by omega] at h1
    rw [h1] at hj
    simp only [Option.some.injEq] at hj
    subst hj
    have h2 := h.cut (k / 12) (k % 12) (by omega) (by omega)
    rw [show 2 + k / 12 * 12 + k % 12 = k + 2 by omega] at h2
    exact h2
theorem ncells_one (x : N) (a : Option Addr) (n c : Nat) : ∀ u ∈ ncells x (.slice a n c), u.oneCell' = true := by
  intro u hu
  simp only [ncells, List.mem_cons, List.mem_map] at hu
  rcases hu with rfl | rfl | ⟨k, _, rfl⟩ <;> rfl
theorem info_net : (Try.prog.info? 48).map (·.size) = some 146 := by kernel_rfl
theorem net_zero_len : zcNet.size = 146 := by kernel_rfl
/-- Behind the store of all cells into a new block. -/
theorem net_stored (w : World) (x : N) (a : Option Addr) (n c : Nat) : Gr w ((w.alloc (.cells zcNet 48)).setCells w.heap.size 0 (ncells x (.slice a n c))) ∧
    ((w.alloc (.cells zcNet 48)).setCells w.heap.size 0 (ncells x (.slice a n c))).rangeAt w.heap.size 0 (ncells x (.slice a n c)) ∧
    (∀ i, ((w.alloc (.cells zcNet 48)).setCells w.heap.size 0 (ncells x (.slice a n c))).frozen? ⟨w.heap.size, i, none⟩ = false) ∧
    w.heap.size < ((w.alloc (.cells zcNet 48)).setCells w.heap.size 0 (ncells x (.slice a n c))).heap.size ∧
    (w.alloc (.cells zcNet 48)).there w.heap.size 0 146 := by
  have hb := Blk.new w zcNet 48
  have ht : (w.alloc (.cells zcNet 48)).there w.heap.size 0 146 := fun j hj => by
    rw [Nat.zero_add]
    exact ⟨by rw [cell_of_row _ w.heap.size j _ _ _ hb, Array.getElem?_eq_getElem (by rw [net_zero_len]; exact hj)]; rfl, hb.free j⟩
  have hg := grown_cells w.heap.size (ncells x (.slice a n c)) 0 (w.alloc (.cells zcNet 48))
  refine ⟨?_, World.rangeAt_setCells_same _ _ _ _ (by rw [ncells_len]; exact ht), fun i => by rw [World.frozen?_setCells]; exact hb.free i, Nat.lt_of_lt_of_le (by simp) hg.size, ht⟩
  exact Gr.of ⟨hg.os, hg.tape, hg.output, Nat.le_trans (by simp) hg.size, fun k hk => (hg.block k (by simp; omega) (by simp; omega)).trans (Below.block ((Gr.refl w).alloc _) k hk)⟩
set_option maxRecDepth 100000 in
set_option maxHeartbeats 1000000 in
theorem nclone_any {b : Nat} {v : Value} {x : N} (w : World) (h : NtIs w b v x) :
    Calls Try.prog 6 #[.pointer (some ⟨b, 0, none⟩)] w fun e w' => ∃ c v', e = .returned (.pointer (some ⟨c, 0, none⟩)) ∧ w.heap.size ≤ c ∧ NtIs w' c v' x ∧ Gr w w' := by
  obtain ⟨a, cap, rfl⟩ := h.slice
  have HR := Lib.hid h.range
  have HN := Lib.hid (net_stored w x a x.L.length cap)
  have HL := Lib.hid (ncells_len x (.slice a x.L.length cap))
  have HO := Lib.hid (ncells_one x a x.L.length cap)
  have HC := Lib.hid fun i j hi hj => ncells_cut x (.slice a x.L.length cap) i j hi hj
  have H0 := Lib.hid (show (ncells x (.slice a x.L.length cap))[0]? = some (.int .i64 x.n) from rfl)
  have H := Lib.hid h
  have HS := Lib.hid fun (w : World) (h : w.ownsRow (b + 1) 39 3 (.slice a x.L.length cap) x.L.length (pcells x.L)) => sclone_any x.L w h H.out.ok.l
  have c1 := h.rowv
  have hbl := cell_lt h.nodes
  have f1 := h.free 1
  clear h
  generalize hln : x.L.length = ln at *
  have HLN := Lib.hid hln
  clear hln
  have HU := Lib.hid Try.underlying48
  generalize hcs : ncells x (.slice a ln cap) = cs at *
  have HCS := Lib.hid hcs
  clear hcs
  obtain ⟨W2, hW2⟩ : ∃ W2, (w.alloc (.cells zcNet 48)).setCells w.heap.size 0 cs = W2 := ⟨_, rfl⟩
  have hst : (storeCells ⟨w.heap.size, 0, none⟩ cs).run Try.prog (w.alloc (.cells zcNet 48)) = .ok () W2 := by
    have ht := HN.out.2.2.2.2
    have := run_storeCells_cells (P := Try.prog) w.heap.size 0 cs 0 (w.alloc (.cells zcNet 48)) (fun j hj => by have := (ht j (by rw [HL.out] at hj; exact hj)).1; simpa using this) (fun j hj => by have := (ht j (by rw [HL.out] at hj; exact hj)).2; (first | exact this | (simp at this ⊢; done) | simp | simpa using this)) HO.out
    rw [← hW2]
    simpa using this
  obtain ⟨hg2, hr2, hf2, hl2, _⟩ := HN.out
  rw [hW2] at hg2 hr2 hf2 hl2
  clear hW2 HN
  have HG2 := Lib.hid hg2
  have HR2 := Lib.hid hr2
  have HF2 := Lib.hid hf2
  have HL2 := Lib.hid hl2
  have e1 := hg2.cell c1
  have g1 : W2.cell? ⟨w.heap.size, 1, none⟩ = some (.slice a ln cap) := by
    have := hr2 1 _ (show cs[1]? = some (.slice a ln cap) by rw [← HCS.out]; rfl)
    simpa using this
  have g2 := hf2 1
  clear hg2 hr2 hf2 hl2
  have Z1 := zcNet_run
  have Z2 := zcNet_size
  have Z3 := zcNet_ne
  generalize zcNet = zc at *
  go_enter Try.func6, Try.ntmps6
  go_wp2_with (first | (refine wpList_load_mid rfl 48 (.tmp 5) rfl b 0 rfl cs _ HR.out HU.out rfl (by rw [HL.out]; exact info_net) ?_))
  refine (HS.out _ (ownsRow_gr HG2.out (by have := H.out.row; rwa [HLN.out] at this))).mono ?_
  rintro e W3 ⟨v', rfl, ho3, hg3⟩
  obtain ⟨va, vc, rfl, hvs⟩ := ownsRow_slice ho3
  clear hvs
  have HG3 := Lib.hid hg3
  have HO3 := Lib.hid ho3
  have k1 := hg3.cell g1
  have k2 := (hg3.frozen HL2.out (o := 1)).trans g2
  clear hg3 ho3 g1 g2 e1 c1 f1 hst
  go_wp2
  go_ret
  have hrr : ∀ j u, cs[j]? = some u → j ≠ 1 → (W3.setCell ⟨w.heap.size, 1, none⟩ (.slice va ln vc)).cell? ⟨w.heap.size, j, none⟩ = some u := fun j u hj hne => by
    rw [World.cell?_setCell_other _ _ _ _ (fun e => hne (Addr.mk.inj e).2.1.symm)]
    have := HR2.out j u hj
    rw [Nat.zero_add] at this
    exact HG3.out.cell this
  refine ⟨_, .slice va ln vc, rfl, Nat.le_refl _, ⟨hrr 0 _ H0.out (by decide), ?_, fun i j hi hj => hrr _ _ (HC.out i j hi hj) (by omega), fun i hi => ?_, ?_, H.out.ok⟩, ?_⟩
  · exact World.cell?_setCell_same _ _ _ (by rw [k1])
  · rw [World.frozen?_setCell]; exact (HG3.out.frozen HL2.out (o := i)).trans (HF2.out i)
  · rw [HLN.out]
    exact (HO3.out.mono (show w.heap.size + 1 ≤ W2.heap.size from HL2.out)).kept (row := some w.heap.size) ⟨rfl, rfl, rfl, by simp [World.setCell], fun k _ hk => Below.heap_setCell _ _ _ _ (fun e => hk (by rw [e]))⟩ (.inr (fun e => by have := (HO3.out.lt _ e).1; have := HL2.out; omega))
  · exact (HG2.out.trans HG3.out).setCell (p := ⟨w.heap.size, 1, none⟩) (Nat.le_refl _) _
end Go.Proofs.Ytahohgnkichibab
