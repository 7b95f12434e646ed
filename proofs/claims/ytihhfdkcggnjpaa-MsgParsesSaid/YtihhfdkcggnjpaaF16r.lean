import Derived.Test.YtihhfdkcggnjpaaF16o
import Derived.Test.YtihhfdkcggnjpaaF16p
import Derived.Test.YtihhfdkcggnjpaaC17
import Derived.WalkKit
import Derived.ProofKit
import Derived.LoopTactic
import Derived.Outline
import Derived.WalkSpells
import Derived.WalkLawsBesides
import Derived.Lib.Hide
import Derived.Deep.LoopGhost
import Derived.Deep.QuietTactic
import Derived.BigQuiet
import Derived.ShutString
import Derived.IntWalk
import Derived.Laws.OwnMore
import Derived.Deep.RegionWith
import Derived.Deep.RegionHeld3
namespace Go.Proofs.Ytihhfdkcggnjpaa
open Go.ChangeShapes Go.WideShapes Go.ChangeAt Go.RowKit
open Bal
set_option linter.unusedVariables false
set_option linter.unusedSimpArgs false
theorem row_off {w : World} {b base k n : Nat} {cs : Array Value} {t u : TypeId} {v : Value} {xs : List Value} (h : Blk w b cs t) (hr : w.ownsRow base u k v n xs) (hne : t ≠ u) : v.ownBlock ≠ some b := by
  rcases hr.2 with ⟨rfl, _⟩ | ⟨g, cap, cur, rfl, _, hc, _⟩
  · intro e; exact absurd e (by simp [Value.ownBlock])
  · intro e
    simp only [Value.ownBlock, Option.some.injEq] at e
    subst e
    have h1 := (show w.heap[g]? = _ from h).symm.trans hc
    simp only [Option.some.injEq, Obj.cells.injEq] at h1
    exact hne h1.2.1
def lowE (L : List E) (x : Int) : List E := L.filter fun e => decide (e.slot < x)
def hiE (L : List E) (x : Int) : List E := L.filter fun e => decide (x < e.slot)
/-- The row with an entry set. -/
def setE (L : List E) (e : E) : List E := lowE L e.slot ++ e :: hiE L e.slot
def hasE (L : List E) (x : Int) : Bool := L.any fun e => decide (e.slot = x)
def sameE (a b : E) : Bool := a.slot == b.slot && (a.c == b.c && (a.n == b.n && a.text.toList == b.text.toList))
def zeroE : E := ⟨0, 0, 0, ⟨#[]⟩⟩
def oldE (L : List E) (x : Int) : E := (L.find? fun e => decide (e.slot = x)).getD zeroE
theorem Blk.grownB {w w' : World} {b : Nat} {r : Option Nat} {cs : Array Value} {t : TypeId} (h : Blk w b cs t) (hg : w.grownBy w' r) (hne : r ≠ some b) : Blk w' b cs t := (hg.block b h.lt (fun e => hne e.symm)).trans h
theorem low_cut {L : List E} {x : Int} {i : Nat} (h : Cut16 L x i i) (hi : i ≤ L.length) : lowE L x = L.take i := by
  unfold lowE
  conv => lhs; rw [← List.take_append_drop i L]
  rw [List.filter_append]
  have h1 : (L.take i).filter (fun e => decide (e.slot < x)) = L.take i := by
    rw [List.filter_eq_self]
    intro y hy
    obtain ⟨j, hj, rfl⟩ := List.getElem_of_mem hy
    rw [List.length_take] at hj
    rw [List.getElem_take]
    exact decide_eq_true (h.lo j (by omega) (by omega))
  have h2 : (L.drop i).filter (fun e => decide (e.slot < x)) = [] := by
    rw [List.filter_eq_nil_iff]
    intro y hy
    obtain ⟨j, hj, rfl⟩ := List.getElem_of_mem hy
    rw [List.length_drop] at hj
    rw [List.getElem_drop]
    have := h.hi (i + j) (by omega) (by omega)
    simp only [decide_eq_true_eq]
    omega
  rw [h1, h2, List.append_nil]
theorem hi_cut_in {L : List E} {x : Int} {i : Nat} (ha : Asc L) (h : Cut16 L x i i) (hi : i < L.length) (hx : L[i].slot = x) : hiE L x = L.drop (i + 1) := by
  unfold hiE
  conv => lhs; rw [← List.take_append_drop (i + 1) L]
  rw [List.filter_append]
  have h1 : (L.take (i + 1)).filter (fun e => decide (x < e.slot)) = [] := by
    rw [List.filter_eq_nil_iff]
    intro y hy
    obtain ⟨j, hj, rfl⟩ := List.getElem_of_mem hy
    rw [List.length_take] at hj
    rw [List.getElem_take]
    simp only [decide_eq_true_eq]
    by_cases e : j = i
    · subst e; omega
    · have := h.lo j (by omega) (by omega); omega
  have h2 : (L.drop (i + 1)).filter (fun e => decide (x < e.slot)) = L.drop (i + 1) := by
    rw [List.filter_eq_self]
    intro y hy
    obtain ⟨j, hj, rfl⟩ := List.getElem_of_mem hy
    rw [List.length_drop] at hj
    rw [List.getElem_drop]
    have := ha i (i + 1 + j) hi (by omega) (by omega)
    exact decide_eq_true (by omega)
  rw [h1, h2, List.nil_append]
theorem hi_cut_out {L : List E} {x : Int} {i : Nat} (ha : Asc L) (h : Cut16 L x i i) (hi : i ≤ L.length) (hx : ¬ ∃ h : i < L.length, L[i].slot = x) : hiE L x = L.drop i := by
  unfold hiE
  conv => lhs; rw [← List.take_append_drop i L]
  rw [List.filter_append]
  have h1 : (L.take i).filter (fun e => decide (x < e.slot)) = [] := by
    rw [List.filter_eq_nil_iff]
    intro y hy
    obtain ⟨j, hj, rfl⟩ := List.getElem_of_mem hy
    rw [List.length_take] at hj
    rw [List.getElem_take]
    have := h.lo j (by omega) (by omega)
    simp only [decide_eq_true_eq]
    omega
  have h2 : (L.drop i).filter (fun e => decide (x < e.slot)) = L.drop i := by
    rw [List.filter_eq_self]
    intro y hy
    obtain ⟨j, hj, rfl⟩ := List.getElem_of_mem hy
    rw [List.length_drop] at hj
    rw [List.getElem_drop]
    have h5 := h.hi (i + j) (by omega) (by omega)
    by_cases e : j = 0
    · subst e
      have : L[i].slot ≠ x := fun e => hx ⟨by omega, e⟩
      simp only [Nat.add_zero] at h5 ⊢
      exact decide_eq_true (by omega)
    · have := ha i (i + j) (by omega) (by omega) (by omega)
      have := h.hi i (by omega) (by omega)
      exact decide_eq_true (by omega)
  rw [h1, h2, List.nil_append]
theorem has_cut {L : List E} {x : Int} {i : Nat} (ha : Asc L) (h : Cut16 L x i i) : hasE L x = true ↔ ∃ h : i < L.length, L[i].slot = x := by
  unfold hasE
  rw [List.any_eq_true]
  constructor
  · rintro ⟨y, hy, e⟩
    have e := of_decide_eq_true e
    obtain ⟨j, hj, rfl⟩ := List.getElem_of_mem hy
    have h1 : i ≤ j := by
      by_cases hji : j < i
      · have := h.lo j hj hji; omega
      · omega
    have h2 : i < L.length := by omega
    refine ⟨h2, ?_⟩
    have := h.hi i h2 (by omega)
    by_cases e2 : i = j
    · subst e2; exact e
    · have := ha i j h2 hj (by omega); omega
  · rintro ⟨h1, e⟩
    exact ⟨L[i], List.getElem_mem h1, decide_eq_true e⟩
theorem old_in {L : List E} {x : Int} {i : Nat} (ha : Asc L) (hi : i < L.length) (hx : L[i].slot = x) : oldE L x = L[i] := by
  unfold oldE
  cases hf : L.find? fun e => decide (e.slot = x) with
  | none =>
    rw [List.find?_eq_none] at hf
    exact absurd (decide_eq_true hx) (hf _ (List.getElem_mem hi))
  | some y =>
    have h1 := List.find?_some hf
    have h2 := List.mem_of_find?_eq_some hf
    obtain ⟨j, hj, rfl⟩ := List.getElem_of_mem h2
    have h1 := of_decide_eq_true h1
    by_cases e : i = j
    · subst e; rfl
    · rcases Nat.lt_or_gt_of_ne e with h | h
      · have := ha i j hi hj h; omega
      · have := ha j i hj hi h; omega
theorem old_out {L : List E} {x : Int} (h : hasE L x = false) : oldE L x = zeroE := by
  unfold oldE
  rw [List.find?_eq_none.2]
  · rfl
  · intro y hy e
    have : hasE L x = true := List.any_eq_true.2 ⟨y, hy, e⟩
    rw [h] at this
    exact absurd this (by simp)
theorem set_cut_in {L : List E} {e : E} {i : Nat} (ha : Asc L) (h : Cut16 L e.slot i i) (hi : i < L.length) (hx : L[i].slot = e.slot) : setE L e = L.set i e := by
  unfold setE
  rw [low_cut h (by omega), hi_cut_in ha h hi hx, List.set_eq_take_append_cons_drop, if_pos hi]
theorem set_cut_out {L : List E} {e : E} {i : Nat} (ha : Asc L) (h : Cut16 L e.slot i i) (hi : i ≤ L.length) (hx : ¬ ∃ h : i < L.length, L[i].slot = e.slot) : setE L e = (ins L i zeroE).set i e := by
  unfold setE ins
  rw [low_cut h hi, hi_cut_out ha h hi hx]
  have hl : (L.take i).length = i := by rw [List.length_take]; omega
  rw [List.set_append_right _ _ (by omega), hl, Nat.sub_self]
  rfl
theorem asc_set {L : List E} (ha : Asc L) (e : E) : Asc (setE L e) := by
  have h0 : L.Pairwise fun a b => a.slot < b.slot := List.pairwise_iff_getElem.2 fun i j hi hj hij => ha i j hi hj hij
  have h1 : (setE L e).Pairwise fun a b => a.slot < b.slot := by
    unfold setE
    rw [List.pairwise_append, List.pairwise_cons]
    refine ⟨h0.filter _, ⟨fun y hy => ?_, h0.filter _⟩, fun a h1 c h2 => ?_⟩
    · exact of_decide_eq_true (List.mem_filter.1 hy).2
    · have h1 := of_decide_eq_true (List.mem_filter.1 h1).2
      rcases List.mem_cons.1 h2 with rfl | h2
      · exact h1
      · have h2 := of_decide_eq_true (List.mem_filter.1 h2).2
        omega
  exact fun p q hp hq hpq => List.pairwise_iff_getElem.1 h1 p q hp hq hpq
theorem rcells_set4 (L : List E) (e : E) : ∀ i, i < L.length → rcells encE (L.set i e) = ((((rcells encE L).set (i * 4) (.int .i64 e.slot)).set (i * 4 + 1) (.int .u64 e.c)).set (i * 4 + 2) (.int .i64 e.n)).set (i * 4 + 3) (.string e.text) := by
  induction L with
  | nil => intro i h; exact absurd h (by simp)
  | cons y r ih =>
    intro i h
    cases i with
    | zero => rfl
    | succ i =>
      rw [List.set_cons_succ, rcells_cons, rcells_cons, ih i (by simpa using h)]
      have hl : (encE y).length = 4 := rfl
      rw [show (i + 1) * 4 = 4 + i * 4 by omega, show 4 + i * 4 + 1 = 4 + (i * 4 + 1) by omega, show 4 + i * 4 + 2 = 4 + (i * 4 + 2) by omega, show 4 + i * 4 + 3 = 4 + (i * 4 + 3) by omega]
      simp only [encE, List.cons_append, List.nil_append]
      simp only [Nat.add_comm 4, List.set_cons_succ, show ∀ n, n + 4 = n + 1 + 1 + 1 + 1 from fun _ => rfl]
theorem Far.cells4 {b g m cap : Nat} {v : Value} {w w' : World} (h : Far b v w w') (hf : From v w (.slice (some ⟨g, 0, none⟩) m cap)) (o : Nat) (x0 x1 x2 x3 : Value) :
    Far b v w ((((w'.setCell ⟨g, o, none⟩ x0).setCell ⟨g, o + 1, none⟩ x1).setCell ⟨g, o + 2, none⟩ x2).setCell ⟨g, o + 3, none⟩ x3) := by
  refine h.trans hf ⟨rfl, rfl, rfl, by simp [World.setCell], fun k hk hb hv => ?_⟩
  have hg : k ≠ g := fun e => hv (by rw [e]; rfl)
  rw [Below.heap_setCell _ _ _ _ hg, Below.heap_setCell _ _ _ _ hg, Below.heap_setCell _ _ _ _ hg, Below.heap_setCell _ _ _ _ hg]
/-- Whatever lies beside an acceptor's block and its row has not turned. -/
theorem stored4 {w : World} {base g m cap i : Nat} {M : List E} (e : E) (h : w.ownsRow base 159 4 (.slice (some ⟨g, 0, none⟩) m cap) m (rcells encE M)) (hm : m = M.length) (hi : i < m) :
    ((((w.setCell ⟨g, i * 4, none⟩ (.int .i64 e.slot)).setCell ⟨g, i * 4 + 1, none⟩ (.int .u64 e.c)).setCell ⟨g, i * 4 + 2, none⟩ (.int .i64 e.n)).setCell ⟨g, i * 4 + 3, none⟩ (.string e.text)).ownsRow base 159 4 (.slice (some ⟨g, 0, none⟩) m cap) m (rcells encE (M.set i e)) := by
  rw [rcells_set4 M e i (by omega)]
  exact ((((h.stored (i * 4) _).1.stored (i * 4 + 1) _).1.stored (i * 4 + 2) _).1.stored (i * 4 + 3) _).1
set_option maxRecDepth 100000 in
set_option maxHeartbeats 4000000 in
theorem set_any {base b : Nat} {x0 x3 v x5 x6 : Value} {pc pn : Int} (e : E) (L : List E) (w : World) (h : Blk w b #[x0, .int .u64 pc, .int .i64 pn, x3, v, x5, x6] 150) (hr : w.ownsRow base 159 4 v L.length (rcells encE L)) (hl : L.length ≤ 1000) (ha : Asc L) (hb : base ≤ w.heap.size) :
    Calls Try.prog 182 #[.pointer (some ⟨b, 0, none⟩), .agg #[.int .i64 e.slot, .int .u64 e.c, .int .i64 e.n, .string e.text]] w fun r w' => ∃ v', r = .returned (.bool (!(sameE (oldE L e.slot) e))) ∧ Blk w' b #[x0, .int .u64 pc, .int .i64 pn, x3, v', x5, x6] 150 ∧ w'.ownsRow base 159 4 v' (setE L e).length (rcells encE (setE L e)) ∧ Far b v w w' ∧ From v w v' := by
  have HG := Lib.hid ((Gr.refl w).alloc (.cells #[.int .i64 e.slot, .int .u64 e.c, .int .i64 e.n, .string e.text] 159))
  have HB := Lib.hid (Blk.new w #[.int .i64 e.slot, .int .u64 e.c, .int .i64 e.n, .string e.text] 159)
  have HA := Lib.hid (h.gr HG.out)
  have HR := Lib.hid (ownsRow_gr HG.out hr)
  have hlt := h.lt
  have HVP := Lib.hid (show v.ownBlock ≠ some w.heap.size from fun e => by have := hr.lt _ e; omega)
  have HVB := Lib.hid (show v.ownBlock ≠ some b from row_off h hr (by decide))
  clear h hr
  obtain ⟨q, hq⟩ : ∃ q, q = !(sameE (oldE L e.slot) e) := ⟨_, rfl⟩
  rw [← hq]
  have HQ := Lib.hid hq
  clear hq
  go_enter Try.func182, Try.ntmps182
  go_wp2_with fail
  generalize hwa : w.alloc (.cells #[.int .i64 e.slot, .int .u64 e.c, .int .i64 e.n, .string e.text] 159) = wa at *
  have hpb : w.heap.size ≠ b := by omega
  have hsz : Hid (w.heap.size < wa.heap.size) := Lib.hid (by rw [← hwa]; simp)
  clear hwa
  generalize w.heap.size = p at *
  have c0 := HB.out.cell (i := 0) rfl
  go_wp2_with fail
  refine (find_any e.slot L _ HA.out HR.out hl ha).mono ?_
  rintro r w1 ⟨i, fd, rfl, hi, hcut, hfd, hg1⟩
  have HCUT := Lib.hid hcut
  have HFD := Lib.hid hfd
  have HASC := Lib.hid ha
  have HG1 := Lib.hid (HG.out.trans hg1)
  have HB1 := Lib.hid (HB.out.gr hg1)
  have HA1 := Lib.hid (HA.out.gr hg1)
  have HR1 := Lib.hid (ownsRow_gr hg1 HR.out)
  have HSZ1 := Lib.hid (Nat.lt_of_lt_of_le hsz.out hg1.size)
  clear HG HB HA HR hcut hfd ha hg1 c0 hsz
  cases fd
  · have HNO := Lib.hid (show ¬ ∃ h : i < L.length, L[i].slot = e.slot from fun hx => by have := HFD.out.2 hx; exact absurd this (by simp))
    have a4 := HA1.out.cell (i := 4) rfl
    have HGI := Lib.hid ((Gr.refl w1).alloc (.cells #[.int .i64 0, .int .u64 0, .int .i64 0, .string ⟨#[]⟩] 159))
    have HBI := Lib.hid (Blk.new w1 #[.int .i64 0, .int .u64 0, .int .i64 0, .string ⟨#[]⟩] 159)
    have HVI := Lib.hid (show v.ownBlock ≠ some w1.heap.size from fun e => by have := HR1.out.lt _ e; omega)
    go_wp2_with fail
    refine (insE_any L zeroE _ (ownsRow_gr HGI.out HR1.out) hi (by omega) (by have := HSZ1.out; have := HGI.out.size; omega) HBI.out HVI.out).mono ?_
    rintro r w2 ⟨v2, rfl, hr2, hg2, hf2⟩
    have HML := Lib.hid (ins_len L i zeroE hi)
    have HR2 := Lib.hid (show w2.ownsRow base 159 4 v2 (ins L i zeroE).length (rcells encE (ins L i zeroE)) by rw [HML.out]; exact hr2)
    obtain ⟨a2, n2, hv2, _⟩ := ownsRow_slice HR2.out
    subst hv2
    have HF2 := Lib.hid ((Far.of_gr (b := b) (v := v) (HG1.out.trans HGI.out)).trans (From.refl _ _) (Far.of_grown hg2))
    have HV2 := Lib.hid ((From.refl v w).trans (Nat.le_trans HG1.out.size HGI.out.size) hf2)
    have HNP := Lib.hid (show Value.ownBlock (.slice a2 (ins L i zeroE).length n2) ≠ some p from fun e => by rcases hf2 _ e with h1 | h1; exact HVP.out h1; have := HSZ1.out; have := HGI.out.size; omega)
    have HA2 := Lib.hid ((HA1.out.gr HGI.out).grownB hg2 HVB.out)
    have HB2 := Lib.hid ((HB1.out.gr HGI.out).grownB hg2 HVP.out)
    clear hr2 hg2 hf2 HGI HBI HVI HR1 HA1 HB1 HG1 a4
    have a4 := HA2.out.cell (i := 4) rfl
    have f4 := HA2.out.free 4
    have HAk := Lib.hid (HA2.out.set 4 (.slice a2 (ins L i zeroE).length n2))
    have HBk := Lib.hid (HB2.out.other hpb 4 (.slice a2 (ins L i zeroE).length n2))
    have HRk := Lib.hid (ownsRow_setCell_other (a := ⟨b, 4, none⟩) HR2.out (row_off HA2.out HR2.out (by decide)) (.slice a2 (ins L i zeroE).length n2))
    have HFk := Lib.hid (HF2.out.trans HV2.out (Far.setCell b 4 _ w2 (.slice a2 (ins L i zeroE).length n2)))
    have HSET := Lib.hid (set_cut_out HASC.out HCUT.out hi HNO.out)
    have HI := Lib.hid (show i < (ins L i zeroE).length by rw [HML.out]; omega)
    have HOLD := Lib.hid (show oldE L e.slot = (ins L i zeroE)[i]'(HI.out) by
      rw [old_out (by have := (has_cut HASC.out HCUT.out).1; cases hq : hasE L e.slot with | false => rfl | true => exact absurd (this hq) HNO.out)]
      simp [ins, List.getElem_append_right, List.length_take, Nat.min_eq_left hi])
    clear HA2 HB2 HR2 HF2 HML
    generalize ins L i zeroE = M at *
    go_wp2_with fail
    generalize w2.setCell ⟨b, 4, none⟩ (.slice a2 M.length n2) = wk at *
    clear a4 f4 HNO HFD HCUT
    obtain ⟨g, cap, cur, hv2e, hbg, hglt, _, _, _, _, _, hat, _, hfz⟩ := owns_open HRk.out (Nat.lt_of_le_of_lt (Nat.zero_le _) HI.out)
    simp only [Value.slice.injEq, true_and] at hv2e
    obtain ⟨rfl, rfl⟩ := hv2e
    have HGB := Lib.hid (show g ≠ b from fun e => row_off HAk.out HRk.out (by decide) (by rw [e]; rfl))
    have HGP := Lib.hid (show g ≠ p from fun e => HNP.out (by rw [e]; rfl))
    have k4 := HAk.out.cell (i := 4) rfl
    have e0 : wk.cell? ⟨g, i * 4, none⟩ = some (.int .i64 (M[i]'HI.out).slot) := hat _ _ (by have := rcells_at encE_len M i HI.out 0 (by omega); rw [Nat.add_zero] at this; rw [this]; rfl)
    have e1 : wk.cell? ⟨g, i * 4 + 1, none⟩ = some (.int .u64 (M[i]'HI.out).c) := hat _ _ (by rw [rcells_at encE_len M i HI.out 1 (by omega)]; rfl)
    have e2 : wk.cell? ⟨g, i * 4 + 2, none⟩ = some (.int .i64 (M[i]'HI.out).n) := hat _ _ (by rw [rcells_at encE_len M i HI.out 2 (by omega)]; rfl)
    have e3 : wk.cell? ⟨g, i * 4 + 3, none⟩ = some (.string (M[i]'HI.out).text) := hat _ _ (by rw [rcells_at encE_len M i HI.out 3 (by omega)]; rfl)
    have p0 := HBk.out.cell (i := 0) rfl
    have p1 := HBk.out.cell (i := 1) rfl
    have p2 := HBk.out.cell (i := 2) rfl
    have p3 := HBk.out.cell (i := 3) rfl
    have q0 := hfz (i * 4)
    have q1 := hfz (i * 4 + 1)
    have q2 := hfz (i * 4 + 2)
    have q3 := hfz (i * 4 + 3)
    clear hat hfz
    have HQQ := Lib.hid (show q = !(sameE (M[i]'HI.out) e) by rw [← HOLD.out]; exact HQ.out)
    clear HQ HOLD
    have him : (i : Int) < (M.length : Int) := by have := HI.out; omega
    have him2 := HI.out
    generalize hy : M[i]'HI.out = y at *
    clear hy
    generalize hmm : M.length = m at *
    have HM := Lib.hid hmm
    clear hmm
    refine wp_region_held_drew (S := (fun w9 => w9.cell? ⟨b, 4, none⟩ = some (.slice (some ⟨g, 0, none⟩) m n2) ∧ w9.cell? ⟨g, i * 4, none⟩ = some (.int .i64 y.slot) ∧ w9.cell? ⟨g, i * 4 + 1, none⟩ = some (.int .u64 y.c) ∧ w9.cell? ⟨g, i * 4 + 2, none⟩ = some (.int .i64 y.n) ∧ w9.cell? ⟨g, i * 4 + 3, none⟩ = some (.string y.text) ∧ w9.cell? ⟨p, 0, none⟩ = some (.int .i64 e.slot) ∧ w9.cell? ⟨p, 1, none⟩ = some (.int .u64 e.c) ∧ w9.cell? ⟨p, 2, none⟩ = some (.int .i64 e.n) ∧ w9.cell? ⟨p, 3, none⟩ = some (.string e.text))) (by kernel_rfl) ?inva (fun h0 => ?_)
    case inva => ((try dsimp only); (exact ⟨k4, e0, e1, e2, e3, p0, p1, p2, p3⟩))
    refine wpAnyH_take (i := 0) (oi := { dst := some 28, op := Go.Op.move (Go.Operand.tmp 0), type := 66, pos := "accept.go:133", after := #[], guard := none }) (v := ?va1) rfl (by kernel_rfl) (by kernel_rfl) (by kernel_rfl) (fun _ _ _ h => h) (Or.inl ⟨by rfl, ?ra1⟩) (by assumption) ?_
    case ra1 => (intro w hSw; (try dsimp only at hSw); (go_simp <;> with_reducible rfl))
    try simp only [Act.put, List.setIfInBounds_toArray, List.set_cons_zero, List.set_cons_succ]
    refine wpAnyH_take (i := 1) (oi := { dst := some 29, op := Go.Op.nilCheck (Go.Operand.tmp 28), type := 0, pos := "accept.go:133", after := #[{ on := 0, ground := Go.Ground.data }], guard := none }) (v := ?va2) rfl (by kernel_rfl) (by kernel_rfl) (by kernel_rfl) (fun _ _ _ h => h) (Or.inl ⟨by rfl, ?ra2⟩) (by assumption) ?_
    case ra2 => (intro w hSw; (try dsimp only at hSw); (go_simp <;> with_reducible rfl))
    try simp only [Act.put, List.setIfInBounds_toArray, List.set_cons_zero, List.set_cons_succ]
    refine wpAnyH_take (i := 2) (oi := { dst := some 30, op := Go.Op.fieldAddr 150 (Go.Operand.tmp 29) 3, type := 0, pos := "accept.go:133", after := #[{ on := 1, ground := Go.Ground.data }], guard := none }) (v := ?va3) rfl (by kernel_rfl) (by kernel_rfl) (by kernel_rfl) (fun _ _ _ h => h) (Or.inl ⟨by rfl, ?ra3⟩) (by assumption) ?_
    case ra3 => (intro w hSw; (try dsimp only at hSw); (go_simp <;> with_reducible rfl))
    try simp only [Act.put, List.setIfInBounds_toArray, List.set_cons_zero, List.set_cons_succ]
    refine wpAnyH_take (i := 3) (oi := { dst := some 31, op := Go.Op.load 67 (Go.Operand.tmp 30), type := 67, pos := "accept.go:133", after := #[{ on := 2, ground := Go.Ground.data }], guard := none }) (v := ?va4) rfl (by kernel_rfl) (by kernel_rfl) (by kernel_rfl) (fun _ _ _ h => h) (Or.inl ⟨by rfl, ?ra4⟩) (by assumption) ?_
    case ra4 => (intro w hSw; (try dsimp only at hSw); (go_simp <;> with_reducible rfl))
    try simp only [Act.put, List.setIfInBounds_toArray, List.set_cons_zero, List.set_cons_succ]
    refine wpAnyH_take (i := 4) (oi := { dst := some 32, op := Go.Op.move (Go.Operand.tmp 5), type := 3, pos := "accept.go:133", after := #[], guard := none }) (v := ?va5) rfl (by kernel_rfl) (by kernel_rfl) (by kernel_rfl) (fun _ _ _ h => h) (Or.inl ⟨by rfl, ?ra5⟩) (by assumption) ?_
    case ra5 => (intro w hSw; (try dsimp only at hSw); (go_simp <;> with_reducible rfl))
    try simp only [Act.put, List.setIfInBounds_toArray, List.set_cons_zero, List.set_cons_succ]
    refine wpAnyH_take (i := 5) (oi := { dst := some 33, op := Go.Op.indexAddr 67 (Go.Operand.tmp 31) (Go.Operand.tmp 32), type := 0, pos := "accept.go:133", after := #[{ on := 3, ground := Go.Ground.data }, { on := 4, ground := Go.Ground.data }], guard := none }) (v := ?va6) rfl (by kernel_rfl) (by kernel_rfl) (by kernel_rfl) (fun _ _ _ h => h) (Or.inl ⟨by rfl, ?ra6⟩) (by assumption) ?_
    case ra6 => (intro w hSw; (try dsimp only at hSw); (go_simp <;> with_reducible rfl))
    try simp only [Act.put, List.setIfInBounds_toArray, List.set_cons_zero, List.set_cons_succ]
    refine wpAnyH_take (i := 6) (oi := { dst := some 34, op := Go.Op.load 159 (Go.Operand.tmp 33), type := 159, pos := "accept.go:133", after := #[{ on := 5, ground := Go.Ground.data }], guard := none }) (v := ?va7) rfl (by kernel_rfl) (by kernel_rfl) (by kernel_rfl) (fun _ _ _ h => h) (Or.inl ⟨by rfl, ?ra7⟩) (by assumption) ?_
    case ra7 => (intro w hSw; (try dsimp only at hSw); (go_simp <;> with_reducible rfl))
    try simp only [Act.put, List.setIfInBounds_toArray, List.set_cons_zero, List.set_cons_succ]
    refine wpAnyH_take (i := 7) (oi := { dst := some 35, op := Go.Op.load 159 (Go.Operand.tmp 3), type := 159, pos := "accept.go:133", after := #[], guard := none }) (v := ?va8) rfl (by kernel_rfl) (by kernel_rfl) (by kernel_rfl) (fun _ _ _ h => h) (Or.inl ⟨by rfl, ?ra8⟩) (by assumption) ?_
    case ra8 => (intro w hSw; (try dsimp only at hSw); (go_simp <;> with_reducible rfl))
    try simp only [Act.put, List.setIfInBounds_toArray, List.set_cons_zero, List.set_cons_succ]
    refine wpAnyH_take (i := 8) (oi := { dst := some 36, op := Go.Op.binOp Go.BinOp.neq 159 (Go.Operand.tmp 34) (Go.Operand.tmp 35) 159, type := 4, pos := "accept.go:133", after := #[{ on := 6, ground := Go.Ground.data }, { on := 7, ground := Go.Ground.data }], guard := none }) (v := (.bool q)) rfl (by kernel_rfl) (by kernel_rfl) (by kernel_rfl) (fun _ _ _ h => h) (Or.inl ⟨by rfl, ?ra9⟩) (by assumption) ?_
    case ra9 => (intro w hSw; (try dsimp only at hSw); go_simp; rw [HQQ.out]; unfold sameE; by_cases h1 : y.slot = e.slot <;> by_cases h2 : y.c = e.c <;> by_cases h3 : y.n = e.n <;> by_cases h4 : y.text.toList = e.text.toList <;> first | (simp [h1, h2, h3, h4]; done) | exact absurd hsl h1)
    try simp only [Act.put, List.setIfInBounds_toArray, List.set_cons_zero, List.set_cons_succ]
    refine wpAnyH_take (i := 9) (oi := { dst := some 7, op := Go.Op.assign (Go.Operand.tmp 36), type := 4, pos := "accept.go:133", after := #[{ on := 8, ground := Go.Ground.data }, { on := 0, ground := Go.Ground.phase }, { on := 1, ground := Go.Ground.phase }, { on := 2, ground := Go.Ground.phase }, { on := 3, ground := Go.Ground.phase }, { on := 4, ground := Go.Ground.phase }, { on := 5, ground := Go.Ground.phase }, { on := 6, ground := Go.Ground.phase }, { on := 7, ground := Go.Ground.phase }, { on := 8, ground := Go.Ground.phase }], guard := none }) (v := ?va10) rfl (by kernel_rfl) (by kernel_rfl) (by kernel_rfl) (fun _ _ _ h => h) (Or.inl ⟨by rfl, ?ra10⟩) (by assumption) ?_
    case ra10 => (intro w hSw; (try dsimp only at hSw); (go_simp <;> with_reducible rfl))
    try simp only [Act.put, List.setIfInBounds_toArray, List.set_cons_zero, List.set_cons_succ]
    refine wpAnyH_done (by kernel_rfl) ?_ _
    have QP := Lib.hid h0
    clear h0 k4 e0 e1 e2 e3 p0 p1 p2 p3
    obtain ⟨k4, e0, e1, e2, e3, p0, p1, p2, p3⟩ := QP.out
    go_wp2_with fail
    refine late_start (fun i => decide (7 ≤ i)) (fun w9 => w9.cell? ⟨b, 4, none⟩ = some (.slice (some ⟨g, 0, none⟩) m n2) ∧ w9.cell? ⟨g, i * 4, none⟩ = some (.int .i64 y.slot) ∧ w9.cell? ⟨g, i * 4 + 1, none⟩ = some (.int .u64 y.c) ∧ w9.cell? ⟨g, i * 4 + 2, none⟩ = some (.int .i64 y.n) ∧ w9.cell? ⟨g, i * 4 + 3, none⟩ = some (.string y.text) ∧ w9.cell? ⟨p, 0, none⟩ = some (.int .i64 e.slot) ∧ w9.cell? ⟨p, 1, none⟩ = some (.int .u64 e.c) ∧ w9.cell? ⟨p, 2, none⟩ = some (.int .i64 e.n) ∧ w9.cell? ⟨p, 3, none⟩ = some (.string e.text)) (by kernel_rfl) ?invax (fun h0 => ?_)
    case invax => ((try dsimp only); (exact ⟨k4, e0, e1, e2, e3, p0, p1, p2, p3⟩))
    refine late_take (i := 0) (oi := { dst := some 37, op := Go.Op.move (Go.Operand.tmp 0), type := 66, pos := "accept.go:134", after := #[], guard := none }) (v := ?vax1) rfl (by kernel_rfl) (by kernel_rfl) (by kernel_rfl) (by kernel_rfl) (by kernel_rfl) (fun _ _ _ h => h) (Or.inl ⟨by rfl, ?rax1⟩) (by assumption) ?_
    case rax1 => (intro w hSw; (try dsimp only at hSw); (go_simp <;> with_reducible rfl))
    try simp only [Act.put, List.setIfInBounds_toArray, List.set_cons_zero, List.set_cons_succ]
    refine late_take (i := 1) (oi := { dst := some 38, op := Go.Op.nilCheck (Go.Operand.tmp 37), type := 0, pos := "accept.go:134", after := #[{ on := 0, ground := Go.Ground.data }], guard := none }) (v := ?vax2) rfl (by kernel_rfl) (by kernel_rfl) (by kernel_rfl) (by kernel_rfl) (by kernel_rfl) (fun _ _ _ h => h) (Or.inl ⟨by rfl, ?rax2⟩) (by assumption) ?_
    case rax2 => (intro w hSw; (try dsimp only at hSw); (go_simp <;> with_reducible rfl))
    try simp only [Act.put, List.setIfInBounds_toArray, List.set_cons_zero, List.set_cons_succ]
    refine late_take (i := 2) (oi := { dst := some 39, op := Go.Op.fieldAddr 150 (Go.Operand.tmp 38) 3, type := 0, pos := "accept.go:134", after := #[{ on := 1, ground := Go.Ground.data }], guard := none }) (v := ?vax3) rfl (by kernel_rfl) (by kernel_rfl) (by kernel_rfl) (by kernel_rfl) (by kernel_rfl) (fun _ _ _ h => h) (Or.inl ⟨by rfl, ?rax3⟩) (by assumption) ?_
    case rax3 => (intro w hSw; (try dsimp only at hSw); (go_simp <;> with_reducible rfl))
    try simp only [Act.put, List.setIfInBounds_toArray, List.set_cons_zero, List.set_cons_succ]
    refine late_take (i := 3) (oi := { dst := some 40, op := Go.Op.load 67 (Go.Operand.tmp 39), type := 67, pos := "accept.go:134", after := #[{ on := 2, ground := Go.Ground.data }], guard := none }) (v := ?vax4) rfl (by kernel_rfl) (by kernel_rfl) (by kernel_rfl) (by kernel_rfl) (by kernel_rfl) (fun _ _ _ h => h) (Or.inl ⟨by rfl, ?rax4⟩) (by assumption) ?_
    case rax4 => (intro w hSw; (try dsimp only at hSw); (go_simp <;> with_reducible rfl))
    try simp only [Act.put, List.setIfInBounds_toArray, List.set_cons_zero, List.set_cons_succ]
    refine late_take (i := 4) (oi := { dst := some 41, op := Go.Op.move (Go.Operand.tmp 5), type := 3, pos := "accept.go:134", after := #[], guard := none }) (v := ?vax5) rfl (by kernel_rfl) (by kernel_rfl) (by kernel_rfl) (by kernel_rfl) (by kernel_rfl) (fun _ _ _ h => h) (Or.inl ⟨by rfl, ?rax5⟩) (by assumption) ?_
    case rax5 => (intro w hSw; (try dsimp only at hSw); (go_simp <;> with_reducible rfl))
    try simp only [Act.put, List.setIfInBounds_toArray, List.set_cons_zero, List.set_cons_succ]
    refine late_take (i := 5) (oi := { dst := some 42, op := Go.Op.load 159 (Go.Operand.tmp 3), type := 159, pos := "accept.go:134", after := #[], guard := none }) (v := ?vax6) rfl (by kernel_rfl) (by kernel_rfl) (by kernel_rfl) (by kernel_rfl) (by kernel_rfl) (fun _ _ _ h => h) (Or.inl ⟨by rfl, ?rax6⟩) (by assumption) ?_
    case rax6 => (intro w hSw; (try dsimp only at hSw); (go_simp <;> with_reducible rfl))
    try simp only [Act.put, List.setIfInBounds_toArray, List.set_cons_zero, List.set_cons_succ]
    refine late_take (i := 6) (oi := { dst := some 43, op := Go.Op.indexAddr 67 (Go.Operand.tmp 40) (Go.Operand.tmp 41), type := 0, pos := "accept.go:134", after := #[{ on := 3, ground := Go.Ground.data }, { on := 4, ground := Go.Ground.data }, { on := 0, ground := Go.Ground.phase }, { on := 1, ground := Go.Ground.phase }, { on := 2, ground := Go.Ground.phase }, { on := 3, ground := Go.Ground.phase }, { on := 4, ground := Go.Ground.phase }, { on := 5, ground := Go.Ground.phase }], guard := none }) (v := ?vax7) rfl (by kernel_rfl) (by kernel_rfl) (by kernel_rfl) (by kernel_rfl) (by kernel_rfl) (fun _ _ _ h => h) (Or.inl ⟨by rfl, ?rax7⟩) (by assumption) ?_
    case rax7 => (intro w hSw; (try dsimp only at hSw); (go_simp <;> with_reducible rfl))
    try simp only [Act.put, List.setIfInBounds_toArray, List.set_cons_zero, List.set_cons_succ]
    obtain ⟨z0, z1, z2, z3, z4, z5, z6, z7, z8⟩ := h0
    have t0 : wk.cell? ⟨g, i * 4, none⟩ = some (.int .i64 y.slot) := z1
    have t1 : wk.cell? ⟨g, i * 4 + 1, none⟩ = some (.int .u64 y.c) := z2
    have t2 : wk.cell? ⟨g, i * 4 + 2, none⟩ = some (.int .i64 y.n) := z3
    have t3 : wk.cell? ⟨g, i * 4 + 3, none⟩ = some (.string y.text) := z4
    have y0 : (wk.drew.drew).frozen? ⟨g, i * 4, none⟩ = false := q0
    have y1 : (wk.drew.drew).frozen? ⟨g, i * 4 + 1, none⟩ = false := q1
    have y2 : (wk.drew.drew).frozen? ⟨g, i * 4 + 2, none⟩ = false := q2
    have y3 : (wk.drew.drew).frozen? ⟨g, i * 4 + 3, none⟩ = false := q3
    refine late_go (by kernel_rfl) ?_
    refine any_one (i := 7) (o := { dst := none, op := Go.Op.store 159 (Go.Operand.tmp 43) (Go.Operand.tmp 42), type := 0, pos := "accept.go:134", after := #[{ on := 6, ground := Go.Ground.data }, { on := 5, ground := Go.Ground.data }, { on := 0, ground := Go.Ground.phase }, { on := 1, ground := Go.Ground.phase }, { on := 2, ground := Go.Ground.phase }, { on := 3, ground := Go.Ground.phase }, { on := 4, ground := Go.Ground.phase }, { on := 5, ground := Go.Ground.phase }], guard := none }) (by kernel_rfl) rfl (fun K hK => ?_)
    go_simp
    refine hK.out _ _ ?_
    clear hK K
    try simp only [Act.put, List.setIfInBounds_toArray, List.set_cons_zero, List.set_cons_succ]
    refine any_done (by kernel_rfl) ?_
    have HRF := Lib.hid (stored4 e (show (wk.drew.drew).ownsRow base 159 4 (.slice (some ⟨g, 0, none⟩) m n2) m (rcells encE M) from HRk.out) HM.out.symm HI.out)
    have HAF := Lib.hid (((((HAk.out.gr ((Gr.refl wk).drew.drew)).other HGB.out.symm (i * 4) (.int .i64 e.slot)).other HGB.out.symm (i * 4 + 1) (.int .u64 e.c)).other HGB.out.symm (i * 4 + 2) (.int .i64 e.n)).other HGB.out.symm (i * 4 + 3) (.string e.text))
    have HFF := Lib.hid (Far.cells4 (HFk.out.trans HV2.out (Far.of_gr (Gr.refl wk).drew.drew)) HV2.out (i * 4) (.int .i64 e.slot) (.int .u64 e.c) (.int .i64 e.n) (.string e.text))
    clear z0 z1 z2 z3 z4 z5 z6 z7 z8 t0 t1 t2 t3 y0 y1 y2 y3 q0 q1 q2 q3 k4 e0 e1 e2 e3 p0 p1 p2 p3
    go_wp2
    go_ret
    rw [HSET.out, List.length_set, HM.out]
    exact ⟨_, rfl, HAF.out, HRF.out, HFF.out, HV2.out⟩

  · obtain ⟨a2, n2, hv2, _⟩ := ownsRow_slice HR1.out
    subst hv2
    obtain ⟨hil, hsl⟩ := HFD.out.1 rfl
    have HSET := Lib.hid (set_cut_in HASC.out HCUT.out hil hsl)
    have HOLD := Lib.hid (old_in HASC.out hil hsl)
    have HI := Lib.hid hil
    have HAk := HA1
    have HBk := HB1
    have HRk := HR1
    have HFk := Lib.hid (Far.of_gr (b := b) (v := (.slice a2 L.length n2)) HG1.out)
    have HV2 := Lib.hid (From.refl (.slice a2 L.length n2) w)
    have HNP := HVP
    clear HA1 HB1 HR1 HFD HCUT
    go_wp2_with fail
    obtain ⟨g, cap, cur, hv2e, hbg, hglt, _, _, _, _, _, hat, _, hfz⟩ := owns_open HRk.out (Nat.lt_of_le_of_lt (Nat.zero_le _) HI.out)
    simp only [Value.slice.injEq, true_and] at hv2e
    obtain ⟨rfl, rfl⟩ := hv2e
    have HGB := Lib.hid (show g ≠ b from fun e => row_off HAk.out HRk.out (by decide) (by rw [e]; rfl))
    have HGP := Lib.hid (show g ≠ p from fun e => HNP.out (by rw [e]; rfl))
    have k4 := HAk.out.cell (i := 4) rfl
    have e0 : w1.cell? ⟨g, i * 4, none⟩ = some (.int .i64 (L[i]'HI.out).slot) := hat _ _ (by have := rcells_at encE_len L i HI.out 0 (by omega); rw [Nat.add_zero] at this; rw [this]; rfl)
    have e1 : w1.cell? ⟨g, i * 4 + 1, none⟩ = some (.int .u64 (L[i]'HI.out).c) := hat _ _ (by rw [rcells_at encE_len L i HI.out 1 (by omega)]; rfl)
    have e2 : w1.cell? ⟨g, i * 4 + 2, none⟩ = some (.int .i64 (L[i]'HI.out).n) := hat _ _ (by rw [rcells_at encE_len L i HI.out 2 (by omega)]; rfl)
    have e3 : w1.cell? ⟨g, i * 4 + 3, none⟩ = some (.string (L[i]'HI.out).text) := hat _ _ (by rw [rcells_at encE_len L i HI.out 3 (by omega)]; rfl)
    have p0 := HBk.out.cell (i := 0) rfl
    have p1 := HBk.out.cell (i := 1) rfl
    have p2 := HBk.out.cell (i := 2) rfl
    have p3 := HBk.out.cell (i := 3) rfl
    have q0 := hfz (i * 4)
    have q1 := hfz (i * 4 + 1)
    have q2 := hfz (i * 4 + 2)
    have q3 := hfz (i * 4 + 3)
    clear hat hfz
    have HQQ := Lib.hid (show q = !(sameE (L[i]'HI.out) e) by rw [← HOLD.out]; exact HQ.out)
    clear HQ HOLD
    have him : (i : Int) < (L.length : Int) := by have := HI.out; omega
    have him2 := HI.out
    generalize hy : L[i]'HI.out = y at *
    clear hy
    generalize hmm : L.length = m at *
    have HM := Lib.hid hmm
    clear hmm
    refine wp_region_held_drew (S := (fun w9 => w9.cell? ⟨b, 4, none⟩ = some (.slice (some ⟨g, 0, none⟩) m n2) ∧ w9.cell? ⟨g, i * 4, none⟩ = some (.int .i64 y.slot) ∧ w9.cell? ⟨g, i * 4 + 1, none⟩ = some (.int .u64 y.c) ∧ w9.cell? ⟨g, i * 4 + 2, none⟩ = some (.int .i64 y.n) ∧ w9.cell? ⟨g, i * 4 + 3, none⟩ = some (.string y.text) ∧ w9.cell? ⟨p, 0, none⟩ = some (.int .i64 e.slot) ∧ w9.cell? ⟨p, 1, none⟩ = some (.int .u64 e.c) ∧ w9.cell? ⟨p, 2, none⟩ = some (.int .i64 e.n) ∧ w9.cell? ⟨p, 3, none⟩ = some (.string e.text))) (by kernel_rfl) ?invb (fun h0 => ?_)
    case invb => ((try dsimp only); (exact ⟨k4, e0, e1, e2, e3, p0, p1, p2, p3⟩))
    refine wpAnyH_take (i := 0) (oi := { dst := some 28, op := Go.Op.move (Go.Operand.tmp 0), type := 66, pos := "accept.go:133", after := #[], guard := none }) (v := ?vb1) rfl (by kernel_rfl) (by kernel_rfl) (by kernel_rfl) (fun _ _ _ h => h) (Or.inl ⟨by rfl, ?rb1⟩) (by assumption) ?_
    case rb1 => (intro w hSw; (try dsimp only at hSw); (go_simp <;> with_reducible rfl))
    try simp only [Act.put, List.setIfInBounds_toArray, List.set_cons_zero, List.set_cons_succ]
    refine wpAnyH_take (i := 1) (oi := { dst := some 29, op := Go.Op.nilCheck (Go.Operand.tmp 28), type := 0, pos := "accept.go:133", after := #[{ on := 0, ground := Go.Ground.data }], guard := none }) (v := ?vb2) rfl (by kernel_rfl) (by kernel_rfl) (by kernel_rfl) (fun _ _ _ h => h) (Or.inl ⟨by rfl, ?rb2⟩) (by assumption) ?_
    case rb2 => (intro w hSw; (try dsimp only at hSw); (go_simp <;> with_reducible rfl))
    try simp only [Act.put, List.setIfInBounds_toArray, List.set_cons_zero, List.set_cons_succ]
    refine wpAnyH_take (i := 2) (oi := { dst := some 30, op := Go.Op.fieldAddr 150 (Go.Operand.tmp 29) 3, type := 0, pos := "accept.go:133", after := #[{ on := 1, ground := Go.Ground.data }], guard := none }) (v := ?vb3) rfl (by kernel_rfl) (by kernel_rfl) (by kernel_rfl) (fun _ _ _ h => h) (Or.inl ⟨by rfl, ?rb3⟩) (by assumption) ?_
    case rb3 => (intro w hSw; (try dsimp only at hSw); (go_simp <;> with_reducible rfl))
    try simp only [Act.put, List.setIfInBounds_toArray, List.set_cons_zero, List.set_cons_succ]
    refine wpAnyH_take (i := 3) (oi := { dst := some 31, op := Go.Op.load 67 (Go.Operand.tmp 30), type := 67, pos := "accept.go:133", after := #[{ on := 2, ground := Go.Ground.data }], guard := none }) (v := ?vb4) rfl (by kernel_rfl) (by kernel_rfl) (by kernel_rfl) (fun _ _ _ h => h) (Or.inl ⟨by rfl, ?rb4⟩) (by assumption) ?_
    case rb4 => (intro w hSw; (try dsimp only at hSw); (go_simp <;> with_reducible rfl))
    try simp only [Act.put, List.setIfInBounds_toArray, List.set_cons_zero, List.set_cons_succ]
    refine wpAnyH_take (i := 4) (oi := { dst := some 32, op := Go.Op.move (Go.Operand.tmp 5), type := 3, pos := "accept.go:133", after := #[], guard := none }) (v := ?vb5) rfl (by kernel_rfl) (by kernel_rfl) (by kernel_rfl) (fun _ _ _ h => h) (Or.inl ⟨by rfl, ?rb5⟩) (by assumption) ?_
    case rb5 => (intro w hSw; (try dsimp only at hSw); (go_simp <;> with_reducible rfl))
    try simp only [Act.put, List.setIfInBounds_toArray, List.set_cons_zero, List.set_cons_succ]
    refine wpAnyH_take (i := 5) (oi := { dst := some 33, op := Go.Op.indexAddr 67 (Go.Operand.tmp 31) (Go.Operand.tmp 32), type := 0, pos := "accept.go:133", after := #[{ on := 3, ground := Go.Ground.data }, { on := 4, ground := Go.Ground.data }], guard := none }) (v := ?vb6) rfl (by kernel_rfl) (by kernel_rfl) (by kernel_rfl) (fun _ _ _ h => h) (Or.inl ⟨by rfl, ?rb6⟩) (by assumption) ?_
    case rb6 => (intro w hSw; (try dsimp only at hSw); (go_simp <;> with_reducible rfl))
    try simp only [Act.put, List.setIfInBounds_toArray, List.set_cons_zero, List.set_cons_succ]
    refine wpAnyH_take (i := 6) (oi := { dst := some 34, op := Go.Op.load 159 (Go.Operand.tmp 33), type := 159, pos := "accept.go:133", after := #[{ on := 5, ground := Go.Ground.data }], guard := none }) (v := ?vb7) rfl (by kernel_rfl) (by kernel_rfl) (by kernel_rfl) (fun _ _ _ h => h) (Or.inl ⟨by rfl, ?rb7⟩) (by assumption) ?_
    case rb7 => (intro w hSw; (try dsimp only at hSw); (go_simp <;> with_reducible rfl))
    try simp only [Act.put, List.setIfInBounds_toArray, List.set_cons_zero, List.set_cons_succ]
    refine wpAnyH_take (i := 7) (oi := { dst := some 35, op := Go.Op.load 159 (Go.Operand.tmp 3), type := 159, pos := "accept.go:133", after := #[], guard := none }) (v := ?vb8) rfl (by kernel_rfl) (by kernel_rfl) (by kernel_rfl) (fun _ _ _ h => h) (Or.inl ⟨by rfl, ?rb8⟩) (by assumption) ?_
    case rb8 => (intro w hSw; (try dsimp only at hSw); (go_simp <;> with_reducible rfl))
    try simp only [Act.put, List.setIfInBounds_toArray, List.set_cons_zero, List.set_cons_succ]
    refine wpAnyH_take (i := 8) (oi := { dst := some 36, op := Go.Op.binOp Go.BinOp.neq 159 (Go.Operand.tmp 34) (Go.Operand.tmp 35) 159, type := 4, pos := "accept.go:133", after := #[{ on := 6, ground := Go.Ground.data }, { on := 7, ground := Go.Ground.data }], guard := none }) (v := (.bool q)) rfl (by kernel_rfl) (by kernel_rfl) (by kernel_rfl) (fun _ _ _ h => h) (Or.inl ⟨by rfl, ?rb9⟩) (by assumption) ?_
    case rb9 => (intro w hSw; (try dsimp only at hSw); go_simp; rw [HQQ.out]; unfold sameE; by_cases h1 : y.slot = e.slot <;> by_cases h2 : y.c = e.c <;> by_cases h3 : y.n = e.n <;> by_cases h4 : y.text.toList = e.text.toList <;> first | (simp [h1, h2, h3, h4]; done) | exact absurd hsl h1)
    try simp only [Act.put, List.setIfInBounds_toArray, List.set_cons_zero, List.set_cons_succ]
    refine wpAnyH_take (i := 9) (oi := { dst := some 7, op := Go.Op.assign (Go.Operand.tmp 36), type := 4, pos := "accept.go:133", after := #[{ on := 8, ground := Go.Ground.data }, { on := 0, ground := Go.Ground.phase }, { on := 1, ground := Go.Ground.phase }, { on := 2, ground := Go.Ground.phase }, { on := 3, ground := Go.Ground.phase }, { on := 4, ground := Go.Ground.phase }, { on := 5, ground := Go.Ground.phase }, { on := 6, ground := Go.Ground.phase }, { on := 7, ground := Go.Ground.phase }, { on := 8, ground := Go.Ground.phase }], guard := none }) (v := ?vb10) rfl (by kernel_rfl) (by kernel_rfl) (by kernel_rfl) (fun _ _ _ h => h) (Or.inl ⟨by rfl, ?rb10⟩) (by assumption) ?_
    case rb10 => (intro w hSw; (try dsimp only at hSw); (go_simp <;> with_reducible rfl))
    try simp only [Act.put, List.setIfInBounds_toArray, List.set_cons_zero, List.set_cons_succ]
    refine wpAnyH_done (by kernel_rfl) ?_ _
    have QP := Lib.hid h0
    clear h0 k4 e0 e1 e2 e3 p0 p1 p2 p3
    obtain ⟨k4, e0, e1, e2, e3, p0, p1, p2, p3⟩ := QP.out
    go_wp2_with fail
    refine late_start (fun i => decide (7 ≤ i)) (fun w9 => w9.cell? ⟨b, 4, none⟩ = some (.slice (some ⟨g, 0, none⟩) m n2) ∧ w9.cell? ⟨g, i * 4, none⟩ = some (.int .i64 y.slot) ∧ w9.cell? ⟨g, i * 4 + 1, none⟩ = some (.int .u64 y.c) ∧ w9.cell? ⟨g, i * 4 + 2, none⟩ = some (.int .i64 y.n) ∧ w9.cell? ⟨g, i * 4 + 3, none⟩ = some (.string y.text) ∧ w9.cell? ⟨p, 0, none⟩ = some (.int .i64 e.slot) ∧ w9.cell? ⟨p, 1, none⟩ = some (.int .u64 e.c) ∧ w9.cell? ⟨p, 2, none⟩ = some (.int .i64 e.n) ∧ w9.cell? ⟨p, 3, none⟩ = some (.string e.text)) (by kernel_rfl) ?invbx (fun h0 => ?_)
    case invbx => ((try dsimp only); (exact ⟨k4, e0, e1, e2, e3, p0, p1, p2, p3⟩))
    refine late_take (i := 0) (oi := { dst := some 37, op := Go.Op.move (Go.Operand.tmp 0), type := 66, pos := "accept.go:134", after := #[], guard := none }) (v := ?vbx1) rfl (by kernel_rfl) (by kernel_rfl) (by kernel_rfl) (by kernel_rfl) (by kernel_rfl) (fun _ _ _ h => h) (Or.inl ⟨by rfl, ?rbx1⟩) (by assumption) ?_
    case rbx1 => (intro w hSw; (try dsimp only at hSw); (go_simp <;> with_reducible rfl))
    try simp only [Act.put, List.setIfInBounds_toArray, List.set_cons_zero, List.set_cons_succ]
    refine late_take (i := 1) (oi := { dst := some 38, op := Go.Op.nilCheck (Go.Operand.tmp 37), type := 0, pos := "accept.go:134", after := #[{ on := 0, ground := Go.Ground.data }], guard := none }) (v := ?vbx2) rfl (by kernel_rfl) (by kernel_rfl) (by kernel_rfl) (by kernel_rfl) (by kernel_rfl) (fun _ _ _ h => h) (Or.inl ⟨by rfl, ?rbx2⟩) (by assumption) ?_
    case rbx2 => (intro w hSw; (try dsimp only at hSw); (go_simp <;> with_reducible rfl))
    try simp only [Act.put, List.setIfInBounds_toArray, List.set_cons_zero, List.set_cons_succ]
    refine late_take (i := 2) (oi := { dst := some 39, op := Go.Op.fieldAddr 150 (Go.Operand.tmp 38) 3, type := 0, pos := "accept.go:134", after := #[{ on := 1, ground := Go.Ground.data }], guard := none }) (v := ?vbx3) rfl (by kernel_rfl) (by kernel_rfl) (by kernel_rfl) (by kernel_rfl) (by kernel_rfl) (fun _ _ _ h => h) (Or.inl ⟨by rfl, ?rbx3⟩) (by assumption) ?_
    case rbx3 => (intro w hSw; (try dsimp only at hSw); (go_simp <;> with_reducible rfl))
    try simp only [Act.put, List.setIfInBounds_toArray, List.set_cons_zero, List.set_cons_succ]
    refine late_take (i := 3) (oi := { dst := some 40, op := Go.Op.load 67 (Go.Operand.tmp 39), type := 67, pos := "accept.go:134", after := #[{ on := 2, ground := Go.Ground.data }], guard := none }) (v := ?vbx4) rfl (by kernel_rfl) (by kernel_rfl) (by kernel_rfl) (by kernel_rfl) (by kernel_rfl) (fun _ _ _ h => h) (Or.inl ⟨by rfl, ?rbx4⟩) (by assumption) ?_
    case rbx4 => (intro w hSw; (try dsimp only at hSw); (go_simp <;> with_reducible rfl))
    try simp only [Act.put, List.setIfInBounds_toArray, List.set_cons_zero, List.set_cons_succ]
    refine late_take (i := 4) (oi := { dst := some 41, op := Go.Op.move (Go.Operand.tmp 5), type := 3, pos := "accept.go:134", after := #[], guard := none }) (v := ?vbx5) rfl (by kernel_rfl) (by kernel_rfl) (by kernel_rfl) (by kernel_rfl) (by kernel_rfl) (fun _ _ _ h => h) (Or.inl ⟨by rfl, ?rbx5⟩) (by assumption) ?_
    case rbx5 => (intro w hSw; (try dsimp only at hSw); (go_simp <;> with_reducible rfl))
    try simp only [Act.put, List.setIfInBounds_toArray, List.set_cons_zero, List.set_cons_succ]
    refine late_take (i := 5) (oi := { dst := some 42, op := Go.Op.load 159 (Go.Operand.tmp 3), type := 159, pos := "accept.go:134", after := #[], guard := none }) (v := ?vbx6) rfl (by kernel_rfl) (by kernel_rfl) (by kernel_rfl) (by kernel_rfl) (by kernel_rfl) (fun _ _ _ h => h) (Or.inl ⟨by rfl, ?rbx6⟩) (by assumption) ?_
    case rbx6 => (intro w hSw; (try dsimp only at hSw); (go_simp <;> with_reducible rfl))
    try simp only [Act.put, List.setIfInBounds_toArray, List.set_cons_zero, List.set_cons_succ]
    refine late_take (i := 6) (oi := { dst := some 43, op := Go.Op.indexAddr 67 (Go.Operand.tmp 40) (Go.Operand.tmp 41), type := 0, pos := "accept.go:134", after := #[{ on := 3, ground := Go.Ground.data }, { on := 4, ground := Go.Ground.data }, { on := 0, ground := Go.Ground.phase }, { on := 1, ground := Go.Ground.phase }, { on := 2, ground := Go.Ground.phase }, { on := 3, ground := Go.Ground.phase }, { on := 4, ground := Go.Ground.phase }, { on := 5, ground := Go.Ground.phase }], guard := none }) (v := ?vbx7) rfl (by kernel_rfl) (by kernel_rfl) (by kernel_rfl) (by kernel_rfl) (by kernel_rfl) (fun _ _ _ h => h) (Or.inl ⟨by rfl, ?rbx7⟩) (by assumption) ?_
    case rbx7 => (intro w hSw; (try dsimp only at hSw); (go_simp <;> with_reducible rfl))
    try simp only [Act.put, List.setIfInBounds_toArray, List.set_cons_zero, List.set_cons_succ]
    obtain ⟨z0, z1, z2, z3, z4, z5, z6, z7, z8⟩ := h0
    have t0 : w1.cell? ⟨g, i * 4, none⟩ = some (.int .i64 y.slot) := z1
    have t1 : w1.cell? ⟨g, i * 4 + 1, none⟩ = some (.int .u64 y.c) := z2
    have t2 : w1.cell? ⟨g, i * 4 + 2, none⟩ = some (.int .i64 y.n) := z3
    have t3 : w1.cell? ⟨g, i * 4 + 3, none⟩ = some (.string y.text) := z4
    have y0 : (w1.drew.drew).frozen? ⟨g, i * 4, none⟩ = false := q0
    have y1 : (w1.drew.drew).frozen? ⟨g, i * 4 + 1, none⟩ = false := q1
    have y2 : (w1.drew.drew).frozen? ⟨g, i * 4 + 2, none⟩ = false := q2
    have y3 : (w1.drew.drew).frozen? ⟨g, i * 4 + 3, none⟩ = false := q3
    refine late_go (by kernel_rfl) ?_
    refine any_one (i := 7) (o := { dst := none, op := Go.Op.store 159 (Go.Operand.tmp 43) (Go.Operand.tmp 42), type := 0, pos := "accept.go:134", after := #[{ on := 6, ground := Go.Ground.data }, { on := 5, ground := Go.Ground.data }, { on := 0, ground := Go.Ground.phase }, { on := 1, ground := Go.Ground.phase }, { on := 2, ground := Go.Ground.phase }, { on := 3, ground := Go.Ground.phase }, { on := 4, ground := Go.Ground.phase }, { on := 5, ground := Go.Ground.phase }], guard := none }) (by kernel_rfl) rfl (fun K hK => ?_)
    go_simp
    refine hK.out _ _ ?_
    clear hK K
    try simp only [Act.put, List.setIfInBounds_toArray, List.set_cons_zero, List.set_cons_succ]
    refine any_done (by kernel_rfl) ?_
    have HRF := Lib.hid (stored4 e (show (w1.drew.drew).ownsRow base 159 4 (.slice (some ⟨g, 0, none⟩) m n2) m (rcells encE L) from HRk.out) HM.out.symm HI.out)
    have HAF := Lib.hid (((((HAk.out.gr ((Gr.refl w1).drew.drew)).other HGB.out.symm (i * 4) (.int .i64 e.slot)).other HGB.out.symm (i * 4 + 1) (.int .u64 e.c)).other HGB.out.symm (i * 4 + 2) (.int .i64 e.n)).other HGB.out.symm (i * 4 + 3) (.string e.text))
    have HFF := Lib.hid (Far.cells4 (HFk.out.trans HV2.out (Far.of_gr (Gr.refl w1).drew.drew)) HV2.out (i * 4) (.int .i64 e.slot) (.int .u64 e.c) (.int .i64 e.n) (.string e.text))
    clear z0 z1 z2 z3 z4 z5 z6 z7 z8 t0 t1 t2 t3 y0 y1 y2 y3 q0 q1 q2 q3 k4 e0 e1 e2 e3 p0 p1 p2 p3
    go_wp2
    go_ret
    rw [HSET.out, List.length_set, HM.out]
    exact ⟨_, rfl, HAF.out, HRF.out, HFF.out, HV2.out⟩

end Go.Proofs.Ytihhfdkcggnjpaa
