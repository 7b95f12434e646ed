import Derived.Test.YtfgkgpkaohkehaaGreatDoorK1
import Derived.WalkKit
import Derived.ProofKit
import Derived.LoopTactic
import Derived.Outline
import Derived.WalkSpells
import Derived.WalkLawsBesides
import Derived.Lib.Hide
import Derived.Deep.LoopGhost
import Derived.Deep.QuietTactic
import Derived.BigQuiet
import Derived.ShutString
import Derived.Deep.RegionHeld3
import Derived.Test.YtfgkgpkaohkehaaGreatDoorK15
import Derived.IntWalk
import Derived.Laws.OwnMore
import Derived.Deep.RegionWith
import Derived.Test.YtfgkgpkaohkehaaGreatDoorK14
import Derived.Deep.MidRow
/- A region whose last operations (the stores of 'a, b = f(a), f(b)') turn what its loads read: a condition S is kept until only those last ones are left. -/
namespace Go.Proofs.YtfgkgpkaohkehaaGreatDoor
section
variable {P : Program} {ops : Array Oper} {Q : Exit → Act → World → Prop} {md : Region.Mode} {S : World → Prop} {late : Nat → Bool}
/-- S holds behind each operation till only late ones may come up; from there on any order, without S. -/
def wpLate (P : Program) (md : Region.Mode) (ops : Array Oper) (Q : Exit → Act → World → Prop) (S : World → Prop) (late : Nat → Bool) : Nat → Array Bool → Act → World → Prop
  | 0, l, a, w => Region.ready md ops l = [] ∧ Q .normal a w
  | n + 1, l, a, w => ((∀ i ∈ Region.ready md ops l, late i = true) ∧ wpAny P md ops Q (n + 1) l a w) ∨
      ((Region.ready md ops l = [] → Q .normal a w) ∧ ∀ i ∈ Region.ready md ops l, wpOp P ops Q i (fun a' w' => S w' ∧ wpLate P md ops Q S late n (l.setIfInBounds i true) a' w') a w)
theorem wpAny_late : ∀ (n : Nat) (l : Array Bool) (a : Act) (w : World), wpLate P md ops Q S late n l a w → wpAny P md ops Q n l a w
  | 0, _, _, _, h => h
  | n + 1, _, _, _, h => by
    rcases h with h | h
    · exact h.2
    · exact ⟨h.1, fun i hi => wpOp_mono (fun a' w' h' => wpAny_late n _ a' w' h'.2) (h.2 i hi)⟩
theorem late_start {id : Nat} {a : Act} {w : World} (late : Nat → Bool) (S : World → Prop) (hm : P.follows .mixedOrders = true) (hS : S w.drew)
    (h : S w.drew → wpLate P .any ops Q S late ops.size (Array.replicate ops.size false) a w.drew) : (Code.region id ops true).wp P Q a w :=
  wp_region_any hm (wpAny_late _ _ _ _ (h hS))
/-- Does j wait for i, maybe by way of others? -/
def waitsFor (md : Region.Mode) (ops : Array Oper) (i : Nat) : Nat → Nat → Bool
  | 0, _ => false
  | n + 1, j => match ops[j]? with | some o => o.after.any (fun e => Region.binds md e && (e.on == i || waitsFor md ops i n e.on)) | none => false
def waits (md : Region.Mode) (ops : Array Oper) (late : Nat → Bool) (i : Nat) : Bool :=
  (List.range ops.size).all fun j => !late j || waitsFor md ops i 8 j
/-- Whoever has come up has waited. -/
def Closed (md : Region.Mode) (ops : Array Oper) (l : Array Bool) : Prop := ∀ k o, ops[k]? = some o → l.getD k false = true → ∀ e ∈ o.after, Region.binds md e = true → l.getD e.on false = true
def closedB (md : Region.Mode) (ops : Array Oper) (l : Array Bool) : Bool :=
  (List.range ops.size).all fun k => match ops[k]? with | some o => !l.getD k false || o.after.all (fun e => !Region.binds md e || l.getD e.on false) | none => true
theorem closed_of {l : Array Bool} (h : closedB md ops l = true) : Closed md ops l := by
  intro k o hk hl e he hb
  have := List.all_eq_true.1 h k (List.mem_range.2 (Array.getElem?_eq_some_iff.1 hk).1)
  rw [hk] at this
  simp only [hl, Bool.not_true, Bool.false_or] at this
  have h2 := Array.all_eq_true_iff_forall_mem.1 this e he
  rw [hb] at h2
  simpa using h2
theorem closed_add {l : Array Bool} {j : Nat} (h : Closed md ops l) (hj : j ∈ Region.ready md ops l) : Closed md ops (l.setIfInBounds j true) := by
  intro k o hk hl e he hb
  by_cases hjk : j = k
  · subst hjk
    obtain ⟨_, o', ho', hall⟩ := mem_ready.1 hj
    rw [hk] at ho'
    cases ho'
    exact getD_set_true (hall e he hb)
  · rw [getD_set_ne false hjk] at hl
    exact getD_set_true (h k o hk hl e he hb)
theorem waitsFor_spec {i : Nat} {l : Array Bool} (hc : Closed md ops l) : ∀ n j, waitsFor md ops i n j = true → (∀ o, ops[j]? = some o → ∀ e ∈ o.after, Region.binds md e = true → l.getD e.on false = true) → l.getD i false = true
  | 0, _, h, _ => by cases h
  | n + 1, j, h, hall => by
    unfold waitsFor at h
    cases ho : ops[j]? with
    | none => rw [ho] at h; cases h
    | some o =>
      rw [ho] at h
      obtain ⟨k, hk, hb⟩ := Array.any_eq_true.1 h
      simp only [Bool.and_eq_true, Bool.or_eq_true, beq_iff_eq] at hb
      have hl := hall o ho _ (Array.getElem_mem hk) hb.1
      rcases hb.2 with h1 | h1
      · rw [← h1]; exact hl
      · exact waitsFor_spec hc n _ h1 fun o' ho' e he hbe => hc _ o' ho' hl e he hbe
theorem waits_spec {i j : Nat} {l : Array Bool} (hc : Closed md ops l) (h : waits md ops late i = true) (hj : j ∈ Region.ready md ops l) (hl : late j = true) : l.getD i false = true := by
  obtain ⟨_, oj, hoj, hall⟩ := mem_ready.1 hj
  have := List.all_eq_true.1 h j (List.mem_range.2 (Array.getElem?_eq_some_iff.1 hoj).1)
  rw [hl] at this
  simp only [Bool.not_true, Bool.false_or] at this
  refine waitsFor_spec hc 8 j this fun o ho => ?_
  rw [hoj] at ho
  cases ho
  exact hall
theorem late_first {i : Nat} {oi : Oper} {v : Value} (hi : ops[i]? = some oi) (hsel : ∀ (j : Nat) (o : Oper) cs b, ops[j]? = some o → o.op ≠ .select cs b)
    (hQ : ∀ c a w, Q (.panic c) (a.put oi.dst v) w → Q (.panic c) a w) (hwait : waits md ops late i = true) :
    ∀ (n : Nat) (l : Array Bool) (a : Act) (w : World), Closed md ops l →
      (∀ j oj, ops[j]? = some oj → j ≠ i → l.getD j true = false → (∀ e ∈ oj.after, Region.binds md e = true → e.on ≠ i) → oi.apart ops oj = true) →
      i ∈ Region.ready md ops l → YieldsIf P ops S oi v a → S w →
      wpLate P md ops Q S late n (l.setIfInBounds i true) (a.put oi.dst v) w → wpLate P md ops Q S late (n + 1) l a w := by
  intro n
  have nolate : ∀ (l : Array Bool), Closed md ops l → i ∈ Region.ready md ops l → ∀ j ∈ Region.ready md ops l, late j = true → False := by
    intro l hc hr j hj hl
    have h1 := waits_spec hc hwait hj hl
    have h0 := (mem_ready.1 hr).1
    rcases Nat.lt_or_ge i l.size with h' | h'
    · simp [h'] at h0 h1; rw [h0] at h1; cases h1
    · simp [Array.getElem?_eq_none h'] at h1
  induction n with
  | zero =>
    intro l a w _ _ hr hy hS H
    refine .inr ⟨fun h => (by rw [h] at hr; cases hr), fun j hj => ?_⟩
    by_cases hji : j = i
    · subst hji; exact hy.wpOp hi hS ⟨hS, H⟩
    · have := ready_mono hj hji
      rw [H.1] at this
      cases this
  | succ n ih =>
    intro l a w hcl hfree hr hy hS H
    refine .inr ⟨fun h => (by rw [h] at hr; cases hr), fun j hj => ?_⟩
    by_cases hji : j = i
    · subst hji; exact hy.wpOp hi hS ⟨hS, H⟩
    · rcases H with ⟨hA, _⟩ | H
      · exact (nolate l hcl hr j hj (hA j (ready_mono hj hji))).elim
      · have h1 := H.2 j (ready_mono hj hji)
        obtain ⟨hjun, oj, hoj, hall⟩ := mem_ready.1 hj
        have hnot : ∀ e ∈ oj.after, Region.binds md e = true → e.on ≠ i := by
          intro e he hb heq
          have h1 := hall e he hb
          rw [heq] at h1
          have h0 := (mem_ready.1 hr).1
          rcases Nat.lt_or_ge i l.size with h' | h'
          · simp [h'] at h0 h1; rw [h0] at h1; cases h1
          · simp [Array.getElem?_eq_none h'] at h1
        have h2 := wpOp_putIf hoj (hfree j oj hoj hji hjun hnot) (fun cs b => hsel i oi cs b hi) (fun cs b => hsel j oj cs b hoj) hQ hy h1
        refine wpOp_mono (fun a' w' h3 => ⟨h3.2.1, ih (l.setIfInBounds j true) a' w' (closed_add hcl hj) ?_ (ready_mono hr (Ne.symm hji)) h3.1 h3.2.1 ?_⟩) h2
        · intro k ok hk hki hun hno
          refine hfree k ok hk hki ?_ hno
          by_cases hjk : j = k
          · subst hjk; exact hjun
          · rw [getD_set_ne true hjk] at hun; exact hun
        · rw [Array.setIfInBounds_comm _ _ hji]
          exact h3.2.2
theorem late_take {i : Nat} {oi : Oper} {v : Value} {n : Nat} {l : Array Bool} {a : Act} {w : World} (hi : ops[i]? = some oi)
    (hs : Region.noSelect ops = true) (hf : Region.free md ops l i = true) (hr : (Region.ready md ops l).contains i = true) (hw : waits md ops late i = true) (hc : closedB md ops l = true)
    (hQ : ∀ c a w, Q (.panic c) (a.put oi.dst v) w → Q (.panic c) a w) (hy : YieldsIf P ops S oi v a) (hS : S w)
    (h : wpLate P md ops Q S late n (l.setIfInBounds i true) (a.put oi.dst v) w) : wpLate P md ops Q S late (n + 1) l a w :=
  late_first hi (Region.noSelect_spec hs) hQ hw n l a w (closed_of hc) (Region.free_spec hi hf) (by simpa using hr) hy hS h
/-- Each of these comes up next; behind it S holds. -/
def LateAll (P : Program) (md : Region.Mode) (ops : Array Oper) (Q : Exit → Act → World → Prop) (S : World → Prop) (late : Nat → Bool) (n : Nat) (l : Array Bool) (a : Act) (w : World) (rs : List Nat) : Prop :=
  ∀ i ∈ rs, wpOp P ops Q i (fun a' w' => S w' ∧ wpLate P md ops Q S late n (l.setIfInBounds i true) a' w') a w
theorem LateAll.nil {n : Nat} {l : Array Bool} {a : Act} {w : World} : LateAll P md ops Q S late n l a w [] := fun _ h => by cases h
theorem LateAll.cons {n : Nat} {l : Array Bool} {a : Act} {w : World} {i : Nat} {o : Oper} {rs : List Nat} (ho : ops[i]? = some o)
    (h : ∀ K' : Act → World → Prop, Shut (∀ a w, S w → (S w → wpLate P md ops Q S late n (l.setIfInBounds i true) a w) → K' a w) → if Region.wanted o (yielded ops a.tmps) = true then Oper.wp P o a w K' Q else K' (a.put o.dst undef) w)
    (hs : LateAll P md ops Q S late n l a w rs) : LateAll P md ops Q S late n l a w (i :: rs) := fun j hj => by
  rcases List.mem_cons.1 hj with rfl | hj
  · exact wpOp_step ho (fun K' hK => h K' (fun a w hS hW => hK a w ⟨hS, hW hS⟩))
  · exact hs j hj
theorem late_ready {rs : List Nat} {n : Nat} {l : Array Bool} {a : Act} {w : World} (hr : Region.ready md ops l = rs) (hne : rs ≠ [])
    (h : LateAll P md ops Q S late n l a w rs) : wpLate P md ops Q S late (n + 1) l a w :=
  .inr ⟨fun h0 => absurd (hr ▸ h0) hne, hr ▸ h⟩
theorem late_go {n : Nat} {l : Array Bool} {a : Act} {w : World} (hr : (Region.ready md ops l).all late = true) (h : wpAny P md ops Q (n + 1) l a w) : wpLate P md ops Q S late (n + 1) l a w :=
  .inl ⟨fun i hi => List.all_eq_true.1 hr i hi, h⟩
/-- One operation comes up next, without S. -/
theorem any_one {i : Nat} {o : Oper} {n : Nat} {l : Array Bool} {a : Act} {w : World} (hr : Region.ready md ops l = [i]) (ho : ops[i]? = some o)
    (h : ∀ K' : Act → World → Prop, Shut (∀ a w, wpAny P md ops Q n (l.setIfInBounds i true) a w → K' a w) → if Region.wanted o (yielded ops a.tmps) = true then Oper.wp P o a w K' Q else K' (a.put o.dst undef) w) : wpAny P md ops Q (n + 1) l a w := by
  refine ⟨fun h0 => (by rw [hr] at h0; cases h0), fun j hj => ?_⟩
  rw [hr, List.mem_singleton] at hj
  subst hj
  exact wpOp_step ho (fun K' hK => h K' (fun a w hW => hK a w hW))
theorem any_done {n : Nat} {l : Array Bool} {a : Act} {w : World} (hr : Region.ready md ops l = []) (h : Q .normal a w) : wpAny P md ops Q n l a w := by
  cases n with
  | zero => exact ⟨hr, h⟩
  | succ n => exact ⟨fun _ => h, fun i hi => (by rw [hr] at hi; cases hi)⟩
end
end Go.Proofs.YtfgkgpkaohkehaaGreatDoor
namespace Go.Proofs.YtfgkgpkaohkehaaGreatDoor
open Go.ChangeShapes Go.WideShapes Go.ChangeAt Go.RowKit
open Bal
set_option linter.unusedVariables false
set_option linter.unusedSimpArgs false
theorem row_off {w : World} {b base k n : Nat} {cs : Array Value} {t u : TypeId} {v : Value} {xs : List Value} (h : Blk w b cs t) (hr : w.ownsRow base u k v n xs) (hne : t ≠ u) : v.ownBlock ≠ some b := by
  rcases hr.2 with ⟨rfl, _⟩ | ⟨g, cap, cur, rfl, _, hc, _⟩
  · intro e; exact absurd e (by simp [Value.ownBlock])
  · intro e
    simp only [Value.ownBlock, Option.some.injEq] at e
    subst e
    have h1 := (show w.heap[g]? = _ from h).symm.trans hc
    simp only [Option.some.injEq, Obj.cells.injEq] at h1
    exact hne h1.2.1
def lowE (L : List E) (x : Int) : List E := L.filter fun e => decide (e.slot < x)
def hiE (L : List E) (x : Int) : List E := L.filter fun e => decide (x < e.slot)
/-- The row with an entry set. -/
def setE (L : List E) (e : E) : List E := lowE L e.slot ++ e :: hiE L e.slot
def hasE (L : List E) (x : Int) : Bool := L.any fun e => decide (e.slot = x)
def sameE (a b : E) : Bool := a.slot == b.slot && (a.c == b.c && (a.n == b.n && a.text.toList == b.text.toList))
def zeroE : E := ⟨0, 0, 0, ⟨#[]⟩⟩
def oldE (L : List E) (x : Int) : E := (L.find? fun e => decide (e.slot = x)).getD zeroE
theorem Blk.grownB {w w' : World} {b : Nat} {r : Option Nat} {cs : Array Value} {t : TypeId} (h : Blk w b cs t) (hg : w.grownBy w' r) (hne : r ≠ some b) : Blk w' b cs t := (hg.block b h.lt (fun e => hne e.symm)).trans h
theorem low_cut {L : List E} {x : Int} {i : Nat} (h : Cut16 L x i i) (hi : i ≤ L.length) : lowE L x = L.take i := by
  unfold lowE
  conv => lhs; rw [← List.take_append_drop i L]
  rw [List.filter_append]
  have h1 : (L.take i).filter (fun e => decide (e.slot < x)) = L.take i := by
    rw [List.filter_eq_self]
    intro y hy
    obtain ⟨j, hj, rfl⟩ := List.getElem_of_mem hy
    rw [List.length_take] at hj
    rw [List.getElem_take]
    exact decide_eq_true (h.lo j (by omega) (by omega))
  have h2 : (L.drop i).filter (fun e => decide (e.slot < x)) = [] := by
    rw [List.filter_eq_nil_iff]
    intro y hy
    obtain ⟨j, hj, rfl⟩ := List.getElem_of_mem hy
    rw [List.length_drop] at hj
    rw [List.getElem_drop]
    have := h.hi (i + j) (by omega) (by omega)
    simp only [decide_eq_true_eq]
    omega
  rw [h1, h2, List.append_nil]
theorem hi_cut_in {L : List E} {x : Int} {i : Nat} (ha : Asc L) (h : Cut16 L x i i) (hi : i < L.length) (hx : L[i].slot = x) : hiE L x = L.drop (i + 1) := by
  unfold hiE
  conv => lhs; rw [← List.take_append_drop (i + 1) L]
  rw [List.filter_append]
  have h1 : (L.take (i + 1)).filter (fun e => decide (x < e.slot)) = [] := by
    rw [List.filter_eq_nil_iff]
    intro y hy
    obtain ⟨j, hj, rfl⟩ := List.getElem_of_mem hy
    rw [List.length_take] at hj
    rw [List.getElem_take]
    simp only [decide_eq_true_eq]
    by_cases e : j = i
    · subst e; omega
    · have := h.lo j (by omega) (by omega); omega
  have h2 : (L.drop (i + 1)).filter (fun e => decide (x < e.slot)) = L.drop (i + 1) := by
    rw [List.filter_eq_self]
    intro y hy
    obtain ⟨j, hj, rfl⟩ := List.getElem_of_mem hy
    rw [List.length_drop] at hj
    rw [List.getElem_drop]
    have := ha i (i + 1 + j) hi (by omega) (by omega)
    exact decide_eq_true (by omega)
  rw [h1, h2, List.nil_append]
theorem hi_cut_out {L : List E} {x : Int} {i : Nat} (ha : Asc L) (h : Cut16 L x i i) (hi : i ≤ L.length) (hx : ¬ ∃ h : i < L.length, L[i].slot = x) : hiE L x = L.drop i := by
  unfold hiE
  conv => lhs; rw [← List.take_append_drop i L]
  rw [List.filter_append]
  have h1 : (L.take i).filter (fun e => decide (x < e.slot)) = [] := by
    rw [List.filter_eq_nil_iff]
    intro y hy
    obtain ⟨j, hj, rfl⟩ := List.getElem_of_mem hy
    rw [List.length_take] at hj
    rw [List.getElem_take]
    have := h.lo j (by omega) (by omega)
    simp only [decide_eq_true_eq]
    omega
  have h2 : (L.drop i).filter (fun e => decide (x < e.slot)) = L.drop i := by
    rw [List.filter_eq_self]
    intro y hy
    obtain ⟨j, hj, rfl⟩ := List.getElem_of_mem hy
    rw [List.length_drop] at hj
    rw [List.getElem_drop]
    have h5 := h.hi (i + j) (by omega) (by omega)
    by_cases e : j = 0
    · subst e
      have : L[i].slot ≠ x := fun e => hx ⟨by omega, e⟩
      simp only [Nat.add_zero] at h5 ⊢
      exact decide_eq_true (by omega)
    · have := ha i (i + j) (by omega) (by omega) (by omega)
      have := h.hi i (by omega) (by omega)
      exact decide_eq_true (by omega)
  rw [h1, h2, List.nil_append]
theorem has_cut {L : List E} {x : Int} {i : Nat} (ha : Asc L) (h : Cut16 L x i i) : hasE L x = true ↔ ∃ h : i < L.length, L[i].slot = x := by
  unfold hasE
  rw [List.any_eq_true]
  constructor
  · rintro ⟨y, hy, e⟩
    have e := of_decide_eq_true e
    obtain ⟨j, hj, rfl⟩ := List.getElem_of_mem hy
    have h1 : i ≤ j := by
      by_cases hji : j < i
      · have := h.lo j hj hji; omega
      · omega
    have h2 : i < L.length := by omega
    refine ⟨h2, ?_⟩
    have := h.hi i h2 (by omega)
    by_cases e2 : i = j
    · subst e2; exact e
    · have := ha i j h2 hj (by omega); omega
  · rintro ⟨h1, e⟩
    exact ⟨L[i], List.getElem_mem h1, decide_eq_true e⟩
theorem old_in {L : List E} {x : Int} {i : Nat} (ha : Asc L) (hi : i < L.length) (hx : L[i].slot = x) : oldE L x = L[i] := by
  unfold oldE
  cases hf : L.find? fun e => decide (e.slot = x) with
  | none =>
    rw [List.find?_eq_none] at hf
    exact absurd (decide_eq_true hx) (hf _ (List.getElem_mem hi))
  | some y =>
    have h1 := List.find?_some hf
    have h2 := List.mem_of_find?_eq_some hf
    obtain ⟨j, hj, rfl⟩ := List.getElem_of_mem h2
    have h1 := of_decide_eq_true h1
    by_cases e : i = j
    · subst e; rfl
    · rcases Nat.lt_or_gt_of_ne e with h | h
      · have := ha i j hi hj h; omega
      · have := ha j i hj hi h; omega
theorem old_out {L : List E} {x : Int} (h : hasE L x = false) : oldE L x = zeroE := by
  unfold oldE
  rw [List.find?_eq_none.2]
  · rfl
  · intro y hy e
    have : hasE L x = true := List.any_eq_true.2 ⟨y, hy, e⟩
    rw [h] at this
    exact absurd this (by simp)
theorem set_cut_in {L : List E} {e : E} {i : Nat} (ha : Asc L) (h : Cut16 L e.slot i i) (hi : i < L.length) (hx : L[i].slot = e.slot) : setE L e = L.set i e := by
  unfold setE
  rw [low_cut h (by omega), hi_cut_in ha h hi hx, List.set_eq_take_append_cons_drop, if_pos hi]
theorem set_cut_out {L : List E} {e : E} {i : Nat} (ha : Asc L) (h : Cut16 L e.slot i i) (hi : i ≤ L.length) (hx : ¬ ∃ h : i < L.length, L[i].slot = e.slot) : setE L e = (ins L i zeroE).set i e := by
  unfold setE ins
  rw [low_cut h hi, hi_cut_out ha h hi hx]
  have hl : (L.take i).length = i := by rw [List.length_take]; omega
  rw [List.set_append_right _ _ (by omega), hl, Nat.sub_self]
  rfl
theorem asc_set {L : List E} (ha : Asc L) (e : E) : Asc (setE L e) := by
  have h0 : L.Pairwise fun a b => a.slot < b.slot := List.pairwise_iff_getElem.2 fun i j hi hj hij => ha i j hi hj hij
  have h1 : (setE L e).Pairwise fun a b => a.slot < b.slot := by
    unfold setE
    rw [List.pairwise_append, List.pairwise_cons]
    refine ⟨h0.filter _, ⟨fun y hy => ?_, h0.filter _⟩, fun a h1 c h2 => ?_⟩
    · exact of_decide_eq_true (List.mem_filter.1 hy).2
    · have h1 := of_decide_eq_true (List.mem_filter.1 h1).2
      rcases List.mem_cons.1 h2 with rfl | h2
      · exact h1
      · have h2 := of_decide_eq_true (List.mem_filter.1 h2).2
        omega
  exact fun p q hp hq hpq => List.pairwise_iff_getElem.1 h1 p q hp hq hpq
theorem rcells_set4 (L : List E) (e : E) : ∀ i, i < L.length → rcells encE (L.set i e) = ((((rcells encE L).set (i * 4) (.int .i64 e.slot)).set (i * 4 + 1) (.int .u64 e.c)).set (i * 4 + 2) (.int .i64 e.n)).set (i * 4 + 3) (.string e.text) := by
  induction L with
  | nil => intro i h; exact absurd h (by simp)
  | cons y r ih =>
    intro i h
    cases i with
    | zero => rfl
    | succ i =>
      rw [List.set_cons_succ, rcells_cons, rcells_cons, ih i (by simpa using h)]
      have hl : (encE y).length = 4 := rfl
      rw [show (i + 1) * 4 = 4 + i * 4 by omega, show 4 + i * 4 + 1 = 4 + (i * 4 + 1) by omega, show 4 + i * 4 + 2 = 4 + (i * 4 + 2) by omega, show 4 + i * 4 + 3 = 4 + (i * 4 + 3) by omega]
      simp only [encE, List.cons_append, List.nil_append]
      simp only [Nat.add_comm 4, List.set_cons_succ, show ∀ n, n + 4 = n + 1 + 1 + 1 + 1 from fun _ => rfl]
theorem Far.cells4 {b g m cap : Nat} {v : Value} {w w' : World} (h : Far b v w w') (hf : From v w (.slice (some ⟨g, 0, none⟩) m cap)) (o : Nat) (x0 x1 x2 x3 : Value) :
    Far b v w ((((w'.setCell ⟨g, o, none⟩ x0).setCell ⟨g, o + 1, none⟩ x1).setCell ⟨g, o + 2, none⟩ x2).setCell ⟨g, o + 3, none⟩ x3) := by
  refine h.trans hf ⟨rfl, rfl, rfl, by simp [World.setCell], fun k hk hb hv => ?_⟩
  have hg : k ≠ g := fun e => hv (by rw [e]; rfl)
  rw [Below.heap_setCell _ _ _ _ hg, Below.heap_setCell _ _ _ _ hg, Below.heap_setCell _ _ _ _ hg, Below.heap_setCell _ _ _ _ hg]
/-- Whatever lies beside an acceptor's block and its row has not turned. -/
theorem stored4 {w : World} {base g m cap i : Nat} {M : List E} (e : E) (h : w.ownsRow base 74 4 (.slice (some ⟨g, 0, none⟩) m cap) m (rcells encE M)) (hm : m = M.length) (hi : i < m) :
    ((((w.setCell ⟨g, i * 4, none⟩ (.int .i64 e.slot)).setCell ⟨g, i * 4 + 1, none⟩ (.int .u64 e.c)).setCell ⟨g, i * 4 + 2, none⟩ (.int .i64 e.n)).setCell ⟨g, i * 4 + 3, none⟩ (.string e.text)).ownsRow base 74 4 (.slice (some ⟨g, 0, none⟩) m cap) m (rcells encE (M.set i e)) := by
  rw [rcells_set4 M e i (by omega)]
  exact ((((h.stored (i * 4) _).1.stored (i * 4 + 1) _).1.stored (i * 4 + 2) _).1.stored (i * 4 + 3) _).1
end Go.Proofs.YtfgkgpkaohkehaaGreatDoor
namespace Go.Proofs.YtfgkgpkaohkehaaGreatDoor
open Go.ChangeShapes Go.WideShapes Go.ChangeAt Go.RowKit
set_option linter.unusedVariables false
set_option linter.unusedSimpArgs false
/-- A store of a whole value into a block of as many cells, behind a letter. -/
theorem blk_put {w : World} {c : Nat} {cur : Array Value} {t : TypeId} (h : Blk w c cur t) (R : Array Value) (hs : cur.size = R.size) (h1 : ∀ v ∈ R.toList, v.oneCell' = true) :
    ∃ ms : List Value, Value.agg R = Value.agg ms.toArray ∧ ms.toArray.size = R.size ∧ w.there c 0 ms.toArray.size ∧ ms.toArray.all (·.oneCell') = true ∧ w.grownBy (w.setCells c 0 ms) (some c) ∧ Blk (w.setCells c 0 ms) c R t := by
  have hsz : ∀ j, j < R.toList.length → (w.cell? ⟨c, 0 + j, none⟩).isSome = true := fun j hj => by
    rw [Nat.zero_add, h.cell (i := j) (Array.getElem?_eq_getElem (by rw [Array.length_toList] at hj; omega))]; rfl
  refine ⟨R.toList, by simp, by simp, fun j hj => ?_, all_oneCell_toArray h1, grown_cells c R.toList 0 w, ?_⟩
  · exact ⟨hsz j (by simpa using hj), h.free _⟩
  · obtain ⟨c2, hc2, z2⟩ := heap_setCells R.toList 0 w cur h
    have e : c2 = R := by
      apply Array.ext (by omega)
      intro i h2 h3
      have h4 := World.cell?_setCells_in c R.toList 0 w hsz i (by rw [Array.length_toList]; exact h3)
      rw [Nat.zero_add, cell_of_row _ c i c2 _ _ hc2, Array.getElem?_eq_getElem h2] at h4
      simpa using h4
    rw [e] at hc2
    exact hc2
theorem blk_store {P : Program} {w : World} {c : Nat} {cur : Array Value} {t : TypeId} (h : Blk w c cur t) (RL : List Value) (hs : cur.size = RL.length) (h1 : ∀ v ∈ RL, v.oneCell' = true) :
    ∃ ms : List Value, RL = ms ∧ ms.length = RL.length ∧ (storeCells ⟨c, 0, none⟩ ms).run P w = .ok () (w.setCells c 0 ms) ∧ w.grownBy (w.setCells c 0 ms) (some c) ∧ Blk (w.setCells c 0 ms) c RL.toArray t := by
  obtain ⟨ms, hms, _, hT, _, hgr, hB⟩ := blk_put h RL.toArray (by simpa using hs) (by simpa using h1)
  have e : ms = RL := by simpa using hms.symm
  subst e
  refine ⟨ms, rfl, rfl, ?_, hgr, hB⟩
  have := run_storeCells_cells (P := P) c 0 ms 0 w (fun j hj => by simpa using (hT j (by simpa using hj)).1) (fun j hj => by simpa using (hT j (by simpa using hj)).2) h1
  simpa using this
theorem Blk.put_other {w : World} {b c : Nat} {cs : Array Value} {t : TypeId} {ms : List Value} (h : Blk w b cs t) (hg : w.grownBy (w.setCells c 0 ms) (some c)) (hne : b ≠ c) : Blk (w.setCells c 0 ms) b cs t := (hg.block b h.lt (fun e => hne (Option.some.inj e))).trans h
theorem gr_put {w w1 : World} {c : Nat} {ms : List Value} (h : Gr w w1) (hg : w1.grownBy (w1.setCells c 0 ms) (some c)) (hc : w.heap.size ≤ c) : Gr w (w1.setCells c 0 ms) :=
  Below.trans h ⟨hg.os, hg.tape, hg.output, hg.size, fun k hk => hg.block k (Nat.lt_of_lt_of_le hk h.size) (fun e => by have := Option.some.inj e; omega)⟩
end Go.Proofs.YtfgkgpkaohkehaaGreatDoor
