import Derived.Test.YtahohgnkichibabF14e
import Derived.WalkKit
import Derived.ProofKit
import Derived.LoopTactic
import Derived.Outline
import Derived.WalkSpells
import Derived.WalkLawsBesides
import Derived.Lib.Hide
import Derived.Deep.LoopGhost
import Derived.Deep.QuietTactic
import Derived.BigQuiet
import Derived.ShutString
import Derived.IntWalk
import Derived.Lib.MinMax
import Derived.Deep.AppendLies
import Derived.Deep.RegionWith
import Derived.Deep.RegionHeld3
import Derived.Deep.RegionLaw
namespace Go.Proofs.Ytahohgnkichibab
open Go.ChangeShapes Go.WideShapes Go.ChangeAt Go.RowKit
set_option linter.unusedVariables false
set_option linter.unusedSimpArgs false
open Nt
/-- The cells of ways. -/
def wcells (M : List (Int × Int)) : List Value := M.flatMap fun m => [.int .i64 m.1, .int .i64 m.2]
theorem wcells_len (M : List (Int × Int)) : (wcells M).length = M.length * 2 := by
  unfold wcells
  induction M with
  | nil => rfl
  | cons p t ih => rw [List.flatMap_cons, List.length_append, ih, List.length_cons]; simp; omega
theorem wcells_snoc (M : List (Int × Int)) (p : Int × Int) : wcells (M ++ [p]) = wcells M ++ [.int .i64 p.1, .int .i64 p.2] := by simp [wcells]
theorem wcells_one (M : List (Int × Int)) : ∀ u ∈ wcells M, u.oneCell' = true := by
  intro u hu
  simp only [wcells, List.mem_flatMap, List.mem_cons, List.not_mem_nil, or_false] at hu
  obtain ⟨p, _, h⟩ := hu
  rcases h with rfl | rfl <;> rfl
theorem wcells_at (M : List (Int × Int)) (k : Nat) (h : k < M.length) : (wcells M)[k * 2]? = some (.int .i64 M[k].1) ∧ (wcells M)[k * 2 + 1]? = some (.int .i64 M[k].2) := by
  have h1 : M = M.take k ++ (M[k] :: M.drop (k + 1)) := by rw [← List.drop_eq_getElem_cons h, List.take_append_drop]
  have h2 : wcells M = wcells (M.take k) ++ ([.int .i64 M[k].1, .int .i64 M[k].2] ++ wcells (M.drop (k + 1))) := by
    have h3 : wcells M = wcells (M.take k ++ (M[k] :: M.drop (k + 1))) := congrArg wcells h1
    rw [h3]
    simp only [wcells, List.flatMap_append, List.flatMap_cons]
  have hl : (wcells (M.take k)).length = k * 2 := by rw [wcells_len, List.length_take]; omega
  rw [h2]
  refine ⟨?_, ?_⟩
  · rw [List.getElem?_append_right (by omega), hl]; simp
  · rw [List.getElem?_append_right (by omega), hl, show k * 2 + 1 - k * 2 = 1 by omega]; simp
/-- A slice whose cells may be read. -/
def CRow (w : World) (v : Value) (n : Nat) (cs : List Value) : Prop := ∃ a cap, v = .slice a n cap ∧ (n = 0 ∨ ∃ g, a = some ⟨g, 0, none⟩ ∧ ∀ j u, cs[j]? = some u → w.cell? ⟨g, j, none⟩ = some u)
theorem CRow.gr {w w' : World} {v : Value} {n : Nat} {cs : List Value} (h : CRow w v n cs) (hg : Gr w w') : CRow w' v n cs := by
  obtain ⟨a, cap, hv, h1⟩ := h
  refine ⟨a, cap, hv, h1.imp id ?_⟩
  rintro ⟨g, ha, hc⟩
  exact ⟨g, ha, fun j u hj => hg.cell (hc j u hj)⟩
theorem CRow.far {b : Nat} {u : Value} {w w' : World} {v : Value} {n : Nat} {cs : List Value} (h : CRow w v n cs) (hf : Far b u w w') (hb : v.ownBlock ≠ some b) (hu : ∀ k, v.ownBlock = some k → u.ownBlock ≠ some k) : CRow w' v n cs := by
  obtain ⟨a, cap, rfl, h1⟩ := h
  refine ⟨a, cap, rfl, h1.imp id ?_⟩
  rintro ⟨g, rfl, hc⟩
  exact ⟨g, rfl, fun j u hj => hf.cell (fun e => hb (by rw [e]; rfl)) (hu g rfl) (hc j u hj)⟩
theorem CRow.of_owns {w : World} {base : Nat} {e : TypeId} {size n : Nat} {v : Value} {cs : List Value} (h : w.ownsRow base e size v n cs) : CRow w v n cs := by
  rcases h.2 with ⟨rfl, rfl⟩ | ⟨g, cap, cur, rfl, _⟩
  · exact ⟨none, 0, rfl, .inl rfl⟩
  · refine ⟨_, cap, rfl, .inr ⟨g, rfl, fun j u hj => ?_⟩⟩
    have hc := h.cells (g := g) rfl j u hj
    have hadd : (⟨g, 0, none⟩ : Addr).add j = ⟨g, j, none⟩ := by unfold Addr.add; split <;> simp_all
    rwa [hadd] at hc
/-- The document's net. -/
structure RfIs (w : World) (c : Nat) (rv : Value) (x : N) : Prop where
  ex : ∃ lv cv M, rv = .agg #[.int .i64 x.n, lv, cv] ∧ CRow w lv x.L.length (pcells x.L) ∧ CRow w cv M.length (wcells M) ∧ M.length ≤ c ∧ ∀ a b, decide ((a, b) ∈ M) = Nt.isCut x a b
  ok : x.Ok
theorem RfIs.gr {w w' : World} {c : Nat} {rv : Value} {x : N} (h : RfIs w c rv x) (hg : Gr w w') : RfIs w' c rv x := by
  obtain ⟨⟨lv, cv, M, h1, h2, h3, h4, h5⟩, ok⟩ := h
  exact ⟨⟨lv, cv, M, h1, h2.gr hg, h3.gr hg, h4, h5⟩, ok⟩
theorem RfIs.more {w : World} {c d : Nat} {rv : Value} {x : N} (h : RfIs w c rv x) (hd : c ≤ d) : RfIs w d rv x := by
  obtain ⟨⟨lv, cv, M, h1, h2, h3, h4, h5⟩, ok⟩ := h
  exact ⟨⟨lv, cv, M, h1, h2, h3, by omega, h5⟩, ok⟩
/-- A slice that lies nowhere, or in a block that was made between two worlds. -/
def Fresh (w w' : World) (v : Value) : Prop := ∀ k, v.ownBlock = some k → w.heap.size ≤ k ∧ k < w'.heap.size
def RowsOf (rv : Value) (Q : Value → Prop) : Prop := ∃ n lv cv, rv = .agg #[n, lv, cv] ∧ Q lv ∧ Q cv
/-- The rows of a net of the document's are off those of the program's. -/
def RfOff (w : World) (rv : Value) (b : Nat) (v : Value) : Prop := RowsOf rv fun u => ∀ k, u.ownBlock = some k → k < w.heap.size ∧ k ≠ b ∧ v.ownBlock ≠ some k
/-- Each row is an elder one, or new. -/
def RfNew (w : World) (rv : Value) (w' : World) (rv' : Value) : Prop := ∀ Q : Value → Prop, RowsOf rv Q → (∀ u, Fresh w w' u → Q u) → RowsOf rv' Q
theorem RfNew.refl (w w' : World) (rv : Value) : RfNew w rv w' rv := fun _ h _ => h
theorem RowsOf.mono {rv : Value} {Q R : Value → Prop} (h : RowsOf rv Q) (hm : ∀ u, Q u → R u) : RowsOf rv R := by
  obtain ⟨n, lv, cv, h1, h2, h3⟩ := h
  exact ⟨n, lv, cv, h1, hm _ h2, hm _ h3⟩
theorem RfOff.ref {w w' : World} {rv rv' : Value} {b : Nat} {v : Value} {x : N} (h : RfOff w rv b v) (hi : NtIs w b v x) (hn : RfNew w rv w' rv') (hg : w.heap.size ≤ w'.heap.size) : RfOff w' rv' b v := by
  refine hn _ (h.mono fun u hu k e => ⟨by have := (hu k e).1; omega, (hu k e).2⟩) fun u hu k e => ⟨(hu k e).2, ?_, fun e2 => ?_⟩
  · have := (hu k e).1; have := cell_lt hi.nodes; omega
  · have := (hu k e).1; have := hi.away k e2; omega
theorem RfOff.net {w w' : World} {rv : Value} {b : Nat} {v v' : Value} (h : RfOff w rv b v) (hf : Far b v w w') (hv : From v w v') : RfOff w' rv b v' :=
  h.mono fun u hu k e => ⟨by have := (hu k e).1; have := hf.size; omega, (hu k e).2.1, fun e2 => by
    rcases hv k e2 with h1 | h1
    · exact (hu k e).2.2 h1
    · have := (hu k e).1; omega⟩
theorem RfOff.gr {w w' : World} {rv : Value} {b : Nat} {v : Value} (h : RfOff w rv b v) (hg : Gr w w') : RfOff w' rv b v := h.mono fun u hu k e => ⟨by have := (hu k e).1; have := hg.size; omega, (hu k e).2⟩
theorem RfIs.far {b c : Nat} {v : Value} {w w' : World} {rv : Value} {x : N} (h : RfIs w c rv x) (hf : Far b v w w') (ho : RfOff w rv b v) : RfIs w' c rv x := by
  obtain ⟨⟨lv, cv, M, h1, h2, h3, h4, h5⟩, ok⟩ := h
  obtain ⟨n, lv', cv', e, ho1, ho2⟩ := ho
  rw [h1] at e
  simp only [Value.agg.injEq, Array.mk.injEq, List.cons.injEq, and_true] at e
  obtain ⟨_, rfl, rfl⟩ := e
  exact ⟨⟨lv, cv, M, h1, h2.far hf (fun e => (ho1 b e).2.1 rfl) (fun k e => (ho1 k e).2.2), h3.far hf (fun e => (ho2 b e).2.1 rfl) (fun k e => (ho2 k e).2.2), h4, h5⟩, ok⟩
set_option maxRecDepth 100000 in
theorem refIs_any (n : Nat) (la ca : Option Addr) (ln lc cn cc : Nat) (a c : Int) (w : World) :
    Calls Try.prog 27 #[.agg #[.int .i64 (n : Nat), .slice la ln lc, .slice ca cn cc], .int .i64 a, .int .i64 c] w fun e w' => e = .returned (.bool (wayB n a c)) ∧ Gr w w' := by
  generalize hq : wayB n a c = q
  have HQ := Lib.hid hq
  clear hq
  have HG := Lib.hid ((Gr.refl w).alloc (.cells #[.int .i64 (n : Nat), .slice la ln lc, .slice ca cn cc] 29))
  by_cases h0 : 0 ≤ a
  · by_cases h2 : 0 ≤ c
    · by_cases h1 : a < (n : Int)
      · by_cases h3 : c < (n : Int)
        · go_enter Try.func27, Try.ntmps27
          go_wp2
          go_ret
          exact ⟨by rw [← HQ.out]; by_cases hac : a = c <;> simp [wayB, h0, h1, h2, h3, bne, hac]; try rw [← hac]; simp [*], HG.out⟩
        · go_enter Try.func27, Try.ntmps27
          go_wp2
          go_ret
          exact ⟨by rw [← HQ.out]; simp [wayB]; omega, HG.out⟩
      · go_enter Try.func27, Try.ntmps27
        go_wp2
        go_ret
        exact ⟨by rw [← HQ.out]; simp [wayB]; omega, HG.out⟩
    · go_enter Try.func27, Try.ntmps27
      go_wp2
      go_ret
      exact ⟨by rw [← HQ.out]; simp [wayB]; omega, HG.out⟩
  · go_enter Try.func27, Try.ntmps27
    go_wp2
    go_ret
    exact ⟨by rw [← HQ.out]; simp [wayB]; omega, HG.out⟩
set_option maxRecDepth 100000 in
theorem refHas_row (n : Int) (la ca : Option Addr) (ln lc cc : Nat) (M : List (Int × Int)) (a c : Int) (w : World) (hM : CRow w (.slice ca M.length cc) M.length (wcells M)) (hl : M.length ≤ 1000000) :
    Calls Try.prog 16 #[.agg #[.int .i64 n, .slice la ln lc, .slice ca M.length cc], .int .i64 a, .int .i64 c] w fun e w' => e = .returned (.bool (decide ((a, c) ∈ M))) ∧ Gr w w' := by
  have HM := Lib.hid hM
  have HG := Lib.hid ((Gr.refl w).alloc (.cells #[.int .i64 n, .slice la ln lc, .slice ca M.length cc] 29))
  clear hM
  go_enter Try.func16, Try.ntmps16
  go_wp2
  go_loopw [12] (fun i wr => ∃ k : Nat, k ≤ M.length ∧ i = .int .i64 (k : Nat) ∧ Hid (Gr w wr) ∧ Hid (∀ j (h : j < M.length), j < k → M[j] ≠ (a, c))) (fun i _ => M.length - (intOf i).toNat)
  case atStart => exact ⟨0, by omega, rfl, HG, Lib.hid fun j h1 h2 => by omega⟩
  case round =>
    clear HG
    obtain ⟨k, hk, rfl, HG, HN⟩ := hrel
    by_cases hlt : k < M.length
    · have hk2 : (k : Int) < (M.length : Int) := by omega
      obtain ⟨ca', cc', he, h1⟩ := HM.out
      simp only [Value.slice.injEq] at he
      obtain ⟨rfl, _, rfl⟩ := he
      rcases h1 with h1 | ⟨g, rfl, hc⟩
      · omega
      have e1 := HG.out.cell (hc _ _ (wcells_at M k hlt).1)
      have e2 := HG.out.cell (hc _ _ (wcells_at M k hlt).2)
      clear hc
      have HE : Hid (M[k] = (M[k].1, M[k].2)) := Lib.hid rfl
      have HI : Hid (M[k] ∈ M) := Lib.hid (List.getElem_mem hlt)
      have HG2 := Lib.hid (HG.out.alloc (.cells #[.int .i64 M[k].1, .int .i64 M[k].2] 59))
      generalize hm1 : M[k].1 = m1 at *
      generalize hm2 : M[k].2 = m2 at *
      clear hm1 hm2
      by_cases ha : m1 = a
      · by_cases hc : m2 = c
        · subst ha hc
          go_wp2
          go_ret
          refine ⟨?_, HG2.out⟩
          rw [decide_eq_true (by rw [← HE.out]; exact HI.out)]
          rfl
        · subst ha
          have hne : Hid (¬ ((m1, m2) = (m1, c))) := Lib.hid (by simp; omega)
          go_wp2
          refine ⟨⟨k + 1, by omega, by simp, HG2, Lib.hid fun j h1 h2 => ?_⟩, by simp [intOf]; omega⟩
          rcases Nat.lt_or_ge j k with h3 | h3
          · exact HN.out j h1 h3
          · obtain rfl : j = k := by omega
            rw [HE.out]; exact hne.out
      · have hne : Hid (¬ ((m1, m2) = (a, c))) := Lib.hid (by simp; omega)
        go_wp2
        refine ⟨⟨k + 1, by omega, by simp, HG2, Lib.hid fun j h1 h2 => ?_⟩, by simp [intOf]; omega⟩
        rcases Nat.lt_or_ge j k with h3 | h3
        · exact HN.out j h1 h3
        · obtain rfl : j = k := by omega
          rw [HE.out]; exact hne.out
    · obtain rfl : k = M.length := by omega
      go_wp2
      go_ret
      refine ⟨?_, HG.out⟩
      rw [decide_eq_false (fun hm => by obtain ⟨j, hj, he⟩ := List.getElem_of_mem hm; exact HN.out j hj hj he)]
      rfl
theorem refHas_any {c : Nat} {rv : Value} {x : N} (a b : Int) (w : World) (h : RfIs w c rv x) (hc : c ≤ 1000000) :
    Calls Try.prog 16 #[rv, .int .i64 a, .int .i64 b] w fun e w' => e = .returned (.bool (Nt.isCut x a b)) ∧ Gr w w' := by
  obtain ⟨⟨lv, cv, M, rfl, h2, h3, h4, h5⟩, ok⟩ := h
  obtain ⟨la, lc, rfl, _⟩ := h2
  have h3' := h3
  obtain ⟨ca, cc, rfl, _⟩ := h3
  rw [← h5]
  exact refHas_row _ la ca _ lc cc M a b w h3' (by omega)
theorem refIs_net {c : Nat} {rv : Value} {x : N} (a b : Int) (w : World) (h : RfIs w c rv x) :
    Calls Try.prog 27 #[rv, .int .i64 a, .int .i64 b] w fun e w' => e = .returned (.bool (wayB x.n a b)) ∧ Gr w w' := by
  obtain ⟨⟨lv, cv, M, rfl, h2, h3, h4, h5⟩, ok⟩ := h
  obtain ⟨la, lc, rfl, _⟩ := h2
  obtain ⟨ca, cc, rfl, _⟩ := h3
  exact refIs_any _ _ _ _ _ _ _ _ _ _
end Go.Proofs.Ytahohgnkichibab
