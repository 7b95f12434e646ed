import Derived.Test.YtmgpnpmdmelnkaaGreatDoorK9
import Derived.Test.YtmgpnpmdmelnkaaGreatDoorK5
import Derived.WalkKit
import Derived.ProofKit
import Derived.LoopTactic
import Derived.Outline
import Derived.WalkSpells
import Derived.WalkLawsBesides
import Derived.Lib.Hide
import Derived.Deep.LoopGhost
import Derived.Deep.QuietTactic
import Derived.BigQuiet
import Derived.ShutString
import Derived.IntWalk
import Derived.Lib.MinMax
import Derived.ArgAppend
import Derived.Deep.AppendLies
import Derived.Test.YtmgpnpmdmelnkaaGreatDoorK11
import Derived.Deep.RegionWith
import Derived.Deep.RegionHeld3
import Derived.Deep.RegionLaw
namespace Go.Proofs.YtmgpnpmdmelnkaaGreatDoor
open Go.ChangeShapes Go.WideShapes Go.ChangeAt Go.RowKit
set_option linter.unusedVariables false
set_option linter.unusedSimpArgs false
/-- A row of locks that is only read. -/
def LRow (w : World) (v : Value) (L : List Lok) : Prop :=
  (v = .slice none 0 0 ∧ L = []) ∨ ∃ g c, v = .slice (some ⟨g, 0, none⟩) L.length c ∧ ∀ j (hj : j < L.length), w.cell? ⟨g, j * 4, none⟩ = some (.int .i64 L[j].ses) ∧ w.cell? ⟨g, j * 4 + 1, none⟩ = some (.string L[j].txt) ∧ w.cell? ⟨g, j * 4 + 2, none⟩ = some (.bool L[j].ex) ∧ w.cell? ⟨g, j * 4 + 3, none⟩ = some (.int .u64 L[j].tok)
theorem LRow.of {w : World} {base : Nat} {v : Value} {L : List Lok} (h : w.ownsRow base 42 4 v L.length (rcells encLok L)) : LRow w v L := by
  rcases Nat.eq_zero_or_pos L.length with h0 | h0
  · have e : L = [] := List.eq_nil_of_length_eq_zero h0
    subst e
    rcases h.2 with ⟨rfl, _⟩ | ⟨g, c, _, rfl, _⟩
    · exact .inl ⟨rfl, rfl⟩
    · exact .inr ⟨g, c, rfl, fun j hj => absurd hj (Nat.not_lt_zero _)⟩
  · obtain ⟨g, c, hv, _⟩ := lokrow_at h 0 h0
    refine .inr ⟨g, c, hv, fun j hj => ?_⟩
    obtain ⟨g', c', hv', q⟩ := lokrow_at h j hj
    rw [hv] at hv'
    simp only [Value.slice.injEq, Option.some.injEq, Addr.mk.injEq, and_true, true_and] at hv'
    obtain ⟨rfl, rfl⟩ := hv'
    exact q
theorem LRow.gr {w w' : World} {v : Value} {L : List Lok} (h : LRow w v L) (hg : Gr w w') : LRow w' v L :=
  h.imp id fun ⟨g, c, hv, q⟩ => ⟨g, c, hv, fun j hj => ⟨hg.cell (q j hj).1, hg.cell (q j hj).2.1, hg.cell (q j hj).2.2.1, hg.cell (q j hj).2.2.2⟩⟩
theorem LRow.slice {w : World} {v : Value} {L : List Lok} (h : LRow w v L) : ∃ a c, v = .slice a L.length c := by
  rcases h with ⟨rfl, rfl⟩ | ⟨g, c, rfl, _⟩
  · exact ⟨none, 0, rfl⟩
  · exact ⟨_, c, rfl⟩
theorem LRow.at {w : World} {v : Value} {L : List Lok} (h : LRow w v L) (i : Nat) (hi : i < L.length) :
    ∃ g cap, v = .slice (some ⟨g, 0, none⟩) L.length cap ∧ w.cell? ⟨g, i * 4, none⟩ = some (.int .i64 L[i].ses) ∧ w.cell? ⟨g, i * 4 + 1, none⟩ = some (.string L[i].txt) ∧ w.cell? ⟨g, i * 4 + 2, none⟩ = some (.bool L[i].ex) ∧ w.cell? ⟨g, i * 4 + 3, none⟩ = some (.int .u64 L[i].tok) := by
  rcases h with ⟨_, rfl⟩ | ⟨g, c, hv, q⟩
  · exact absurd hi (Nat.not_lt_zero _)
  · exact ⟨g, c, hv, q i hi⟩
theorem LRow.far {w : World} {v u : Value} {L : List Lok} {b o : Nat} (h : LRow w v L) (hb : ∀ g, v.ownBlock = some g → g ≠ b) : LRow (w.setCell ⟨b, o, none⟩ u) v L := by
  rcases h with h | ⟨g, c, hv, q⟩
  · exact .inl h
  · have hne : g ≠ b := hb g (by rw [hv]; rfl)
    have key : ∀ (j : Nat) (x : Value), w.cell? ⟨g, j, none⟩ = some x → (w.setCell ⟨b, o, none⟩ u).cell? ⟨g, j, none⟩ = some x := fun j x hx => by
      rw [World.cell?_setCell_far _ _ _ _ (by show b ≠ g; exact fun e => hne e.symm)]; exact hx
    exact .inr ⟨g, c, hv, fun j hj => ⟨key _ _ (q j hj).1, key _ _ (q j hj).2.1, key _ _ (q j hj).2.2.1, key _ _ (q j hj).2.2.2⟩⟩
theorem LRow.kept {w w' : World} {v : Value} {L : List Lok} {row : Option Nat} (h : LRow w v L) (hg : w.grownBy w' row) (hb : ∀ g, v.ownBlock = some g → some g ≠ row) : LRow w' v L := by
  rcases h with h | ⟨g, c, hv, q⟩
  · exact .inl h
  · have hne : some g ≠ row := hb g (by rw [hv]; rfl)
    exact .inr ⟨g, c, hv, fun j hj => ⟨hg.cell (q j hj).1 hne, hg.cell (q j hj).2.1 hne, hg.cell (q j hj).2.2.1 hne, hg.cell (q j hj).2.2.2 hne⟩⟩
/-- One cell of one lock is another one. -/
theorem LRow.set {w : World} {L : List Lok} {g c k i : Nat} {u : Value} {x : Lok} (h : LRow w (.slice (some ⟨g, 0, none⟩) L.length c) L) (hk : k < L.length) (hi : i < 4) (hx : encLok x = (encLok L[k]).set i u) : LRow (w.setCell ⟨g, k * 4 + i, none⟩ u) (.slice (some ⟨g, 0, none⟩) L.length c) (L.set k x) := by
  rcases h with ⟨h, _⟩ | ⟨g', c', hv, q⟩
  · simp at h
  simp only [Value.slice.injEq, Option.some.injEq, Addr.mk.injEq, and_true, true_and] at hv
  obtain ⟨rfl, rfl⟩ := hv
  have keep : ∀ (j : Nat) (y : Value), j ≠ k * 4 + i → w.cell? ⟨g, j, none⟩ = some y → (w.setCell ⟨g, k * 4 + i, none⟩ u).cell? ⟨g, j, none⟩ = some y := fun j y hj hy => by
    exact (World.cell?_setCell_other _ _ _ _ (by intro e; simp only [Addr.mk.injEq, and_true, true_and] at e; omega)).trans hy
  have put : ∀ (y : Value), w.cell? ⟨g, k * 4 + i, none⟩ = some y → (w.setCell ⟨g, k * 4 + i, none⟩ u).cell? ⟨g, k * 4 + i, none⟩ = some u := fun y hy => World.cell?_setCell_same' _ _ _ (by rw [hy]; rfl)
  refine .inr ⟨g, c, by rw [List.length_set], fun j hj => ?_⟩
  rw [List.length_set] at hj
  obtain ⟨q0, q1, q2, q3⟩ := q j hj
  by_cases e : j = k
  · subst e
    rw [List.getElem_set_self]
    generalize L[j] = y at *
    obtain ⟨s, t, e1, o⟩ := x
    obtain ⟨s', t', e1', o'⟩ := y
    match i, hi with
    | 0, _ =>
      simp only [encLok, List.set_cons_zero, List.cons.injEq, Value.int.injEq, Value.string.injEq, Value.bool.injEq, true_and, and_true] at hx
      obtain ⟨rfl, rfl, rfl, rfl⟩ := hx
      exact ⟨put _ q0, keep _ _ (by omega) q1, keep _ _ (by omega) q2, keep _ _ (by omega) q3⟩
    | 1, _ =>
      simp only [encLok, List.set_cons_zero, List.set_cons_succ, List.cons.injEq, Value.int.injEq, Value.string.injEq, Value.bool.injEq, true_and, and_true] at hx
      obtain ⟨rfl, rfl, rfl, rfl⟩ := hx
      exact ⟨keep _ _ (by omega) q0, put _ q1, keep _ _ (by omega) q2, keep _ _ (by omega) q3⟩
    | 2, _ =>
      simp only [encLok, List.set_cons_zero, List.set_cons_succ, List.cons.injEq, Value.int.injEq, Value.string.injEq, Value.bool.injEq, true_and, and_true] at hx
      obtain ⟨rfl, rfl, rfl, rfl⟩ := hx
      exact ⟨keep _ _ (by omega) q0, keep _ _ (by omega) q1, put _ q2, keep _ _ (by omega) q3⟩
    | 3, _ =>
      simp only [encLok, List.set_cons_zero, List.set_cons_succ, List.cons.injEq, Value.int.injEq, Value.string.injEq, Value.bool.injEq, true_and, and_true] at hx
      obtain ⟨rfl, rfl, rfl, rfl⟩ := hx
      exact ⟨keep _ _ (by omega) q0, keep _ _ (by omega) q1, keep _ _ (by omega) q2, put _ q3⟩
  · rw [List.getElem_set_ne (fun h => e h.symm)]
    exact ⟨keep _ _ (by omega) q0, keep _ _ (by omega) q1, keep _ _ (by omega) q2, keep _ _ (by omega) q3⟩
/-- append to a row that has no room: a new one. -/
theorem step_append_grows {P : Program} (w : World) {ops : Array Oper} {o : Oper} {a : Act} {K : Act → World → Prop} {Q : Exit → Act → World → Prop} {E : Prop} (hgd : o.guard = none) (s x : Operand) (t : TypeId)
    (ho : o.op = .call { callee := .builtin .append, args := #[s, x], argTypes := #[t, t] })
    (e : TypeId) (i : TypeInfo) (z : Value) (size bytes : Nat) (ht : P.underlying t = some (.slice e)) (hi : P.info? e = some i) (hz : i.zero = some z)
    (hsize : i.size = size) (hby : i.bytes = bytes) (hzs : z.cells.size = size) (hsz : 0 < size)
    (b : Addr) (n cap : Nat) (olds : List Value) (hs : a.eval s = .slice (some b) n cap) (hlo : olds.length = n * size) (holds : ∀ j u, olds[j]? = some u → w.cell? (b.add j) = some u)
    (d : Addr) (m c : Nat) (news : List Value) (hx : a.eval x = .slice (some d) m c) (hl : news.length = m * size) (hnews : ∀ j u, news[j]? = some u → w.cell? (d.add j) = some u)
    (hcap : cap < n + m) (h63 : n + m ≤ maxLen) (hbytes : (n + m) * bytes ≤ 140737488355328)
    (h : ∀ v' w', w'.ownsRow w.heap.size e size v' (n + m) (olds ++ news) → w.grownBy w' none → K (a.put o.dst v') w') :
    if Region.wanted o (yielded ops a.tmps) = true then Oper.wp P o a w K Q else E := by
  obtain ⟨v', w', hrun, r1, r2⟩ := run_append_arg_grows (P := P) w t o.type e i z size bytes ht hi hz hsize hby hzs hsz b n cap olds hlo holds d m c news hl hnews hcap h63 hbytes
  have hw : Region.wanted o (yielded ops a.tmps) = true := by simp [Region.wanted, hgd]
  rw [if_pos hw]
  have hK := h v' w' r1 r2
  unfold Oper.wp
  simp [execOp, ho, resolve, invoke, builtin, hs, hx, hrun, Result.andThen]
  exact hK
theorem step_append_none {P : Program} (w : World) {ops : Array Oper} {o : Oper} {a : Act} {K : Act → World → Prop} {Q : Exit → Act → World → Prop} {E : Prop} (hgd : o.guard = none) (s x : Operand) (t : TypeId)
    (ho : o.op = .call { callee := .builtin .append, args := #[s, x], argTypes := #[t, t] })
    (e : TypeId) (i : TypeInfo) (ht : P.underlying t = some (.slice e)) (hi : P.info? e = some i)
    (b n cap : Nat) (hn : n ≤ cap) (hs : a.eval s = .slice (some ⟨b, 0, none⟩) n cap) (la : Option Addr) (c : Nat) (hx : a.eval x = .slice la 0 c)
    (h : K (a.put o.dst (.slice (some ⟨b, 0, none⟩) n cap)) w) :
    if Region.wanted o (yielded ops a.tmps) = true then Oper.wp P o a w K Q else E := by
  have hrun := run_append_nought (P := P) w t o.type e i ht hi b n cap la c hn
  have hw : Region.wanted o (yielded ops a.tmps) = true := by simp [Region.wanted, hgd]
  rw [if_pos hw]
  unfold Oper.wp
  simp [execOp, ho, resolve, invoke, builtin, hs, hx, hrun, Result.andThen]
  exact h
theorem cells_part {w : World} {g : Nat} {L : List Lok} (q : ∀ j (hj : j < L.length), w.cell? ⟨g, j * 4, none⟩ = some (.int .i64 L[j].ses) ∧ w.cell? ⟨g, j * 4 + 1, none⟩ = some (.string L[j].txt) ∧ w.cell? ⟨g, j * 4 + 2, none⟩ = some (.bool L[j].ex) ∧ w.cell? ⟨g, j * 4 + 3, none⟩ = some (.int .u64 L[j].tok)) :
    ∀ j u, (rcells encLok L)[j]? = some u → w.cell? ⟨g, j, none⟩ = some u := by
  intro j u hj
  have hlt : j < L.length * 4 := by
    have := (List.getElem?_eq_some_iff.1 hj).1
    rwa [rcells_len encLok_len] at this
  have hq : j / 4 < L.length := by omega
  have e : j = j / 4 * 4 + j % 4 := by omega
  have h4 : j % 4 < 4 := Nat.mod_lt _ (by omega)
  generalize j / 4 = n at *
  generalize j % 4 = i at *
  subst e
  rw [rcells_at encLok_len L n hq i h4] at hj
  obtain ⟨q0, q1, q2, q3⟩ := q n hq
  match i, h4 with
  | 0, _ => rw [← Option.some.inj hj]; exact q0
  | 1, _ => rw [← Option.some.inj hj]; exact q1
  | 2, _ => rw [← Option.some.inj hj]; exact q2
  | 3, _ => rw [← Option.some.inj hj]; exact q3
set_option maxRecDepth 100000 in
/-- One lock of a row is left out: append(l[:k:k], l[k+1:]...). -/
theorem step_del22 (w : World) {ops : Array Oper} {o : Oper} {a : Act} {K : Act → World → Prop} {Q : Exit → Act → World → Prop} {E : Prop} (hgd : o.guard = none) (s x : Operand)
    (ho : o.op = .call { callee := .builtin .append, args := #[s, x], argTypes := #[37, 37] })
    (L : List Lok) (g c k : Nat) (hr : LRow w (.slice (some ⟨g, 0, none⟩) L.length c) L) (hk : k < L.length) (hL : L.length ≤ 1000)
    (hs : a.eval s = .slice (some ⟨g, 0, none⟩) k k) (la : Option Addr) (m c2 : Nat) (hx : a.eval x = .slice la m c2) (hm : L.length = k + 1 + m) (hla : 0 < m → la = some ⟨g, (k + 1) * 4, none⟩)
    (h : ∀ v' w', LRow w' v' (L.eraseIdx k) → w.grownBy w' none → (∀ q, v'.ownBlock = some q → q = g ∨ w.heap.size ≤ q) → K (a.put o.dst v') w') :
    if Region.wanted o (yielded ops a.tmps) = true then Oper.wp Tryz.prog o a w K Q else E := by
  obtain ⟨i0, hi, hz0, hz1, hz2⟩ : ∃ i0 : TypeInfo, Tryz.prog.info? 42 = some i0 ∧ i0.zero = some (.agg #[.int .i64 0, .string ⟨#[]⟩, .bool false, .int .u64 0]) ∧ i0.size = 4 ∧ i0.bytes = 40 := ⟨_, rfl, rfl, rfl, rfl⟩
  have q : ∀ j (hj : j < L.length), w.cell? ⟨g, j * 4, none⟩ = some (.int .i64 L[j].ses) ∧ w.cell? ⟨g, j * 4 + 1, none⟩ = some (.string L[j].txt) ∧ w.cell? ⟨g, j * 4 + 2, none⟩ = some (.bool L[j].ex) ∧ w.cell? ⟨g, j * 4 + 3, none⟩ = some (.int .u64 L[j].tok) := by
    rcases hr with ⟨h, _⟩ | ⟨g', c', hv, q⟩
    · simp at h
    · simp only [Value.slice.injEq, Option.some.injEq, Addr.mk.injEq, and_true, true_and] at hv
      obtain ⟨rfl, rfl⟩ := hv
      exact q
  have he : L.eraseIdx k = L.take k ++ L.drop (k + 1) := List.eraseIdx_eq_take_drop_succ L k
  have hcs := cells_part q
  have hl1 : (L.take k).length = k := by rw [List.length_take]; omega
  have hl2 : (L.drop (k + 1)).length = m := by rw [List.length_drop]; omega
  have d1 : ∀ j u, (rcells encLok (L.take k))[j]? = some u → w.cell? ⟨g, j, none⟩ = some u := fun j u hj => hcs j u (by
    rw [← rcells_take encLok_len L k (by omega)] at hj
    have hlt := (List.getElem?_eq_some_iff.1 hj).1
    rw [List.length_take] at hlt
    rwa [List.getElem?_take_of_lt (by omega)] at hj)
  have d2 : ∀ j u, (rcells encLok (L.drop (k + 1)))[j]? = some u → w.cell? ⟨g, (k + 1) * 4 + j, none⟩ = some u := fun j u hj => hcs _ u (by
    rw [← rcells_drop encLok_len L (k + 1) (by omega), List.getElem?_drop] at hj
    exact hj)
  rcases Nat.eq_zero_or_pos m with h0 | h0
  · subst h0
    refine step_append_none w hgd s x 37 ho 42 i0 Tryz.underlying37 hi g k k (Nat.le_refl _) hs la c2 hx (h _ w ?_ (World.grownBy.refl w _) (fun q hq => .inl (by simpa [Value.ownBlock] using hq.symm)))
    rw [he, List.eq_nil_of_length_eq_zero hl2, List.append_nil]
    refine .inr ⟨g, k, by rw [hl1], fun j hj => ?_⟩
    rw [hl1] at hj
    rw [List.getElem_take]
    exact q j (by omega)
  · have hla := hla h0
    subst hla
    refine step_append_grows w hgd s x 37 ho 42 i0 (.agg #[.int .i64 0, .string ⟨#[]⟩, .bool false, .int .u64 0]) 4 40 Tryz.underlying37 hi hz0 hz1 hz2 rfl (by decide) ⟨g, 0, none⟩ k k (rcells encLok (L.take k)) hs (by rw [rcells_len encLok_len, hl1]) (fun j u hj => by rw [addr_add, Nat.zero_add]; exact d1 j u hj) ⟨g, (k + 1) * 4, none⟩ m c2 (rcells encLok (L.drop (k + 1))) hx (by rw [rcells_len encLok_len, hl2]) (fun j u hj => by rw [addr_add]; exact d2 j u hj) (by omega) (by unfold maxLen; omega) (by omega) (fun v' w' ho hg => h v' w' ?_ hg (fun q hq => .inr (ho.lt q hq).1))
    rw [he]
    refine LRow.of (base := w.heap.size) ?_
    rw [rcells_append, List.length_append, hl1, hl2]
    exact ho
theorem grown_none {w w' : World} {r : Option Nat} (h : w.grownBy w' none) : w.grownBy w' r := ⟨h.os, h.tape, h.output, h.size, fun k hk _ => h.block k hk (by simp)⟩
set_option maxRecDepth 100000 in
/-- A lock more: append(l, y); the elder row reads as it did. -/
theorem step_add22 (w : World) {ops : Array Oper} {o : Oper} {a : Act} {K : Act → World → Prop} {Q : Exit → Act → World → Prop} {E : Prop} (hgd : o.guard = none) (s x : Operand)
    (ho : o.op = .call { callee := .builtin .append, args := #[s, x], argTypes := #[37, 37] })
    (base : Nat) (Y : List Lok) (g c : Nat) (hr : w.ownsRow base 42 4 (.slice (some ⟨g, 0, none⟩) Y.length c) Y.length (rcells encLok Y)) (h0 : 0 < Y.length) (hY : Y.length ≤ 1000)
    (hs : a.eval s = .slice (some ⟨g, 0, none⟩) Y.length c) (d : Nat) (y : Lok) (hx : a.eval x = .slice (some ⟨d, 0, none⟩) 1 1) (hd : Blk w d #[.int .i64 y.ses, .string y.txt, .bool y.ex, .int .u64 y.tok] 42)
    (h : ∀ v' w', LRow w' v' (Y ++ [y]) → LRow w' (.slice (some ⟨g, 0, none⟩) Y.length c) Y → w.grownBy w' (some g) → (∀ q, v'.ownBlock = some q → q = g ∨ w.heap.size ≤ q) → K (a.put o.dst v') w') :
    if Region.wanted o (yielded ops a.tmps) = true then Oper.wp Tryz.prog o a w K Q else E := by
  obtain ⟨i0, hi, hz0, hz1, hz2⟩ : ∃ i0 : TypeInfo, Tryz.prog.info? 42 = some i0 ∧ i0.zero = some (.agg #[.int .i64 0, .string ⟨#[]⟩, .bool false, .int .u64 0]) ∧ i0.size = 4 ∧ i0.bytes = 40 := ⟨_, rfl, rfl, rfl, rfl⟩
  have hL := LRow.of hr
  obtain ⟨g', c', cur, hv, hb, hlt, hcur, hn1, hcm, hcs, hxl, hat, hsome, hfz⟩ := owns_open hr h0
  simp only [Value.slice.injEq, Option.some.injEq, Addr.mk.injEq, and_true, true_and] at hv
  obtain ⟨rfl, rfl⟩ := hv
  have hnews : ∀ j u, (encLok y)[j]? = some u → w.cell? ((⟨d, 0, none⟩ : Addr).add j) = some u := World.news_of_block (cs := #[.int .i64 y.ses, .string y.txt, .bool y.ex, .int .u64 y.tok]) (t := 42) (fr := (0, 0)) hd
  have h1 : ∀ u ∈ encLok y, u.oneCell' = true := by intro u hu; simp [encLok] at hu; rcases hu with rfl | rfl | rfl | rfl <;> rfl
  by_cases hroom : Y.length + 1 ≤ c
  · have hc4 : ∀ j, j < 4 → Y.length * 4 + j < c * 4 := fun j hj => by omega
    have hrun := run_append_room_cells (P := Tryz.prog) (w := w) 37 o.type 42 i0 Tryz.underlying37 hi g 0 Y.length c ⟨d, 0, none⟩ 1 1 (encLok y) (by rw [hz1]; rfl) hnews h1 hroom (fun j hj => by rw [hz1, Nat.zero_add]; exact hsome _ (hc4 j hj)) (fun j hj => by rw [hz1, Nat.zero_add]; exact hfz _)
    rw [hz1, Nat.zero_add] at hrun
    have hw : Region.wanted o (yielded ops a.tmps) = true := by simp [Region.wanted, hgd]
    have out : ∀ (j : Nat) (u : Value), j < Y.length * 4 → w.cell? ⟨g, j, none⟩ = some u → (w.setCells g (Y.length * 4) (encLok y)).cell? ⟨g, j, none⟩ = some u := fun j u hj hu => by
      rw [World.cell?_setCells_out _ _ _ _ _ (fun _ _ => Or.inl (by show j < _; omega))]; exact hu
    have inn := World.cell?_setCells_in g (encLok y) (Y.length * 4) w (fun j hj => hsome _ (hc4 j hj))
    have hL2 : LRow (w.setCells g (Y.length * 4) (encLok y)) (.slice (some ⟨g, 0, none⟩) Y.length c) Y := by
      refine .inr ⟨g, c, rfl, fun j hj => ?_⟩
      obtain ⟨g', c', hv, q0, q1, q2, q3⟩ := hL.at j hj
      simp only [Value.slice.injEq, Option.some.injEq, Addr.mk.injEq, and_true, true_and] at hv
      obtain ⟨rfl, rfl⟩ := hv
      exact ⟨out _ _ (by omega) q0, out _ _ (by omega) q1, out _ _ (by omega) q2, out _ _ (by omega) q3⟩
    have hK := h (.slice (some ⟨g, 0, none⟩) (Y.length + 1) c) (w.setCells g (Y.length * 4) (encLok y)) (by
      refine .inr ⟨g, c, by rw [List.length_append]; rfl, fun j hj => ?_⟩
      rw [List.length_append, List.length_singleton] at hj
      by_cases e : j < Y.length
      · obtain ⟨g', c', hv, q0, q1, q2, q3⟩ := hL2.at j e
        simp only [Value.slice.injEq, Option.some.injEq, Addr.mk.injEq, and_true, true_and] at hv
        obtain ⟨rfl, rfl⟩ := hv
        rw [List.getElem_append_left e]
        exact ⟨q0, q1, q2, q3⟩
      · obtain rfl : j = Y.length := by omega
        rw [List.getElem_append_right (Nat.le_refl _)]
        simp only [Nat.sub_self, List.getElem_cons_zero]
        exact ⟨inn 0 (by show 0 < 4; decide), inn 1 (by show 1 < 4; decide), inn 2 (by show 2 < 4; decide), inn 3 (by show 3 < 4; decide)⟩) hL2 (grown_cells g (encLok y) _ w) (fun q hq => .inl (by simpa [Value.ownBlock] using hq.symm))
    rw [if_pos hw]
    unfold Oper.wp
    simp [execOp, ho, resolve, invoke, builtin, hs, hx, hrun, Result.andThen]
    exact hK
  · refine step_append_grows w hgd s x 37 ho 42 i0 (.agg #[.int .i64 0, .string ⟨#[]⟩, .bool false, .int .u64 0]) 4 40 Tryz.underlying37 hi hz0 hz1 hz2 rfl (by decide) ⟨g, 0, none⟩ Y.length c (rcells encLok Y) hs (rcells_len encLok_len Y) (fun j u hj => by rw [addr_add, Nat.zero_add]; exact hat j u hj) ⟨d, 0, none⟩ 1 1 (encLok y) hx rfl hnews (by omega) (by unfold maxLen; omega) (by omega) (fun v' w' ho hg => h v' w' ?_ (hL.kept hg (by simp)) (grown_none hg) (fun q hq => .inr (ho.lt q hq).1))
    refine LRow.of (base := w.heap.size) ?_
    rw [rcells_snoc, List.length_append]
    exact ho
/-- Two rows of locks, each in a box. -/
structure Two (W0 w : World) (b1 b2 : Nat) (v1 v2 : Value) (L M : List Lok) : Prop where
  gr : Gr W0 w
  c1 : Blk w b1 #[v1] 37
  c2 : Blk w b2 #[v2] 37
  h1 : W0.heap.size ≤ b1
  h2 : W0.heap.size ≤ b2
  ne : b1 ≠ b2
  r1 : w.ownsRow W0.heap.size 42 4 v1 L.length (rcells encLok L)
  r2 : w.ownsRow W0.heap.size 42 4 v2 M.length (rcells encLok M)
  nr : v1.ownBlock = none ∨ v1.ownBlock ≠ v2.ownBlock
  p1 : ∀ y ∈ L, IsPath y.txt
  p2 : ∀ y ∈ M, IsPath y.txt
  len : L.length + M.length ≤ 61
/-- The two boxes, with rows that are only read. -/
def Bent (W0 w : World) (b1 b2 : Nat) : Prop := ∃ v1 v2 L M, Gr W0 w ∧ Blk w b1 #[v1] 37 ∧ Blk w b2 #[v2] 37 ∧ LRow w v1 L ∧ LRow w v2 M ∧ (∀ y ∈ L, IsPath y.txt) ∧ (∀ y ∈ M, IsPath y.txt) ∧ L.length + M.length ≤ 62
variable {W0 w w' : World} {b1 b2 : Nat} {v1 v2 : Value} {L M : List Lok}
theorem Bent.swap (h : Bent W0 w b1 b2) : Bent W0 w b2 b1 := by
  obtain ⟨v1, v2, L, M, q1, q2, q3, q4, q5, q6, q7, q8⟩ := h
  exact ⟨v2, v1, M, L, q1, q3, q2, q5, q4, q7, q6, by omega⟩
theorem Two.swap (h : Two W0 w b1 b2 v1 v2 L M) : Two W0 w b2 b1 v2 v1 M L :=
  ⟨h.gr, h.c2, h.c1, h.h2, h.h1, h.ne.symm, h.r2, h.r1, by
    rcases h.nr with q | q
    · rcases e : v2.ownBlock with _ | k
      · exact .inl rfl
      · exact .inr (by rw [q]; simp)
    · exact .inr q.symm, h.p2, h.p1, by have := h.len; omega⟩
theorem Two.grW (h : Two W0 w b1 b2 v1 v2 L M) (hg : Gr w w') : Two W0 w' b1 b2 v1 v2 L M :=
  ⟨h.gr.trans hg, h.c1.gr hg, h.c2.gr hg, h.h1, h.h2, h.ne, ownsRow_gr hg h.r1, ownsRow_gr hg h.r2, h.nr, h.p1, h.p2, h.len⟩
theorem Two.bent (h : Two W0 w b1 b2 v1 v2 L M) : Bent W0 w b1 b2 := ⟨v1, v2, L, M, h.gr, h.c1, h.c2, LRow.of h.r1, LRow.of h.r2, h.p1, h.p2, by have := h.len; omega⟩
theorem Two.off (h : Two W0 w b1 b2 v1 v2 L M) : (∀ g, v1.ownBlock = some g → g ≠ b1 ∧ g ≠ b2) ∧ ∀ g, v2.ownBlock = some g → g ≠ b1 ∧ g ≠ b2 := by
  have q1 := row_offL h.c1 h.r1 (by decide)
  have q2 := row_offL h.c2 h.r1 (by decide)
  have q3 := row_offL h.c1 h.r2 (by decide)
  have q4 := row_offL h.c2 h.r2 (by decide)
  exact ⟨fun g e => ⟨fun h => q1 (by rw [e, h]), fun h => q2 (by rw [e, h])⟩, fun g e => ⟨fun h => q3 (by rw [e, h]), fun h => q4 (by rw [e, h])⟩⟩
/-- A cell of a lock of the first row is another one. -/
theorem Two.set {g c k i : Nat} {u : Value} {x : Lok} (h : Two W0 w b1 b2 v1 v2 L M) (hv : v1 = .slice (some ⟨g, 0, none⟩) L.length c) (hk : k < L.length) (hi : i < 4) (hx : encLok x = (encLok L[k]).set i u) (hp : IsPath x.txt) : Bent W0 (w.setCell ⟨g, k * 4 + i, none⟩ u) b1 b2 := by
  obtain ⟨o1, o2⟩ := h.off
  have hg1 := o1 g (by rw [hv]; rfl)
  have hgb : W0.heap.size ≤ g := (h.r1.lt g (by rw [hv]; rfl)).1
  refine ⟨v1, v2, L.set k x, M, h.gr.setCell (p := ⟨g, _, none⟩) hgb _, h.c1.other (fun e => hg1.1 e.symm) _ _, h.c2.other (fun e => hg1.2 e.symm) _ _, ?_, ?_, ?_, h.p2, by rw [List.length_set]; have := h.len; omega⟩
  · subst hv
    exact LRow.set (LRow.of h.r1) hk hi hx
  · refine (LRow.of h.r2).far (fun q hq e => ?_)
    subst e
    rcases h.nr with n | n
    · rw [hv] at n; simp [Value.ownBlock] at n
    · exact n (by rw [hv, hq]; rfl)
  · intro y hy
    rcases List.mem_or_eq_of_mem_set hy with hy | rfl
    · exact h.p1 y hy
    · exact hp
/-- Another row is stored into the first box. -/
theorem Two.stored {v' : Value} {L' : List Lok} (h : Two W0 w b1 b2 v1 v2 L M) (hg : w.grownBy w' v1.ownBlock) (hr : LRow w' v' L') (hb : ∀ q, v'.ownBlock = some q → q ≠ b1) (hp : ∀ y ∈ L', IsPath y.txt) (hl : L'.length ≤ L.length + 1) : Bent W0 (w'.setCell ⟨b1, 0, none⟩ v') b1 b2 := by
  obtain ⟨o1, o2⟩ := h.off
  have n1 : v1.ownBlock ≠ some b1 := fun e => (o1 _ e).1 rfl
  have n2 : v1.ownBlock ≠ some b2 := fun e => (o1 _ e).2 rfl
  have k1 := h.c1.keptB hg n1
  have k2 := h.c2.keptB hg n2
  refine ⟨v', v2, L', M, (h.gr.append h.r1 hg).setCell (p := ⟨b1, 0, none⟩) h.h1 _, k1.set 0 v', k2.other (fun e => h.ne e.symm) _ _, hr.far hb, ?_, hp, h.p2, by have := h.len; omega⟩
  refine LRow.far ((LRow.of h.r2).kept hg (fun q hq e => ?_)) (fun q hq => (o2 q hq).1)
  rcases h.nr with n | n
  · rw [n] at e; simp at e
  · exact n (by rw [← e, hq])
end Go.Proofs.YtmgpnpmdmelnkaaGreatDoor
namespace Go.Proofs.YtmgpnpmdmelnkaaGreatDoor
open Go.ChangeShapes Go.WideShapes Go.ChangeAt Go.RowKit
set_option linter.unusedVariables false
set_option linter.unusedSimpArgs false
def OkH (L : List Lok) (t : Int) : Prop := ∀ j (hj : j < L.length), holdB ⟨L.take j, [], t⟩ L[j] = true
def OkW (L M : List Lok) (t : Int) : Prop := ∀ j (hj : j < M.length), waitB ⟨L, M.take j, t⟩ M[j] = true
/-- What Load answers: the book with these rows, if each of them may be had behind those ahead of it; else none. -/
def LoadIs (w : World) (L M : List Lok) (t : Int) (e : Ending) (w' : World) : Prop :=
  (OkH L t ∧ OkW L M t ∧ ∃ b u1 u2, e = .returned (.tuple #[.pointer (some ⟨b, 0, none⟩), .int .i64 0]) ∧ w.heap.size ≤ b ∧ BkIs w w' b u1 u2 ⟨L, M, t⟩) ∨ (¬ (OkH L t ∧ OkW L M t) ∧ e = .returned (.tuple #[.pointer none, .int .i64 4]) ∧ Gr w w')
/-- An append to a row of the book, stored into it. -/
theorem bk_put1 {w0 w w7 : World} {b g cap : Nat} {v1 v2 : Value} {B : Bk} {x : Lok} (h : BkIs w0 w b v1 v2 B) (hg : w.grownBy w7 v1.ownBlock) (ho : w7.ownsRow w0.heap.size 42 4 (.slice (some ⟨g, 0, none⟩) (B.H.length + 1) cap) (B.H.length + 1) (rcells encLok B.H ++ encLok x)) (hat : v1.ownBlock = some g ∨ g = w.heap.size) :
    BkIs w0 (w7.setCell ⟨b, 0, none⟩ (.slice (some ⟨g, 0, none⟩) (B.H.length + 1) cap)) b (.slice (some ⟨g, 0, none⟩) (B.H.length + 1) cap) v2 ⟨B.H ++ [x], B.W, B.last⟩ := by
  have h1 := row_offL h.blk h.r1 (by decide)
  have hb := h.blk.keptB hg h1
  have hr2 := h.r2.kept hg (ne_swap h.ne)
  refine ⟨h.base, (h.grown.append h.r1 hg).setCell (p := ⟨b, 0, none⟩) h.base _, hb.set 0 _, ?_, ownsRow_setCell_other (a := ⟨b, 0, none⟩) hr2 (row_offL hb hr2 (by decide)) _, ?_⟩
  · show (w7.setCell _ _).ownsRow _ _ _ _ (B.H ++ [x]).length (rcells encLok (B.H ++ [x]))
    rw [List.length_append, rcells_snoc]
    exact ownsRow_setCell_other (a := ⟨b, 0, none⟩) ho (row_offL hb ho (by decide)) _
  · refine ne_swap ?_
    rcases hq : v2.ownBlock with _ | k
    · exact .inl rfl
    · refine .inr (fun e => ?_)
      have e2 : k = g := Option.some.inj e
      rcases hat with h3 | h3
      · rcases h.ne with h4 | h4
        · rw [h4] at h3; simp at h3
        · exact h4 (h3.trans (by rw [hq, e2]))
      · have := (h.r2.lt k hq).2; omega
theorem bk_put2 {w0 w w7 : World} {b g cap : Nat} {v1 v2 : Value} {B : Bk} {x : Lok} (h : BkIs w0 w b v1 v2 B) (hg : w.grownBy w7 v2.ownBlock) (ho : w7.ownsRow w0.heap.size 42 4 (.slice (some ⟨g, 0, none⟩) (B.W.length + 1) cap) (B.W.length + 1) (rcells encLok B.W ++ encLok x)) (hat : v2.ownBlock = some g ∨ g = w.heap.size) :
    BkIs w0 (w7.setCell ⟨b, 1, none⟩ (.slice (some ⟨g, 0, none⟩) (B.W.length + 1) cap)) b v1 (.slice (some ⟨g, 0, none⟩) (B.W.length + 1) cap) ⟨B.H, B.W ++ [x], B.last⟩ := by
  have h1 := row_offL h.blk h.r2 (by decide)
  have hb := h.blk.keptB hg h1
  have hr1 := h.r1.kept hg h.ne
  refine ⟨h.base, (h.grown.append h.r2 hg).setCell (p := ⟨b, 1, none⟩) h.base _, hb.set 1 _, ownsRow_setCell_other (a := ⟨b, 1, none⟩) hr1 (row_offL hb hr1 (by decide)) _, ?_, ?_⟩
  · show (w7.setCell _ _).ownsRow _ _ _ _ (B.W ++ [x]).length (rcells encLok (B.W ++ [x]))
    rw [List.length_append, rcells_snoc]
    exact ownsRow_setCell_other (a := ⟨b, 1, none⟩) ho (row_offL hb ho (by decide)) _
  · rcases hq : v1.ownBlock with _ | k
    · exact .inl rfl
    · refine .inr (fun e => ?_)
      have e2 : k = g := Option.some.inj e
      rcases hat with h3 | h3
      · rcases h.ne with h4 | h4
        · rw [h4] at hq; simp at hq
        · exact h4 (by rw [hq, e2]; exact h3.symm)
      · have := (h.r1.lt k hq).2; omega
set_option maxRecDepth 100000 in
set_option maxHeartbeats 8000000 in
theorem load_any {y1 y2 : Value} (L M : List Lok) (t : Int) (w : World) (h1 : LRow w y1 L) (h2 : LRow w y2 M) (hl : L.length + M.length ≤ 300) (hp1 : ∀ y ∈ L, IsPath y.txt) (hp2 : ∀ y ∈ M, IsPath y.txt) (hM : ML w) :
    Calls Tryz.prog 17 #[y1, y2, .int .u64 t] w (LoadIs w L M t) := by
  obtain ⟨i0, hi, hz0, hz1, hz2⟩ : ∃ i0 : TypeInfo, Tryz.prog.info? 42 = some i0 ∧ i0.zero = some (.agg #[.int .i64 0, .string ⟨#[]⟩, .bool false, .int .u64 0]) ∧ i0.size = 4 ∧ i0.bytes = 40 := ⟨_, rfl, rfl, rfl, rfl⟩
  have H1 := Lib.hid h1
  have H2 := Lib.hid h2
  have HP1 := Lib.hid hp1
  have HPL := Lib.hid hp1
  have HP2 := Lib.hid hp2
  have HML := Lib.hid hM
  obtain ⟨a1, c1, rfl⟩ := h1.slice
  obtain ⟨a2, c2, rfl⟩ := h2.slice
  clear h1 h2 hp1 hp2 hM
  go_enter Tryz.func17, Tryz.ntmps17
  go_wp2_with fail
  refine (bkNew_any t w w (Gr.refl w)).mono ?_
  rintro e w1 ⟨b, rfl, hb, hk, _⟩
  have HK0 : Hid (BkIs w w1 b (.slice none 0 0) (.slice none 0 0) ⟨L.take 0, [], t⟩) := Lib.hid hk
  clear hk
  go_wp2_with fail
  go_loopw [17] (fun i wr => ∃ (k : Nat) (u1 : Value), k ≤ L.length ∧ i = .int .i64 k ∧ Hid (BkIs w wr b u1 (.slice none 0 0) ⟨L.take k, [], t⟩) ∧ Hid (∀ j (hj : j < L.length), j < k → holdB ⟨L.take j, [], t⟩ L[j] = true)) (fun i _ => L.length - (intOf i).toNat)
  case atStart => exact ⟨0, _, by omega, rfl, HK0, Lib.hid (fun j hj h => by omega)⟩
  case round =>
    clear HK0
    obtain ⟨k, u1, hk, rfl, hK, hO⟩ := hrel
    by_cases hlt : k < L.length
    · obtain ⟨g, cap, hv, d0, d1, d2, d3⟩ := (H1.out.gr hK.out.grown).at k hlt
      simp only [Value.slice.injEq] at hv
      obtain ⟨rfl, hnn, rfl⟩ := hv
      clear hnn
      have HTK := Lib.hid (List.take_succ_eq_append_getElem hlt)
      have hpx := HP1.out _ (List.getElem_mem hlt)
      have HPP := Lib.hid (show ∀ y ∈ L.take k, IsPath y.txt from fun y hy => HP1.out y (List.mem_of_mem_take hy))
      have hpl : (L.take k).length ≤ L.length := by rw [List.length_take]; omega
      have HNO := Lib.hid (show holdB (⟨L.take k, [], t⟩) L[k] = false → ¬ OkH L t from fun e h => by rw [h k hlt] at e; simp at e)
      have HOKY := Lib.hid (show holdB (⟨L.take k, [], t⟩) L[k] = true → ∀ j (hj : j < L.length), j < k + 1 → holdB ⟨L.take j, [], t⟩ L[j] = true from fun e j hj h => by
        rcases Nat.lt_or_ge j k with q | q
        · exact hO.out j hj q
        · obtain rfl : j = k := by omega
          exact e)
      have HKX := Lib.hid (hK.out.gr ((Gr.refl wr).alloc (.cells #[.int .i64 L[k].ses, .string L[k].txt, .bool L[k].ex, .int .u64 L[k].tok] 42)))
      have HXB := Lib.hid (Blk.new wr #[.int .i64 L[k].ses, .string L[k].txt, .bool L[k].ex, .int .u64 L[k].tok] 42)
      have HNB := Lib.hid (show ∀ v m, v.ownBlock = some m → wr.ownsRow w.heap.size 42 4 v 0 [] → True from fun _ _ _ _ => trivial)
      generalize L[k] = x at *
      generalize L.take k = P at *
      go_upto_region 5 with fail
      have HRL := Lib.hid (show u1.ownBlock ≠ some wr.heap.size from fun e => by have := (hK.out.r1.lt _ e).2; omega)
      generalize wr.alloc (.cells #[.int .i64 x.ses, .string x.txt, .bool x.ex, .int .u64 x.tok] 42) = wx at *
      generalize wr.heap.size = cx at *
      clear d0 d1 d2 d3 hK hO HNB
      have x0 := HXB.out.cell (i := 0) rfl
      have x1 := HXB.out.cell (i := 1) rfl
      have x2 := HXB.out.cell (i := 2) rfl
      have x3 := HXB.out.cell (i := 3) rfl
      have HCL := Lib.hid (hold_any x wx HKX.out (by simp; omega) hpx (fun y hy => HPP.out y hy) (HML.out.gr HKX.out.grown))
      cases hq : holdB ⟨P, [], t⟩ x
      · rw [hq] at HCL
        have hno := HNO.out hq
        go_wp2_with fail
        refine HCL.out.mono ?_
        rintro e w5 ⟨rfl, hg5⟩
        have HGE := Lib.hid (HKX.out.grown.trans hg5)
        have HNN := Lib.hid hno
        clear hno hg5 HCL hq HNO HOKY
        go_wp2
        refine bodyPost_ret (v := .tuple #[.pointer none, .int .i64 4]) (by simp [results, Tryz.results17, go_sem]; try rfl) rfl ?_
        exact .inr ⟨fun h => HNN.out h.1, rfl, HGE.out⟩
      · rw [hq] at HCL
        have HOKN := Lib.hid (HOKY.out hq)
        clear hq HNO HOKY
        go_wp2_with fail
        refine HCL.out.mono ?_
        rintro e w5 ⟨rfl, hg5⟩
        have HK5 := Lib.hid (HKX.out.gr hg5)
        have HX5 := Lib.hid (HXB.out.gr hg5)
        clear hg5 HCL x0 x1 x2 x3 HKX HXB
        obtain ⟨av, kv, hav, _⟩ := ownsRow_slice HK5.out.r1
        subst hav
        have hga : Gr w5 (w5.alloc (.cells #[.int .i64 x.ses, .string x.txt, .bool x.ex, .int .u64 x.tok] 42)).drew := ((Gr.refl _).alloc _).drew
        have HKA := Lib.hid (HK5.out.gr hga)
        have HXA := Lib.hid (HX5.out.gr hga)
        have HNX : Hid ((Value.slice av P.length kv).ownBlock ≠ some cx) := HRL
        have hrow : (w5.alloc (.cells #[.int .i64 x.ses, .string x.txt, .bool x.ex, .int .u64 x.tok] 42)).drew.ownsRow w.heap.size 42 4 (.slice av P.length kv) P.length (rcells encLok P) := HKA.out.r1
        have hbase : w.heap.size ≤ (w5.alloc (.cells #[.int .i64 x.ses, .string x.txt, .bool x.ex, .int .u64 x.tok] 42)).drew.heap.size := HKA.out.grown.size
        go_upto_region 7 with fail
        have b0 := HK5.out.blk.cell (i := 0) rfl
        have x0 := HX5.out.cell (i := 0) rfl
        have x1 := HX5.out.cell (i := 1) rfl
        have x2 := HX5.out.cell (i := 2) rfl
        have x3 := HX5.out.cell (i := 3) rfl
        go_wp2_with fail
        refine late_start (fun i => decide (10 ≤ i)) (fun w9 => w9.cell? ⟨b, 0, none⟩ = some (.slice av P.length kv) ∧ w9.cell? ⟨cx, 0, none⟩ = some (.int .i64 x.ses) ∧ w9.cell? ⟨cx, 1, none⟩ = some (.string x.txt) ∧ w9.cell? ⟨cx, 2, none⟩ = some (.bool x.ex) ∧ w9.cell? ⟨cx, 3, none⟩ = some (.int .u64 x.tok)) (by kernel_rfl) ?invd1 (fun h0 => ?_)
        case invd1 => ((try dsimp only); (exact ⟨b0, x0, x1, x2, x3⟩))
        refine late_take (i := 0) (oi := { dst := some 25, op := Go.Op.move (Go.Operand.tmp 8), type := 25, pos := "load.go:17", after := #[], guard := none }) (v := ?vd11) rfl (by kernel_rfl) (by kernel_rfl) (by kernel_rfl) (by kernel_rfl) (by kernel_rfl) (fun _ _ _ h => h) (Or.inl ⟨by rfl, ?rd11⟩) (by assumption) ?_
        case rd11 => (intro w hSw; (try dsimp only at hSw); (go_simp <;> with_reducible rfl))
        try simp only [Act.put, List.setIfInBounds_toArray, List.set_cons_zero, List.set_cons_succ]
        refine late_take (i := 1) (oi := { dst := some 26, op := Go.Op.move (Go.Operand.tmp 8), type := 25, pos := "load.go:17", after := #[], guard := none }) (v := ?vd12) rfl (by kernel_rfl) (by kernel_rfl) (by kernel_rfl) (by kernel_rfl) (by kernel_rfl) (fun _ _ _ h => h) (Or.inl ⟨by rfl, ?rd12⟩) (by assumption) ?_
        case rd12 => (intro w hSw; (try dsimp only at hSw); (go_simp <;> with_reducible rfl))
        try simp only [Act.put, List.setIfInBounds_toArray, List.set_cons_zero, List.set_cons_succ]
        refine late_take (i := 2) (oi := { dst := some 27, op := Go.Op.nilCheck (Go.Operand.tmp 26), type := 0, pos := "load.go:17", after := #[⟨1, .data⟩], guard := none }) (v := ?vd13) rfl (by kernel_rfl) (by kernel_rfl) (by kernel_rfl) (by kernel_rfl) (by kernel_rfl) (fun _ _ _ h => h) (Or.inl ⟨by rfl, ?rd13⟩) (by assumption) ?_
        case rd13 => (intro w hSw; (try dsimp only at hSw); (go_simp <;> with_reducible rfl))
        try simp only [Act.put, List.setIfInBounds_toArray, List.set_cons_zero, List.set_cons_succ]
        refine late_take (i := 3) (oi := { dst := some 28, op := Go.Op.fieldAddr 69 (Go.Operand.tmp 27) 0, type := 0, pos := "load.go:17", after := #[⟨2, .data⟩], guard := none }) (v := ?vd14) rfl (by kernel_rfl) (by kernel_rfl) (by kernel_rfl) (by kernel_rfl) (by kernel_rfl) (fun _ _ _ h => h) (Or.inl ⟨by rfl, ?rd14⟩) (by assumption) ?_
        case rd14 => (intro w hSw; (try dsimp only at hSw); (go_simp <;> with_reducible rfl))
        try simp only [Act.put, List.setIfInBounds_toArray, List.set_cons_zero, List.set_cons_succ]
        refine late_take (i := 4) (oi := { dst := some 29, op := Go.Op.load 37 (Go.Operand.tmp 28), type := 37, pos := "load.go:17", after := #[⟨3, .data⟩], guard := none }) (v := ?vd15) rfl (by kernel_rfl) (by kernel_rfl) (by kernel_rfl) (by kernel_rfl) (by kernel_rfl) (fun _ _ _ h => h) (Or.inl ⟨by rfl, ?rd15⟩) (by assumption) ?_
        case rd15 => (intro w hSw; (try dsimp only at hSw); (go_simp <;> with_reducible rfl))
        try simp only [Act.put, List.setIfInBounds_toArray, List.set_cons_zero, List.set_cons_succ]
        refine late_take (i := 5) (oi := { dst := some 30, op := Go.Op.load 42 (Go.Operand.tmp 10), type := 42, pos := "load.go:17", after := #[], guard := none }) (v := ?vd16) rfl (by kernel_rfl) (by kernel_rfl) (by kernel_rfl) (by kernel_rfl) (by kernel_rfl) (fun _ _ _ h => h) (Or.inl ⟨by rfl, ?rd16⟩) (by assumption) ?_
        case rd16 => (intro w hSw; (try dsimp only at hSw); (go_simp <;> with_reducible rfl))
        try simp only [Act.put, List.setIfInBounds_toArray, List.set_cons_zero, List.set_cons_succ]
        refine late_ready (rs := [6]) (by kernel_rfl) (by simp) ?_
        refine LateAll.cons (o := { dst := some 31, op := Go.Op.buildSlice 37 1 #[(0, Go.Operand.tmp 30)], type := 37, pos := "load.go:17", after := #[⟨5, .data⟩], guard := none }) rfl (fun K hK => ?_) LateAll.nil
        go_simp
        skip
        first | refine hK.out _ _ ?sd17 (fun h7 => ?_) | (go_wp2_with fail; refine hK.out _ _ ?sd17 (fun h7 => ?_))
        case sd17 => ((try dsimp only); (first | exact ⟨QC.out.cell (i := 0) rfl, QX.out.cell (i := 0) rfl, QX.out.cell (i := 1) rfl, QX.out.cell (i := 2) rfl, QX.out.cell (i := 3) rfl⟩ | exact ⟨((Gr.refl _).alloc _).cell h0.1, ((Gr.refl _).alloc _).cell h0.2.1, ((Gr.refl _).alloc _).cell h0.2.2.1, ((Gr.refl _).alloc _).cell h0.2.2.2.1, ((Gr.refl _).alloc _).cell h0.2.2.2.2⟩))
        clear hK K h0
        try simp only [Act.put, List.setIfInBounds_toArray, List.set_cons_zero, List.set_cons_succ]
        refine late_ready (rs := [7]) (by kernel_rfl) (by simp) ?_
        refine LateAll.cons (o := { dst := some 32, op := Go.Op.call { callee := Go.Callee.builtin Go.Builtin.append, args := #[Go.Operand.tmp 29, Go.Operand.tmp 31], argTypes := #[37, 37] }, type := 37, pos := "load.go:17", after := #[⟨4, .data⟩, ⟨6, .data⟩], guard := none }) rfl (fun K hK => ?_) LateAll.nil
        refine step_append_lies _ (by rfl) (.tmp 29) (.tmp 31) 37 (by rfl) w.heap.size 42 i0 (.agg #[.int .i64 0, .string ⟨#[]⟩, .bool false, .int .u64 0]) 4 40 Tryz.underlying37 hi hz0 hz1 hz2 rfl (by decide) (.slice av P.length kv) P.length (rcells encLok P) (by rfl) (by exact hrow) ⟨w5.heap.size, 0, none⟩ 1 1 [.int .i64 x.ses, .string x.txt, .bool x.ex, .int .u64 x.tok] (by rfl) (by rfl) (World.news_of_block (cs := #[.int .i64 x.ses, .string x.txt, .bool x.ex, .int .u64 x.tok]) (t := 42) (fr := (0, 0)) (heap_alloc_new w5 _)) (by intro u hu; simp at hu; rcases hu with rfl | rfl | rfl | rfl <;> rfl) (by omega) (by unfold maxLen; omega) (by omega) (by exact hbase) _ rfl ?_
        intro g7 cap7 w7 hown7 hgrow7 hat7 hlt7
        have QK := Lib.hid (bk_put1 (x := x) HKA.out hgrow7 hown7 hat7)
        have QC := Lib.hid (HKA.out.blk.keptB hgrow7 (row_offL HKA.out.blk HKA.out.r1 (by decide)))
        have QX := Lib.hid (HXA.out.keptB hgrow7 (fun e => by have h8 := (HKA.out.r1.lt _ e).2; exact HNX.out (by simpa using e)))
        clear hown7 hgrow7 hat7 hlt7
        first | refine hK.out _ _ ?sd18 (fun h8 => ?_) | (go_wp2_with fail; refine hK.out _ _ ?sd18 (fun h8 => ?_))
        case sd18 => ((try dsimp only); (first | exact ⟨QC.out.cell (i := 0) rfl, QX.out.cell (i := 0) rfl, QX.out.cell (i := 1) rfl, QX.out.cell (i := 2) rfl, QX.out.cell (i := 3) rfl⟩ | exact ⟨((Gr.refl _).alloc _).cell h7.1, ((Gr.refl _).alloc _).cell h7.2.1, ((Gr.refl _).alloc _).cell h7.2.2.1, ((Gr.refl _).alloc _).cell h7.2.2.2.1, ((Gr.refl _).alloc _).cell h7.2.2.2.2⟩))
        clear hK K h7
        try simp only [Act.put, List.setIfInBounds_toArray, List.set_cons_zero, List.set_cons_succ]
        refine late_take (i := 8) (oi := { dst := some 33, op := Go.Op.nilCheck (Go.Operand.tmp 25), type := 0, pos := "load.go:17", after := #[⟨0, .data⟩, ⟨0, .phase⟩, ⟨1, .phase⟩, ⟨2, .phase⟩, ⟨3, .phase⟩, ⟨4, .phase⟩, ⟨5, .phase⟩, ⟨6, .phase⟩, ⟨7, .phase⟩], guard := none }) (v := ?vd19) rfl (by kernel_rfl) (by kernel_rfl) (by kernel_rfl) (by kernel_rfl) (by kernel_rfl) (fun _ _ _ h => h) (Or.inl ⟨by rfl, ?rd19⟩) (by assumption) ?_
        case rd19 => (intro w hSw; (try dsimp only at hSw); (go_simp <;> with_reducible rfl))
        try simp only [Act.put, List.setIfInBounds_toArray, List.set_cons_zero, List.set_cons_succ]
        refine late_take (i := 9) (oi := { dst := some 34, op := Go.Op.fieldAddr 69 (Go.Operand.tmp 33) 0, type := 0, pos := "load.go:17", after := #[⟨8, .data⟩, ⟨0, .phase⟩, ⟨1, .phase⟩, ⟨2, .phase⟩, ⟨3, .phase⟩, ⟨4, .phase⟩, ⟨5, .phase⟩, ⟨6, .phase⟩, ⟨7, .phase⟩], guard := none }) (v := ?vd110) rfl (by kernel_rfl) (by kernel_rfl) (by kernel_rfl) (by kernel_rfl) (by kernel_rfl) (fun _ _ _ h => h) (Or.inl ⟨by rfl, ?rd110⟩) (by assumption) ?_
        case rd110 => (intro w hSw; (try dsimp only at hSw); (go_simp <;> with_reducible rfl))
        try simp only [Act.put, List.setIfInBounds_toArray, List.set_cons_zero, List.set_cons_succ]
        have z0 := QC.out.cell (i := 0) rfl
        have z1 := QC.out.free 0
        refine late_go (by kernel_rfl) ?_
        refine any_one (i := 10) (o := { dst := none, op := Go.Op.store 37 (Go.Operand.tmp 34) (Go.Operand.tmp 32), type := 0, pos := "load.go:17", after := #[⟨9, .data⟩, ⟨7, .data⟩, ⟨7, .chain⟩, ⟨0, .phase⟩, ⟨1, .phase⟩, ⟨2, .phase⟩, ⟨3, .phase⟩, ⟨4, .phase⟩, ⟨5, .phase⟩, ⟨6, .phase⟩, ⟨7, .phase⟩], guard := none }) (by kernel_rfl) rfl (fun K hK => ?_)
        go_simp
        refine hK.out _ _ ?_
        clear hK K
        try simp only [Act.put, List.setIfInBounds_toArray, List.set_cons_zero, List.set_cons_succ]
        refine any_done (by kernel_rfl) ?_
        clear z0 z1 b0 x0 x1 x2 x3 h8 QC QX
        go_wp2
        go_roundw
        case rel => exact ⟨k + 1, _, hlt, by go_num, Lib.hid (by rw [HTK.out]; exact QK.out), HOKN⟩
        case measure => simp [intOf]; omega
    · obtain rfl : k = L.length := by omega
      rw [List.take_length] at hK
      have HOKF := Lib.hid (show OkH L t from fun j hj => hO.out j hj hj)
      have HK1 : Hid (BkIs w wr b u1 (.slice none 0 0) ⟨L, M.take 0, t⟩) := hK
      have HOH := HOKF
      clear hK hO HOKF
      go_wp2_with fail
      go_loopw [38] (fun i wr => ∃ (k : Nat) (u1 u2 : Value), k ≤ M.length ∧ i = .int .i64 k ∧ Hid (BkIs w wr b u1 u2 ⟨L, M.take k, t⟩) ∧ Hid (∀ j (hj : j < M.length), j < k → waitB ⟨L, M.take j, t⟩ M[j] = true)) (fun i _ => M.length - (intOf i).toNat)
      case atStart => exact ⟨0, _, _, by omega, rfl, HK1, Lib.hid (fun j hj h => by omega)⟩
      case round =>
        clear HK1
        obtain ⟨k, u1, u2, hk, rfl, hK, hO⟩ := hrel
        by_cases hlt : k < M.length
        · obtain ⟨g, cap, hv, d0, d1, d2, d3⟩ := (H2.out.gr hK.out.grown).at k hlt
          simp only [Value.slice.injEq] at hv
          obtain ⟨rfl, hnn, rfl⟩ := hv
          clear hnn
          have HTK := Lib.hid (List.take_succ_eq_append_getElem hlt)
          have hpx := HP2.out _ (List.getElem_mem hlt)
          have HPP := Lib.hid (show ∀ y ∈ M.take k, IsPath y.txt from fun y hy => HP2.out y (List.mem_of_mem_take hy))
          have hpl : (M.take k).length ≤ M.length := by rw [List.length_take]; omega
          have HNO := Lib.hid (show waitB (⟨L, M.take k, t⟩) M[k] = false → ¬ OkW L M t from fun e h => by rw [h k hlt] at e; simp at e)
          have HOKY := Lib.hid (show waitB (⟨L, M.take k, t⟩) M[k] = true → ∀ j (hj : j < M.length), j < k + 1 → waitB ⟨L, M.take j, t⟩ M[j] = true from fun e j hj h => by
            rcases Nat.lt_or_ge j k with q | q
            · exact hO.out j hj q
            · obtain rfl : j = k := by omega
              exact e)
          have HKX := Lib.hid (hK.out.gr ((Gr.refl wr).alloc (.cells #[.int .i64 M[k].ses, .string M[k].txt, .bool M[k].ex, .int .u64 M[k].tok] 42)))
          have HXB := Lib.hid (Blk.new wr #[.int .i64 M[k].ses, .string M[k].txt, .bool M[k].ex, .int .u64 M[k].tok] 42)
          have HNB := Lib.hid (show ∀ v m, v.ownBlock = some m → wr.ownsRow w.heap.size 42 4 v 0 [] → True from fun _ _ _ _ => trivial)
          generalize M[k] = x at *
          generalize M.take k = P at *
          go_upto_region 12 with fail
          have HRL := Lib.hid (show u2.ownBlock ≠ some wr.heap.size from fun e => by have := (hK.out.r2.lt _ e).2; omega)
          generalize wr.alloc (.cells #[.int .i64 x.ses, .string x.txt, .bool x.ex, .int .u64 x.tok] 42) = wx at *
          generalize wr.heap.size = cx at *
          clear d0 d1 d2 d3 hK hO HNB
          have x0 := HXB.out.cell (i := 0) rfl
          have x1 := HXB.out.cell (i := 1) rfl
          have x2 := HXB.out.cell (i := 2) rfl
          have x3 := HXB.out.cell (i := 3) rfl
          have HCL := Lib.hid (wait_any x wx HKX.out (by simp only []; omega) hpx HPL.out (fun y hy => HPP.out y hy))
          cases hq : waitB ⟨L, P, t⟩ x
          · rw [hq] at HCL
            have hno := HNO.out hq
            go_wp2_with fail
            refine HCL.out.mono ?_
            rintro e w5 ⟨rfl, hg5⟩
            have HGE := Lib.hid (HKX.out.grown.trans hg5)
            have HNN := Lib.hid hno
            clear hno hg5 HCL hq HNO HOKY
            go_wp2
            refine bodyPost_ret (v := .tuple #[.pointer none, .int .i64 4]) (by simp [results, Tryz.results17, go_sem]; try rfl) rfl ?_
            exact .inr ⟨fun h => HNN.out h.2, rfl, HGE.out⟩
          · rw [hq] at HCL
            have HOKN := Lib.hid (HOKY.out hq)
            clear hq HNO HOKY
            go_wp2_with fail
            refine HCL.out.mono ?_
            rintro e w5 ⟨rfl, hg5⟩
            have HK5 := Lib.hid (HKX.out.gr hg5)
            have HX5 := Lib.hid (HXB.out.gr hg5)
            clear hg5 HCL x0 x1 x2 x3 HKX HXB
            obtain ⟨av, kv, hav, _⟩ := ownsRow_slice HK5.out.r2
            subst hav
            have hga : Gr w5 (w5.alloc (.cells #[.int .i64 x.ses, .string x.txt, .bool x.ex, .int .u64 x.tok] 42)).drew := ((Gr.refl _).alloc _).drew
            have HKA := Lib.hid (HK5.out.gr hga)
            have HXA := Lib.hid (HX5.out.gr hga)
            have HNX : Hid ((Value.slice av P.length kv).ownBlock ≠ some cx) := HRL
            have hrow : (w5.alloc (.cells #[.int .i64 x.ses, .string x.txt, .bool x.ex, .int .u64 x.tok] 42)).drew.ownsRow w.heap.size 42 4 (.slice av P.length kv) P.length (rcells encLok P) := HKA.out.r2
            have hbase : w.heap.size ≤ (w5.alloc (.cells #[.int .i64 x.ses, .string x.txt, .bool x.ex, .int .u64 x.tok] 42)).drew.heap.size := HKA.out.grown.size
            go_upto_region 14 with fail
            have b0 := HK5.out.blk.cell (i := 1) rfl
            have x0 := HX5.out.cell (i := 0) rfl
            have x1 := HX5.out.cell (i := 1) rfl
            have x2 := HX5.out.cell (i := 2) rfl
            have x3 := HX5.out.cell (i := 3) rfl
            go_wp2_with fail
            refine late_start (fun i => decide (10 ≤ i)) (fun w9 => w9.cell? ⟨b, 1, none⟩ = some (.slice av P.length kv) ∧ w9.cell? ⟨cx, 0, none⟩ = some (.int .i64 x.ses) ∧ w9.cell? ⟨cx, 1, none⟩ = some (.string x.txt) ∧ w9.cell? ⟨cx, 2, none⟩ = some (.bool x.ex) ∧ w9.cell? ⟨cx, 3, none⟩ = some (.int .u64 x.tok)) (by kernel_rfl) ?invd2 (fun h0 => ?_)
            case invd2 => ((try dsimp only); (exact ⟨b0, x0, x1, x2, x3⟩))
            refine late_take (i := 0) (oi := { dst := some 46, op := Go.Op.move (Go.Operand.tmp 8), type := 25, pos := "load.go:23", after := #[], guard := none }) (v := ?vd21) rfl (by kernel_rfl) (by kernel_rfl) (by kernel_rfl) (by kernel_rfl) (by kernel_rfl) (fun _ _ _ h => h) (Or.inl ⟨by rfl, ?rd21⟩) (by assumption) ?_
            case rd21 => (intro w hSw; (try dsimp only at hSw); (go_simp <;> with_reducible rfl))
            try simp only [Act.put, List.setIfInBounds_toArray, List.set_cons_zero, List.set_cons_succ]
            refine late_take (i := 1) (oi := { dst := some 47, op := Go.Op.move (Go.Operand.tmp 8), type := 25, pos := "load.go:23", after := #[], guard := none }) (v := ?vd22) rfl (by kernel_rfl) (by kernel_rfl) (by kernel_rfl) (by kernel_rfl) (by kernel_rfl) (fun _ _ _ h => h) (Or.inl ⟨by rfl, ?rd22⟩) (by assumption) ?_
            case rd22 => (intro w hSw; (try dsimp only at hSw); (go_simp <;> with_reducible rfl))
            try simp only [Act.put, List.setIfInBounds_toArray, List.set_cons_zero, List.set_cons_succ]
            refine late_take (i := 2) (oi := { dst := some 48, op := Go.Op.nilCheck (Go.Operand.tmp 47), type := 0, pos := "load.go:23", after := #[⟨1, .data⟩], guard := none }) (v := ?vd23) rfl (by kernel_rfl) (by kernel_rfl) (by kernel_rfl) (by kernel_rfl) (by kernel_rfl) (fun _ _ _ h => h) (Or.inl ⟨by rfl, ?rd23⟩) (by assumption) ?_
            case rd23 => (intro w hSw; (try dsimp only at hSw); (go_simp <;> with_reducible rfl))
            try simp only [Act.put, List.setIfInBounds_toArray, List.set_cons_zero, List.set_cons_succ]
            refine late_take (i := 3) (oi := { dst := some 49, op := Go.Op.fieldAddr 69 (Go.Operand.tmp 48) 1, type := 0, pos := "load.go:23", after := #[⟨2, .data⟩], guard := none }) (v := ?vd24) rfl (by kernel_rfl) (by kernel_rfl) (by kernel_rfl) (by kernel_rfl) (by kernel_rfl) (fun _ _ _ h => h) (Or.inl ⟨by rfl, ?rd24⟩) (by assumption) ?_
            case rd24 => (intro w hSw; (try dsimp only at hSw); (go_simp <;> with_reducible rfl))
            try simp only [Act.put, List.setIfInBounds_toArray, List.set_cons_zero, List.set_cons_succ]
            refine late_take (i := 4) (oi := { dst := some 50, op := Go.Op.load 37 (Go.Operand.tmp 49), type := 37, pos := "load.go:23", after := #[⟨3, .data⟩], guard := none }) (v := ?vd25) rfl (by kernel_rfl) (by kernel_rfl) (by kernel_rfl) (by kernel_rfl) (by kernel_rfl) (fun _ _ _ h => h) (Or.inl ⟨by rfl, ?rd25⟩) (by assumption) ?_
            case rd25 => (intro w hSw; (try dsimp only at hSw); (go_simp <;> with_reducible rfl))
            try simp only [Act.put, List.setIfInBounds_toArray, List.set_cons_zero, List.set_cons_succ]
            refine late_take (i := 5) (oi := { dst := some 51, op := Go.Op.load 42 (Go.Operand.tmp 12), type := 42, pos := "load.go:23", after := #[], guard := none }) (v := ?vd26) rfl (by kernel_rfl) (by kernel_rfl) (by kernel_rfl) (by kernel_rfl) (by kernel_rfl) (fun _ _ _ h => h) (Or.inl ⟨by rfl, ?rd26⟩) (by assumption) ?_
            case rd26 => (intro w hSw; (try dsimp only at hSw); (go_simp <;> with_reducible rfl))
            try simp only [Act.put, List.setIfInBounds_toArray, List.set_cons_zero, List.set_cons_succ]
            refine late_ready (rs := [6]) (by kernel_rfl) (by simp) ?_
            refine LateAll.cons (o := { dst := some 52, op := Go.Op.buildSlice 37 1 #[(0, Go.Operand.tmp 51)], type := 37, pos := "load.go:23", after := #[⟨5, .data⟩], guard := none }) rfl (fun K hK => ?_) LateAll.nil
            go_simp
            skip
            first | refine hK.out _ _ ?sd27 (fun h7 => ?_) | (go_wp2_with fail; refine hK.out _ _ ?sd27 (fun h7 => ?_))
            case sd27 => ((try dsimp only); (first | exact ⟨QC.out.cell (i := 1) rfl, QX.out.cell (i := 0) rfl, QX.out.cell (i := 1) rfl, QX.out.cell (i := 2) rfl, QX.out.cell (i := 3) rfl⟩ | exact ⟨((Gr.refl _).alloc _).cell h0.1, ((Gr.refl _).alloc _).cell h0.2.1, ((Gr.refl _).alloc _).cell h0.2.2.1, ((Gr.refl _).alloc _).cell h0.2.2.2.1, ((Gr.refl _).alloc _).cell h0.2.2.2.2⟩))
            clear hK K h0
            try simp only [Act.put, List.setIfInBounds_toArray, List.set_cons_zero, List.set_cons_succ]
            refine late_ready (rs := [7]) (by kernel_rfl) (by simp) ?_
            refine LateAll.cons (o := { dst := some 53, op := Go.Op.call { callee := Go.Callee.builtin Go.Builtin.append, args := #[Go.Operand.tmp 50, Go.Operand.tmp 52], argTypes := #[37, 37] }, type := 37, pos := "load.go:23", after := #[⟨4, .data⟩, ⟨6, .data⟩], guard := none }) rfl (fun K hK => ?_) LateAll.nil
            refine step_append_lies _ (by rfl) (.tmp 50) (.tmp 52) 37 (by rfl) w.heap.size 42 i0 (.agg #[.int .i64 0, .string ⟨#[]⟩, .bool false, .int .u64 0]) 4 40 Tryz.underlying37 hi hz0 hz1 hz2 rfl (by decide) (.slice av P.length kv) P.length (rcells encLok P) (by rfl) (by exact hrow) ⟨w5.heap.size, 0, none⟩ 1 1 [.int .i64 x.ses, .string x.txt, .bool x.ex, .int .u64 x.tok] (by rfl) (by rfl) (World.news_of_block (cs := #[.int .i64 x.ses, .string x.txt, .bool x.ex, .int .u64 x.tok]) (t := 42) (fr := (0, 0)) (heap_alloc_new w5 _)) (by intro u hu; simp at hu; rcases hu with rfl | rfl | rfl | rfl <;> rfl) (by omega) (by unfold maxLen; omega) (by omega) (by exact hbase) _ rfl ?_
            intro g7 cap7 w7 hown7 hgrow7 hat7 hlt7
            have QK := Lib.hid (bk_put2 (x := x) HKA.out hgrow7 hown7 hat7)
            have QC := Lib.hid (HKA.out.blk.keptB hgrow7 (row_offL HKA.out.blk HKA.out.r2 (by decide)))
            have QX := Lib.hid (HXA.out.keptB hgrow7 (fun e => by have h8 := (HKA.out.r2.lt _ e).2; exact HNX.out (by simpa using e)))
            clear hown7 hgrow7 hat7 hlt7
            first | refine hK.out _ _ ?sd28 (fun h8 => ?_) | (go_wp2_with fail; refine hK.out _ _ ?sd28 (fun h8 => ?_))
            case sd28 => ((try dsimp only); (first | exact ⟨QC.out.cell (i := 1) rfl, QX.out.cell (i := 0) rfl, QX.out.cell (i := 1) rfl, QX.out.cell (i := 2) rfl, QX.out.cell (i := 3) rfl⟩ | exact ⟨((Gr.refl _).alloc _).cell h7.1, ((Gr.refl _).alloc _).cell h7.2.1, ((Gr.refl _).alloc _).cell h7.2.2.1, ((Gr.refl _).alloc _).cell h7.2.2.2.1, ((Gr.refl _).alloc _).cell h7.2.2.2.2⟩))
            clear hK K h7
            try simp only [Act.put, List.setIfInBounds_toArray, List.set_cons_zero, List.set_cons_succ]
            refine late_take (i := 8) (oi := { dst := some 54, op := Go.Op.nilCheck (Go.Operand.tmp 46), type := 0, pos := "load.go:23", after := #[⟨0, .data⟩, ⟨0, .phase⟩, ⟨1, .phase⟩, ⟨2, .phase⟩, ⟨3, .phase⟩, ⟨4, .phase⟩, ⟨5, .phase⟩, ⟨6, .phase⟩, ⟨7, .phase⟩], guard := none }) (v := ?vd29) rfl (by kernel_rfl) (by kernel_rfl) (by kernel_rfl) (by kernel_rfl) (by kernel_rfl) (fun _ _ _ h => h) (Or.inl ⟨by rfl, ?rd29⟩) (by assumption) ?_
            case rd29 => (intro w hSw; (try dsimp only at hSw); (go_simp <;> with_reducible rfl))
            try simp only [Act.put, List.setIfInBounds_toArray, List.set_cons_zero, List.set_cons_succ]
            refine late_take (i := 9) (oi := { dst := some 55, op := Go.Op.fieldAddr 69 (Go.Operand.tmp 54) 1, type := 0, pos := "load.go:23", after := #[⟨8, .data⟩, ⟨0, .phase⟩, ⟨1, .phase⟩, ⟨2, .phase⟩, ⟨3, .phase⟩, ⟨4, .phase⟩, ⟨5, .phase⟩, ⟨6, .phase⟩, ⟨7, .phase⟩], guard := none }) (v := ?vd210) rfl (by kernel_rfl) (by kernel_rfl) (by kernel_rfl) (by kernel_rfl) (by kernel_rfl) (fun _ _ _ h => h) (Or.inl ⟨by rfl, ?rd210⟩) (by assumption) ?_
            case rd210 => (intro w hSw; (try dsimp only at hSw); (go_simp <;> with_reducible rfl))
            try simp only [Act.put, List.setIfInBounds_toArray, List.set_cons_zero, List.set_cons_succ]
            have z0 := QC.out.cell (i := 1) rfl
            have z1 := QC.out.free 1
            refine late_go (by kernel_rfl) ?_
            refine any_one (i := 10) (o := { dst := none, op := Go.Op.store 37 (Go.Operand.tmp 55) (Go.Operand.tmp 53), type := 0, pos := "load.go:23", after := #[⟨9, .data⟩, ⟨7, .data⟩, ⟨7, .chain⟩, ⟨0, .phase⟩, ⟨1, .phase⟩, ⟨2, .phase⟩, ⟨3, .phase⟩, ⟨4, .phase⟩, ⟨5, .phase⟩, ⟨6, .phase⟩, ⟨7, .phase⟩], guard := none }) (by kernel_rfl) rfl (fun K hK => ?_)
            go_simp
            refine hK.out _ _ ?_
            clear hK K
            try simp only [Act.put, List.setIfInBounds_toArray, List.set_cons_zero, List.set_cons_succ]
            refine any_done (by kernel_rfl) ?_
            clear z0 z1 b0 x0 x1 x2 x3 h8 QC QX
            go_wp2
            go_roundw
            case rel => exact ⟨k + 1, _, _, hlt, by go_num, Lib.hid (by rw [HTK.out]; exact QK.out), HOKN⟩
            case measure => simp [intOf]; omega
        · obtain rfl : k = M.length := by omega
          rw [List.take_length] at hK
          have HOKF := Lib.hid (show OkW L M t from fun j hj => hO.out j hj hj)
          have HOW := HOKF
          go_wp2
          refine bodyPost_ret (v := .tuple #[.pointer (some ⟨b, 0, none⟩), .int .i64 0]) (by simp [results, Tryz.results17, go_sem]; try rfl) rfl ?_
          exact .inl ⟨HOH.out, HOW.out, b, u1, u2, rfl, hb, hK.out⟩
end Go.Proofs.YtmgpnpmdmelnkaaGreatDoor
namespace Go.Proofs.YtmgpnpmdmelnkaaGreatDoor
open Go.ChangeShapes Go.WideShapes Go.ChangeAt Go.RowKit
set_option linter.unusedVariables false
set_option linter.unusedSimpArgs false
/-- What a loaded row of locks that are held keeps. -/
theorem ok_held {L : List Lok} {t : Int} (h : OkH L t) (j : Nat) (hj : j < L.length) : (L[j].tok == 0) = false ∧ decide (t < L[j].tok) = false ∧ decide (L[j].ses < 1) = false ∧ ∀ i (hi : i < j), cflB L[j] L[i] = false ∧ (L[j].tok == L[i].tok) = false := by
  have q := h j hj
  unfold holdB roomB at q
  simp only [Bool.and_eq_true, decide_eq_true_eq, Bool.not_eq_true', List.any_eq_false] at q
  obtain ⟨⟨⟨⟨_, q1, _⟩, q2, q3⟩, q4⟩, q5⟩ := q
  refine ⟨by simpa using q2, decide_eq_false (by omega), decide_eq_false (by omega), fun i hi => ?_⟩
  have hm : L[i] ∈ L.take j := by
    have hl : i < (L.take j).length := by rw [List.length_take]; omega
    have e : (L.take j)[i] = L[i] := List.getElem_take
    rw [← e]; exact List.getElem_mem hl
  exact ⟨by simpa using q5 _ hm, by simpa using q4 _ hm⟩
/-- What a loaded row of requests keeps. -/
theorem ok_waits {L M : List Lok} {t : Int} (h : OkW L M t) (j : Nat) (hj : j < M.length) : (M[j].tok == 0) = true ∧ (decide (t < 18446744073709551615) = false ∨ (!((L ++ M.take j).any (cflB M[j]))) = false) := by
  have q := h j hj
  unfold waitB at q
  simp only [Bool.and_eq_true, decide_eq_true_eq, Bool.or_eq_true, Bool.not_eq_true'] at q
  obtain ⟨_, _, q1, _, q2⟩ := q
  refine ⟨by simpa using q1, ?_⟩
  rcases q2 with q2 | q2
  · exact .inl (decide_eq_false (by omega))
  · refine .inr ?_
    unfold freeB at q2
    rw [List.any_append]
    revert q2
    cases L.any (cflB M[j]) <;> cases (M.take j).any (cflB M[j]) <;> simp
end Go.Proofs.YtmgpnpmdmelnkaaGreatDoor
