import Derived.Test.YtahohgnkichibaaF15r
import Derived.Test.YtahohgnkichibaaC29
import Derived.Test.YtahohgnkichibaaC31
import Derived.WalkKit
import Derived.ProofKit
import Derived.LoopTactic
import Derived.Outline
import Derived.WalkSpells
import Derived.WalkLawsBesides
import Derived.Lib.Hide
import Derived.Deep.LoopGhost
import Derived.Deep.QuietTactic
import Derived.BigQuiet
import Derived.ShutString
import Derived.IntWalk
import Derived.Lib.MinMax
import Derived.BigQuiet
import Derived.Deep.AppendLies
import Derived.Deep.RegionWith
import Derived.Deep.RegionHeld3
import Derived.Laws.OwnMore
namespace Go.Proofs.Ytahohgnkichibaa
open Go.ChangeShapes Go.WideShapes Go.ChangeAt Go.RowKit
open Rates
set_option linter.unusedVariables false
set_option linter.unusedSimpArgs false
def encG (g : Go15) : List Value := [.int .i64 g.N, .int .i64 g.B, .bool g.E]
theorem encG_len (g : Go15) : (encG g).length = 3 := rfl
theorem encG_one (g : Go15) : ∀ v ∈ encG g, v.oneCell' = true := by
  intro v hv
  simp only [encG, List.mem_cons, List.not_mem_nil, or_false] at hv
  rcases hv with rfl | rfl | rfl <;> rfl
def ints (B : List Int) : List Value := B.map (.int .i64)
theorem ints_len (B : List Int) : (ints B).length = B.length := by simp [ints]
theorem make_n (n : Nat) (h : n ≤ 12) (w : World) : (Instr.makeSlice 57 (.int .i64 (n : Nat)) (.int .i64 (n : Nat))).run Try.prog w = .ok (.slice (some ⟨w.heap.size, 0, none⟩) n n) (w.alloc (.cells (Array.replicate n (.int .i64 0)) 3)) := by
  rcases (show n = 0 ∨ n = 1 ∨ n = 2 ∨ n = 3 ∨ n = 4 ∨ n = 5 ∨ n = 6 ∨ n = 7 ∨ n = 8 ∨ n = 9 ∨ n = 10 ∨ n = 11 ∨ n = 12 by omega) with rfl | rfl | rfl | rfl | rfl | rfl | rfl | rfl | rfl | rfl | rfl | rfl | rfl <;> kernel_rfl
/-- Rows of different kinds lie in different blocks. -/
theorem owns_ne {w : World} {b1 b2 s1 s2 n1 n2 : Nat} {e1 e2 : TypeId} {v1 v2 : Value} {x1 x2 : List Value} (h1 : w.ownsRow b1 e1 s1 v1 n1 x1) (h2 : w.ownsRow b2 e2 s2 v2 n2 x2) (hne : e1 ≠ e2) : v1.ownBlock = none ∨ v1.ownBlock ≠ v2.ownBlock := by
  rcases h1.2 with ⟨rfl, _⟩ | ⟨g, cap, cur, rfl, _, hc, _⟩
  · exact .inl rfl
  · refine .inr (fun e => ?_)
    rcases h2.2 with ⟨rfl, _⟩ | ⟨g2, cap2, cur2, rfl, _, hc2, _⟩
    · simp [Value.ownBlock] at e
    · simp [Value.ownBlock] at e
      subst e
      rw [hc] at hc2
      simp only [Option.some.injEq, Obj.cells.injEq] at hc2
      exact hne hc2.2.1
theorem zrow (w : World) (base n : Nat) (hn : n ≤ 12) (hb : base ≤ w.heap.size) : (w.alloc (.cells (Array.replicate n (.int .i64 0)) 3)).ownsRow base 3 1 (.slice (some ⟨w.heap.size, 0, none⟩) n n) n (ints (List.replicate n 0)) := by
  refine owns_of (cap := n) hb (heap_alloc_new w _) (by simp) (Nat.le_refl _) (by unfold maxLen; omega) (by rw [ints_len]; simp) (fun j u hj => ?_)
  rw [cell_of_row _ _ j _ _ _ (heap_alloc_new w _)]
  have hj2 := (List.getElem?_eq_some_iff.1 hj).1
  rw [ints_len, List.length_replicate] at hj2
  rw [← hj]
  simp [ints, hj2]
structure FewIs (w0 w : World) (n : Nat) (v6 v7 v8 : Value) (G : List Go15) (VS : List Value) (S : List (List Int)) (B : List Int) : Prop where
  gr : Gr w0 w
  out : w.ownsRow w0.heap.size 63 3 v6 G.length (rcells encG G)
  st : w.ownsRow w0.heap.size 57 1 v7 VS.length VS
  by' : w.ownsRow w0.heap.size 3 1 v8 n (ints B)
  len : VS.length = S.length
  each : ∀ i (h : i < VS.length) (h2 : i < S.length), w.ownsRow w0.heap.size 3 1 VS[i] n (ints S[i]) ∧ (VS[i].ownBlock = none ∨ VS[i].ownBlock ≠ v8.ownBlock)
  one : ∀ v ∈ VS, v.oneCell' = true
theorem FewIs.more {w0 w w' : World} {n : Nat} {v6 v7 v8 : Value} {G : List Go15} {VS : List Value} {S : List (List Int)} {B : List Int} (h : FewIs w0 w n v6 v7 v8 G VS S B) (hg : Gr w w') : FewIs w0 w' n v6 v7 v8 G VS S B :=
  ⟨h.gr.trans hg, ownsRow_gr hg h.out, ownsRow_gr hg h.st, ownsRow_gr hg h.by', h.len, fun i h1 h2 => ⟨ownsRow_gr hg (h.each i h1 h2).1, (h.each i h1 h2).2⟩, h.one⟩
theorem FewIs.put {w0 w w' : World} {n : Nat} {v6 v6' v7 v8 : Value} {G : List Go15} {VS : List Value} {S : List (List Int)} {B : List Int} {g : Go15} (h : FewIs w0 w n v6 v7 v8 G VS S B) (hg : w.grownBy w' v6.ownBlock) (ho : w'.ownsRow w0.heap.size 63 3 v6' (G.length + 1) (rcells encG G ++ encG g)) : FewIs w0 w' n v6' v7 v8 (G ++ [g]) VS S B :=
  ⟨h.gr.append h.out hg, by rw [rcells_snoc, List.length_append]; exact ho, h.st.kept hg (owns_ne h.st h.out (by decide)), h.by'.kept hg (owns_ne h.by' h.out (by decide)), h.len, fun i h1 h2 => ⟨(h.each i h1 h2).1.kept hg (owns_ne (h.each i h1 h2).1 h.out (by decide)), (h.each i h1 h2).2⟩, h.one⟩
theorem FewIs.add {w0 w : World} {n j g cap : Nat} {v6 v7 : Value} {G : List Go15} {VS : List Value} {S : List (List Int)} {B : List Int} (h : FewIs w0 w n v6 v7 (.slice (some ⟨g, 0, none⟩) n cap) G VS S B) (hj : j < n) (x : Int) : FewIs w0 (w.setCell ⟨g, j, none⟩ (.int .i64 x)) n v6 v7 (.slice (some ⟨g, 0, none⟩) n cap) G VS S (B.set j x) := by
  have hgr : w.grownBy (w.setCell ⟨g, j, none⟩ (.int .i64 x)) (Value.slice (some ⟨g, 0, none⟩) n cap).ownBlock := ⟨rfl, rfl, rfl, by simp [World.setCell], fun k _ hk => Below.heap_setCell _ _ _ _ (fun e => hk (by rw [e]; rfl))⟩
  refine ⟨h.gr.append h.by' hgr, h.out.kept hgr (owns_ne h.out h.by' (by decide)), h.st.kept hgr (owns_ne h.st h.by' (by decide)), ?_, h.len, fun i h1 h2 => ⟨(h.each i h1 h2).1.kept hgr (h.each i h1 h2).2, (h.each i h1 h2).2⟩, h.one⟩
  have := h.by'.stored j (.int .i64 x)
  rw [show ints (B.set j x) = (ints B).set j (.int .i64 x) by simp [ints]]
  exact this.1
theorem FewIs.step {w0 w w' : World} {n : Nat} {v6 v7 v7' v8 : Value} {G : List Go15} {VS : List Value} {S : List (List Int)} {B : List Int} (h : FewIs w0 w n v6 v7 v8 G VS S B) (hn : n ≤ 12) (hg : w.grownBy w' v7.ownBlock) (ho : w'.ownsRow w0.heap.size 57 1 v7' (VS.length + 1) (VS ++ [v8])) (h1 : v8.oneCell' = true) :
    FewIs w0 (w'.alloc (.cells (Array.replicate n (.int .i64 0)) 3)) n v6 v7' (.slice (some ⟨w'.heap.size, 0, none⟩) n n) G (VS ++ [v8]) (S ++ [B]) (List.replicate n 0) := by
  have hG := (Gr.refl w').alloc (.cells (Array.replicate n (.int .i64 0)) 3)
  have hgr := h.gr.append h.st hg
  have off : ∀ {v : Value} {xs : List Value}, w'.ownsRow w0.heap.size 3 1 v n xs → v.ownBlock = none ∨ v.ownBlock ≠ (Value.slice (some ⟨w'.heap.size, 0, none⟩) n n).ownBlock := fun hv => .inr (fun e => by have := (hv.lt _ e).2; simp at this)
  refine ⟨hgr.trans hG, ownsRow_gr hG (h.out.kept hg (owns_ne h.out h.st (by decide))), ownsRow_gr hG (by rw [List.length_append]; exact ho), zrow w' _ n hn hgr.size, by rw [List.length_append, List.length_append, h.len]; rfl, fun i k1 k2 => ?_, fun v hv => ?_⟩
  · have hby := h.by'.kept hg (owns_ne h.by' h.st (by decide))
    by_cases e : i < VS.length
    · have e2 : i < S.length := by rw [← h.len]; exact e
      rw [List.getElem_append_left e, List.getElem_append_left e2]
      have := (h.each i e e2).1.kept hg (owns_ne (h.each i e e2).1 h.st (by decide))
      exact ⟨ownsRow_gr hG this, off this⟩
    · have e3 : i = VS.length := by rw [List.length_append] at k1; simp at k1; omega
      have e4 : i = S.length := by rw [← h.len]; exact e3
      have a1 : (VS ++ [v8])[i] = v8 := by subst e3; simp
      have a2 : (S ++ [B])[i] = B := by subst e4; simp
      rw [a1, a2]
      exact ⟨ownsRow_gr hG hby, off hby⟩
  · rcases List.mem_append.1 hv with hv | hv
    · exact h.one v hv
    · simp at hv; subst hv; exact h1
def clampG (g : Go15) : Go15 := ⟨g.N, max (-5) (min g.B 1000), g.E⟩
def addB (n : Nat) (B : List Int) (g : Go15) : List Int := if 0 ≤ g.N ∧ g.N < (n : Int) then B.set g.N.toNat (B.getD g.N.toNat 0 + max g.B 0) else B
theorem addB_len (n : Nat) (B : List Int) (g : Go15) : (addB n B g).length = B.length := by unfold addB; split <;> simp
def fewStep (n : Nat) (q : List Int × List (List Int)) (g : Go15) : List Int × List (List Int) := if g.E then (List.replicate n 0, q.2 ++ [addB n q.1 g]) else (addB n q.1 g, q.2)
def fewS (n : Nat) (G : List Go15) : List Int × List (List Int) := G.foldl (fewStep n) (List.replicate n 0, [])
def fewG (L : List Go15) : List Go15 := (L.take 30).map clampG
theorem few_next (n : Nat) (G : List Go15) (g : Go15) : fewS n (G ++ [g]) = fewStep n (fewS n G) g := by unfold fewS; rw [List.foldl_append]; rfl
theorem fewG_take {L : List Go15} {k : Nat} (hk : k < L.length) : (L.take (k + 1)).map clampG = (L.take k).map clampG ++ [clampG L[k]] := by
  rw [List.take_succ_eq_append_getElem hk, List.map_append]; rfl
theorem fewG_all {L : List Go15} {k : Nat} (h : k = 30 ∨ k = L.length ∧ k ≤ 30) : (L.take k).map clampG = fewG L := by
  unfold fewG
  rcases h with rfl | ⟨rfl, h⟩
  · rfl
  · rw [List.take_length, List.take_of_length_le h]
set_option maxRecDepth 100000 in
theorem ginfo : ∃ i0 : TypeInfo, Try.prog.info? 63 = some i0 ∧ i0.zero = some (.agg #[.int .i64 0, .int .i64 0, .bool false]) ∧ i0.size = 3 ∧ i0.bytes = 24 := ⟨_, rfl, rfl, rfl, rfl⟩
set_option maxRecDepth 100000 in
theorem isinfo : ∃ i0 : TypeInfo, Try.prog.info? 57 = some i0 ∧ i0.zero = some (.slice none 0 0) ∧ i0.size = 1 ∧ i0.bytes = 24 := ⟨_, rfl, rfl, rfl, rfl⟩
/-- The advances are not great. -/
def Mild (B : List Int) (n k : Nat) : Prop := B.length = n ∧ ∀ x ∈ B, 0 ≤ x ∧ x ≤ 1000 * (k : Int)
theorem mild_zero (n k : Nat) : Mild (List.replicate n 0) n k := ⟨by simp, fun x hx => by rw [List.eq_of_mem_replicate hx]; omega⟩
theorem mild_add {B : List Int} {n k : Nat} (h : Mild B n k) (g : Go15) (hg : g.B ≤ 1000) : Mild (addB n B g) n (k + 1) := by
  refine ⟨by rw [addB_len]; exact h.1, fun x hx => ?_⟩
  unfold addB at hx
  split at hx
  · rename_i hc
    rcases List.mem_or_eq_of_mem_set hx with h1 | h1
    · have := h.2 x h1; omega
    · have hl : g.N.toNat < B.length := by rw [h.1]; omega
      have hm : B.getD g.N.toNat 0 ∈ B := by rw [List.getD_eq_getElem?_getD, List.getElem?_eq_getElem hl]; exact List.getElem_mem hl
      have := h.2 _ hm
      omega
  · have := h.2 x hx; omega
set_option maxRecDepth 100000 in
set_option maxHeartbeats 4000000 in
theorem few15_any (n : Nat) (hn : n ≤ 12) (L : List Go15) (a : Option Addr) (cap : Nat) (w : World) (hL : Go15Row w a L) :
    Calls Try.prog 21 #[.int .i64 (n : Nat), .slice a L.length cap] w fun e w' => ∃ v6 v7 v8 VS, e = .returned (.tuple #[v6, v7]) ∧ FewIs w w' n v6 v7 v8 (fewG L) VS (fewS n (fewG L)).2 (fewS n (fewG L)).1 := by
  obtain ⟨i0, hi, hz0, hz1, hz2⟩ := ginfo
  obtain ⟨i1, hi1, hy0, hy1, hy2⟩ := isinfo
  have HL := Lib.hid hL
  have hll := hL.1
  clear hL
  have hmk := fun w => make_n n hn w
  go_enter Try.func21, Try.ntmps21
  go_wp2_with (simp only [hmk])
  go_loopw [6, 7, 8, 9] (fun v6 v7 v8 i wr => ∃ (k : Nat) (VS : List Value), k ≤ L.length ∧ k ≤ 30 ∧ i = .int .i64 (k : Nat) ∧ VS.length ≤ k ∧ Hid (FewIs w wr n v6 v7 v8 ((L.take k).map clampG) VS (fewS n ((L.take k).map clampG)).2 (fewS n ((L.take k).map clampG)).1) ∧ Hid (Mild (fewS n ((L.take k).map clampG)).1 n k)) (fun _ _ _ i _ => L.length - (intOf i).toNat)
  case atStart => 
    refine ⟨0, [], by omega, by omega, rfl, by simp, Lib.hid ⟨(Gr.refl _).alloc _, World.ownsRow_nil _ _ _ _, World.ownsRow_nil _ _ _ _, zrow w _ n hn (Nat.le_refl _), rfl, fun i h => absurd h (by simp), by simp⟩, Lib.hid (mild_zero n 0)⟩
  case round =>
    obtain ⟨k, VS, hk, hk30, rfl, hvl, H, HM⟩ := hrel
    by_cases hlt : k < L.length
    · by_cases h30 : k < 30
      · obtain ⟨bb, oo, rfl, hbb, hat, hok⟩ := HL.out.at k hlt
        obtain ⟨c0, c1, c2⟩ := hat.gr H.out.gr
        have hk4 : (k : Int) < (L.length : Int) := by omega
        have HE := Lib.hid (fewG_take hlt)
        generalize L[k] = p at *
        obtain ⟨pN, pB, pE⟩ := p
        simp only [clampG] at c0 c1 c2 HE
        have hB1 : max (-5) (min pB 1000) ≤ 1000 := by omega
        have hB2 : -5 ≤ max (-5) (min pB 1000) := by omega
        have HB1 := Lib.hid (show max (-5) (min pB 1000) = max (-5) (min pB 1000) from rfl)
        clear hat hok
        generalize hG : (L.take k).map clampG = G at *
        have hGl : G.length ≤ 30 := by rw [← hG, List.length_map, List.length_take]; omega
        have HGQ := Lib.hid hG
        clear hG
        obtain ⟨sa, sc, rfl⟩ : ∃ a c, u6 = .slice a G.length c := by obtain ⟨a, c, h, _⟩ := ownsRow_slice H.out.out; exact ⟨a, c, h⟩
        have hrow : ((wr.alloc (.cells #[.int .i64 pN, .int .i64 (max (-5) (min pB 1000)), .bool pE] 63)).alloc (.cells #[.int .i64 pN, .int .i64 (max (-5) (min pB 1000)), .bool pE] 63)).ownsRow w.heap.size 63 3 _ _ _ := ownsRow_gr (((Gr.refl wr).alloc _).alloc _) H.out.out
        have HQ3 := Lib.hid (H.out.more (((Gr.refl wr).alloc (.cells #[.int .i64 pN, .int .i64 (max (-5) (min pB 1000)), .bool pE] 63)).alloc (.cells #[.int .i64 pN, .int .i64 (max (-5) (min pB 1000)), .bool pE] 63)))
        have HZ3 := Lib.hid H.out.gr.size
        have HBX := Lib.hid ((Blk.new wr #[.int .i64 pN, .int .i64 (max (-5) (min pB 1000)), .bool pE] 63).gr ((Gr.refl _).alloc (.cells #[.int .i64 pN, .int .i64 (max (-5) (min pB 1000)), .bool pE] 63)))
        have HUL := Lib.hid (fun g (e : (Value.slice sa G.length sc).ownBlock = some g) => (H.out.out.lt g e).2)
        have HVL := Lib.hid (fun g (e : u8.ownBlock = some g) => (H.out.by'.lt g e).2)
        generalize hFS : fewS n G = FS at *
        have HFS := Lib.hid hFS
        clear hFS
        obtain ⟨B, S⟩ := FS
        simp only at HQ3 HM
        clear H
        go_wp2_with (at_builtin; go_loud (refine wpList_append_lies _ rfl (.tmp 32) (.tmp 34) 45 rfl w.heap.size 63 i0 (.agg #[.int .i64 0, .int .i64 0, .bool false]) 3 24 Try.underlying45 hi hz0 hz1 hz2 rfl (by decide) _ _ _ rfl hrow ⟨wr.heap.size + 1, 0, none⟩ 1 1 [.int .i64 pN, .int .i64 (max (-5) (min pB 1000)), .bool pE] rfl (by simp) ?c1 ?c2 Nat.one_pos ?c3 ?c4 ?c5 _ rfl ?_))
        try case c1 =>
          have := World.news_of_block (cs := #[.int .i64 pN, .int .i64 (max (-5) (min pB 1000)), .bool pE]) (t := 63) (fr := (0, 0)) (heap_alloc_new (wr.alloc (.cells #[.int .i64 pN, .int .i64 (max (-5) (min pB 1000)), .bool pE] 63)) (.cells #[.int .i64 pN, .int .i64 (max (-5) (min pB 1000)), .bool pE] 63))
          first | exact this | rwa [show (wr.alloc (.cells #[.int .i64 pN, .int .i64 (max (-5) (min pB 1000)), .bool pE] 63)).heap.size = wr.heap.size + 1 by simp] at this
        case c2 => first | (intro u hu; simp at hu; rcases hu with rfl | rfl | rfl <;> rfl) | exact ⟨rfl, rfl, rfl⟩
        case c3 => unfold maxLen; omega
        case c4 => omega
        case c5 => have := HZ3.out; simp; omega
        intro g7 cap7 w7 hown7 hgrow7 hat7 hlt7
        have H7 := Lib.hid (FewIs.put (g := ⟨pN, (max (-5) (min pB 1000)), pE⟩) HQ3.out hgrow7 hown7)
        rw [← HE.out] at H7
        have HB7 : Hid (Blk w7 wr.heap.size #[.int .i64 pN, .int .i64 (max (-5) (min pB 1000)), .bool pE] 63) := Lib.hid ((hgrow7.block _ HBX.out.lt (fun e => by have := HUL.out _ e.symm; omega)).trans HBX.out)
        have HSN := Lib.hid (few_next n G ⟨pN, (max (-5) (min pB 1000)), pE⟩)
        rw [← HE.out, HFS.out] at HSN
        have HMA := Lib.hid (mild_add HM.out ⟨pN, (max (-5) (min pB 1000)), pE⟩ hB1)
        generalize hG2 : (L.take (k + 1)).map clampG = G2 at *
        have HG2Q := Lib.hid hG2
        clear hG2
        clear hown7 hgrow7 hat7 hlt7 hrow HQ3 c0 c1 c2 HE HUL HBX HGQ
        have x0 := HB7.out.cell (i := 0) rfl
        have x1 := HB7.out.cell (i := 1) rfl
        by_cases hin : 0 ≤ pN ∧ pN < (n : Int)
        · obtain ⟨j, rfl⟩ : ∃ j : Nat, pN = (j : Int) := ⟨pN.toNat, by omega⟩
          have hj : j < n := by omega
          have hj2 : (j : Int) < (n : Int) := by omega
          have HAD : Hid (addB n B ⟨(j : Nat), (max (-5) (min pB 1000)), pE⟩ = B.set j (B.getD j 0 + max (-5) (max (min pB 1000) 0))) := Lib.hid (by
            unfold addB
            rw [if_pos ⟨by simp, by simpa using hj2⟩]
            show B.set j (B.getD j 0 + max ((max (-5) (min pB 1000))) 0) = _
            rw [show max ((max (-5) (min pB 1000))) 0 = max (-5) (max (min pB 1000) 0) by omega])
          obtain ⟨g8, cap8, cur8, rfl, _, hlt8, _, _, _, _, hil, hat8, _, hfz8⟩ := owns_open H7.out.by' (by omega)
          have hBl : B.length = n := HM.out.1
          have hget : (ints B)[j]? = some (.int .i64 (B.getD j 0)) := by
            unfold ints
            rw [List.getElem?_map, List.getD_eq_getElem?_getD, List.getElem?_eq_getElem (by omega)]; rfl
          have d0 := hat8 j _ hget
          have d1 := hfz8 j
          have hbd : 0 ≤ B.getD j 0 ∧ B.getD j 0 ≤ 1000 * (k : Int) := HM.out.2 _ (by rw [List.getD_eq_getElem?_getD, List.getElem?_eq_getElem (by omega)]; exact List.getElem_mem (by omega))
          have HN8 := Lib.hid (show wr.heap.size ≠ g8 by have := HVL.out g8 rfl; omega)
          have HB8 := Lib.hid (HB7.out.other HN8.out j (.int .i64 (B.getD j 0 + max (-5) (max (min pB 1000) 0))))
          have H8 := Lib.hid ((H7.out.add hj (B.getD j 0 + max (-5) (max (min pB 1000) 0))).more (Gr.refl _).drew)
          rw [← HAD.out] at H8
          clear hat8 hfz8 hil hget H7 HB7
          generalize hbj : B.getD j 0 = bj at *
          clear hbj
          have hw1 : IntKind.i64.wrap (bj + max (-5) (max (min pB 1000) 0)) = bj + max (-5) (max (min pB 1000) 0) := IntWalk.i64_in _ (by omega)
          have hw2 : IntKind.i64.wrap (bj + max ((max (-5) (min pB 1000))) 0) = bj + max (-5) (max (min pB 1000) 0) := by rw [show max ((max (-5) (min pB 1000))) 0 = max (-5) (max (min pB 1000) 0) by omega]; exact hw1
          have hji : (j : Int).toNat = j := by omega
          go_wp2_with fail
          refine late_start (fun i => decide (10 ≤ i)) (fun w9 => w9.cell? ⟨wr.heap.size, 0, none⟩ = some (.int .i64 (j : Nat)) ∧ w9.cell? ⟨wr.heap.size, 1, none⟩ = some (.int .i64 (max (-5) (min pB 1000))) ∧ w9.cell? ⟨g8, j, none⟩ = some (.int .i64 bj)) (by kernel_rfl) ?invr (fun h0 => ?_)
          case invr => ((try dsimp only); (exact ⟨x0, x1, d0⟩))
          refine late_take (i := 0) (oi := { dst := some 45, op := Go.Op.move (Go.Operand.tmp 8), type := 57, pos := "law.go:85", after := #[], guard := none }) (v := ?vr1) rfl (by kernel_rfl) (by kernel_rfl) (by kernel_rfl) (by kernel_rfl) (by kernel_rfl) (fun _ _ _ h => h) (Or.inl ⟨by rfl, ?rr1⟩) (by assumption) ?_
          case rr1 => (intro w hSw; (try dsimp only at hSw); (go_simp <;> with_reducible rfl))
          try simp only [Act.put, List.setIfInBounds_toArray, List.set_cons_zero, List.set_cons_succ]
          refine late_take (i := 1) (oi := { dst := some 46, op := Go.Op.fieldAddr 63 (Go.Operand.tmp 10) 0, type := 0, pos := "law.go:85", after := #[], guard := none }) (v := ?vr2) rfl (by kernel_rfl) (by kernel_rfl) (by kernel_rfl) (by kernel_rfl) (by kernel_rfl) (fun _ _ _ h => h) (Or.inl ⟨by rfl, ?rr2⟩) (by assumption) ?_
          case rr2 => (intro w hSw; (try dsimp only at hSw); (go_simp <;> with_reducible rfl))
          try simp only [Act.put, List.setIfInBounds_toArray, List.set_cons_zero, List.set_cons_succ]
          refine late_take (i := 2) (oi := { dst := some 47, op := Go.Op.load 3 (Go.Operand.tmp 46), type := 3, pos := "law.go:85", after := #[{ on := 1, ground := Go.Ground.data }], guard := none }) (v := ?vr3) rfl (by kernel_rfl) (by kernel_rfl) (by kernel_rfl) (by kernel_rfl) (by kernel_rfl) (fun _ _ _ h => h) (Or.inl ⟨by rfl, ?rr3⟩) (by assumption) ?_
          case rr3 => (intro w hSw; (try dsimp only at hSw); (go_simp <;> with_reducible rfl))
          try simp only [Act.put, List.setIfInBounds_toArray, List.set_cons_zero, List.set_cons_succ]
          refine late_take (i := 3) (oi := { dst := some 48, op := Go.Op.indexAddr 57 (Go.Operand.tmp 45) (Go.Operand.tmp 47), type := 0, pos := "law.go:85", after := #[{ on := 0, ground := Go.Ground.data }, { on := 2, ground := Go.Ground.data }], guard := none }) (v := ?vr4) rfl (by kernel_rfl) (by kernel_rfl) (by kernel_rfl) (by kernel_rfl) (by kernel_rfl) (fun _ _ _ h => h) (Or.inl ⟨by rfl, ?rr4⟩) (by assumption) ?_
          case rr4 => (intro w hSw; (try dsimp only at hSw); (go_simp <;> with_reducible rfl))
          try simp only [Act.put, List.setIfInBounds_toArray, List.set_cons_zero, List.set_cons_succ]
          refine late_take (i := 4) (oi := { dst := some 49, op := Go.Op.load 3 (Go.Operand.tmp 48), type := 3, pos := "law.go:85", after := #[{ on := 3, ground := Go.Ground.data }], guard := none }) (v := ?vr5) rfl (by kernel_rfl) (by kernel_rfl) (by kernel_rfl) (by kernel_rfl) (by kernel_rfl) (fun _ _ _ h => h) (Or.inl ⟨by rfl, ?rr5⟩) (by assumption) ?_
          case rr5 => (intro w hSw; (try dsimp only at hSw); (go_simp <;> with_reducible rfl))
          try simp only [Act.put, List.setIfInBounds_toArray, List.set_cons_zero, List.set_cons_succ]
          refine late_take (i := 5) (oi := { dst := some 50, op := Go.Op.fieldAddr 63 (Go.Operand.tmp 10) 1, type := 0, pos := "law.go:85", after := #[], guard := none }) (v := ?vr6) rfl (by kernel_rfl) (by kernel_rfl) (by kernel_rfl) (by kernel_rfl) (by kernel_rfl) (fun _ _ _ h => h) (Or.inl ⟨by rfl, ?rr6⟩) (by assumption) ?_
          case rr6 => (intro w hSw; (try dsimp only at hSw); (go_simp <;> with_reducible rfl))
          try simp only [Act.put, List.setIfInBounds_toArray, List.set_cons_zero, List.set_cons_succ]
          refine late_take (i := 6) (oi := { dst := some 51, op := Go.Op.load 3 (Go.Operand.tmp 50), type := 3, pos := "law.go:85", after := #[{ on := 5, ground := Go.Ground.data }], guard := none }) (v := ?vr7) rfl (by kernel_rfl) (by kernel_rfl) (by kernel_rfl) (by kernel_rfl) (by kernel_rfl) (fun _ _ _ h => h) (Or.inl ⟨by rfl, ?rr7⟩) (by assumption) ?_
          case rr7 => (intro w hSw; (try dsimp only at hSw); (go_simp <;> with_reducible rfl))
          try simp only [Act.put, List.setIfInBounds_toArray, List.set_cons_zero, List.set_cons_succ]
          refine late_take (i := 7) (oi := { dst := some 52, op := Go.Op.call { callee := Go.Callee.builtin Go.Builtin.max, args := #[Go.Operand.tmp 51, Go.Operand.const (Go.Value.int Go.IntKind.i64 0)], argTypes := #[3, 3] }, type := 3, pos := "law.go:85", after := #[{ on := 6, ground := Go.Ground.data }], guard := none }) (v := ?vr8) rfl (by kernel_rfl) (by kernel_rfl) (by kernel_rfl) (by kernel_rfl) (by kernel_rfl) (fun _ _ _ h => h) (Or.inl ⟨by rfl, ?rr8⟩) (by assumption) ?_
          case rr8 => (intro w hSw; (try dsimp only at hSw); (go_simp <;> with_reducible rfl))
          try simp only [Act.put, List.setIfInBounds_toArray, List.set_cons_zero, List.set_cons_succ]
          refine late_take (i := 8) (oi := { dst := some 53, op := Go.Op.binOp Go.BinOp.add 3 (Go.Operand.tmp 49) (Go.Operand.tmp 52) 3, type := 3, pos := "law.go:85", after := #[{ on := 4, ground := Go.Ground.data }, { on := 7, ground := Go.Ground.data }], guard := none }) (v := ?vr9) rfl (by kernel_rfl) (by kernel_rfl) (by kernel_rfl) (by kernel_rfl) (by kernel_rfl) (fun _ _ _ h => h) (Or.inl ⟨by rfl, ?rr9⟩) (by assumption) ?_
          case rr9 => (intro w hSw; (try dsimp only at hSw); (go_simp <;> with_reducible rfl))
          try simp only [Act.put, List.setIfInBounds_toArray, List.set_cons_zero, List.set_cons_succ]
          refine late_take (i := 9) (oi := { dst := some 54, op := Go.Op.indexAddr 57 (Go.Operand.tmp 45) (Go.Operand.tmp 47), type := 0, pos := "law.go:85", after := #[{ on := 0, ground := Go.Ground.data }, { on := 2, ground := Go.Ground.data }, { on := 0, ground := Go.Ground.phase }, { on := 1, ground := Go.Ground.phase }, { on := 2, ground := Go.Ground.phase }, { on := 3, ground := Go.Ground.phase }, { on := 4, ground := Go.Ground.phase }, { on := 5, ground := Go.Ground.phase }, { on := 6, ground := Go.Ground.phase }, { on := 7, ground := Go.Ground.phase }, { on := 8, ground := Go.Ground.phase }], guard := none }) (v := ?vr10) rfl (by kernel_rfl) (by kernel_rfl) (by kernel_rfl) (by kernel_rfl) (by kernel_rfl) (fun _ _ _ h => h) (Or.inl ⟨by rfl, ?rr10⟩) (by assumption) ?_
          case rr10 => (intro w hSw; (try dsimp only at hSw); (go_simp <;> with_reducible rfl))
          try simp only [Act.put, List.setIfInBounds_toArray, List.set_cons_zero, List.set_cons_succ]
          refine late_go (by kernel_rfl) ?_
          refine any_one (i := 10) (o := { dst := none, op := Go.Op.store 3 (Go.Operand.tmp 54) (Go.Operand.tmp 53), type := 0, pos := "law.go:85", after := #[{ on := 9, ground := Go.Ground.data }, { on := 8, ground := Go.Ground.data }, { on := 0, ground := Go.Ground.phase }, { on := 1, ground := Go.Ground.phase }, { on := 2, ground := Go.Ground.phase }, { on := 3, ground := Go.Ground.phase }, { on := 4, ground := Go.Ground.phase }, { on := 5, ground := Go.Ground.phase }, { on := 6, ground := Go.Ground.phase }, { on := 7, ground := Go.Ground.phase }, { on := 8, ground := Go.Ground.phase }], guard := none }) (by kernel_rfl) rfl (fun K hK => ?_)
          go_simp
          refine hK.out _ _ ?_
          clear hK K
          try simp only [Act.put, List.setIfInBounds_toArray, List.set_cons_zero, List.set_cons_succ]
          refine any_done (by kernel_rfl) ?_
          have x2 := HB8.out.cell (i := 2) rfl
          clear h0 x0 x1 d0 d1
          cases pE
          · have HS2 := Lib.hid (show fewS n G2 = (addB n B ⟨(j : Nat), (max (-5) (min pB 1000)), false⟩, S) by rw [HSN.out]; rfl)
            go_wp2
            go_roundw
            case rel => exact ⟨k + 1, VS, by omega, by omega, by go_num, by omega, Lib.hid (by rw [HG2Q.out, HS2.out]; exact H8.out), Lib.hid (by rw [HG2Q.out, HS2.out]; exact HMA.out)⟩
            case measure => simp [intOf]; omega
          · have HS2 := Lib.hid (show fewS n G2 = (List.replicate n 0, S ++ [addB n B ⟨(j : Nat), (max (-5) (min pB 1000)), true⟩]) by rw [HSN.out]; rfl)
            obtain ⟨ta, tc, rfl⟩ : ∃ a c, u7 = .slice a VS.length c := by obtain ⟨a, c, h, _⟩ := ownsRow_slice H8.out.st; exact ⟨a, c, h⟩
            have HG9 := Lib.hid (H8.out.more ((Gr.refl (w7.setCell ⟨g8, j, none⟩ (.int .i64 (bj + max (-5) (max (min pB 1000) 0)))).drew).alloc (.cells #[.slice (some ⟨g8, 0, none⟩) n cap8] 57)))
            have hrow : ((w7.setCell ⟨g8, j, none⟩ (.int .i64 (bj + max (-5) (max (min pB 1000) 0)))).drew.alloc (.cells #[.slice (some ⟨g8, 0, none⟩) n cap8] 57)).ownsRow w.heap.size 57 1 _ _ _ := HG9.out.st
            have HZ9 := Lib.hid H8.out.gr.size
            go_wp2_with (at_builtin; go_loud (refine wpList_append_lies _ rfl (.tmp 57) (.tmp 59) 48 rfl w.heap.size 57 i1 (.slice none 0 0) 1 24 Try.underlying48 hi1 hy0 hy1 hy2 rfl (by decide) _ _ _ rfl hrow ⟨w7.heap.size, 0, none⟩ 1 1 [.slice (some ⟨g8, 0, none⟩) n cap8] rfl (by simp) ?k0_1 ?k0_2 Nat.one_pos ?k0_3 ?k0_4 ?k0_5 _ rfl ?_))
            try case k0_1 =>
              have := World.news_of_block (cs := #[.slice (some ⟨g8, 0, none⟩) n cap8]) (t := 57) (fr := (0, 0)) (heap_alloc_new ((w7.setCell ⟨g8, j, none⟩ (.int .i64 (bj + max (-5) (max (min pB 1000) 0)))).drew) (.cells #[.slice (some ⟨g8, 0, none⟩) n cap8] 57))
              first | exact this | (rw [show ((w7.setCell ⟨g8, j, none⟩ (.int .i64 (bj + max (-5) (max (min pB 1000) 0)))).drew).heap.size = w7.heap.size by simp [World.setCell]] at this; exact this) | simpa using this
            case k0_2 => first | (intro u hu; simp at hu; rcases hu with rfl; rfl) | rfl
            case k0_3 => unfold maxLen; omega
            case k0_4 => omega
            case k0_5 => have := HZ9.out; simp at this ⊢; omega
            intro g9 cap9 w9 hown9 hgrow9 hat9 hlt9
            have H9 := Lib.hid (HG9.out.step hn hgrow9 hown9 rfl)
            clear hown9 hgrow9 hat9 hlt9 hrow HG9 x2
            go_wp2_with (simp only [hmk])
            go_roundw
            case rel => exact ⟨k + 1, VS ++ [.slice (some ⟨g8, 0, none⟩) n cap8], by omega, by omega, by go_num, by simp; omega, Lib.hid (by rw [HG2Q.out, HS2.out]; exact H9.out), Lib.hid (by rw [HG2Q.out, HS2.out]; exact mild_zero n (k + 1))⟩
            case measure => simp [intOf]; omega
        · have HAD : Hid (addB n B ⟨pN, (max (-5) (min pB 1000)), pE⟩ = B) := Lib.hid (by unfold addB; rw [if_neg hin])
          have H8 := Lib.hid (show FewIs w w7 n _ u7 u8 G2 VS S (addB n B ⟨pN, (max (-5) (min pB 1000)), pE⟩) by rw [HAD.out]; exact H7.out)
          have HB8 := HB7
          have x2 := HB8.out.cell (i := 2) rfl
          clear H7 HB7
          by_cases hn0 : 0 ≤ pN
          · have hn1 : ¬ pN < (n : Int) := fun e => hin ⟨hn0, e⟩
            cases pE
            · have HS2 := Lib.hid (show fewS n G2 = (addB n B ⟨pN, (max (-5) (min pB 1000)), false⟩, S) by rw [HSN.out]; rfl)
              go_wp2
              go_roundw
              case rel => exact ⟨k + 1, VS, by omega, by omega, by go_num, by omega, Lib.hid (by rw [HG2Q.out, HS2.out]; exact H8.out), Lib.hid (by rw [HG2Q.out, HS2.out]; exact HMA.out)⟩
              case measure => simp [intOf]; omega
            · have HS2 := Lib.hid (show fewS n G2 = (List.replicate n 0, S ++ [addB n B ⟨pN, (max (-5) (min pB 1000)), true⟩]) by rw [HSN.out]; rfl)
              obtain ⟨ta, tc, rfl⟩ : ∃ a c, u7 = .slice a VS.length c := by obtain ⟨a, c, h, _⟩ := ownsRow_slice H8.out.st; exact ⟨a, c, h⟩
              obtain ⟨va, vc, rfl⟩ : ∃ a c, u8 = .slice a n c := by obtain ⟨a, c, h, _⟩ := ownsRow_slice H8.out.by'; exact ⟨a, c, h⟩
              have HG9 := Lib.hid (H8.out.more ((Gr.refl w7).alloc (.cells #[.slice va n vc] 57)))
              have hrow : (w7.alloc (.cells #[.slice va n vc] 57)).ownsRow w.heap.size 57 1 _ _ _ := HG9.out.st
              have HZ9 := Lib.hid H8.out.gr.size
              go_wp2_with (at_builtin; go_loud (refine wpList_append_lies _ rfl (.tmp 57) (.tmp 59) 48 rfl w.heap.size 57 i1 (.slice none 0 0) 1 24 Try.underlying48 hi1 hy0 hy1 hy2 rfl (by decide) _ _ _ rfl hrow ⟨w7.heap.size, 0, none⟩ 1 1 [.slice va n vc] rfl (by simp) ?k1_1 ?k1_2 Nat.one_pos ?k1_3 ?k1_4 ?k1_5 _ rfl ?_))
              try case k1_1 =>
                have := World.news_of_block (cs := #[.slice va n vc]) (t := 57) (fr := (0, 0)) (heap_alloc_new (w7) (.cells #[.slice va n vc] 57))
                first | exact this | (rw [show (w7).heap.size = w7.heap.size by simp [World.setCell]] at this; exact this) | simpa using this
              case k1_2 => first | (intro u hu; simp at hu; rcases hu with rfl; rfl) | rfl
              case k1_3 => unfold maxLen; omega
              case k1_4 => omega
              case k1_5 => have := HZ9.out; simp at this ⊢; omega
              intro g9 cap9 w9 hown9 hgrow9 hat9 hlt9
              have H9 := Lib.hid (HG9.out.step hn hgrow9 hown9 rfl)
              clear hown9 hgrow9 hat9 hlt9 hrow HG9 x2
              go_wp2_with (simp only [hmk])
              go_roundw
              case rel => exact ⟨k + 1, VS ++ [.slice va n vc], by omega, by omega, by go_num, by simp; omega, Lib.hid (by rw [HG2Q.out, HS2.out]; exact H9.out), Lib.hid (by rw [HG2Q.out, HS2.out]; exact mild_zero n (k + 1))⟩
              case measure => simp [intOf]; omega
          · skip
            cases pE
            · have HS2 := Lib.hid (show fewS n G2 = (addB n B ⟨pN, (max (-5) (min pB 1000)), false⟩, S) by rw [HSN.out]; rfl)
              go_wp2
              go_roundw
              case rel => exact ⟨k + 1, VS, by omega, by omega, by go_num, by omega, Lib.hid (by rw [HG2Q.out, HS2.out]; exact H8.out), Lib.hid (by rw [HG2Q.out, HS2.out]; exact HMA.out)⟩
              case measure => simp [intOf]; omega
            · have HS2 := Lib.hid (show fewS n G2 = (List.replicate n 0, S ++ [addB n B ⟨pN, (max (-5) (min pB 1000)), true⟩]) by rw [HSN.out]; rfl)
              obtain ⟨ta, tc, rfl⟩ : ∃ a c, u7 = .slice a VS.length c := by obtain ⟨a, c, h, _⟩ := ownsRow_slice H8.out.st; exact ⟨a, c, h⟩
              obtain ⟨va, vc, rfl⟩ : ∃ a c, u8 = .slice a n c := by obtain ⟨a, c, h, _⟩ := ownsRow_slice H8.out.by'; exact ⟨a, c, h⟩
              have HG9 := Lib.hid (H8.out.more ((Gr.refl w7).alloc (.cells #[.slice va n vc] 57)))
              have hrow : (w7.alloc (.cells #[.slice va n vc] 57)).ownsRow w.heap.size 57 1 _ _ _ := HG9.out.st
              have HZ9 := Lib.hid H8.out.gr.size
              go_wp2_with (at_builtin; go_loud (refine wpList_append_lies _ rfl (.tmp 57) (.tmp 59) 48 rfl w.heap.size 57 i1 (.slice none 0 0) 1 24 Try.underlying48 hi1 hy0 hy1 hy2 rfl (by decide) _ _ _ rfl hrow ⟨w7.heap.size, 0, none⟩ 1 1 [.slice va n vc] rfl (by simp) ?k2_1 ?k2_2 Nat.one_pos ?k2_3 ?k2_4 ?k2_5 _ rfl ?_))
              try case k2_1 =>
                have := World.news_of_block (cs := #[.slice va n vc]) (t := 57) (fr := (0, 0)) (heap_alloc_new (w7) (.cells #[.slice va n vc] 57))
                first | exact this | (rw [show (w7).heap.size = w7.heap.size by simp [World.setCell]] at this; exact this) | simpa using this
              case k2_2 => first | (intro u hu; simp at hu; rcases hu with rfl; rfl) | rfl
              case k2_3 => unfold maxLen; omega
              case k2_4 => omega
              case k2_5 => have := HZ9.out; simp at this ⊢; omega
              intro g9 cap9 w9 hown9 hgrow9 hat9 hlt9
              have H9 := Lib.hid (HG9.out.step hn hgrow9 hown9 rfl)
              clear hown9 hgrow9 hat9 hlt9 hrow HG9 x2
              go_wp2_with (simp only [hmk])
              go_roundw
              case rel => exact ⟨k + 1, VS ++ [.slice va n vc], by omega, by omega, by go_num, by simp; omega, Lib.hid (by rw [HG2Q.out, HS2.out]; exact H9.out), Lib.hid (by rw [HG2Q.out, HS2.out]; exact mild_zero n (k + 1))⟩
              case measure => simp [intOf]; omega
      · have h30e : k = 30 := by omega
        have hk5 : ¬ (k : Int) < 30 := by omega
        rw [fewG_all (k := k) (by omega)] at H
        obtain ⟨sa, sc, rfl⟩ : ∃ a c, u6 = .slice a (fewG L).length c := by obtain ⟨a, c, h, _⟩ := ownsRow_slice H.out.out; exact ⟨a, c, h⟩
        obtain ⟨ta, tc, rfl⟩ : ∃ a c, u7 = .slice a VS.length c := by obtain ⟨a, c, h, _⟩ := ownsRow_slice H.out.st; exact ⟨a, c, h⟩
        generalize hG : (fewG L).length = gl at *
        generalize hV : VS.length = vl at *
        have HGL := Lib.hid hG
        have HVLn := Lib.hid hV
        clear hG hV
        go_wp2
        refine bodyPost_ret (v := .tuple #[.slice sa gl sc, .slice ta vl tc]) (by simp [results, Try.results21, go_sem]; try rfl) rfl ?_
        exact ⟨_, _, rfl, _, VS, H.out⟩
    · have hk5 : ¬ (k : Int) < (L.length : Int) := by omega
      rw [fewG_all (k := k) (by omega)] at H
      obtain ⟨sa, sc, rfl⟩ : ∃ a c, u6 = .slice a (fewG L).length c := by obtain ⟨a, c, h, _⟩ := ownsRow_slice H.out.out; exact ⟨a, c, h⟩
      obtain ⟨ta, tc, rfl⟩ : ∃ a c, u7 = .slice a VS.length c := by obtain ⟨a, c, h, _⟩ := ownsRow_slice H.out.st; exact ⟨a, c, h⟩
      generalize hG : (fewG L).length = gl at *
      generalize hV : VS.length = vl at *
      have HGL := Lib.hid hG
      have HVLn := Lib.hid hV
      clear hG hV
      go_wp2
      refine bodyPost_ret (v := .tuple #[.slice sa gl sc, .slice ta vl tc]) (by simp [results, Try.results21, go_sem]; try rfl) rfl ?_
      exact ⟨_, _, rfl, _, VS, H.out⟩
end Go.Proofs.Ytahohgnkichibaa
