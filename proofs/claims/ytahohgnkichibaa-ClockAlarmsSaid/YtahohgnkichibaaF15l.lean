import Derived.Test.YtahohgnkichibaaF15k
import Derived.WalkKit
import Derived.ProofKit
import Derived.LoopTactic
import Derived.Outline
import Derived.WalkSpells
import Derived.WalkLawsBesides
import Derived.Lib.Hide
import Derived.Deep.LoopGhost
import Derived.Deep.QuietTactic
import Derived.BigQuiet
import Derived.ShutString
import Derived.BigQuiet
import Derived.Deep.AppendLies
import Derived.Deep.RegionWith
import Derived.Deep.Onto
namespace Go.Proofs.Ytahohgnkichibaa
open Go.ChangeShapes Go.WideShapes Go.ChangeAt Go.RowKit
set_option linter.unusedVariables false
set_option linter.unusedSimpArgs false
/-- One more in its place. -/
def putD (a : A) : List A → List A
  | [] => [a]
  | b :: t => if aheadA a b then a :: b :: t else b :: putD a t
theorem putD_len (a : A) : ∀ D : List A, (putD a D).length = D.length + 1
  | [] => rfl
  | b :: t => by unfold putD; split <;> simp [putD_len a t]
def dueR (L : List A) (t : Int) : List A := (L.filter fun x => !decide (t < x.due)).foldl (fun D a => putD a D) []
def restR (L : List A) (t : Int) : List A := L.filter fun x => decide (t < x.due)
theorem restR_len (L : List A) (t : Int) : (restR L t).length ≤ L.length := List.length_filter_le _ _
theorem foldD_len : ∀ (M D : List A), (M.foldl (fun D a => putD a D) D).length = D.length + M.length
  | [], D => rfl
  | a :: M, D => by rw [List.foldl_cons, foldD_len M, putD_len, List.length_cons]; omega
theorem dueR_len (L : List A) (t : Int) : (dueR L t).length ≤ L.length := by
  unfold dueR
  rw [foldD_len]
  have := List.length_filter_le (fun x : A => !decide (t < x.due)) L
  simp only [List.length_nil]
  omega
theorem restR_yes {L : List A} {t : Int} {j : Nat} (h : j < L.length) (hk : t < L[j].due) : restR (L.take (j + 1)) t = restR (L.take j) t ++ [L[j]] ∧ dueR (L.take (j + 1)) t = dueR (L.take j) t := by
  unfold restR dueR
  rw [List.take_succ_eq_append_getElem h, List.filter_append, List.filter_append, List.filter_cons_of_pos (by simp [hk]), List.filter_cons_of_neg (by simp [hk])]
  simp
theorem restR_no {L : List A} {t : Int} {j : Nat} (h : j < L.length) (hk : ¬ t < L[j].due) : restR (L.take (j + 1)) t = restR (L.take j) t ∧ dueR (L.take (j + 1)) t = putD L[j] (dueR (L.take j) t) := by
  unfold restR dueR
  rw [List.take_succ_eq_append_getElem h, List.filter_append, List.filter_append, List.filter_cons_of_neg (by simp [hk]), List.filter_cons_of_pos (by simp; omega)]
  simp [List.foldl_append]
/-- What the inner loop has: the rest to come. -/
def Mid (a : A) (D : List A) (j : Nat) (dn : Bool) (out : List A) : Prop := out ++ (if dn then D.drop j else putD a (D.drop j)) = putD a D ∧ out.length ≤ j + 1 ∧ (dn = false → out.length ≤ j)
theorem mid_done {a : A} {D out : List A} {j : Nat} (h : Mid a D j true out) (hj : j < D.length) (hl : out.length ≤ j + 1) : Mid a D (j + 1) true (out ++ [D[j]]) := by
  refine ⟨?_, by simp; omega, by simp⟩
  have := h.1
  rw [if_pos rfl, List.drop_eq_getElem_cons hj] at this
  rw [if_pos rfl, List.append_assoc]
  exact this
theorem mid_hit {a : A} {D out : List A} {j : Nat} (h : Mid a D j false out) (hj : j < D.length) (ha : aheadA a D[j] = true) : Mid a D (j + 1) true ((out ++ [a]) ++ [D[j]]) := by
  have hl := h.2.2 rfl
  refine ⟨?_, by simp; omega, by simp⟩
  have := h.1
  rw [if_neg (by decide), List.drop_eq_getElem_cons hj, putD, if_pos ha] at this
  rw [if_pos rfl, List.append_assoc, List.append_assoc]
  exact this
theorem mid_miss {a : A} {D out : List A} {j : Nat} (h : Mid a D j false out) (hj : j < D.length) (ha : aheadA a D[j] = false) : Mid a D (j + 1) false (out ++ [D[j]]) := by
  have hl := h.2.2 rfl
  refine ⟨?_, by simp; omega, fun _ => by simp; omega⟩
  have := h.1
  rw [if_neg (by decide), List.drop_eq_getElem_cons hj, putD, if_neg (by rw [ha]; decide)] at this
  rw [if_neg (by decide), List.append_assoc]
  exact this
theorem mid_end {a : A} {D out : List A} {dn : Bool} (h : Mid a D D.length dn out) : putD a D = if dn then out else out ++ [a] := by
  have := h.1
  rw [List.drop_length] at this
  cases dn
  · rw [if_neg (by decide)] at this ⊢; exact this.symm
  · rw [if_pos rfl] at this ⊢; rw [List.append_nil] at this; exact this.symm
theorem mid_start (a : A) (D : List A) : Mid a D 0 false [] := ⟨by simp, by simp, by simp⟩
def Apart (v6 v7 : Value) : Prop := ∀ k, v6.ownBlock = some k → v7.ownBlock ≠ some k
set_option maxRecDepth 100000 in
set_option maxHeartbeats 4000000 in
theorem refDue_any {base : Nat} {v : Value} (t : Int) (L : List A) (w : World) (h : RRow w base v L) (hl : L.length ≤ 1000) :
    Calls Try.prog 18 #[v, .int .i64 t] w fun e w' => ∃ v6 v7, e = .returned (.tuple #[v6, v7]) ∧ RRow w' w.heap.size v6 (dueR L t) ∧ RRow w' w.heap.size v7 (restR L t) ∧ Apart v6 v7 ∧ Gr w w' := by
  obtain ⟨i0, hi, hz0, hz1, hz2⟩ := rinfo
  obtain ⟨a, c, rfl⟩ := h.slice
  have HL := Lib.hid h
  clear h
  go_enter Try.func18, Try.ntmps18
  go_wp2
  go_loopw [6, 7, 18] (fun v6 v7 i wr => ∃ j : Nat, j ≤ L.length ∧ i = .int .i64 (j : Nat) ∧ Hid (Gr w wr) ∧ Hid (RRow wr w.heap.size v6 (dueR (L.take j) t)) ∧ Hid (RRow wr w.heap.size v7 (restR (L.take j) t)) ∧ Hid (Apart v6 v7)) (fun _ _ i _ => L.length - (intOf i).toNat)
  case atStart =>
    refine ⟨0, by omega, rfl, Lib.hid (((Gr.refl _).alloc _).alloc _), Lib.hid ((rrow_empty _ _ (Nat.le_refl _)).gr ((Gr.refl _).alloc _)), Lib.hid ?_, Lib.hid (fun k e => ?_)⟩
    · have := rrow_empty (w.alloc (.cells #[] 40)) w.heap.size (by simp)
      rwa [show (w.alloc (.cells #[] 40)).heap.size = w.heap.size + 1 by simp] at this
    · simp [Value.ownBlock] at e ⊢; omega
  case round =>
    obtain ⟨j, hj, rfl, HG, HD, HR, HA⟩ := hrel
    have hzr := HG.out.size
    by_cases hlt : j < L.length
    · have hk2 : (j : Int) < (L.length : Int) := by omega
      obtain ⟨g, cap, hv, _, hc1, hc2⟩ := HL.out.at j hlt
      simp only [Value.slice.injEq, true_and] at hv
      obtain ⟨rfl, rfl⟩ := hv
      have e0 := HG.out.cell hc1
      have e1 := HG.out.cell hc2
      clear hc1 hc2
      have HY : Hid (t < L[j].due → _) := Lib.hid (restR_yes hlt)
      have HN : Hid (¬ t < L[j].due → _) := Lib.hid (restR_no hlt)
      have hdl : (dueR (L.take j) t).length ≤ 1000 := by have := dueR_len (L.take j) t; rw [List.length_take] at this; omega
      have hrl : (restR (L.take j) t).length ≤ 1000 := by have := restR_len (L.take j) t; rw [List.length_take] at this; omega
      generalize hx : L[j] = x at *
      obtain ⟨xk, xd⟩ := x
      simp only at e0 e1 HY HN
      clear hx
      generalize hD1 : dueR (L.take (j + 1)) t = D1 at *
      generalize hR1 : restR (L.take (j + 1)) t = R1 at *
      have HD1 := Lib.hid hD1
      have HR1 := Lib.hid hR1
      clear hD1 hR1
      generalize dueR (L.take j) t = D at *
      generalize restR (L.take j) t = R at *
      by_cases hxd : t < xd
      · have HE := Lib.hid (HY.out hxd)
        clear HY HN
        obtain ⟨sa, sc, rfl⟩ := HR.out.slice
        have hrow : ((wr.alloc (.cells #[.int .i64 xk, .int .i64 xd] 40)).alloc (.cells #[.int .i64 xk, .int .i64 xd] 40)).ownsRow w.heap.size 40 2 _ _ _ := HR.out.gr (((Gr.refl _).alloc _).alloc _)
        have HG3 := Lib.hid ((HG.out.alloc (.cells #[.int .i64 xk, .int .i64 xd] 40)).alloc (.cells #[.int .i64 xk, .int .i64 xd] 40))
        have HD3 := Lib.hid (HD.out.gr (((Gr.refl wr).alloc (.cells #[.int .i64 xk, .int .i64 xd] 40)).alloc (.cells #[.int .i64 xk, .int .i64 xd] 40)))
        have HZ3 := Lib.hid HG.out.size
        go_wp2_with (at_builtin; go_loud (refine wpList_append_lies _ rfl (.tmp 26) (.tmp 28) 27 rfl w.heap.size 40 i0 (.agg #[.int .i64 0, .int .i64 0]) 2 16 Try.underlying27 hi hz0 hz1 hz2 rfl (by decide) _ _ _ rfl hrow ⟨wr.heap.size + 1, 0, none⟩ 1 1 [.int .i64 xk, .int .i64 xd] rfl (by simp) ?c1 ?c2 Nat.one_pos ?c3 ?c4 ?c5 _ rfl ?_))
        case c1 =>
          have := World.news_of_block (cs := #[.int .i64 xk, .int .i64 xd]) (t := 40) (fr := (0, 0)) (heap_alloc_new ((wr.alloc (.cells #[.int .i64 xk, .int .i64 xd] 40))) (.cells #[.int .i64 xk, .int .i64 xd] 40))
          first | exact this | rwa [show ((wr.alloc (.cells #[.int .i64 xk, .int .i64 xd] 40))).heap.size = wr.heap.size + 1 by simp] at this
        case c2 => intro u hu; simp at hu; rcases hu with rfl | rfl <;> rfl
        case c3 => unfold maxLen; first | omega | (simp; omega)
        case c4 => first | omega | (simp; omega)
        case c5 => have := HZ3.out; simp; omega
        intro g7 cap7 w7 hown7 hgrow7 hat7 hlt7
        have HG7 := Lib.hid (HG3.out.append hrow hgrow7)
        have HO7 := Lib.hid (show RRow w7 w.heap.size (.slice (some ⟨g7, 0, none⟩) (R.length + 1) cap7) R1 by rw [HE.out.1]; unfold RRow; rw [rcells_snoc, List.length_append]; exact hown7)
        have HD7 := Lib.hid (show RRow w7 w.heap.size u6 D1 by
          rw [HE.out.2]
          exact World.ownsRow.kept HD3.out hgrow7 (by
            rcases hq : u6.ownBlock with _ | k
            · exact .inl rfl
            · exact .inr (fun e => HA.out k hq e.symm)))
        have HA7 : Hid (Apart u6 (.slice (some ⟨g7, 0, none⟩) (R.length + 1) cap7)) := Lib.hid fun k e e2 => by
          simp [Value.ownBlock] at e2
          rcases hat7 with h1 | h1
          · exact HA.out k e (by rw [h1, e2])
          · have h2 := (HD.out.lt k e).2
            first | omega | (simp at h1; omega)
        clear hown7 hgrow7 hat7 hlt7 hrow HG3 HD3
        go_wp2
        go_roundw
        case rel => exact ⟨j + 1, by omega, by go_num, HG7, Lib.hid (by rw [HD1.out]; exact HD7.out), Lib.hid (by rw [HR1.out]; exact HO7.out), HA7⟩
        case measure => simp [intOf]; omega
      · have HE := Lib.hid (HN.out hxd)
        clear HY HN
        have HSZ := Lib.hid (show (wr.alloc (.cells #[.int .i64 xk, .int .i64 xd] 40)).heap.size = wr.heap.size + 1 by simp)
        have HGS := Lib.hid (HG.out.alloc (.cells #[.int .i64 xk, .int .i64 xd] 40))
        have HBS := Lib.hid (Blk.new wr #[.int .i64 xk, .int .i64 xd] 40)
        have HDS := Lib.hid (HD.out.gr ((Gr.refl wr).alloc (.cells #[.int .i64 xk, .int .i64 xd] 40)))
        have HRS := Lib.hid (HR.out.gr ((Gr.refl wr).alloc (.cells #[.int .i64 xk, .int .i64 xd] 40)))
        clear HD HR HA HG
        obtain ⟨da, dc, rfl⟩ := HDS.out.slice
        go_wp2
        clear e0 e1
        generalize wr.alloc (.cells #[.int .i64 xk, .int .i64 xd] 40) = ws at *
        generalize wr.heap.size = p9 at *
        have HR0 : Hid (RRow (ws.alloc (.cells #[] 40)) ws.heap.size (.slice (some ⟨p9 + 1, 0, none⟩) 0 0) []) := Lib.hid (by have := rrow_empty ws ws.heap.size (Nat.le_refl _); rwa [HSZ.out] at this ⊢)
        have HRL := Lib.hid (fun k (e : u7.ownBlock = some k) => (HRS.out.lt k e).2)
        go_loopw [10, 11, 33] (fun v10 dn i wr => ∃ (m : Nat) (dnb : Bool) (out : List A), m ≤ D.length ∧ i = .int .i64 (m : Nat) ∧ dn = .bool dnb ∧ Hid (Gr ws wr) ∧ Hid (RRow wr ws.heap.size v10 out) ∧ Hid (Mid ⟨xk, xd⟩ D m dnb out)) (fun _ _ i _ => D.length - (intOf i).toNat)
        case atStart => exact ⟨0, false, [], by omega, rfl, rfl, Lib.hid ((Gr.refl _).alloc _), HR0, Lib.hid (mid_start _ _)⟩
        case round =>
          clear HR0
          obtain ⟨m, dnb, out, hm, rfl, rfl, HI, HOO, HMI⟩ := hrel
          have hx0 := (HBS.out.gr HI.out).cell (i := 0) rfl
          have hx1 := (HBS.out.gr HI.out).cell (i := 1) rfl
          have hol : out.length ≤ m + 1 := HMI.out.2.1
          obtain ⟨oa, oc, rfl⟩ := HOO.out.slice
          have HZ3 := Lib.hid HI.out.size
          by_cases hlt2 : m < D.length
          · have hk3 : (m : Int) < (D.length : Int) := by omega
            obtain ⟨gd, capd, hv, hgl, hc1, hc2⟩ := HDS.out.at m hlt2
            simp only [Value.slice.injEq, true_and] at hv
            obtain ⟨rfl, rfl⟩ := hv
            have d0 := HI.out.cell hc1
            have d1 := HI.out.cell hc2
            clear hc1 hc2
            have HMD : Hid (dnb = true → Mid ⟨xk, xd⟩ D (m + 1) true (out ++ [D[m]])) := Lib.hid (fun e => mid_done (e ▸ HMI.out) hlt2 hol)
            have HMH : Hid (dnb = false → aheadA ⟨xk, xd⟩ D[m] = true → Mid ⟨xk, xd⟩ D (m + 1) true ((out ++ [⟨xk, xd⟩]) ++ [D[m]])) := Lib.hid (fun e ha => mid_hit (e ▸ HMI.out) hlt2 ha)
            have HMM : Hid (dnb = false → aheadA ⟨xk, xd⟩ D[m] = false → Mid ⟨xk, xd⟩ D (m + 1) false (out ++ [D[m]])) := Lib.hid (fun e ha => mid_miss (e ▸ HMI.out) hlt2 ha)
            generalize hy : D[m] = y at *
            obtain ⟨yk, yd⟩ := y
            simp only at d0 d1
            clear hy
            have z0 := ((Gr.refl wr).alloc (.cells #[.int .i64 yk, .int .i64 yd] 40)).cell hx0
            have z1 := ((Gr.refl wr).alloc (.cells #[.int .i64 yk, .int .i64 yd] 40)).cell hx1
            cases dnb
            · have HI4 := Lib.hid (HI.out.alloc (.cells #[.int .i64 yk, .int .i64 yd] 40))
              have HO4 := Lib.hid (HOO.out.gr ((Gr.refl wr).alloc (.cells #[.int .i64 yk, .int .i64 yd] 40)))
              have HB4 := Lib.hid (Blk.new wr #[.int .i64 yk, .int .i64 yd] 40)
              have HOL := Lib.hid (fun k (e : (Value.slice oa out.length oc).ownBlock = some k) => (HOO.out.lt k e).2)
              go_wp2_with fail
              refine (ahead_any ⟨xk, xd⟩ ⟨yk, yd⟩ _).mono ?_
              rintro e w5 ⟨rfl, hg5⟩
              generalize hq : aheadA ⟨xk, xd⟩ ⟨yk, yd⟩ = q at *
              have HI5 := Lib.hid (HI4.out.trans hg5)
              have HO5 := Lib.hid (HO4.out.gr hg5)
              have HB5 := Lib.hid (HB4.out.gr hg5)
              have q0 := HB5.out.cell (i := 0) rfl
              have q1 := HB5.out.cell (i := 1) rfl
              have r0 := hg5.cell z0
              have r1 := hg5.cell z1
              clear hg5 z0 z1 hx0 hx1 d0 d1 HI4 HO4 HB4
              have HZ3 := Lib.hid HI5.out.size
              cases q
              · have HMN := Lib.hid (HMM.out (by trivial) rfl)
                clear HMM HMH HMD hq r0 r1
                have hrow : (w5.alloc (.cells #[.int .i64 yk, .int .i64 yd] 40)).ownsRow ws.heap.size 40 2 _ _ _ := HO5.out.gr ((Gr.refl _).alloc _)
                have HG3 := Lib.hid (HI5.out.alloc (.cells #[.int .i64 yk, .int .i64 yd] 40))
                go_wp2_with (at_builtin; go_loud (refine wpList_append_lies _ rfl (.tmp 48) (.tmp 50) 27 rfl ws.heap.size 40 i0 (.agg #[.int .i64 0, .int .i64 0]) 2 16 Try.underlying27 hi hz0 hz1 hz2 rfl (by decide) _ _ _ rfl hrow ⟨w5.heap.size, 0, none⟩ 1 1 [.int .i64 yk, .int .i64 yd] rfl (by simp) ?c1 ?c2 Nat.one_pos ?c3 ?c4 ?c5 _ rfl ?_))
                case c1 =>
                  have := World.news_of_block (cs := #[.int .i64 yk, .int .i64 yd]) (t := 40) (fr := (0, 0)) (heap_alloc_new (w5) (.cells #[.int .i64 yk, .int .i64 yd] 40))
                  first | exact this | rwa [show (w5).heap.size = w5.heap.size by simp] at this
                case c2 => intro u hu; simp at hu; rcases hu with rfl | rfl <;> rfl
                case c3 => unfold maxLen; first | omega | (simp; omega)
                case c4 => first | omega | (simp; omega)
                case c5 => have := HZ3.out; simp; omega
                intro g7 cap7 w7 hown7 hgrow7 hat7 hlt7
                have HG7 := Lib.hid (HG3.out.append hrow hgrow7)
                have HO7 := Lib.hid (show RRow w7 ws.heap.size (.slice (some ⟨g7, 0, none⟩) (out.length + 1) cap7) (out ++ [⟨yk, yd⟩]) by unfold RRow; rw [rcells_snoc, List.length_append]; exact hown7)
                clear hown7 hgrow7 hat7 hlt7 hrow HG3 q0 q1
                go_wp2
                go_roundw
                case rel => exact ⟨m + 1, false, _, by omega, by go_num, rfl, HG7, HO7, HMN⟩
                case measure => simp [intOf]; omega
              · have HMN := Lib.hid (HMH.out (by trivial) rfl)
                clear HMM HMH HMD hq q0 q1
                have hrow : (w5.alloc (.cells #[.int .i64 xk, .int .i64 xd] 40)).ownsRow ws.heap.size 40 2 _ _ _ := HO5.out.gr ((Gr.refl _).alloc _)
                have HG3 := Lib.hid (HI5.out.alloc (.cells #[.int .i64 xk, .int .i64 xd] 40))
                go_wp2_with (at_builtin; go_loud (refine wpList_append_lies _ rfl (.tmp 44) (.tmp 46) 27 rfl ws.heap.size 40 i0 (.agg #[.int .i64 0, .int .i64 0]) 2 16 Try.underlying27 hi hz0 hz1 hz2 rfl (by decide) _ _ _ rfl hrow ⟨w5.heap.size, 0, none⟩ 1 1 [.int .i64 xk, .int .i64 xd] rfl (by simp) ?c1 ?c2 Nat.one_pos ?c3 ?c4 ?c5 _ rfl ?_))
                case c1 =>
                  have := World.news_of_block (cs := #[.int .i64 xk, .int .i64 xd]) (t := 40) (fr := (0, 0)) (heap_alloc_new (w5) (.cells #[.int .i64 xk, .int .i64 xd] 40))
                  first | exact this | rwa [show (w5).heap.size = w5.heap.size by simp] at this
                case c2 => intro u hu; simp at hu; rcases hu with rfl | rfl <;> rfl
                case c3 => unfold maxLen; first | omega | (simp; omega)
                case c4 => first | omega | (simp; omega)
                case c5 => have := HZ3.out; simp; omega
                intro g7 cap7 w7 hown7 hgrow7 hat7 hlt7
                have HG7 := Lib.hid (HG3.out.append hrow hgrow7)
                have HO7 := Lib.hid (show RRow w7 ws.heap.size (.slice (some ⟨g7, 0, none⟩) (out.length + 1) cap7) (out ++ [⟨xk, xd⟩]) by unfold RRow; rw [rcells_snoc, List.length_append]; exact hown7)
                have HB7 : Hid (Blk w7 wr.heap.size #[.int .i64 yk, .int .i64 yd] 40) := Lib.hid (by
                  have hb6 := HB5.out.gr ((Gr.refl w5).alloc (.cells #[.int .i64 xk, .int .i64 xd] 40))
                  exact (hgrow7.block _ hb6.lt (fun e => by have := HOL.out _ e.symm; omega)).trans hb6)
                have q0 := HB7.out.cell (i := 0) rfl
                have q1 := HB7.out.cell (i := 1) rfl
                clear hown7 hgrow7 hat7 hlt7 hrow HG3 r0 r1
                have hrow2 : (w7.alloc (.cells #[.int .i64 yk, .int .i64 yd] 40)).ownsRow ws.heap.size 40 2 _ _ _ := HO7.out.gr ((Gr.refl _).alloc _)
                have HG9 := Lib.hid (HG7.out.alloc (.cells #[.int .i64 yk, .int .i64 yd] 40))
                have HZ7 := Lib.hid HG7.out.size
                go_wp2_with (at_builtin; go_loud (refine wpList_append_lies _ rfl (.tmp 48) (.tmp 50) 27 rfl ws.heap.size 40 i0 (.agg #[.int .i64 0, .int .i64 0]) 2 16 Try.underlying27 hi hz0 hz1 hz2 rfl (by decide) _ _ _ rfl hrow2 ⟨w7.heap.size, 0, none⟩ 1 1 [.int .i64 yk, .int .i64 yd] rfl (by simp) ?c1 ?c2 Nat.one_pos ?c3 ?c4 ?c5 _ rfl ?_))
                case c1 =>
                  have := World.news_of_block (cs := #[.int .i64 yk, .int .i64 yd]) (t := 40) (fr := (0, 0)) (heap_alloc_new (w7) (.cells #[.int .i64 yk, .int .i64 yd] 40))
                  first | exact this | rwa [show (w7).heap.size = w8.heap.size by simp] at this
                case c2 => intro u hu; simp at hu; rcases hu with rfl | rfl <;> rfl
                case c3 => unfold maxLen; first | omega | (simp; omega)
                case c4 => first | omega | (simp; omega)
                case c5 => have := HZ7.out; simp; omega
                intro g8 cap8 w8 hown8 hgrow8 hat8 hlt8
                have HG8 := Lib.hid (HG9.out.append hrow2 hgrow8)
                have HO8 := Lib.hid (show RRow w8 ws.heap.size (.slice (some ⟨g8, 0, none⟩) (out.length + 1 + 1) cap8) ((out ++ [⟨xk, xd⟩]) ++ [⟨yk, yd⟩]) by unfold RRow; rw [rcells_snoc, rcells_snoc, List.length_append, List.length_append]; rw [rcells_snoc] at hown8; exact hown8)
                clear hown8 hgrow8 hat8 hlt8 hrow2 HG9 q0 q1
                go_wp2
                go_roundw
                case rel => exact ⟨m + 1, true, _, by omega, by go_num, rfl, HG8, HO8, HMN⟩
                case measure => simp [intOf]; omega
            · have HMN := Lib.hid (HMD.out (by trivial))
              clear HMM HMH HMD z0 z1
              have hrow : ((wr.alloc (.cells #[.int .i64 yk, .int .i64 yd] 40)).alloc (.cells #[.int .i64 yk, .int .i64 yd] 40)).ownsRow ws.heap.size 40 2 _ _ _ := HOO.out.gr (((Gr.refl _).alloc _).alloc _)
              have HG3 := Lib.hid ((HI.out.alloc (.cells #[.int .i64 yk, .int .i64 yd] 40)).alloc (.cells #[.int .i64 yk, .int .i64 yd] 40))
              go_wp2_with (at_builtin; go_loud (refine wpList_append_lies _ rfl (.tmp 48) (.tmp 50) 27 rfl ws.heap.size 40 i0 (.agg #[.int .i64 0, .int .i64 0]) 2 16 Try.underlying27 hi hz0 hz1 hz2 rfl (by decide) _ _ _ rfl hrow ⟨wr.heap.size + 1, 0, none⟩ 1 1 [.int .i64 yk, .int .i64 yd] rfl (by simp) ?c1 ?c2 Nat.one_pos ?c3 ?c4 ?c5 _ rfl ?_))
              case c1 =>
                have := World.news_of_block (cs := #[.int .i64 yk, .int .i64 yd]) (t := 40) (fr := (0, 0)) (heap_alloc_new ((wr.alloc (.cells #[.int .i64 yk, .int .i64 yd] 40))) (.cells #[.int .i64 yk, .int .i64 yd] 40))
                first | exact this | rwa [show ((wr.alloc (.cells #[.int .i64 yk, .int .i64 yd] 40))).heap.size = wr.heap.size + 1 by simp] at this
              case c2 => intro u hu; simp at hu; rcases hu with rfl | rfl <;> rfl
              case c3 => unfold maxLen; first | omega | (simp; omega)
              case c4 => first | omega | (simp; omega)
              case c5 => have := HZ3.out; simp; omega
              intro g7 cap7 w7 hown7 hgrow7 hat7 hlt7
              have HG7 := Lib.hid (HG3.out.append hrow hgrow7)
              have HO7 := Lib.hid (show RRow w7 ws.heap.size (.slice (some ⟨g7, 0, none⟩) (out.length + 1) cap7) (out ++ [⟨yk, yd⟩]) by unfold RRow; rw [rcells_snoc, List.length_append]; exact hown7)
              clear hown7 hgrow7 hat7 hlt7 hrow HG3
              go_wp2
              go_roundw
              case rel => exact ⟨m + 1, true, _, by omega, by go_num, rfl, HG7, HO7, HMN⟩
              case measure => simp [intOf]; omega
          · obtain rfl : m = D.length := by omega
            have HME := Lib.hid (mid_end HMI.out)
            have HR8 := Lib.hid (HRS.out.gr HI.out)
            cases dnb
            · have hrow : (wr.alloc (.cells #[.int .i64 xk, .int .i64 xd] 40)).ownsRow ws.heap.size 40 2 _ _ _ := HOO.out.gr ((Gr.refl _).alloc _)
              have HG3 := Lib.hid (HI.out.alloc (.cells #[.int .i64 xk, .int .i64 xd] 40))
              go_wp2_with (at_builtin; go_loud (refine wpList_append_lies _ rfl (.tmp 55) (.tmp 57) 27 rfl ws.heap.size 40 i0 (.agg #[.int .i64 0, .int .i64 0]) 2 16 Try.underlying27 hi hz0 hz1 hz2 rfl (by decide) _ _ _ rfl hrow ⟨wr.heap.size, 0, none⟩ 1 1 [.int .i64 xk, .int .i64 xd] rfl (by simp) ?c1 ?c2 Nat.one_pos ?c3 ?c4 ?c5 _ rfl ?_))
              case c1 =>
                have := World.news_of_block (cs := #[.int .i64 xk, .int .i64 xd]) (t := 40) (fr := (0, 0)) (heap_alloc_new (wr) (.cells #[.int .i64 xk, .int .i64 xd] 40))
                first | exact this | rwa [show (wr).heap.size = wr.heap.size by simp] at this
              case c2 => intro u hu; simp at hu; rcases hu with rfl | rfl <;> rfl
              case c3 => unfold maxLen; first | omega | (simp; omega)
              case c4 => first | omega | (simp; omega)
              case c5 => have := HZ3.out; simp; omega
              intro g7 cap7 w7 hown7 hgrow7 hat7 hlt7
              have HG7 := Lib.hid (HG3.out.append hrow hgrow7)
              have HO7 := Lib.hid (show RRow w7 ws.heap.size (.slice (some ⟨g7, 0, none⟩) (out.length + 1) cap7) D1 by rw [HE.out.2, HME.out, if_neg (by decide)]; unfold RRow; rw [rcells_snoc, List.length_append]; exact hown7)
              have HA7 : Hid (Apart (.slice (some ⟨g7, 0, none⟩) (out.length + 1) cap7) u7) := Lib.hid fun k e e2 => by have := (HO7.out.lt k e).1; have := HRL.out k e2; omega
              have HG8 := Lib.hid (HGS.out.trans HG7.out)
              have HRR := Lib.hid (show RRow w7 w.heap.size u7 R1 by rw [HE.out.1]; exact HRS.out.gr HG7.out)
              have HOB := Lib.hid (HO7.out.base HGS.out.size)
              clear hown7 hgrow7 hat7 hlt7 hrow HG3
              go_wp2
              go_roundw
              case rel => exact ⟨j + 1, by omega, by go_num, HG8, Lib.hid (by rw [HD1.out]; exact HOB.out), Lib.hid (by rw [HR1.out]; exact HRR.out), HA7⟩
              case measure => simp [intOf]; omega
            · have HA7 : Hid (Apart (.slice oa out.length oc) u7) := Lib.hid fun k e e2 => by have := (HOO.out.lt k e).1; have := HRL.out k e2; omega
              have HG8 := Lib.hid (HGS.out.trans HI.out)
              have HRR := Lib.hid (show RRow wr w.heap.size u7 R1 by rw [HE.out.1]; exact HR8.out)
              have HOB := Lib.hid (show RRow wr w.heap.size (.slice oa out.length oc) D1 by rw [HE.out.2, HME.out, if_pos rfl]; exact HOO.out.base HGS.out.size)
              go_wp2
              go_roundw
              case rel => exact ⟨j + 1, by omega, by go_num, HG8, Lib.hid (by rw [HD1.out]; exact HOB.out), Lib.hid (by rw [HR1.out]; exact HRR.out), HA7⟩
              case measure => simp [intOf]; omega
    · obtain rfl : j = L.length := by omega
      rw [List.take_length] at HD HR
      obtain ⟨sa, sc, rfl⟩ := HD.out.slice
      obtain ⟨ra, rc, rfl⟩ := HR.out.slice
      generalize hM : dueR L t = M at *
      have HM9 := Lib.hid hM
      generalize hN : restR L t = N at *
      have HN9 := Lib.hid hN
      clear hM hN
      go_wp2
      refine bodyPost_ret (v := .tuple #[.slice sa M.length sc, .slice ra N.length rc]) (by simp [results, Try.results18, go_sem]; try rfl) rfl ?_
      exact ⟨_, _, rfl, by rw [HM9.out]; exact HD.out, by rw [HN9.out]; exact HR.out, HA.out, HG.out⟩
end Go.Proofs.Ytahohgnkichibaa
