import Derived.Test.YtnanclgnjchpeaaF19r
import Derived.WalkKit
import Derived.ProofKit
import Derived.LoopTactic
import Derived.Outline
import Derived.WalkSpells
import Derived.WalkLawsBesides
import Derived.Lib.Hide
import Derived.Deep.LoopGhost
import Derived.Deep.QuietTactic
import Derived.BigQuiet
import Derived.ShutString
import Derived.IntWalk
import Derived.BigQuiet
import Derived.Laws.OwnMore
import Derived.Deep.MidRow
import Derived.Deep.Cut
import Derived.Deep.CutRange
namespace Go.Proofs.Ytnanclgnjchpeaa
open Go.ChangeShapes Go.WideShapes Go.ChangeAt Go.RowKit
open Bal
set_option linter.unusedVariables false
set_option linter.unusedSimpArgs false
def dropM (M : List RE) (x : Int) : List RE := M.filter fun e => decide (x < e.slot)
theorem dropM_snoc (M : List RE) (x : Int) (j : Nat) (hj : j < M.length) : dropM (M.take (j + 1)) x = dropM (M.take j) x ++ (if x < M[j].slot then [M[j]] else []) := by
  unfold dropM
  rw [List.take_succ_eq_append_getElem hj, List.filter_append]
  congr 1
  by_cases h : x < M[j].slot <;> simp [h]
theorem cellsR_two (w : World) (x0 x1 : Value) (t : TypeId) (n : Nat) (hn : n = w.heap.size) : ∀ (j : Nat) (u : Value), [x0, x1][j]? = some u → (w.alloc (.cells #[x0, x1] t)).cell? ((⟨n, 0, none⟩ : Addr).add j) = some u := by
  intro j u hj
  rw [addr_add, Nat.zero_add]
  subst hn
  exact (Blk.new w #[x0, x1] t).cell (by simpa using hj)
set_option maxRecDepth 100000 in
set_option maxHeartbeats 2000000 in
theorem refDrop_any (b d x : Int) (lv : Value) (M : List RE) (w : World) (hr : RRow w lv M) (hl : M.length ≤ 1000) :
    Calls Try.prog 66 #[.agg #[.int .i64 b, .int .i64 d, lv], .int .i64 x] w fun e w' => ∃ lv', e = .returned (.agg #[.int .i64 x, .int .i64 d, lv']) ∧ w'.ownsRow w.heap.size 119 2 lv' (dropM M x).length (rcells encR (dropM M x)) ∧ Gr w w' := by
  obtain ⟨i0, hi0, hz0, hz1, hz2⟩ := info_parts info_re
  have HG1 := Lib.hid (((Gr.refl w).alloc (.cells #[.int .i64 b, .int .i64 d, lv] 31)).alloc (.cells #[.int .i64 0, .int .i64 0, .slice none 0 0] 31))
  have HA := Lib.hid ((Blk.new w #[.int .i64 b, .int .i64 d, lv] 31).gr ((Gr.refl _).alloc (.cells #[.int .i64 0, .int .i64 0, .slice none 0 0] 31)))
  have HZ := Lib.hid (Blk.new (w.alloc (.cells #[.int .i64 b, .int .i64 d, lv] 31)) #[.int .i64 0, .int .i64 0, .slice none 0 0] 31)
  rw [show (w.alloc (.cells #[.int .i64 b, .int .i64 d, lv] 31)).heap.size = w.heap.size + 1 by simp] at HZ
  have HR0 := Lib.hid hr
  obtain ⟨la, lc, rfl, _⟩ := ownsRow_slice hr
  clear hr
  go_enter Try.func66, Try.ntmps66
  go_wp2
  generalize hwb : (w.alloc (.cells #[.int .i64 b, .int .i64 d, .slice la M.length lc] 31)).alloc (.cells #[.int .i64 0, .int .i64 0, .slice none 0 0] 31) = wb at *
  have hsz : Hid (wb.heap.size = w.heap.size + 1 + 1) := Lib.hid (by rw [← hwb]; simp)
  clear hwb
  have HGC := Lib.hid (HG1.out.alloc (.cells #[] 119))
  have HOC := Lib.hid (show (wb.alloc (.cells #[] 119)).ownsRow w.heap.size 119 2 (.slice (some ⟨w.heap.size + 1 + 1, 0, none⟩) 0 0) 0 (rcells encR []) from
    owns_of (by omega) (by have := Blk.new wb #[] 119; rw [hsz.out] at this; exact this) rfl (Nat.le_refl _) (by unfold maxLen; omega) rfl (fun j u hj => by simp [rcells] at hj))
  have HG0 := Lib.hid ((Gr.refl wb).alloc (.cells #[] 119))
  have HAC := Lib.hid (HA.out.gr HG0.out)
  have HZC := Lib.hid (HZ.out.gr HG0.out)
  clear HG1 HA HZ HG0 hsz
  generalize wb.alloc (.cells #[] 119) = wc at *
  go_loopw [5, 12] (fun u5 u12 wr => ∃ i : Nat, i ≤ M.length ∧ u12 = .int .i64 (i : Nat) ∧ Hid (wr.ownsRow w.heap.size 119 2 u5 (dropM (M.take i) x).length (rcells encR (dropM (M.take i) x))) ∧ Hid (Gr w wr) ∧ Hid (Blk wr w.heap.size #[.int .i64 b, .int .i64 d, .slice la M.length lc] 31) ∧ Hid (Blk wr (w.heap.size + 1) #[.int .i64 0, .int .i64 0, .slice none 0 0] 31)) (fun _ u12 _ => M.length - (intOf u12).toNat)
  case atStart => exact ⟨0, by omega, rfl, HOC, HGC, HAC, HZC⟩
  case round =>
    clear HOC HGC HAC HZC
    obtain ⟨i, hi, rfl, HO, HG, HA, HZ⟩ := hrel
    by_cases hlt : i < M.length
    · have hi4 : (i : Int) < (M.length : Int) := by omega
      obtain ⟨g, cap, hv, c0, c1⟩ := rrow_at (ownsRow_gr HG.out HR0.out) i hlt
      simp only [Value.slice.injEq, true_and] at hv
      obtain ⟨rfl, rfl⟩ := hv
      have HSN := Lib.hid (dropM_snoc M x i hlt)
      have hdl : (dropM (M.take i) x).length ≤ 1000 := Nat.le_trans (List.length_filter_le _ _) (by rw [List.length_take]; omega)
      generalize M[i] = y at *
      obtain ⟨s, t⟩ := y
      simp only at c0 c1 HSN
      have HGA := Lib.hid ((Gr.refl wr).alloc (.cells #[.int .i64 s, .string t] 119))
      have HOA := Lib.hid (ownsRow_gr HGA.out HO.out)
      have HAA := Lib.hid (HA.out.gr HGA.out)
      have HZA := Lib.hid (HZ.out.gr HGA.out)
      have HGG := Lib.hid (HG.out.trans HGA.out)
      have HWZ := Lib.hid HG.out.size
      have HWA := Lib.hid (HA.out.lt)
      obtain ⟨ua, uc, hu, _⟩ := ownsRow_slice HO.out
      subst hu
      by_cases hx : x < s
      · have hx2 : s > x := hx
        have HS2 := Lib.hid (show dropM (M.take (i + 1)) x = dropM (M.take i) x ++ [⟨s, t⟩] by rw [HSN.out, if_pos hx])
        clear HSN HO HA HZ HG
        generalize dropM (M.take i) x = D at *
        generalize hD1 : dropM (M.take (i + 1)) x = D1 at *
        have HD1 := Lib.hid hD1
        clear hD1
        have hown := HOA.out
        have hbs : w.heap.size ≤ wr.heap.size := HWZ.out
        go_wp2_with (at_builtin; refine wpList_append_own _ rfl (.tmp 20) (.tmp 22) 29 rfl w.heap.size 119 i0 (.agg #[.int .i64 0, .string ⟨#[]⟩]) 2 24 Try.underlying29 hi0 hz0 hz1 hz2 rfl (by decide) _ _ _ rfl (hown.alloc _) ⟨wr.heap.size + 1, 0, none⟩ 1 1 [.int .i64 s, .string t] rfl rfl ?c1 ?c2 ?c3 ?c4 ?c5 ?_)
        case c1 => exact cellsR_two _ _ _ _ _ (by simp)
        case c2 => intro u hu; simp at hu; rcases hu with rfl | rfl <;> rfl
        case c3 => unfold maxLen; omega
        case c4 => omega
        case c5 => simp; omega
        · intro v' w3 hown3 hgrow _
          have HG3 := Lib.hid ((HGG.out.alloc _).append (hown.alloc _) hgrow)
          have HA3 := Lib.hid ((HAA.out.gr ((Gr.refl _).alloc _)).grownB hgrow (row_off HAA.out hown (by decide)))
          have HZ3 := Lib.hid ((HZA.out.gr ((Gr.refl _).alloc _)).grownB hgrow (row_off HZA.out hown (by decide)))
          have HO3 := Lib.hid (show w3.ownsRow w.heap.size 119 2 v' (dropM (M.take (i + 1)) x).length (rcells encR (dropM (M.take (i + 1)) x)) by
            rw [HD1.out, HS2.out, List.length_append, rcells_snoc]
            exact hown3)
          clear hown hown3 hgrow
          go_wp2
          go_roundw
          case rel => exact ⟨i + 1, by omega, by go_num, HO3, HG3, HA3, HZ3⟩
          case measure => simp [intOf]; omega
      · have hx2 : ¬ s > x := hx
        have HS2 := Lib.hid (show dropM (M.take (i + 1)) x = dropM (M.take i) x by rw [HSN.out, if_neg hx, List.append_nil])
        clear HSN HO HA HZ HG
        go_wp2
        go_roundw
        case rel => exact ⟨i + 1, by omega, by go_num, by rw [HS2.out]; exact HOA, HGG, HAA, HZA⟩
        case measure => simp [intOf]; omega
    · have hi4 : ¬ (i : Int) < (M.length : Int) := by omega
      obtain rfl : i = M.length := by omega
      rw [List.take_length] at HO
      obtain ⟨ua, uc, hu, _⟩ := ownsRow_slice HO.out
      subst hu
      have a1 := HA.out.cell (i := 1) rfl
      have z0 := HZ.out.cell (i := 0) rfl
      have z1 := HZ.out.cell (i := 1) rfl
      have z2 := HZ.out.cell (i := 2) rfl
      have f0 := HZ.out.free 0
      have f1 := HZ.out.free 1
      have f2 := HZ.out.free 2
      have HZ4 := Lib.hid (HZ.out.store3 (.int .i64 x) (.int .i64 d) (.slice ua (dropM M x).length uc))
      have HG4 := Lib.hid (HG.out.store3 (b := w.heap.size + 1) (by omega) (.int .i64 x) (.int .i64 d) (.slice ua (dropM M x).length uc))
      have HB := Lib.hid (show (Value.slice ua (dropM M x).length uc).ownBlock ≠ some (w.heap.size + 1) from row_off HZ.out HO.out (by decide))
      have HO4 := Lib.hid (ownsRow_setCell_other (a := ⟨w.heap.size + 1, 2, none⟩) (ownsRow_setCell_other (a := ⟨w.heap.size + 1, 1, none⟩) (ownsRow_setCell_other (a := ⟨w.heap.size + 1, 0, none⟩) HO.out HB.out (.int .i64 x)) HB.out (.int .i64 d)) HB.out (.slice ua (dropM M x).length uc))
      have y0 := HZ4.out.cell (i := 0) rfl
      have y1 := HZ4.out.cell (i := 1) rfl
      have y2 := HZ4.out.cell (i := 2) rfl
      generalize hDD : dropM M x = D at *
      have HDD := Lib.hid hDD
      clear hDD HO HG HA HZ
      go_wp2
      refine bodyPost_ret (v := .agg #[.int .i64 x, .int .i64 d, .slice ua D.length uc]) (by simp [results, Try.results66, go_sem, y0, y1, y2]; try rfl) rfl ?_
      rw [HDD.out]
      exact ⟨_, rfl, HO4.out, HG4.out⟩
namespace Rs
def folds (s : Rs) (x : Int) : Bool := decide (s.ba < x) && decide (x ≤ s.dn)
def fold (s : Rs) (x : Int) : Rs := if s.folds x then ⟨x, s.dn, dropM s.M x⟩ else s
def takes (s : Rs) (x : Int) : Bool := decide (s.dn < x)
def install (s : Rs) (x : Int) : Rs := if s.takes x then ⟨x, x, dropM s.M x⟩ else s
def learnR (s : Rs) (slot : Int) (text : ByteArray) : Int :=
  if slot ≤ s.ba then 0 else if hasM s.M slot then (if (txtM s.M slot).toList = text.toList then 0 else 7) else if s.dn + 1024 < slot then 6 else 0
def learn (s : Rs) (slot : Int) (text : ByteArray) : Rs :=
  if slot ≤ s.ba then s else if hasM s.M slot then s else if s.dn + 1024 < slot then s else { s with M := s.M ++ [⟨slot, text⟩] }
def next (s : Rs) : Rs := if hasM s.M (s.dn + 1) then { s with dn := s.dn + 1 } else s
end Rs
/-- What a call of the document's answers: a state whose row lies somewhere, and more. -/
def RTo (w w' : World) (s : Rs) (lv : Value) : Prop := RRow w' lv s.M ∧ Gr w w'
set_option maxRecDepth 100000 in
set_option maxHeartbeats 2000000 in
theorem refFold_any (b d x : Int) (lv : Value) (M : List RE) (w : World) (hr : RRow w lv M) (hl : M.length ≤ 1000) :
    Calls Try.prog 22 #[.agg #[.int .i64 b, .int .i64 d, lv], .int .i64 x] w fun e w' => ∃ lv', e = .returned (.tuple #[(Rs.fold ⟨b, d, M⟩ x).val lv', .bool (Rs.folds ⟨b, d, M⟩ x)]) ∧ RTo w w' (Rs.fold ⟨b, d, M⟩ x) lv' := by
  have HG1 := Lib.hid (((Gr.refl w).alloc (.cells #[.int .i64 b, .int .i64 d, lv] 31)).alloc (.cells #[.int .i64 0, .int .i64 0, .slice none 0 0] 31))
  have HZ := Lib.hid (Blk.new (w.alloc (.cells #[.int .i64 b, .int .i64 d, lv] 31)) #[.int .i64 0, .int .i64 0, .slice none 0 0] 31)
  rw [show (w.alloc (.cells #[.int .i64 b, .int .i64 d, lv] 31)).heap.size = w.heap.size + 1 by simp] at HZ
  have HD := Lib.hid (refDrop_any b d x lv M _ (ownsRow_gr HG1.out hr) hl)
  have HR0 := Lib.hid hr
  have HLV := Lib.hid (show lv.ownBlock ≠ some (w.heap.size + 1) from fun e => by have := (hr.lt _ e).2; omega)
  obtain ⟨la, lc, rfl, _⟩ := ownsRow_slice hr
  clear hr
  unfold Rs.fold Rs.folds Rs.val RTo
  simp only
  have f0 := HZ.out.free 0
  have f1 := HZ.out.free 1
  have f2 := HZ.out.free 2
  have z0 := HZ.out.cell (i := 0) rfl
  have z1 := HZ.out.cell (i := 1) rfl
  have z2 := HZ.out.cell (i := 2) rfl
  have HZ4 := Lib.hid (HZ.out.store3 (.int .i64 b) (.int .i64 d) (.slice la M.length lc))
  have HG4 := Lib.hid (HG1.out.store3 (b := w.heap.size + 1) (by omega) (.int .i64 b) (.int .i64 d) (.slice la M.length lc))
  have y0 := HZ4.out.cell (i := 0) rfl
  have y1 := HZ4.out.cell (i := 1) rfl
  have y2 := HZ4.out.cell (i := 2) rfl
  by_cases hx : x ≤ b
  · have h1 : decide (b < x) = false := decide_eq_false (by omega)
    rw [h1, Bool.false_and, if_neg (by simp)]
    clear h1 HD
    go_enter Try.func22, Try.ntmps22
    go_wp2
    refine bodyPost_ret (v := .tuple #[.agg #[.int .i64 b, .int .i64 d, .slice la M.length lc], .bool false]) (by simp [results, Try.results22, go_sem, y0, y1, y2]; try rfl) rfl ?_
    exact ⟨_, rfl, ownsRow_gr (((Gr.refl _).alloc _).alloc _) HR0.out, ((Gr.refl _).alloc _).alloc _⟩
  · have h1 : decide (b < x) = true := decide_eq_true (by omega)
    by_cases hy : d < x
    · have h2 : decide (x ≤ d) = false := decide_eq_false (by omega)
      rw [h1, h2, Bool.and_false, if_neg (by simp)]
      clear h1 h2 HD
      have hy2 : x > d := hy
      go_enter Try.func22, Try.ntmps22
      go_wp2
      refine bodyPost_ret (v := .tuple #[.agg #[.int .i64 b, .int .i64 d, .slice la M.length lc], .bool false]) (by simp [results, Try.results22, go_sem, y0, y1, y2]; try rfl) rfl ?_
      exact ⟨_, rfl, ownsRow_gr (((Gr.refl _).alloc _).alloc _) HR0.out, ((Gr.refl _).alloc _).alloc _⟩
    · have h2 : decide (x ≤ d) = true := decide_eq_true (by omega)
      rw [h1, h2, Bool.and_true, if_pos rfl]
      clear h1 h2 y0 y1 y2 HZ4 HG4 f0 f1 f2 z0 z1 z2
      have hy2 : ¬ x > d := hy
      go_enter Try.func22, Try.ntmps22
      go_wp2_with fail
      refine HD.out.mono ?_
      rintro e w2 ⟨lv2, rfl, hr2, hg2⟩
      have HR2 := Lib.hid hr2
      have HGG := Lib.hid (HG1.out.trans hg2)
      have HZ2 := Lib.hid (HZ.out.gr hg2)
      obtain ⟨la2, lc2, hv2, _⟩ := ownsRow_slice hr2
      subst hv2
      have f0 := HZ2.out.free 0
      have f1 := HZ2.out.free 1
      have f2 := HZ2.out.free 2
      have z0 := HZ2.out.cell (i := 0) rfl
      have z1 := HZ2.out.cell (i := 1) rfl
      have z2 := HZ2.out.cell (i := 2) rfl
      generalize hDD : dropM M x = D at *
      have HDD := Lib.hid hDD
      clear hDD
      have HZ4 := Lib.hid (HZ2.out.store3 (.int .i64 x) (.int .i64 d) (.slice la2 D.length lc2))
      have HG4 := Lib.hid (HGG.out.store3 (b := w.heap.size + 1) (by omega) (.int .i64 x) (.int .i64 d) (.slice la2 D.length lc2))
      have HB := Lib.hid (show (Value.slice la2 D.length lc2).ownBlock ≠ some (w.heap.size + 1) from row_off HZ2.out HR2.out (by decide))
      have HO4 := Lib.hid (ownsRow_setCell_other (a := ⟨w.heap.size + 1, 2, none⟩) (ownsRow_setCell_other (a := ⟨w.heap.size + 1, 1, none⟩) (ownsRow_setCell_other (a := ⟨w.heap.size + 1, 0, none⟩) HR2.out HB.out (.int .i64 x)) HB.out (.int .i64 d)) HB.out (.slice la2 D.length lc2))
      have y0 := HZ4.out.cell (i := 0) rfl
      have y1 := HZ4.out.cell (i := 1) rfl
      have y2 := HZ4.out.cell (i := 2) rfl
      clear hr2 hg2 HD
      go_wp2
      refine bodyPost_ret (v := .tuple #[.agg #[.int .i64 x, .int .i64 d, .slice la2 D.length lc2], .bool true]) (by simp [results, Try.results22, go_sem, y0, y1, y2]; try rfl) rfl ?_
      simp only [HDD.out]
      exact ⟨_, rfl, row_weak HO4.out (Nat.zero_le _), HG4.out⟩
set_option maxRecDepth 100000 in
set_option maxHeartbeats 2000000 in
theorem refInstall_any (b d x : Int) (lv : Value) (M : List RE) (w : World) (hr : RRow w lv M) (hl : M.length ≤ 1000) :
    Calls Try.prog 24 #[.agg #[.int .i64 b, .int .i64 d, lv], .int .i64 x] w fun e w' => ∃ lv', e = .returned (.tuple #[(Rs.install ⟨b, d, M⟩ x).val lv', .bool (Rs.takes ⟨b, d, M⟩ x)]) ∧ RTo w w' (Rs.install ⟨b, d, M⟩ x) lv' := by
  have HG1 := Lib.hid (((Gr.refl w).alloc (.cells #[.int .i64 b, .int .i64 d, lv] 31)).alloc (.cells #[.int .i64 0, .int .i64 0, .slice none 0 0] 31))
  have HA := Lib.hid ((Blk.new w #[.int .i64 b, .int .i64 d, lv] 31).gr ((Gr.refl _).alloc (.cells #[.int .i64 0, .int .i64 0, .slice none 0 0] 31)))
  have HZ := Lib.hid (Blk.new (w.alloc (.cells #[.int .i64 b, .int .i64 d, lv] 31)) #[.int .i64 0, .int .i64 0, .slice none 0 0] 31)
  rw [show (w.alloc (.cells #[.int .i64 b, .int .i64 d, lv] 31)).heap.size = w.heap.size + 1 by simp] at HZ
  have HD := Lib.hid (refDrop_any b d x lv M _ (ownsRow_gr HG1.out hr) hl)
  have HR0 := Lib.hid hr
  obtain ⟨la, lc, rfl, _⟩ := ownsRow_slice hr
  clear hr
  unfold Rs.install Rs.takes Rs.val RTo
  simp only
  by_cases hx : x ≤ d
  · have h1 : decide (d < x) = false := decide_eq_false (by omega)
    rw [h1, if_neg (by simp)]
    have f0 := HZ.out.free 0
    have f1 := HZ.out.free 1
    have f2 := HZ.out.free 2
    have z0 := HZ.out.cell (i := 0) rfl
    have z1 := HZ.out.cell (i := 1) rfl
    have z2 := HZ.out.cell (i := 2) rfl
    have HZ4 := Lib.hid (HZ.out.store3 (.int .i64 b) (.int .i64 d) (.slice la M.length lc))
    have HG4 := Lib.hid (HG1.out.store3 (b := w.heap.size + 1) (by omega) (.int .i64 b) (.int .i64 d) (.slice la M.length lc))
    have y0 := HZ4.out.cell (i := 0) rfl
    have y1 := HZ4.out.cell (i := 1) rfl
    have y2 := HZ4.out.cell (i := 2) rfl
    clear h1 HD
    go_enter Try.func24, Try.ntmps24
    go_wp2
    refine bodyPost_ret (v := .tuple #[.agg #[.int .i64 b, .int .i64 d, .slice la M.length lc], .bool false]) (by simp [results, Try.results24, go_sem, y0, y1, y2]; try rfl) rfl ?_
    exact ⟨_, rfl, ownsRow_gr (((Gr.refl _).alloc _).alloc _) HR0.out, ((Gr.refl _).alloc _).alloc _⟩
  · have h1 : decide (d < x) = true := decide_eq_true (by omega)
    rw [h1, if_pos rfl]
    clear h1
    go_enter Try.func24, Try.ntmps24
    go_wp2_with fail
    refine HD.out.mono ?_
    rintro e w2 ⟨lv2, rfl, hr2, hg2⟩
    have HR2 := Lib.hid hr2
    have HGG := Lib.hid (HG1.out.trans hg2)
    have HZ2 := Lib.hid (HZ.out.gr hg2)
    have HA2 := Lib.hid (HA.out.gr hg2)
    obtain ⟨la2, lc2, hv2, _⟩ := ownsRow_slice hr2
    subst hv2
    generalize hDD : dropM M x = D at *
    have HDD := Lib.hid hDD
    clear hDD
    have f0 := HA2.out.free 0
    have f1 := HA2.out.free 1
    have f2 := HA2.out.free 2
    have z0 := HA2.out.cell (i := 0) rfl
    have z1 := HA2.out.cell (i := 1) rfl
    have z2 := HA2.out.cell (i := 2) rfl
    have HA3 := Lib.hid ((HA2.out.store3 (.int .i64 x) (.int .i64 d) (.slice la2 D.length lc2)).set 1 (.int .i64 x))
    have HG3 := Lib.hid ((HGG.out.store3 (b := w.heap.size) (Nat.le_refl _) (.int .i64 x) (.int .i64 d) (.slice la2 D.length lc2)).setCell (p := ⟨w.heap.size, 1, none⟩) (Nat.le_refl _) (.int .i64 x))
    have HB := Lib.hid (show (Value.slice la2 D.length lc2).ownBlock ≠ some w.heap.size from row_off HA2.out HR2.out (by decide))
    have HO3 := Lib.hid (ownsRow_setCell_other (a := ⟨w.heap.size, 1, none⟩) (ownsRow_setCell_other (a := ⟨w.heap.size, 2, none⟩) (ownsRow_setCell_other (a := ⟨w.heap.size, 1, none⟩) (ownsRow_setCell_other (a := ⟨w.heap.size, 0, none⟩) HR2.out HB.out (.int .i64 x)) HB.out (.int .i64 d)) HB.out (.slice la2 D.length lc2)) HB.out (.int .i64 x))
    have hne : w.heap.size + 1 ≠ w.heap.size := by omega
    have HZ3 := Lib.hid ((((HZ2.out.other hne 0 (.int .i64 x)).other hne 1 (.int .i64 d)).other hne 2 (.slice la2 D.length lc2)).other hne 1 (.int .i64 x))
    clear hr2 hg2 HD HA2 HZ2 hne
    go_upto_region 5 with fail
    generalize (((w2.setCell ⟨w.heap.size, 0, none⟩ (.int .i64 x)).setCell ⟨w.heap.size, 1, none⟩ (.int .i64 d)).setCell ⟨w.heap.size, 2, none⟩ (.slice la2 D.length lc2)).setCell ⟨w.heap.size, 1, none⟩ (.int .i64 x) = w3 at *
    clear f0 f1 f2 z0 z1 z2
    replace HA3 := Lib.hid (show Blk w3 w.heap.size #[.int .i64 x, .int .i64 x, .slice la2 D.length lc2] 31 from HA3.out)
    have a0 := HA3.out.cell (i := 0) rfl
    have a1 := HA3.out.cell (i := 1) rfl
    have a2 := HA3.out.cell (i := 2) rfl
    have f0 := HZ3.out.free 0
    have f1 := HZ3.out.free 1
    have f2 := HZ3.out.free 2
    have z0 := HZ3.out.cell (i := 0) rfl
    have z1 := HZ3.out.cell (i := 1) rfl
    have z2 := HZ3.out.cell (i := 2) rfl
    have HZ4 := Lib.hid (HZ3.out.store3 (.int .i64 x) (.int .i64 x) (.slice la2 D.length lc2))
    have HG4 := Lib.hid (HG3.out.store3 (b := w.heap.size + 1) (by omega) (.int .i64 x) (.int .i64 x) (.slice la2 D.length lc2))
    have HB4 := Lib.hid (show (Value.slice la2 D.length lc2).ownBlock ≠ some (w.heap.size + 1) from row_off HZ3.out HO3.out (by decide))
    have HO4 := Lib.hid (ownsRow_setCell_other (a := ⟨w.heap.size + 1, 2, none⟩) (ownsRow_setCell_other (a := ⟨w.heap.size + 1, 1, none⟩) (ownsRow_setCell_other (a := ⟨w.heap.size + 1, 0, none⟩) HO3.out HB4.out (.int .i64 x)) HB4.out (.int .i64 x)) HB4.out (.slice la2 D.length lc2))
    have y0 := HZ4.out.cell (i := 0) rfl
    have y1 := HZ4.out.cell (i := 1) rfl
    have y2 := HZ4.out.cell (i := 2) rfl
    clear HA3 HZ3 HO3 HG3
    go_wp2
    refine bodyPost_ret (v := .tuple #[.agg #[.int .i64 x, .int .i64 x, .slice la2 D.length lc2], .bool true]) (by simp [results, Try.results24, go_sem, y0, y1, y2]; try rfl) rfl ?_
    simp only [HDD.out]
    exact ⟨_, rfl, row_weak HO4.out (Nat.zero_le _), HG4.out⟩
end Go.Proofs.Ytnanclgnjchpeaa
