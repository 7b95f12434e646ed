import Derived.Test.YtnanclgnjchpeaaF19u
import Derived.WalkKit
import Derived.ProofKit
import Derived.LoopTactic
import Derived.Outline
import Derived.WalkSpells
import Derived.WalkLawsBesides
import Derived.Lib.Hide
import Derived.Deep.LoopGhost
import Derived.Deep.QuietTactic
import Derived.BigQuiet
import Derived.ShutString
import Derived.IntWalk
import Derived.BigQuiet
import Derived.Laws.OwnMore
namespace Go.Proofs.Ytnanclgnjchpeaa
open Go.ChangeShapes Go.WideShapes Go.ChangeAt Go.RowKit
open Bal
set_option linter.unusedVariables false
set_option linter.unusedSimpArgs false
/-- The document's log: the first j slots behind b. -/
def rowsM (M : List RE) (b : Int) (j : Nat) : List RE := (List.range j).map fun i => ⟨b + 1 + (i : Nat), txtM M (b + 1 + (i : Nat))⟩
def logM (M : List RE) (b : Int) (j : Nat) (frm most : Int) : List RE := ((rowsM M b j).filter fun e => decide (frm ≤ e.slot)).take (max most 0).toNat
theorem logM_zero (M : List RE) (b frm most : Int) : logM M b 0 frm most = [] := by simp [logM, rowsM]
theorem logM_len (M : List RE) (b : Int) (j : Nat) (frm most : Int) : (logM M b j frm most).length ≤ j := by
  unfold logM rowsM
  rw [List.length_take]
  have := List.length_filter_le (fun e : RE => decide (frm ≤ e.slot)) ((List.range j).map fun i => (⟨b + 1 + (i : Nat), txtM M (b + 1 + (i : Nat))⟩ : RE))
  rw [List.length_map, List.length_range] at this
  omega
theorem logM_succ (M : List RE) (b : Int) (j : Nat) (frm most : Int) : logM M b (j + 1) frm most = if frm ≤ b + 1 + (j : Nat) ∧ ((logM M b j frm most).length : Int) < most then logM M b j frm most ++ [⟨b + 1 + (j : Nat), txtM M (b + 1 + (j : Nat))⟩] else logM M b j frm most := by
  have e : rowsM M b (j + 1) = rowsM M b j ++ [⟨b + 1 + (j : Nat), txtM M (b + 1 + (j : Nat))⟩] := by
    unfold rowsM; rw [List.range_succ, List.map_append]; rfl
  unfold logM
  rw [e, List.filter_append]
  generalize (rowsM M b j).filter (fun e => decide (frm ≤ e.slot)) = A
  by_cases h1 : frm ≤ b + 1 + (j : Nat)
  · have e2 : List.filter (fun e : RE => decide (frm ≤ e.slot)) [⟨b + 1 + (j : Nat), txtM M (b + 1 + (j : Nat))⟩] = [⟨b + 1 + (j : Nat), txtM M (b + 1 + (j : Nat))⟩] := by simp [h1]
    rw [e2]
    by_cases h2 : ((A.take (max most 0).toNat).length : Int) < most
    · rw [if_pos ⟨h1, h2⟩]
      rw [List.length_take] at h2
      rw [List.take_of_length_le (by rw [List.length_append]; simp; omega), List.take_of_length_le (by omega)]
    · rw [if_neg (fun h => h2 h.2)]
      rw [List.length_take] at h2
      rw [List.take_append_of_le_length (by omega)]
  · have e2 : List.filter (fun e : RE => decide (frm ≤ e.slot)) [⟨b + 1 + (j : Nat), txtM M (b + 1 + (j : Nat))⟩] = [] := by simp [h1]
    rw [e2, List.append_nil, if_neg (fun h => h1 h.1)]
set_option maxRecDepth 100000 in
set_option maxHeartbeats 2000000 in
theorem refLog_any (b d : Int) (k : Nat) (frm most : Int) (lv : Value) (M : List RE) (w : World) (hr : RRow w lv M) (hl : M.length ≤ 1000) (hb : 0 ≤ b ∧ b ≤ 1000000) (hk : d - b = k) (hk2 : k ≤ 1000) :
    Calls Try.prog 69 #[.agg #[.int .i64 b, .int .i64 d, lv], .int .i64 frm, .int .i64 most] w fun e w' => ∃ ra rc, e = .returned (.slice ra (logM M b k frm most).length rc) ∧ RRow w' (.slice ra (logM M b k frm most).length rc) (logM M b k frm most) ∧ Gr w w' := by
  obtain ⟨i0, hi0, hz0, hz1, hz2⟩ := info_parts info_re
  have HR0 := Lib.hid hr
  have HA := Lib.hid ((Blk.new w #[.int .i64 b, .int .i64 d, lv] 31).gr ((Gr.refl _).alloc (.cells #[] 119)))
  have HG := Lib.hid (((Gr.refl w).alloc (.cells #[.int .i64 b, .int .i64 d, lv] 31)).alloc (.cells #[] 119))
  have HOC := Lib.hid (show ((w.alloc (.cells #[.int .i64 b, .int .i64 d, lv] 31)).alloc (.cells #[] 119)).ownsRow (w.heap.size + 1) 119 2 (.slice (some ⟨w.heap.size + 1, 0, none⟩) 0 0) 0 (rcells encR []) from
    owns_of (Nat.le_refl _) (by have := Blk.new (w.alloc (.cells #[.int .i64 b, .int .i64 d, lv] 31)) #[] 119; rw [show (w.alloc (.cells #[.int .i64 b, .int .i64 d, lv] 31)).heap.size = w.heap.size + 1 by simp] at this; exact this) rfl (Nat.le_refl _) (by unfold maxLen; omega) rfl (fun j u hj => by simp [rcells] at hj))
  have hw1 : IntKind.i64.wrap (b + 1) = b + 1 := by rw [IntKind.wrap_i64]; omega
  obtain ⟨la, lc, rfl, _⟩ := ownsRow_slice hr
  clear hr
  go_enter Try.func69, Try.ntmps69
  go_wp2
  generalize (w.alloc (.cells #[.int .i64 b, .int .i64 d, .slice la M.length lc] 31)).alloc (.cells #[] 119) = wa at *
  go_loopw [7, 8] (fun u7 u8 wr => ∃ j : Nat, j ≤ k ∧ u8 = .int .i64 (b + 1 + j) ∧ Hid (wr.ownsRow (w.heap.size + 1) 119 2 u7 (logM M b j frm most).length (rcells encR (logM M b j frm most))) ∧ Hid (Gr w wr) ∧ Hid (Blk wr w.heap.size #[.int .i64 b, .int .i64 d, .slice la M.length lc] 31)) (fun _ u8 _ => (b + 1 + k - intOf u8).toNat)
  case atStart => exact ⟨0, by omega, by go_num, by rw [logM_zero]; exact HOC, HG, HA⟩
  case round =>
    clear HOC HG HA
    obtain ⟨j, hj, rfl, HO, HG, HA⟩ := hrel
    have a1 := HA.out.cell (i := 1) rfl
    have a0 := HA.out.cell (i := 0) rfl
    have a2 := HA.out.cell (i := 2) rfl
    obtain ⟨ua, uc, hu, _⟩ := ownsRow_slice HO.out
    subst hu
    by_cases hlt : j < k
    · have hj4 : b + 1 + (j : Int) ≤ d := by omega
      have hw2 : IntKind.i64.wrap (b + 1 + (j : Int) + 1) = b + 1 + (j : Int) + 1 := by rw [IntKind.wrap_i64]; omega
      have HK := Lib.hid (refKnown_any b d (b + 1 + (j : Nat)) _ M _ (ownsRow_gr HG.out HR0.out) hl)
      have HS := Lib.hid (logM_succ M b j frm most)
      have hll := logM_len M b j frm most
      have hll2 := logM_len M b (j + 1) frm most
      generalize txtM M (b + 1 + (j : Nat)) = T at *
      generalize hasM M (b + 1 + (j : Nat)) = B at *
      generalize hQ : logM M b (j + 1) frm most = Q at *
      have HQ := Lib.hid hQ
      clear hQ
      generalize logM M b j frm most = D at *
      go_wp2_with fail
      refine HK.out.mono ?_
      rintro e w2 ⟨rfl, hg2⟩
      have HO2 := Lib.hid (ownsRow_gr hg2 HO.out)
      have HG2 := Lib.hid (HG.out.trans hg2)
      have HA2 := Lib.hid (HA.out.gr hg2)
      clear hg2 HK HO HG HA a0 a1 a2
      by_cases h1 : frm ≤ b + 1 + (j : Int)
      · have h1' : b + 1 + (j : Int) ≥ frm := h1
        by_cases h2 : (D.length : Int) < most
        · have HS2 := Lib.hid (show Q = D ++ [⟨b + 1 + (j : Nat), T⟩] by rw [HS.out, if_pos ⟨h1, h2⟩])
          have hown := HO2.out.alloc (.cells #[.int .i64 (b + 1 + (j : Int)), .string T] 119)
          clear HS
          go_wp2_with (at_builtin; refine wpList_append_own _ rfl (.tmp 36) (.tmp 40) 29 rfl (w.heap.size + 1) 119 i0 (.agg #[.int .i64 0, .string ⟨#[]⟩]) 2 24 Try.underlying29 hi0 hz0 hz1 hz2 rfl (by decide) _ _ _ rfl hown ⟨w2.heap.size, 0, none⟩ 1 1 [.int .i64 (b + 1 + (j : Int)), .string T] rfl rfl ?c1 ?c2 ?c3 ?c4 ?c5 ?_)
          case c1 => exact cellsR_two _ _ _ _ _ rfl
          case c2 => intro u hu; simp at hu; rcases hu with rfl | rfl <;> rfl
          case c3 => unfold maxLen; omega
          case c4 => omega
          case c5 => have := HA2.out.lt; simp; omega
          · intro v' w3 hown3 hgrow _
            have HG3 := Lib.hid ((HG2.out.alloc _).append (row_weak hown (Nat.le_succ _)) hgrow)
            have HA3 := Lib.hid ((HA2.out.gr ((Gr.refl _).alloc _)).grownB hgrow (row_off HA2.out HO2.out (by decide)))
            have HO3 := Lib.hid (show w3.ownsRow (w.heap.size + 1) 119 2 v' Q.length (rcells encR Q) by
              rw [HS2.out, List.length_append, rcells_snoc]
              exact hown3)
            clear hown hown3 hgrow HO2 HA2 HG2
            go_wp2
            go_roundw
            case rel => exact ⟨j + 1, by omega, by go_num, by rw [HQ.out]; exact HO3, HG3, HA3⟩
            case measure => simp [intOf]; omega
        · have HS2 := Lib.hid (show Q = D by rw [HS.out, if_neg (fun h => h2 h.2)])
          clear HS
          go_wp2
          go_roundw
          case rel => exact ⟨j + 1, by omega, by go_num, by rw [HQ.out, HS2.out]; exact HO2, HG2, HA2⟩
          case measure => simp [intOf]; omega
      · have h1' : ¬ b + 1 + (j : Int) ≥ frm := h1
        have HS2 := Lib.hid (show Q = D by rw [HS.out, if_neg (fun h => h1 h.1)])
        clear HS
        go_wp2
        go_roundw
        case rel => exact ⟨j + 1, by omega, by go_num, by rw [HQ.out, HS2.out]; exact HO2, HG2, HA2⟩
        case measure => simp [intOf]; omega
    · have hj4 : ¬ b + 1 + (j : Int) ≤ d := by omega
      obtain rfl : j = k := by omega
      go_wp2
      go_ret
      exact ⟨_, _, rfl, row_weak HO.out (Nat.zero_le _), HG.out⟩
/-- What Missing answers, said by what is known. -/
structure IsMx (has : Int → Bool) (mx : Int) : Prop where
  ub : ∀ x, has x = true → x ≤ mx
  at' : mx = 0 ∨ has mx = true
  nn : 0 ≤ mx
def IsMiss (has : Int → Bool) (mx d r : Int) : Prop := (r = 0 ∧ ∀ n, d < n → n < mx → has n = true) ∨ (d < r ∧ r < mx ∧ has r = false ∧ ∀ n, d < n → n < r → has n = true)
end Go.Proofs.Ytnanclgnjchpeaa
