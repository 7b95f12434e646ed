import Derived.Test.YtnanclgnjchpeaaH19
import Derived.Test.YtnanclgnjchpeaaF16w
import Derived.WalkKit
import Derived.ProofKit
import Derived.LoopTactic
import Derived.Outline
import Derived.WalkSpells
import Derived.WalkLawsBesides
import Derived.Lib.Hide
import Derived.Deep.LoopGhost
import Derived.Deep.QuietTactic
import Derived.BigQuiet
import Derived.ShutString
import Derived.IntWalk
import Derived.BigQuiet
import Derived.Laws.OwnMore
namespace Go.Proofs.Ytnanclgnjchpeaa
open Go.ChangeShapes Go.WideShapes Go.ChangeAt Go.RowKit
open Bal
set_option linter.unusedVariables false
set_option linter.unusedSimpArgs false
/-- Entries that lie behind an address. -/
def ERow (w : World) (a : Option Addr) (M : List E) : Prop := M = [] ∨ ∃ g o, a = some ⟨g, o, none⟩ ∧ ∀ j u, (rcells encE M)[j]? = some u → w.cell? ⟨g, o + j, none⟩ = some u
theorem ERow.gr {w w' : World} {a : Option Addr} {M : List E} (h : ERow w a M) (hg : Gr w w') : ERow w' a M := by
  rcases h with h | ⟨g, o, rfl, hc⟩
  · exact .inl h
  · exact .inr ⟨g, o, rfl, fun j u hj => hg.cell (hc j u hj)⟩
theorem ERow.of_row {w : World} {base n : Nat} {L : List E} {va : Option Addr} {vc : Nat} (hr : w.ownsRow base 44 4 (.slice va n vc) L.length (rcells encE L)) : ERow w va L := by
  by_cases h : L = []
  · exact .inl h
  · obtain ⟨g, cap, cur, hv, _, _, _, _, _, _, _, hat, _⟩ := owns_open hr (List.length_pos_iff.2 h)
    simp only [Value.slice.injEq] at hv
    exact .inr ⟨g, 0, hv.1, fun j u hj => by rw [Nat.zero_add]; exact hat j u hj⟩
theorem ERow.take {w : World} {a : Option Addr} {M : List E} (h : ERow w a M) (k : Nat) : ERow w a (M.take k) := by
  rcases h with rfl | ⟨g, o, rfl, hc⟩
  · exact .inl (by simp)
  · refine .inr ⟨g, o, rfl, fun j u hj => hc j u ?_⟩
    by_cases hk : k ≤ M.length
    · rw [← rcells_take encE_len M k hk] at hj
      rw [List.getElem?_take] at hj
      split at hj
      · exact hj
      · simp at hj
    · rwa [List.take_of_length_le (by omega)] at hj
theorem ERow.drop {w : World} {a : Option Addr} {M : List E} {c k : Nat} (h : ERow w a M) (hk : k ≤ M.length) (hc : M.length ≤ c) : ERow w (if c = k then a else Option.map (fun x => x.add (k * 4)) a) (M.drop k) := by
  by_cases e : c = k
  · exact .inl (List.drop_eq_nil_of_le (by omega))
  · rw [if_neg e]
    rcases h with rfl | ⟨g, o, rfl, hcl⟩
    · exact .inl (by simp)
    · refine .inr ⟨g, o + k * 4, by rw [Option.map_some, addr_add], fun j u hj => ?_⟩
      rw [rcells_dropAt hk] at hj
      rw [Nat.add_assoc]
      exact hcl _ u hj
theorem ERow.at {w : World} {a : Option Addr} {M : List E} (h : ERow w a M) (i : Nat) (hi : i < M.length) :
    ∃ g o, a = some ⟨g, o, none⟩ ∧ w.cell? ⟨g, o + i * 4, none⟩ = some (.int .i64 M[i].slot) ∧ w.cell? ⟨g, o + i * 4 + 1, none⟩ = some (.int .u64 M[i].c) ∧ w.cell? ⟨g, o + i * 4 + 2, none⟩ = some (.int .i64 M[i].n) ∧ w.cell? ⟨g, o + i * 4 + 3, none⟩ = some (.string M[i].text) := by
  rcases h with rfl | ⟨g, o, rfl, hc⟩
  · simp at hi
  · refine ⟨g, o, rfl, hc _ _ ?_, ?_, ?_, ?_⟩
    · have := rcells_at encE_len M i hi 0 (by omega); rw [Nat.add_zero] at this; rw [this]; rfl
    · rw [Nat.add_assoc]; exact hc _ _ (by rw [rcells_at encE_len M i hi 1 (by omega)]; rfl)
    · rw [Nat.add_assoc]; exact hc _ _ (by rw [rcells_at encE_len M i hi 2 (by omega)]; rfl)
    · rw [Nat.add_assoc]; exact hc _ _ (by rw [rcells_at encE_len M i hi 3 (by omega)]; rfl)
theorem row_cap {w : World} {base n m : Nat} {va : Option Addr} {vc : Nat} {xs : List Value} (hr : w.ownsRow base 44 4 (.slice va m vc) n xs) : n ≤ vc := by
  rcases hr.2 with ⟨h1, h2⟩ | ⟨g, cap, cur, h1, _, _, hcap, _⟩
  · omega
  · simp only [Value.slice.injEq] at h1; omega
section
variable {w0 : World} {b : Nat} {v : Value} {a : Ln} {N : Nat}
set_option maxRecDepth 100000 in
set_option maxHeartbeats 2000000 in
/-- The entries up to Done. -/
theorem lexec_any (k : Nat) (w : World) (h : LnIs w0 w b v a) (hk : a.dn - a.ba = k) (hkl : k ≤ a.L.length) (hl : a.L.length ≤ 1000) :
    Calls Try.prog 72 #[.pointer (some ⟨b, 0, none⟩)] w fun e w' => ∃ va vc, e = .returned (.slice va k vc) ∧ ERow w' va (a.L.take k) ∧ k ≤ vc ∧ Gr w w' := by
  obtain ⟨ba, dn, L⟩ := a
  have b0 : w.cell? ⟨b, 0, none⟩ = some (.int .i64 ba) := h.blk.cell (i := 0) rfl
  have b1 : w.cell? ⟨b, 1, none⟩ = some (.int .i64 dn) := h.blk.cell (i := 1) rfl
  have b2 : w.cell? ⟨b, 2, none⟩ = some v := h.blk.cell (i := 2) rfl
  have hr : w.ownsRow w0.heap.size 44 4 v L.length (rcells encE L) := h.row
  obtain ⟨va, vc, rfl, _⟩ := ownsRow_slice hr
  have hcap := row_cap hr
  simp only at hk hkl hl
  have hkc : k ≤ vc := by omega
  have hw : IntKind.i64.wrap (dn - ba) = (k : Int) := by rw [IntKind.wrap_i64]; omega
  have HK := Lib.hid hk
  have HR := Lib.hid ((ERow.of_row hr).take k)
  clear h hr hk
  go_enter Try.func72, Try.ntmps72
  go_wp2
  go_quiet (fail)
  go_wp2
  go_ret
  exact ⟨_, _, rfl, HR.out.gr ((Gr.refl _).drewN _), hkc, (Gr.refl _).drewN _⟩
set_option maxRecDepth 100000 in
set_option maxHeartbeats 2000000 in
/-- The entries above Done. -/
theorem lahead_any (k : Nat) (w : World) (h : LnIs w0 w b v a) (hk : a.dn - a.ba = k) (hkl : k ≤ a.L.length) (hl : a.L.length ≤ 1000) :
    Calls Try.prog 71 #[.pointer (some ⟨b, 0, none⟩)] w fun e w' => ∃ va vc, e = .returned (.slice va (a.L.drop k).length vc) ∧ ERow w' va (a.L.drop k) ∧ Gr w w' := by
  obtain ⟨ba, dn, L⟩ := a
  have b0 : w.cell? ⟨b, 0, none⟩ = some (.int .i64 ba) := h.blk.cell (i := 0) rfl
  have b1 : w.cell? ⟨b, 1, none⟩ = some (.int .i64 dn) := h.blk.cell (i := 1) rfl
  have b2 : w.cell? ⟨b, 2, none⟩ = some v := h.blk.cell (i := 2) rfl
  have hr : w.ownsRow w0.heap.size 44 4 v L.length (rcells encE L) := h.row
  obtain ⟨va, vc, rfl, _⟩ := ownsRow_slice hr
  have hcap := row_cap hr
  simp only at hk hkl hl
  simp only
  have hkc : k ≤ vc := by omega
  have hw : IntKind.i64.wrap (dn - ba) = (k : Int) := by rw [IntKind.wrap_i64]; omega
  have HK := Lib.hid hk
  have HR := Lib.hid ((ERow.of_row hr).drop (k := k) hkl hcap)
  have HL := Lib.hid (show (L.drop k).length = L.length - k from List.length_drop)
  clear h hr hk
  by_cases hvk : vc = k
  · subst hvk
    rw [if_pos rfl] at HR
    go_enter Try.func71, Try.ntmps71
    go_wp2
    go_quiet (fail)
    go_wp2
    go_ret
    rw [HL.out, show L.length - vc = 0 by omega]
    exact ⟨_, _, rfl, HR.out.gr ((Gr.refl _).drewN _), (Gr.refl _).drewN _⟩
  · rw [if_neg hvk] at HR
    go_enter Try.func71, Try.ntmps71
    go_wp2
    go_quiet (fail)
    go_wp2
    go_ret
    rw [HL.out]
    exact ⟨_, _, rfl, HR.out.gr ((Gr.refl _).drewN _), (Gr.refl _).drewN _⟩
/-- The first slot that is lacking; 0: none. -/
def missE : List E → Int → Int
  | [], _ => 0
  | e :: t, n => if e.slot = n then missE t (n + 1) else n
theorem missE_drop {M : List E} {i : Nat} (h : i < M.length) (n : Int) : missE (M.drop i) n = if M[i].slot = n then missE (M.drop (i + 1)) (n + 1) else n := by
  rw [List.drop_eq_getElem_cons h]; rfl
set_option maxRecDepth 100000 in
set_option maxHeartbeats 2000000 in
theorem lmissing_any (k : Nat) (w : World) (h : LnIs w0 w b v a) (hk : a.dn - a.ba = k) (hkl : k ≤ a.L.length) (hl : a.L.length ≤ 1000) (hd : 0 ≤ a.dn ∧ a.dn ≤ 1000000) :
    Calls Try.prog 27 #[.pointer (some ⟨b, 0, none⟩)] w fun e w' => e = .returned (.tuple #[.int .i64 (missE (a.L.drop k) (a.dn + 1)), .bool (decide (missE (a.L.drop k) (a.dn + 1) ≠ 0))]) ∧ Gr w w' := by
  have HA := Lib.hid (fun w (h : LnIs w0 w b v a) => lahead_any k w h hk hkl hl)
  have HH := Lib.hid h
  obtain ⟨ba, dn, L⟩ := a
  have b1 : w.cell? ⟨b, 1, none⟩ = some (.int .i64 dn) := h.blk.cell (i := 1) rfl
  simp only at hk hkl hl hd HA
  simp only
  have hw : IntKind.i64.wrap (dn + 1) = dn + 1 := by rw [IntKind.wrap_i64]; omega
  have hml : (L.drop k).length ≤ 1000 := by rw [List.length_drop]; omega
  obtain ⟨M, hM⟩ : ∃ M, M = L.drop k := ⟨_, rfl⟩
  rw [← hM] at HA hml
  rw [← hM]
  obtain ⟨R, hR⟩ : ∃ R, R = missE M (dn + 1) := ⟨_, rfl⟩
  rw [← hR]
  have HR := Lib.hid hR
  clear h hk hkl hl hM hR
  go_enter Try.func27, Try.ntmps27
  go_wp2_with fail
  refine (HA.out _ HH.out).mono ?_
  rintro e w1 ⟨va, vc, rfl, hr, hg⟩
  have HRW := Lib.hid hr
  have HG := Lib.hid hg
  clear hr hg HA HH b1
  go_wp2
  go_loopw [4, 15] (fun u4 u15 wr => ∃ i : Nat, i ≤ M.length ∧ u4 = .int .i64 (dn + 1 + i) ∧ u15 = .int .i64 (i : Nat) ∧ Hid (R = missE (M.drop i) (dn + 1 + i)) ∧ Hid (Gr w1 wr)) (fun u4 u15 _ => M.length - (intOf u15).toNat)
  case atStart => exact ⟨0, by omega, by go_num, rfl, Lib.hid (by rw [HR.out]; simp), Lib.hid (Gr.refl _)⟩
  case round =>
    clear HR
    obtain ⟨i, hi, rfl, rfl, HR, HG2⟩ := hrel
    by_cases hlt : i < M.length
    · have hi4 : (i : Int) < (M.length : Int) := by omega
      obtain ⟨g, o, rfl, c0, c1, c2, c3⟩ := (HRW.out.gr HG2.out).at i hlt
      have HR2 := Lib.hid (HR.out.trans (missE_drop hlt (dn + 1 + i)))
      have hw2 : IntKind.i64.wrap (dn + 1 + (i : Int) + 1) = dn + 1 + (i : Int) + 1 := by rw [IntKind.wrap_i64]; omega
      have HN := Lib.hid (show dn + 1 + (i : Int) ≠ 0 by omega)
      clear HR
      generalize M[i] = y at *
      obtain ⟨s, c, n, t⟩ := y
      simp only at c0 c1 c2 c3 HR2
      have HGA := Lib.hid (HG2.out.alloc (.cells #[.int .i64 s, .int .u64 c, .int .i64 n, .string t] 44))
      by_cases hx : s = dn + 1 + (i : Int)
      · have hne : (s != dn + 1 + (i : Int)) = false := by simp [hx]
        have HR3 := Lib.hid (show R = missE (M.drop (i + 1)) (dn + 1 + ((i + 1 : Nat) : Int)) by have := HR2.out; rw [if_pos hx] at this; rw [this]; congr 1; omega)
        clear hx HR2
        go_wp2
        go_roundw
        case rel => exact ⟨i + 1, by omega, by go_num, by go_num, HR3, HGA⟩
        case measure => simp [intOf]; omega
      · have hne : (s != dn + 1 + (i : Int)) = true := by simp [hx]
        have HR3 := Lib.hid (show R = dn + 1 + (i : Int) by have := HR2.out; rwa [if_neg hx] at this)
        clear hx HR2
        go_wp2
        refine bodyPost_ret (v := .tuple #[.int .i64 (dn + 1 + (i : Int)), .bool true]) (by simp [results, Try.results27, go_sem]; try rfl) rfl ?_
        rw [HR3.out]
        exact ⟨by rw [decide_eq_true HN.out], HG.out.trans HGA.out⟩
    · have hi4 : ¬ (i : Int) < (M.length : Int) := by omega
      have HR3 := Lib.hid (show R = 0 by rw [HR.out, List.drop_eq_nil_of_le (by omega)]; rfl)
      clear HR
      go_wp2
      refine bodyPost_ret (v := .tuple #[.int .i64 0, .bool false]) (by simp [results, Try.results27, go_sem]; try rfl) rfl ?_
      rw [HR3.out]
      exact ⟨rfl, HG.out.trans HG2.out⟩
end
end Go.Proofs.Ytnanclgnjchpeaa
