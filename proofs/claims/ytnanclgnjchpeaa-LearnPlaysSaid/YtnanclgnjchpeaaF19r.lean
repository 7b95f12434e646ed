import Derived.Test.YtnanclgnjchpeaaF19h
import Derived.WalkKit
import Derived.ProofKit
import Derived.LoopTactic
import Derived.Outline
import Derived.WalkSpells
import Derived.WalkLawsBesides
import Derived.Lib.Hide
import Derived.Deep.LoopGhost
import Derived.Deep.QuietTactic
import Derived.BigQuiet
import Derived.ShutString
import Derived.IntWalk
import Derived.BigQuiet
import Derived.Laws.OwnMore
import Derived.Deep.MidRow
namespace Go.Proofs.Ytnanclgnjchpeaa
open Go.ChangeShapes Go.WideShapes Go.ChangeAt Go.RowKit
open Bal
set_option linter.unusedVariables false
set_option linter.unusedSimpArgs false
/-- An entry of the document's. -/
structure RE where
  slot : Int
  text : ByteArray
def encR (x : RE) : List Value := [.int .i64 x.slot, .string x.text]
theorem encR_len (x : RE) : (encR x).length = 2 := rfl
theorem info_re : (Try.prog.info? 119).map (fun i => (i.zero, i.size, i.bytes)) = some (some (.agg #[.int .i64 0, .string ⟨#[]⟩]), 2, 24) := by kernel_rfl
theorem rrow_at {w : World} {base : Nat} {v : Value} {M : List RE} (h : w.ownsRow base 119 2 v M.length (rcells encR M)) (i : Nat) (hi : i < M.length) :
    ∃ g cap, v = .slice (some ⟨g, 0, none⟩) M.length cap ∧ w.cell? ⟨g, i * 2, none⟩ = some (.int .i64 M[i].slot) ∧ w.cell? ⟨g, i * 2 + 1, none⟩ = some (.string M[i].text) := by
  obtain ⟨g, cap, cur, hv, _, _, _, _, _, _, _, hat, _⟩ := owns_open h (by omega)
  refine ⟨g, cap, hv, hat _ _ ?_, hat _ _ ?_⟩
  · have := rcells_at encR_len M i hi 0 (by omega); rw [Nat.add_zero] at this; rw [this]; rfl
  · rw [rcells_at encR_len M i hi 1 (by omega)]; rfl
/-- A state of the document's. -/
structure Rs where
  ba : Int
  dn : Int
  M : List RE
def Rs.val (s : Rs) (lv : Value) : Value := .agg #[.int .i64 s.ba, .int .i64 s.dn, lv]
abbrev RRow (w : World) (lv : Value) (M : List RE) : Prop := w.ownsRow 0 119 2 lv M.length (rcells encR M)
def hasM (M : List RE) (x : Int) : Bool := M.any fun e => decide (e.slot = x)
def txtM (M : List RE) (x : Int) : ByteArray := ((M.find? fun e => decide (e.slot = x)).map RE.text).getD ⟨#[]⟩
theorem hasM_first {M : List RE} {x : Int} {i : Nat} (hi : i < M.length) (hx : M[i].slot = x) (hn : ∀ j (h : j < M.length), j < i → M[j].slot ≠ x) : hasM M x = true ∧ txtM M x = M[i].text := by
  constructor
  · exact List.any_eq_true.2 ⟨M[i], List.getElem_mem hi, decide_eq_true hx⟩
  · have : M.find? (fun e => decide (e.slot = x)) = some M[i] := by
      rw [List.find?_eq_some_iff_getElem]
      exact ⟨decide_eq_true hx, i, hi, rfl, fun j hj => by simpa using hn j (by omega) hj⟩
    unfold txtM
    rw [this]
    rfl
theorem hasM_none {M : List RE} {x : Int} (hn : ∀ j (h : j < M.length), M[j].slot ≠ x) : hasM M x = false ∧ txtM M x = ⟨#[]⟩ := by
  constructor
  · rw [Bool.eq_false_iff]
    intro h
    obtain ⟨e, he, hx⟩ := List.any_eq_true.1 h
    obtain ⟨j, hj, rfl⟩ := List.getElem_of_mem he
    exact hn j hj (of_decide_eq_true hx)
  · have : M.find? (fun e => decide (e.slot = x)) = none := by
      rw [List.find?_eq_none]
      intro e he hx
      obtain ⟨j, hj, rfl⟩ := List.getElem_of_mem he
      exact hn j hj (of_decide_eq_true hx)
    unfold txtM
    rw [this]
    rfl
set_option maxRecDepth 100000 in
set_option maxHeartbeats 2000000 in
theorem refKnown_any (b d x : Int) (lv : Value) (M : List RE) (w : World) (hr : RRow w lv M) (hl : M.length ≤ 1000) :
    Calls Try.prog 62 #[.agg #[.int .i64 b, .int .i64 d, lv], .int .i64 x] w fun e w' => e = .returned (.tuple #[.string (txtM M x), .bool (hasM M x)]) ∧ Gr w w' := by
  have HG := Lib.hid ((Gr.refl w).alloc (.cells #[.int .i64 b, .int .i64 d, lv] 31))
  have HR := Lib.hid (ownsRow_gr HG.out hr)
  obtain ⟨la, lc, rfl, _⟩ := ownsRow_slice hr
  obtain ⟨T, hT⟩ : ∃ T, T = txtM M x := ⟨_, rfl⟩
  obtain ⟨B, hB⟩ : ∃ B, B = hasM M x := ⟨_, rfl⟩
  rw [← hT, ← hB]
  have HT := Lib.hid hT
  have HB := Lib.hid hB
  clear hT hB hr
  go_enter Try.func62, Try.ntmps62
  go_wp2
  generalize w.alloc (.cells #[.int .i64 b, .int .i64 d, .slice la M.length lc] 31) = wa at *
  go_loopw [11] (fun u11 wr => ∃ i : Nat, i ≤ M.length ∧ u11 = .int .i64 (i : Nat) ∧ Hid (∀ j (h : j < M.length), j < i → M[j].slot ≠ x) ∧ Hid (Gr wa wr)) (fun u11 _ => M.length - (intOf u11).toNat)
  case atStart => exact ⟨0, by omega, rfl, Lib.hid (fun j _ h => absurd h (by omega)), Lib.hid (Gr.refl _)⟩
  case round =>
    obtain ⟨i, hi, rfl, HN, HG2⟩ := hrel
    by_cases hlt : i < M.length
    · have hi4 : (i : Int) < (M.length : Int) := by omega
      obtain ⟨g, cap, hv, c0, c1⟩ := rrow_at (ownsRow_gr HG2.out HR.out) i hlt
      simp only [Value.slice.injEq, true_and] at hv
      obtain ⟨rfl, rfl⟩ := hv
      have HFI := Lib.hid (fun hx => hasM_first hlt hx HN.out)
      have HNX := Lib.hid (show M[i].slot ≠ x → ∀ j (h : j < M.length), j < i + 1 → M[j].slot ≠ x from fun hx j h hj => by
        by_cases e : j = i
        · subst e; exact hx
        · exact HN.out j h (by omega))
      clear HN
      generalize M[i] = y at *
      obtain ⟨s, t⟩ := y
      simp only at c0 c1 HFI HNX
      have HGA := Lib.hid (HG2.out.alloc (.cells #[.int .i64 s, .string t] 119))
      by_cases hx : s = x
      · have hx2 : (s == x) = true := by simp [hx]
        have HF := Lib.hid (HFI.out hx)
        clear hx HFI HNX
        go_wp2
        refine bodyPost_ret (v := .tuple #[.string t, .bool true]) (by simp [results, Try.results62, go_sem]; try rfl) rfl ?_
        rw [HT.out, HB.out, HF.out.1, HF.out.2]
        exact ⟨rfl, HG.out.trans HGA.out⟩
      · have hx2 : (s == x) = false := by simp [hx]
        have HF := Lib.hid (HNX.out hx)
        clear hx HFI HNX
        go_wp2
        go_roundw
        case rel => exact ⟨i + 1, by omega, by go_num, HF, HGA⟩
        case measure => simp [intOf]; omega
    · have hi4 : ¬ (i : Int) < (M.length : Int) := by omega
      have HF := Lib.hid (hasM_none (M := M) (x := x) (fun j h => HN.out j h (by omega)))
      go_wp2
      refine bodyPost_ret (v := .tuple #[.string ⟨#[]⟩, .bool false]) (by simp [results, Try.results62, go_sem]; try rfl) rfl ?_
      rw [HT.out, HB.out, HF.out.1, HF.out.2]
      exact ⟨rfl, HG.out.trans HG2.out⟩
end Go.Proofs.Ytnanclgnjchpeaa
