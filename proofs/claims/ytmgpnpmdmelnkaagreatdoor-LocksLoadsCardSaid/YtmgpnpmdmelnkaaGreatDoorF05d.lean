import Derived.Test.YtmgpnpmdmelnkaaGreatDoorF05c
import Derived.Test.YtmgpnpmdmelnkaaGreatDoorM05b
import Derived.Test.YtmgpnpmdmelnkaaGreatDoorSh0
import Derived.WalkKit
import Derived.ProofKit
import Derived.LoopTactic
import Derived.Outline
import Derived.WalkSpells
import Derived.WalkLawsBesides
import Derived.Lib.Hide
import Derived.Deep.LoopGhost
import Derived.Deep.QuietTactic
import Derived.BigQuiet
import Derived.ShutString
namespace Go.Proofs.YtmgpnpmdmelnkaaGreatDoor
open Go.ChangeShapes Go.WideShapes Go.ChangeAt Go.RowKit
set_option linter.unusedVariables false
set_option linter.unusedSimpArgs false
theorem strs_alloc {w : World} {l : List ByteArray} {n b : Nat} {t : TypeId} (hb : b = w.heap.size) (hz : ∀ s ∈ l, s.size ≤ 9223372036854775807) (hl : l.length ≤ 9223372036854775807) :
    Strs (w.alloc (.cells (Lib.cellsOf l n) t)) (some ⟨b, 0, none⟩) l := by
  subst hb
  refine ⟨hz, hl, .inr ⟨_, 0, rfl, fun i hi => ?_⟩⟩
  refine new_cell rfl ?_
  unfold Lib.cellsOf
  rw [Nat.zero_add, List.getElem?_toArray, List.getElem?_append_left (by simpa using hi)]
  simp [hi]
theorem pieces_size (l : List ByteArray) (s : ByteArray) (h : ∀ x ∈ l, x.size ≤ s.size) (hs : s.size ≤ 9223372036854775807) : ∀ x ∈ l, x.size ≤ 9223372036854775807 := fun x hx => Nat.le_trans (h x hx) hs
theorem splitB_le (sep : ByteArray) (k : Nat) (s : ByteArray) : ∀ x ∈ Lib.splitB sep 0 k s, x.size ≤ s.size := by
  induction k generalizing s with
  | zero => intro x hx; simp [Lib.splitB] at hx; rw [hx]; exact Nat.le_refl _
  | succ k ih =>
    intro x hx
    unfold Lib.splitB at hx
    split at hx
    · simp at hx; rw [hx]; exact Nat.le_refl _
    · rcases List.mem_cons.1 hx with rfl | hx
      · simp; omega
      · have := ih _ x hx
        simp at this; omega
theorem head_slash (s : ByteArray) : Lib.hasPrefix s.data.toList (⟨#[47]⟩ : ByteArray).data.toList = false ∧ (∀ x, bytesOf s ≠ 47 :: x) ∨
    ∃ x, bytesOf s = 47 :: x ∧ Lib.hasPrefix s.data.toList (⟨#[47]⟩ : ByteArray).data.toList = true ∧ Lib.trimPrefix s.data.toList (⟨#[47]⟩ : ByteArray).data.toList = x := by
  have e : (⟨#[47]⟩ : ByteArray).data.toList = [47] := rfl
  rw [e]
  show Lib.hasPrefix (bytesOf s) [47] = false ∧ _ ∨ ∃ x, _ ∧ Lib.hasPrefix (bytesOf s) [47] = true ∧ Lib.trimPrefix (bytesOf s) [47] = x
  cases h : bytesOf s with
  | nil => exact .inl ⟨rfl, fun x hx => by cases hx⟩
  | cons c x =>
    by_cases hc : c = 47
    · subst hc; exact .inr ⟨x, rfl, by simp [Lib.hasPrefix], by simp [Lib.trimPrefix, Lib.hasPrefix]⟩
    · exact .inl ⟨by unfold Lib.hasPrefix; simp [List.isPrefixOf, Ne.symm hc], fun y hy => hc (by injection hy)⟩
/-- The slice cell of MaxLen: what strings.SplitN asks. -/
def ML (w : World) : Prop := ∃ m, w.cell? ⟨0, 0, none⟩ = some (.int .i64 m)
theorem ML.gr {w w' : World} (h : ML w) (hg : Gr w w') : ML w' := by obtain ⟨m, hm⟩ := h; exact ⟨m, hg.cell hm⟩
set_option maxRecDepth 100000 in
set_option maxHeartbeats 1000000 in
theorem parse_any (s : ByteArray) (w : World) (hs : s.size ≤ 1000000) (he : ET w) (hm : ML w) :
    Calls Tryz.prog 46 #[.string s] w (MadeIs (parseOf s) w) := by
  have HE := Lib.hid he
  have HM := Lib.hid hm
  clear he hm
  by_cases h0 : s = slash
  · subst h0
    have E := Lib.hid (show parseOf slash = some [] from rfl)
    rw [E.out]
    have t0 : slash = ⟨#[47]⟩ := rfl
    rw [t0]
    go_enter Tryz.func46, Tryz.ntmps46
    go_wp2
    refine bodyPost_ret (by simp [results, Tryz.results46, go_sem]; try rfl) rfl ?_
    exact ⟨rfl, (Gr.refl _).alloc _⟩
  · generalize hr : parseOf s = r
    have HR := Lib.hid hr; clear hr
    have t2 : (s.toList == [47]) = false := by
      rw [ByteArray.toList_eq]
      cases h : (s.data.toList == [47]) with
      | false => rfl
      | true => exact absurd (bytes_inj (show bytesOf s = bytesOf slash from beq_iff_eq.1 h)) h0
    rcases head_slash s with ⟨hp, hn⟩ | ⟨x, hx, hp, ht⟩
    · have hR := Lib.hid (show r = none by
        rw [← HR.out]; unfold parseOf; rw [if_neg h0]
        split
        · rename_i r' hr'; exact absurd hr' (hn r')
        · rfl)
      clear h0
      go_enter Tryz.func46, Tryz.ntmps46
      go_wp2_with fail
      refine (Tryz.strings_CutPrefix s _ _).mono ?_
      rintro e w1 ⟨rfl, rfl⟩
      rw [hp]
      go_wp2_with fail
      refine (none_any _ (HE.out.gr ((Gr.refl w).alloc _))).mono ?_
      rintro e w2 ⟨u, rfl, hu, hg⟩
      have c2 : w2.cell? ⟨w.heap.size, 0, none⟩ = some (.string ⟨#[]⟩) := hg.own.1 0 _ rfl
      have f2 := hg.own.2.1 0
      have HU := Lib.hid hu
      have HG := Lib.hid (((Gr.refl w).alloc _).trans hg)
      clear hu hg
      go_wp2
      refine bodyPost_ret (by simp [results, Tryz.results46, go_sem, c2, f2]; try rfl) rfl ?_
      rw [hR.out]
      exact ⟨u, rfl, Chain.set c2 HU.out, HG.out.setCell (Nat.le_refl _) _⟩
    · have hxs : (⟨x.toArray⟩ : ByteArray).size ≤ s.size := by
        rw [← bytes_size, ← bytes_size, back_bytes, hx]; simp
      have hX := Lib.hid hx
      have hR := Lib.hid (show r = (let m := (pcs [] (bytesOf ⟨x.toArray⟩)).map fun x => (⟨x.toArray⟩ : ByteArray); if okParts m = true then some m else none) by
        rw [← HR.out]; unfold parseOf; rw [if_neg h0, hx, back_bytes]; rfl)
      clear h0 hx
      obtain ⟨y, hy⟩ : ∃ y, (⟨x.toArray⟩ : ByteArray) = y := ⟨_, rfl⟩
      rw [hy] at hxs hR
      go_enter Tryz.func46, Tryz.ntmps46
      go_wp2_with fail
      refine (Tryz.strings_CutPrefix s _ _).mono ?_
      rintro e w1 ⟨rfl, rfl⟩
      rw [hp, ht, hy]
      obtain ⟨m, hm⟩ := HM.out.gr ((Gr.refl w).alloc (.cells #[.string ⟨#[]⟩] 40))
      have hm' := Lib.hid hm; clear hm
      go_wp2_with fail
      refine (Tryz.strings_SplitN y _ 7 m _ (by omega) hm'.out (by decide) (by decide) (by decide)).mono ?_
      rintro e w2 ⟨rfl, rfl⟩
      have hS := splitN_made y
      have hsz := splitB_le slash (min 7 (y.size + 1) - 1) y
      have es : slash = ⟨#[47]⟩ := rfl
      rw [es] at hS hsz
      generalize Lib.splitB ⟨#[47]⟩ 0 (min 7 (y.size + 1) - 1) y = l at *
      obtain ⟨hl1, hl2⟩ := hS
      have HL := Lib.hid hl2; clear hl2
      have HSt := Lib.hid (strs_alloc (w := w.alloc (.cells #[.string ⟨#[]⟩] 40)) (n := min 7 (y.size + 1)) (b := w.heap.size + 1) (t := 9) (by simp) (pieces_size l y hsz (by omega)) (by omega))
      clear hsz
      go_wp2_with fail
      refine (made_any _ l _ _ HSt.out (HE.out.gr (((Gr.refl w).alloc _).alloc _))).mono ?_
      rw [HL.out, ← hR.out]
      intro e w3 h3
      clear hm' HSt
      cases hr : r with
      | none =>
        rw [hr] at h3
        obtain ⟨u, rfl, hu, hg⟩ := h3
        have c2 : w3.cell? ⟨w.heap.size, 0, none⟩ = some (.string ⟨#[]⟩) := hg.cell (((Gr.refl _).alloc _).cell (new_cell rfl rfl))
        have f2 : w3.frozen? ⟨w.heap.size, 0, none⟩ = false := (hg.frozen (by simp; omega)).trans ((((Gr.refl _).alloc _).frozen (by simp)).trans (new_free rfl))
        have HU := Lib.hid hu
        have HG := Lib.hid ((((Gr.refl w).alloc _).alloc _).trans hg)
        clear hu hg
        go_wp2
        refine bodyPost_ret (by simp [results, Tryz.results46, go_sem, c2, f2]; try rfl) rfl ?_
        rw [hr]
        exact ⟨u, rfl, Chain.set c2 HU.out, HG.out.setCell (Nat.le_refl _) _⟩
      | some l' =>
        rw [hr] at h3
        obtain ⟨rfl, hg⟩ := h3
        have c2 : w3.cell? ⟨w.heap.size, 0, none⟩ = some (.string ⟨#[]⟩) := hg.cell (((Gr.refl _).alloc _).cell (new_cell rfl rfl))
        have f2 : w3.frozen? ⟨w.heap.size, 0, none⟩ = false := (hg.frozen (by simp; omega)).trans ((((Gr.refl _).alloc _).frozen (by simp)).trans (new_free rfl))
        have HG := Lib.hid ((((Gr.refl w).alloc _).alloc _).trans hg)
        clear hg
        go_wp2
        refine bodyPost_ret (by simp [results, Tryz.results46, go_sem, c2, f2]; try rfl) rfl ?_
        rw [hr]
        exact ⟨rfl, HG.out.setCell (Nat.le_refl _) _⟩
end Go.Proofs.YtmgpnpmdmelnkaaGreatDoor
