import Derived.Test.YtahohgnkichibaaF15c
import Derived.WalkKit
import Derived.ProofKit
import Derived.LoopTactic
import Derived.Outline
import Derived.WalkSpells
import Derived.WalkLawsBesides
import Derived.Lib.Hide
import Derived.Deep.LoopGhost
import Derived.Deep.QuietTactic
import Derived.BigQuiet
import Derived.ShutString
import Derived.Deep.RegionWith
namespace Go.Proofs.Ytahohgnkichibaa
open Go.ChangeShapes Go.WideShapes Go.ChangeAt Go.RowKit
set_option linter.unusedVariables false
set_option linter.unusedSimpArgs false
set_option maxRecDepth 100000 in
theorem alLen_any {b : Nat} {v : Value} {L : List A} (w : World) (h : AlIs w b v L) : Calls Try.prog 20 #[.pointer (some ⟨b, 0, none⟩)] w fun e w' => e = .returned (.int .i64 L.length) ∧ w = w' := by
  obtain ⟨a, cap, rfl⟩ := h.slice
  have c0 := h.rowv
  clear h
  generalize L.length = n at *
  go_enter Try.func20, Try.ntmps20
  go_wp2
  go_ret
  exact ⟨rfl, rfl⟩
set_option maxRecDepth 100000 in
theorem alFind_any {b : Nat} {v : Value} {L : List A} (k : Int) (w : World) (h : AlIs w b v L) : Calls Try.prog 62 #[.pointer (some ⟨b, 0, none⟩), .int .i64 k] w fun e w' => e = .returned (.int .i64 (fstF (fun x => x.key == k) L 0)) ∧ Gr w w' := by
  have HG := Lib.hid ((Gr.refl w).alloc (.cells #[.int .i64 k] 3))
  have HB := Lib.hid (Blk.new w #[.int .i64 k] 3)
  have H := Lib.hid (h.gr HG.out)
  have c0 := h.rowv
  have c1 := H.out.rowv
  have HF := Lib.hid fun (x : A) (w0 : World) (hg : Gr (w.alloc (.cells #[.int .i64 k] 3)) w0) => findOne_any x k w.heap.size w0 ((HB.out.gr hg).cell (i := 0) rfl)
  have HI := Lib.hid (idxA_any (p := w.heap.size) (f := 108) (fun x => x.key == k) L (w.alloc (.cells #[.int .i64 k] 3)) H.out.row h.len (fun _ _ => by kernel_rfl) HF.out)
  clear h
  generalize fstF (fun x => x.key == k) L 0 = r at *
  go_enter Try.func62, Try.ntmps62
  go_wp2_with fail
  refine HI.out.mono ?_
  rintro e w9 ⟨rfl, hg⟩
  have HG9 := Lib.hid (HG.out.trans hg)
  clear hg
  go_wp2
  go_ret
  exact ⟨rfl, HG9.out⟩
def atA (L : List A) (k : Int) : Int × Bool := match L.find? (fun x => x.key == k) with | some x => (x.due, true) | none => (0, false)
theorem atA_none {L : List A} {k : Int} (h : ∀ j (h : j < L.length), 0 ≤ j → (L[j].key == k) = false) : atA L k = (0, false) := by
  unfold atA
  rw [List.find?_eq_none.2 (fun x hx => by obtain ⟨j, hj, rfl⟩ := List.getElem_of_mem hx; rw [h j hj (by omega)]; decide)]
theorem find_at {α : Type} {q : α → Bool} {L : List α} {i : Nat} (hi : i < L.length) (hq : q L[i] = true) (hb : ∀ j (h : j < L.length), 0 ≤ j → j < i → q L[j] = false) : L.find? q = some L[i] := by
  rw [List.find?_eq_some_iff_getElem]
  exact ⟨hq, i, hi, rfl, fun j hj => by rw [hb j (by omega) (by omega) hj]; rfl⟩
set_option maxRecDepth 100000 in
theorem alAt_any {b : Nat} {v : Value} {L : List A} (k : Int) (w : World) (h : AlIs w b v L) : Calls Try.prog 19 #[.pointer (some ⟨b, 0, none⟩), .int .i64 k] w fun e w' => e = .returned (.tuple #[.int .i64 (atA L k).1, .bool (atA L k).2]) ∧ Gr w w' := by
  have HF := Lib.hid (alFind_any k w h)
  have hl := h.len
  rcases fstF_spec (fun x : A => x.key == k) L 0 with ⟨h1, h2⟩ | ⟨i, hi, h1, _, h3, h4⟩
  · rw [atA_none h2]
    rw [h1] at HF
    clear h1 h2
    go_enter Try.func19, Try.ntmps19
    go_wp2_with fail
    refine HF.out.mono ?_
    rintro e w9 ⟨rfl, hg⟩
    have HG9 := Lib.hid hg
    clear hg
    go_wp2
    refine bodyPost_ret (v := .tuple #[.int .i64 0, .bool false]) (by simp [results, Try.results19, go_sem]; try rfl) rfl ?_
    exact ⟨rfl, HG9.out⟩
  · have he : atA L k = (L[i].due, true) := by unfold atA; rw [find_at hi h3 h4]
    rw [he]
    rw [h1] at HF
    obtain ⟨g, cap, rfl, c1, c2⟩ := row_at h.row i hi
    have c0 := h.rowv
    clear h h1 h3 h4 he c1
    have hi2 : (i : Int) < (L.length : Int) := by omega
    generalize L[i] = x at *
    generalize L.length = n at *
    go_enter Try.func19, Try.ntmps19
    go_wp2_with fail
    refine HF.out.mono ?_
    rintro e w9 ⟨rfl, hg⟩
    have HG9 := Lib.hid hg
    have d0 := hg.cell c0
    have d2 := hg.cell c2
    clear hg c0 c2
    go_wp2
    refine bodyPost_ret (v := .tuple #[.int .i64 x.due, .bool true]) (by simp [results, Try.results19, go_sem]; try rfl) rfl ?_
    exact ⟨rfl, HG9.out⟩
/-- Without the first of a key. -/
def offA (L : List A) (k : Int) : List A := L.eraseP (fun x => x.key == k)
def hasA (L : List A) (k : Int) : Bool := L.any (fun x => x.key == k)
theorem eraseP_at {α : Type} {q : α → Bool} : ∀ {L : List α} {i : Nat} (hi : i < L.length) (hq : q L[i] = true) (hb : ∀ j (h : j < L.length), 0 ≤ j → j < i → q L[j] = false), L.eraseP q = L.take i ++ L.drop (i + 1)
  | x :: t, 0, _, hq, _ => by rw [List.eraseP_cons_of_pos (by simpa using hq)]; rfl
  | x :: t, i + 1, hi, hq, hb => by
    rw [List.eraseP_cons_of_neg (by have := hb 0 (by simp) (by omega) (by omega); simpa using this)]
    rw [eraseP_at (L := t) (i := i) (by simpa using hi) (by simpa using hq) (fun j hj _ hji => by have := hb (j + 1) (by simpa using hj) (by omega) (by omega); simpa using this)]
    rfl
theorem eraseP_none {α : Type} {q : α → Bool} {L : List α} (hb : ∀ j (h : j < L.length), 0 ≤ j → q L[j] = false) : L.eraseP q = L ∧ L.any q = false := by
  have h : ∀ x ∈ L, ¬ q x = true := fun x hx => by obtain ⟨j, hj, rfl⟩ := List.getElem_of_mem hx; rw [hb j hj (by omega)]; decide
  exact ⟨List.eraseP_of_forall_not h, by rw [List.any_eq_false]; exact h⟩
set_option maxRecDepth 100000 in
theorem alOff_any {b : Nat} {v : Value} {L : List A} (k : Int) (w : World) (h : AlIs w b v L) : Calls Try.prog 16 #[.pointer (some ⟨b, 0, none⟩), .int .i64 k] w fun e w' => e = .returned (.bool (hasA L k)) ∧ AlTo b v w (offA L k) w' := by
  have HF := Lib.hid (alFind_any k w h)
  have hl := h.len
  rcases fstF_spec (fun x : A => x.key == k) L 0 with ⟨h1, h2⟩ | ⟨i, hi, h1, _, h3, h4⟩
  · have he : offA L k = L := (eraseP_none h2).1
    have hn : hasA L k = false := (eraseP_none h2).2
    rw [he, hn]
    rw [h1] at HF
    clear h1 h2 he hn
    have H := Lib.hid h
    go_enter Try.func16, Try.ntmps16
    go_wp2_with fail
    refine HF.out.mono ?_
    rintro e w9 ⟨rfl, hg⟩
    have HG9 := Lib.hid hg
    clear hg
    go_wp2
    go_ret
    exact ⟨rfl, v, H.out.gr HG9.out, Far.of_gr HG9.out, From.refl _ _⟩
  · have he : offA L k = L.take i ++ L.drop (i + 1) := eraseP_at hi h3 h4
    have hn : hasA L k = true := by unfold hasA; rw [List.any_eq_true]; exact ⟨_, List.getElem_mem hi, h3⟩
    rw [he, hn]
    rw [h1] at HF
    have hlen : (L.take i ++ L.drop (i + 1)).length ≤ 1000 := by rw [List.length_append, List.length_take, List.length_drop]; omega
    clear h1 h3 h4 he hn
    have H := Lib.hid h
    have hi2 : (i : Int) < (L.length : Int) := by omega
    have hi3 : IntKind.i64.wrap ((i : Int) + 1) = (i : Int) + 1 := by rw [IntKind.wrap_i64]; omega
    have HD := Lib.hid fun (w : World) (h : AlIs w b v L) => delA_any (i := i) (j := i + 1) L w h.row (by omega) (by omega) (by have := h.len; omega)
    rw [show ((i + 1 : Nat) : Int) = (i : Int) + 1 by omega] at HD
    generalize L.take i ++ L.drop (i + 1) = M at *
    generalize hm : M.length = m at *
    have HM := Lib.hid hm
    clear hm
    go_enter Try.func16, Try.ntmps16
    go_wp2_with fail
    refine HF.out.mono ?_
    rintro e w9 ⟨rfl, hg⟩
    have H9 := Lib.hid (H.out.gr hg)
    have HG9 := Lib.hid hg
    have d0 := H9.out.rowv
    clear hg
    go_wp2_with fail
    refine (HD.out _ H9.out).mono ?_
    rintro e w5 ⟨v5, rfl, hr, hgr, hfr⟩
    have HT := Lib.hid (H9.out.reset (by rw [HM.out]; exact hr) hgr hfr (by rw [HM.out]; exact hlen))
    have hbl := cell_lt H9.out.rowv
    have hblk := hgr.block b hbl (fun e => H9.out.off e.symm)
    have e0 : w5.cell? ⟨b, 0, none⟩ = some v := (World.cell?_of_block (w := w9) (a := ⟨b, 0, none⟩) hblk).trans H9.out.rowv
    have e1 : w5.frozen? ⟨b, 0, none⟩ = false := (World.frozen?_of_block (w := w9) (a := ⟨b, 0, none⟩) hblk).trans H9.out.free
    obtain ⟨a5, c5, rfl, hz⟩ := ownsRow_slice hr
    clear hr hgr hfr hblk d0 hz
    go_wp2
    go_ret
    obtain ⟨v6, h6, h7, h8⟩ := HT.out
    exact ⟨rfl, v6, h6, (Far.of_gr HG9.out).trans (From.refl _ _) h7, (From.refl v w).trans HG9.out.size h8⟩
end Go.Proofs.Ytahohgnkichibaa
