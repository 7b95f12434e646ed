import Derived.Test.YtmgpnpmdmelnkaaGreatDoorF22k
import Derived.WalkKit
import Derived.ProofKit
import Derived.LoopTactic
import Derived.Outline
import Derived.WalkSpells
import Derived.WalkLawsBesides
import Derived.Lib.Hide
import Derived.Deep.LoopGhost
import Derived.Deep.QuietTactic
import Derived.BigQuiet
import Derived.ShutString
import Derived.IntWalk
import Derived.Lib.MinMax
import Derived.Deep.RegionWith
import Derived.Deep.RegionHeld3
import Derived.Deep.Cut
import Derived.Deep.CutRange
import Derived.Deep.CutBlock
namespace Go.Proofs.YtmgpnpmdmelnkaaGreatDoor
open Go.ChangeShapes Go.WideShapes Go.ChangeAt Go.RowKit
set_option linter.unusedVariables false
set_option linter.unusedSimpArgs false
variable {w0 w : World} {b : Nat} {v1 v2 : Value} {B : Bk}
theorem row_offL {w : World} {b base k n : Nat} {cs : Array Value} {t u : TypeId} {v : Value} {xs : List Value} (h : Blk w b cs t) (hr : w.ownsRow base u k v n xs) (hne : t ≠ u) : v.ownBlock ≠ some b := by
  rcases hr.2 with ⟨rfl, _⟩ | ⟨g, cap, cur, rfl, _, hc, _⟩
  · intro e; exact absurd e (by simp [Value.ownBlock])
  · intro e
    simp only [Value.ownBlock, Option.some.injEq] at e
    subst e
    have h1 := (show w.heap[g]? = _ from h).symm.trans hc
    simp only [Option.some.injEq, Obj.cells.injEq] at h1
    exact hne h1.2.1
theorem Far2.fresh {b o p : Nat} {v1 v2 : Value} {w c : World} (h : Far2 b v1 v2 w c) (hp : w.heap.size ≤ p) (x : Value) : Far2 b v1 v2 w (c.setCell ⟨p, o, none⟩ x) :=
  ⟨h.os, h.tape, h.output, by have := h.size; simp [World.setCell]; omega, fun k hk hb h1 h2 => (Below.heap_setCell _ _ _ _ (fun e => by have e : k = p := e; omega)).trans (h.block k hk hb h1 h2)⟩
theorem Blk.keptB {w w' : World} {c : Nat} {cs : Array Value} {t : TypeId} {v : Value} (h : Blk w c cs t) (hg : w.grownBy w' v.ownBlock) (hne : v.ownBlock ≠ some c) : Blk w' c cs t := (hg.block c h.lt (fun e => hne e.symm)).trans h
theorem BkIs.setO {w0 w : World} {b c o : Nat} {v1 v2 : Value} {B : Bk} (h : BkIs w0 w b v1 v2 B) (hc : c ≠ b) (h1 : v1.ownBlock ≠ some c) (h2 : v2.ownBlock ≠ some c) (hb : w0.heap.size ≤ c) (x : Value) : BkIs w0 (w.setCell ⟨c, o, none⟩ x) b v1 v2 B :=
  ⟨h.base, h.grown.setCell (p := ⟨c, o, none⟩) hb x, h.blk.other hc.symm o x, ownsRow_setCell_other (a := ⟨c, o, none⟩) h.r1 h1 x, ownsRow_setCell_other (a := ⟨c, o, none⟩) h.r2 h2 x, h.ne⟩
theorem ne_swap {a b : Option Nat} (h : a = none ∨ a ≠ b) : b = none ∨ b ≠ a := by
  rcases h with rfl | h
  · rcases b with _ | b
    · exact .inl rfl
    · exact .inr (by simp)
  · exact .inr (Ne.symm h)
/-- A step of a book that leaves the row of those that wait. -/
def BkTo1 (w0 w w' : World) (b : Nat) (v1 v2 : Value) (B : Bk) : Prop := ∃ u1, BkIs w0 w' b u1 v2 B ∧ Far2 b v1 (.slice none 0 0) w w' ∧ From v1 w u1
theorem Far2.weak {b : Nat} {v1 v2 : Value} {w w' : World} (h : Far2 b v1 (.slice none 0 0) w w') : Far2 b v1 v2 w w' := ⟨h.os, h.tape, h.output, h.size, fun k hk hb h1 _ => h.block k hk hb h1 (by simp [Value.ownBlock])⟩
theorem BkTo1.to {w0 w w' : World} {b : Nat} {v1 v2 : Value} {B : Bk} (h : BkTo1 w0 w w' b v1 v2 B) : BkTo w0 w w' b v1 v2 B := by
  obtain ⟨u1, hk, hF, f1⟩ := h
  exact ⟨u1, v2, hk, hF.weak, f1, From.refl _ _⟩
/-- The order of the locks. -/
def SrtK (L : List Lok) : Prop := L.Pairwise fun x y => cmpK x y ≤ 0
theorem cmpI_range (a b : Int) : (cmpI a b = -1 ∧ a < b) ∨ (cmpI a b = 1 ∧ b < a) ∨ (cmpI a b = 0 ∧ a = b) := by
  unfold cmpI
  by_cases h : a < b
  · rw [if_pos h]; exact .inl ⟨rfl, h⟩
  · by_cases k : b < a
    · rw [if_neg h, if_pos k]; exact .inr (.inl ⟨rfl, k⟩)
    · rw [if_neg h, if_neg k]; exact .inr (.inr ⟨rfl, by omega⟩)
theorem cmpK_trans {x y z : Lok} (h : cmpK x y ≤ 0) (k : cmpK y z < 0) : cmpK x z < 0 := by
  unfold cmpK at *
  have a1 := cmpP_anti (pof x.txt) (pof y.txt)
  have a2 := cmpP_anti (pof y.txt) (pof z.txt)
  have a3 := cmpP_anti (pof x.txt) (pof z.txt)
  have t1 := @cmpP_trans (pof x.txt) (pof y.txt) (pof z.txt)
  have t2 := @cmpP_trans (pof z.txt) (pof x.txt) (pof y.txt)
  have t3 := @cmpP_trans (pof y.txt) (pof z.txt) (pof x.txt)
  have r1 := cmpI_range x.ses y.ses
  have r2 := cmpI_range y.ses z.ses
  have r3 := cmpI_range x.ses z.ses
  generalize cmpP (pof x.txt) (pof y.txt) = p1 at *
  generalize cmpP (pof y.txt) (pof z.txt) = p2 at *
  generalize cmpP (pof x.txt) (pof z.txt) = p3 at *
  generalize cmpP (pof y.txt) (pof x.txt) = m1 at *
  generalize cmpP (pof z.txt) (pof y.txt) = m2 at *
  generalize cmpP (pof z.txt) (pof x.txt) = m3 at *
  split at h <;> split at k <;> split <;> omega
theorem cmpK_anti (x y : Lok) : cmpK x y < 0 ↔ 0 < cmpK y x := by
  unfold cmpK
  have a1 := cmpP_anti (pof x.txt) (pof y.txt)
  have r1 := cmpI_range x.ses y.ses
  have r2 := cmpI_range y.ses x.ses
  generalize cmpP (pof x.txt) (pof y.txt) = p1 at *
  generalize cmpP (pof y.txt) (pof x.txt) = m1 at *
  split <;> split <;> omega
noncomputable def posK (L : List Lok) (x : Lok) : Nat := L.findIdx fun y => decide (0 ≤ cmpK y x)
theorem srt_down {L : List Lok} (h : SrtK L) (x : Lok) : ∀ p q (hp : p < L.length) (hq : q < L.length), p ≤ q → cmpK L[q] x < 0 → cmpK L[p] x < 0 := by
  intro p q hp hq hpq hn
  by_cases e : p = q
  · subst e; exact hn
  · exact cmpK_trans (List.pairwise_iff_getElem.1 h p q hp hq (by omega)) hn
theorem parted_pos {L : List Lok} {x : Lok} {i : Nat} (hi : i ≤ L.length) (h : Parted (fun y => cmpK y x) L i i) : i = posK L x := by
  unfold posK
  by_cases e : i < L.length
  · rw [eq_comm, List.findIdx_eq e]
    exact ⟨decide_eq_true (h.2 i e (Nat.le_refl _)), fun j hj => decide_eq_false (by have := h.1 j (by omega) hj; simp only at this; omega)⟩
  · obtain rfl : i = L.length := by omega
    rw [eq_comm, List.findIdx_eq_length]
    intro y hy
    obtain ⟨j, hj, rfl⟩ := List.getElem_of_mem hy
    exact decide_eq_false (by have := h.1 j hj hj; simp only at this; omega)
theorem cmpK_flip {x y : Lok} (h : 0 ≤ cmpK y x) : cmpK x y ≤ 0 := by
  have := cmpK_anti y x
  have := cmpK_anti x y
  omega
theorem srt_ins {L : List Lok} (h : SrtK L) (x : Lok) : SrtK (ins L (posK L x) x) := by
  have hlo : ∀ y ∈ L.take (posK L x), cmpK y x < 0 := by
    intro y hy
    obtain ⟨j, hj, rfl⟩ := List.getElem_of_mem hy
    rw [List.length_take] at hj
    rw [List.getElem_take]
    have := List.not_of_lt_findIdx (p := fun y => decide (0 ≤ cmpK y x)) (xs := L) (i := j) (by unfold posK at hj; omega)
    simpa using this
  have hhi : ∀ y ∈ L.drop (posK L x), 0 ≤ cmpK y x := by
    intro y hy
    obtain ⟨j, hj, rfl⟩ := List.getElem_of_mem hy
    rw [List.length_drop] at hj
    rw [List.getElem_drop]
    have hp : posK L x < L.length := by omega
    have h0 : 0 ≤ cmpK L[posK L x] x := by
      have := List.findIdx_getElem (p := fun y => decide (0 ≤ cmpK y x)) (xs := L) (w := hp)
      exact of_decide_eq_true this
    by_cases e : cmpK L[posK L x + j] x < 0
    · have := srt_down h x (posK L x) (posK L x + j) hp (by omega) (by omega) e
      omega
    · omega
  unfold SrtK ins
  rw [List.pairwise_append]
  refine ⟨List.Pairwise.sublist (List.take_sublist _ _) h, ?_, ?_⟩
  · rw [List.pairwise_cons]
    exact ⟨fun y hy => cmpK_flip (hhi y hy), List.Pairwise.sublist (List.drop_sublist _ _) h⟩
  · intro y hy z hz
    rcases List.mem_cons.1 hz with rfl | hz
    · have := hlo y hy; omega
    · have h1 := hlo y hy
      have h2 := cmpK_flip (hhi z hz)
      have h3 : cmpK y z ≤ 0 := by
        by_cases e : cmpK y z ≤ 0
        · exact e
        · have h4 : cmpK z y < 0 := (cmpK_anti z y).2 (by omega)
          have h5 := cmpK_trans (x := z) (y := y) (z := x) (by omega) h1
          have := hhi z hz
          omega
      exact h3
noncomputable def tokd (B : Bk) (x : Lok) : Lok := ⟨x.ses, x.txt, x.ex, B.last + 1⟩
noncomputable def grantB (B : Bk) (x : Lok) : Bk := ⟨ins B.H (posK B.H (tokd B x)) (tokd B x), B.W, B.last + 1⟩
set_option maxRecDepth 100000 in
set_option maxHeartbeats 2000000 in
theorem bgrant1_any (x : Lok) (w : World) (h : BkIs w0 w b v1 v2 B) (hl : B.H.length ≤ 500) (ht : 0 ≤ B.last ∧ B.last < 18446744073709551615) (hM : ML w0) (hS : SrtK B.H)
    (hx : IsPath x.txt) (hH : ∀ y ∈ B.H, IsPath y.txt) :
    Calls Tryz.prog 45 #[.pointer (some ⟨b, 0, none⟩), .agg #[.int .i64 x.ses, .string x.txt, .bool x.ex, .int .u64 x.tok]] w fun e w' => e = .returned (.agg #[.int .i64 x.ses, .string x.txt, .bool x.ex, .int .u64 (B.last + 1)]) ∧ BkTo1 w0 w w' b v1 v2 (grantB B x) := by
  have H := Lib.hid h
  have HV1 := Lib.hid (row_offL h.blk h.r1 (by decide))
  have HV2 := Lib.hid (row_offL h.blk h.r2 (by decide))
  obtain ⟨a1, k1, rfl, _⟩ := ownsRow_slice h.r1
  obtain ⟨a2, k2, rfl, _⟩ := ownsRow_slice h.r2
  have hW : (IntKind.u64.wrap (B.last + 1)) = B.last + 1 := by rw [IntKind.wrap_u64]; omega
  have c2 := h.blk.cell (i := 2) rfl
  have f2 := h.blk.free 2
  have hlt := h.blk.lt
  have hwl : (w.setCell ⟨b, 2, none⟩ (.int .u64 (B.last + 1))).heap.size = w.heap.size := by simp [World.setCell]
  have HBl : Hid (Blk (w.setCell ⟨b, 2, none⟩ (.int .u64 (B.last + 1))) b #[.slice a1 B.H.length k1, .slice a2 B.W.length k2, .int .u64 (B.last + 1)] 69) := Lib.hid (h.blk.set 2 _)
  have HR1 := Lib.hid (ownsRow_setCell_other (a := ⟨b, 2, none⟩) h.r1 HV1.out (.int .u64 (B.last + 1)))
  have HR2 := Lib.hid (ownsRow_setCell_other (a := ⟨b, 2, none⟩) h.r2 HV2.out (.int .u64 (B.last + 1)))
  have HFl := Lib.hid (Far2.setCell b 2 (.slice a1 B.H.length k1) (.slice none 0 0) w (.int .u64 (B.last + 1)))
  have HGl := Lib.hid (h.grown.setCell (p := ⟨b, 2, none⟩) h.base (.int .u64 (B.last + 1)))
  have HMl := Lib.hid (hM.gr HGl.out)
  clear h
  go_enter Tryz.func45, Tryz.ntmps45
  go_upto_region 2 with fail
  generalize w.setCell ⟨b, 2, none⟩ (.int .u64 (B.last + 1)) = wl at *
  have hgz := ((Gr.refl wl).alloc (.cells #[.int .i64 x.ses, .string x.txt, .bool x.ex, .int .u64 x.tok] 42)).alloc (.cells #[.int .i64 0, .string ⟨#[]⟩, .bool false, .int .u64 0] 42)
  have HBx := Lib.hid ((Blk.new wl #[.int .i64 x.ses, .string x.txt, .bool x.ex, .int .u64 x.tok] 42).gr ((Gr.refl _).alloc (.cells #[.int .i64 0, .string ⟨#[]⟩, .bool false, .int .u64 0] 42)))
  have HBz := Lib.hid (Blk.new (wl.alloc (.cells #[.int .i64 x.ses, .string x.txt, .bool x.ex, .int .u64 x.tok] 42)) #[.int .i64 0, .string ⟨#[]⟩, .bool false, .int .u64 0] 42)
  have hs1 : (wl.alloc (.cells #[.int .i64 x.ses, .string x.txt, .bool x.ex, .int .u64 x.tok] 42)).heap.size = w.heap.size + 1 := by rw [← hwl]; simp
  rw [hwl] at HBx
  rw [hs1] at HBz
  have HG3 := Lib.hid hgz
  clear c2 f2 hs1 hgz
  generalize (wl.alloc (.cells #[.int .i64 x.ses, .string x.txt, .bool x.ex, .int .u64 x.tok] 42)).alloc (.cells #[.int .i64 0, .string ⟨#[]⟩, .bool false, .int .u64 0] 42) = w3 at *
  have HB3 := Lib.hid (HBl.out.gr HG3.out)
  have HR1 := Lib.hid (ownsRow_gr HG3.out HR1.out)
  have HR2 := Lib.hid (ownsRow_gr HG3.out HR2.out)
  have HF3 := Lib.hid (HFl.out.trans (From.refl _ _) (From.refl _ _) (Far2.of_gr HG3.out))
  have HM3 := Lib.hid (HMl.out.gr HG3.out)
  have HGG := Lib.hid (HGl.out.trans HG3.out)
  clear HBl HFl HMl HGl HG3
  have c2 := HB3.out.cell (i := 2) rfl
  have x3 := HBx.out.cell (i := 3) rfl
  have g3 := HBx.out.free 3
  have HF4 := Lib.hid (HF3.out.fresh (o := 3) (p := w.heap.size) (Nat.le_refl _) (.int .u64 (B.last + 1)))
  have hvp1 : Value.ownBlock (.slice a1 B.H.length k1) ≠ some w.heap.size := fun e => by have := (H.out.r1.lt _ e).2; omega
  have hvp2 : Value.ownBlock (.slice a2 B.W.length k2) ≠ some w.heap.size := fun e => by have := (H.out.r2.lt _ e).2; omega
  have HR1 := Lib.hid (ownsRow_setCell_other (a := ⟨w.heap.size, 3, none⟩) HR1.out hvp1 (.int .u64 (B.last + 1)))
  have HR2 := Lib.hid (ownsRow_setCell_other (a := ⟨w.heap.size, 3, none⟩) HR2.out hvp2 (.int .u64 (B.last + 1)))
  have HBx4 : Hid (Blk (w3.setCell ⟨w.heap.size, 3, none⟩ (.int .u64 (B.last + 1))) w.heap.size #[.int .i64 x.ses, .string x.txt, .bool x.ex, .int .u64 (B.last + 1)] 42) := Lib.hid (HBx.out.set 3 _)
  have HBz4 := Lib.hid (HBz.out.other (c := w.heap.size) (by omega) 3 (.int .u64 (B.last + 1)))
  have HB4 := Lib.hid (HB3.out.other (c := w.heap.size) (by omega) 3 (.int .u64 (B.last + 1)))
  have HGG4 := Lib.hid (HGG.out.setCell (p := ⟨w.heap.size, 3, none⟩) H.out.grown.size (.int .u64 (B.last + 1)))
  have HM4 := Lib.hid (hM.gr HGG4.out)
  have hs4 : Hid (w.heap.size + 1 < (w3.setCell ⟨w.heap.size, 3, none⟩ (.int .u64 (B.last + 1))).heap.size) := Lib.hid HBz4.out.lt
  clear HBx HBz HB3 HF3 HM3 HGG
  go_upto_region 3 with fail
  generalize w3.setCell ⟨w.heap.size, 3, none⟩ (.int .u64 (B.last + 1)) = w4 at *
  clear c2 x3 g3
  have HV1p := Lib.hid hvp1
  have HV1z := Lib.hid (fun e => by have := (H.out.r1.lt _ e).2; omega : Value.ownBlock (.slice a1 B.H.length k1) ≠ some (w.heap.size + 1))
  have HNE : Hid ((Value.slice a2 B.W.length k2).ownBlock = none ∨ (Value.slice a2 B.W.length k2).ownBlock ≠ (Value.slice a1 B.H.length k1).ownBlock) := Lib.hid (ne_swap H.out.ne)
  have HXB := Lib.hid (show w.heap.size ≠ b by omega)
  have HZB := Lib.hid (show w.heap.size + 1 ≠ b by omega)
  clear hvp1 hvp2
  obtain ⟨i, hi⟩ : ∃ i, posK B.H (tokd B x) = i := ⟨_, rfl⟩
  have HBS : Hid (∀ w', Gr w4 w' → Calls Tryz.prog 67 #[.slice a1 B.H.length k1, .agg #[.int .i64 x.ses, .string x.txt, .bool x.ex, .int .u64 (B.last + 1)], .func (.func 55) #[] #[]] w' fun e w'' => ∃ fd : Bool, e = .returned (.tuple #[.int .i64 (i : Nat), .bool fd]) ∧ Gr w' w'') := Lib.hid (fun w' hg => (bsLok_any (tokd B x) B.H w' (ownsRow_gr hg HR1.out) (by omega) (HM4.out.gr hg) hx hH (srt_down hS _)).mono (by
    rintro e w'' ⟨j, fd, he, hj, hpt, _, hg2⟩
    have : j = i := (parted_pos hj hpt).trans hi
    subst this
    exact ⟨fd, he, hg2⟩))
  have hil : i ≤ B.H.length := by rw [← hi]; exact List.findIdx_le_length
  have HI := Lib.hid hi
  clear hi
  have b0 := HB4.out.cell (i := 0) rfl
  have x0 := HBx4.out.cell (i := 0) rfl
  have x1 := HBx4.out.cell (i := 1) rfl
  have x2 := HBx4.out.cell (i := 2) rfl
  have x3 := HBx4.out.cell (i := 3) rfl
  have HTX := Lib.hid (show tokd B x = ⟨x.ses, x.txt, x.ex, B.last + 1⟩ from rfl)
  generalize tokd B x = tx at *
  generalize hxs : x.ses = xs at *
  generalize hxt : x.txt = xt at *
  generalize hxe : x.ex = xe at *
  generalize hn1 : B.H.length = n1 at *
  generalize ht1 : B.last + 1 = t1 at *
  have HEQ := Lib.hid (And.intro hxs (And.intro hxt (And.intro hxe (And.intro hn1 ht1))))
  clear hxs hxt hxe ht1
  have HX : Hid (∀ w0 w9 : World, Gr w0 w9 → (fun w9 => Gr w4 w9 ∧ w9.cell? ⟨b, 0, none⟩ = some (.slice a1 n1 k1) ∧ w9.cell? ⟨w.heap.size, 0, none⟩ = some (.int .i64 xs) ∧ w9.cell? ⟨w.heap.size, 1, none⟩ = some (.string xt) ∧ w9.cell? ⟨w.heap.size, 2, none⟩ = some (.bool xe) ∧ w9.cell? ⟨w.heap.size, 3, none⟩ = some (.int .u64 t1)) w0 → (fun w9 => Gr w4 w9 ∧ w9.cell? ⟨b, 0, none⟩ = some (.slice a1 n1 k1) ∧ w9.cell? ⟨w.heap.size, 0, none⟩ = some (.int .i64 xs) ∧ w9.cell? ⟨w.heap.size, 1, none⟩ = some (.string xt) ∧ w9.cell? ⟨w.heap.size, 2, none⟩ = some (.bool xe) ∧ w9.cell? ⟨w.heap.size, 3, none⟩ = some (.int .u64 t1)) w9) := Lib.hid fun w0 w9 hg ⟨h, q0, q1, q2, q3, q4⟩ => ⟨h.trans hg, hg.cell q0, hg.cell q1, hg.cell q2, hg.cell q3, hg.cell q4⟩
  refine wp_region_held_drew (S := (fun w9 => Gr w4 w9 ∧ w9.cell? ⟨b, 0, none⟩ = some (.slice a1 n1 k1) ∧ w9.cell? ⟨w.heap.size, 0, none⟩ = some (.int .i64 xs) ∧ w9.cell? ⟨w.heap.size, 1, none⟩ = some (.string xt) ∧ w9.cell? ⟨w.heap.size, 2, none⟩ = some (.bool xe) ∧ w9.cell? ⟨w.heap.size, 3, none⟩ = some (.int .u64 t1))) (by kernel_rfl) ?inva (fun h0 => ?_)
  case inva => ((try dsimp only); (exact HX.out _ _ ((Gr.refl _).drew) ⟨Gr.refl _, b0, x0, x1, x2, x3⟩))
  refine wpAnyH_take (i := 0) (oi := { dst := some 20, op := Go.Op.move (Go.Operand.tmp 0), type := 25, pos := "locks.go:80", after := #[], guard := none }) (v := ?va1) rfl (by kernel_rfl) (by kernel_rfl) (by kernel_rfl) (fun _ _ _ h => h) (Or.inl ⟨by rfl, ?ra1⟩) (by assumption) ?_
  case ra1 => (intro w hSw; (try dsimp only at hSw); (go_simp <;> with_reducible rfl))
  try simp only [Act.put, List.setIfInBounds_toArray, List.set_cons_zero, List.set_cons_succ]
  refine wpAnyH_take (i := 1) (oi := { dst := some 21, op := Go.Op.nilCheck (Go.Operand.tmp 20), type := 0, pos := "locks.go:80", after := #[⟨0, .data⟩], guard := none }) (v := ?va2) rfl (by kernel_rfl) (by kernel_rfl) (by kernel_rfl) (fun _ _ _ h => h) (Or.inl ⟨by rfl, ?ra2⟩) (by assumption) ?_
  case ra2 => (intro w hSw; (try dsimp only at hSw); (go_simp <;> with_reducible rfl))
  try simp only [Act.put, List.setIfInBounds_toArray, List.set_cons_zero, List.set_cons_succ]
  refine wpAnyH_take (i := 2) (oi := { dst := some 22, op := Go.Op.fieldAddr 69 (Go.Operand.tmp 21) 0, type := 0, pos := "locks.go:80", after := #[⟨1, .data⟩], guard := none }) (v := ?va3) rfl (by kernel_rfl) (by kernel_rfl) (by kernel_rfl) (fun _ _ _ h => h) (Or.inl ⟨by rfl, ?ra3⟩) (by assumption) ?_
  case ra3 => (intro w hSw; (try dsimp only at hSw); (go_simp <;> with_reducible rfl))
  try simp only [Act.put, List.setIfInBounds_toArray, List.set_cons_zero, List.set_cons_succ]
  refine wpAnyH_take (i := 3) (oi := { dst := some 23, op := Go.Op.load 37 (Go.Operand.tmp 22), type := 37, pos := "locks.go:80", after := #[⟨2, .data⟩], guard := none }) (v := ?va4) rfl (by kernel_rfl) (by kernel_rfl) (by kernel_rfl) (fun _ _ _ h => h) (Or.inl ⟨by rfl, ?ra4⟩) (by assumption) ?_
  case ra4 => (intro w hSw; (try dsimp only at hSw); (go_simp <;> with_reducible rfl))
  try simp only [Act.put, List.setIfInBounds_toArray, List.set_cons_zero, List.set_cons_succ]
  refine wpAnyH_take (i := 4) (oi := { dst := some 24, op := Go.Op.load 42 (Go.Operand.tmp 3), type := 42, pos := "locks.go:80", after := #[], guard := none }) (v := ?va5) rfl (by kernel_rfl) (by kernel_rfl) (by kernel_rfl) (fun _ _ _ h => h) (Or.inl ⟨by rfl, ?ra5⟩) (by assumption) ?_
  case ra5 => (intro w hSw; (try dsimp only at hSw); (go_simp <;> with_reducible rfl))
  try simp only [Act.put, List.setIfInBounds_toArray, List.set_cons_zero, List.set_cons_succ]
  refine wpAnyH_ready (rs := [5]) (by kernel_rfl) (by simp) ?_
  refine AllReadyH.cons (o := { dst := some 25, op := Go.Op.call { callee := Go.Callee.value (Go.Operand.func 67), args := #[Go.Operand.tmp 23, Go.Operand.tmp 24, Go.Operand.func 55], argTypes := #[37, 42, 107] }, type := 115, pos := "locks.go:80", after := #[⟨3, .data⟩, ⟨4, .data⟩], guard := none }) rfl (fun K hK => ?_) AllReadyH.nil
  go_simp
  go_at_call 67
  refine (HBS.out _ h0.1).mono ?_
  rintro e w9 ⟨fd, rfl, hgN⟩
  first | refine hK.out _ _ ?sa6 (fun h6 => ?_) | (go_wp2_with fail; refine hK.out _ _ ?sa6 (fun h6 => ?_))
  case sa6 => ((try dsimp only); (exact HX.out _ _ hgN h0))
  clear hK K h0
  try simp only [Act.put, List.setIfInBounds_toArray, List.set_cons_zero, List.set_cons_succ]
  refine wpAnyH_take (i := 6) (oi := { dst := some 19, op := Go.Op.move (Go.Operand.tmp 25), type := 115, pos := "locks.go:80", after := #[⟨5, .data⟩], guard := none }) (v := ?va7) rfl (by kernel_rfl) (by kernel_rfl) (by kernel_rfl) (fun _ _ _ h => h) (Or.inl ⟨by rfl, ?ra7⟩) (by assumption) ?_
  case ra7 => (intro w hSw; (try dsimp only at hSw); (go_simp <;> with_reducible rfl))
  try simp only [Act.put, List.setIfInBounds_toArray, List.set_cons_zero, List.set_cons_succ]
  refine wpAnyH_take (i := 7) (oi := { dst := some 26, op := Go.Op.extract (Go.Operand.tmp 19) 0, type := 3, pos := "locks.go:80", after := #[⟨6, .data⟩], guard := none }) (v := ?va8) rfl (by kernel_rfl) (by kernel_rfl) (by kernel_rfl) (fun _ _ _ h => h) (Or.inl ⟨by rfl, ?ra8⟩) (by assumption) ?_
  case ra8 => (intro w hSw; (try dsimp only at hSw); (go_simp <;> with_reducible rfl))
  try simp only [Act.put, List.setIfInBounds_toArray, List.set_cons_zero, List.set_cons_succ]
  refine wpAnyH_take (i := 8) (oi := { dst := some 27, op := Go.Op.extract (Go.Operand.tmp 19) 1, type := 4, pos := "locks.go:80", after := #[⟨6, .data⟩, ⟨9, .gcOnly .lateStores⟩], guard := none }) (v := ?va9) rfl (by kernel_rfl) (by kernel_rfl) (by kernel_rfl) (fun _ _ _ h => h) (Or.inl ⟨by rfl, ?ra9⟩) (by assumption) ?_
  case ra9 => (intro w hSw; (try dsimp only at hSw); (go_simp <;> with_reducible rfl))
  try simp only [Act.put, List.setIfInBounds_toArray, List.set_cons_zero, List.set_cons_succ]
  refine wpAnyH_take (i := 9) (oi := { dst := some 5, op := Go.Op.assign (Go.Operand.tmp 26), type := 3, pos := "locks.go:80", after := #[⟨7, .data⟩, ⟨5, .chain⟩, ⟨0, .phase⟩, ⟨1, .phase⟩, ⟨2, .phase⟩, ⟨3, .phase⟩, ⟨4, .phase⟩, ⟨5, .phase⟩, ⟨6, .phase⟩, ⟨7, .phase⟩, ⟨8, .textOnly .lateStores⟩], guard := none }) (v := ?va10) rfl (by kernel_rfl) (by kernel_rfl) (by kernel_rfl) (fun _ _ _ h => h) (Or.inl ⟨by rfl, ?ra10⟩) (by assumption) ?_
  case ra10 => (intro w hSw; (try dsimp only at hSw); (go_simp <;> with_reducible rfl))
  try simp only [Act.put, List.setIfInBounds_toArray, List.set_cons_zero, List.set_cons_succ]
  refine wpAnyH_take (i := 10) (oi := { dst := some 6, op := Go.Op.assign (Go.Operand.tmp 27), type := 4, pos := "locks.go:80", after := #[⟨8, .data⟩, ⟨9, .chain⟩, ⟨0, .phase⟩, ⟨1, .phase⟩, ⟨2, .phase⟩, ⟨3, .phase⟩, ⟨4, .phase⟩, ⟨5, .phase⟩, ⟨6, .phase⟩, ⟨7, .phase⟩, ⟨8, .phase⟩, ⟨9, .phase⟩], guard := none }) (v := ?va11) rfl (by kernel_rfl) (by kernel_rfl) (by kernel_rfl) (fun _ _ _ h => h) (Or.inl ⟨by rfl, ?ra11⟩) (by assumption) ?_
  case ra11 => (intro w hSw; (try dsimp only at hSw); (go_simp <;> with_reducible rfl))
  try simp only [Act.put, List.setIfInBounds_toArray, List.set_cons_zero, List.set_cons_succ]
  refine wpAnyH_done (by kernel_rfl) ?_ _
  have hg5 := h6.1
  clear b0 x0 x1 x2 x3 HBS HX h6 hgN
  have HB5 := Lib.hid (HB4.out.gr hg5)
  have HBx5 := Lib.hid (HBx4.out.gr hg5)
  have HBz5 := Lib.hid (HBz4.out.gr hg5)
  have HR15 := Lib.hid (ownsRow_gr hg5 HR1.out)
  have HR25 := Lib.hid (ownsRow_gr hg5 HR2.out)
  have HG5 := Lib.hid (HGG4.out.trans hg5)
  have HF5 := Lib.hid (HF4.out.trans (From.refl _ _) (From.refl _ _) (Far2.of_gr hg5))
  have hs5 : Hid (w.heap.size + 1 < w9.heap.size) := Lib.hid HBz5.out.lt
  clear hg5 HB4 HBx4 HBz4 HR1 HR2 HGG4 HF4 hs4
  generalize w9 = w5 at *
  have hv5 : Value.ownBlock (.slice a1 n1 k1) ≠ some w5.heap.size := fun e => by have := (HR15.out.lt _ e).2; omega
  have HINS : Hid (∀ W', Gr w5 W' → Blk W' w5.heap.size #[.int .i64 xs, .string xt, .bool xe, .int .u64 t1] 42 → Calls Tryz.prog 68 #[.slice a1 n1 k1, .int .i64 (i : Nat), .slice (some ⟨w5.heap.size, 0, none⟩) 1 1] W' fun e w' => ∃ v', e = .returned v' ∧ w'.ownsRow w0.heap.size 42 4 v' (n1 + 1) (rcells encLok (ins B.H i tx)) ∧ W'.grownBy w' (Value.slice a1 n1 k1).ownBlock ∧ From (.slice a1 n1 k1) W' v') := Lib.hid (fun W' hg hb => by
    obtain ⟨_, _, _, hn, _⟩ := HEQ.out
    have hr := ownsRow_gr hg HR15.out
    rw [← hn] at hr ⊢
    exact insLok_any B.H tx W' hr (by rw [hn]; exact hil) (by rw [hn]; omega) (by have := HG5.out.size; have := hg.size; omega) (by rw [HTX.out]; exact hb) (by rw [hn]; exact hv5))
  clear hv5 hn1
  have b0 := HB5.out.cell (i := 0) rfl
  have x0 := HBx5.out.cell (i := 0) rfl
  have x1 := HBx5.out.cell (i := 1) rfl
  have x2 := HBx5.out.cell (i := 2) rfl
  have x3 := HBx5.out.cell (i := 3) rfl
  have y0 := ((Gr.refl w5).alloc (.cells #[.int .i64 xs, .string xt, .bool xe, .int .u64 t1] 42)).cell b0
  go_wp2_with fail
  refine late_start (fun i => decide (11 ≤ i)) (fun w9 => w9.cell? ⟨b, 0, none⟩ = some (.slice a1 n1 k1) ∧ w9.cell? ⟨w.heap.size, 0, none⟩ = some (.int .i64 xs) ∧ w9.cell? ⟨w.heap.size, 1, none⟩ = some (.string xt) ∧ w9.cell? ⟨w.heap.size, 2, none⟩ = some (.bool xe) ∧ w9.cell? ⟨w.heap.size, 3, none⟩ = some (.int .u64 t1)) (by kernel_rfl) ?invb (fun h0 => ?_)
  case invb => ((try dsimp only); (exact ⟨b0, x0, x1, x2, x3⟩))
  refine late_take (i := 0) (oi := { dst := some 28, op := Go.Op.move (Go.Operand.tmp 0), type := 25, pos := "locks.go:81", after := #[], guard := none }) (v := ?vb1) rfl (by kernel_rfl) (by kernel_rfl) (by kernel_rfl) (by kernel_rfl) (by kernel_rfl) (fun _ _ _ h => h) (Or.inl ⟨by rfl, ?rb1⟩) (by assumption) ?_
  case rb1 => (intro w hSw; (try dsimp only at hSw); (go_simp <;> with_reducible rfl))
  try simp only [Act.put, List.setIfInBounds_toArray, List.set_cons_zero, List.set_cons_succ]
  refine late_take (i := 1) (oi := { dst := some 29, op := Go.Op.move (Go.Operand.tmp 0), type := 25, pos := "locks.go:81", after := #[], guard := none }) (v := ?vb2) rfl (by kernel_rfl) (by kernel_rfl) (by kernel_rfl) (by kernel_rfl) (by kernel_rfl) (fun _ _ _ h => h) (Or.inl ⟨by rfl, ?rb2⟩) (by assumption) ?_
  case rb2 => (intro w hSw; (try dsimp only at hSw); (go_simp <;> with_reducible rfl))
  try simp only [Act.put, List.setIfInBounds_toArray, List.set_cons_zero, List.set_cons_succ]
  refine late_take (i := 2) (oi := { dst := some 30, op := Go.Op.nilCheck (Go.Operand.tmp 29), type := 0, pos := "locks.go:81", after := #[⟨1, .data⟩], guard := none }) (v := ?vb3) rfl (by kernel_rfl) (by kernel_rfl) (by kernel_rfl) (by kernel_rfl) (by kernel_rfl) (fun _ _ _ h => h) (Or.inl ⟨by rfl, ?rb3⟩) (by assumption) ?_
  case rb3 => (intro w hSw; (try dsimp only at hSw); (go_simp <;> with_reducible rfl))
  try simp only [Act.put, List.setIfInBounds_toArray, List.set_cons_zero, List.set_cons_succ]
  refine late_take (i := 3) (oi := { dst := some 31, op := Go.Op.fieldAddr 69 (Go.Operand.tmp 30) 0, type := 0, pos := "locks.go:81", after := #[⟨2, .data⟩], guard := none }) (v := ?vb4) rfl (by kernel_rfl) (by kernel_rfl) (by kernel_rfl) (by kernel_rfl) (by kernel_rfl) (fun _ _ _ h => h) (Or.inl ⟨by rfl, ?rb4⟩) (by assumption) ?_
  case rb4 => (intro w hSw; (try dsimp only at hSw); (go_simp <;> with_reducible rfl))
  try simp only [Act.put, List.setIfInBounds_toArray, List.set_cons_zero, List.set_cons_succ]
  refine late_take (i := 4) (oi := { dst := some 32, op := Go.Op.load 37 (Go.Operand.tmp 31), type := 37, pos := "locks.go:81", after := #[⟨3, .data⟩], guard := none }) (v := ?vb5) rfl (by kernel_rfl) (by kernel_rfl) (by kernel_rfl) (by kernel_rfl) (by kernel_rfl) (fun _ _ _ h => h) (Or.inl ⟨by rfl, ?rb5⟩) (by assumption) ?_
  case rb5 => (intro w hSw; (try dsimp only at hSw); (go_simp <;> with_reducible rfl))
  try simp only [Act.put, List.setIfInBounds_toArray, List.set_cons_zero, List.set_cons_succ]
  refine late_take (i := 5) (oi := { dst := some 33, op := Go.Op.move (Go.Operand.tmp 5), type := 3, pos := "locks.go:81", after := #[], guard := none }) (v := ?vb6) rfl (by kernel_rfl) (by kernel_rfl) (by kernel_rfl) (by kernel_rfl) (by kernel_rfl) (fun _ _ _ h => h) (Or.inl ⟨by rfl, ?rb6⟩) (by assumption) ?_
  case rb6 => (intro w hSw; (try dsimp only at hSw); (go_simp <;> with_reducible rfl))
  try simp only [Act.put, List.setIfInBounds_toArray, List.set_cons_zero, List.set_cons_succ]
  refine late_take (i := 6) (oi := { dst := some 34, op := Go.Op.load 42 (Go.Operand.tmp 3), type := 42, pos := "locks.go:81", after := #[], guard := none }) (v := ?vb7) rfl (by kernel_rfl) (by kernel_rfl) (by kernel_rfl) (by kernel_rfl) (by kernel_rfl) (fun _ _ _ h => h) (Or.inl ⟨by rfl, ?rb7⟩) (by assumption) ?_
  case rb7 => (intro w hSw; (try dsimp only at hSw); (go_simp <;> with_reducible rfl))
  try simp only [Act.put, List.setIfInBounds_toArray, List.set_cons_zero, List.set_cons_succ]
  refine late_ready (rs := [7]) (by kernel_rfl) (by simp) ?_
  refine LateAll.cons (o := { dst := some 35, op := Go.Op.buildSlice 37 1 #[(0, Go.Operand.tmp 34)], type := 37, pos := "locks.go:81", after := #[⟨6, .data⟩], guard := none }) rfl (fun K hK => ?_) LateAll.nil
  go_simp
  skip
  first | refine hK.out _ _ ?sb8 (fun h8 => ?_) | (go_wp2_with fail; refine hK.out _ _ ?sb8 (fun h8 => ?_))
  case sb8 => ((try dsimp only); (first | exact ⟨QB.out.cell (i := 0) rfl, QX.out.cell (i := 0) rfl, QX.out.cell (i := 1) rfl, QX.out.cell (i := 2) rfl, QX.out.cell (i := 3) rfl⟩ | exact ⟨((Gr.refl _).alloc _).cell h0.1, ((Gr.refl _).alloc _).cell h0.2.1, ((Gr.refl _).alloc _).cell h0.2.2.1, ((Gr.refl _).alloc _).cell h0.2.2.2.1, ((Gr.refl _).alloc _).cell h0.2.2.2.2⟩))
  clear hK K h0
  try simp only [Act.put, List.setIfInBounds_toArray, List.set_cons_zero, List.set_cons_succ]
  refine late_ready (rs := [8]) (by kernel_rfl) (by simp) ?_
  refine LateAll.cons (o := { dst := some 36, op := Go.Op.call { callee := Go.Callee.value (Go.Operand.func 68), args := #[Go.Operand.tmp 32, Go.Operand.tmp 33, Go.Operand.tmp 35], argTypes := #[37, 3, 37] }, type := 37, pos := "locks.go:81", after := #[⟨4, .data⟩, ⟨5, .data⟩, ⟨7, .data⟩], guard := none }) rfl (fun K hK => ?_) LateAll.nil
  go_simp
  go_at_call 68
  refine (HINS.out _ (by first | exact ((Gr.refl _).alloc _).drew | exact (Gr.refl _).alloc _) (by first | exact (Blk.new w5 _ _).gr ((Gr.refl _).drew) | exact Blk.new w5 _ _)).mono ?_
  rintro e w10 ⟨v', rfl, hr10, hg10, hf10⟩
  obtain ⟨a', k', hv', _⟩ := ownsRow_slice hr10
  subst hv'
  have hga : Gr w5 (w5.alloc (.cells #[.int .i64 xs, .string xt, .bool xe, .int .u64 t1] 42)).drew := ((Gr.refl _).alloc _).drew
  have QB := Lib.hid ((HB5.out.gr hga).keptB hg10 HV1.out)
  have QX := Lib.hid ((HBx5.out.gr hga).keptB hg10 HV1p.out)
  have QZ := Lib.hid ((HBz5.out.gr hga).keptB hg10 HV1z.out)
  have QR2 := Lib.hid ((ownsRow_gr hga HR25.out).kept hg10 HNE.out)
  have QR1 := Lib.hid hr10
  have QG := Lib.hid hg10
  have QV := Lib.hid hf10
  clear hr10 hg10 hf10 hga
  first | refine hK.out _ _ ?sb9 (fun h9 => ?_) | (go_wp2_with fail; refine hK.out _ _ ?sb9 (fun h9 => ?_))
  case sb9 => ((try dsimp only); (first | exact ⟨QB.out.cell (i := 0) rfl, QX.out.cell (i := 0) rfl, QX.out.cell (i := 1) rfl, QX.out.cell (i := 2) rfl, QX.out.cell (i := 3) rfl⟩ | exact ⟨((Gr.refl _).alloc _).cell h8.1, ((Gr.refl _).alloc _).cell h8.2.1, ((Gr.refl _).alloc _).cell h8.2.2.1, ((Gr.refl _).alloc _).cell h8.2.2.2.1, ((Gr.refl _).alloc _).cell h8.2.2.2.2⟩))
  clear hK K h8
  try simp only [Act.put, List.setIfInBounds_toArray, List.set_cons_zero, List.set_cons_succ]
  refine late_take (i := 9) (oi := { dst := some 37, op := Go.Op.nilCheck (Go.Operand.tmp 28), type := 0, pos := "locks.go:81", after := #[⟨0, .data⟩, ⟨0, .phase⟩, ⟨1, .phase⟩, ⟨2, .phase⟩, ⟨3, .phase⟩, ⟨4, .phase⟩, ⟨5, .phase⟩, ⟨6, .phase⟩, ⟨7, .phase⟩, ⟨8, .phase⟩], guard := none }) (v := ?vb10) rfl (by kernel_rfl) (by kernel_rfl) (by kernel_rfl) (by kernel_rfl) (by kernel_rfl) (fun _ _ _ h => h) (Or.inl ⟨by rfl, ?rb10⟩) (by assumption) ?_
  case rb10 => (intro w hSw; (try dsimp only at hSw); (go_simp <;> with_reducible rfl))
  try simp only [Act.put, List.setIfInBounds_toArray, List.set_cons_zero, List.set_cons_succ]
  refine late_take (i := 10) (oi := { dst := some 38, op := Go.Op.fieldAddr 69 (Go.Operand.tmp 37) 0, type := 0, pos := "locks.go:81", after := #[⟨9, .data⟩, ⟨0, .phase⟩, ⟨1, .phase⟩, ⟨2, .phase⟩, ⟨3, .phase⟩, ⟨4, .phase⟩, ⟨5, .phase⟩, ⟨6, .phase⟩, ⟨7, .phase⟩, ⟨8, .phase⟩], guard := none }) (v := ?vb11) rfl (by kernel_rfl) (by kernel_rfl) (by kernel_rfl) (by kernel_rfl) (by kernel_rfl) (fun _ _ _ h => h) (Or.inl ⟨by rfl, ?rb11⟩) (by assumption) ?_
  case rb11 => (intro w hSw; (try dsimp only at hSw); (go_simp <;> with_reducible rfl))
  try simp only [Act.put, List.setIfInBounds_toArray, List.set_cons_zero, List.set_cons_succ]
  have z0 := QB.out.cell (i := 0) rfl
  have z1 := QB.out.free 0
  refine late_go (by kernel_rfl) ?_
  refine any_one (i := 11) (o := { dst := none, op := Go.Op.store 37 (Go.Operand.tmp 38) (Go.Operand.tmp 36), type := 0, pos := "locks.go:81", after := #[⟨10, .data⟩, ⟨8, .data⟩, ⟨8, .chain⟩, ⟨0, .phase⟩, ⟨1, .phase⟩, ⟨2, .phase⟩, ⟨3, .phase⟩, ⟨4, .phase⟩, ⟨5, .phase⟩, ⟨6, .phase⟩, ⟨7, .phase⟩, ⟨8, .phase⟩], guard := none }) (by kernel_rfl) rfl (fun K hK => ?_)
  go_simp
  refine hK.out _ _ ?_
  clear hK K
  try simp only [Act.put, List.setIfInBounds_toArray, List.set_cons_zero, List.set_cons_succ]
  refine any_done (by kernel_rfl) ?_
  have TB := Lib.hid (show Blk (w10.setCell ⟨b, 0, none⟩ (.slice a' (n1 + 1) k')) b #[.slice a' (n1 + 1) k', .slice a2 B.W.length k2, .int .u64 t1] 69 from QB.out.set 0 _)
  have TX := Lib.hid (QX.out.other (c := b) HXB.out 0 (.slice a' (n1 + 1) k'))
  have TZ := Lib.hid (QZ.out.other (c := b) HZB.out 0 (.slice a' (n1 + 1) k'))
  have TR1 := Lib.hid (ownsRow_setCell_other (a := ⟨b, 0, none⟩) QR1.out (row_offL QB.out QR1.out (by decide)) (.slice a' (n1 + 1) k'))
  have TR2 := Lib.hid (ownsRow_setCell_other (a := ⟨b, 0, none⟩) QR2.out (row_offL QB.out QR2.out (by decide)) (.slice a' (n1 + 1) k'))
  clear z0 z1 b0 x0 x1 x2 x3 y0 HINS h9
  have hga : Gr w5 (w5.alloc (.cells #[.int .i64 xs, .string xt, .bool xe, .int .u64 t1] 42)).drew := ((Gr.refl _).alloc _).drew
  have G10 := (HG5.out.trans hga).append (ownsRow_gr hga HR15.out) QG.out
  have GG11 := Lib.hid (G10.setCell (p := ⟨b, 0, none⟩) H.out.base (.slice a' (n1 + 1) k'))
  have FF11 := Lib.hid (((HF5.out.trans (From.refl _ _) (From.refl _ _) (Far2.of_gr hga)).trans (From.refl _ _) (From.refl _ _) (Far2.of_grown1 QG.out)).trans (From.refl _ _) (From.refl _ _) (Far2.setCell b 0 _ _ w10 (.slice a' (n1 + 1) k')))
  have hsz : w.heap.size + 1 < (w5.alloc (.cells #[.int .i64 xs, .string xt, .bool xe, .int .u64 t1] 42)).drew.heap.size := Nat.lt_of_lt_of_le hs5.out hga.size
  have VV := Lib.hid (show From (.slice a1 n1 k1) w (.slice a' (n1 + 1) k') from fun k e => (QV.out k e).imp id (fun h => by omega))
  have VN := Lib.hid (show ∀ k, Value.ownBlock (.slice a' (n1 + 1) k') = some k → Value.ownBlock (.slice a1 n1 k1) = some k ∨ w.heap.size + 1 < k from fun k e => (QV.out k e).imp id (fun h => by omega))
  clear hga G10 hsz QG QV QR1 QR2 QB QX QZ HR15 HR25 HB5 HBx5 HBz5 HG5 HF5
  have TG := Lib.hid (show w10.heap.size = (w10.setCell ⟨b, 0, none⟩ (.slice a' (n1 + 1) k')).heap.size by simp [World.setCell])
  generalize w10.setCell ⟨b, 0, none⟩ (.slice a' (n1 + 1) k') = w11 at *
  have x0 := TX.out.cell (i := 0) rfl
  have x1 := TX.out.cell (i := 1) rfl
  have x2 := TX.out.cell (i := 2) rfl
  have x3 := TX.out.cell (i := 3) rfl
  have r0 := TZ.out.cell (i := 0) rfl
  have r1 := TZ.out.cell (i := 1) rfl
  have r2 := TZ.out.cell (i := 2) rfl
  have r3 := TZ.out.cell (i := 3) rfl
  have f0 := TZ.out.free 0
  have f1 := TZ.out.free 1
  have f2 := TZ.out.free 2
  have f3 := TZ.out.free 3
  go_wp2
  refine bodyPost_ret (v := .agg #[.int .i64 xs, .string xt, .bool xe, .int .u64 t1]) (by simp [results, Tryz.results45, go_sem, r0, r1, r2, r3, f0]; try rfl) rfl ?_
  obtain ⟨e1, e2, e3, e4, e5⟩ := HEQ.out
  have htk : tokd B x = tx := by rw [HTX.out]; unfold tokd; rw [e1, e2, e3, e5]
  have hgr : grantB B x = ⟨ins B.H i tx, B.W, t1⟩ := by unfold grantB; rw [htk, HI.out, e5]
  have hv1 : ∀ k, Value.ownBlock (.slice a1 n1 k1) = some k → k < w.heap.size := fun k e => (H.out.r1.lt _ e).2
  have hv2 : ∀ k, Value.ownBlock (.slice a2 B.W.length k2) = some k → k < w.heap.size := fun k e => (H.out.r2.lt _ e).2
  have hk : BkIs w0 w11 b (.slice a' (n1 + 1) k') (.slice a2 B.W.length k2) (grantB B x) := by
    rw [hgr]
    refine ⟨H.out.base, GG11.out, TB.out, ?_, TR2.out, ?_⟩
    · show w11.ownsRow _ _ _ _ (ins B.H i tx).length _
      rw [ins_len B.H i tx (by rw [e4]; exact hil), e4]
      exact TR1.out
    · rcases hq : Value.ownBlock (.slice a' (n1 + 1) k') with _ | k
      · exact .inl rfl
      · refine .inr (fun e => ?_)
        have h2 := hv2 k e.symm
        rcases VN.out k hq with h3 | h3
        · rcases H.out.ne with h4 | h4
          · rw [h4] at h3; simp at h3
          · exact h4 (h3.trans e)
        · omega
  have hz1 : Value.ownBlock (.slice a' (n1 + 1) k') ≠ some (w.heap.size + 1) := fun e => by
    rcases VN.out _ e with h3 | h3
    · have := hv1 _ h3; omega
    · omega
  have hz2 : Value.ownBlock (.slice a2 B.W.length k2) ≠ some (w.heap.size + 1) := fun e => by have := hv2 _ e; omega
  have hb0 : w0.heap.size ≤ w.heap.size + 1 := by have := H.out.grown.size; omega
  refine ⟨by rw [e1, e2, e3, e5], _, (((hk.setO HZB.out hz1 hz2 hb0 _).setO HZB.out hz1 hz2 hb0 _).setO HZB.out hz1 hz2 hb0 _).setO HZB.out hz1 hz2 hb0 _, ?_, by rw [e4]; exact VV.out⟩
  rw [e4]
  exact (((FF11.out.fresh (Nat.le_succ _) _).fresh (Nat.le_succ _) _).fresh (Nat.le_succ _) _).fresh (Nat.le_succ _) _
theorem bgrant_any (x : Lok) (w : World) (h : BkIs w0 w b v1 v2 B) (hl : B.H.length ≤ 500) (ht : 0 ≤ B.last ∧ B.last < 18446744073709551615) (hM : ML w0) (hS : SrtK B.H)
    (hx : IsPath x.txt) (hH : ∀ y ∈ B.H, IsPath y.txt) :
    Calls Tryz.prog 45 #[.pointer (some ⟨b, 0, none⟩), .agg #[.int .i64 x.ses, .string x.txt, .bool x.ex, .int .u64 x.tok]] w fun e w' => e = .returned (.agg #[.int .i64 x.ses, .string x.txt, .bool x.ex, .int .u64 (B.last + 1)]) ∧ BkTo w0 w w' b v1 v2 (grantB B x) :=
  (bgrant1_any x w h hl ht hM hS hx hH).mono fun _ _ ⟨h1, h2⟩ => ⟨h1, h2.to⟩
end Go.Proofs.YtmgpnpmdmelnkaaGreatDoor
