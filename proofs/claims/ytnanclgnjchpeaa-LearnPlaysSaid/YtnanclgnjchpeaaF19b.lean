import Derived.Test.YtnanclgnjchpeaaF19
import Derived.Test.YtnanclgnjchpeaaF16v
import Derived.Test.YtnanclgnjchpeaaF16r
import Derived.Test.YtnanclgnjchpeaaF16s
import Derived.Test.YtnanclgnjchpeaaC35
import Derived.WalkKit
import Derived.ProofKit
import Derived.LoopTactic
import Derived.Outline
import Derived.WalkSpells
import Derived.WalkLawsBesides
import Derived.Lib.Hide
import Derived.Deep.LoopGhost
import Derived.Deep.QuietTactic
import Derived.BigQuiet
import Derived.ShutString
import Derived.IntWalk
import Derived.BigQuiet
import Derived.Laws.OwnMore
import Derived.Deep.MidRow
namespace Go.Proofs.Ytnanclgnjchpeaa
open Go.ChangeShapes Go.WideShapes Go.ChangeAt Go.RowKit
open Bal
set_option linter.unusedVariables false
set_option linter.unusedSimpArgs false
/-- What a learner is. -/
structure Ln where
  ba : Int
  dn : Int
  L : List E
def Ln.cells (a : Ln) (v : Value) : Array Value := #[.int .i64 a.ba, .int .i64 a.dn, v]
structure LnIs (w0 w : World) (b : Nat) (v : Value) (a : Ln) : Prop where
  base : w0.heap.size ≤ b
  grown : Gr w0 w
  blk : Blk w b (a.cells v) 114
  row : w.ownsRow w0.heap.size 44 4 v a.L.length (rcells encE a.L)
theorem LnIs.gr {w0 w w' : World} {b : Nat} {v : Value} {a : Ln} (h : LnIs w0 w b v a) (hg : Gr w w') : LnIs w0 w' b v a :=
  ⟨h.base, h.grown.trans hg, h.blk.gr hg, ownsRow_gr hg h.row⟩
theorem LnIs.lt {w0 w : World} {b : Nat} {v : Value} {a : Ln} (h : LnIs w0 w b v a) : b < w.heap.size := h.blk.lt
theorem LnIs.off {w0 w : World} {b : Nat} {v : Value} {a : Ln} (h : LnIs w0 w b v a) : v.ownBlock ≠ some b := row_off h.blk h.row (by decide)
/-- A step of a learner: none but its own block and its own row turn. -/
def LnTo (w0 w w' : World) (b : Nat) (v : Value) (a : Ln) : Prop := ∃ v', LnIs w0 w' b v' a ∧ Far b v w w' ∧ From v w v'
theorem LnTo.gr {w0 w w1 w2 : World} {b : Nat} {v : Value} {a : Ln} (h : LnTo w0 w w1 b v a) (hg : Gr w1 w2) : LnTo w0 w w2 b v a := by
  obtain ⟨v', h1, h2, h3⟩ := h
  exact ⟨v', h1.gr hg, h2.trans h3 (Far.of_gr hg), h3⟩
theorem LnTo.same {w0 w w' : World} {b : Nat} {v : Value} {a : Ln} (h : LnIs w0 w b v a) (hg : Gr w w') : LnTo w0 w w' b v a := ⟨v, h.gr hg, Far.of_gr hg, From.refl _ _⟩
theorem ln_to {w0 w w' : World} {b n : Nat} {v v' : Value} {xs : List Value} {a' : Ln} (hb : w0.heap.size ≤ b) (hg : Gr w0 w) (ho : w.ownsRow w0.heap.size 44 4 v n xs) (h1 : Blk w' b (a'.cells v') 114) (h2 : w'.ownsRow w0.heap.size 44 4 v' a'.L.length (rcells encE a'.L)) (hf : Far b v w w') (hv : From v w v') : LnTo w0 w w' b v a' :=
  ⟨v', ⟨hb, hf.gr hg hb (fun k e => (ho.lt k e).1), h1, h2⟩, hf, hv⟩
section
variable {w0 : World} {b : Nat} {v : Value} {a : Ln}
theorem lnNew_any (x : Int) (w : World) : Calls Try.prog 14 #[.int .i64 x] w fun e w' => e = .returned (.pointer (some ⟨w.heap.size, 0, none⟩)) ∧ w' = w.alloc (.cells #[.int .i64 (max x 0), .int .i64 (max x 0), .slice none 0 0] 114) := by
  go_enter Try.func14, Try.ntmps14
  go_wp2
  go_ret
  exact ⟨rfl, rfl⟩
theorem lnDone_any (w : World) (h : LnIs w0 w b v a) : Calls Try.prog 28 #[.pointer (some ⟨b, 0, none⟩)] w fun e w' => e = .returned (.int .i64 a.dn) ∧ w' = w := by
  have a0 : w.cell? ⟨b, 1, none⟩ = some (.int .i64 a.dn) := h.blk.cell (i := 1) rfl
  go_enter Try.func28, Try.ntmps28
  go_wp2
  go_ret
  exact ⟨rfl, rfl⟩
theorem lnBase_any (w : World) (h : LnIs w0 w b v a) : Calls Try.prog 30 #[.pointer (some ⟨b, 0, none⟩)] w fun e w' => e = .returned (.int .i64 a.ba) ∧ w' = w := by
  have a0 : w.cell? ⟨b, 0, none⟩ = some (.int .i64 a.ba) := h.blk.cell (i := 0) rfl
  go_enter Try.func30, Try.ntmps30
  go_wp2
  go_ret
  exact ⟨rfl, rfl⟩
set_option maxRecDepth 100000 in
set_option maxHeartbeats 1000000 in
theorem lfind_any (x : Int) (w : World) (h : LnIs w0 w b v a) (hl : a.L.length ≤ 1000) (ha : Asc a.L) :
    Calls Try.prog 63 #[.pointer (some ⟨b, 0, none⟩), .int .i64 x] w fun e w' => ∃ (i : Nat) (fd : Bool), e = .returned (.tuple #[.int .i64 i, .bool fd]) ∧ i ≤ a.L.length ∧ Cut16 a.L x i i ∧ (fd = true ↔ ∃ h : i < a.L.length, a.L[i].slot = x) ∧ Gr w w' := by
  obtain ⟨ba, dn, L⟩ := a
  have a2 : w.cell? ⟨b, 2, none⟩ = some v := h.blk.cell (i := 2) rfl
  have HS := Lib.hid (lbsE_any x L w h.row hl ha)
  obtain ⟨va, c, rfl, _⟩ := ownsRow_slice h.row
  clear h
  go_enter Try.func63, Try.ntmps63
  go_wp2_with fail
  refine HS.out.mono ?_
  rintro e w1 ⟨i, fd, rfl, hi, hc, hf, hg⟩
  have HI := Lib.hid (And.intro hi (And.intro hc (And.intro hf hg)))
  clear hi hc hf hg
  go_wp2
  refine bodyPost_ret (v := .tuple #[.int .i64 (i : Nat), .bool fd]) (by simp [results, Try.results63, go_sem]; try rfl) rfl ?_
  exact ⟨i, fd, rfl, HI.out.1, HI.out.2.1, HI.out.2.2.1, HI.out.2.2.2⟩
set_option maxRecDepth 100000 in
set_option maxHeartbeats 1000000 in
theorem lcopied_any (e : E) (w : World) (ht : e.text.size ≤ 281474976710656) :
    Calls Try.prog 65 #[.agg #[.int .i64 e.slot, .int .u64 e.c, .int .i64 e.n, .string e.text]] w fun r w' => r = .returned (.agg #[.int .i64 e.slot, .int .u64 e.c, .int .i64 e.n, .string e.text]) ∧ Gr w w' := by
  obtain ⟨s, c, n, t⟩ := e
  have HC := Lib.hid (fun w => clone16 t w ht)
  have HG := Lib.hid (((Gr.refl w).alloc (.cells #[.int .i64 s, .int .u64 c, .int .i64 n, .string t] 44)).alloc (.cells #[.int .i64 0, .int .u64 0, .int .i64 0, .string ⟨#[]⟩] 44))
  have HA := Lib.hid ((Blk.new w #[.int .i64 s, .int .u64 c, .int .i64 n, .string t] 44).gr ((Gr.refl _).alloc (.cells #[.int .i64 0, .int .u64 0, .int .i64 0, .string ⟨#[]⟩] 44)))
  have HB := Lib.hid (Blk.new (w.alloc (.cells #[.int .i64 s, .int .u64 c, .int .i64 n, .string t] 44)) #[.int .i64 0, .int .u64 0, .int .i64 0, .string ⟨#[]⟩] 44)
  rw [show (w.alloc (.cells #[.int .i64 s, .int .u64 c, .int .i64 n, .string t] 44)).heap.size = w.heap.size + 1 by simp] at HB
  clear ht
  go_enter Try.func65, Try.ntmps65
  go_wp2_with fail
  generalize (w.alloc (.cells #[.int .i64 s, .int .u64 c, .int .i64 n, .string t] 44)).alloc (.cells #[.int .i64 0, .int .u64 0, .int .i64 0, .string ⟨#[]⟩] 44) = wa at *
  have q3 := HA.out.cell (i := 3) rfl
  go_wp2_with fail
  refine (HC.out _).mono ?_
  rintro e w1 ⟨rfl, hg1⟩
  have HA1 := Lib.hid (HA.out.gr hg1)
  have HB1 := Lib.hid (HB.out.gr hg1)
  have HG1 := Lib.hid (HG.out.trans hg1)
  clear HA HB HG hg1 q3
  have q3 := HA1.out.cell (i := 3) rfl
  have r3 := HA1.out.free 3
  have HA2 := Lib.hid (HA1.out.set 3 (.string t))
  have HB2 := Lib.hid (HB1.out.other (show w.heap.size + 1 ≠ w.heap.size by omega) 3 (.string t))
  have HG2 := Lib.hid (HG1.out.setCell (p := ⟨w.heap.size, 3, none⟩) (Nat.le_refl _) (.string t))
  replace HA2 := Lib.hid (show Blk _ _ #[.int .i64 s, .int .u64 c, .int .i64 n, .string t] _ from HA2.out)
  obtain ⟨ms, hms, hml, hT, hO, hgr, hBl⟩ := blk_put HB2.out #[.int .i64 s, .int .u64 c, .int .i64 n, .string t] rfl (by intro u hu; simp only [List.mem_cons, List.not_mem_nil, or_false] at hu; rcases hu with rfl | rfl | rfl | rfl <;> rfl)
  have HGF := Lib.hid (gr_put HG2.out hgr (by omega))
  have HMS := Lib.hid hms
  have HML := Lib.hid hml
  have HTT := Lib.hid hT
  have HOO := Lib.hid hO
  have g0 := HA2.out.cell (i := 0) rfl
  have g1 := HA2.out.cell (i := 1) rfl
  have g2 := HA2.out.cell (i := 2) rfl
  have g3 := HA2.out.cell (i := 3) rfl
  have z0 := hBl.cell (i := 0) rfl
  have z1 := hBl.cell (i := 1) rfl
  have z2 := hBl.cell (i := 2) rfl
  have z3 := hBl.cell (i := 3) rfl
  clear hms hml hT hO hgr hBl HG2 HA2 HB2 HA1 HB1
  go_wp2_with (first | (refine wpList_store_mid rfl 44 (.tmp 2) (.tmp 7) (by rfl) (w.heap.size + 1) 0 ms.toArray (by rfl) (by exact HMS.out) HTT.out (by rw [HML.out]; kernel_rfl) HOO.out ?_))
  refine bodyPost_ret (v := .agg #[.int .i64 s, .int .u64 c, .int .i64 n, .string t]) (by simp [results, Try.results65, go_sem, z0, z1, z2, z3]; try rfl) rfl ?_
  exact ⟨rfl, HGF.out⟩
theorem gr_off {w0 w w' : World} {b : Nat} {v : Value} {a : Ln} (h : LnIs w0 w b v a) : b < w.heap.size := h.lt
set_option maxRecDepth 100000 in
set_option maxHeartbeats 1000000 in
/-- Nothing is next. -/
theorem lnext_no (w : World) (h : LnIs w0 w b v a) (hl : a.L.length ≤ 1000) (ha : Asc a.L) (hd : 0 ≤ a.dn ∧ a.dn ≤ 1000000) (hh : hasE a.L (a.dn + 1) = false) :
    Calls Try.prog 19 #[.pointer (some ⟨b, 0, none⟩)] w fun e w' => e = .returned (.tuple #[.agg #[.int .i64 0, .int .u64 0, .int .i64 0, .string ⟨#[]⟩], .bool false]) ∧ Gr w w' := by
  have HZ := Lib.hid (Blk.new w #[.int .i64 0, .int .u64 0, .int .i64 0, .string ⟨#[]⟩] 44)
  have HG := Lib.hid ((Gr.refl w).alloc (.cells #[.int .i64 0, .int .u64 0, .int .i64 0, .string ⟨#[]⟩] 44))
  have HI := Lib.hid (h.gr HG.out)
  have HASC := Lib.hid ha
  have HH := Lib.hid hh
  have HLT := Lib.hid h.lt
  obtain ⟨ba, dn, L⟩ := a
  replace HI : Hid (LnIs w0 _ b v ⟨ba, dn, L⟩) := HI
  have e1 : IntKind.i64.wrap (dn + 1) = dn + 1 := by simp only at hd; rw [IntKind.wrap_i64]; omega
  clear h ha hh hd
  simp only at hl
  have a1 : (w.alloc (.cells #[.int .i64 0, .int .u64 0, .int .i64 0, .string ⟨#[]⟩] 44)).cell? ⟨b, 1, none⟩ = some (.int .i64 dn) := HI.out.blk.cell (i := 1) rfl
  go_enter Try.func19, Try.ntmps19
  go_wp2_with fail
  generalize w.alloc (.cells #[.int .i64 0, .int .u64 0, .int .i64 0, .string ⟨#[]⟩] 44) = wa at *
  refine (lfind_any (dn + 1) _ HI.out hl HASC.out).mono ?_
  rintro e w1 ⟨i, fd, rfl, hi, hcut, hfd, hg1⟩
  have hfd2 : fd = false := by
    cases fd
    · rfl
    · have := (has_cut HASC.out hcut).2 (hfd.1 rfl)
      rw [HH.out] at this
      exact absurd this (by simp)
  subst hfd2
  clear hi hcut hfd
  have HZ1 := Lib.hid (HZ.out.gr hg1)
  have HG1 := Lib.hid (HG.out.trans hg1)
  clear hg1 HZ HG a1
  obtain ⟨ms, hms, hml, hT, hO, hgr, hBl⟩ := blk_put HZ1.out #[.int .i64 0, .int .u64 0, .int .i64 0, .string ⟨#[]⟩] rfl (by intro u hu; simp only [List.mem_cons, List.not_mem_nil, or_false] at hu; rcases hu with rfl | rfl | rfl | rfl <;> rfl)
  have HGF := Lib.hid (gr_put HG1.out hgr (by omega))
  have HMS := Lib.hid hms
  have HML := Lib.hid hml
  have HTT := Lib.hid hT
  have HOO := Lib.hid hO
  have z0 := hBl.cell (i := 0) rfl
  have z1 := hBl.cell (i := 1) rfl
  have z2 := hBl.cell (i := 2) rfl
  have z3 := hBl.cell (i := 3) rfl
  clear hms hml hT hO hgr hBl
  go_wp2_with (first | (refine wpList_store_mid rfl 44 (.tmp 2) (.tmp 18) (by rfl) (w.heap.size) 0 ms.toArray (by rfl) (by exact HMS.out) HTT.out (by rw [HML.out]; kernel_rfl) HOO.out ?_))
  refine bodyPost_ret (v := .tuple #[.agg #[.int .i64 0, .int .u64 0, .int .i64 0, .string ⟨#[]⟩], .bool false]) (by simp [results, Try.results19, go_sem, z0, z1, z2, z3]; try rfl) rfl ?_
  exact ⟨rfl, HGF.out⟩
set_option maxRecDepth 100000 in
set_option maxHeartbeats 1000000 in
theorem lnext_yes (w : World) (h : LnIs w0 w b v a) (hl : a.L.length ≤ 1000) (ha : Asc a.L) (hd : 0 ≤ a.dn ∧ a.dn ≤ 1000000) (hh : hasE a.L (a.dn + 1) = true) (ht : ∀ x ∈ a.L, x.text.size ≤ 281474976710656) :
    Calls Try.prog 19 #[.pointer (some ⟨b, 0, none⟩)] w fun e w' => e = .returned (.tuple #[.agg #[.int .i64 (oldE a.L (a.dn + 1)).slot, .int .u64 (oldE a.L (a.dn + 1)).c, .int .i64 (oldE a.L (a.dn + 1)).n, .string (oldE a.L (a.dn + 1)).text], .bool true]) ∧ LnTo w0 w w' b v { a with dn := a.dn + 1 } := by
  have HZ := Lib.hid (Blk.new w #[.int .i64 0, .int .u64 0, .int .i64 0, .string ⟨#[]⟩] 44)
  have HG := Lib.hid ((Gr.refl w).alloc (.cells #[.int .i64 0, .int .u64 0, .int .i64 0, .string ⟨#[]⟩] 44))
  have HI := Lib.hid (h.gr HG.out)
  have HH0 := Lib.hid h
  have HASC := Lib.hid ha
  have HH := Lib.hid hh
  have HT := Lib.hid ht
  have HLT := Lib.hid (show w.heap.size ≠ b from fun e => by have := h.lt; omega)
  have hlt2 := Lib.hid h.lt
  obtain ⟨ba, dn, L⟩ := a
  replace HI : Hid (LnIs w0 _ b v ⟨ba, dn, L⟩) := HI
  replace HH : Hid (hasE L (dn + 1) = true) := HH
  replace HT : Hid (∀ x ∈ L, x.text.size ≤ 281474976710656) := HT
  have HASC : Hid (Asc L) := HASC
  have e1 : IntKind.i64.wrap (dn + 1) = dn + 1 := by simp only at hd; rw [IntKind.wrap_i64]; omega
  clear h ha hh hd ht
  simp only at hl
  simp only
  obtain ⟨o, ho⟩ : ∃ o, o = oldE L (dn + 1) := ⟨_, rfl⟩
  rw [← ho]
  have HOLD := Lib.hid ho
  clear ho
  have a1 : (w.alloc (.cells #[.int .i64 0, .int .u64 0, .int .i64 0, .string ⟨#[]⟩] 44)).cell? ⟨b, 1, none⟩ = some (.int .i64 dn) := HI.out.blk.cell (i := 1) rfl
  go_enter Try.func19, Try.ntmps19
  go_wp2_with fail
  generalize w.alloc (.cells #[.int .i64 0, .int .u64 0, .int .i64 0, .string ⟨#[]⟩] 44) = wa at *
  refine (lfind_any (dn + 1) _ HI.out hl HASC.out).mono ?_
  rintro e w1 ⟨i, fd, rfl, hi, hcut, hfd, hg1⟩
  have hfd2 : fd = true := hfd.2 ((has_cut HASC.out hcut).1 HH.out)
  subst hfd2
  obtain ⟨hil, hsl⟩ := hfd.1 rfl
  have HIL := Lib.hid (show i < L.length from hil)
  have HIO := Lib.hid (show o = L[i]'(HIL.out) from HOLD.out.trans (old_in HASC.out hil hsl))
  clear hi hcut hfd hsl HOLD hil
  have HZ1 := Lib.hid (HZ.out.gr hg1)
  have HG1 := Lib.hid (HG.out.trans hg1)
  have HI1 := Lib.hid (HI.out.gr hg1)
  clear hg1 HZ HG a1 HI
  have b1 : w1.cell? ⟨b, 1, none⟩ = some (.int .i64 dn) := HI1.out.blk.cell (i := 1) rfl
  have f1 := HI1.out.blk.free 1
  have HBk := Lib.hid (show Blk (w1.setCell ⟨b, 1, none⟩ (.int .i64 (dn + 1))) b (Ln.cells ⟨ba, dn + 1, L⟩ v) 114 from HI1.out.blk.set 1 _)
  have HRk := Lib.hid (ownsRow_setCell_other (a := ⟨b, 1, none⟩) HI1.out.row HI1.out.off (.int .i64 (dn + 1)))
  have HZk := Lib.hid (HZ1.out.other HLT.out 1 (.int .i64 (dn + 1)))
  have HFk := Lib.hid ((Far.of_gr (b := b) (v := v) HG1.out).trans (From.refl v w) (Far.setCell b 1 v w1 (.int .i64 (dn + 1))))
  have b2 : (w1.setCell ⟨b, 1, none⟩ (.int .i64 (dn + 1))).cell? ⟨b, 2, none⟩ = some v := HBk.out.cell (i := 2) rfl
  obtain ⟨g, cap, hv, hc0, hc1, hc2, hc3⟩ := erow_at HRk.out i HIL.out
  subst hv
  have HIT := Lib.hid (show o.text.size ≤ 281474976710656 by rw [HIO.out]; exact HT.out _ (List.getElem_mem _))
  rw [← HIO.out] at hc0 hc1 hc2 hc3
  obtain ⟨s, c, n, t⟩ := o
  simp only at hc0 hc1 hc2 hc3
  have hli : (i : Int) < (L.length : Int) := by have := HIL.out; omega
  clear HI1 HZ1 HIL HIO HG1
  go_wp2_with fail
  generalize w1.setCell ⟨b, 1, none⟩ (.int .i64 (dn + 1)) = wk at *
  clear b1 f1
  refine (lcopied_any ⟨s, c, n, t⟩ _ HIT.out).mono ?_
  rintro e w2 ⟨rfl, hg2⟩
  have HB2 := Lib.hid (HBk.out.gr hg2)
  have HR2 := Lib.hid (ownsRow_gr hg2 HRk.out)
  have HZ2 := Lib.hid (HZk.out.gr hg2)
  have HF2 := Lib.hid (HFk.out.trans (From.refl _ w) (Far.of_gr hg2))
  clear hg2 HBk HRk HZk HFk b2 hc0 hc1 hc2 hc3
  obtain ⟨ms, hms, hml, hT, hO, hgr, hBl⟩ := blk_put HZ2.out #[.int .i64 s, .int .u64 c, .int .i64 n, .string t] rfl (by intro u hu; simp only [List.mem_cons, List.not_mem_nil, or_false] at hu; rcases hu with rfl | rfl | rfl | rfl <;> rfl)
  have HVZ := Lib.hid (show Value.ownBlock (.slice (some ⟨g, 0, none⟩) L.length cap) ≠ some w.heap.size from fun e => by have := (HH0.out.row.lt _ e).2; omega)
  have HFF := Lib.hid (HF2.out.grownV (v1 := .slice none 0 0) hgr (Nat.le_refl _))
  have HBF := Lib.hid (HB2.out.grownB hgr (fun e => HLT.out (Option.some.inj e)))
  have HRF := Lib.hid (HR2.out.kept hgr (.inr HVZ.out))
  have HMS := Lib.hid hms
  have HML := Lib.hid hml
  have HTT := Lib.hid hT
  have HOO := Lib.hid hO
  have z0 := hBl.cell (i := 0) rfl
  have z1 := hBl.cell (i := 1) rfl
  have z2 := hBl.cell (i := 2) rfl
  have z3 := hBl.cell (i := 3) rfl
  clear hms hml hT hO hgr hBl
  go_wp2_with (first | (refine wpList_store_mid rfl 44 (.tmp 2) (.tmp 33) (by rfl) (w.heap.size) 0 ms.toArray (by rfl) (by exact HMS.out) HTT.out (by rw [HML.out]; kernel_rfl) HOO.out ?_))
  refine bodyPost_ret (v := .tuple #[.agg #[.int .i64 s, .int .u64 c, .int .i64 n, .string t], .bool true]) (by simp [results, Try.results19, go_sem, z0, z1, z2, z3]; try rfl) rfl ?_
  exact ⟨rfl, ln_to HH0.out.base HH0.out.grown HH0.out.row HBF.out HRF.out HFF.out (From.refl _ _)⟩
end
end Go.Proofs.Ytnanclgnjchpeaa
