import Derived.Test.YtnanclgnjchpeaaL19d
import Derived.Test.YtnanclgnjchpeaaL19
import Derived.Test.YtnanclgnjchpeaaF19x
import Derived.Test.YtnanclgnjchpeaaC39
import Derived.Test.YtnanclgnjchpeaaC12
import Derived.WalkKit
import Derived.ProofKit
import Derived.LoopTactic
import Derived.Outline
import Derived.WalkSpells
import Derived.WalkLawsBesides
import Derived.Lib.Hide
import Derived.Deep.LoopGhost
import Derived.Deep.QuietTactic
import Derived.BigQuiet
import Derived.ShutString
import Derived.IntWalk
import Derived.BigQuiet
import Derived.Laws.OwnMore
import Derived.Deep.RegionWith
import Derived.Deep.RegionHeld3
import Derived.Deep.LoopGhost
import Derived.Deep.Cut
import Derived.Deep.CutRange
import Derived.Deep.CutBlock
namespace Go.Proofs.Ytnanclgnjchpeaa
open Go.ChangeShapes Go.WideShapes Go.ChangeAt Go.RowKit
open Bal
set_option linter.unusedVariables false
set_option linter.unusedSimpArgs false
theorem learn_dn (a : Ln) (x : Int) (t : ByteArray) : (a.learn x t).dn = a.dn := by
  unfold Ln.learn; split; rfl; split; rfl; split <;> rfl
theorem rlearn_len (s : Rs) (x : Int) (t : ByteArray) : (s.learn x t).M.length ≤ s.M.length + 1 := by
  unfold Rs.learn; split; omega; split; omega; split; omega; simp
theorem rfold_len (s : Rs) (x : Int) : (s.fold x).M.length ≤ s.M.length := by
  unfold Rs.fold; split; exact List.length_filter_le _ _; omega
theorem rinstall_len (s : Rs) (x : Int) : (s.install x).M.length ≤ s.M.length := by
  unfold Rs.install; split; exact List.length_filter_le _ _; omega
theorem rnext_M (s : Rs) : s.next.M = s.M := by unfold Rs.next; split <;> rfl
theorem fold_dn (a : Ln) (x : Int) : (a.fold x).dn = a.dn := by unfold Ln.fold; split <;> rfl
theorem install_dn (a : Ln) (x : Int) (h : a.dn ≤ 3000) (hx : x ≤ 3000) : (a.install x).dn ≤ 3000 := by unfold Ln.install; split; exact hx; exact h
theorem next_dn {a : Ln} {s : Rs} (hS : Same19 a s) (h : a.dn ≤ 3000) : a.next.dn ≤ 3000 := by
  unfold Ln.next
  split
  · rename_i hb
    unfold Ln.nextB at hb
    rw [← hS.has] at hb
    obtain ⟨e, he, hs⟩ := List.any_eq_true.1 hb
    have := of_decide_eq_true hs
    have := hS.top e he
    show a.dn + 1 ≤ 3000
    omega
  · exact h
theorem nextE_plain {a : Ln} {s : Rs} (hS : Same19 a s) : a.nextE.c = 0 ∧ a.nextE.n = 0 := by
  unfold Ln.nextE
  cases hh : hasE a.L (a.dn + 1)
  · rw [old_out hh]; exact ⟨rfl, rfl⟩
  · exact hS.plain _ (old_mem hh).1
theorem nextE_slot (a : Ln) : a.nextE.slot = if a.nextB then a.dn + 1 else 0 := by
  unfold Ln.nextE Ln.nextB
  cases hh : hasE a.L (a.dn + 1)
  · rw [old_out hh]; rfl
  · rw [if_pos rfl]; exact (old_mem hh).2
theorem nextE_size {a : Ln} {N : Nat} (h : a.Ok N) : a.nextE.text.size ≤ 281474976710656 := by
  unfold Ln.nextE
  cases hh : hasE a.L (a.dn + 1)
  · rw [old_out hh]; decide
  · exact h.txt _ (old_mem hh).1
set_option maxRecDepth 100000 in
set_option maxHeartbeats 8000000 in
theorem plays_walk19 (B0 F0 M0 : Int) (ps : List Act19) (pa : Option Addr) (pc : Nat) (w : World) (hr : Act19Row w pa ps) :
    Calls Try.prog 3 #[.agg #[.int .i64 B0, .slice pa ps.length pc, .int .i64 F0, .int .i64 M0]] w fun e w' => e = .returned (.bool true) ∧ Gr w w' := by
  have HRW := Lib.hid hr
  have HG1 := Lib.hid ((Gr.refl w).alloc (.cells #[.int .i64 B0, .slice pa ps.length pc, .int .i64 F0, .int .i64 M0] 24))
  have HP1 := Lib.hid (Blk.new w #[.int .i64 B0, .slice pa ps.length pc, .int .i64 F0, .int .i64 M0] 24)
  clear hr
  go_enter Try.func3, Try.ntmps3
  go_wp2_with fail
  generalize w.alloc (.cells #[.int .i64 B0, .slice pa ps.length pc, .int .i64 F0, .int .i64 M0] 24) = wa at *
  refine (awake19 _).mono ?_
  rintro e w2 ⟨rfl, hg2⟩
  have HG2 := Lib.hid (HG1.out.trans hg2)
  have HQ2 := Lib.hid (HP1.out.gr hg2)
  have HQD := Lib.hid (HQ2.out.gr (Gr.refl w2).drew)
  have HGD := Lib.hid (HG2.out.trans (Gr.refl w2).drew)
  have d0 := HQD.out.cell (i := 0) rfl
  have d1 := HQD.out.cell (i := 1) rfl
  have d2 := HQD.out.cell (i := 2) rfl
  have d3 := HQD.out.cell (i := 3) rfl
  have q0 := HQ2.out.cell (i := 0) rfl
  have q1 := HQ2.out.cell (i := 1) rfl
  have q2 := HQ2.out.cell (i := 2) rfl
  have q3 := HQ2.out.cell (i := 3) rfl
  have HG3 := Lib.hid (show Gr w2 (w2.alloc (.cells #[.int .i64 F0, .int .i64 M0] 26)).drew from ((Gr.refl w2).alloc _).drew)
  have HL := Lib.hid (show Blk (w2.alloc (.cells #[.int .i64 F0, .int .i64 M0] 26)).drew w2.heap.size #[.int .i64 F0, .int .i64 M0] 26 from (Blk.new w2 #[.int .i64 F0, .int .i64 M0] 26).gr (Gr.refl _).drew)
  clear hg2 HG1 HP1
  go_wp2_with fail
  refine wp_region_held_drew (S := (fun w9 => w9.cell? ⟨w.heap.size, 0, none⟩ = some (.int .i64 B0) ∧ w9.cell? ⟨w.heap.size, 1, none⟩ = some (.slice pa ps.length pc) ∧ w9.cell? ⟨w.heap.size, 2, none⟩ = some (.int .i64 F0) ∧ w9.cell? ⟨w.heap.size, 3, none⟩ = some (.int .i64 M0))) (by kernel_rfl) ?inva (fun h0 => ?_)
  case inva => ((try dsimp only); (exact ⟨d0, d1, d2, d3⟩))
  refine wpAnyH_take (i := 0) (oi := { dst := some 23, op := Go.Op.fieldAddr 24 (Go.Operand.tmp 1) 1, type := 0, pos := "law.go:63", after := #[], guard := none }) (v := ?va1) rfl (by kernel_rfl) (by kernel_rfl) (by kernel_rfl) (fun _ _ _ h => h) (Or.inl ⟨by rfl, ?ra1⟩) (by assumption) ?_
  case ra1 => (intro w hSw; (try dsimp only at hSw); (go_simp <;> with_reducible rfl))
  try simp only [Act.put, List.setIfInBounds_toArray, List.set_cons_zero, List.set_cons_succ]
  refine wpAnyH_take (i := 1) (oi := { dst := some 24, op := Go.Op.load 22 (Go.Operand.tmp 23), type := 22, pos := "law.go:63", after := #[{ on := 0, ground := Go.Ground.data }], guard := none }) (v := ?va2) rfl (by kernel_rfl) (by kernel_rfl) (by kernel_rfl) (fun _ _ _ h => h) (Or.inl ⟨by rfl, ?ra2⟩) (by assumption) ?_
  case ra2 => (intro w hSw; (try dsimp only at hSw); (go_simp <;> with_reducible rfl))
  try simp only [Act.put, List.setIfInBounds_toArray, List.set_cons_zero, List.set_cons_succ]
  refine wpAnyH_take (i := 2) (oi := { dst := some 25, op := Go.Op.fieldAddr 24 (Go.Operand.tmp 1) 2, type := 0, pos := "law.go:63", after := #[{ on := 8, ground := Go.Ground.gcOnly Go.Departure.lateStores }], guard := none }) (v := ?va3) rfl (by kernel_rfl) (by kernel_rfl) (by kernel_rfl) (fun _ _ _ h => h) (Or.inl ⟨by rfl, ?ra3⟩) (by assumption) ?_
  case ra3 => (intro w hSw; (try dsimp only at hSw); (go_simp <;> with_reducible rfl))
  try simp only [Act.put, List.setIfInBounds_toArray, List.set_cons_zero, List.set_cons_succ]
  refine wpAnyH_take (i := 3) (oi := { dst := some 26, op := Go.Op.load 3 (Go.Operand.tmp 25), type := 3, pos := "law.go:63", after := #[{ on := 2, ground := Go.Ground.data }, { on := 8, ground := Go.Ground.gcOnly Go.Departure.lateStores }], guard := none }) (v := ?va4) rfl (by kernel_rfl) (by kernel_rfl) (by kernel_rfl) (fun _ _ _ h => h) (Or.inl ⟨by rfl, ?ra4⟩) (by assumption) ?_
  case ra4 => (intro w hSw; (try dsimp only at hSw); (go_simp <;> with_reducible rfl))
  try simp only [Act.put, List.setIfInBounds_toArray, List.set_cons_zero, List.set_cons_succ]
  refine wpAnyH_take (i := 4) (oi := { dst := some 27, op := Go.Op.fieldAddr 24 (Go.Operand.tmp 1) 3, type := 0, pos := "law.go:63", after := #[{ on := 8, ground := Go.Ground.gcOnly Go.Departure.lateStores }], guard := none }) (v := ?va5) rfl (by kernel_rfl) (by kernel_rfl) (by kernel_rfl) (fun _ _ _ h => h) (Or.inl ⟨by rfl, ?ra5⟩) (by assumption) ?_
  case ra5 => (intro w hSw; (try dsimp only at hSw); (go_simp <;> with_reducible rfl))
  try simp only [Act.put, List.setIfInBounds_toArray, List.set_cons_zero, List.set_cons_succ]
  refine wpAnyH_take (i := 5) (oi := { dst := some 28, op := Go.Op.load 3 (Go.Operand.tmp 27), type := 3, pos := "law.go:63", after := #[{ on := 4, ground := Go.Ground.data }, { on := 8, ground := Go.Ground.gcOnly Go.Departure.lateStores }], guard := none }) (v := ?va6) rfl (by kernel_rfl) (by kernel_rfl) (by kernel_rfl) (fun _ _ _ h => h) (Or.inl ⟨by rfl, ?ra6⟩) (by assumption) ?_
  case ra6 => (intro w hSw; (try dsimp only at hSw); (go_simp <;> with_reducible rfl))
  try simp only [Act.put, List.setIfInBounds_toArray, List.set_cons_zero, List.set_cons_succ]
  refine wpAnyH_take (i := 6) (oi := { dst := some 29, op := Go.Op.build 26 #[(0, Go.Operand.tmp 26), (1, Go.Operand.tmp 28)], type := 26, pos := "law.go:63", after := #[{ on := 3, ground := Go.Ground.data }, { on := 5, ground := Go.Ground.data }, { on := 8, ground := Go.Ground.gcOnly Go.Departure.lateStores }], guard := none }) (v := ?va7) rfl (by kernel_rfl) (by kernel_rfl) (by kernel_rfl) (fun _ _ _ h => h) (Or.inl ⟨by rfl, ?ra7⟩) (by assumption) ?_
  case ra7 => (intro w hSw; (try dsimp only at hSw); (go_simp <;> with_reducible rfl))
  try simp only [Act.put, List.setIfInBounds_toArray, List.set_cons_zero, List.set_cons_succ]
  refine wpAnyH_ready (rs := [7]) (by kernel_rfl) (by simp) ?_
  refine AllReadyH.cons (o := { dst := some 4, op := Go.Op.alloc 26, type := 0, pos := "law.go:63", after := #[], guard := none }) rfl (fun K hK => ?_) AllReadyH.nil
  go_simp
  skip
  first | refine hK.out _ _ ?sa8 (fun h8 => ?_) | (go_wp2_with fail; refine hK.out _ _ ?sa8 (fun h8 => ?_))
  case sa8 => ((try dsimp only); (exact ⟨((Gr.refl w2).alloc _).drew.cell q0, ((Gr.refl w2).alloc _).drew.cell q1, ((Gr.refl w2).alloc _).drew.cell q2, ((Gr.refl w2).alloc _).drew.cell q3⟩))
  clear hK K h0
  try simp only [Act.put, List.setIfInBounds_toArray, List.set_cons_zero, List.set_cons_succ]
  refine wpAnyH_take (i := 8) (oi := { dst := some 3, op := Go.Op.assign (Go.Operand.tmp 24), type := 22, pos := "law.go:63", after := #[{ on := 1, ground := Go.Ground.data }, { on := 0, ground := Go.Ground.phase }, { on := 1, ground := Go.Ground.phase }, { on := 2, ground := Go.Ground.textOnly Go.Departure.lateStores }, { on := 3, ground := Go.Ground.textOnly Go.Departure.lateStores }, { on := 4, ground := Go.Ground.textOnly Go.Departure.lateStores }, { on := 5, ground := Go.Ground.textOnly Go.Departure.lateStores }, { on := 6, ground := Go.Ground.textOnly Go.Departure.lateStores }, { on := 7, ground := Go.Ground.phase }], guard := none }) (v := ?va9) rfl (by kernel_rfl) (by kernel_rfl) (by kernel_rfl) (fun _ _ _ h => h) (Or.inl ⟨by rfl, ?ra9⟩) (by assumption) ?_
  case ra9 => (intro w hSw; (try dsimp only at hSw); (go_simp <;> with_reducible rfl))
  try simp only [Act.put, List.setIfInBounds_toArray, List.set_cons_zero, List.set_cons_succ]
  refine wpAnyH_ready (rs := [9]) (by kernel_rfl) (by simp) ?_
  refine AllReadyH.cons (o := { dst := none, op := Go.Op.store 26 (Go.Operand.tmp 4) (Go.Operand.tmp 29), type := 0, pos := "law.go:63", after := #[{ on := 7, ground := Go.Ground.data }, { on := 6, ground := Go.Ground.data }, { on := 8, ground := Go.Ground.chain }, { on := 0, ground := Go.Ground.phase }, { on := 1, ground := Go.Ground.phase }, { on := 2, ground := Go.Ground.phase }, { on := 3, ground := Go.Ground.phase }, { on := 4, ground := Go.Ground.phase }, { on := 5, ground := Go.Ground.phase }, { on := 6, ground := Go.Ground.phase }, { on := 7, ground := Go.Ground.phase }, { on := 8, ground := Go.Ground.phase }], guard := none }) rfl (fun K hK => ?_) AllReadyH.nil
  go_simp
  have x0 := (Blk.new w2 #[.int .i64 0, .int .i64 0] 26).cell (i := 0) rfl
  have x1 := (Blk.new w2 #[.int .i64 0, .int .i64 0] 26).cell (i := 1) rfl
  have y0 := (Blk.new w2 #[.int .i64 0, .int .i64 0] 26).free 0
  have y1 := (Blk.new w2 #[.int .i64 0, .int .i64 0] 26).free 1
  first | refine hK.out _ _ ?sa10 (fun h10 => ?_) | (go_wp2_with fail; refine hK.out _ _ ?sa10 (fun h10 => ?_))
  case sa10 => ((try dsimp only); (exact ⟨HG3.out.cell q0, HG3.out.cell q1, HG3.out.cell q2, HG3.out.cell q3⟩))
  clear hK K h8
  try simp only [Act.put, List.setIfInBounds_toArray, List.set_cons_zero, List.set_cons_succ]
  refine wpAnyH_done (by kernel_rfl) ?_ _
  clear h10 d0 d1 d2 d3 q0 q1 q2 q3 x0 x1 y0 y1
  have HQ3 := Lib.hid (HQ2.out.gr HG3.out)
  have HG4 := Lib.hid (HG2.out.trans HG3.out)
  clear HQ2 HG2 HG3 HQD HGD
  go_upto_region 4 with fail
  generalize (w2.alloc (.cells #[.int .i64 F0, .int .i64 M0] 26)).drew = w3 at *
  generalize w2.heap.size = pl at *
  have b0 := HQ3.out.cell (i := 0) rfl
  obtain ⟨B, hB⟩ : ∃ B, max (-3) (min B0 1000) = B := ⟨_, rfl⟩
  have hB0 : -3 ≤ B ∧ B ≤ 1000 := by omega
  obtain ⟨C, hC⟩ : ∃ C, max B 0 = C := ⟨_, rfl⟩
  obtain ⟨X, hX⟩ : ∃ X, max 0 (min F0 1200) = X := ⟨_, rfl⟩
  have hC0 : 0 ≤ C ∧ C ≤ 1000 := by omega
  go_wp2_with fail
  refine (lnNew_st B _).mono ?_
  rintro e w5 ⟨rfl, hA5, hg5⟩
  rw [hC] at hA5
  have HA5 := Lib.hid (show LnIs w w5 w3.heap.size (.slice none 0 0) ⟨C, C, []⟩ from ⟨Nat.le_trans HG4.out.size hA5.base, HG4.out.trans hA5.grown, hA5.blk, World.ownsRow_nil _ _ _ _⟩)
  have HL5 := Lib.hid (HL.out.gr hg5)
  have HGA := Lib.hid ((Gr.refl w5).alloc (.cells #[.int .i64 C, .int .i64 C, .slice none 0 0] 31))
  have HA6 := Lib.hid (HA5.out.gr HGA.out)
  have HL6 := Lib.hid (HL5.out.gr HGA.out)
  have HS6 := Lib.hid (Blk.new w5 #[.int .i64 C, .int .i64 C, .slice none 0 0] 31)
  have HN6 := Lib.hid (show w.heap.size ≤ w5.heap.size from HA5.out.grown.size)
  have l0 := HL6.out.cell (i := 0) rfl
  clear hA5 hg5 HA5 HL5 HL HGA
  go_wp2
  generalize w5.alloc (.cells #[.int .i64 C, .int .i64 C, .slice none 0 0] 31) = w6 at *
  generalize w5.heap.size = p7 at *
  generalize w3.heap.size = pb at *
  have HCC := Lib.hid hC0
  go_loopg [9] 50 (fun g u9 wr => ∃ (j : Nat) (v : Value) (a : Ln) (s : Rs) (lv : Value), g + j = 50 ∧ u9 = .int .i64 (j : Nat) ∧ Hid (LnIs w wr pb v a) ∧ Hid (a.Ok j) ∧ Hid (a.dn ≤ 3000) ∧ Hid (Same19 a s) ∧ Hid (s.M.length ≤ j) ∧ Hid (RRow wr lv s.M) ∧ Hid (Blk wr p7 #[.int .i64 s.ba, .int .i64 s.dn, lv] 31) ∧ Hid (Blk wr pl #[.int .i64 F0, .int .i64 M0] 26))
  case atStart => exact ⟨0, .slice none 0 0, ⟨C, C, []⟩, ⟨C, C, []⟩, .slice none 0 0, by omega, rfl, HA6, Lib.hid (Ln.ok0 HCC.out.1 (by have := HCC.out.2; omega)), Lib.hid (by show C ≤ 3000; have := HCC.out.2; omega), Lib.hid (same0 C), Lib.hid (Nat.le_refl _), Lib.hid (World.ownsRow_nil _ _ _ _), HS6, HL6⟩
  case round =>
    clear HA6 HS6 HL6 HQ3 HG4 b0 l0
    obtain ⟨j, v, a, ⟨sb, sd, sM⟩, lv, hgj, rfl, HA, HOK, HD3, HSA, HML, HRR, H7, HQL⟩ := hrel
    replace HML : Hid (sM.length ≤ j) := HML
    replace HRR : Hid (RRow _ lv sM) := HRR
    replace H7 : Hid (Blk _ p7 #[.int .i64 sb, .int .i64 sd, lv] 31) := H7
    obtain ⟨wq, hwq⟩ : ∃ wq, wq = wr := ⟨wr, rfl⟩
    rw [← hwq] at HA HRR H7 HQL ⊢
    clear hwq wr
    obtain ⟨la, lc, hlv, _⟩ := ownsRow_slice HRR.out
    subst hlv
    by_cases hlt : j < ps.length
    · have hj4 : (j : Int) < (ps.length : Int) := by omega
      by_cases hj5 : j < 50
      · have hj6 : (j : Int) < 50 := by omega
        obtain ⟨rb, off, rfl, hrl, hat, hok⟩ := HRW.out.at j hlt
        obtain ⟨c0, c1, c2⟩ := hat.gr HA.out.grown
        have hts := hok.2.2
        clear hat hok
        generalize ps[j] = y at *
        obtain ⟨K, S, T⟩ := y
        simp only at c0 c1 c2 hts
        obtain ⟨S1, hS1⟩ : ∃ S1, max 0 (min S 3000) = S1 := ⟨_, rfl⟩
        have hSb : 0 ≤ S1 ∧ S1 ≤ 3000 := by omega
        have HCT := Lib.hid (fun wz => cut_any T 20 wz hts (by decide))
        have HTS := Lib.hid (cutB_le T 20)
        generalize cutB T 20 = T1 at *
        go_wp2_with fail
        refine (HCT.out _).mono ?_
        rintro e wx ⟨rfl, rfl⟩
        go_wp2_with fail
        have HAa := Lib.hid (HA.out.gr ((Gr.refl wq).alloc (.cells #[.int .i64 K, .int .i64 S1, .string T1] 33)))
        have H10 := Lib.hid (Blk.new wq #[.int .i64 K, .int .i64 S1, .string T1] 33)
        refine (lclone_any _ HAa.out (by have := HOK.out.len; omega)).mono ?_
        rintro e w5 ⟨b2, v2, rfl, hcl, hg5⟩
        have HG5 := Lib.hid (((Gr.refl wq).alloc (.cells #[.int .i64 K, .int .i64 S1, .string T1] 33)).trans hg5)
        have HG6 := Lib.hid (HG5.out.trans ((Gr.refl w5).alloc (.cells #[.int .i64 sb, .int .i64 sd, (.slice la sM.length lc)] 31)))
        have HPS := Lib.hid (show PS19 w (w5.alloc (.cells #[.int .i64 sb, .int .i64 sd, (.slice la sM.length lc)] 31)) pb b2 p7 wq.heap.size w5.heap.size pl v v2 a a ⟨sb, sd, sM⟩ ⟨sb, sd, sM⟩ (.slice la sM.length lc) (.slice la sM.length lc) K S1 T1 F0 M0 from by
          have hsz : wq.heap.size < (wq.alloc (.cells #[.int .i64 K, .int .i64 S1, .string T1] 33)).heap.size := H10.out.lt
          have hb2 := hcl.base
          have hpb := HA.out.lt
          have h7 := H7.out.lt
          have h5 := HG5.out.size
          have hw := HA.out.grown.size
          exact ⟨HA.out.gr HG6.out, (show LnIs w w5 b2 v2 a from ⟨by omega, HA.out.grown.trans HG5.out, hcl.blk, row_weak hcl.row (by omega)⟩).gr ((Gr.refl _).alloc _), by omega, fun e => by have := (HA.out.row.lt _ e).2; omega, fun k e1 e2 => by have h1 := (hcl.row.lt _ e1).1; have h2 := (HA.out.row.lt _ e2).2; omega, H7.out.gr HG6.out, (H10.out.gr hg5).gr ((Gr.refl _).alloc _), Blk.new w5 _ _, by omega, by omega, HN6.out, HQL.out.gr HG6.out, ownsRow_gr HG6.out HRR.out, ownsRow_gr HG6.out HRR.out⟩)
        have s0 := (H7.out.gr HG5.out).cell (i := 0) rfl
        have s1 := (H7.out.gr HG5.out).cell (i := 1) rfl
        have s2 := (H7.out.gr HG5.out).cell (i := 2) rfl
        have k10 := HPS.out.c10.cell (i := 0) rfl
        clear hcl hg5 HA HRR H7 HQL HAa H10 HG6 HG5 c0 c1 c2
        go_upto_block 2 with fail
        generalize w5.alloc (.cells #[.int .i64 sb, .int .i64 sd, (.slice la sM.length lc)] 31) = w6 at *
        generalize w5.heap.size = p12 at *
        clear s0 s1 s2 k10
        go_cut [13, 14, 15, 16, 17, 18, 19, 20] from 75 to 185 (fun u13 u14 u15 u16 u17 u18 u19 u20 wx => u13 = .bool true ∧ Hid (∃ v1 a1 s1 l1, PS19 w wx pb b2 p7 wq.heap.size p12 pl v1 v2 a1 a ⟨sb, sd, sM⟩ s1 (.slice la sM.length lc) l1 K S1 T1 F0 M0 ∧ a1.Ok (j + 1) ∧ a1.dn ≤ 3000 ∧ Same19 a1 s1 ∧ s1.M.length ≤ j + 1))
        case first =>
          by_cases k0 : K = 0
          · subst k0
            obtain ⟨hRR, hSS⟩ := HSA.out.learn S1 T1 hSb.2
            have hsl := rlearn_len ⟨sb, sd, sM⟩ S1 T1
            have HD1 := Lib.hid (show (a.learn S1 T1).dn ≤ 3000 by rw [learn_dn]; exact HD3.out)
            have HO1 := Lib.hid (HOK.out.learn S1 (text := T1) (by have := HTS.out; omega))
            have HC := Lib.hid (fun (wz : World) (vz : Value) (h : LnIs w wz pb vz a) => learn_st S1 T1 wz h HOK.out (by omega) ⟨hSb.1, by omega⟩ (by have := HTS.out; omega))
            have HR := Lib.hid (fun wz (h : RRow wz (.slice la sM.length lc) sM) => refLearn_st sb sd S1 T1 (.slice la sM.length lc) sM wz h (by have := HML.out; omega) ⟨by have h1 : sd = a.dn := HSA.out.dn; have := HOK.out.b0; have := HOK.out.bd; omega, by have h1 : sd = a.dn := HSA.out.dn; have := HD3.out; omega⟩)
            rw [hRR] at HR
            have HS1 := Lib.hid hSS
            have HL1 := Lib.hid (show (Rs.learn ⟨sb, sd, sM⟩ S1 T1).M.length ≤ j + 1 by have h1 : sM.length ≤ j := HML.out; have h2 : (Rs.learn ⟨sb, sd, sM⟩ S1 T1).M.length ≤ sM.length + 1 := hsl; omega)
            clear hRR hSS hsl
            generalize Rs.learn ⟨sb, sd, sM⟩ S1 T1 = s1 at *
            generalize a.learn S1 T1 = a1 at *
            generalize a.learnR S1 T1 = LR at *
            obtain ⟨b1, d1, M1⟩ := s1
            replace HL1 : Hid (M1.length ≤ j + 1) := HL1
            have e7 := HPS.out.c7.cell (i := 0) rfl
            have e8 := HPS.out.c7.cell (i := 1) rfl
            have e9 := HPS.out.c7.cell (i := 2) rfl
            have a1' := HPS.out.c10.cell (i := 1) rfl
            have a2' := HPS.out.c10.cell (i := 2) rfl
            go_wp2_with fail
            refine (HR.out _ HPS.out.r).mono ?_
            rintro e w7 ⟨l1, rfl, hr7, hg7⟩
            obtain ⟨la1, lc1, hl1, _⟩ := ownsRow_slice hr7
            subst hl1
            have HR7 := Lib.hid (show RRow w7 (.slice la1 M1.length lc1) M1 from hr7)
            have HPS7 := Lib.hid (HPS.out.gr hg7)
            have HPS8 := Lib.hid (HPS7.out.put12 ⟨b1, d1, M1⟩ (.slice la1 M1.length lc1) HR7.out)
            clear hr7 hg7 e7 e8 e9 a1' a2' HR
            simp only [Rs.val]
            have z0 := HPS7.out.c12.cell (i := 0) rfl
            have z1 := HPS7.out.c12.cell (i := 1) rfl
            have z2 := HPS7.out.c12.cell (i := 2) rfl
            have f0 := HPS7.out.c12.free 0
            have f1 := HPS7.out.c12.free 1
            have f2 := HPS7.out.c12.free 2
            have g1 := HPS8.out.c10.cell (i := 1) rfl
            have g2 := HPS8.out.c10.cell (i := 2) rfl
            go_wp2_with fail
            generalize ((w7.setCell ⟨p12, 0, none⟩ (.int .i64 b1)).setCell ⟨p12, 1, none⟩ (.int .i64 d1)).setCell ⟨p12, 2, none⟩ (.slice la1 M1.length lc1) = w8 at *
            refine (HC.out _ _ HPS8.out.l).mono ?_
            rintro e w9 ⟨rfl, ht9⟩
            obtain ⟨v9, hps9⟩ := HPS8.out.far ht9
            have HPS9 := Lib.hid hps9
            clear ht9 hps9 z0 z1 z2 f0 f1 f2 g1 g2
            go_wp2
            go_meet
            exact ⟨by simp, Lib.hid ⟨v9, a1, ⟨b1, d1, M1⟩, (.slice la1 M1.length lc1), HPS9.out, HO1.out, HD1.out, HS1.out, HL1.out⟩⟩
          · have k0' : (K == 0) = false := beq_eq_false_iff_ne.2 k0
            by_cases k1 : K = 1
            · subst k1
              obtain ⟨hh, ht, hSS⟩ := HSA.out.next
              have HD1 := Lib.hid (next_dn HSA.out HD3.out)
              have HO1 := Lib.hid ((HOK.out.next (by have := HD3.out; omega)).mono (Nat.le_succ j))
              have HC := Lib.hid (fun (wz : World) (vz : Value) (h : LnIs w wz pb vz a) => next_st wz h HOK.out (by omega))
              have HR := Lib.hid (fun wz (h : RRow wz (.slice la sM.length lc) sM) => refNext_any sb sd (.slice la sM.length lc) sM wz h (by have := HML.out; omega) ⟨by have h1 : sd = a.dn := HSA.out.dn; have := HOK.out.b0; have := HOK.out.bd; omega, by have h1 : sd = a.dn := HSA.out.dn; have := HD3.out; omega⟩)
              replace hh : hasM sM (sd + 1) = a.nextB := hh
              replace ht : txtM sM (sd + 1) = a.nextE.text := ht
              rw [hh, ht] at HR
              obtain ⟨hnc, hnn⟩ := nextE_plain HSA.out
              have hns := nextE_slot a
              have hsd : sd = a.dn := HSA.out.dn
              have hnx : (Rs.next ⟨sb, sd, sM⟩).dn = if a.nextB then a.dn + 1 else a.dn := by
                have h1 := hSS.dn
                rw [h1]
                unfold Ln.next
                split <;> rfl
              rw [hnc, hnn] at HC
              have HS1 := Lib.hid hSS
              have HL1 := Lib.hid (show (Rs.next ⟨sb, sd, sM⟩).M.length ≤ j + 1 by rw [rnext_M]; have h1 : sM.length ≤ j := HML.out; exact Nat.le_succ_of_le h1)
              clear hh ht hSS hnc hnn
              generalize Rs.next ⟨sb, sd, sM⟩ = s1 at *
              generalize a.next = a1 at *
              obtain ⟨b1, d1, M1⟩ := s1
              replace HL1 : Hid (M1.length ≤ j + 1) := HL1
              replace hnx : d1 = if a.nextB then a.dn + 1 else a.dn := hnx
              have HNX := Lib.hid hnx
              have HNS := Lib.hid hns
              have hdz : Hid (0 ≤ a.dn) := Lib.hid (by have := HOK.out.b0; have := HOK.out.bd; omega)
              clear hnx hns hsd
              generalize a.nextE.text = tx at *
              generalize a.nextE.slot = ns at *
              generalize a.nextB = nb at *
              go_wp2_with fail
              refine (HC.out _ _ HPS.out.l).mono ?_
              rintro e w7 ⟨rfl, ht7⟩
              obtain ⟨v7, hps7⟩ := HPS.out.far ht7
              have HGB := Lib.hid ((Gr.refl w7).alloc (.cells #[.int .i64 ns, .int .u64 0, .int .i64 0, .string tx] 44))
              have HPS8 := Lib.hid (hps7.gr HGB.out)
              have HBX := Lib.hid (Blk.new w7 #[.int .i64 ns, .int .u64 0, .int .i64 0, .string tx] 44)
              have HBY := Lib.hid (show w7.heap.size ≠ p12 by have := hps7.c12.lt; omega)
              have e7 := HPS8.out.c7.cell (i := 0) rfl
              have e8 := HPS8.out.c7.cell (i := 1) rfl
              have e9 := HPS8.out.c7.cell (i := 2) rfl
              clear ht7 hps7 HC HGB
              go_wp2_with fail
              generalize w7.alloc (.cells #[.int .i64 ns, .int .u64 0, .int .i64 0, .string tx] 44) = w8 at *
              generalize w7.heap.size = px at *
              refine (HR.out _ HPS8.out.r).mono ?_
              rintro e w9 ⟨l1, rfl, hr9, hg9⟩
              obtain ⟨la1, lc1, hl1, _⟩ := ownsRow_slice hr9
              subst hl1
              have HR9 := Lib.hid (show RRow w9 (.slice la1 M1.length lc1) M1 from hr9)
              have HPS9 := Lib.hid (HPS8.out.gr hg9)
              have HBX9 := Lib.hid (HBX.out.gr hg9)
              have HPSA := Lib.hid (HPS9.out.put12 ⟨b1, d1, M1⟩ (.slice la1 M1.length lc1) HR9.out)
              have HBXA := Lib.hid (PS19.setCells (x0 := .int .i64 b1) (x1 := .int .i64 d1) (x2 := (.slice la1 M1.length lc1)) HBX9.out HBY.out)
              clear hr9 hg9 e7 e8 e9 HR
              simp only [Rs.val]
              have z0 := HPS9.out.c12.cell (i := 0) rfl
              have z1 := HPS9.out.c12.cell (i := 1) rfl
              have z2 := HPS9.out.c12.cell (i := 2) rfl
              have f0 := HPS9.out.c12.free 0
              have f1 := HPS9.out.c12.free 1
              have f2 := HPS9.out.c12.free 2
              go_upto_region 27 with fail
              generalize ((w9.setCell ⟨p12, 0, none⟩ (.int .i64 b1)).setCell ⟨p12, 1, none⟩ (.int .i64 d1)).setCell ⟨p12, 2, none⟩ (.slice la1 M1.length lc1) = wA at *
              clear z0 z1 z2 f0 f1 f2
              have x0 := HBXA.out.cell (i := 0) rfl
              have x1 := HBXA.out.cell (i := 1) rfl
              have x2 := HBXA.out.cell (i := 2) rfl
              have x3 := HBXA.out.cell (i := 3) rfl
              have y1 := HPSA.out.c12.cell (i := 1) rfl
              have htt : (tx.toList == tx.toList) = true := by simp
              cases nb
              · have hns2 : ns = 0 := HNS.out
                subst hns2
                have hge : Hid (0 ≤ d1) := Lib.hid (by have h2 : d1 = a.dn := HNX.out; have := hdz.out; omega)
                by_cases hd0 : d1 = 0
                · subst hd0
                  go_wp2_with fail
                  refine (none_zero _).mono ?_
                  rintro e wB ⟨rfl, hgB⟩
                  have HPSB := Lib.hid (HPSA.out.gr hgB)
                  have x0 := (HBXA.out.gr hgB).cell (i := 0) rfl
                  have y1 := HPSB.out.c12.cell (i := 1) rfl
                  clear hgB
                  go_wp2
                  go_meet
                  exact ⟨by simp, Lib.hid ⟨v7, a1, ⟨b1, 0, M1⟩, (.slice la1 M1.length lc1), HPSB.out, HO1.out, HD1.out, HS1.out, HL1.out⟩⟩
                · have hd1 : (0 == d1) = false := by simp; omega
                  have hd2 : (d1 == 0) = false := by simp; omega
                  go_wp2_with fail
                  refine (none_zero _).mono ?_
                  rintro e wB ⟨rfl, hgB⟩
                  have HPSB := Lib.hid (HPSA.out.gr hgB)
                  have x0 := (HBXA.out.gr hgB).cell (i := 0) rfl
                  have y1 := HPSB.out.c12.cell (i := 1) rfl
                  clear hgB
                  go_wp2
                  go_meet
                  exact ⟨by simp [hd1, hd2], Lib.hid ⟨v7, a1, ⟨b1, d1, M1⟩, (.slice la1 M1.length lc1), HPSB.out, HO1.out, HD1.out, HS1.out, HL1.out⟩⟩
              · have hns2 : ns = d1 := HNS.out.trans HNX.out.symm
                subst hns2
                go_wp2_with fail
                refine (none_zero _).mono ?_
                rintro e wB ⟨rfl, hgB⟩
                have HPSB := Lib.hid (HPSA.out.gr hgB)
                have x0 := (HBXA.out.gr hgB).cell (i := 0) rfl
                have y1 := HPSB.out.c12.cell (i := 1) rfl
                clear hgB
                go_wp2
                go_meet
                exact ⟨by simp, Lib.hid ⟨v7, a1, ⟨b1, ns, M1⟩, (.slice la1 M1.length lc1), HPSB.out, HO1.out, HD1.out, HS1.out, HL1.out⟩⟩
            · have k1' : (K == 1) = false := beq_eq_false_iff_ne.2 k1
              by_cases k2 : K = 2
              · subst k2
                obtain ⟨hRR, hSS⟩ := HSA.out.fold S1
                have hsl := rfold_len ⟨sb, sd, sM⟩ S1
                have HD1 := Lib.hid (show (a.fold S1).dn ≤ 3000 from by rw [fold_dn]; exact HD3.out)
                have HO1 := Lib.hid ((HOK.out.fold S1).mono (Nat.le_succ j))
                have HC := Lib.hid (fun (wz : World) (vz : Value) (h : LnIs w wz pb vz a) => lfold_any S1 wz h (by have := HOK.out.len; omega))
                have HR := Lib.hid (fun wz (h : RRow wz (.slice la sM.length lc) sM) => refFold_any sb sd S1 (.slice la sM.length lc) sM wz h (by have := HML.out; omega))
                rw [hRR] at HR
                have HS1 := Lib.hid hSS
                have HL1 := Lib.hid (show (Rs.fold ⟨sb, sd, sM⟩ S1).M.length ≤ j + 1 by have h1 : sM.length ≤ j := HML.out; have h2 : (Rs.fold ⟨sb, sd, sM⟩ S1).M.length ≤ sM.length := hsl; omega)
                clear hRR hSS hsl
                generalize Rs.fold ⟨sb, sd, sM⟩ S1 = s1 at *
                generalize a.fold S1 = a1 at *
                generalize a.folds S1 = LR at *
                obtain ⟨b1, d1, M1⟩ := s1
                replace HL1 : Hid (M1.length ≤ j + 1) := HL1
                have e7 := HPS.out.c7.cell (i := 0) rfl
                have e8 := HPS.out.c7.cell (i := 1) rfl
                have e9 := HPS.out.c7.cell (i := 2) rfl
                have a1' := HPS.out.c10.cell (i := 1) rfl
                go_wp2_with fail
                refine (HR.out _ HPS.out.r).mono ?_
                rintro e w7 ⟨l1, rfl, hr7, hg7⟩
                obtain ⟨la1, lc1, hl1, _⟩ := ownsRow_slice hr7
                subst hl1
                have HR7 := Lib.hid (show RRow w7 (.slice la1 M1.length lc1) M1 from hr7)
                have HPS7 := Lib.hid (HPS.out.gr hg7)
                have HPS8 := Lib.hid (HPS7.out.put12 ⟨b1, d1, M1⟩ (.slice la1 M1.length lc1) HR7.out)
                clear hr7 hg7 e7 e8 e9 a1' HR
                simp only [Rs.val]
                have z0 := HPS7.out.c12.cell (i := 0) rfl
                have z1 := HPS7.out.c12.cell (i := 1) rfl
                have z2 := HPS7.out.c12.cell (i := 2) rfl
                have f0 := HPS7.out.c12.free 0
                have f1 := HPS7.out.c12.free 1
                have f2 := HPS7.out.c12.free 2
                have g1 := HPS8.out.c10.cell (i := 1) rfl
                go_wp2_with fail
                generalize ((w7.setCell ⟨p12, 0, none⟩ (.int .i64 b1)).setCell ⟨p12, 1, none⟩ (.int .i64 d1)).setCell ⟨p12, 2, none⟩ (.slice la1 M1.length lc1) = w8 at *
                refine (HC.out _ _ HPS8.out.l).mono ?_
                rintro e w9 ⟨rfl, ht9⟩
                obtain ⟨v9, hps9⟩ := HPS8.out.far ht9
                have HPS9 := Lib.hid hps9
                clear ht9 hps9 z0 z1 z2 f0 f1 f2 g1
                go_wp2
                go_meet
                exact ⟨by simp, Lib.hid ⟨v9, a1, ⟨b1, d1, M1⟩, (.slice la1 M1.length lc1), HPS9.out, HO1.out, HD1.out, HS1.out, HL1.out⟩⟩
              · have k2' : (K == 2) = false := beq_eq_false_iff_ne.2 k2
                by_cases k3 : K = 3
                · subst k3
                  obtain ⟨hRR, hSS⟩ := HSA.out.install S1
                  have hsl := rinstall_len ⟨sb, sd, sM⟩ S1
                  have HD1 := Lib.hid (show (a.install S1).dn ≤ 3000 from install_dn a S1 HD3.out hSb.2)
                  have HO1 := Lib.hid ((HOK.out.install S1 (by omega)).mono (Nat.le_succ j))
                  have HC := Lib.hid (fun (wz : World) (vz : Value) (h : LnIs w wz pb vz a) => linstall_any S1 wz h (by have := HOK.out.len; omega))
                  have HR := Lib.hid (fun wz (h : RRow wz (.slice la sM.length lc) sM) => refInstall_any sb sd S1 (.slice la sM.length lc) sM wz h (by have := HML.out; omega))
                  rw [hRR] at HR
                  have HS1 := Lib.hid hSS
                  have HL1 := Lib.hid (show (Rs.install ⟨sb, sd, sM⟩ S1).M.length ≤ j + 1 by have h1 : sM.length ≤ j := HML.out; have h2 : (Rs.install ⟨sb, sd, sM⟩ S1).M.length ≤ sM.length := hsl; omega)
                  clear hRR hSS hsl
                  generalize Rs.install ⟨sb, sd, sM⟩ S1 = s1 at *
                  generalize a.install S1 = a1 at *
                  generalize a.takes S1 = LR at *
                  obtain ⟨b1, d1, M1⟩ := s1
                  replace HL1 : Hid (M1.length ≤ j + 1) := HL1
                  have e7 := HPS.out.c7.cell (i := 0) rfl
                  have e8 := HPS.out.c7.cell (i := 1) rfl
                  have e9 := HPS.out.c7.cell (i := 2) rfl
                  have a1' := HPS.out.c10.cell (i := 1) rfl
                  go_wp2_with fail
                  refine (HR.out _ HPS.out.r).mono ?_
                  rintro e w7 ⟨l1, rfl, hr7, hg7⟩
                  obtain ⟨la1, lc1, hl1, _⟩ := ownsRow_slice hr7
                  subst hl1
                  have HR7 := Lib.hid (show RRow w7 (.slice la1 M1.length lc1) M1 from hr7)
                  have HPS7 := Lib.hid (HPS.out.gr hg7)
                  have HPS8 := Lib.hid (HPS7.out.put12 ⟨b1, d1, M1⟩ (.slice la1 M1.length lc1) HR7.out)
                  clear hr7 hg7 e7 e8 e9 a1' HR
                  simp only [Rs.val]
                  have z0 := HPS7.out.c12.cell (i := 0) rfl
                  have z1 := HPS7.out.c12.cell (i := 1) rfl
                  have z2 := HPS7.out.c12.cell (i := 2) rfl
                  have f0 := HPS7.out.c12.free 0
                  have f1 := HPS7.out.c12.free 1
                  have f2 := HPS7.out.c12.free 2
                  have g1 := HPS8.out.c10.cell (i := 1) rfl
                  go_wp2_with fail
                  generalize ((w7.setCell ⟨p12, 0, none⟩ (.int .i64 b1)).setCell ⟨p12, 1, none⟩ (.int .i64 d1)).setCell ⟨p12, 2, none⟩ (.slice la1 M1.length lc1) = w8 at *
                  refine (HC.out _ _ HPS8.out.l).mono ?_
                  rintro e w9 ⟨rfl, ht9⟩
                  obtain ⟨v9, hps9⟩ := HPS8.out.far ht9
                  have HPS9 := Lib.hid hps9
                  clear ht9 hps9 z0 z1 z2 f0 f1 f2 g1
                  go_wp2
                  go_meet
                  exact ⟨by simp, Lib.hid ⟨v9, a1, ⟨b1, d1, M1⟩, (.slice la1 M1.length lc1), HPS9.out, HO1.out, HD1.out, HS1.out, HL1.out⟩⟩
                · have k3' : (K == 3) = false := beq_eq_false_iff_ne.2 k3
                  go_wp2
                  go_meet
                  exact ⟨rfl, Lib.hid ⟨v, a, ⟨sb, sd, sM⟩, (.slice la sM.length lc), HPS.out, HOK.out.mono (Nat.le_succ j), HD3.out, HSA.out, Nat.le_succ_of_le HML.out⟩⟩
        case rest =>
          clear HPS
          obtain ⟨rfl, HM⟩ := hcut
          obtain ⟨v1, a1, ⟨b1, d1, M1⟩, l1, hps, ho1, hd1, hs1, hl1⟩ := HM.out
          obtain ⟨la1, lc1, hl1', _⟩ := ownsRow_slice hps.r'
          subst hl1'
          replace hl1 : M1.length ≤ j + 1 := hl1
          have HQ := Lib.hid hps
          have HO1 := Lib.hid ho1
          have HD1 := Lib.hid hd1
          have HS1 := Lib.hid hs1
          have HL1 := Lib.hid hl1
          have HI1 := Lib.hid (fun wz (h : LnIs w wz pb v1 a1) (hr : RRow wz (.slice la1 M1.length lc1) M1) => is_any19 ⟨b1, d1, M1⟩ (.slice la1 M1.length lc1) X M0 wz h ho1 (by omega) hs1 hr (show M1.length ≤ 900 by omega) (by omega))
          have HI2 := Lib.hid (fun wz (h : LnIs w wz b2 v2 a) (hr : RRow wz (.slice la sM.length lc) sM) => is_any19 ⟨sb, sd, sM⟩ (.slice la sM.length lc) X M0 wz h HOK.out (by omega) HSA.out hr (by have h1 : sM.length ≤ j := HML.out; show sM.length ≤ 900; omega) (by have := HD3.out; omega))
          simp only [Rs.val] at HI1 HI2
          have z0 := hps.c12.cell (i := 0) rfl
          have z1 := hps.c12.cell (i := 1) rfl
          have z2 := hps.c12.cell (i := 2) rfl
          have m1 := hps.cl.cell (i := 1) rfl
          clear hps ho1 hd1 hs1 hl1 HM
          go_wp2_with fail
          refine (HI1.out _ HQ.out.l HQ.out.r').mono ?_
          rintro e wD ⟨rfl, hgD⟩
          have HQD := Lib.hid (HQ.out.gr hgD)
          have e7 := HQD.out.c7.cell (i := 0) rfl
          have e8 := HQD.out.c7.cell (i := 1) rfl
          have e9 := HQD.out.c7.cell (i := 2) rfl
          have m1 := HQD.out.cl.cell (i := 1) rfl
          clear hgD HQ HI1 z0 z1 z2
          go_wp2_with fail
          refine (HI2.out _ HQD.out.was HQD.out.r).mono ?_
          rintro e wF ⟨rfl, hgF⟩
          have HQF := Lib.hid (HQD.out.gr hgF)
          clear hgF HQD HI2 e7 e8 e9 m1
          have z0 := HQF.out.c12.cell (i := 0) rfl
          have z1 := HQF.out.c12.cell (i := 1) rfl
          have z2 := HQF.out.c12.cell (i := 2) rfl
          have e7 := HQF.out.c7.cell (i := 0) rfl
          have e8 := HQF.out.c7.cell (i := 1) rfl
          have e9 := HQF.out.c7.cell (i := 2) rfl
          have f0 := HQF.out.c7.free 0
          have f1 := HQF.out.c7.free 1
          have f2 := HQF.out.c7.free 2
          go_wp2
          go_roundg (50 - (j + 1))
          case measure => omega
          case rel => exact ⟨j + 1, v1, a1, ⟨b1, d1, M1⟩, _, by omega, by go_num, Lib.hid (PS19.setLn HQF.out.l HQF.out.n6 (blk_apart HQF.out.l.blk HQF.out.c7 (by decide)) (row_off HQF.out.c7 HQF.out.l.row (by decide))), HO1, HD1, HS1, HL1, Lib.hid (PS19.setRow HQF.out.r' (row_off HQF.out.c7 HQF.out.r' (by decide))), Lib.hid (HQF.out.c7.store3 _ _ _), Lib.hid (PS19.setCells HQF.out.cl (blk_apart HQF.out.cl HQF.out.c7 (by decide)))⟩
      · have hj6 : ¬ (j : Int) < 50 := by omega
        have HGF := Lib.hid HA.out.grown
        go_wp2
        go_ret
        exact ⟨rfl, HGF.out⟩
    · have hj4 : ¬ (j : Int) < (ps.length : Int) := by omega
      have HGF := Lib.hid HA.out.grown
      go_wp2
      go_ret
      exact ⟨rfl, HGF.out⟩
end Go.Proofs.Ytnanclgnjchpeaa
