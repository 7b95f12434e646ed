import Derived.Test.YtegapeplbincnaaL01o
import Derived.Test.YtegapeplbincnaaL01k
import Derived.Test.YtegapeplbincnaaL01d2
import Derived.Test.YtegapeplbincnaaC16
import Derived.WalkKit
import Derived.ProofKit
import Derived.LoopTactic
import Derived.Outline
import Derived.WalkSpells
import Derived.WalkLawsBesides
import Derived.Lib.Hide
import Derived.Deep.LoopGhost
import Derived.Deep.QuietTactic
import Derived.BigQuiet
import Derived.ShutString
import Derived.IntWalk
import Derived.Deep.RegionWith
import Derived.Deep.RegionHeld3
import Derived.Deep.QuietTactic
import Derived.BigQuiet
namespace Go.Proofs.Ytegapeplbincnaa
open Go.ChangeShapes Go.WideShapes Go.ChangeAt Go.RowKit
open Enc
set_option linter.unusedVariables false
set_option linter.unusedSimpArgs false
theorem rb_is {r a : ByteArray} {e b : Nat} {c : Bool} (h : bS r e = (a, b, c)) (w : World) (hr : r.size ≤ 1000000) :
    Calls Try.prog 18 #[.agg #[.string r, .int .i64 (e : Int)]] w fun en w' => en = .returned (.tuple #[.agg #[.string a, .int .i64 (b : Int)], .bool c]) ∧ Gr w w' := by
  have := refB_any r e w hr
  unfold RBIs at this
  rwa [h] at this
theorem nIs_is {p : Nat} {r : ByteArray} {e : Nat} {most : Int} {w w' : World} {en : Ending} {a : ByteArray} {b c : Nat} (h : Hid (nS r e most = (a, b, c))) (hu : NIs p r e most w en w') : en = .returned (.int .i64 (c : Int)) ∧ RdIs w' p a b ∧ Only p w w' := by
  have := h.out
  unfold NIs at hu; rwa [this] at hu
theorem bIs_is {p : Nat} {r : ByteArray} {e : Nat} {w w' : World} {en : Ending} {a : ByteArray} {b : Nat} {c : Bool} (h : Hid (bS r e = (a, b, c))) (hu : BIs p r e w en w') : en = .returned (.bool c) ∧ RdIs w' p a b ∧ Only p w w' := by
  have := h.out
  unfold BIs at hu; rwa [this] at hu
theorem sIs_is {p : Nat} {r : ByteArray} {e : Nat} {most : Int} {w w' : World} {en : Ending} {a c : ByteArray} {b : Nat} (h : Hid (sS r e most = (a, b, c))) (hu : SIs p r e most w en w') : en = .returned (.string c) ∧ RdIs w' p a b ∧ Only p w w' := by
  have := h.out
  unfold SIs at hu; rwa [this] at hu
theorem bS_le (r : ByteArray) (e : Nat) : (bS r e).1.size ≤ r.size := by
  unfold bS; split
  · exact Nat.le_refl _
  · split
    · exact Nat.le_refl _
    · first | (simp; omega) | (split <;> simp <;> omega)
theorem sS_le (r : ByteArray) (e : Nat) (most : Int) : (sS r e most).1.size ≤ r.size := by
  unfold sS; exact Nat.le_trans (takeS_le _ _ _).1 (nS_le r e most)
theorem PartRow.only {w w' : World} {p b off : Nat} {L : List PartD} (h : PartRow w (some ⟨b, off, none⟩) L) (ho : Only p w w') (hb : b ≠ p) : PartRow w' (some ⟨b, off, none⟩) L := by
  obtain ⟨h1, h2, h3⟩ := h
  refine ⟨h1, h2, h3.imp id ?_⟩
  rintro ⟨b', off', e, hc⟩
  cases e
  refine ⟨b, off, rfl, fun i hi => ?_⟩
  obtain ⟨c0, c1, c2, c3⟩ := hc i hi
  exact ⟨ho.cell hb c0, ho.cell hb c1, ho.cell hb c2, ho.cell hb c3⟩
theorem same_of {P : Program} {f : FuncId} {args : Array Value} {w : World} {v : Value} (h : Calls P f args w fun e w' => e = .returned v ∧ w = w') : Calls P f args w fun e w' => e = .returned v ∧ w' = w := h.mono fun _ _ h => ⟨h.1, h.2.symm⟩
/-- Both cells of a cursor are set anew. -/
theorem RdIs.put {w : World} {p : Nat} {r r' : ByteArray} {e e' : Nat} (h : RdIs w p r e) (hr : r'.size ≤ 9223372036854775807) : RdIs ((w.setCell ⟨p, 0, none⟩ (.string r')).setCell ⟨p, 1, none⟩ (.int .i64 (e' : Int))) p r' e' := (h.rest hr).err
theorem RdIs.put_other {w : World} {p q : Nat} {r : ByteArray} {e : Nat} (h : RdIs w p r e) (hq : p ≠ q) (u v : Value) : RdIs ((w.setCell ⟨q, 0, none⟩ u).setCell ⟨q, 1, none⟩ v) p r e :=
  (h.only (Only.setCell q 0 w u) hq).only (Only.setCell q 1 _ v) hq
/-- Where the walk stands when both have taken: the Reader, the cursor. -/
theorem stand {w2 wB w6 : World} {pr pc : Nat} {R a : ByteArray} {e b : Nat} (hc : RdIs wB pc R e) (hr : RdIs w6 pr a b) (ho : Only pr wB w6) (hg : Gr w2 wB) (h1 : w2.heap.size ≤ pr) (h2 : pr < pc) :
    RdIs ((w6.setCell ⟨pc, 0, none⟩ (.string a)).setCell ⟨pc, 1, none⟩ (.int .i64 (b : Int))) pr a b ∧ RdIs ((w6.setCell ⟨pc, 0, none⟩ (.string a)).setCell ⟨pc, 1, none⟩ (.int .i64 (b : Int))) pc a b ∧ Gr w2 ((w6.setCell ⟨pc, 0, none⟩ (.string a)).setCell ⟨pc, 1, none⟩ (.int .i64 (b : Int))) := by
  have hc6 := hc.only ho (by omega : pc ≠ pr)
  have ha := hr.2.2.2.2
  exact ⟨hr.put_other (by omega) _ _, hc6.put ha, ((ho.gr hg h1).setCell (by show w2.heap.size ≤ pc; omega) _).setCell (by show w2.heap.size ≤ pc; omega) _⟩
set_option maxRecDepth 100000 in
set_option maxHeartbeats 8000000 in
theorem codeReads_walk (s : ByteArray) (L : List PartD) (a : Option Addr) (cap : Nat) (w : World) (hs : s.size ≤ maxLen) (hst : PartRow w a L) :
    Calls Try.prog 3 #[.string s, .slice a L.length cap] w fun e w' => e = .returned (.bool true) ∧ Gr w w' := by
  have hs' : s.size ≤ 9223372036854775807 := hs
  clear hs
  have hl30 : (fewL L).length ≤ 30 := by rw [fewL_len]; omega
  have zs := cutB_le s 500
  go_enter Try.func3, Try.ntmps3
  go_wp2_with fail
  refine (awake1 w).mono ?_
  rintro e w1 ⟨rfl, hg⟩
  have HST := Lib.hid (hst.gr hg)
  have HG := Lib.hid hg
  clear hst hg
  go_wp2_with fail
  refine (cut_any s 500 _ hs' (by decide)).mono ?_
  rintro e w2 ⟨rfl, rfl⟩
  clear hs'
  generalize cutB s 500 = s at *
  go_wp2_with fail
  refine (read_any s _ (by omega)).mono ?_
  rintro e w3 ⟨rfl, hRd, hg3⟩
  have hpr : w.heap.size ≤ w1.heap.size := HG.out.size
  have hlt3 : w1.heap.size < w3.heap.size := cell_lt hRd.1
  have hz := (Gr.refl w3).alloc (.cells #[.string s, .int .i64 0] 28)
  have HRd := Lib.hid (hRd.gr hz)
  have HCu : Hid (RdIs (w3.alloc (.cells #[.string s, .int .i64 0] 28)) w3.heap.size s 0) := Lib.hid ⟨new_cell rfl rfl, new_cell rfl rfl, new_free rfl, new_free rfl, by omega⟩
  have HST3 := Lib.hid (HST.out.gr (hg3.trans hz))
  have HG3 := Lib.hid (HG.out.trans (hg3.trans hz))
  have HG1 := Lib.hid (hg3.trans hz)
  clear hRd hg3 hz
  go_wp2_with fail
  generalize hpc : w3.heap.size = pc at *
  clear hpc
  generalize hpr' : w1.heap.size = pr at *
  clear hpr'
  refine (few2_any L a cap _ HST3.out).mono ?_
  rintro e w4 ⟨a2, cap2, rfl, hrow, hg4, hbase⟩
  have HB := Lib.hid (fun b o h => And.intro (Nat.ne_of_gt (Nat.lt_of_lt_of_le (cell_lt HRd.out.1) (hbase b o h))) (Nat.ne_of_gt (Nat.lt_of_lt_of_le (cell_lt HCu.out.1) (hbase b o h))))
  clear hbase
  generalize fewL L = F at *
  have HR := Lib.hid hrow
  have HRd4 := Lib.hid (HRd.out.gr hg4)
  have HCu4 := Lib.hid (HCu.out.gr hg4)
  have HG4 := Lib.hid (HG3.out.trans hg4)
  clear hrow hg4
  go_wp2
  go_loopw [29] (fun i wr => ∃ (k : Nat) (R : ByteArray) (e : Nat), k ≤ F.length ∧ i = .int .i64 (k : Nat) ∧ R.size ≤ 500 ∧ Hid (RdIs wr pr R e) ∧ Hid (RdIs wr pc R e) ∧ Hid (Gr w wr) ∧ Hid (PartRow wr a2 F)) (fun i _ => F.length - (intOf i).toNat)
  case atStart => exact ⟨0, s, 0, by omega, rfl, zs, HRd4.out, HCu4.out, HG4.out, HR.out⟩
  case round =>
    obtain ⟨k, R, e, hk, rfl, hRz, hRd, hCu, hG, hPr⟩ := hrel
    by_cases hlt : k < F.length
    · obtain ⟨-, hok, hcl⟩ := hPr.out
      obtain ⟨b, off, rfl, hc⟩ := hcl.resolve_left (by intro e; rw [e] at hlt; simp at hlt)
      obtain ⟨c0, c1, c2, c3⟩ := hc k hlt
      have hpok := hok F[k] (List.getElem_mem _)
      clear hok hcl hc
      generalize F[k] = p at *
      obtain ⟨K, U, N, S⟩ := p
      simp only at c0 c1 c2 c3
      have hN := (bounds_i64 hpok.2.2.1).2
      have HC0 := Lib.hid c0
      have HC1 := Lib.hid c1
      clear hpok
      have ol := cell_lt c0
      obtain ⟨q0, q1, -, -, -⟩ := hCu.out
      have ql := cell_lt q0
      have qn := Nat.ne_of_lt ql
      by_cases k0 : K = 0
      · subst k0
        have hle := uS_le R e
        obtain ⟨x, f, v, hu⟩ : ∃ x f v, uS R e = (x, f, v) := ⟨_, _, _, rfl⟩
        rw [hu] at hle
        simp only at hle
        have HU := Lib.hid hu
        have hxz : x.size ≤ 500 := by omega
        clear hu hle
        go_wp2_with fail
        refine (ru_is HU.out _ (by omega)).mono ?_
        rintro en w5 ⟨rfl, hg⟩
        have o2 := hg.own.1 2 _ rfl
        have ol5 := hg.own.2.2
        have hz := (((Gr.refl wr).alloc (.cells #[.int .i64 0, .int .u64 (U : Int), .int .i64 N, .string S] 32)).trans hg)
        have hz2 := hz.alloc (.cells #[.string x, .int .i64 (f : Int)] 28) |>.drew
        have HRB := Lib.hid (hRd.out.gr hz2)
        have HCB := Lib.hid (hCu.out.gr hz2)
        have HGB := Lib.hid (hG.out.trans hz2)
        have HPB := Lib.hid (hPr.out.gr hz2)
        have hne1 : w5.heap.size ≠ pr := Nat.ne_of_gt (Nat.lt_of_lt_of_le (cell_lt hRd.out.1) hz.size)
        have hne2 : wr.heap.size ≠ pr := Nat.ne_of_gt (cell_lt hRd.out.1)
        obtain ⟨hbne, hbnc⟩ := HB.out _ _ rfl
        clear hg hz hz2
        go_wp2
        have Y0 : Hid (((w5.alloc (.cells #[.string x, .int .i64 (f : Int)] 28)).drew).cell? ⟨w5.heap.size, 0, none⟩ = some (.string x)) := Lib.hid (((Gr.refl _).drew).cell (new_cell rfl rfl))
        have Y1 : Hid (((w5.alloc (.cells #[.string x, .int .i64 (f : Int)] 28)).drew).cell? ⟨w5.heap.size, 1, none⟩ = some (.int .i64 (f : Int))) := Lib.hid (((Gr.refl _).drew).cell (new_cell rfl rfl))
        apply cutS (fun w7 => RdIs w7 pr x f ∧ RdIs w7 pc x f ∧ Gr w w7 ∧ PartRow w7 (some ⟨b, off, none⟩) F)
        case main =>
          intro HL
          go_region_with (go_at_call 15; go_loud (refine (rU_any pr R e _ HRB.out).mono ?_; intro en w6 hU; obtain ⟨rfl, hR6, hO6⟩ := uIs_is HU hU; have y0 := hO6.cell hne1 Y0.out; have y1 := hO6.cell hne1 Y1.out; have HST6 := Lib.hid (stand HCB.out hR6 hO6 HGB.out hpr hlt3); obtain ⟨p0, p1, f0, f1, -⟩ := HCB.out.only hO6 (Nat.ne_of_gt hlt3); have HP6 := Lib.hid (HPB.out.only hO6 hbne); clear hR6 hU))
          all_goals
            obtain ⟨hR7, hC7, hG7⟩ := HST6.out
            have hP7 := (HP6.out.only (Only.setCell pc 0 w6 (.string x)) hbnc).only (Only.setCell pc 1 _ (.int .i64 (f : Int))) hbnc
            clear y0 y1 p0 p1 f0 f1 hO6 HP6 HST6
            generalize ((w6.setCell ⟨pc, 0, none⟩ (.string x)).setCell ⟨pc, 1, none⟩ (.int .i64 (f : Int))) = w7 at *
            exact HL w7 ⟨hR7, hC7, hG7, hP7⟩
        case rest =>
          rintro w7 ⟨hR7, hC7, hG7, hP7⟩
          clear Y0 Y1 HRB HCB HGB HPB c0 c1 c2 c3 q0 q1 o2 ol ql qn ol5 hne1 hne2 hbne hbnc hN
          have HR7 := Lib.hid hR7
          have HG7 := Lib.hid hG7
          have HC7 := Lib.hid hC7
          have HP7 := Lib.hid hP7
          obtain ⟨z0, z1, -, -, -⟩ := hC7
          clear hR7 hG7 hP7
          have CE := Lib.hid (fun n => same_of (err_any pr x f (w7.drewN n) (HR7.out.gr ((Gr.refl w7).drewN n))))
          have CL := Lib.hid (fun n => same_of (left_any pr x f (w7.drewN n) (HR7.out.gr ((Gr.refl w7).drewN n))))
          go_wp2
          by_cases hf : f = 0
          · subst hf
            go_quiet ((first | (go_at_call 22; exact Calls.quiet_of_same (CE.out _)) | (go_at_call 23; exact Calls.quiet_of_same (CL.out _))))
            go_wp2
            go_roundw
            case rel => exact ⟨k + 1, x, 0, by omega, by go_num, hxz, HR7.out.gr ((Gr.refl w7).drewN nq), HC7.out.gr ((Gr.refl w7).drewN nq), HG7.out.trans ((Gr.refl w7).drewN nq), HP7.out.gr ((Gr.refl w7).drewN nq)⟩
            case measure => simp [intOf]; omega
          · have tf : ((f : Int) == 0) = false := by simp; omega
            have HF := Lib.hid hf
            clear hf tf CE CL
            have HS0 : (fun w9 => w9.cell? ⟨pc, 1, none⟩ = some (.int .i64 (f : Nat)) ∧ Hid (RdIs w9 pr x f ∧ RdIs w9 pc x f ∧ Gr w w9 ∧ PartRow w9 (some ⟨b, off, none⟩) F)) w7 := ⟨z1, Lib.hid ⟨HR7.out, HC7.out, HG7.out, HP7.out⟩⟩
            have HX : Hid (∀ w0 w9 : World, Gr w0 w9 → (fun w9 => w9.cell? ⟨pc, 1, none⟩ = some (.int .i64 (f : Nat)) ∧ Hid (RdIs w9 pr x f ∧ RdIs w9 pc x f ∧ Gr w w9 ∧ PartRow w9 (some ⟨b, off, none⟩) F)) w0 → (fun w9 => w9.cell? ⟨pc, 1, none⟩ = some (.int .i64 (f : Nat)) ∧ Hid (RdIs w9 pr x f ∧ RdIs w9 pc x f ∧ Gr w w9 ∧ PartRow w9 (some ⟨b, off, none⟩) F)) w9) := Lib.hid fun w0 w9 hg ⟨h2, h6⟩ => ⟨hg.cell h2, Lib.hid ⟨h6.out.1.gr hg, h6.out.2.1.gr hg, h6.out.2.2.1.trans hg, h6.out.2.2.2.gr hg⟩⟩
            clear z0 z1
            refine wp_region_held_drew (S := (fun w9 => w9.cell? ⟨pc, 1, none⟩ = some (.int .i64 (f : Nat)) ∧ Hid (RdIs w9 pr x f ∧ RdIs w9 pc x f ∧ Gr w w9 ∧ PartRow w9 (some ⟨b, off, none⟩) F))) (by kernel_rfl) ?inva0 (fun h0 => ?_)
            case inva0 => ((try dsimp only); (first | exact HS0 | exact HX.out _ _ ((Gr.refl _).drew) HS0))
            refine wpAnyH_take (i := 0) (oi := { dst := some 89, op := Go.Op.move (Go.Operand.tmp 9), type := 4, pos := "law.go:99", after := #[], guard := none }) (v := ?va0x0) rfl (by kernel_rfl) (by kernel_rfl) (by kernel_rfl) (fun _ _ _ h => h) (Or.inl ⟨by rfl, ?ra0x0⟩) (by assumption) ?_
            case ra0x0 => (intro w hSw; (try dsimp only at hSw); (go_simp <;> with_reducible rfl))
            try simp only [Act.put, List.setIfInBounds_toArray, List.set_cons_zero, List.set_cons_succ]
            refine wpAnyH_take (i := 1) (oi := { dst := some 90, op := Go.Op.unOp Go.UnOp.not 4 (Go.Operand.tmp 89), type := 4, pos := "law.go:99", after := #[{ on := 0, ground := Go.Ground.data }], guard := none }) (v := ?va0x1) rfl (by kernel_rfl) (by kernel_rfl) (by kernel_rfl) (fun _ _ _ h => h) (Or.inl ⟨by rfl, ?ra0x1⟩) (by assumption) ?_
            case ra0x1 => (intro w hSw; (try dsimp only at hSw); (go_simp <;> with_reducible rfl))
            try simp only [Act.put, List.setIfInBounds_toArray, List.set_cons_zero, List.set_cons_succ]
            refine wpAnyH_take (i := 2) (oi := { dst := some 91, op := Go.Op.move (Go.Operand.tmp 90), type := 4, pos := "law.go:99", after := #[{ on := 1, ground := Go.Ground.data }], guard := none }) (v := ?va0x2) rfl (by kernel_rfl) (by kernel_rfl) (by kernel_rfl) (fun _ _ _ h => h) (Or.inl ⟨by rfl, ?ra0x2⟩) (by assumption) ?_
            case ra0x2 => (intro w hSw; (try dsimp only at hSw); (go_simp <;> with_reducible rfl))
            try simp only [Act.put, List.setIfInBounds_toArray, List.set_cons_zero, List.set_cons_succ]
            refine wpAnyH_take (i := 3) (oi := { dst := some 92, op := Go.Op.move (Go.Operand.tmp 5), type := 25, pos := "law.go:99", after := #[{ on := 2, ground := Go.Ground.guard }], guard := some (2, false) }) (v := ?va0x3) rfl (by kernel_rfl) (by kernel_rfl) (by kernel_rfl) (fun _ _ _ h => h) (Or.inl ⟨by rfl, ?ra0x3⟩) (by assumption) ?_
            case ra0x3 => (intro w hSw; (try dsimp only at hSw); (go_simp <;> with_reducible rfl))
            try simp only [Act.put, List.setIfInBounds_toArray, List.set_cons_zero, List.set_cons_succ]
            refine wpAnyH_take (i := 5) (oi := { dst := some 94, op := Go.Op.fieldAddr 28 (Go.Operand.tmp 6) 1, type := 0, pos := "law.go:99", after := #[{ on := 2, ground := Go.Ground.guard }], guard := some (2, false) }) (v := ?va0x5) rfl (by kernel_rfl) (by kernel_rfl) (by kernel_rfl) (fun _ _ _ h => h) (Or.inl ⟨by rfl, ?ra0x5⟩) (by assumption) ?_
            case ra0x5 => (intro w hSw; (try dsimp only at hSw); (go_simp <;> with_reducible rfl))
            try simp only [Act.put, List.setIfInBounds_toArray, List.set_cons_zero, List.set_cons_succ]
            refine wpAnyH_take (i := 6) (oi := { dst := some 95, op := Go.Op.load 3 (Go.Operand.tmp 94), type := 3, pos := "law.go:99", after := #[{ on := 5, ground := Go.Ground.data }, { on := 2, ground := Go.Ground.guard }], guard := some (2, false) }) (v := ?va0x6) rfl (by kernel_rfl) (by kernel_rfl) (by kernel_rfl) (fun _ _ _ h => h) (Or.inl ⟨by rfl, ?ra0x6⟩) (by assumption) ?_
            case ra0x6 => (intro w hSw; (try dsimp only at hSw); (go_simp <;> with_reducible rfl))
            try simp only [Act.put, List.setIfInBounds_toArray, List.set_cons_zero, List.set_cons_succ]
            refine wpAnyH_ready (rs := [4]) (by kernel_rfl) (by simp) ?_
            refine AllReadyH.cons (o := { dst := some 93, op := Go.Op.call { callee := Go.Callee.value (Go.Operand.func 22), args := #[Go.Operand.tmp 92], argTypes := #[25] }, type := 44, pos := "law.go:99", after := #[{ on := 3, ground := Go.Ground.data }, { on := 2, ground := Go.Ground.chain }, { on := 2, ground := Go.Ground.guard }], guard := some (2, false) }) rfl (fun K hK => ?_) AllReadyH.nil
            go_simp
            (go_at_call 22; refine (err_any pr x f _ (h0).2.out.1).mono ?_; rintro e w9 ⟨rfl, rfl⟩)
            first | refine hK.out _ _ ?sa0x1 (fun h1 => ?_) | (go_wp2_with fail; refine hK.out _ _ ?sa0x1 (fun h1 => ?_))
            case sa0x1 => ((try dsimp only); exact h0)
            clear hK K h0
            try simp only [Act.put, List.setIfInBounds_toArray, List.set_cons_zero, List.set_cons_succ]
            refine wpAnyH_take (i := 7) (oi := { dst := some 96, op := Go.Op.binOp Go.BinOp.neq 3 (Go.Operand.tmp 93) (Go.Operand.tmp 95) 3, type := 4, pos := "law.go:99", after := #[{ on := 4, ground := Go.Ground.data }, { on := 6, ground := Go.Ground.data }, { on := 2, ground := Go.Ground.guard }], guard := some (2, false) }) (v := ?va0x7) rfl (by kernel_rfl) (by kernel_rfl) (by kernel_rfl) (fun _ _ _ h => h) (Or.inl ⟨by rfl, ?ra0x7⟩) (by assumption) ?_
            case ra0x7 => (intro w hSw; (try dsimp only at hSw); (go_simp <;> with_reducible rfl))
            try simp only [Act.put, List.setIfInBounds_toArray, List.set_cons_zero, List.set_cons_succ]
            refine wpAnyH_take (i := 8) (oi := { dst := some 97, op := Go.Op.pick (Go.Operand.tmp 91) (Go.Operand.const (Go.Value.bool true)) (Go.Operand.tmp 96), type := 4, pos := "law.go:99", after := #[{ on := 2, ground := Go.Ground.data }, { on := 7, ground := Go.Ground.data }], guard := none }) (v := ?va0x8) rfl (by kernel_rfl) (by kernel_rfl) (by kernel_rfl) (fun _ _ _ h => h) (Or.inl ⟨by rfl, ?ra0x8⟩) (by assumption) ?_
            case ra0x8 => (intro w hSw; (try dsimp only at hSw); (go_simp <;> with_reducible rfl))
            try simp only [Act.put, List.setIfInBounds_toArray, List.set_cons_zero, List.set_cons_succ]
            refine wpAnyH_take (i := 9) (oi := { dst := some 98, op := Go.Op.move (Go.Operand.tmp 97), type := 4, pos := "law.go:99", after := #[{ on := 8, ground := Go.Ground.data }, { on := 4, ground := Go.Ground.chain }], guard := none }) (v := ?va0x9) rfl (by kernel_rfl) (by kernel_rfl) (by kernel_rfl) (fun _ _ _ h => h) (Or.inl ⟨by rfl, ?ra0x9⟩) (by assumption) ?_
            case ra0x9 => (intro w hSw; (try dsimp only at hSw); (go_simp <;> with_reducible rfl))
            try simp only [Act.put, List.setIfInBounds_toArray, List.set_cons_zero, List.set_cons_succ]
            refine wpAnyH_take (i := 10) (oi := { dst := some 99, op := Go.Op.fieldAddr 28 (Go.Operand.tmp 6) 1, type := 0, pos := "law.go:99", after := #[{ on := 9, ground := Go.Ground.guard }], guard := some (9, false) }) (v := ?va0x10) rfl (by kernel_rfl) (by kernel_rfl) (by kernel_rfl) (fun _ _ _ h => h) (Or.inl ⟨by rfl, ?ra0x10⟩) (by assumption) ?_
            case ra0x10 => (intro w hSw; (try dsimp only at hSw); (go_simp <;> with_reducible rfl))
            try simp only [Act.put, List.setIfInBounds_toArray, List.set_cons_zero, List.set_cons_succ]
            refine wpAnyH_take (i := 11) (oi := { dst := some 100, op := Go.Op.load 3 (Go.Operand.tmp 99), type := 3, pos := "law.go:99", after := #[{ on := 10, ground := Go.Ground.data }, { on := 9, ground := Go.Ground.guard }], guard := some (9, false) }) (v := ?va0x11) rfl (by kernel_rfl) (by kernel_rfl) (by kernel_rfl) (fun _ _ _ h => h) (Or.inl ⟨by rfl, ?ra0x11⟩) (by assumption) ?_
            case ra0x11 => (intro w hSw; (try dsimp only at hSw); (go_simp <;> with_reducible rfl))
            try simp only [Act.put, List.setIfInBounds_toArray, List.set_cons_zero, List.set_cons_succ]
            refine wpAnyH_take (i := 12) (oi := { dst := some 101, op := Go.Op.binOp Go.BinOp.eql 3 (Go.Operand.tmp 100) (Go.Operand.const (Go.Value.int Go.IntKind.i64 0)) 3, type := 4, pos := "law.go:99", after := #[{ on := 11, ground := Go.Ground.data }, { on := 9, ground := Go.Ground.guard }], guard := some (9, false) }) (v := (.bool false)) rfl (by kernel_rfl) (by kernel_rfl) (by kernel_rfl) (fun _ _ _ h => h) (Or.inl ⟨by rfl, ?ra0x12⟩) (by assumption) ?_
            case ra0x12 => (intro w hSw; (try dsimp only at hSw); go_simp; exact HF.out)
            try simp only [Act.put, List.setIfInBounds_toArray, List.set_cons_zero, List.set_cons_succ]
            refine wpAnyH_take (i := 13) (oi := { dst := some 102, op := Go.Op.move (Go.Operand.tmp 101), type := 4, pos := "law.go:99", after := #[{ on := 12, ground := Go.Ground.data }, { on := 9, ground := Go.Ground.chain }, { on := 9, ground := Go.Ground.guard }], guard := some (9, false) }) (v := ?va0x13) rfl (by kernel_rfl) (by kernel_rfl) (by kernel_rfl) (fun _ _ _ h => h) (Or.inl ⟨by rfl, ?ra0x13⟩) (by assumption) ?_
            case ra0x13 => (intro w hSw; (try dsimp only at hSw); (go_simp <;> with_reducible rfl))
            try simp only [Act.put, List.setIfInBounds_toArray, List.set_cons_zero, List.set_cons_succ]
            refine wpAnyH_take (i := 14) (oi := { dst := some 103, op := Go.Op.move (Go.Operand.tmp 5), type := 25, pos := "law.go:99", after := #[{ on := 13, ground := Go.Ground.guard }], guard := some (13, true) }) (v := undef) rfl (by kernel_rfl) (by kernel_rfl) (by kernel_rfl) (fun _ _ _ h => h) (Or.inr ⟨by rfl, rfl⟩) (by assumption) ?_
            try simp only [Act.put, List.setIfInBounds_toArray, List.set_cons_zero, List.set_cons_succ]
            refine wpAnyH_take (i := 15) (oi := { dst := some 104, op := Go.Op.call { callee := Go.Callee.value (Go.Operand.func 23), args := #[Go.Operand.tmp 103], argTypes := #[25] }, type := 3, pos := "law.go:99", after := #[{ on := 14, ground := Go.Ground.data }, { on := 13, ground := Go.Ground.chain }, { on := 13, ground := Go.Ground.guard }], guard := some (13, true) }) (v := undef) rfl (by kernel_rfl) (by kernel_rfl) (by kernel_rfl) (fun _ _ _ h => h) (Or.inr ⟨by rfl, rfl⟩) (by assumption) ?_
            try simp only [Act.put, List.setIfInBounds_toArray, List.set_cons_zero, List.set_cons_succ]
            refine wpAnyH_take (i := 16) (oi := { dst := some 105, op := Go.Op.fieldAddr 28 (Go.Operand.tmp 6) 0, type := 0, pos := "law.go:99", after := #[{ on := 13, ground := Go.Ground.guard }], guard := some (13, true) }) (v := undef) rfl (by kernel_rfl) (by kernel_rfl) (by kernel_rfl) (fun _ _ _ h => h) (Or.inr ⟨by rfl, rfl⟩) (by assumption) ?_
            try simp only [Act.put, List.setIfInBounds_toArray, List.set_cons_zero, List.set_cons_succ]
            refine wpAnyH_take (i := 17) (oi := { dst := some 106, op := Go.Op.load 9 (Go.Operand.tmp 105), type := 9, pos := "law.go:99", after := #[{ on := 16, ground := Go.Ground.data }, { on := 13, ground := Go.Ground.guard }], guard := some (13, true) }) (v := undef) rfl (by kernel_rfl) (by kernel_rfl) (by kernel_rfl) (fun _ _ _ h => h) (Or.inr ⟨by rfl, rfl⟩) (by assumption) ?_
            try simp only [Act.put, List.setIfInBounds_toArray, List.set_cons_zero, List.set_cons_succ]
            refine wpAnyH_take (i := 18) (oi := { dst := some 107, op := Go.Op.call { callee := Go.Callee.builtin Go.Builtin.len, args := #[Go.Operand.tmp 106], argTypes := #[9] }, type := 3, pos := "law.go:99", after := #[{ on := 17, ground := Go.Ground.data }, { on := 13, ground := Go.Ground.guard }], guard := some (13, true) }) (v := undef) rfl (by kernel_rfl) (by kernel_rfl) (by kernel_rfl) (fun _ _ _ h => h) (Or.inr ⟨by rfl, rfl⟩) (by assumption) ?_
            try simp only [Act.put, List.setIfInBounds_toArray, List.set_cons_zero, List.set_cons_succ]
            refine wpAnyH_take (i := 19) (oi := { dst := some 108, op := Go.Op.binOp Go.BinOp.neq 3 (Go.Operand.tmp 104) (Go.Operand.tmp 107) 3, type := 4, pos := "law.go:99", after := #[{ on := 15, ground := Go.Ground.data }, { on := 18, ground := Go.Ground.data }, { on := 13, ground := Go.Ground.guard }], guard := some (13, true) }) (v := undef) rfl (by kernel_rfl) (by kernel_rfl) (by kernel_rfl) (fun _ _ _ h => h) (Or.inr ⟨by rfl, rfl⟩) (by assumption) ?_
            try simp only [Act.put, List.setIfInBounds_toArray, List.set_cons_zero, List.set_cons_succ]
            refine wpAnyH_take (i := 20) (oi := { dst := some 109, op := Go.Op.pick (Go.Operand.tmp 102) (Go.Operand.tmp 108) (Go.Operand.const (Go.Value.bool false)), type := 4, pos := "law.go:99", after := #[{ on := 13, ground := Go.Ground.data }, { on := 19, ground := Go.Ground.data }, { on := 9, ground := Go.Ground.guard }], guard := some (9, false) }) (v := ?va0x20) rfl (by kernel_rfl) (by kernel_rfl) (by kernel_rfl) (fun _ _ _ h => h) (Or.inl ⟨by rfl, ?ra0x20⟩) (by assumption) ?_
            case ra0x20 => (intro w hSw; (try dsimp only at hSw); (go_simp <;> with_reducible rfl))
            try simp only [Act.put, List.setIfInBounds_toArray, List.set_cons_zero, List.set_cons_succ]
            refine wpAnyH_take (i := 21) (oi := { dst := some 110, op := Go.Op.pick (Go.Operand.tmp 98) (Go.Operand.const (Go.Value.bool true)) (Go.Operand.tmp 109), type := 4, pos := "law.go:99", after := #[{ on := 9, ground := Go.Ground.data }, { on := 20, ground := Go.Ground.data }], guard := none }) (v := ?va0x21) rfl (by kernel_rfl) (by kernel_rfl) (by kernel_rfl) (fun _ _ _ h => h) (Or.inl ⟨by rfl, ?ra0x21⟩) (by assumption) ?_
            case ra0x21 => (intro w hSw; (try dsimp only at hSw); (go_simp <;> with_reducible rfl))
            try simp only [Act.put, List.setIfInBounds_toArray, List.set_cons_zero, List.set_cons_succ]
            refine wpAnyH_done (by kernel_rfl) ?_ _
            have HE9 := (h1).2
            clear h1 HS0
            go_wp2
            go_roundw
            case rel => exact ⟨k + 1, x, f, by omega, by go_num, hxz, HE9.out.1, HE9.out.2.1, HE9.out.2.2.1, HE9.out.2.2.2⟩
            case measure => simp [intOf]; omega
      by_cases k1 : K = 1
      · subst k1
        have hle := nS_le R e N
        obtain ⟨x, f, v, hu⟩ : ∃ x f v, nS R e N = (x, f, v) := ⟨_, _, _, rfl⟩
        rw [hu] at hle
        simp only at hle
        have HU := Lib.hid hu
        have hxz : x.size ≤ 500 := by omega
        clear hu hle
        go_wp2_with fail
        refine (rn_is HU.out _ (by omega) hN).mono ?_
        rintro en w5 ⟨rfl, hg⟩
        have o2 := hg.own.1 2 _ rfl
        have ol5 := hg.own.2.2
        have hz := (((Gr.refl wr).alloc (.cells #[.int .i64 1, .int .u64 (U : Int), .int .i64 N, .string S] 32)).trans hg)
        have hz2 := hz.alloc (.cells #[.string x, .int .i64 (f : Int)] 28) |>.drew
        have HRB := Lib.hid (hRd.out.gr hz2)
        have HCB := Lib.hid (hCu.out.gr hz2)
        have HGB := Lib.hid (hG.out.trans hz2)
        have HPB := Lib.hid (hPr.out.gr hz2)
        have hne1 : w5.heap.size ≠ pr := Nat.ne_of_gt (Nat.lt_of_lt_of_le (cell_lt hRd.out.1) hz.size)
        have hne2 : wr.heap.size ≠ pr := Nat.ne_of_gt (cell_lt hRd.out.1)
        obtain ⟨hbne, hbnc⟩ := HB.out _ _ rfl
        clear hg hz hz2
        go_wp2
        have Y0 : Hid (((w5.alloc (.cells #[.string x, .int .i64 (f : Int)] 28)).drew).cell? ⟨w5.heap.size, 0, none⟩ = some (.string x)) := Lib.hid (((Gr.refl _).drew).cell (new_cell rfl rfl))
        have Y1 : Hid (((w5.alloc (.cells #[.string x, .int .i64 (f : Int)] 28)).drew).cell? ⟨w5.heap.size, 1, none⟩ = some (.int .i64 (f : Int))) := Lib.hid (((Gr.refl _).drew).cell (new_cell rfl rfl))
        apply cutS (fun w7 => RdIs w7 pr x f ∧ RdIs w7 pc x f ∧ Gr w w7 ∧ PartRow w7 (some ⟨b, off, none⟩) F)
        case main =>
          intro HL
          go_region_with (go_at_call 17; go_loud (refine (rN_any pr R e N hN _ HRB.out).mono ?_; intro en w6 hU; obtain ⟨rfl, hR6, hO6⟩ := nIs_is HU hU; have y0 := hO6.cell hne1 Y0.out; have y1 := hO6.cell hne1 Y1.out; have HST6 := Lib.hid (stand HCB.out hR6 hO6 HGB.out hpr hlt3); obtain ⟨p0, p1, f0, f1, -⟩ := HCB.out.only hO6 (Nat.ne_of_gt hlt3); have HP6 := Lib.hid (HPB.out.only hO6 hbne); clear hR6 hU))
          all_goals
            obtain ⟨hR7, hC7, hG7⟩ := HST6.out
            have hP7 := (HP6.out.only (Only.setCell pc 0 w6 (.string x)) hbnc).only (Only.setCell pc 1 _ (.int .i64 (f : Int))) hbnc
            clear y0 y1 p0 p1 f0 f1 hO6 HP6 HST6
            generalize ((w6.setCell ⟨pc, 0, none⟩ (.string x)).setCell ⟨pc, 1, none⟩ (.int .i64 (f : Int))) = w7 at *
            exact HL w7 ⟨hR7, hC7, hG7, hP7⟩
        case rest =>
          rintro w7 ⟨hR7, hC7, hG7, hP7⟩
          clear Y0 Y1 HRB HCB HGB HPB c0 c1 c2 c3 q0 q1 o2 ol ql qn ol5 hne1 hne2 hbne hbnc hN
          have HR7 := Lib.hid hR7
          have HG7 := Lib.hid hG7
          have HC7 := Lib.hid hC7
          have HP7 := Lib.hid hP7
          obtain ⟨z0, z1, -, -, -⟩ := hC7
          clear hR7 hG7 hP7
          have CE := Lib.hid (fun n => same_of (err_any pr x f (w7.drewN n) (HR7.out.gr ((Gr.refl w7).drewN n))))
          have CL := Lib.hid (fun n => same_of (left_any pr x f (w7.drewN n) (HR7.out.gr ((Gr.refl w7).drewN n))))
          go_wp2
          by_cases hf : f = 0
          · subst hf
            go_quiet ((first | (go_at_call 22; exact Calls.quiet_of_same (CE.out _)) | (go_at_call 23; exact Calls.quiet_of_same (CL.out _))))
            go_wp2
            go_roundw
            case rel => exact ⟨k + 1, x, 0, by omega, by go_num, hxz, HR7.out.gr ((Gr.refl w7).drewN nq), HC7.out.gr ((Gr.refl w7).drewN nq), HG7.out.trans ((Gr.refl w7).drewN nq), HP7.out.gr ((Gr.refl w7).drewN nq)⟩
            case measure => simp [intOf]; omega
          · have tf : ((f : Int) == 0) = false := by simp; omega
            have HF := Lib.hid hf
            clear hf tf CE CL
            have HS0 : (fun w9 => w9.cell? ⟨pc, 1, none⟩ = some (.int .i64 (f : Nat)) ∧ Hid (RdIs w9 pr x f ∧ RdIs w9 pc x f ∧ Gr w w9 ∧ PartRow w9 (some ⟨b, off, none⟩) F)) w7 := ⟨z1, Lib.hid ⟨HR7.out, HC7.out, HG7.out, HP7.out⟩⟩
            have HX : Hid (∀ w0 w9 : World, Gr w0 w9 → (fun w9 => w9.cell? ⟨pc, 1, none⟩ = some (.int .i64 (f : Nat)) ∧ Hid (RdIs w9 pr x f ∧ RdIs w9 pc x f ∧ Gr w w9 ∧ PartRow w9 (some ⟨b, off, none⟩) F)) w0 → (fun w9 => w9.cell? ⟨pc, 1, none⟩ = some (.int .i64 (f : Nat)) ∧ Hid (RdIs w9 pr x f ∧ RdIs w9 pc x f ∧ Gr w w9 ∧ PartRow w9 (some ⟨b, off, none⟩) F)) w9) := Lib.hid fun w0 w9 hg ⟨h2, h6⟩ => ⟨hg.cell h2, Lib.hid ⟨h6.out.1.gr hg, h6.out.2.1.gr hg, h6.out.2.2.1.trans hg, h6.out.2.2.2.gr hg⟩⟩
            clear z0 z1
            refine wp_region_held_drew (S := (fun w9 => w9.cell? ⟨pc, 1, none⟩ = some (.int .i64 (f : Nat)) ∧ Hid (RdIs w9 pr x f ∧ RdIs w9 pc x f ∧ Gr w w9 ∧ PartRow w9 (some ⟨b, off, none⟩) F))) (by kernel_rfl) ?inva1 (fun h0 => ?_)
            case inva1 => ((try dsimp only); (first | exact HS0 | exact HX.out _ _ ((Gr.refl _).drew) HS0))
            refine wpAnyH_take (i := 0) (oi := { dst := some 89, op := Go.Op.move (Go.Operand.tmp 9), type := 4, pos := "law.go:99", after := #[], guard := none }) (v := ?va1x0) rfl (by kernel_rfl) (by kernel_rfl) (by kernel_rfl) (fun _ _ _ h => h) (Or.inl ⟨by rfl, ?ra1x0⟩) (by assumption) ?_
            case ra1x0 => (intro w hSw; (try dsimp only at hSw); (go_simp <;> with_reducible rfl))
            try simp only [Act.put, List.setIfInBounds_toArray, List.set_cons_zero, List.set_cons_succ]
            refine wpAnyH_take (i := 1) (oi := { dst := some 90, op := Go.Op.unOp Go.UnOp.not 4 (Go.Operand.tmp 89), type := 4, pos := "law.go:99", after := #[{ on := 0, ground := Go.Ground.data }], guard := none }) (v := ?va1x1) rfl (by kernel_rfl) (by kernel_rfl) (by kernel_rfl) (fun _ _ _ h => h) (Or.inl ⟨by rfl, ?ra1x1⟩) (by assumption) ?_
            case ra1x1 => (intro w hSw; (try dsimp only at hSw); (go_simp <;> with_reducible rfl))
            try simp only [Act.put, List.setIfInBounds_toArray, List.set_cons_zero, List.set_cons_succ]
            refine wpAnyH_take (i := 2) (oi := { dst := some 91, op := Go.Op.move (Go.Operand.tmp 90), type := 4, pos := "law.go:99", after := #[{ on := 1, ground := Go.Ground.data }], guard := none }) (v := ?va1x2) rfl (by kernel_rfl) (by kernel_rfl) (by kernel_rfl) (fun _ _ _ h => h) (Or.inl ⟨by rfl, ?ra1x2⟩) (by assumption) ?_
            case ra1x2 => (intro w hSw; (try dsimp only at hSw); (go_simp <;> with_reducible rfl))
            try simp only [Act.put, List.setIfInBounds_toArray, List.set_cons_zero, List.set_cons_succ]
            refine wpAnyH_take (i := 3) (oi := { dst := some 92, op := Go.Op.move (Go.Operand.tmp 5), type := 25, pos := "law.go:99", after := #[{ on := 2, ground := Go.Ground.guard }], guard := some (2, false) }) (v := ?va1x3) rfl (by kernel_rfl) (by kernel_rfl) (by kernel_rfl) (fun _ _ _ h => h) (Or.inl ⟨by rfl, ?ra1x3⟩) (by assumption) ?_
            case ra1x3 => (intro w hSw; (try dsimp only at hSw); (go_simp <;> with_reducible rfl))
            try simp only [Act.put, List.setIfInBounds_toArray, List.set_cons_zero, List.set_cons_succ]
            refine wpAnyH_take (i := 5) (oi := { dst := some 94, op := Go.Op.fieldAddr 28 (Go.Operand.tmp 6) 1, type := 0, pos := "law.go:99", after := #[{ on := 2, ground := Go.Ground.guard }], guard := some (2, false) }) (v := ?va1x5) rfl (by kernel_rfl) (by kernel_rfl) (by kernel_rfl) (fun _ _ _ h => h) (Or.inl ⟨by rfl, ?ra1x5⟩) (by assumption) ?_
            case ra1x5 => (intro w hSw; (try dsimp only at hSw); (go_simp <;> with_reducible rfl))
            try simp only [Act.put, List.setIfInBounds_toArray, List.set_cons_zero, List.set_cons_succ]
            refine wpAnyH_take (i := 6) (oi := { dst := some 95, op := Go.Op.load 3 (Go.Operand.tmp 94), type := 3, pos := "law.go:99", after := #[{ on := 5, ground := Go.Ground.data }, { on := 2, ground := Go.Ground.guard }], guard := some (2, false) }) (v := ?va1x6) rfl (by kernel_rfl) (by kernel_rfl) (by kernel_rfl) (fun _ _ _ h => h) (Or.inl ⟨by rfl, ?ra1x6⟩) (by assumption) ?_
            case ra1x6 => (intro w hSw; (try dsimp only at hSw); (go_simp <;> with_reducible rfl))
            try simp only [Act.put, List.setIfInBounds_toArray, List.set_cons_zero, List.set_cons_succ]
            refine wpAnyH_ready (rs := [4]) (by kernel_rfl) (by simp) ?_
            refine AllReadyH.cons (o := { dst := some 93, op := Go.Op.call { callee := Go.Callee.value (Go.Operand.func 22), args := #[Go.Operand.tmp 92], argTypes := #[25] }, type := 44, pos := "law.go:99", after := #[{ on := 3, ground := Go.Ground.data }, { on := 2, ground := Go.Ground.chain }, { on := 2, ground := Go.Ground.guard }], guard := some (2, false) }) rfl (fun K hK => ?_) AllReadyH.nil
            go_simp
            (go_at_call 22; refine (err_any pr x f _ (h0).2.out.1).mono ?_; rintro e w9 ⟨rfl, rfl⟩)
            first | refine hK.out _ _ ?sa1x1 (fun h1 => ?_) | (go_wp2_with fail; refine hK.out _ _ ?sa1x1 (fun h1 => ?_))
            case sa1x1 => ((try dsimp only); exact h0)
            clear hK K h0
            try simp only [Act.put, List.setIfInBounds_toArray, List.set_cons_zero, List.set_cons_succ]
            refine wpAnyH_take (i := 7) (oi := { dst := some 96, op := Go.Op.binOp Go.BinOp.neq 3 (Go.Operand.tmp 93) (Go.Operand.tmp 95) 3, type := 4, pos := "law.go:99", after := #[{ on := 4, ground := Go.Ground.data }, { on := 6, ground := Go.Ground.data }, { on := 2, ground := Go.Ground.guard }], guard := some (2, false) }) (v := ?va1x7) rfl (by kernel_rfl) (by kernel_rfl) (by kernel_rfl) (fun _ _ _ h => h) (Or.inl ⟨by rfl, ?ra1x7⟩) (by assumption) ?_
            case ra1x7 => (intro w hSw; (try dsimp only at hSw); (go_simp <;> with_reducible rfl))
            try simp only [Act.put, List.setIfInBounds_toArray, List.set_cons_zero, List.set_cons_succ]
            refine wpAnyH_take (i := 8) (oi := { dst := some 97, op := Go.Op.pick (Go.Operand.tmp 91) (Go.Operand.const (Go.Value.bool true)) (Go.Operand.tmp 96), type := 4, pos := "law.go:99", after := #[{ on := 2, ground := Go.Ground.data }, { on := 7, ground := Go.Ground.data }], guard := none }) (v := ?va1x8) rfl (by kernel_rfl) (by kernel_rfl) (by kernel_rfl) (fun _ _ _ h => h) (Or.inl ⟨by rfl, ?ra1x8⟩) (by assumption) ?_
            case ra1x8 => (intro w hSw; (try dsimp only at hSw); (go_simp <;> with_reducible rfl))
            try simp only [Act.put, List.setIfInBounds_toArray, List.set_cons_zero, List.set_cons_succ]
            refine wpAnyH_take (i := 9) (oi := { dst := some 98, op := Go.Op.move (Go.Operand.tmp 97), type := 4, pos := "law.go:99", after := #[{ on := 8, ground := Go.Ground.data }, { on := 4, ground := Go.Ground.chain }], guard := none }) (v := ?va1x9) rfl (by kernel_rfl) (by kernel_rfl) (by kernel_rfl) (fun _ _ _ h => h) (Or.inl ⟨by rfl, ?ra1x9⟩) (by assumption) ?_
            case ra1x9 => (intro w hSw; (try dsimp only at hSw); (go_simp <;> with_reducible rfl))
            try simp only [Act.put, List.setIfInBounds_toArray, List.set_cons_zero, List.set_cons_succ]
            refine wpAnyH_take (i := 10) (oi := { dst := some 99, op := Go.Op.fieldAddr 28 (Go.Operand.tmp 6) 1, type := 0, pos := "law.go:99", after := #[{ on := 9, ground := Go.Ground.guard }], guard := some (9, false) }) (v := ?va1x10) rfl (by kernel_rfl) (by kernel_rfl) (by kernel_rfl) (fun _ _ _ h => h) (Or.inl ⟨by rfl, ?ra1x10⟩) (by assumption) ?_
            case ra1x10 => (intro w hSw; (try dsimp only at hSw); (go_simp <;> with_reducible rfl))
            try simp only [Act.put, List.setIfInBounds_toArray, List.set_cons_zero, List.set_cons_succ]
            refine wpAnyH_take (i := 11) (oi := { dst := some 100, op := Go.Op.load 3 (Go.Operand.tmp 99), type := 3, pos := "law.go:99", after := #[{ on := 10, ground := Go.Ground.data }, { on := 9, ground := Go.Ground.guard }], guard := some (9, false) }) (v := ?va1x11) rfl (by kernel_rfl) (by kernel_rfl) (by kernel_rfl) (fun _ _ _ h => h) (Or.inl ⟨by rfl, ?ra1x11⟩) (by assumption) ?_
            case ra1x11 => (intro w hSw; (try dsimp only at hSw); (go_simp <;> with_reducible rfl))
            try simp only [Act.put, List.setIfInBounds_toArray, List.set_cons_zero, List.set_cons_succ]
            refine wpAnyH_take (i := 12) (oi := { dst := some 101, op := Go.Op.binOp Go.BinOp.eql 3 (Go.Operand.tmp 100) (Go.Operand.const (Go.Value.int Go.IntKind.i64 0)) 3, type := 4, pos := "law.go:99", after := #[{ on := 11, ground := Go.Ground.data }, { on := 9, ground := Go.Ground.guard }], guard := some (9, false) }) (v := (.bool false)) rfl (by kernel_rfl) (by kernel_rfl) (by kernel_rfl) (fun _ _ _ h => h) (Or.inl ⟨by rfl, ?ra1x12⟩) (by assumption) ?_
            case ra1x12 => (intro w hSw; (try dsimp only at hSw); go_simp; exact HF.out)
            try simp only [Act.put, List.setIfInBounds_toArray, List.set_cons_zero, List.set_cons_succ]
            refine wpAnyH_take (i := 13) (oi := { dst := some 102, op := Go.Op.move (Go.Operand.tmp 101), type := 4, pos := "law.go:99", after := #[{ on := 12, ground := Go.Ground.data }, { on := 9, ground := Go.Ground.chain }, { on := 9, ground := Go.Ground.guard }], guard := some (9, false) }) (v := ?va1x13) rfl (by kernel_rfl) (by kernel_rfl) (by kernel_rfl) (fun _ _ _ h => h) (Or.inl ⟨by rfl, ?ra1x13⟩) (by assumption) ?_
            case ra1x13 => (intro w hSw; (try dsimp only at hSw); (go_simp <;> with_reducible rfl))
            try simp only [Act.put, List.setIfInBounds_toArray, List.set_cons_zero, List.set_cons_succ]
            refine wpAnyH_take (i := 14) (oi := { dst := some 103, op := Go.Op.move (Go.Operand.tmp 5), type := 25, pos := "law.go:99", after := #[{ on := 13, ground := Go.Ground.guard }], guard := some (13, true) }) (v := undef) rfl (by kernel_rfl) (by kernel_rfl) (by kernel_rfl) (fun _ _ _ h => h) (Or.inr ⟨by rfl, rfl⟩) (by assumption) ?_
            try simp only [Act.put, List.setIfInBounds_toArray, List.set_cons_zero, List.set_cons_succ]
            refine wpAnyH_take (i := 15) (oi := { dst := some 104, op := Go.Op.call { callee := Go.Callee.value (Go.Operand.func 23), args := #[Go.Operand.tmp 103], argTypes := #[25] }, type := 3, pos := "law.go:99", after := #[{ on := 14, ground := Go.Ground.data }, { on := 13, ground := Go.Ground.chain }, { on := 13, ground := Go.Ground.guard }], guard := some (13, true) }) (v := undef) rfl (by kernel_rfl) (by kernel_rfl) (by kernel_rfl) (fun _ _ _ h => h) (Or.inr ⟨by rfl, rfl⟩) (by assumption) ?_
            try simp only [Act.put, List.setIfInBounds_toArray, List.set_cons_zero, List.set_cons_succ]
            refine wpAnyH_take (i := 16) (oi := { dst := some 105, op := Go.Op.fieldAddr 28 (Go.Operand.tmp 6) 0, type := 0, pos := "law.go:99", after := #[{ on := 13, ground := Go.Ground.guard }], guard := some (13, true) }) (v := undef) rfl (by kernel_rfl) (by kernel_rfl) (by kernel_rfl) (fun _ _ _ h => h) (Or.inr ⟨by rfl, rfl⟩) (by assumption) ?_
            try simp only [Act.put, List.setIfInBounds_toArray, List.set_cons_zero, List.set_cons_succ]
            refine wpAnyH_take (i := 17) (oi := { dst := some 106, op := Go.Op.load 9 (Go.Operand.tmp 105), type := 9, pos := "law.go:99", after := #[{ on := 16, ground := Go.Ground.data }, { on := 13, ground := Go.Ground.guard }], guard := some (13, true) }) (v := undef) rfl (by kernel_rfl) (by kernel_rfl) (by kernel_rfl) (fun _ _ _ h => h) (Or.inr ⟨by rfl, rfl⟩) (by assumption) ?_
            try simp only [Act.put, List.setIfInBounds_toArray, List.set_cons_zero, List.set_cons_succ]
            refine wpAnyH_take (i := 18) (oi := { dst := some 107, op := Go.Op.call { callee := Go.Callee.builtin Go.Builtin.len, args := #[Go.Operand.tmp 106], argTypes := #[9] }, type := 3, pos := "law.go:99", after := #[{ on := 17, ground := Go.Ground.data }, { on := 13, ground := Go.Ground.guard }], guard := some (13, true) }) (v := undef) rfl (by kernel_rfl) (by kernel_rfl) (by kernel_rfl) (fun _ _ _ h => h) (Or.inr ⟨by rfl, rfl⟩) (by assumption) ?_
            try simp only [Act.put, List.setIfInBounds_toArray, List.set_cons_zero, List.set_cons_succ]
            refine wpAnyH_take (i := 19) (oi := { dst := some 108, op := Go.Op.binOp Go.BinOp.neq 3 (Go.Operand.tmp 104) (Go.Operand.tmp 107) 3, type := 4, pos := "law.go:99", after := #[{ on := 15, ground := Go.Ground.data }, { on := 18, ground := Go.Ground.data }, { on := 13, ground := Go.Ground.guard }], guard := some (13, true) }) (v := undef) rfl (by kernel_rfl) (by kernel_rfl) (by kernel_rfl) (fun _ _ _ h => h) (Or.inr ⟨by rfl, rfl⟩) (by assumption) ?_
            try simp only [Act.put, List.setIfInBounds_toArray, List.set_cons_zero, List.set_cons_succ]
            refine wpAnyH_take (i := 20) (oi := { dst := some 109, op := Go.Op.pick (Go.Operand.tmp 102) (Go.Operand.tmp 108) (Go.Operand.const (Go.Value.bool false)), type := 4, pos := "law.go:99", after := #[{ on := 13, ground := Go.Ground.data }, { on := 19, ground := Go.Ground.data }, { on := 9, ground := Go.Ground.guard }], guard := some (9, false) }) (v := ?va1x20) rfl (by kernel_rfl) (by kernel_rfl) (by kernel_rfl) (fun _ _ _ h => h) (Or.inl ⟨by rfl, ?ra1x20⟩) (by assumption) ?_
            case ra1x20 => (intro w hSw; (try dsimp only at hSw); (go_simp <;> with_reducible rfl))
            try simp only [Act.put, List.setIfInBounds_toArray, List.set_cons_zero, List.set_cons_succ]
            refine wpAnyH_take (i := 21) (oi := { dst := some 110, op := Go.Op.pick (Go.Operand.tmp 98) (Go.Operand.const (Go.Value.bool true)) (Go.Operand.tmp 109), type := 4, pos := "law.go:99", after := #[{ on := 9, ground := Go.Ground.data }, { on := 20, ground := Go.Ground.data }], guard := none }) (v := ?va1x21) rfl (by kernel_rfl) (by kernel_rfl) (by kernel_rfl) (fun _ _ _ h => h) (Or.inl ⟨by rfl, ?ra1x21⟩) (by assumption) ?_
            case ra1x21 => (intro w hSw; (try dsimp only at hSw); (go_simp <;> with_reducible rfl))
            try simp only [Act.put, List.setIfInBounds_toArray, List.set_cons_zero, List.set_cons_succ]
            refine wpAnyH_done (by kernel_rfl) ?_ _
            have HE9 := (h1).2
            clear h1 HS0
            go_wp2
            go_roundw
            case rel => exact ⟨k + 1, x, f, by omega, by go_num, hxz, HE9.out.1, HE9.out.2.1, HE9.out.2.2.1, HE9.out.2.2.2⟩
            case measure => simp [intOf]; omega
      by_cases k2 : K = 2
      · subst k2
        have hle := bS_le R e
        obtain ⟨x, f, v, hu⟩ : ∃ x f v, bS R e = (x, f, v) := ⟨_, _, _, rfl⟩
        rw [hu] at hle
        simp only at hle
        have HU := Lib.hid hu
        have hxz : x.size ≤ 500 := by omega
        clear hu hle
        go_wp2_with fail
        refine (rb_is HU.out _ (by omega)).mono ?_
        rintro en w5 ⟨rfl, hg⟩
        have o2 := hg.own.1 2 _ rfl
        have ol5 := hg.own.2.2
        have hz := (((Gr.refl wr).alloc (.cells #[.int .i64 2, .int .u64 (U : Int), .int .i64 N, .string S] 32)).trans hg)
        have hz2 := hz.alloc (.cells #[.string x, .int .i64 (f : Int)] 28) |>.drew
        have HRB := Lib.hid (hRd.out.gr hz2)
        have HCB := Lib.hid (hCu.out.gr hz2)
        have HGB := Lib.hid (hG.out.trans hz2)
        have HPB := Lib.hid (hPr.out.gr hz2)
        have hne1 : w5.heap.size ≠ pr := Nat.ne_of_gt (Nat.lt_of_lt_of_le (cell_lt hRd.out.1) hz.size)
        have hne2 : wr.heap.size ≠ pr := Nat.ne_of_gt (cell_lt hRd.out.1)
        obtain ⟨hbne, hbnc⟩ := HB.out _ _ rfl
        clear hg hz hz2
        go_wp2
        have Y0 : Hid (((w5.alloc (.cells #[.string x, .int .i64 (f : Int)] 28)).drew).cell? ⟨w5.heap.size, 0, none⟩ = some (.string x)) := Lib.hid (((Gr.refl _).drew).cell (new_cell rfl rfl))
        have Y1 : Hid (((w5.alloc (.cells #[.string x, .int .i64 (f : Int)] 28)).drew).cell? ⟨w5.heap.size, 1, none⟩ = some (.int .i64 (f : Int))) := Lib.hid (((Gr.refl _).drew).cell (new_cell rfl rfl))
        apply cutS (fun w7 => RdIs w7 pr x f ∧ RdIs w7 pc x f ∧ Gr w w7 ∧ PartRow w7 (some ⟨b, off, none⟩) F)
        case main =>
          intro HL
          go_region_with (go_at_call 19; go_loud (refine (rB_any pr R e _ HRB.out).mono ?_; intro en w6 hU; obtain ⟨rfl, hR6, hO6⟩ := bIs_is HU hU; have y0 := hO6.cell hne1 Y0.out; have y1 := hO6.cell hne1 Y1.out; have HST6 := Lib.hid (stand HCB.out hR6 hO6 HGB.out hpr hlt3); obtain ⟨p0, p1, f0, f1, -⟩ := HCB.out.only hO6 (Nat.ne_of_gt hlt3); have HP6 := Lib.hid (HPB.out.only hO6 hbne); clear hR6 hU))
          all_goals
            obtain ⟨hR7, hC7, hG7⟩ := HST6.out
            have hP7 := (HP6.out.only (Only.setCell pc 0 w6 (.string x)) hbnc).only (Only.setCell pc 1 _ (.int .i64 (f : Int))) hbnc
            clear y0 y1 p0 p1 f0 f1 hO6 HP6 HST6
            generalize ((w6.setCell ⟨pc, 0, none⟩ (.string x)).setCell ⟨pc, 1, none⟩ (.int .i64 (f : Int))) = w7 at *
            exact HL w7 ⟨hR7, hC7, hG7, hP7⟩
        case rest =>
          rintro w7 ⟨hR7, hC7, hG7, hP7⟩
          clear Y0 Y1 HRB HCB HGB HPB c0 c1 c2 c3 q0 q1 o2 ol ql qn ol5 hne1 hne2 hbne hbnc hN
          have HR7 := Lib.hid hR7
          have HG7 := Lib.hid hG7
          have HC7 := Lib.hid hC7
          have HP7 := Lib.hid hP7
          obtain ⟨z0, z1, -, -, -⟩ := hC7
          clear hR7 hG7 hP7
          have CE := Lib.hid (fun n => same_of (err_any pr x f (w7.drewN n) (HR7.out.gr ((Gr.refl w7).drewN n))))
          have CL := Lib.hid (fun n => same_of (left_any pr x f (w7.drewN n) (HR7.out.gr ((Gr.refl w7).drewN n))))
          go_wp2
          by_cases hf : f = 0
          · subst hf
            go_quiet ((first | (go_at_call 22; exact Calls.quiet_of_same (CE.out _)) | (go_at_call 23; exact Calls.quiet_of_same (CL.out _))))
            go_wp2
            go_roundw
            case rel => exact ⟨k + 1, x, 0, by omega, by go_num, hxz, HR7.out.gr ((Gr.refl w7).drewN nq), HC7.out.gr ((Gr.refl w7).drewN nq), HG7.out.trans ((Gr.refl w7).drewN nq), HP7.out.gr ((Gr.refl w7).drewN nq)⟩
            case measure => simp [intOf]; omega
          · have tf : ((f : Int) == 0) = false := by simp; omega
            have HF := Lib.hid hf
            clear hf tf CE CL
            have HS0 : (fun w9 => w9.cell? ⟨pc, 1, none⟩ = some (.int .i64 (f : Nat)) ∧ Hid (RdIs w9 pr x f ∧ RdIs w9 pc x f ∧ Gr w w9 ∧ PartRow w9 (some ⟨b, off, none⟩) F)) w7 := ⟨z1, Lib.hid ⟨HR7.out, HC7.out, HG7.out, HP7.out⟩⟩
            have HX : Hid (∀ w0 w9 : World, Gr w0 w9 → (fun w9 => w9.cell? ⟨pc, 1, none⟩ = some (.int .i64 (f : Nat)) ∧ Hid (RdIs w9 pr x f ∧ RdIs w9 pc x f ∧ Gr w w9 ∧ PartRow w9 (some ⟨b, off, none⟩) F)) w0 → (fun w9 => w9.cell? ⟨pc, 1, none⟩ = some (.int .i64 (f : Nat)) ∧ Hid (RdIs w9 pr x f ∧ RdIs w9 pc x f ∧ Gr w w9 ∧ PartRow w9 (some ⟨b, off, none⟩) F)) w9) := Lib.hid fun w0 w9 hg ⟨h2, h6⟩ => ⟨hg.cell h2, Lib.hid ⟨h6.out.1.gr hg, h6.out.2.1.gr hg, h6.out.2.2.1.trans hg, h6.out.2.2.2.gr hg⟩⟩
            clear z0 z1
            refine wp_region_held_drew (S := (fun w9 => w9.cell? ⟨pc, 1, none⟩ = some (.int .i64 (f : Nat)) ∧ Hid (RdIs w9 pr x f ∧ RdIs w9 pc x f ∧ Gr w w9 ∧ PartRow w9 (some ⟨b, off, none⟩) F))) (by kernel_rfl) ?inva2 (fun h0 => ?_)
            case inva2 => ((try dsimp only); (first | exact HS0 | exact HX.out _ _ ((Gr.refl _).drew) HS0))
            refine wpAnyH_take (i := 0) (oi := { dst := some 89, op := Go.Op.move (Go.Operand.tmp 9), type := 4, pos := "law.go:99", after := #[], guard := none }) (v := ?va2x0) rfl (by kernel_rfl) (by kernel_rfl) (by kernel_rfl) (fun _ _ _ h => h) (Or.inl ⟨by rfl, ?ra2x0⟩) (by assumption) ?_
            case ra2x0 => (intro w hSw; (try dsimp only at hSw); (go_simp <;> with_reducible rfl))
            try simp only [Act.put, List.setIfInBounds_toArray, List.set_cons_zero, List.set_cons_succ]
            refine wpAnyH_take (i := 1) (oi := { dst := some 90, op := Go.Op.unOp Go.UnOp.not 4 (Go.Operand.tmp 89), type := 4, pos := "law.go:99", after := #[{ on := 0, ground := Go.Ground.data }], guard := none }) (v := ?va2x1) rfl (by kernel_rfl) (by kernel_rfl) (by kernel_rfl) (fun _ _ _ h => h) (Or.inl ⟨by rfl, ?ra2x1⟩) (by assumption) ?_
            case ra2x1 => (intro w hSw; (try dsimp only at hSw); (go_simp <;> with_reducible rfl))
            try simp only [Act.put, List.setIfInBounds_toArray, List.set_cons_zero, List.set_cons_succ]
            refine wpAnyH_take (i := 2) (oi := { dst := some 91, op := Go.Op.move (Go.Operand.tmp 90), type := 4, pos := "law.go:99", after := #[{ on := 1, ground := Go.Ground.data }], guard := none }) (v := ?va2x2) rfl (by kernel_rfl) (by kernel_rfl) (by kernel_rfl) (fun _ _ _ h => h) (Or.inl ⟨by rfl, ?ra2x2⟩) (by assumption) ?_
            case ra2x2 => (intro w hSw; (try dsimp only at hSw); (go_simp <;> with_reducible rfl))
            try simp only [Act.put, List.setIfInBounds_toArray, List.set_cons_zero, List.set_cons_succ]
            refine wpAnyH_take (i := 3) (oi := { dst := some 92, op := Go.Op.move (Go.Operand.tmp 5), type := 25, pos := "law.go:99", after := #[{ on := 2, ground := Go.Ground.guard }], guard := some (2, false) }) (v := ?va2x3) rfl (by kernel_rfl) (by kernel_rfl) (by kernel_rfl) (fun _ _ _ h => h) (Or.inl ⟨by rfl, ?ra2x3⟩) (by assumption) ?_
            case ra2x3 => (intro w hSw; (try dsimp only at hSw); (go_simp <;> with_reducible rfl))
            try simp only [Act.put, List.setIfInBounds_toArray, List.set_cons_zero, List.set_cons_succ]
            refine wpAnyH_take (i := 5) (oi := { dst := some 94, op := Go.Op.fieldAddr 28 (Go.Operand.tmp 6) 1, type := 0, pos := "law.go:99", after := #[{ on := 2, ground := Go.Ground.guard }], guard := some (2, false) }) (v := ?va2x5) rfl (by kernel_rfl) (by kernel_rfl) (by kernel_rfl) (fun _ _ _ h => h) (Or.inl ⟨by rfl, ?ra2x5⟩) (by assumption) ?_
            case ra2x5 => (intro w hSw; (try dsimp only at hSw); (go_simp <;> with_reducible rfl))
            try simp only [Act.put, List.setIfInBounds_toArray, List.set_cons_zero, List.set_cons_succ]
            refine wpAnyH_take (i := 6) (oi := { dst := some 95, op := Go.Op.load 3 (Go.Operand.tmp 94), type := 3, pos := "law.go:99", after := #[{ on := 5, ground := Go.Ground.data }, { on := 2, ground := Go.Ground.guard }], guard := some (2, false) }) (v := ?va2x6) rfl (by kernel_rfl) (by kernel_rfl) (by kernel_rfl) (fun _ _ _ h => h) (Or.inl ⟨by rfl, ?ra2x6⟩) (by assumption) ?_
            case ra2x6 => (intro w hSw; (try dsimp only at hSw); (go_simp <;> with_reducible rfl))
            try simp only [Act.put, List.setIfInBounds_toArray, List.set_cons_zero, List.set_cons_succ]
            refine wpAnyH_ready (rs := [4]) (by kernel_rfl) (by simp) ?_
            refine AllReadyH.cons (o := { dst := some 93, op := Go.Op.call { callee := Go.Callee.value (Go.Operand.func 22), args := #[Go.Operand.tmp 92], argTypes := #[25] }, type := 44, pos := "law.go:99", after := #[{ on := 3, ground := Go.Ground.data }, { on := 2, ground := Go.Ground.chain }, { on := 2, ground := Go.Ground.guard }], guard := some (2, false) }) rfl (fun K hK => ?_) AllReadyH.nil
            go_simp
            (go_at_call 22; refine (err_any pr x f _ (h0).2.out.1).mono ?_; rintro e w9 ⟨rfl, rfl⟩)
            first | refine hK.out _ _ ?sa2x1 (fun h1 => ?_) | (go_wp2_with fail; refine hK.out _ _ ?sa2x1 (fun h1 => ?_))
            case sa2x1 => ((try dsimp only); exact h0)
            clear hK K h0
            try simp only [Act.put, List.setIfInBounds_toArray, List.set_cons_zero, List.set_cons_succ]
            refine wpAnyH_take (i := 7) (oi := { dst := some 96, op := Go.Op.binOp Go.BinOp.neq 3 (Go.Operand.tmp 93) (Go.Operand.tmp 95) 3, type := 4, pos := "law.go:99", after := #[{ on := 4, ground := Go.Ground.data }, { on := 6, ground := Go.Ground.data }, { on := 2, ground := Go.Ground.guard }], guard := some (2, false) }) (v := ?va2x7) rfl (by kernel_rfl) (by kernel_rfl) (by kernel_rfl) (fun _ _ _ h => h) (Or.inl ⟨by rfl, ?ra2x7⟩) (by assumption) ?_
            case ra2x7 => (intro w hSw; (try dsimp only at hSw); (go_simp <;> with_reducible rfl))
            try simp only [Act.put, List.setIfInBounds_toArray, List.set_cons_zero, List.set_cons_succ]
            refine wpAnyH_take (i := 8) (oi := { dst := some 97, op := Go.Op.pick (Go.Operand.tmp 91) (Go.Operand.const (Go.Value.bool true)) (Go.Operand.tmp 96), type := 4, pos := "law.go:99", after := #[{ on := 2, ground := Go.Ground.data }, { on := 7, ground := Go.Ground.data }], guard := none }) (v := ?va2x8) rfl (by kernel_rfl) (by kernel_rfl) (by kernel_rfl) (fun _ _ _ h => h) (Or.inl ⟨by rfl, ?ra2x8⟩) (by assumption) ?_
            case ra2x8 => (intro w hSw; (try dsimp only at hSw); (go_simp <;> with_reducible rfl))
            try simp only [Act.put, List.setIfInBounds_toArray, List.set_cons_zero, List.set_cons_succ]
            refine wpAnyH_take (i := 9) (oi := { dst := some 98, op := Go.Op.move (Go.Operand.tmp 97), type := 4, pos := "law.go:99", after := #[{ on := 8, ground := Go.Ground.data }, { on := 4, ground := Go.Ground.chain }], guard := none }) (v := ?va2x9) rfl (by kernel_rfl) (by kernel_rfl) (by kernel_rfl) (fun _ _ _ h => h) (Or.inl ⟨by rfl, ?ra2x9⟩) (by assumption) ?_
            case ra2x9 => (intro w hSw; (try dsimp only at hSw); (go_simp <;> with_reducible rfl))
            try simp only [Act.put, List.setIfInBounds_toArray, List.set_cons_zero, List.set_cons_succ]
            refine wpAnyH_take (i := 10) (oi := { dst := some 99, op := Go.Op.fieldAddr 28 (Go.Operand.tmp 6) 1, type := 0, pos := "law.go:99", after := #[{ on := 9, ground := Go.Ground.guard }], guard := some (9, false) }) (v := ?va2x10) rfl (by kernel_rfl) (by kernel_rfl) (by kernel_rfl) (fun _ _ _ h => h) (Or.inl ⟨by rfl, ?ra2x10⟩) (by assumption) ?_
            case ra2x10 => (intro w hSw; (try dsimp only at hSw); (go_simp <;> with_reducible rfl))
            try simp only [Act.put, List.setIfInBounds_toArray, List.set_cons_zero, List.set_cons_succ]
            refine wpAnyH_take (i := 11) (oi := { dst := some 100, op := Go.Op.load 3 (Go.Operand.tmp 99), type := 3, pos := "law.go:99", after := #[{ on := 10, ground := Go.Ground.data }, { on := 9, ground := Go.Ground.guard }], guard := some (9, false) }) (v := ?va2x11) rfl (by kernel_rfl) (by kernel_rfl) (by kernel_rfl) (fun _ _ _ h => h) (Or.inl ⟨by rfl, ?ra2x11⟩) (by assumption) ?_
            case ra2x11 => (intro w hSw; (try dsimp only at hSw); (go_simp <;> with_reducible rfl))
            try simp only [Act.put, List.setIfInBounds_toArray, List.set_cons_zero, List.set_cons_succ]
            refine wpAnyH_take (i := 12) (oi := { dst := some 101, op := Go.Op.binOp Go.BinOp.eql 3 (Go.Operand.tmp 100) (Go.Operand.const (Go.Value.int Go.IntKind.i64 0)) 3, type := 4, pos := "law.go:99", after := #[{ on := 11, ground := Go.Ground.data }, { on := 9, ground := Go.Ground.guard }], guard := some (9, false) }) (v := (.bool false)) rfl (by kernel_rfl) (by kernel_rfl) (by kernel_rfl) (fun _ _ _ h => h) (Or.inl ⟨by rfl, ?ra2x12⟩) (by assumption) ?_
            case ra2x12 => (intro w hSw; (try dsimp only at hSw); go_simp; exact HF.out)
            try simp only [Act.put, List.setIfInBounds_toArray, List.set_cons_zero, List.set_cons_succ]
            refine wpAnyH_take (i := 13) (oi := { dst := some 102, op := Go.Op.move (Go.Operand.tmp 101), type := 4, pos := "law.go:99", after := #[{ on := 12, ground := Go.Ground.data }, { on := 9, ground := Go.Ground.chain }, { on := 9, ground := Go.Ground.guard }], guard := some (9, false) }) (v := ?va2x13) rfl (by kernel_rfl) (by kernel_rfl) (by kernel_rfl) (fun _ _ _ h => h) (Or.inl ⟨by rfl, ?ra2x13⟩) (by assumption) ?_
            case ra2x13 => (intro w hSw; (try dsimp only at hSw); (go_simp <;> with_reducible rfl))
            try simp only [Act.put, List.setIfInBounds_toArray, List.set_cons_zero, List.set_cons_succ]
            refine wpAnyH_take (i := 14) (oi := { dst := some 103, op := Go.Op.move (Go.Operand.tmp 5), type := 25, pos := "law.go:99", after := #[{ on := 13, ground := Go.Ground.guard }], guard := some (13, true) }) (v := undef) rfl (by kernel_rfl) (by kernel_rfl) (by kernel_rfl) (fun _ _ _ h => h) (Or.inr ⟨by rfl, rfl⟩) (by assumption) ?_
            try simp only [Act.put, List.setIfInBounds_toArray, List.set_cons_zero, List.set_cons_succ]
            refine wpAnyH_take (i := 15) (oi := { dst := some 104, op := Go.Op.call { callee := Go.Callee.value (Go.Operand.func 23), args := #[Go.Operand.tmp 103], argTypes := #[25] }, type := 3, pos := "law.go:99", after := #[{ on := 14, ground := Go.Ground.data }, { on := 13, ground := Go.Ground.chain }, { on := 13, ground := Go.Ground.guard }], guard := some (13, true) }) (v := undef) rfl (by kernel_rfl) (by kernel_rfl) (by kernel_rfl) (fun _ _ _ h => h) (Or.inr ⟨by rfl, rfl⟩) (by assumption) ?_
            try simp only [Act.put, List.setIfInBounds_toArray, List.set_cons_zero, List.set_cons_succ]
            refine wpAnyH_take (i := 16) (oi := { dst := some 105, op := Go.Op.fieldAddr 28 (Go.Operand.tmp 6) 0, type := 0, pos := "law.go:99", after := #[{ on := 13, ground := Go.Ground.guard }], guard := some (13, true) }) (v := undef) rfl (by kernel_rfl) (by kernel_rfl) (by kernel_rfl) (fun _ _ _ h => h) (Or.inr ⟨by rfl, rfl⟩) (by assumption) ?_
            try simp only [Act.put, List.setIfInBounds_toArray, List.set_cons_zero, List.set_cons_succ]
            refine wpAnyH_take (i := 17) (oi := { dst := some 106, op := Go.Op.load 9 (Go.Operand.tmp 105), type := 9, pos := "law.go:99", after := #[{ on := 16, ground := Go.Ground.data }, { on := 13, ground := Go.Ground.guard }], guard := some (13, true) }) (v := undef) rfl (by kernel_rfl) (by kernel_rfl) (by kernel_rfl) (fun _ _ _ h => h) (Or.inr ⟨by rfl, rfl⟩) (by assumption) ?_
            try simp only [Act.put, List.setIfInBounds_toArray, List.set_cons_zero, List.set_cons_succ]
            refine wpAnyH_take (i := 18) (oi := { dst := some 107, op := Go.Op.call { callee := Go.Callee.builtin Go.Builtin.len, args := #[Go.Operand.tmp 106], argTypes := #[9] }, type := 3, pos := "law.go:99", after := #[{ on := 17, ground := Go.Ground.data }, { on := 13, ground := Go.Ground.guard }], guard := some (13, true) }) (v := undef) rfl (by kernel_rfl) (by kernel_rfl) (by kernel_rfl) (fun _ _ _ h => h) (Or.inr ⟨by rfl, rfl⟩) (by assumption) ?_
            try simp only [Act.put, List.setIfInBounds_toArray, List.set_cons_zero, List.set_cons_succ]
            refine wpAnyH_take (i := 19) (oi := { dst := some 108, op := Go.Op.binOp Go.BinOp.neq 3 (Go.Operand.tmp 104) (Go.Operand.tmp 107) 3, type := 4, pos := "law.go:99", after := #[{ on := 15, ground := Go.Ground.data }, { on := 18, ground := Go.Ground.data }, { on := 13, ground := Go.Ground.guard }], guard := some (13, true) }) (v := undef) rfl (by kernel_rfl) (by kernel_rfl) (by kernel_rfl) (fun _ _ _ h => h) (Or.inr ⟨by rfl, rfl⟩) (by assumption) ?_
            try simp only [Act.put, List.setIfInBounds_toArray, List.set_cons_zero, List.set_cons_succ]
            refine wpAnyH_take (i := 20) (oi := { dst := some 109, op := Go.Op.pick (Go.Operand.tmp 102) (Go.Operand.tmp 108) (Go.Operand.const (Go.Value.bool false)), type := 4, pos := "law.go:99", after := #[{ on := 13, ground := Go.Ground.data }, { on := 19, ground := Go.Ground.data }, { on := 9, ground := Go.Ground.guard }], guard := some (9, false) }) (v := ?va2x20) rfl (by kernel_rfl) (by kernel_rfl) (by kernel_rfl) (fun _ _ _ h => h) (Or.inl ⟨by rfl, ?ra2x20⟩) (by assumption) ?_
            case ra2x20 => (intro w hSw; (try dsimp only at hSw); (go_simp <;> with_reducible rfl))
            try simp only [Act.put, List.setIfInBounds_toArray, List.set_cons_zero, List.set_cons_succ]
            refine wpAnyH_take (i := 21) (oi := { dst := some 110, op := Go.Op.pick (Go.Operand.tmp 98) (Go.Operand.const (Go.Value.bool true)) (Go.Operand.tmp 109), type := 4, pos := "law.go:99", after := #[{ on := 9, ground := Go.Ground.data }, { on := 20, ground := Go.Ground.data }], guard := none }) (v := ?va2x21) rfl (by kernel_rfl) (by kernel_rfl) (by kernel_rfl) (fun _ _ _ h => h) (Or.inl ⟨by rfl, ?ra2x21⟩) (by assumption) ?_
            case ra2x21 => (intro w hSw; (try dsimp only at hSw); (go_simp <;> with_reducible rfl))
            try simp only [Act.put, List.setIfInBounds_toArray, List.set_cons_zero, List.set_cons_succ]
            refine wpAnyH_done (by kernel_rfl) ?_ _
            have HE9 := (h1).2
            clear h1 HS0
            go_wp2
            go_roundw
            case rel => exact ⟨k + 1, x, f, by omega, by go_num, hxz, HE9.out.1, HE9.out.2.1, HE9.out.2.2.1, HE9.out.2.2.2⟩
            case measure => simp [intOf]; omega
      · skip
        have hle := sS_le R e N
        obtain ⟨x, f, v, hu⟩ : ∃ x f v, sS R e N = (x, f, v) := ⟨_, _, _, rfl⟩
        rw [hu] at hle
        simp only at hle
        have HU := Lib.hid hu
        have hxz : x.size ≤ 500 := by omega
        clear hu hle
        go_wp2_with fail
        refine (rs_is HU.out _ (by omega) hN).mono ?_
        rintro en w5 ⟨rfl, hg⟩
        have o2 := hg.own.1 2 _ rfl
        have ol5 := hg.own.2.2
        have hz := (((Gr.refl wr).alloc (.cells #[.int .i64 K, .int .u64 (U : Int), .int .i64 N, .string S] 32)).trans hg)
        have hz2 := hz.alloc (.cells #[.string x, .int .i64 (f : Int)] 28) |>.drew
        have HRB := Lib.hid (hRd.out.gr hz2)
        have HCB := Lib.hid (hCu.out.gr hz2)
        have HGB := Lib.hid (hG.out.trans hz2)
        have HPB := Lib.hid (hPr.out.gr hz2)
        have hne1 : w5.heap.size ≠ pr := Nat.ne_of_gt (Nat.lt_of_lt_of_le (cell_lt hRd.out.1) hz.size)
        have hne2 : wr.heap.size ≠ pr := Nat.ne_of_gt (cell_lt hRd.out.1)
        obtain ⟨hbne, hbnc⟩ := HB.out _ _ rfl
        clear hg hz hz2
        go_wp2
        have Y0 : Hid (((w5.alloc (.cells #[.string x, .int .i64 (f : Int)] 28)).drew).cell? ⟨w5.heap.size, 0, none⟩ = some (.string x)) := Lib.hid (((Gr.refl _).drew).cell (new_cell rfl rfl))
        have Y1 : Hid (((w5.alloc (.cells #[.string x, .int .i64 (f : Int)] 28)).drew).cell? ⟨w5.heap.size, 1, none⟩ = some (.int .i64 (f : Int))) := Lib.hid (((Gr.refl _).drew).cell (new_cell rfl rfl))
        apply cutS (fun w7 => RdIs w7 pr x f ∧ RdIs w7 pc x f ∧ Gr w w7 ∧ PartRow w7 (some ⟨b, off, none⟩) F)
        case main =>
          intro HL
          go_region_with (go_at_call 21; go_loud (refine (rS_any pr R e N hN (by omega) _ HRB.out).mono ?_; intro en w6 hU; obtain ⟨rfl, hR6, hO6⟩ := sIs_is HU hU; have y0 := hO6.cell hne1 Y0.out; have y1 := hO6.cell hne1 Y1.out; have HST6 := Lib.hid (stand HCB.out hR6 hO6 HGB.out hpr hlt3); obtain ⟨p0, p1, f0, f1, -⟩ := HCB.out.only hO6 (Nat.ne_of_gt hlt3); have HP6 := Lib.hid (HPB.out.only hO6 hbne); clear hR6 hU))
          all_goals
            obtain ⟨hR7, hC7, hG7⟩ := HST6.out
            have hP7 := (HP6.out.only (Only.setCell pc 0 w6 (.string x)) hbnc).only (Only.setCell pc 1 _ (.int .i64 (f : Int))) hbnc
            clear y0 y1 p0 p1 f0 f1 hO6 HP6 HST6
            generalize ((w6.setCell ⟨pc, 0, none⟩ (.string x)).setCell ⟨pc, 1, none⟩ (.int .i64 (f : Int))) = w7 at *
            exact HL w7 ⟨hR7, hC7, hG7, hP7⟩
        case rest =>
          rintro w7 ⟨hR7, hC7, hG7, hP7⟩
          clear Y0 Y1 HRB HCB HGB HPB c0 c1 c2 c3 q0 q1 o2 ol ql qn ol5 hne1 hne2 hbne hbnc hN
          have HR7 := Lib.hid hR7
          have HG7 := Lib.hid hG7
          have HC7 := Lib.hid hC7
          have HP7 := Lib.hid hP7
          obtain ⟨z0, z1, -, -, -⟩ := hC7
          clear hR7 hG7 hP7
          have CE := Lib.hid (fun n => same_of (err_any pr x f (w7.drewN n) (HR7.out.gr ((Gr.refl w7).drewN n))))
          have CL := Lib.hid (fun n => same_of (left_any pr x f (w7.drewN n) (HR7.out.gr ((Gr.refl w7).drewN n))))
          go_wp2
          by_cases hf : f = 0
          · subst hf
            go_quiet ((first | (go_at_call 22; exact Calls.quiet_of_same (CE.out _)) | (go_at_call 23; exact Calls.quiet_of_same (CL.out _))))
            go_wp2
            go_roundw
            case rel => exact ⟨k + 1, x, 0, by omega, by go_num, hxz, HR7.out.gr ((Gr.refl w7).drewN nq), HC7.out.gr ((Gr.refl w7).drewN nq), HG7.out.trans ((Gr.refl w7).drewN nq), HP7.out.gr ((Gr.refl w7).drewN nq)⟩
            case measure => simp [intOf]; omega
          · have tf : ((f : Int) == 0) = false := by simp; omega
            have HF := Lib.hid hf
            clear hf tf CE CL
            have HS0 : (fun w9 => w9.cell? ⟨pc, 1, none⟩ = some (.int .i64 (f : Nat)) ∧ Hid (RdIs w9 pr x f ∧ RdIs w9 pc x f ∧ Gr w w9 ∧ PartRow w9 (some ⟨b, off, none⟩) F)) w7 := ⟨z1, Lib.hid ⟨HR7.out, HC7.out, HG7.out, HP7.out⟩⟩
            have HX : Hid (∀ w0 w9 : World, Gr w0 w9 → (fun w9 => w9.cell? ⟨pc, 1, none⟩ = some (.int .i64 (f : Nat)) ∧ Hid (RdIs w9 pr x f ∧ RdIs w9 pc x f ∧ Gr w w9 ∧ PartRow w9 (some ⟨b, off, none⟩) F)) w0 → (fun w9 => w9.cell? ⟨pc, 1, none⟩ = some (.int .i64 (f : Nat)) ∧ Hid (RdIs w9 pr x f ∧ RdIs w9 pc x f ∧ Gr w w9 ∧ PartRow w9 (some ⟨b, off, none⟩) F)) w9) := Lib.hid fun w0 w9 hg ⟨h2, h6⟩ => ⟨hg.cell h2, Lib.hid ⟨h6.out.1.gr hg, h6.out.2.1.gr hg, h6.out.2.2.1.trans hg, h6.out.2.2.2.gr hg⟩⟩
            clear z0 z1
            refine wp_region_held_drew (S := (fun w9 => w9.cell? ⟨pc, 1, none⟩ = some (.int .i64 (f : Nat)) ∧ Hid (RdIs w9 pr x f ∧ RdIs w9 pc x f ∧ Gr w w9 ∧ PartRow w9 (some ⟨b, off, none⟩) F))) (by kernel_rfl) ?inva3 (fun h0 => ?_)
            case inva3 => ((try dsimp only); (first | exact HS0 | exact HX.out _ _ ((Gr.refl _).drew) HS0))
            refine wpAnyH_take (i := 0) (oi := { dst := some 89, op := Go.Op.move (Go.Operand.tmp 9), type := 4, pos := "law.go:99", after := #[], guard := none }) (v := ?va3x0) rfl (by kernel_rfl) (by kernel_rfl) (by kernel_rfl) (fun _ _ _ h => h) (Or.inl ⟨by rfl, ?ra3x0⟩) (by assumption) ?_
            case ra3x0 => (intro w hSw; (try dsimp only at hSw); (go_simp <;> with_reducible rfl))
            try simp only [Act.put, List.setIfInBounds_toArray, List.set_cons_zero, List.set_cons_succ]
            refine wpAnyH_take (i := 1) (oi := { dst := some 90, op := Go.Op.unOp Go.UnOp.not 4 (Go.Operand.tmp 89), type := 4, pos := "law.go:99", after := #[{ on := 0, ground := Go.Ground.data }], guard := none }) (v := ?va3x1) rfl (by kernel_rfl) (by kernel_rfl) (by kernel_rfl) (fun _ _ _ h => h) (Or.inl ⟨by rfl, ?ra3x1⟩) (by assumption) ?_
            case ra3x1 => (intro w hSw; (try dsimp only at hSw); (go_simp <;> with_reducible rfl))
            try simp only [Act.put, List.setIfInBounds_toArray, List.set_cons_zero, List.set_cons_succ]
            refine wpAnyH_take (i := 2) (oi := { dst := some 91, op := Go.Op.move (Go.Operand.tmp 90), type := 4, pos := "law.go:99", after := #[{ on := 1, ground := Go.Ground.data }], guard := none }) (v := ?va3x2) rfl (by kernel_rfl) (by kernel_rfl) (by kernel_rfl) (fun _ _ _ h => h) (Or.inl ⟨by rfl, ?ra3x2⟩) (by assumption) ?_
            case ra3x2 => (intro w hSw; (try dsimp only at hSw); (go_simp <;> with_reducible rfl))
            try simp only [Act.put, List.setIfInBounds_toArray, List.set_cons_zero, List.set_cons_succ]
            refine wpAnyH_take (i := 3) (oi := { dst := some 92, op := Go.Op.move (Go.Operand.tmp 5), type := 25, pos := "law.go:99", after := #[{ on := 2, ground := Go.Ground.guard }], guard := some (2, false) }) (v := ?va3x3) rfl (by kernel_rfl) (by kernel_rfl) (by kernel_rfl) (fun _ _ _ h => h) (Or.inl ⟨by rfl, ?ra3x3⟩) (by assumption) ?_
            case ra3x3 => (intro w hSw; (try dsimp only at hSw); (go_simp <;> with_reducible rfl))
            try simp only [Act.put, List.setIfInBounds_toArray, List.set_cons_zero, List.set_cons_succ]
            refine wpAnyH_take (i := 5) (oi := { dst := some 94, op := Go.Op.fieldAddr 28 (Go.Operand.tmp 6) 1, type := 0, pos := "law.go:99", after := #[{ on := 2, ground := Go.Ground.guard }], guard := some (2, false) }) (v := ?va3x5) rfl (by kernel_rfl) (by kernel_rfl) (by kernel_rfl) (fun _ _ _ h => h) (Or.inl ⟨by rfl, ?ra3x5⟩) (by assumption) ?_
            case ra3x5 => (intro w hSw; (try dsimp only at hSw); (go_simp <;> with_reducible rfl))
            try simp only [Act.put, List.setIfInBounds_toArray, List.set_cons_zero, List.set_cons_succ]
            refine wpAnyH_take (i := 6) (oi := { dst := some 95, op := Go.Op.load 3 (Go.Operand.tmp 94), type := 3, pos := "law.go:99", after := #[{ on := 5, ground := Go.Ground.data }, { on := 2, ground := Go.Ground.guard }], guard := some (2, false) }) (v := ?va3x6) rfl (by kernel_rfl) (by kernel_rfl) (by kernel_rfl) (fun _ _ _ h => h) (Or.inl ⟨by rfl, ?ra3x6⟩) (by assumption) ?_
            case ra3x6 => (intro w hSw; (try dsimp only at hSw); (go_simp <;> with_reducible rfl))
            try simp only [Act.put, List.setIfInBounds_toArray, List.set_cons_zero, List.set_cons_succ]
            refine wpAnyH_ready (rs := [4]) (by kernel_rfl) (by simp) ?_
            refine AllReadyH.cons (o := { dst := some 93, op := Go.Op.call { callee := Go.Callee.value (Go.Operand.func 22), args := #[Go.Operand.tmp 92], argTypes := #[25] }, type := 44, pos := "law.go:99", after := #[{ on := 3, ground := Go.Ground.data }, { on := 2, ground := Go.Ground.chain }, { on := 2, ground := Go.Ground.guard }], guard := some (2, false) }) rfl (fun K hK => ?_) AllReadyH.nil
            go_simp
            (go_at_call 22; refine (err_any pr x f _ (h0).2.out.1).mono ?_; rintro e w9 ⟨rfl, rfl⟩)
            first | refine hK.out _ _ ?sa3x1 (fun h1 => ?_) | (go_wp2_with fail; refine hK.out _ _ ?sa3x1 (fun h1 => ?_))
            case sa3x1 => ((try dsimp only); exact h0)
            clear hK K h0
            try simp only [Act.put, List.setIfInBounds_toArray, List.set_cons_zero, List.set_cons_succ]
            refine wpAnyH_take (i := 7) (oi := { dst := some 96, op := Go.Op.binOp Go.BinOp.neq 3 (Go.Operand.tmp 93) (Go.Operand.tmp 95) 3, type := 4, pos := "law.go:99", after := #[{ on := 4, ground := Go.Ground.data }, { on := 6, ground := Go.Ground.data }, { on := 2, ground := Go.Ground.guard }], guard := some (2, false) }) (v := ?va3x7) rfl (by kernel_rfl) (by kernel_rfl) (by kernel_rfl) (fun _ _ _ h => h) (Or.inl ⟨by rfl, ?ra3x7⟩) (by assumption) ?_
            case ra3x7 => (intro w hSw; (try dsimp only at hSw); (go_simp <;> with_reducible rfl))
            try simp only [Act.put, List.setIfInBounds_toArray, List.set_cons_zero, List.set_cons_succ]
            refine wpAnyH_take (i := 8) (oi := { dst := some 97, op := Go.Op.pick (Go.Operand.tmp 91) (Go.Operand.const (Go.Value.bool true)) (Go.Operand.tmp 96), type := 4, pos := "law.go:99", after := #[{ on := 2, ground := Go.Ground.data }, { on := 7, ground := Go.Ground.data }], guard := none }) (v := ?va3x8) rfl (by kernel_rfl) (by kernel_rfl) (by kernel_rfl) (fun _ _ _ h => h) (Or.inl ⟨by rfl, ?ra3x8⟩) (by assumption) ?_
            case ra3x8 => (intro w hSw; (try dsimp only at hSw); (go_simp <;> with_reducible rfl))
            try simp only [Act.put, List.setIfInBounds_toArray, List.set_cons_zero, List.set_cons_succ]
            refine wpAnyH_take (i := 9) (oi := { dst := some 98, op := Go.Op.move (Go.Operand.tmp 97), type := 4, pos := "law.go:99", after := #[{ on := 8, ground := Go.Ground.data }, { on := 4, ground := Go.Ground.chain }], guard := none }) (v := ?va3x9) rfl (by kernel_rfl) (by kernel_rfl) (by kernel_rfl) (fun _ _ _ h => h) (Or.inl ⟨by rfl, ?ra3x9⟩) (by assumption) ?_
            case ra3x9 => (intro w hSw; (try dsimp only at hSw); (go_simp <;> with_reducible rfl))
            try simp only [Act.put, List.setIfInBounds_toArray, List.set_cons_zero, List.set_cons_succ]
            refine wpAnyH_take (i := 10) (oi := { dst := some 99, op := Go.Op.fieldAddr 28 (Go.Operand.tmp 6) 1, type := 0, pos := "law.go:99", after := #[{ on := 9, ground := Go.Ground.guard }], guard := some (9, false) }) (v := ?va3x10) rfl (by kernel_rfl) (by kernel_rfl) (by kernel_rfl) (fun _ _ _ h => h) (Or.inl ⟨by rfl, ?ra3x10⟩) (by assumption) ?_
            case ra3x10 => (intro w hSw; (try dsimp only at hSw); (go_simp <;> with_reducible rfl))
            try simp only [Act.put, List.setIfInBounds_toArray, List.set_cons_zero, List.set_cons_succ]
            refine wpAnyH_take (i := 11) (oi := { dst := some 100, op := Go.Op.load 3 (Go.Operand.tmp 99), type := 3, pos := "law.go:99", after := #[{ on := 10, ground := Go.Ground.data }, { on := 9, ground := Go.Ground.guard }], guard := some (9, false) }) (v := ?va3x11) rfl (by kernel_rfl) (by kernel_rfl) (by kernel_rfl) (fun _ _ _ h => h) (Or.inl ⟨by rfl, ?ra3x11⟩) (by assumption) ?_
            case ra3x11 => (intro w hSw; (try dsimp only at hSw); (go_simp <;> with_reducible rfl))
            try simp only [Act.put, List.setIfInBounds_toArray, List.set_cons_zero, List.set_cons_succ]
            refine wpAnyH_take (i := 12) (oi := { dst := some 101, op := Go.Op.binOp Go.BinOp.eql 3 (Go.Operand.tmp 100) (Go.Operand.const (Go.Value.int Go.IntKind.i64 0)) 3, type := 4, pos := "law.go:99", after := #[{ on := 11, ground := Go.Ground.data }, { on := 9, ground := Go.Ground.guard }], guard := some (9, false) }) (v := (.bool false)) rfl (by kernel_rfl) (by kernel_rfl) (by kernel_rfl) (fun _ _ _ h => h) (Or.inl ⟨by rfl, ?ra3x12⟩) (by assumption) ?_
            case ra3x12 => (intro w hSw; (try dsimp only at hSw); go_simp; exact HF.out)
            try simp only [Act.put, List.setIfInBounds_toArray, List.set_cons_zero, List.set_cons_succ]
            refine wpAnyH_take (i := 13) (oi := { dst := some 102, op := Go.Op.move (Go.Operand.tmp 101), type := 4, pos := "law.go:99", after := #[{ on := 12, ground := Go.Ground.data }, { on := 9, ground := Go.Ground.chain }, { on := 9, ground := Go.Ground.guard }], guard := some (9, false) }) (v := ?va3x13) rfl (by kernel_rfl) (by kernel_rfl) (by kernel_rfl) (fun _ _ _ h => h) (Or.inl ⟨by rfl, ?ra3x13⟩) (by assumption) ?_
            case ra3x13 => (intro w hSw; (try dsimp only at hSw); (go_simp <;> with_reducible rfl))
            try simp only [Act.put, List.setIfInBounds_toArray, List.set_cons_zero, List.set_cons_succ]
            refine wpAnyH_take (i := 14) (oi := { dst := some 103, op := Go.Op.move (Go.Operand.tmp 5), type := 25, pos := "law.go:99", after := #[{ on := 13, ground := Go.Ground.guard }], guard := some (13, true) }) (v := undef) rfl (by kernel_rfl) (by kernel_rfl) (by kernel_rfl) (fun _ _ _ h => h) (Or.inr ⟨by rfl, rfl⟩) (by assumption) ?_
            try simp only [Act.put, List.setIfInBounds_toArray, List.set_cons_zero, List.set_cons_succ]
            refine wpAnyH_take (i := 15) (oi := { dst := some 104, op := Go.Op.call { callee := Go.Callee.value (Go.Operand.func 23), args := #[Go.Operand.tmp 103], argTypes := #[25] }, type := 3, pos := "law.go:99", after := #[{ on := 14, ground := Go.Ground.data }, { on := 13, ground := Go.Ground.chain }, { on := 13, ground := Go.Ground.guard }], guard := some (13, true) }) (v := undef) rfl (by kernel_rfl) (by kernel_rfl) (by kernel_rfl) (fun _ _ _ h => h) (Or.inr ⟨by rfl, rfl⟩) (by assumption) ?_
            try simp only [Act.put, List.setIfInBounds_toArray, List.set_cons_zero, List.set_cons_succ]
            refine wpAnyH_take (i := 16) (oi := { dst := some 105, op := Go.Op.fieldAddr 28 (Go.Operand.tmp 6) 0, type := 0, pos := "law.go:99", after := #[{ on := 13, ground := Go.Ground.guard }], guard := some (13, true) }) (v := undef) rfl (by kernel_rfl) (by kernel_rfl) (by kernel_rfl) (fun _ _ _ h => h) (Or.inr ⟨by rfl, rfl⟩) (by assumption) ?_
            try simp only [Act.put, List.setIfInBounds_toArray, List.set_cons_zero, List.set_cons_succ]
            refine wpAnyH_take (i := 17) (oi := { dst := some 106, op := Go.Op.load 9 (Go.Operand.tmp 105), type := 9, pos := "law.go:99", after := #[{ on := 16, ground := Go.Ground.data }, { on := 13, ground := Go.Ground.guard }], guard := some (13, true) }) (v := undef) rfl (by kernel_rfl) (by kernel_rfl) (by kernel_rfl) (fun _ _ _ h => h) (Or.inr ⟨by rfl, rfl⟩) (by assumption) ?_
            try simp only [Act.put, List.setIfInBounds_toArray, List.set_cons_zero, List.set_cons_succ]
            refine wpAnyH_take (i := 18) (oi := { dst := some 107, op := Go.Op.call { callee := Go.Callee.builtin Go.Builtin.len, args := #[Go.Operand.tmp 106], argTypes := #[9] }, type := 3, pos := "law.go:99", after := #[{ on := 17, ground := Go.Ground.data }, { on := 13, ground := Go.Ground.guard }], guard := some (13, true) }) (v := undef) rfl (by kernel_rfl) (by kernel_rfl) (by kernel_rfl) (fun _ _ _ h => h) (Or.inr ⟨by rfl, rfl⟩) (by assumption) ?_
            try simp only [Act.put, List.setIfInBounds_toArray, List.set_cons_zero, List.set_cons_succ]
            refine wpAnyH_take (i := 19) (oi := { dst := some 108, op := Go.Op.binOp Go.BinOp.neq 3 (Go.Operand.tmp 104) (Go.Operand.tmp 107) 3, type := 4, pos := "law.go:99", after := #[{ on := 15, ground := Go.Ground.data }, { on := 18, ground := Go.Ground.data }, { on := 13, ground := Go.Ground.guard }], guard := some (13, true) }) (v := undef) rfl (by kernel_rfl) (by kernel_rfl) (by kernel_rfl) (fun _ _ _ h => h) (Or.inr ⟨by rfl, rfl⟩) (by assumption) ?_
            try simp only [Act.put, List.setIfInBounds_toArray, List.set_cons_zero, List.set_cons_succ]
            refine wpAnyH_take (i := 20) (oi := { dst := some 109, op := Go.Op.pick (Go.Operand.tmp 102) (Go.Operand.tmp 108) (Go.Operand.const (Go.Value.bool false)), type := 4, pos := "law.go:99", after := #[{ on := 13, ground := Go.Ground.data }, { on := 19, ground := Go.Ground.data }, { on := 9, ground := Go.Ground.guard }], guard := some (9, false) }) (v := ?va3x20) rfl (by kernel_rfl) (by kernel_rfl) (by kernel_rfl) (fun _ _ _ h => h) (Or.inl ⟨by rfl, ?ra3x20⟩) (by assumption) ?_
            case ra3x20 => (intro w hSw; (try dsimp only at hSw); (go_simp <;> with_reducible rfl))
            try simp only [Act.put, List.setIfInBounds_toArray, List.set_cons_zero, List.set_cons_succ]
            refine wpAnyH_take (i := 21) (oi := { dst := some 110, op := Go.Op.pick (Go.Operand.tmp 98) (Go.Operand.const (Go.Value.bool true)) (Go.Operand.tmp 109), type := 4, pos := "law.go:99", after := #[{ on := 9, ground := Go.Ground.data }, { on := 20, ground := Go.Ground.data }], guard := none }) (v := ?va3x21) rfl (by kernel_rfl) (by kernel_rfl) (by kernel_rfl) (fun _ _ _ h => h) (Or.inl ⟨by rfl, ?ra3x21⟩) (by assumption) ?_
            case ra3x21 => (intro w hSw; (try dsimp only at hSw); (go_simp <;> with_reducible rfl))
            try simp only [Act.put, List.setIfInBounds_toArray, List.set_cons_zero, List.set_cons_succ]
            refine wpAnyH_done (by kernel_rfl) ?_ _
            have HE9 := (h1).2
            clear h1 HS0
            go_wp2
            go_roundw
            case rel => exact ⟨k + 1, x, f, by omega, by go_num, hxz, HE9.out.1, HE9.out.2.1, HE9.out.2.2.1, HE9.out.2.2.2⟩
            case measure => simp [intOf]; omega
    · obtain rfl : k = F.length := by omega
      obtain ⟨q0, q1, -, -, -⟩ := hCu.out
      go_wp2_with fail
      refine (refDone_any R e _).mono ?_
      rintro en w5 ⟨rfl, hg⟩
      have HCB := Lib.hid (hCu.out.gr hg)
      have HC7 := Lib.hid (HCB.out.put (r' := R) (e' := doneE R e) (by omega))
      have HR7 := Lib.hid ((hRd.out.gr hg).put_other (Nat.ne_of_lt hlt3) (.string R) (.int .i64 (doneE R e : Nat)))
      have HG7 := Lib.hid (((hG.out.trans hg).setCell (p := ⟨pc, 0, none⟩) (by show w.heap.size ≤ pc; omega) (.string R)).setCell (p := ⟨pc, 1, none⟩) (by show w.heap.size ≤ pc; omega) (.int .i64 (doneE R e : Nat)))
      have DD := Lib.hid (fun w9 (h : RdIs w9 pr R e) => rDone_any pr R e w9 h)
      obtain ⟨p0, p1, f0, f1, -⟩ := HCB.out
      have sz : (((w5.setCell ⟨pc, 0, none⟩ (.string R)).setCell ⟨pc, 1, none⟩ (.int .i64 (doneE R e : Nat)))).heap.size = w5.heap.size := by simp
      clear hg q0 q1
      generalize doneE R e = d at *
      go_wp2
      clear p0 p1 f0 f1 sz
      generalize ((w5.setCell ⟨pc, 0, none⟩ (.string R)).setCell ⟨pc, 1, none⟩ (.int .i64 (d : Int))) = w7 at *
      have HR8 := Lib.hid (HR7.out.gr ((Gr.refl w7).drew))
      have HC8 := Lib.hid (HC7.out.gr ((Gr.refl w7).drew))
      have HG8 := Lib.hid (HG7.out.trans ((Gr.refl w7).drew))
      obtain ⟨z0, z1, -, -, -⟩ := HC8.out
      go_region_with (first | (go_at_call 25; go_loud (refine (DD.out _ HR8.out).mono ?_; rintro en w6 ⟨rfl, hR6, hO6⟩; have y1 := (HC8.out.only hO6 (Nat.ne_of_gt hlt3)).2.1; have HR9 := Lib.hid hR6; have HG9 := Lib.hid (hO6.gr HG8.out hpr); clear hR6 hO6)) | (go_at_call 22; go_loud (refine (err_any pr R d _ HR9.out).mono ?_; rintro en w6 ⟨rfl, rfl⟩)))
      all_goals
        go_wp2
        go_ret
        exact ⟨rfl, HG9.out⟩
end Go.Proofs.Ytegapeplbincnaa
