import Derived.Test.YtfcfbecfamemlaaL12p
import Derived.Test.YtfcfbecfamemlaaC12
import Derived.Test.YtfcfbecfamemlaaC02
import Derived.WalkKit
import Derived.ProofKit
import Derived.LoopTactic
import Derived.Outline
import Derived.WalkSpells
import Derived.WalkLawsBesides
import Derived.Lib.Hide
import Derived.Deep.LoopGhost
import Derived.Deep.QuietTactic
import Derived.BigQuiet
import Derived.ShutString
import Derived.IntWalk
import Derived.Lib.MinMax
import Derived.Deep.RegionWith
import Derived.Deep.RegionHeld3
namespace Go.Proofs.Ytfcfbecfamemlaa
open Go.ChangeShapes Go.WideShapes Go.ChangeAt Go.RowKit
open Dk Enc
set_option linter.unusedVariables false
set_option linter.unusedSimpArgs false
set_option maxRecDepth 100000 in
set_option maxHeartbeats 8000000 in
theorem cells_walk (ss : List ByteArray) (a : Option Addr) (cap : Nat) (fl : Int) (C : List Int) (ca : Option Addr) (ccap : Nat) (w : World) (hst : Strs w a ss) (wf : (Lit.int .i64 fl).wf = true) (hC : Ints w ca C) (hcap : C.length ≤ ccap) :
    Calls Try.prog 11 #[.slice a ss.length cap, .int .i64 fl, .slice ca C.length ccap] w fun e w' => e = .returned (.bool true) ∧ Gr w w' := by
  obtain ⟨Q1, ho1, hf1, hcal1⟩ := (cal2_new 100 65536).openA (new_ok 65536 (by decide)) (by decide) rfl (by decide) (by decide)
  have HO1 := Lib.hid ho1
  have HCA1 := Lib.hid hcal1
  have HF1 := Lib.hid hf1
  have HB := Lib.hid (bd_new 65536 100)
  have HST := Lib.hid hst
  have hsl := hst.2.1
  have hfb := bounds_i64 wf
  have hfw : (Lit.int .i64 (max 0 (min fl 80))).wf = true := by
    simp [Lit.wf, IntKind.min, IntKind.max, IntKind.signed, IntKind.bits]
    omega
  have hCl := hC.1
  have HI := Lib.hid hC
  clear ho1 hcal1 hf1 hst hC
  go_enter Try.func11, Try.ntmps11
  go_wp2_with fail
  refine (new_any 65536 (by decide) _).mono ?_
  rintro e w1 ⟨d, rfl, hbe, hd1, hg1⟩
  have HD1 := Lib.hid hd1
  have HG1 := Lib.hid hg1
  have HDW := Lib.hid (show w.heap.size ≤ d by omega)
  have hdl := cell_lt hd1.room
  have HOF : Hid (C = [] ∨ Off ca d) := Lib.hid (by
    rcases HI.out.2.2 with h | ⟨b9, o9, rfl, hc9⟩
    · exact .inl h
    · rcases Nat.eq_zero_or_pos C.length with h | h
      · exact .inl (List.length_eq_zero_iff.1 h)
      · exact .inr (fun bb off e => by cases e; have := cell_lt (hc9 0 h); have := HDW.out; omega))
  have CR1 : Hid (6 < C.length → ∀ (Q : D) (w9 : World), DkIs w9 d Q → Gr w w9 → Calls Try.prog 20 #[.pointer (some ⟨d, 0, none⟩), .slice ca 6 ccap] w9 fun e w' => e = .returned (.tuple #[]) ∧ DkIs w' d (crash Q (C.take 6)) ∧ Sole d w9 w') := Lib.hid fun h6 Q w9 h hg => by
    have h6l : (C.take 6).length = 6 := by simp; omega
    have h9 := crash_any (C.take 6) ca ccap w9 ((HI.out.take 6).gr hg) (by omega) (.inr (HOF.out.resolve_left (by intro e; rw [e] at h6; simp at h6))) h
    rwa [h6l] at h9
  have CR2 : Hid (∀ (Q : D) (w9 : World), DkIs w9 d Q → Gr w w9 → Calls Try.prog 20 #[.pointer (some ⟨d, 0, none⟩), .slice ca C.length ccap] w9 fun e w' => e = .returned (.tuple #[]) ∧ DkIs w' d (crash Q C) ∧ Sole d w9 w') := Lib.hid fun Q w9 h hg => crash_any C ca ccap w9 (HI.out.gr hg) hcap HOF.out h
  clear hbe hd1 hg1
  go_wp2
  have gz := (Gr.refl w1).alloc (.cells #[.pointer none, .pointer none] 89)
  have z0 : (w1.alloc (.cells #[.pointer none, .pointer none] 89)).cell? ⟨w1.heap.size, 0, none⟩ = some (.pointer none) := new_cell rfl rfl
  have z1 : (w1.alloc (.cells #[.pointer none, .pointer none] 89)).cell? ⟨w1.heap.size, 1, none⟩ = some (.pointer none) := new_cell rfl rfl
  have y0 := new_free (w := w1) (c := #[.pointer none, .pointer none]) (t := 89) (n := w1.heap.size) (i := 0) rfl
  have y1 := new_free (w := w1) (c := #[.pointer none, .pointer none]) (t := 89) (n := w1.heap.size) (i := 1) rfl
  have HD2 := Lib.hid (HD1.out.gr gz)
  have HG2 := Lib.hid (HG1.out.trans gz)
  have HCBW := Lib.hid (show w.heap.size ≤ w1.heap.size from HG1.out.size)
  have HCBD := Lib.hid (show w1.heap.size ≠ d by omega)
  have HY := Lib.hid (And.intro z0 (And.intro z1 (And.intro y0 y1)))
  clear gz z0 z1 y0 y1 hdl
  generalize w1.alloc (.cells #[.pointer none, .pointer none] 89) = w2 at *
  generalize w1.heap.size = cb at *
  obtain ⟨Q2, ho2, hf2, hcal2⟩ := HCA1.out.openB (okO HO1.out HD1.out) (by decide) HF1.out (by decide) (by decide)
  have HO2 := Lib.hid ho2
  have HCA2 := Lib.hid hcal2
  have HB1 := Lib.hid HCA1.out.bd
  clear ho2 hcal2 hf2
  go_loopw [24] (fun i wr => ∃ (j : Nat), j ≤ 2 ∧ i = .int .i64 (j : Nat) ∧ Hid ((j = 0 ∧ DkIs wr d (new 65536) ∧ wr.cell? ⟨cb, 0, none⟩ = some (.pointer none) ∧ wr.cell? ⟨cb, 1, none⟩ = some (.pointer none)) ∨ (j = 1 ∧ DkIs wr d Q1 ∧ ∃ c0, wr.cell? ⟨cb, 0, none⟩ = some (.pointer (some ⟨c0, 0, none⟩)) ∧ wr.cell? ⟨cb, 1, none⟩ = some (.pointer none) ∧ ClIs wr c0 d 0 0 ∧ cb < c0) ∨
      (j = 2 ∧ DkIs wr d Q2 ∧ ∃ c0 c1, wr.cell? ⟨cb, 0, none⟩ = some (.pointer (some ⟨c0, 0, none⟩)) ∧ wr.cell? ⟨cb, 1, none⟩ = some (.pointer (some ⟨c1, 0, none⟩)) ∧ ClIs wr c0 d 0 0 ∧ ClIs wr c1 d 2 0 ∧ cb < c0 ∧ c0 < c1)) ∧ Hid (wr.frozen? ⟨cb, 0, none⟩ = false ∧ wr.frozen? ⟨cb, 1, none⟩ = false) ∧ Hid (Gr w wr)) (fun i _ => 2 - (intOf i).toNat)
  case atStart => exact ⟨0, by omega, rfl, Lib.hid (.inl ⟨rfl, HD2.out, HY.out.1, HY.out.2.1⟩), Lib.hid HY.out.2.2, HG2⟩
  case round =>
    clear HD2 HG2 HY
    obtain ⟨j, hj, rfl, HW, HFR, HG⟩ := hrel
    rcases HW.out with ⟨rfl, hd, q0, q1⟩ | ⟨rfl, hd, c0, q0, q1, hc0, hcb0⟩ | ⟨rfl, hd, c0, c1, q0, q1, hc0, hc1, hcb0, hc01⟩
    · have hcl := cell_lt q0
      clear HW
      go_wp2_with fail
      refine (open_to (B := 100) (f := 0) (g := 1) _ hd HB.out (by decide) rfl (by decide) HO1.out).mono ?_
      rintro e w3 ⟨c0, rfl, hcw, hcl3, hd3, hs3⟩
      have HC3 := Lib.hid hcl3
      have HD3 := Lib.hid hd3
      have HG3 := Lib.hid (hs3.gr HG.out HDW.out)
      replace q0 := hs3.cell HCBD.out q0
      replace q1 := hs3.cell HCBD.out q1
      have y0 := (hs3.frozen HCBD.out hcl).trans HFR.out.1
      have y1 := (hs3.frozen HCBD.out hcl).trans HFR.out.2
      have hcc0 : cb < c0 := Nat.lt_of_lt_of_le hcl hcw
      have HD4 := Lib.hid (hd3.sole (Sole.setCell cb 0 w3 (.pointer (some ⟨c0, 0, none⟩))) HCBD.out.symm)
      have HC4 := Lib.hid (hcl3.sole (Sole.setCell cb 0 w3 (.pointer (some ⟨c0, 0, none⟩))) (by omega))
      have HG4 := Lib.hid (HG3.out.setCell (p := ⟨cb, 0, none⟩) HCBW.out (.pointer (some ⟨c0, 0, none⟩)))
      have s0 : (w3.setCell ⟨cb, 0, none⟩ (.pointer (some ⟨c0, 0, none⟩))).cell? ⟨cb, 0, none⟩ = some (.pointer (some ⟨c0, 0, none⟩)) := World.cell?_setCell_same' _ _ _ (by rw [q0]; rfl)
      have s1 : (w3.setCell ⟨cb, 0, none⟩ (.pointer (some ⟨c0, 0, none⟩))).cell? ⟨cb, 1, none⟩ = some (.pointer none) := (World.cell?_setCell_other _ _ _ _ (by simp)).trans q1
      have HS := Lib.hid (And.intro s0 s1)
      have HFR4 : Hid ((w3.setCell ⟨cb, 0, none⟩ (.pointer (some ⟨c0, 0, none⟩))).frozen? ⟨cb, 0, none⟩ = false ∧ (w3.setCell ⟨cb, 0, none⟩ (.pointer (some ⟨c0, 0, none⟩))).frozen? ⟨cb, 1, none⟩ = false) := Lib.hid ⟨by rw [World.frozen?_setCell]; exact y0, by rw [World.frozen?_setCell]; exact y1⟩
      clear hcw hcl3 hd3 hs3 hd hcl s0 s1
      go_wp2
      go_roundw
      case rel => exact ⟨1, by omega, rfl, Lib.hid (.inr (.inl ⟨rfl, HD4.out, c0, HS.out.1, HS.out.2, HC4.out, hcc0⟩)), HFR4, HG4⟩
      case measure => simp [intOf]
    · have hcl := cell_lt q0
      have hc0l := cell_lt hc0.k0
      have HC0 := Lib.hid hc0
      clear HW hc0
      go_wp2_with fail
      refine (open_to (B := 100) (f := 2) (g := 3) _ hd HB1.out (by decide) rfl (by decide) HO2.out).mono ?_
      rintro e w3 ⟨c1, rfl, hcw, hcl3, hd3, hs3⟩
      have HG3 := Lib.hid (hs3.gr HG.out HDW.out)
      have HC03 := Lib.hid (HC0.out.sole hs3 HC0.out.ne)
      replace q0 := hs3.cell HCBD.out q0
      replace q1 := hs3.cell HCBD.out q1
      have y0 := (hs3.frozen HCBD.out hcl).trans HFR.out.1
      have y1 := (hs3.frozen HCBD.out hcl).trans HFR.out.2
      have hcc1 : c0 < c1 := Nat.lt_of_lt_of_le hc0l hcw
      have HD4 := Lib.hid (hd3.sole (Sole.setCell cb 1 w3 (.pointer (some ⟨c1, 0, none⟩))) HCBD.out.symm)
      have HC4 := Lib.hid (hcl3.sole (Sole.setCell cb 1 w3 (.pointer (some ⟨c1, 0, none⟩))) (by omega))
      have HC04 := Lib.hid (HC03.out.sole (Sole.setCell cb 1 w3 (.pointer (some ⟨c1, 0, none⟩))) (by omega))
      have HG4 := Lib.hid (HG3.out.setCell (p := ⟨cb, 1, none⟩) HCBW.out (.pointer (some ⟨c1, 0, none⟩)))
      have s1 : (w3.setCell ⟨cb, 1, none⟩ (.pointer (some ⟨c1, 0, none⟩))).cell? ⟨cb, 1, none⟩ = some (.pointer (some ⟨c1, 0, none⟩)) := World.cell?_setCell_same' _ _ _ (by rw [q1]; rfl)
      have s0 : (w3.setCell ⟨cb, 1, none⟩ (.pointer (some ⟨c1, 0, none⟩))).cell? ⟨cb, 0, none⟩ = some (.pointer (some ⟨c0, 0, none⟩)) := (World.cell?_setCell_other _ _ _ _ (by simp)).trans q0
      have HS := Lib.hid (And.intro s0 s1)
      have HFR4 : Hid ((w3.setCell ⟨cb, 1, none⟩ (.pointer (some ⟨c1, 0, none⟩))).frozen? ⟨cb, 0, none⟩ = false ∧ (w3.setCell ⟨cb, 1, none⟩ (.pointer (some ⟨c1, 0, none⟩))).frozen? ⟨cb, 1, none⟩ = false) := Lib.hid ⟨by rw [World.frozen?_setCell]; exact y0, by rw [World.frozen?_setCell]; exact y1⟩
      clear hcw hcl3 hd3 hs3 hd hcl s0 s1 hc0l
      go_wp2
      go_roundw
      case rel => exact ⟨2, by omega, rfl, Lib.hid (.inr (.inr ⟨rfl, HD4.out, c0, c1, HS.out.1, HS.out.2, HC04.out, HC4.out, hcb0, hcc1⟩)), HFR4, HG4⟩
      case measure => simp [intOf]
    · clear HW
      have hcl : cb < wr.heap.size := cell_lt q0
      have hc0l : c0 < wr.heap.size := cell_lt hc0.k0
      have hc1l : c1 < wr.heap.size := cell_lt hc1.k0
      have hdl : d < wr.heap.size := cell_lt hd.room
      have hcd0 := hc0.ne
      have hcd1 := hc1.ne
      have HN := Lib.hid (show cb ≠ d ∧ wr.heap.size ≠ d ∧ wr.heap.size + 1 ≠ d ∧ cb ≠ c0 ∧ wr.heap.size ≠ c0 ∧ wr.heap.size + 1 ≠ c0 ∧ cb ≠ c1 ∧ wr.heap.size ≠ c1 ∧ wr.heap.size + 1 ≠ c1 ∧ True from ⟨HCBD.out, by omega, by omega, by omega, by omega, by omega, by omega, by omega, by omega, trivial⟩)
      have HM := Lib.hid (show cb ≠ wr.heap.size ∧ cb ≠ wr.heap.size + 1 ∧ wr.heap.size ≠ wr.heap.size + 1 ∧ True from ⟨by omega, by omega, by omega, trivial⟩)
      have HE := Lib.hid (show c0 ≠ c1 ∧ c0 ≠ d ∧ c1 ≠ d from ⟨by omega, hcd0, hcd1⟩)
      have HNW := Lib.hid (show w.heap.size ≤ wr.heap.size + 1 ∧ w.heap.size ≤ wr.heap.size ∧ w.heap.size ≤ c0 ∧ w.heap.size ≤ c1 from (by have h1 := HCBW.out; have h2 := HG.out.size; exact ⟨by omega, by omega, by omega, by omega⟩))
      go_wp2_with fail
      have gz := ((Gr.refl wr).alloc (.cells #[.string ⟨#[]⟩, .string ⟨#[]⟩] 90)).alloc (.cells #[.string ⟨#[]⟩, .string ⟨#[]⟩] 90)
      have hsz : (wr.alloc (.cells #[.string ⟨#[]⟩, .string ⟨#[]⟩] 90)).heap.size = wr.heap.size + 1 := by simp
      have g1 := (Gr.refl (wr.alloc (.cells #[.string ⟨#[]⟩, .string ⟨#[]⟩] 90))).alloc (.cells #[.string ⟨#[]⟩, .string ⟨#[]⟩] 90)
      have HR3 : Hid (Rows2 ((wr.alloc (.cells #[.string ⟨#[]⟩, .string ⟨#[]⟩] 90)).alloc (.cells #[.string ⟨#[]⟩, .string ⟨#[]⟩] 90)) cb wr.heap.size (wr.heap.size + 1) c0 c1 ⟨#[]⟩ ⟨#[]⟩ ⟨#[]⟩ ⟨#[]⟩) := Lib.hid
        ⟨gz.cell q0, gz.cell q1, g1.own.1 0 _ rfl, g1.own.1 1 _ rfl, new_cell hsz.symm rfl, new_cell hsz.symm rfl, g1.own.2.1 0, g1.own.2.1 1, new_free hsz.symm, new_free hsz.symm⟩
      have HD3 := Lib.hid (hd.gr gz)
      have HC03 := Lib.hid (hc0.gr gz)
      have HC13 := Lib.hid (hc1.gr gz)
      have HG3 := Lib.hid (HG.out.trans gz)
      clear hcl hc0l hc1l hdl hcd0 hcd1 gz hsz g1 q0 q1 hd hc0 hc1 hcb0 hc01 HG HFR
      generalize (wr.alloc (.cells #[.string ⟨#[]⟩, .string ⟨#[]⟩] 90)).alloc (.cells #[.string ⟨#[]⟩, .string ⟨#[]⟩] 90) = w3 at *
      generalize wr.heap.size + 1 = nb at *
      generalize wr.heap.size = lb at *
      refine (fail_any11 (max 0 (min fl 80)) hfw _ HD3.out).mono ?_
      rintro e w4 ⟨rfl, hd4, hs4⟩
      have HD4 := Lib.hid hd4
      have HG4 := Lib.hid (hs4.gr HG3.out HDW.out)
      have HC04 := Lib.hid (HC03.out.sole hs4 HE.out.2.1)
      have HC14 := Lib.hid (HC13.out.sole hs4 HE.out.2.2)
      have HR4 := Lib.hid (HR3.out.duo (Duo.right (p := d) hs4) ⟨HN.out.1, HN.out.1⟩ ⟨HN.out.2.1, HN.out.2.1⟩ ⟨HN.out.2.2.1, HN.out.2.2.1⟩)
      have HCA4 := Lib.hid (HCA2.out.fails (max 0 (min fl 80)))
      clear hd4 hs4 HC03 HC13 HD3 HG3 HR3
      go_wp2
      go_loopw [15] (fun i wr => ∃ (k : Nat) (Q : D) (v0 : Nat) (t0 : ByteArray) (v1 : Nat) (t1 : ByteArray), k ≤ ss.length ∧ k ≤ 16 ∧ i = .int .i64 (k : Nat) ∧ v0 ≤ k ∧ v1 ≤ k ∧ t0.size ≤ 30 ∧ t1.size ≤ 30 ∧ Hid (ClIs wr c0 d 0 v0) ∧ Hid (ClIs wr c1 d 2 v1) ∧ Hid (DkIs wr d Q) ∧ Hid (Cal2 100 65536 v0 t0 v1 t1 Q) ∧ Hid (Rows2 wr cb lb nb c0 c1 t0 t1 t0 t1) ∧ Hid (Gr w wr)) (fun i _ => ss.length - (intOf i).toNat)
      case atStart => exact ⟨0, _, 0, ⟨#[]⟩, 0, ⟨#[]⟩, by omega, by omega, rfl, by omega, by omega, by decide, by decide, HC04, HC14, HD4, HCA4, HR4, HG4⟩
      case round =>
        clear HC04 HC14 HD4 HCA4 HR4 HG4 HO1 HCA1 HF1 HB HO2 HCA2 HB1
        obtain ⟨k, Q, v0, t0, v1, t1, hk, hk16, rfl, hv0, hv1, ht0, ht1, HC0, HC1, HD, HCA, HR, HG⟩ := hrel
        by_cases hlt : k < ss.length
        · by_cases h16 : k < 16
          · obtain ⟨b1, o1, rfl, _, hc1, hz1⟩ := HST.out.at k hlt
            replace hc1 := HG.out.cell hc1
            generalize ss[k] = s0 at *
            have CU := Lib.hid (fun w => cut_any s0 30 w hz1 (by decide))
            have hcs := cutB_le s0 30
            obtain ⟨s, hs⟩ : ∃ s, cutB s0 30 = s := ⟨_, rfl⟩
            rw [hs] at CU hcs
            clear hs
            have hs30 : s.size ≤ 30 := by omega
            clear hcs
            by_cases hpar : k % 2 = 0
            · skip
              have HPR := Lib.hid (show bits .and .i64 (k : Int) 1 = 0 by rw [and_par k h16]; omega)
              obtain ⟨Q1, hw1⟩ := HCA.out.writeA (u := s) HD.out.ok (by decide) (by omega)
              have rc := HR.out.c0
              have rn := HR.out.n0
              have rf := HR.out.fn0
              have HRn := Lib.hid (HR.out.next0 s HM.out.2.1 HM.out.2.2.1)
              have HDn := Lib.hid (HD.out.sole (Sole.setCell nb 0 wr (.string s)) HN.out.2.2.1.symm)
              have HC0n := Lib.hid (HC0.out.sole (Sole.setCell nb 0 wr (.string s)) HN.out.2.2.2.2.2.1.symm)
              have HC1n := Lib.hid (HC1.out.sole (Sole.setCell nb 0 wr (.string s)) HN.out.2.2.2.2.2.2.2.2.1.symm)
              have HGn := Lib.hid (HG.out.setCell (p := ⟨nb, 0, none⟩) HNW.out.1 (.string s))
              have rc2 := HRn.out.c0
              go_wp2_with fail
              refine (CU.out _).mono ?_
              rintro e w4 ⟨rfl, rfl⟩
              go_wp2_with (simp only [HPR.out])
              generalize wr.setCell ⟨nb, 0, none⟩ (.string s) = wn at *
              clear rc rn rf rc2 hc1
              rcases hw1 with ⟨hw1, hcal1⟩ | ⟨hw1, hlf1⟩
              · have HW1 := Lib.hid hw1
                have HCA1 := Lib.hid hcal1
                clear hw1 hcal1
                refine (write_to _ HDn.out HC0n.out (by decide) (by omega) (by omega) HW1.out).mono ?_
                rintro e w5 ⟨rfl, hd5, hc5, hs5⟩
                have HD5 := Lib.hid hd5
                have HC5 : Hid (ClIs w5 c0 d 0 (v0 + 1)) := Lib.hid hc5
                have HC6 := Lib.hid (HC1n.out.duo hs5 HE.out.1.symm HE.out.2.2)
                have HG5 := Lib.hid (hs5.gr HGn.out HNW.out.2.2.1 HDW.out)
                have HR5 := Lib.hid (HRn.out.duo hs5 ⟨HN.out.2.2.2.1, HN.out.1⟩ ⟨HN.out.2.2.2.2.1, HN.out.2.1⟩ ⟨HN.out.2.2.2.2.2.1, HN.out.2.2.1⟩)
                have rl := HR5.out.l0
                have rf := HR5.out.fl0
                have HR6 := Lib.hid (HR5.out.last0 s HM.out.1 HM.out.2.2.1.symm)
                have HD6 := Lib.hid (hd5.sole (Sole.setCell lb 0 w5 (.string s)) HN.out.2.1.symm)
                have HCA6 := Lib.hid (HC5.out.sole (Sole.setCell lb 0 w5 (.string s)) HN.out.2.2.2.2.1.symm)
                have HCB6 := Lib.hid (HC6.out.sole (Sole.setCell lb 0 w5 (.string s)) HN.out.2.2.2.2.2.2.2.1.symm)
                have HG6 := Lib.hid (HG5.out.setCell (p := ⟨lb, 0, none⟩) HNW.out.2.1 (.string s))
                clear hd5 hc5 hs5
                go_wp2
                go_roundw
                case rel => exact ⟨k + 1, Q1, v0 + 1, s, v1, t1, by omega, by omega, by go_num, by omega, by omega, by omega, by omega, HCA6, HCB6, HD6, HCA1, HR6, HG6⟩
                case measure => simp [intOf]; omega
              · have HW1 := Lib.hid hw1
                have HLF := Lib.hid hlf1
                clear hw1 hlf1
                refine (write_to _ HDn.out HC0n.out (by decide) (by omega) (by omega) HW1.out).mono ?_
                rintro e w5 ⟨rfl, hd5, hc5, hs5⟩
                have HD9 := Lib.hid hd5
                have HG9 := Lib.hid (hs5.gr HGn.out HNW.out.2.2.1 HDW.out)
                have HR9 := Lib.hid (HRn.out.duo hs5 ⟨HN.out.2.2.2.1, HN.out.1⟩ ⟨HN.out.2.2.2.2.1, HN.out.2.1⟩ ⟨HN.out.2.2.2.2.2.1, HN.out.2.2.1⟩)
                clear hd5 hc5 hs5
                obtain ⟨Q9, hq9⟩ : ∃ Q9, Q1 = Q9 := ⟨_, rfl⟩
                subst hq9
                obtain ⟨Q9, rfl⟩ : ∃ Q9, Q9 = Q1 := ⟨_, rfl⟩
                obtain ⟨u0, u1, hu0, hu1, HLF, HR9⟩ : ∃ u0 u1 : ByteArray, u0.size ≤ 30 ∧ u1.size ≤ 30 ∧ Hid (∀ CL, Lf 100 65536 v0 t0 u0 v1 t1 u1 (crash Q9 CL)) ∧ Hid (Rows2 w5 cb lb nb c0 c1 t0 t1 u0 u1) := ⟨_, _, hs30, ht1, HLF, HR9⟩
                by_cases h6 : 6 < C.length
                · have hcc : 6 ≤ ccap := by omega
                  go_wp2_with fail
                  refine (CR1.out h6 _ _ HD9.out HG9.out).mono ?_
                  rintro e wa ⟨rfl, hda, hsa⟩
                  have HDa := Lib.hid hda
                  have HGa := Lib.hid (hsa.gr HG9.out HDW.out)
                  have HRa := Lib.hid (HR9.out.duo (Duo.right (p := d) hsa) ⟨HN.out.1, HN.out.1⟩ ⟨HN.out.2.1, HN.out.2.1⟩ ⟨HN.out.2.2.1, HN.out.2.2.1⟩)
                  obtain ⟨Qo1, V1, T1, Qo2, V2, T2, ho1, hT1, hbo1, ho2, hT2⟩ := (HLF.out (C.take 6)).opens hda.ok (by decide) (by omega) (by omega) (by omega) (by omega) (by omega) (by omega)
                  have HO1 := Lib.hid ho1
                  have HO2 := Lib.hid ho2
                  have HT1 := Lib.hid hT1
                  have HT2 := Lib.hid hT2
                  have HBo1 := Lib.hid (HLF.out (C.take 6)).bd
                  have HBo2 := Lib.hid hbo1
                  clear ho1 ho2 hT1 hT2 hbo1 hda hsa
                  go_wp2
                  go_loopw [94] (fun i wr => ∃ (j : Nat), j ≤ 2 ∧ i = .int .i64 (j : Nat) ∧ Hid ((j = 0 ∧ DkIs wr d (crash Q9 (C.take 6))) ∨ (j = 1 ∧ DkIs wr d Qo1) ∨ j = 2) ∧ Hid (Rows2 wr cb lb nb c0 c1 t0 t1 u0 u1) ∧ Hid (Gr w wr)) (fun i _ => 2 - (intOf i).toNat)
                  case atStart => exact ⟨0, by omega, rfl, Lib.hid (.inl ⟨rfl, HDa.out⟩), HRa, HGa⟩
                  case round =>
                    obtain ⟨j, hj, rfl, HW3, HRr, HGr⟩ := hrel
                    rcases HW3.out with ⟨rfl, hd⟩ | ⟨rfl, hd⟩ | rfl
                    · skip
                      have rl := HRr.out.l0
                      have rn := HRr.out.n0
                      go_wp2_with fail
                      refine (open_to (B := 100) (f := 0) (g := 1) _ hd HBo1.out (by decide) rfl (by decide) HO1.out).mono ?_
                      rintro e wo ⟨co, rfl, hcwo, -, hdo, hso⟩
                      have HDo := Lib.hid hdo
                      have HGo := Lib.hid (hso.gr HGr.out HDW.out)
                      have HRo := Lib.hid (HRr.out.duo (Duo.right (p := d) hso) ⟨HN.out.1, HN.out.1⟩ ⟨HN.out.2.1, HN.out.2.1⟩ ⟨HN.out.2.2.1, HN.out.2.2.1⟩)
                      replace rl := HRo.out.l0
                      replace rn := HRo.out.n0
                      clear hcwo hdo hso hd HW3
                      rcases HT1.out with hT | hT
                      · rw [hT]
                        have hss : (t0.toList == t0.toList) = true := by simp
                        go_wp2
                        go_roundw
                        case rel => exact ⟨1, by omega, rfl, Lib.hid (.inr (.inl ⟨rfl, HDo.out⟩)), HRo, HGo⟩
                        case measure => simp [intOf]
                      · rw [hT]
                        have hss : (u0.toList == u0.toList) = true := by simp
                        rcases hst : (u0.toList == t0.toList) with _ | _
                        · skip
                          go_wp2
                          go_roundw
                          case rel => exact ⟨1, by omega, rfl, Lib.hid (.inr (.inl ⟨rfl, HDo.out⟩)), HRo, HGo⟩
                          case measure => simp [intOf]
                        · skip
                          go_wp2
                          go_roundw
                          case rel => exact ⟨1, by omega, rfl, Lib.hid (.inr (.inl ⟨rfl, HDo.out⟩)), HRo, HGo⟩
                          case measure => simp [intOf]
                    · skip
                      have rl := HRr.out.l1
                      have rn := HRr.out.n1
                      go_wp2_with fail
                      refine (open_to (B := 100) (f := 2) (g := 3) _ hd HBo2.out (by decide) rfl (by decide) HO2.out).mono ?_
                      rintro e wo ⟨co, rfl, hcwo, -, hdo, hso⟩
                      have HDo := Lib.hid hdo
                      have HGo := Lib.hid (hso.gr HGr.out HDW.out)
                      have HRo := Lib.hid (HRr.out.duo (Duo.right (p := d) hso) ⟨HN.out.1, HN.out.1⟩ ⟨HN.out.2.1, HN.out.2.1⟩ ⟨HN.out.2.2.1, HN.out.2.2.1⟩)
                      replace rl := HRo.out.l1
                      replace rn := HRo.out.n1
                      clear hcwo hdo hso hd HW3
                      rcases HT2.out with hT | hT
                      · rw [hT]
                        have hss : (t1.toList == t1.toList) = true := by simp
                        go_wp2
                        go_roundw
                        case rel => exact ⟨2, by omega, rfl, Lib.hid (.inr (.inr rfl)), HRo, HGo⟩
                        case measure => simp [intOf]
                      · rw [hT]
                        have hss : (u1.toList == u1.toList) = true := by simp
                        rcases hst : (u1.toList == t1.toList) with _ | _
                        · skip
                          go_wp2
                          go_roundw
                          case rel => exact ⟨2, by omega, rfl, Lib.hid (.inr (.inr rfl)), HRo, HGo⟩
                          case measure => simp [intOf]
                        · skip
                          go_wp2
                          go_roundw
                          case rel => exact ⟨2, by omega, rfl, Lib.hid (.inr (.inr rfl)), HRo, HGo⟩
                          case measure => simp [intOf]
                    · clear HW3
                      go_wp2
                      go_ret
                      exact ⟨rfl, HGr.out⟩
                · skip
                  go_wp2_with fail
                  refine (CR2.out _ _ HD9.out HG9.out).mono ?_
                  rintro e wa ⟨rfl, hda, hsa⟩
                  have HDa := Lib.hid hda
                  have HGa := Lib.hid (hsa.gr HG9.out HDW.out)
                  have HRa := Lib.hid (HR9.out.duo (Duo.right (p := d) hsa) ⟨HN.out.1, HN.out.1⟩ ⟨HN.out.2.1, HN.out.2.1⟩ ⟨HN.out.2.2.1, HN.out.2.2.1⟩)
                  obtain ⟨Qo1, V1, T1, Qo2, V2, T2, ho1, hT1, hbo1, ho2, hT2⟩ := (HLF.out (C)).opens hda.ok (by decide) (by omega) (by omega) (by omega) (by omega) (by omega) (by omega)
                  have HO1 := Lib.hid ho1
                  have HO2 := Lib.hid ho2
                  have HT1 := Lib.hid hT1
                  have HT2 := Lib.hid hT2
                  have HBo1 := Lib.hid (HLF.out (C)).bd
                  have HBo2 := Lib.hid hbo1
                  clear ho1 ho2 hT1 hT2 hbo1 hda hsa
                  go_wp2
                  go_loopw [94] (fun i wr => ∃ (j : Nat), j ≤ 2 ∧ i = .int .i64 (j : Nat) ∧ Hid ((j = 0 ∧ DkIs wr d (crash Q9 (C))) ∨ (j = 1 ∧ DkIs wr d Qo1) ∨ j = 2) ∧ Hid (Rows2 wr cb lb nb c0 c1 t0 t1 u0 u1) ∧ Hid (Gr w wr)) (fun i _ => 2 - (intOf i).toNat)
                  case atStart => exact ⟨0, by omega, rfl, Lib.hid (.inl ⟨rfl, HDa.out⟩), HRa, HGa⟩
                  case round =>
                    obtain ⟨j, hj, rfl, HW3, HRr, HGr⟩ := hrel
                    rcases HW3.out with ⟨rfl, hd⟩ | ⟨rfl, hd⟩ | rfl
                    · skip
                      have rl := HRr.out.l0
                      have rn := HRr.out.n0
                      go_wp2_with fail
                      refine (open_to (B := 100) (f := 0) (g := 1) _ hd HBo1.out (by decide) rfl (by decide) HO1.out).mono ?_
                      rintro e wo ⟨co, rfl, hcwo, -, hdo, hso⟩
                      have HDo := Lib.hid hdo
                      have HGo := Lib.hid (hso.gr HGr.out HDW.out)
                      have HRo := Lib.hid (HRr.out.duo (Duo.right (p := d) hso) ⟨HN.out.1, HN.out.1⟩ ⟨HN.out.2.1, HN.out.2.1⟩ ⟨HN.out.2.2.1, HN.out.2.2.1⟩)
                      replace rl := HRo.out.l0
                      replace rn := HRo.out.n0
                      clear hcwo hdo hso hd HW3
                      rcases HT1.out with hT | hT
                      · rw [hT]
                        have hss : (t0.toList == t0.toList) = true := by simp
                        go_wp2
                        go_roundw
                        case rel => exact ⟨1, by omega, rfl, Lib.hid (.inr (.inl ⟨rfl, HDo.out⟩)), HRo, HGo⟩
                        case measure => simp [intOf]
                      · rw [hT]
                        have hss : (u0.toList == u0.toList) = true := by simp
                        rcases hst : (u0.toList == t0.toList) with _ | _
                        · skip
                          go_wp2
                          go_roundw
                          case rel => exact ⟨1, by omega, rfl, Lib.hid (.inr (.inl ⟨rfl, HDo.out⟩)), HRo, HGo⟩
                          case measure => simp [intOf]
                        · skip
                          go_wp2
                          go_roundw
                          case rel => exact ⟨1, by omega, rfl, Lib.hid (.inr (.inl ⟨rfl, HDo.out⟩)), HRo, HGo⟩
                          case measure => simp [intOf]
                    · skip
                      have rl := HRr.out.l1
                      have rn := HRr.out.n1
                      go_wp2_with fail
                      refine (open_to (B := 100) (f := 2) (g := 3) _ hd HBo2.out (by decide) rfl (by decide) HO2.out).mono ?_
                      rintro e wo ⟨co, rfl, hcwo, -, hdo, hso⟩
                      have HDo := Lib.hid hdo
                      have HGo := Lib.hid (hso.gr HGr.out HDW.out)
                      have HRo := Lib.hid (HRr.out.duo (Duo.right (p := d) hso) ⟨HN.out.1, HN.out.1⟩ ⟨HN.out.2.1, HN.out.2.1⟩ ⟨HN.out.2.2.1, HN.out.2.2.1⟩)
                      replace rl := HRo.out.l1
                      replace rn := HRo.out.n1
                      clear hcwo hdo hso hd HW3
                      rcases HT2.out with hT | hT
                      · rw [hT]
                        have hss : (t1.toList == t1.toList) = true := by simp
                        go_wp2
                        go_roundw
                        case rel => exact ⟨2, by omega, rfl, Lib.hid (.inr (.inr rfl)), HRo, HGo⟩
                        case measure => simp [intOf]
                      · rw [hT]
                        have hss : (u1.toList == u1.toList) = true := by simp
                        rcases hst : (u1.toList == t1.toList) with _ | _
                        · skip
                          go_wp2
                          go_roundw
                          case rel => exact ⟨2, by omega, rfl, Lib.hid (.inr (.inr rfl)), HRo, HGo⟩
                          case measure => simp [intOf]
                        · skip
                          go_wp2
                          go_roundw
                          case rel => exact ⟨2, by omega, rfl, Lib.hid (.inr (.inr rfl)), HRo, HGo⟩
                          case measure => simp [intOf]
                    · clear HW3
                      go_wp2
                      go_ret
                      exact ⟨rfl, HGr.out⟩
            · skip
              have HPR := Lib.hid (show bits .and .i64 (k : Int) 1 = 1 by rw [and_par k h16]; omega)
              obtain ⟨Q1, hw1⟩ := HCA.out.writeB (u := s) HD.out.ok (by decide) (by omega)
              have rc := HR.out.c1
              have rn := HR.out.n1
              have rf := HR.out.fn1
              have HRn := Lib.hid (HR.out.next1 s HM.out.2.1 HM.out.2.2.1)
              have HDn := Lib.hid (HD.out.sole (Sole.setCell nb 1 wr (.string s)) HN.out.2.2.1.symm)
              have HC0n := Lib.hid (HC0.out.sole (Sole.setCell nb 1 wr (.string s)) HN.out.2.2.2.2.2.1.symm)
              have HC1n := Lib.hid (HC1.out.sole (Sole.setCell nb 1 wr (.string s)) HN.out.2.2.2.2.2.2.2.2.1.symm)
              have HGn := Lib.hid (HG.out.setCell (p := ⟨nb, 1, none⟩) HNW.out.1 (.string s))
              have rc2 := HRn.out.c1
              go_wp2_with fail
              refine (CU.out _).mono ?_
              rintro e w4 ⟨rfl, rfl⟩
              go_wp2_with (simp only [HPR.out])
              generalize wr.setCell ⟨nb, 1, none⟩ (.string s) = wn at *
              clear rc rn rf rc2 hc1
              rcases hw1 with ⟨hw1, hcal1⟩ | ⟨hw1, hlf1⟩
              · have HW1 := Lib.hid hw1
                have HCA1 := Lib.hid hcal1
                clear hw1 hcal1
                refine (write_to _ HDn.out HC1n.out (by decide) (by omega) (by omega) HW1.out).mono ?_
                rintro e w5 ⟨rfl, hd5, hc5, hs5⟩
                have HD5 := Lib.hid hd5
                have HC5 : Hid (ClIs w5 c1 d 2 (v1 + 1)) := Lib.hid hc5
                have HC6 := Lib.hid (HC0n.out.duo hs5 HE.out.1.symm.symm HE.out.2.1)
                have HG5 := Lib.hid (hs5.gr HGn.out HNW.out.2.2.2 HDW.out)
                have HR5 := Lib.hid (HRn.out.duo hs5 ⟨HN.out.2.2.2.2.2.2.1, HN.out.1⟩ ⟨HN.out.2.2.2.2.2.2.2.1, HN.out.2.1⟩ ⟨HN.out.2.2.2.2.2.2.2.2.1, HN.out.2.2.1⟩)
                have rl := HR5.out.l1
                have rf := HR5.out.fl1
                have HR6 := Lib.hid (HR5.out.last1 s HM.out.1 HM.out.2.2.1.symm)
                have HD6 := Lib.hid (hd5.sole (Sole.setCell lb 1 w5 (.string s)) HN.out.2.1.symm)
                have HCA6 := Lib.hid (HC5.out.sole (Sole.setCell lb 1 w5 (.string s)) HN.out.2.2.2.2.2.2.2.1.symm)
                have HCB6 := Lib.hid (HC6.out.sole (Sole.setCell lb 1 w5 (.string s)) HN.out.2.2.2.2.1.symm)
                have HG6 := Lib.hid (HG5.out.setCell (p := ⟨lb, 1, none⟩) HNW.out.2.1 (.string s))
                clear hd5 hc5 hs5
                go_wp2
                go_roundw
                case rel => exact ⟨k + 1, Q1, v0, t0, v1 + 1, s, by omega, by omega, by go_num, by omega, by omega, by omega, by omega, HCB6, HCA6, HD6, HCA1, HR6, HG6⟩
                case measure => simp [intOf]; omega
              · have HW1 := Lib.hid hw1
                have HLF := Lib.hid hlf1
                clear hw1 hlf1
                refine (write_to _ HDn.out HC1n.out (by decide) (by omega) (by omega) HW1.out).mono ?_
                rintro e w5 ⟨rfl, hd5, hc5, hs5⟩
                have HD9 := Lib.hid hd5
                have HG9 := Lib.hid (hs5.gr HGn.out HNW.out.2.2.2 HDW.out)
                have HR9 := Lib.hid (HRn.out.duo hs5 ⟨HN.out.2.2.2.2.2.2.1, HN.out.1⟩ ⟨HN.out.2.2.2.2.2.2.2.1, HN.out.2.1⟩ ⟨HN.out.2.2.2.2.2.2.2.2.1, HN.out.2.2.1⟩)
                clear hd5 hc5 hs5
                obtain ⟨Q9, hq9⟩ : ∃ Q9, Q1 = Q9 := ⟨_, rfl⟩
                subst hq9
                obtain ⟨Q9, rfl⟩ : ∃ Q9, Q9 = Q1 := ⟨_, rfl⟩
                obtain ⟨u0, u1, hu0, hu1, HLF, HR9⟩ : ∃ u0 u1 : ByteArray, u0.size ≤ 30 ∧ u1.size ≤ 30 ∧ Hid (∀ CL, Lf 100 65536 v0 t0 u0 v1 t1 u1 (crash Q9 CL)) ∧ Hid (Rows2 w5 cb lb nb c0 c1 t0 t1 u0 u1) := ⟨_, _, ht0, hs30, HLF, HR9⟩
                by_cases h6 : 6 < C.length
                · have hcc : 6 ≤ ccap := by omega
                  go_wp2_with fail
                  refine (CR1.out h6 _ _ HD9.out HG9.out).mono ?_
                  rintro e wa ⟨rfl, hda, hsa⟩
                  have HDa := Lib.hid hda
                  have HGa := Lib.hid (hsa.gr HG9.out HDW.out)
                  have HRa := Lib.hid (HR9.out.duo (Duo.right (p := d) hsa) ⟨HN.out.1, HN.out.1⟩ ⟨HN.out.2.1, HN.out.2.1⟩ ⟨HN.out.2.2.1, HN.out.2.2.1⟩)
                  obtain ⟨Qo1, V1, T1, Qo2, V2, T2, ho1, hT1, hbo1, ho2, hT2⟩ := (HLF.out (C.take 6)).opens hda.ok (by decide) (by omega) (by omega) (by omega) (by omega) (by omega) (by omega)
                  have HO1 := Lib.hid ho1
                  have HO2 := Lib.hid ho2
                  have HT1 := Lib.hid hT1
                  have HT2 := Lib.hid hT2
                  have HBo1 := Lib.hid (HLF.out (C.take 6)).bd
                  have HBo2 := Lib.hid hbo1
                  clear ho1 ho2 hT1 hT2 hbo1 hda hsa
                  go_wp2
                  go_loopw [94] (fun i wr => ∃ (j : Nat), j ≤ 2 ∧ i = .int .i64 (j : Nat) ∧ Hid ((j = 0 ∧ DkIs wr d (crash Q9 (C.take 6))) ∨ (j = 1 ∧ DkIs wr d Qo1) ∨ j = 2) ∧ Hid (Rows2 wr cb lb nb c0 c1 t0 t1 u0 u1) ∧ Hid (Gr w wr)) (fun i _ => 2 - (intOf i).toNat)
                  case atStart => exact ⟨0, by omega, rfl, Lib.hid (.inl ⟨rfl, HDa.out⟩), HRa, HGa⟩
                  case round =>
                    obtain ⟨j, hj, rfl, HW3, HRr, HGr⟩ := hrel
                    rcases HW3.out with ⟨rfl, hd⟩ | ⟨rfl, hd⟩ | rfl
                    · skip
                      have rl := HRr.out.l0
                      have rn := HRr.out.n0
                      go_wp2_with fail
                      refine (open_to (B := 100) (f := 0) (g := 1) _ hd HBo1.out (by decide) rfl (by decide) HO1.out).mono ?_
                      rintro e wo ⟨co, rfl, hcwo, -, hdo, hso⟩
                      have HDo := Lib.hid hdo
                      have HGo := Lib.hid (hso.gr HGr.out HDW.out)
                      have HRo := Lib.hid (HRr.out.duo (Duo.right (p := d) hso) ⟨HN.out.1, HN.out.1⟩ ⟨HN.out.2.1, HN.out.2.1⟩ ⟨HN.out.2.2.1, HN.out.2.2.1⟩)
                      replace rl := HRo.out.l0
                      replace rn := HRo.out.n0
                      clear hcwo hdo hso hd HW3
                      rcases HT1.out with hT | hT
                      · rw [hT]
                        have hss : (t0.toList == t0.toList) = true := by simp
                        go_wp2
                        go_roundw
                        case rel => exact ⟨1, by omega, rfl, Lib.hid (.inr (.inl ⟨rfl, HDo.out⟩)), HRo, HGo⟩
                        case measure => simp [intOf]
                      · rw [hT]
                        have hss : (u0.toList == u0.toList) = true := by simp
                        rcases hst : (u0.toList == t0.toList) with _ | _
                        · skip
                          go_wp2
                          go_roundw
                          case rel => exact ⟨1, by omega, rfl, Lib.hid (.inr (.inl ⟨rfl, HDo.out⟩)), HRo, HGo⟩
                          case measure => simp [intOf]
                        · skip
                          go_wp2
                          go_roundw
                          case rel => exact ⟨1, by omega, rfl, Lib.hid (.inr (.inl ⟨rfl, HDo.out⟩)), HRo, HGo⟩
                          case measure => simp [intOf]
                    · skip
                      have rl := HRr.out.l1
                      have rn := HRr.out.n1
                      go_wp2_with fail
                      refine (open_to (B := 100) (f := 2) (g := 3) _ hd HBo2.out (by decide) rfl (by decide) HO2.out).mono ?_
                      rintro e wo ⟨co, rfl, hcwo, -, hdo, hso⟩
                      have HDo := Lib.hid hdo
                      have HGo := Lib.hid (hso.gr HGr.out HDW.out)
                      have HRo := Lib.hid (HRr.out.duo (Duo.right (p := d) hso) ⟨HN.out.1, HN.out.1⟩ ⟨HN.out.2.1, HN.out.2.1⟩ ⟨HN.out.2.2.1, HN.out.2.2.1⟩)
                      replace rl := HRo.out.l1
                      replace rn := HRo.out.n1
                      clear hcwo hdo hso hd HW3
                      rcases HT2.out with hT | hT
                      · rw [hT]
                        have hss : (t1.toList == t1.toList) = true := by simp
                        go_wp2
                        go_roundw
                        case rel => exact ⟨2, by omega, rfl, Lib.hid (.inr (.inr rfl)), HRo, HGo⟩
                        case measure => simp [intOf]
                      · rw [hT]
                        have hss : (u1.toList == u1.toList) = true := by simp
                        rcases hst : (u1.toList == t1.toList) with _ | _
                        · skip
                          go_wp2
                          go_roundw
                          case rel => exact ⟨2, by omega, rfl, Lib.hid (.inr (.inr rfl)), HRo, HGo⟩
                          case measure => simp [intOf]
                        · skip
                          go_wp2
                          go_roundw
                          case rel => exact ⟨2, by omega, rfl, Lib.hid (.inr (.inr rfl)), HRo, HGo⟩
                          case measure => simp [intOf]
                    · clear HW3
                      go_wp2
                      go_ret
                      exact ⟨rfl, HGr.out⟩
                · skip
                  go_wp2_with fail
                  refine (CR2.out _ _ HD9.out HG9.out).mono ?_
                  rintro e wa ⟨rfl, hda, hsa⟩
                  have HDa := Lib.hid hda
                  have HGa := Lib.hid (hsa.gr HG9.out HDW.out)
                  have HRa := Lib.hid (HR9.out.duo (Duo.right (p := d) hsa) ⟨HN.out.1, HN.out.1⟩ ⟨HN.out.2.1, HN.out.2.1⟩ ⟨HN.out.2.2.1, HN.out.2.2.1⟩)
                  obtain ⟨Qo1, V1, T1, Qo2, V2, T2, ho1, hT1, hbo1, ho2, hT2⟩ := (HLF.out (C)).opens hda.ok (by decide) (by omega) (by omega) (by omega) (by omega) (by omega) (by omega)
                  have HO1 := Lib.hid ho1
                  have HO2 := Lib.hid ho2
                  have HT1 := Lib.hid hT1
                  have HT2 := Lib.hid hT2
                  have HBo1 := Lib.hid (HLF.out (C)).bd
                  have HBo2 := Lib.hid hbo1
                  clear ho1 ho2 hT1 hT2 hbo1 hda hsa
                  go_wp2
                  go_loopw [94] (fun i wr => ∃ (j : Nat), j ≤ 2 ∧ i = .int .i64 (j : Nat) ∧ Hid ((j = 0 ∧ DkIs wr d (crash Q9 (C))) ∨ (j = 1 ∧ DkIs wr d Qo1) ∨ j = 2) ∧ Hid (Rows2 wr cb lb nb c0 c1 t0 t1 u0 u1) ∧ Hid (Gr w wr)) (fun i _ => 2 - (intOf i).toNat)
                  case atStart => exact ⟨0, by omega, rfl, Lib.hid (.inl ⟨rfl, HDa.out⟩), HRa, HGa⟩
                  case round =>
                    obtain ⟨j, hj, rfl, HW3, HRr, HGr⟩ := hrel
                    rcases HW3.out with ⟨rfl, hd⟩ | ⟨rfl, hd⟩ | rfl
                    · skip
                      have rl := HRr.out.l0
                      have rn := HRr.out.n0
                      go_wp2_with fail
                      refine (open_to (B := 100) (f := 0) (g := 1) _ hd HBo1.out (by decide) rfl (by decide) HO1.out).mono ?_
                      rintro e wo ⟨co, rfl, hcwo, -, hdo, hso⟩
                      have HDo := Lib.hid hdo
                      have HGo := Lib.hid (hso.gr HGr.out HDW.out)
                      have HRo := Lib.hid (HRr.out.duo (Duo.right (p := d) hso) ⟨HN.out.1, HN.out.1⟩ ⟨HN.out.2.1, HN.out.2.1⟩ ⟨HN.out.2.2.1, HN.out.2.2.1⟩)
                      replace rl := HRo.out.l0
                      replace rn := HRo.out.n0
                      clear hcwo hdo hso hd HW3
                      rcases HT1.out with hT | hT
                      · rw [hT]
                        have hss : (t0.toList == t0.toList) = true := by simp
                        go_wp2
                        go_roundw
                        case rel => exact ⟨1, by omega, rfl, Lib.hid (.inr (.inl ⟨rfl, HDo.out⟩)), HRo, HGo⟩
                        case measure => simp [intOf]
                      · rw [hT]
                        have hss : (u0.toList == u0.toList) = true := by simp
                        rcases hst : (u0.toList == t0.toList) with _ | _
                        · skip
                          go_wp2
                          go_roundw
                          case rel => exact ⟨1, by omega, rfl, Lib.hid (.inr (.inl ⟨rfl, HDo.out⟩)), HRo, HGo⟩
                          case measure => simp [intOf]
                        · skip
                          go_wp2
                          go_roundw
                          case rel => exact ⟨1, by omega, rfl, Lib.hid (.inr (.inl ⟨rfl, HDo.out⟩)), HRo, HGo⟩
                          case measure => simp [intOf]
                    · skip
                      have rl := HRr.out.l1
                      have rn := HRr.out.n1
                      go_wp2_with fail
                      refine (open_to (B := 100) (f := 2) (g := 3) _ hd HBo2.out (by decide) rfl (by decide) HO2.out).mono ?_
                      rintro e wo ⟨co, rfl, hcwo, -, hdo, hso⟩
                      have HDo := Lib.hid hdo
                      have HGo := Lib.hid (hso.gr HGr.out HDW.out)
                      have HRo := Lib.hid (HRr.out.duo (Duo.right (p := d) hso) ⟨HN.out.1, HN.out.1⟩ ⟨HN.out.2.1, HN.out.2.1⟩ ⟨HN.out.2.2.1, HN.out.2.2.1⟩)
                      replace rl := HRo.out.l1
                      replace rn := HRo.out.n1
                      clear hcwo hdo hso hd HW3
                      rcases HT2.out with hT | hT
                      · rw [hT]
                        have hss : (t1.toList == t1.toList) = true := by simp
                        go_wp2
                        go_roundw
                        case rel => exact ⟨2, by omega, rfl, Lib.hid (.inr (.inr rfl)), HRo, HGo⟩
                        case measure => simp [intOf]
                      · rw [hT]
                        have hss : (u1.toList == u1.toList) = true := by simp
                        rcases hst : (u1.toList == t1.toList) with _ | _
                        · skip
                          go_wp2
                          go_roundw
                          case rel => exact ⟨2, by omega, rfl, Lib.hid (.inr (.inr rfl)), HRo, HGo⟩
                          case measure => simp [intOf]
                        · skip
                          go_wp2
                          go_roundw
                          case rel => exact ⟨2, by omega, rfl, Lib.hid (.inr (.inr rfl)), HRo, HGo⟩
                          case measure => simp [intOf]
                    · clear HW3
                      go_wp2
                      go_ret
                      exact ⟨rfl, HGr.out⟩
          · have h66 : 16 ≤ k := by omega
            have HD9 := HD
            have HG9 := HG
            obtain ⟨Q9, rfl⟩ : ∃ Q9, Q9 = Q := ⟨_, rfl⟩
            obtain ⟨u0, u1, hu0, hu1, HLF, HR9⟩ : ∃ u0 u1 : ByteArray, u0.size ≤ 30 ∧ u1.size ≤ 30 ∧ Hid (∀ CL, Lf 100 65536 v0 t0 u0 v1 t1 u1 (crash Q9 CL)) ∧ Hid (Rows2 wr cb lb nb c0 c1 t0 t1 u0 u1) := ⟨t0, t1, ht0, ht1, Lib.hid (fun CL => HCA.out.crashes CL), HR⟩
            by_cases h6 : 6 < C.length
            · have hcc : 6 ≤ ccap := by omega
              go_wp2_with fail
              refine (CR1.out h6 _ _ HD9.out HG9.out).mono ?_
              rintro e wa ⟨rfl, hda, hsa⟩
              have HDa := Lib.hid hda
              have HGa := Lib.hid (hsa.gr HG9.out HDW.out)
              have HRa := Lib.hid (HR9.out.duo (Duo.right (p := d) hsa) ⟨HN.out.1, HN.out.1⟩ ⟨HN.out.2.1, HN.out.2.1⟩ ⟨HN.out.2.2.1, HN.out.2.2.1⟩)
              obtain ⟨Qo1, V1, T1, Qo2, V2, T2, ho1, hT1, hbo1, ho2, hT2⟩ := (HLF.out (C.take 6)).opens hda.ok (by decide) (by omega) (by omega) (by omega) (by omega) (by omega) (by omega)
              have HO1 := Lib.hid ho1
              have HO2 := Lib.hid ho2
              have HT1 := Lib.hid hT1
              have HT2 := Lib.hid hT2
              have HBo1 := Lib.hid (HLF.out (C.take 6)).bd
              have HBo2 := Lib.hid hbo1
              clear ho1 ho2 hT1 hT2 hbo1 hda hsa
              go_wp2
              go_loopw [94] (fun i wr => ∃ (j : Nat), j ≤ 2 ∧ i = .int .i64 (j : Nat) ∧ Hid ((j = 0 ∧ DkIs wr d (crash Q9 (C.take 6))) ∨ (j = 1 ∧ DkIs wr d Qo1) ∨ j = 2) ∧ Hid (Rows2 wr cb lb nb c0 c1 t0 t1 u0 u1) ∧ Hid (Gr w wr)) (fun i _ => 2 - (intOf i).toNat)
              case atStart => exact ⟨0, by omega, rfl, Lib.hid (.inl ⟨rfl, HDa.out⟩), HRa, HGa⟩
              case round =>
                obtain ⟨j, hj, rfl, HW3, HRr, HGr⟩ := hrel
                rcases HW3.out with ⟨rfl, hd⟩ | ⟨rfl, hd⟩ | rfl
                · skip
                  have rl := HRr.out.l0
                  have rn := HRr.out.n0
                  go_wp2_with fail
                  refine (open_to (B := 100) (f := 0) (g := 1) _ hd HBo1.out (by decide) rfl (by decide) HO1.out).mono ?_
                  rintro e wo ⟨co, rfl, hcwo, -, hdo, hso⟩
                  have HDo := Lib.hid hdo
                  have HGo := Lib.hid (hso.gr HGr.out HDW.out)
                  have HRo := Lib.hid (HRr.out.duo (Duo.right (p := d) hso) ⟨HN.out.1, HN.out.1⟩ ⟨HN.out.2.1, HN.out.2.1⟩ ⟨HN.out.2.2.1, HN.out.2.2.1⟩)
                  replace rl := HRo.out.l0
                  replace rn := HRo.out.n0
                  clear hcwo hdo hso hd HW3
                  rcases HT1.out with hT | hT
                  · rw [hT]
                    have hss : (t0.toList == t0.toList) = true := by simp
                    go_wp2
                    go_roundw
                    case rel => exact ⟨1, by omega, rfl, Lib.hid (.inr (.inl ⟨rfl, HDo.out⟩)), HRo, HGo⟩
                    case measure => simp [intOf]
                  · rw [hT]
                    have hss : (u0.toList == u0.toList) = true := by simp
                    rcases hst : (u0.toList == t0.toList) with _ | _
                    · skip
                      go_wp2
                      go_roundw
                      case rel => exact ⟨1, by omega, rfl, Lib.hid (.inr (.inl ⟨rfl, HDo.out⟩)), HRo, HGo⟩
                      case measure => simp [intOf]
                    · skip
                      go_wp2
                      go_roundw
                      case rel => exact ⟨1, by omega, rfl, Lib.hid (.inr (.inl ⟨rfl, HDo.out⟩)), HRo, HGo⟩
                      case measure => simp [intOf]
                · skip
                  have rl := HRr.out.l1
                  have rn := HRr.out.n1
                  go_wp2_with fail
                  refine (open_to (B := 100) (f := 2) (g := 3) _ hd HBo2.out (by decide) rfl (by decide) HO2.out).mono ?_
                  rintro e wo ⟨co, rfl, hcwo, -, hdo, hso⟩
                  have HDo := Lib.hid hdo
                  have HGo := Lib.hid (hso.gr HGr.out HDW.out)
                  have HRo := Lib.hid (HRr.out.duo (Duo.right (p := d) hso) ⟨HN.out.1, HN.out.1⟩ ⟨HN.out.2.1, HN.out.2.1⟩ ⟨HN.out.2.2.1, HN.out.2.2.1⟩)
                  replace rl := HRo.out.l1
                  replace rn := HRo.out.n1
                  clear hcwo hdo hso hd HW3
                  rcases HT2.out with hT | hT
                  · rw [hT]
                    have hss : (t1.toList == t1.toList) = true := by simp
                    go_wp2
                    go_roundw
                    case rel => exact ⟨2, by omega, rfl, Lib.hid (.inr (.inr rfl)), HRo, HGo⟩
                    case measure => simp [intOf]
                  · rw [hT]
                    have hss : (u1.toList == u1.toList) = true := by simp
                    rcases hst : (u1.toList == t1.toList) with _ | _
                    · skip
                      go_wp2
                      go_roundw
                      case rel => exact ⟨2, by omega, rfl, Lib.hid (.inr (.inr rfl)), HRo, HGo⟩
                      case measure => simp [intOf]
                    · skip
                      go_wp2
                      go_roundw
                      case rel => exact ⟨2, by omega, rfl, Lib.hid (.inr (.inr rfl)), HRo, HGo⟩
                      case measure => simp [intOf]
                · clear HW3
                  go_wp2
                  go_ret
                  exact ⟨rfl, HGr.out⟩
            · skip
              go_wp2_with fail
              refine (CR2.out _ _ HD9.out HG9.out).mono ?_
              rintro e wa ⟨rfl, hda, hsa⟩
              have HDa := Lib.hid hda
              have HGa := Lib.hid (hsa.gr HG9.out HDW.out)
              have HRa := Lib.hid (HR9.out.duo (Duo.right (p := d) hsa) ⟨HN.out.1, HN.out.1⟩ ⟨HN.out.2.1, HN.out.2.1⟩ ⟨HN.out.2.2.1, HN.out.2.2.1⟩)
              obtain ⟨Qo1, V1, T1, Qo2, V2, T2, ho1, hT1, hbo1, ho2, hT2⟩ := (HLF.out (C)).opens hda.ok (by decide) (by omega) (by omega) (by omega) (by omega) (by omega) (by omega)
              have HO1 := Lib.hid ho1
              have HO2 := Lib.hid ho2
              have HT1 := Lib.hid hT1
              have HT2 := Lib.hid hT2
              have HBo1 := Lib.hid (HLF.out (C)).bd
              have HBo2 := Lib.hid hbo1
              clear ho1 ho2 hT1 hT2 hbo1 hda hsa
              go_wp2
              go_loopw [94] (fun i wr => ∃ (j : Nat), j ≤ 2 ∧ i = .int .i64 (j : Nat) ∧ Hid ((j = 0 ∧ DkIs wr d (crash Q9 (C))) ∨ (j = 1 ∧ DkIs wr d Qo1) ∨ j = 2) ∧ Hid (Rows2 wr cb lb nb c0 c1 t0 t1 u0 u1) ∧ Hid (Gr w wr)) (fun i _ => 2 - (intOf i).toNat)
              case atStart => exact ⟨0, by omega, rfl, Lib.hid (.inl ⟨rfl, HDa.out⟩), HRa, HGa⟩
              case round =>
                obtain ⟨j, hj, rfl, HW3, HRr, HGr⟩ := hrel
                rcases HW3.out with ⟨rfl, hd⟩ | ⟨rfl, hd⟩ | rfl
                · skip
                  have rl := HRr.out.l0
                  have rn := HRr.out.n0
                  go_wp2_with fail
                  refine (open_to (B := 100) (f := 0) (g := 1) _ hd HBo1.out (by decide) rfl (by decide) HO1.out).mono ?_
                  rintro e wo ⟨co, rfl, hcwo, -, hdo, hso⟩
                  have HDo := Lib.hid hdo
                  have HGo := Lib.hid (hso.gr HGr.out HDW.out)
                  have HRo := Lib.hid (HRr.out.duo (Duo.right (p := d) hso) ⟨HN.out.1, HN.out.1⟩ ⟨HN.out.2.1, HN.out.2.1⟩ ⟨HN.out.2.2.1, HN.out.2.2.1⟩)
                  replace rl := HRo.out.l0
                  replace rn := HRo.out.n0
                  clear hcwo hdo hso hd HW3
                  rcases HT1.out with hT | hT
                  · rw [hT]
                    have hss : (t0.toList == t0.toList) = true := by simp
                    go_wp2
                    go_roundw
                    case rel => exact ⟨1, by omega, rfl, Lib.hid (.inr (.inl ⟨rfl, HDo.out⟩)), HRo, HGo⟩
                    case measure => simp [intOf]
                  · rw [hT]
                    have hss : (u0.toList == u0.toList) = true := by simp
                    rcases hst : (u0.toList == t0.toList) with _ | _
                    · skip
                      go_wp2
                      go_roundw
                      case rel => exact ⟨1, by omega, rfl, Lib.hid (.inr (.inl ⟨rfl, HDo.out⟩)), HRo, HGo⟩
                      case measure => simp [intOf]
                    · skip
                      go_wp2
                      go_roundw
                      case rel => exact ⟨1, by omega, rfl, Lib.hid (.inr (.inl ⟨rfl, HDo.out⟩)), HRo, HGo⟩
                      case measure => simp [intOf]
                · skip
                  have rl := HRr.out.l1
                  have rn := HRr.out.n1
                  go_wp2_with fail
                  refine (open_to (B := 100) (f := 2) (g := 3) _ hd HBo2.out (by decide) rfl (by decide) HO2.out).mono ?_
                  rintro e wo ⟨co, rfl, hcwo, -, hdo, hso⟩
                  have HDo := Lib.hid hdo
                  have HGo := Lib.hid (hso.gr HGr.out HDW.out)
                  have HRo := Lib.hid (HRr.out.duo (Duo.right (p := d) hso) ⟨HN.out.1, HN.out.1⟩ ⟨HN.out.2.1, HN.out.2.1⟩ ⟨HN.out.2.2.1, HN.out.2.2.1⟩)
                  replace rl := HRo.out.l1
                  replace rn := HRo.out.n1
                  clear hcwo hdo hso hd HW3
                  rcases HT2.out with hT | hT
                  · rw [hT]
                    have hss : (t1.toList == t1.toList) = true := by simp
                    go_wp2
                    go_roundw
                    case rel => exact ⟨2, by omega, rfl, Lib.hid (.inr (.inr rfl)), HRo, HGo⟩
                    case measure => simp [intOf]
                  · rw [hT]
                    have hss : (u1.toList == u1.toList) = true := by simp
                    rcases hst : (u1.toList == t1.toList) with _ | _
                    · skip
                      go_wp2
                      go_roundw
                      case rel => exact ⟨2, by omega, rfl, Lib.hid (.inr (.inr rfl)), HRo, HGo⟩
                      case measure => simp [intOf]
                    · skip
                      go_wp2
                      go_roundw
                      case rel => exact ⟨2, by omega, rfl, Lib.hid (.inr (.inr rfl)), HRo, HGo⟩
                      case measure => simp [intOf]
                · clear HW3
                  go_wp2
                  go_ret
                  exact ⟨rfl, HGr.out⟩
        · skip
          have HD9 := HD
          have HG9 := HG
          obtain ⟨Q9, rfl⟩ : ∃ Q9, Q9 = Q := ⟨_, rfl⟩
          obtain ⟨u0, u1, hu0, hu1, HLF, HR9⟩ : ∃ u0 u1 : ByteArray, u0.size ≤ 30 ∧ u1.size ≤ 30 ∧ Hid (∀ CL, Lf 100 65536 v0 t0 u0 v1 t1 u1 (crash Q9 CL)) ∧ Hid (Rows2 wr cb lb nb c0 c1 t0 t1 u0 u1) := ⟨t0, t1, ht0, ht1, Lib.hid (fun CL => HCA.out.crashes CL), HR⟩
          by_cases h6 : 6 < C.length
          · have hcc : 6 ≤ ccap := by omega
            go_wp2_with fail
            refine (CR1.out h6 _ _ HD9.out HG9.out).mono ?_
            rintro e wa ⟨rfl, hda, hsa⟩
            have HDa := Lib.hid hda
            have HGa := Lib.hid (hsa.gr HG9.out HDW.out)
            have HRa := Lib.hid (HR9.out.duo (Duo.right (p := d) hsa) ⟨HN.out.1, HN.out.1⟩ ⟨HN.out.2.1, HN.out.2.1⟩ ⟨HN.out.2.2.1, HN.out.2.2.1⟩)
            obtain ⟨Qo1, V1, T1, Qo2, V2, T2, ho1, hT1, hbo1, ho2, hT2⟩ := (HLF.out (C.take 6)).opens hda.ok (by decide) (by omega) (by omega) (by omega) (by omega) (by omega) (by omega)
            have HO1 := Lib.hid ho1
            have HO2 := Lib.hid ho2
            have HT1 := Lib.hid hT1
            have HT2 := Lib.hid hT2
            have HBo1 := Lib.hid (HLF.out (C.take 6)).bd
            have HBo2 := Lib.hid hbo1
            clear ho1 ho2 hT1 hT2 hbo1 hda hsa
            go_wp2
            go_loopw [94] (fun i wr => ∃ (j : Nat), j ≤ 2 ∧ i = .int .i64 (j : Nat) ∧ Hid ((j = 0 ∧ DkIs wr d (crash Q9 (C.take 6))) ∨ (j = 1 ∧ DkIs wr d Qo1) ∨ j = 2) ∧ Hid (Rows2 wr cb lb nb c0 c1 t0 t1 u0 u1) ∧ Hid (Gr w wr)) (fun i _ => 2 - (intOf i).toNat)
            case atStart => exact ⟨0, by omega, rfl, Lib.hid (.inl ⟨rfl, HDa.out⟩), HRa, HGa⟩
            case round =>
              obtain ⟨j, hj, rfl, HW3, HRr, HGr⟩ := hrel
              rcases HW3.out with ⟨rfl, hd⟩ | ⟨rfl, hd⟩ | rfl
              · skip
                have rl := HRr.out.l0
                have rn := HRr.out.n0
                go_wp2_with fail
                refine (open_to (B := 100) (f := 0) (g := 1) _ hd HBo1.out (by decide) rfl (by decide) HO1.out).mono ?_
                rintro e wo ⟨co, rfl, hcwo, -, hdo, hso⟩
                have HDo := Lib.hid hdo
                have HGo := Lib.hid (hso.gr HGr.out HDW.out)
                have HRo := Lib.hid (HRr.out.duo (Duo.right (p := d) hso) ⟨HN.out.1, HN.out.1⟩ ⟨HN.out.2.1, HN.out.2.1⟩ ⟨HN.out.2.2.1, HN.out.2.2.1⟩)
                replace rl := HRo.out.l0
                replace rn := HRo.out.n0
                clear hcwo hdo hso hd HW3
                rcases HT1.out with hT | hT
                · rw [hT]
                  have hss : (t0.toList == t0.toList) = true := by simp
                  go_wp2
                  go_roundw
                  case rel => exact ⟨1, by omega, rfl, Lib.hid (.inr (.inl ⟨rfl, HDo.out⟩)), HRo, HGo⟩
                  case measure => simp [intOf]
                · rw [hT]
                  have hss : (u0.toList == u0.toList) = true := by simp
                  rcases hst : (u0.toList == t0.toList) with _ | _
                  · skip
                    go_wp2
                    go_roundw
                    case rel => exact ⟨1, by omega, rfl, Lib.hid (.inr (.inl ⟨rfl, HDo.out⟩)), HRo, HGo⟩
                    case measure => simp [intOf]
                  · skip
                    go_wp2
                    go_roundw
                    case rel => exact ⟨1, by omega, rfl, Lib.hid (.inr (.inl ⟨rfl, HDo.out⟩)), HRo, HGo⟩
                    case measure => simp [intOf]
              · skip
                have rl := HRr.out.l1
                have rn := HRr.out.n1
                go_wp2_with fail
                refine (open_to (B := 100) (f := 2) (g := 3) _ hd HBo2.out (by decide) rfl (by decide) HO2.out).mono ?_
                rintro e wo ⟨co, rfl, hcwo, -, hdo, hso⟩
                have HDo := Lib.hid hdo
                have HGo := Lib.hid (hso.gr HGr.out HDW.out)
                have HRo := Lib.hid (HRr.out.duo (Duo.right (p := d) hso) ⟨HN.out.1, HN.out.1⟩ ⟨HN.out.2.1, HN.out.2.1⟩ ⟨HN.out.2.2.1, HN.out.2.2.1⟩)
                replace rl := HRo.out.l1
                replace rn := HRo.out.n1
                clear hcwo hdo hso hd HW3
                rcases HT2.out with hT | hT
                · rw [hT]
                  have hss : (t1.toList == t1.toList) = true := by simp
                  go_wp2
                  go_roundw
                  case rel => exact ⟨2, by omega, rfl, Lib.hid (.inr (.inr rfl)), HRo, HGo⟩
                  case measure => simp [intOf]
                · rw [hT]
                  have hss : (u1.toList == u1.toList) = true := by simp
                  rcases hst : (u1.toList == t1.toList) with _ | _
                  · skip
                    go_wp2
                    go_roundw
                    case rel => exact ⟨2, by omega, rfl, Lib.hid (.inr (.inr rfl)), HRo, HGo⟩
                    case measure => simp [intOf]
                  · skip
                    go_wp2
                    go_roundw
                    case rel => exact ⟨2, by omega, rfl, Lib.hid (.inr (.inr rfl)), HRo, HGo⟩
                    case measure => simp [intOf]
              · clear HW3
                go_wp2
                go_ret
                exact ⟨rfl, HGr.out⟩
          · skip
            go_wp2_with fail
            refine (CR2.out _ _ HD9.out HG9.out).mono ?_
            rintro e wa ⟨rfl, hda, hsa⟩
            have HDa := Lib.hid hda
            have HGa := Lib.hid (hsa.gr HG9.out HDW.out)
            have HRa := Lib.hid (HR9.out.duo (Duo.right (p := d) hsa) ⟨HN.out.1, HN.out.1⟩ ⟨HN.out.2.1, HN.out.2.1⟩ ⟨HN.out.2.2.1, HN.out.2.2.1⟩)
            obtain ⟨Qo1, V1, T1, Qo2, V2, T2, ho1, hT1, hbo1, ho2, hT2⟩ := (HLF.out (C)).opens hda.ok (by decide) (by omega) (by omega) (by omega) (by omega) (by omega) (by omega)
            have HO1 := Lib.hid ho1
            have HO2 := Lib.hid ho2
            have HT1 := Lib.hid hT1
            have HT2 := Lib.hid hT2
            have HBo1 := Lib.hid (HLF.out (C)).bd
            have HBo2 := Lib.hid hbo1
            clear ho1 ho2 hT1 hT2 hbo1 hda hsa
            go_wp2
            go_loopw [94] (fun i wr => ∃ (j : Nat), j ≤ 2 ∧ i = .int .i64 (j : Nat) ∧ Hid ((j = 0 ∧ DkIs wr d (crash Q9 (C))) ∨ (j = 1 ∧ DkIs wr d Qo1) ∨ j = 2) ∧ Hid (Rows2 wr cb lb nb c0 c1 t0 t1 u0 u1) ∧ Hid (Gr w wr)) (fun i _ => 2 - (intOf i).toNat)
            case atStart => exact ⟨0, by omega, rfl, Lib.hid (.inl ⟨rfl, HDa.out⟩), HRa, HGa⟩
            case round =>
              obtain ⟨j, hj, rfl, HW3, HRr, HGr⟩ := hrel
              rcases HW3.out with ⟨rfl, hd⟩ | ⟨rfl, hd⟩ | rfl
              · skip
                have rl := HRr.out.l0
                have rn := HRr.out.n0
                go_wp2_with fail
                refine (open_to (B := 100) (f := 0) (g := 1) _ hd HBo1.out (by decide) rfl (by decide) HO1.out).mono ?_
                rintro e wo ⟨co, rfl, hcwo, -, hdo, hso⟩
                have HDo := Lib.hid hdo
                have HGo := Lib.hid (hso.gr HGr.out HDW.out)
                have HRo := Lib.hid (HRr.out.duo (Duo.right (p := d) hso) ⟨HN.out.1, HN.out.1⟩ ⟨HN.out.2.1, HN.out.2.1⟩ ⟨HN.out.2.2.1, HN.out.2.2.1⟩)
                replace rl := HRo.out.l0
                replace rn := HRo.out.n0
                clear hcwo hdo hso hd HW3
                rcases HT1.out with hT | hT
                · rw [hT]
                  have hss : (t0.toList == t0.toList) = true := by simp
                  go_wp2
                  go_roundw
                  case rel => exact ⟨1, by omega, rfl, Lib.hid (.inr (.inl ⟨rfl, HDo.out⟩)), HRo, HGo⟩
                  case measure => simp [intOf]
                · rw [hT]
                  have hss : (u0.toList == u0.toList) = true := by simp
                  rcases hst : (u0.toList == t0.toList) with _ | _
                  · skip
                    go_wp2
                    go_roundw
                    case rel => exact ⟨1, by omega, rfl, Lib.hid (.inr (.inl ⟨rfl, HDo.out⟩)), HRo, HGo⟩
                    case measure => simp [intOf]
                  · skip
                    go_wp2
                    go_roundw
                    case rel => exact ⟨1, by omega, rfl, Lib.hid (.inr (.inl ⟨rfl, HDo.out⟩)), HRo, HGo⟩
                    case measure => simp [intOf]
              · skip
                have rl := HRr.out.l1
                have rn := HRr.out.n1
                go_wp2_with fail
                refine (open_to (B := 100) (f := 2) (g := 3) _ hd HBo2.out (by decide) rfl (by decide) HO2.out).mono ?_
                rintro e wo ⟨co, rfl, hcwo, -, hdo, hso⟩
                have HDo := Lib.hid hdo
                have HGo := Lib.hid (hso.gr HGr.out HDW.out)
                have HRo := Lib.hid (HRr.out.duo (Duo.right (p := d) hso) ⟨HN.out.1, HN.out.1⟩ ⟨HN.out.2.1, HN.out.2.1⟩ ⟨HN.out.2.2.1, HN.out.2.2.1⟩)
                replace rl := HRo.out.l1
                replace rn := HRo.out.n1
                clear hcwo hdo hso hd HW3
                rcases HT2.out with hT | hT
                · rw [hT]
                  have hss : (t1.toList == t1.toList) = true := by simp
                  go_wp2
                  go_roundw
                  case rel => exact ⟨2, by omega, rfl, Lib.hid (.inr (.inr rfl)), HRo, HGo⟩
                  case measure => simp [intOf]
                · rw [hT]
                  have hss : (u1.toList == u1.toList) = true := by simp
                  rcases hst : (u1.toList == t1.toList) with _ | _
                  · skip
                    go_wp2
                    go_roundw
                    case rel => exact ⟨2, by omega, rfl, Lib.hid (.inr (.inr rfl)), HRo, HGo⟩
                    case measure => simp [intOf]
                  · skip
                    go_wp2
                    go_roundw
                    case rel => exact ⟨2, by omega, rfl, Lib.hid (.inr (.inr rfl)), HRo, HGo⟩
                    case measure => simp [intOf]
              · clear HW3
                go_wp2
                go_ret
                exact ⟨rfl, HGr.out⟩
end Go.Proofs.Ytfcfbecfamemlaa
