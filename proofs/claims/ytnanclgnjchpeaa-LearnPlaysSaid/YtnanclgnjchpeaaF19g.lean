import Derived.Test.YtnanclgnjchpeaaF19f
import Derived.WalkKit
import Derived.ProofKit
import Derived.LoopTactic
import Derived.Outline
import Derived.WalkSpells
import Derived.WalkLawsBesides
import Derived.Lib.Hide
import Derived.Deep.LoopGhost
import Derived.Deep.QuietTactic
import Derived.BigQuiet
import Derived.ShutString
import Derived.IntWalk
import Derived.BigQuiet
import Derived.Laws.OwnMore
namespace Go.Proofs.Ytnanclgnjchpeaa
open Go.ChangeShapes Go.WideShapes Go.ChangeAt Go.RowKit
open Bal
set_option linter.unusedVariables false
set_option linter.unusedSimpArgs false
theorem info_entry3 : (Try.prog.info? 44).map (fun i => (i.zero, i.size, i.bytes)) = some (some (.agg #[.int .i64 0, .int .u64 0, .int .i64 0, .string ⟨#[]⟩]), 4, 40) := by kernel_rfl
def logE (a : Ln) (k : Nat) (frm most : Int) : List E := (fromE (a.L.take k) frm).take (max most 0).toNat
theorem cut_take {L : List E} {x : Int} {i k : Nat} (h : Cut16 L x i i) (hi : i ≤ L.length) (hk : k ≤ L.length) : Cut16 (L.take k) x (min i k) (min i k) :=
  ⟨fun p hp hpi => by rw [List.getElem_take]; rw [List.length_take] at hp; exact h.lo p (by omega) (by omega), fun p hp hpi => by
    rw [List.getElem_take]
    rw [List.length_take] at hp
    exact h.hi p (by omega) (by omega)⟩
theorem row_weak {w : World} {b1 b2 n m : Nat} {v : Value} {t : TypeId} {xs : List Value} (h : w.ownsRow b2 t n v m xs) (hb : b1 ≤ b2) : w.ownsRow b1 t n v m xs := by
  obtain ⟨h1, h2⟩ := h
  refine ⟨h1, h2.imp id ?_⟩
  rintro ⟨g, cap, cur, e, hg, r⟩
  exact ⟨g, cap, cur, e, Nat.le_trans hb hg, r⟩
theorem cellsE_four (w : World) (x0 x1 x2 x3 : Value) (t : TypeId) (n : Nat) (hn : n = w.heap.size) : ∀ (j : Nat) (u : Value), [x0, x1, x2, x3][j]? = some u → (w.alloc (.cells #[x0, x1, x2, x3] t)).cell? ((⟨n, 0, none⟩ : Addr).add j) = some u := by
  intro j u hj
  rw [addr_add, Nat.zero_add]
  subst hn
  exact (Blk.new w #[x0, x1, x2, x3] t).cell (by simpa using hj)
section
variable {w0 : World} {b : Nat} {v : Value} {a : Ln} {N : Nat}
set_option maxRecDepth 100000 in
set_option maxHeartbeats 2000000 in
theorem llog_any (k : Nat) (frm most : Int) (w : World) (h : LnIs w0 w b v a) (ha : Asc a.L) (hk : a.dn - a.ba = k) (hkl : k ≤ a.L.length) (hl : a.L.length ≤ 1000) (ht : ∀ x ∈ a.L, x.text.size ≤ 281474976710656) :
    Calls Try.prog 29 #[.pointer (some ⟨b, 0, none⟩), .int .i64 frm, .int .i64 most] w fun e w' => ∃ ra rc, e = .returned (.slice ra (logE a k frm most).length rc) ∧ w'.ownsRow w.heap.size 44 4 (.slice ra (logE a k frm most).length rc) (logE a k frm most).length (rcells encE (logE a k frm most)) ∧ Gr w w' := by
  obtain ⟨i0, hi0, hz0, hz1, hz2⟩ := info_parts info_entry3
  have HE := Lib.hid (lexec_any k w h hk hkl hl)
  have HH := Lib.hid h
  have HA := Lib.hid ha
  have HT := Lib.hid ht
  obtain ⟨ba, dn, L⟩ := a
  replace HE : Hid (Calls Try.prog 72 #[.pointer (some ⟨b, 0, none⟩)] w fun e w' => ∃ va vc, e = .returned (.slice va k vc) ∧ ERow w' va (L.take k) ∧ k ≤ vc ∧ Gr w w') := HE
  simp only at hk hkl hl
  obtain ⟨R, hR⟩ : ∃ R, R = logE ⟨ba, dn, L⟩ k frm most := ⟨_, rfl⟩
  rw [← hR]
  have HR := Lib.hid hR
  clear h ha ht hR hk
  go_enter Try.func29, Try.ntmps29
  go_wp2_with fail
  refine HE.out.mono ?_
  rintro e w1 ⟨va, vc, rfl, hr, hkc, hg⟩
  have HRW := Lib.hid hr
  have HG := Lib.hid hg
  have HH1 := Lib.hid (HH.out.gr hg)
  clear hr hg HE HH
  go_wp2_with fail
  refine (lfind_any frm _ HH1.out hl HA.out).mono ?_
  rintro e w2 ⟨i, fd, rfl, hi, hcut, hfd, hg2⟩
  replace hi : i ≤ L.length := hi
  replace hcut : Cut16 L frm i i := hcut
  have hct := cut_take hcut hi hkl
  have HFR := Lib.hid (from_cut hct (by rw [List.length_take]; omega))
  have hML : (L.take k).length = k := by rw [List.length_take]; omega
  obtain ⟨m, hm⟩ : ∃ m : Nat, m = min i k := ⟨_, rfl⟩
  rw [← hm] at HFR
  have hmk : m ≤ k := by omega
  have HRW2 := Lib.hid ((HRW.out.gr hg2).drop (k := m) (c := vc) (by omega) (by omega))
  have HG2 := Lib.hid (HG.out.trans hg2)
  have hm1 : min (i : Int) (k : Int) = (m : Int) := by omega
  have hDL : ((L.take k).drop m).length = k - m := by rw [List.length_drop, hML]
  have HTD := Lib.hid (show ∀ x ∈ (L.take k).drop m, x.text.size ≤ 281474976710656 from fun x hx => HT.out x (List.mem_of_mem_take (List.mem_of_mem_drop hx)))
  have HR2 := Lib.hid (show R = ((L.take k).drop m).take (max most 0).toNat by rw [HR.out]; show (fromE (L.take k) frm).take (max most 0).toNat = _; rw [HFR.out])
  clear hfd hcut hct hg2 HRW HG HH1 HT HA HFR HR hML hi hm
  generalize (L.take k).drop m = D at *
  have HDL := Lib.hid hDL
  obtain ⟨q, hq⟩ : ∃ q : Nat, (q : Int) = min (max most 0) ((k - m : Nat) : Int) := ⟨(min (max most 0) ((k - m : Nat) : Int)).toNat, by omega⟩
  have hq1 : min (max most 0) ((k - m : Nat) : Int) = (q : Int) := hq.symm
  have hqk : q ≤ k - m := by omega
  have hqv : q ≤ vc - m := by omega
  have HR3 := Lib.hid (show R = D.take q by
    rw [HR2.out]
    by_cases hc : (max most 0).toNat ≤ k - m
    · congr 1; omega
    · rw [List.take_of_length_le (by omega), List.take_of_length_le (by omega)])
  have HRL := Lib.hid (show R.length = q by rw [HR3.out, List.length_take]; omega)
  clear hDL hq HR2
  obtain ⟨sa, hsa⟩ : ∃ sa, sa = (if vc = m then va else Option.map (fun x => x.add (m * 4)) va) := ⟨_, rfl⟩
  rw [← hsa] at HRW2
  have hq1c := hq1
  have HSA := Lib.hid hsa
  clear hsa
  by_cases hq0 : q = 0
  · subst hq0
    by_cases hvm : vc = m
    · obtain rfl : k = vc := by omega
      subst hvm
      have hq0 : min (max most 0) (0 : Int) = 0 := by omega
      go_wp2
      go_loopw [10, 35] (fun u10 u35 wr => u10 = .slice none 0 0 ∧ u35 = .int .i64 0 ∧ Hid (Gr w2 wr)) (fun _ _ _ => 0)
      case atStart => exact ⟨rfl, rfl, Lib.hid (Gr.refl _)⟩
      case round =>
        obtain ⟨rfl, rfl, HG3⟩ := hrel
        go_wp2
        go_ret
        rw [HRL.out, HR3.out, List.take_zero]
        exact ⟨_, _, rfl, World.ownsRow_nil _ _ _ _, HG2.out.trans HG3.out⟩
    · go_wp2
      go_loopw [10, 35] (fun u10 u35 wr => u10 = .slice none 0 0 ∧ u35 = .int .i64 0 ∧ Hid (Gr w2 wr)) (fun _ _ _ => 0)
      case atStart => exact ⟨rfl, rfl, Lib.hid (Gr.refl _)⟩
      case round =>
        obtain ⟨rfl, rfl, HG3⟩ := hrel
        go_wp2
        go_ret
        rw [HRL.out, HR3.out, List.take_zero]
        exact ⟨_, _, rfl, World.ownsRow_nil _ _ _ _, HG2.out.trans HG3.out⟩
  · have hvm : ¬ vc = m := by omega
    rw [if_neg hvm] at HSA
    obtain ⟨g, o, hsg, hcl⟩ := HRW2.out.resolve_left (fun e => by have := HDL.out; rw [e] at this; simp at this; omega)
    subst hsg
    obtain ⟨x0, rfl, hx0⟩ := Option.map_eq_some_iff.1 HSA.out.symm
    clear hcl HSA
    go_wp2
    go_loopw [10, 35] (fun u10 u35 wr => ∃ j : Nat, j ≤ q ∧ u35 = .int .i64 (j : Nat) ∧ Hid (wr.ownsRow w2.heap.size 44 4 u10 j (rcells encE (D.take j))) ∧ Hid (Gr w2 wr)) (fun _ u35 _ => q - (intOf u35).toNat)
    case atStart => exact ⟨0, by omega, rfl, Lib.hid (World.ownsRow_nil _ _ _ _), Lib.hid (Gr.refl _)⟩
    case round =>
      obtain ⟨j, hj, rfl, HO, HG3⟩ := hrel
      obtain ⟨xa, xc, rfl, _⟩ := ownsRow_slice HO.out
      by_cases hlt : j < q
      · have hj4 : (j : Int) < (q : Int) := by omega
        have hjD : j < D.length := by have := HDL.out; omega
        obtain ⟨g', o', hgo, c0, c1, c2, c3⟩ := (HRW2.out.gr HG3.out).at j hjD
        simp only [Option.some.injEq, Addr.mk.injEq, and_true] at hgo
        obtain ⟨rfl, rfl⟩ := hgo
        have HTX := Lib.hid (HTD.out D[j] (List.getElem_mem _))
        have Hsn := Lib.hid (show rcells encE (D.take (j + 1)) = rcells encE (D.take j) ++ encE D[j] by rw [List.take_succ_eq_append_getElem hjD, rcells_snoc])
        generalize D[j] = y at *
        obtain ⟨s, c, n, t⟩ := y
        simp only at c0 c1 c2 c3 HTX
        have HGA := Lib.hid (HG3.out.alloc (.cells #[.int .i64 s, .int .u64 c, .int .i64 n, .string t] 44))
        have HOA := Lib.hid (ownsRow_gr ((Gr.refl wr).alloc (.cells #[.int .i64 s, .int .u64 c, .int .i64 n, .string t] 44)) HO.out)
        clear HO
        go_wp2_with fail
        refine (lcopied_any ⟨s, c, n, t⟩ _ HTX.out).mono ?_
        rintro e w9 ⟨rfl, hg9⟩
        have HG9 := Lib.hid (HGA.out.trans hg9)
        have hown := ownsRow_gr hg9 HOA.out
        clear hg9 HGA HOA c0 c1 c2 c3
        simp only
        go_wp2_with (at_builtin; refine wpList_append_own _ rfl (.tmp 39) (.tmp 42) 59 rfl w2.heap.size 44 i0 (.agg #[.int .i64 0, .int .u64 0, .int .i64 0, .string ⟨#[]⟩]) 4 40 Try.underlying59 hi0 hz0 hz1 hz2 rfl (by decide) _ _ _ rfl (hown.alloc _) ⟨w9.heap.size, 0, none⟩ 1 1 [.int .i64 s, .int .u64 c, .int .i64 n, .string t] rfl rfl ?c1 ?c2 ?c3 ?c4 ?c5 ?_)
        case c1 => exact cellsE_four _ _ _ _ _ _ _ rfl
        case c2 => intro u hu; simp at hu; rcases hu with rfl | rfl | rfl | rfl <;> rfl
        case c3 => unfold maxLen; omega
        case c4 => omega
        case c5 => have := HG9.out.size; simp; omega
        · intro v' w3 hown3 hgrow _
          have hg3 := (HG9.out.alloc _).append (hown.alloc _) hgrow
          have HO3 := Lib.hid hown3
          have HG4 := Lib.hid hg3
          clear hgrow hown hown3 hg3
          go_wp2
          go_roundw
          case rel =>
            exact ⟨j + 1, by omega, by go_num, Lib.hid (by rw [Hsn.out]; exact HO3.out), HG4⟩
          case measure => simp [intOf]; omega
      · have hj4 : ¬ (j : Int) < (q : Int) := by omega
        obtain rfl : j = q := by omega
        go_wp2
        go_ret
        rw [HRL.out]
        exact ⟨_, _, rfl, by rw [HR3.out]; exact row_weak HO.out HG2.out.size, HG2.out.trans HG3.out⟩
end
end Go.Proofs.Ytnanclgnjchpeaa
