import Derived.Test.YtmgpnpmdmelnkaaGreatDoorF05c
import Derived.WalkKit
import Derived.ProofKit
import Derived.LoopTactic
import Derived.Outline
import Derived.WalkSpells
import Derived.WalkLawsBesides
import Derived.Lib.Hide
import Derived.Deep.LoopGhost
import Derived.Deep.QuietTactic
import Derived.BigQuiet
import Derived.ShutString
namespace Go.Proofs.YtmgpnpmdmelnkaaGreatDoor
open Go.ChangeShapes Go.WideShapes Go.ChangeAt Go.RowKit
set_option linter.unusedVariables false
set_option linter.unusedSimpArgs false
/-- What the statements make of any parts. -/
def madeL (l : List ByteArray) : List ByteArray := (l.filter okPart).take 6
theorem madeL_ok (l : List ByteArray) : okParts (madeL l) = true := by
  unfold okParts madeL
  simp only [Bool.and_eq_true, decide_eq_true_eq, List.all_eq_true]
  refine ⟨by rw [List.length_take]; omega, fun s hs => ?_⟩
  exact (List.mem_filter.1 (List.mem_of_mem_take hs)).2
theorem madeL_all {l : List ByteArray} (h : (l.filter okPart).length ≤ 6) : madeL l = l.filter okPart := List.take_of_length_le h
theorem madeL_six {l : List ByteArray} {k : Nat} (h : ((l.take k).filter okPart).length = 6) : madeL l = (l.take k).filter okPart := by
  unfold madeL
  have e : l.filter okPart = (l.take k).filter okPart ++ (l.drop k).filter okPart := by rw [← List.filter_append, List.take_append_drop]
  rw [e, List.take_append_of_le_length (by omega), List.take_of_length_le (by omega)]
theorem filter_snoc {l : List ByteArray} {k : Nat} (h : k < l.length) : (l.take (k + 1)).filter okPart = (l.take k).filter okPart ++ (if okPart l[k] then [l[k]] else []) := by
  rw [List.take_succ_eq_append_getElem h, List.filter_append]
  congr 1
  cases hq : okPart l[k] <;> simp [hq]
theorem okParts_one (s : ByteArray) : okParts [s] = okPart s := by simp [okParts]
/-- What Made of the statements returns. -/
def PairIs (l : List ByteArray) (w : World) (e : Ending) (w' : World) : Prop := ∃ a c, e = .returned (.tuple #[.agg #[.string (ptext l)], .slice a l.length c]) ∧ Strs w' a l ∧ Gr w w'
theorem strs_of_row' {w : World} {base : Nat} {e : TypeId} {v : Value} {l : List ByteArray} (h : w.ownsRow base e 1 v l.length (strCells l)) (hz : ∀ s ∈ l, s.size ≤ 9223372036854775807) (hl : l.length ≤ 9223372036854775807) :
    ∃ a cap, v = .slice a l.length cap ∧ Strs w a l ∧ ∀ b o s, a = some ⟨b, o, s⟩ → base ≤ b := by
  obtain ⟨a, cap, rfl, hs⟩ := strs_of_row h hz hl
  refine ⟨a, cap, rfl, hs, fun b o s hab => ?_⟩
  subst hab
  exact (h.lt b rfl).1
theorem Strs.set {w : World} {a : Option Addr} {l : List ByteArray} (h : Strs w a l) {base p : Nat} (hb : ∀ b o s, a = some ⟨b, o, s⟩ → base ≤ b) (hp : p < base) (v : Value) : Strs (w.setCell ⟨p, 0, none⟩ v) a l := by
  obtain ⟨h1, h2, h3⟩ := h
  refine ⟨h1, h2, h3.imp id ?_⟩
  rintro ⟨b, off, rfl, hc⟩
  refine ⟨b, off, rfl, fun i hi => ?_⟩
  have := hb b off none rfl
  exact (World.cell?_setCell_other _ _ _ _ (fun e => by injection e with e1; omega)).trans (hc i hi)
set_option maxRecDepth 100000 in
set_option maxHeartbeats 2000000 in
theorem lawMade_any (a : Option Addr) (ss : List ByteArray) (c : Nat) (w : World) (h : Strs w a ss) (he : ET w) :
    Calls Tryz.prog 19 #[.slice a ss.length c] w (PairIs (madeL ss) w) := by
  obtain ⟨i0, hi, hz0, hz1, hz2⟩ := info_parts info_str3
  have hl := h.2.1
  have HE := Lib.hid he
  go_enter Tryz.func19, Tryz.ntmps19
  go_wp2
  obtain ⟨w1, hw1⟩ : ∃ w1, w1 = w.alloc (.cells #[.string ⟨#[]⟩] 40) := ⟨_, rfl⟩
  have hg1 := Lib.hid (show Gr w w1 by rw [hw1]; exact (Gr.refl _).alloc _)
  have c0 : w1.cell? ⟨w.heap.size, 0, none⟩ = some (.string ⟨#[]⟩) := by rw [hw1]; exact new_cell rfl rfl
  have f0 : w1.frozen? ⟨w.heap.size, 0, none⟩ = false := by rw [hw1]; exact new_free rfl
  have Hs1 := Lib.hid (show w1.heap.size = w.heap.size + 1 by rw [hw1]; simp)
  have HS := Lib.hid (h.gr hg1.out)
  have C0 := Lib.hid c0
  have F0 := Lib.hid f0
  rw [← hw1]
  clear hw1 h he c0 f0
  go_loopw [4, 5] (fun o i wr => ∃ k : Nat, k ≤ ss.length ∧ i = .int .i64 k ∧ ((ss.take k).filter okPart).length ≤ 6 ∧ wr.ownsRow w1.heap.size 9 1 o ((ss.take k).filter okPart).length (strCells ((ss.take k).filter okPart)) ∧ Hid (Gr w1 wr)) (fun _ i _ => ss.length - (intOf i).toNat)
  case atStart => exact ⟨0, by omega, rfl, by simp, World.ownsRow_nil _ _ _ _, Lib.hid (Gr.refl _)⟩
  case round =>
    obtain ⟨k, hk, rfl, h6, hown, hG⟩ := hrel
    have hz : ∀ s ∈ (ss.take k).filter okPart, s.size ≤ 9223372036854775807 := fun s hs => HS.out.1 s (List.mem_of_mem_take (List.mem_filter.1 hs).1)
    by_cases hend : k < ss.length ∧ ((ss.take k).filter okPart).length < 6
    · obtain ⟨hlt, h6'⟩ := hend
      obtain ⟨b, off, rfl, hbw, hcell, hsz⟩ := HS.out.at k hlt
      replace hcell := hG.out.cell hcell
      have hF := Lib.hid (filter_snoc hlt)
      have hO := Lib.hid (okParts_one ss[k])
      obtain ⟨ao, cap, rfl, _⟩ := strs_of_row hown hz (by omega)
      have hbl := hG.out.size
      generalize ss[k] = s at *
      generalize (ss.take k).filter okPart = O at *
      generalize hq : okPart s = q at *
      have HS1 := Lib.hid (show Strs (wr.alloc (.cells #[.string s] 9)) (some ⟨wr.heap.size, 0, none⟩) [s] from ⟨fun x hx => by simp at hx; rw [hx]; exact hsz, by simp, .inr ⟨_, 0, rfl, fun i hi => by
        obtain rfl : i = 0 := by simpa using hi
        exact new_cell rfl rfl⟩⟩)
      have HC := Lib.hid hcell
      have HQ := Lib.hid hq
      clear hq
      cases q
      · go_wp2_with fail
        refine (refMade_any _ [s] 1 _ HS1.out).mono ?_
        rintro e w2 ⟨rfl, rfl⟩
        rw [hO.out]
        go_wp2
        go_roundw
        case rel => exact ⟨k + 1, by omega, by go_num, by rw [hF.out]; simpa using h6, by rw [hF.out]; simpa using hown.alloc _, Lib.hid (hG.out.alloc _)⟩
        case measure => simp [intOf]; omega
      · go_wp2_with fail
        refine (refMade_any _ [s] 1 _ HS1.out).mono ?_
        rintro e w2 ⟨rfl, rfl⟩
        rw [hO.out]
        have hcell2 := ((Gr.refl wr).alloc (.cells #[.string s] 9)).cell HC.out
        clear hcell
        go_wp2_with (at_builtin; refine wpList_append_own _ rfl _ _ 33 rfl w1.heap.size 9 i0 (.string ⟨#[]⟩) 1 16 Tryz.underlying33 hi hz0 hz1 hz2 rfl (by decide) _ _ _ rfl ((hown.alloc _).alloc _) ⟨wr.heap.size + 1, 0, none⟩ 1 1 [.string s] rfl rfl ?c1 ?c2 ?c3 ?c4 ?c5 ?_)
        case c1 => simpa using cellsOne (wr.alloc (.cells #[.string s] 9)) (.string s) 9
        case c2 => intro u hu; simp at hu; subst hu; rfl
        case c3 => unfold maxLen; omega
        case c4 => omega
        case c5 => simp; omega
        · intro v' w3 hown3 hgrow _
          have HG3 := Lib.hid (((hG.out.alloc (.cells #[.string s] 9)).alloc (.cells #[.string s] 9)).append ((hown.alloc _).alloc _) hgrow)
          have hsn : (O ++ [s]).length = O.length + 1 := by simp
          have HO3 := Lib.hid (show w3.ownsRow w1.heap.size 9 1 v' (O ++ [s]).length (strCells (O ++ [s])) by rw [hsn]; simpa [strCells] using hown3)
          clear hgrow hown hown3 hcell2
          go_wp2
          go_roundw
          case rel => exact ⟨k + 1, by omega, by go_num, by rw [hF.out]; simp; omega, by rw [hF.out]; simpa using HO3.out, HG3⟩
          case measure => simp [intOf]; omega
    · have hO : madeL ss = (ss.take k).filter okPart := by
        by_cases hlt : k < ss.length
        · exact madeL_six (by omega)
        · obtain rfl : k = ss.length := by omega
          rw [List.take_length] at h6 ⊢
          exact madeL_all h6
      obtain ⟨ao, cap, rfl, hst, hbase⟩ := strs_of_row' hown hz (by omega)
      generalize (ss.take k).filter okPart = O at *
      have HST := Lib.hid hst
      have HOK := Lib.hid (show okParts O = true by rw [← hO]; exact madeL_ok ss)
      have HB := Lib.hid hbase
      have HO := Lib.hid hO
      clear hst hbase hown hO hz
      by_cases hlt : k < ss.length
      · have h6' : 6 ≤ O.length := by omega
        go_wp2_with fail
        refine (made_any ao O cap _ HST.out (HE.out.gr (hg1.out.trans hG.out))).mono ?_
        rw [if_pos HOK.out]
        rintro e w2 ⟨rfl, hg⟩
        have c2 := hg.cell (hG.out.cell C0.out)
        have f2 := (hg.frozen (o := 0) (cell_lt (hG.out.cell C0.out))).trans ((hG.out.frozen (cell_lt C0.out)).trans F0.out)
        have c3 := ((Gr.refl w2).alloc (.cells #[.string (ptext O)] 40)).cell c2
        have f3 := (((Gr.refl w2).alloc (.cells #[.string (ptext O)] 40)).frozen (o := 0) (cell_lt c2)).trans f2
        have HG2 := Lib.hid (((hg1.out.trans hG.out).trans hg).alloc (.cells #[.string (ptext O)] 40))
        have HST2 := Lib.hid ((HST.out.gr hg).gr ((Gr.refl w2).alloc (.cells #[.string (ptext O)] 40)))
        clear hg c2 f2
        go_wp2
        refine bodyPost_ret (by simp [results, Tryz.results19, go_sem, c3, f3]; try rfl) rfl ?_
        rw [HO.out]
        exact ⟨ao, cap, rfl, HST2.out.set HB.out (by rw [Hs1.out]; exact Nat.lt_succ_self _) _, HG2.out.setCell (Nat.le_refl _) _⟩
      · have hk2 : k = ss.length := by omega
        go_wp2_with fail
        refine (made_any ao O cap _ HST.out (HE.out.gr (hg1.out.trans hG.out))).mono ?_
        rw [if_pos HOK.out]
        rintro e w2 ⟨rfl, hg⟩
        have c2 := hg.cell (hG.out.cell C0.out)
        have f2 := (hg.frozen (o := 0) (cell_lt (hG.out.cell C0.out))).trans ((hG.out.frozen (cell_lt C0.out)).trans F0.out)
        have c3 := ((Gr.refl w2).alloc (.cells #[.string (ptext O)] 40)).cell c2
        have f3 := (((Gr.refl w2).alloc (.cells #[.string (ptext O)] 40)).frozen (o := 0) (cell_lt c2)).trans f2
        have HG2 := Lib.hid (((hg1.out.trans hG.out).trans hg).alloc (.cells #[.string (ptext O)] 40))
        have HST2 := Lib.hid ((HST.out.gr hg).gr ((Gr.refl w2).alloc (.cells #[.string (ptext O)] 40)))
        clear hg c2 f2
        go_wp2
        refine bodyPost_ret (by simp [results, Tryz.results19, go_sem, c3, f3]; try rfl) rfl ?_
        rw [HO.out]
        exact ⟨ao, cap, rfl, HST2.out.set HB.out (by rw [Hs1.out]; exact Nat.lt_succ_self _) _, HG2.out.setCell (Nat.le_refl _) _⟩
end Go.Proofs.YtmgpnpmdmelnkaaGreatDoor
