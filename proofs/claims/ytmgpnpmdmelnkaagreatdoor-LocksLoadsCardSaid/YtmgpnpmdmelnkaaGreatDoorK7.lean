import Derived.Test.YtmgpnpmdmelnkaaGreatDoorF22z
import Derived.WalkKit
import Derived.ProofKit
import Derived.LoopTactic
import Derived.Outline
import Derived.WalkSpells
import Derived.WalkLawsBesides
import Derived.Lib.Hide
import Derived.Deep.LoopGhost
import Derived.Deep.QuietTactic
import Derived.BigQuiet
import Derived.ShutString
import Derived.Test.YtmgpnpmdmelnkaaGreatDoorF05j
import Derived.Test.YtmgpnpmdmelnkaaGreatDoorK1
import Derived.IntWalk
namespace Go.Proofs.YtmgpnpmdmelnkaaGreatDoor
open Go.ChangeShapes Go.WideShapes Go.ChangeAt Go.RowKit
set_option linter.unusedVariables false
set_option linter.unusedSimpArgs false
/-- A path's row lies off the book and its rows. -/
def offX (w : World) (b : Nat) (v1 v2 : Value) (x : RL) : Prop := x.l = [] ∨ ∀ g o s, x.a = some ⟨g, o, s⟩ → g < w.heap.size ∧ g ≠ b ∧ v1.ownBlock ≠ some g ∧ v2.ownBlock ≠ some g
theorem offX.gr {w w' : World} {b : Nat} {v1 v2 : Value} {x : RL} (h : offX w b v1 v2 x) (hg : w.heap.size ≤ w'.heap.size) : offX w' b v1 v2 x := h.imp id fun h g o s e => ⟨Nat.lt_of_lt_of_le (h g o s e).1 hg, (h g o s e).2⟩
theorem offX.eq {w : World} {b : Nat} {v1 v2 : Value} {x y : RL} (h : offX w b v1 v2 x) (ha : y.a = x.a) (hl : y.l = x.l) : offX w b v1 v2 y := by
  unfold offX; rw [ha, hl]; exact h
theorem rows_apart {w : World} {b1 b2 k1 k2 n1 n2 : Nat} {t1 t2 : TypeId} {v1 v2 : Value} {x1 x2 : List Value} (h1 : w.ownsRow b1 t1 k1 v1 n1 x1) (h2 : w.ownsRow b2 t2 k2 v2 n2 x2) (ht : t1 ≠ t2) : ∀ g, v1.ownBlock = some g → v2.ownBlock ≠ some g := by
  intro g e1 e2
  rcases h1.2 with ⟨rfl, _⟩ | ⟨g1, c1, r1, rfl, _, q1, _⟩
  · simp [Value.ownBlock] at e1
  · rcases h2.2 with ⟨rfl, _⟩ | ⟨g2, c2, r2, rfl, _, q2, _⟩
    · simp [Value.ownBlock] at e2
    · simp only [Value.ownBlock, Option.some.injEq] at e1 e2
      subst e1; subst e2
      rw [q1] at q2
      simp only [Option.some.injEq, Obj.cells.injEq] at q2
      exact ht q2.2.1
theorem row_far22 {w w' : World} {b base n : Nat} {v1 v2 v : Value} {xs : List Value} (hf : Far2 b v1 v2 w w') (h : w.ownsRow base 71 4 v n xs) (hb : v.ownBlock ≠ some b) (h1 : ∀ g, v.ownBlock = some g → v1.ownBlock ≠ some g) (h2 : ∀ g, v.ownBlock = some g → v2.ownBlock ≠ some g) : w'.ownsRow base 71 4 v n xs := by
  obtain ⟨q1, q2⟩ := h
  refine ⟨q1, q2.imp id ?_⟩
  rintro ⟨g, cap, cur, rfl, hg, hc, r⟩
  have hlt : g < w.heap.size := (Array.getElem?_eq_some_iff.1 hc).1
  exact ⟨g, cap, cur, rfl, hg, (hf.block g hlt (fun e => hb (by simp [Value.ownBlock, e])) (h1 g rfl) (h2 g rfl)).trans hc, r⟩
theorem lies_far22 {w w' : World} {b : Nat} {v1 v2 : Value} {x : RL} (hf : Far2 b v1 v2 w w') (h : x.lies w) (ho : offX w b v1 v2 x) : x.lies w' := by
  obtain ⟨h1, h2, h3⟩ := (h : Strs w x.a x.l)
  refine (⟨h1, h2, ?_⟩ : Strs w' x.a x.l)
  rcases h3 with h3 | ⟨g, off, ha, hc⟩
  · exact .inl h3
  · rcases ho with ho | ho
    · exact .inl ho
    · obtain ⟨o1, o2, o3, o4⟩ := ho g off none ha
      exact .inr ⟨g, off, ha, fun i hi => (World.cell?_of_block (hf.block g o1 o2 o3 o4)).trans (hc i hi)⟩
/-- The program's book, with the document's beside it. -/
structure Doc22 (w0 w : World) (b : Nat) (v1 v2 : Value) (t0 : Int) (n : Nat) (B : Bk) (vH vW : Value) (H W : List RL) : Prop where
  bk : BkIs w0 w b v1 v2 B
  rel : Rel22 t0 n B H W
  rH : RRow22 w 0 vH H
  rW : RRow22 w 0 vW W
  off : ∀ x ∈ H ++ W, offX w b v1 v2 x
variable {w0 w w' : World} {b : Nat} {v1 v2 vH vW : Value} {t0 : Int} {n : Nat} {B : Bk} {H W : List RL}
theorem Doc22.gr (h : Doc22 w0 w b v1 v2 t0 n B vH vW H W) (hg : Gr w w') : Doc22 w0 w' b v1 v2 t0 n B vH vW H W := ⟨h.bk.gr hg, h.rel, h.rH.gr hg, h.rW.gr hg, fun x hx => (h.off x hx).gr hg.size⟩
theorem off_far {u1 u2 : Value} {x : RL} (h : offX w b v1 v2 x) (hf : Far2 b v1 v2 w w') (f1 : From v1 w u1) (f2 : From v2 w u2) : offX w' b u1 u2 x := by
  refine h.imp id fun h g o s e => ?_
  obtain ⟨o1, o2, o3, o4⟩ := h g o s e
  refine ⟨Nat.lt_of_lt_of_le o1 hf.size, o2, fun e1 => ?_, fun e2 => ?_⟩
  · rcases f1 g e1 with q | q
    · exact o3 q
    · omega
  · rcases f2 g e2 with q | q
    · exact o4 q
    · omega
/-- Behind a call of the program's: the document's book is as it was. -/
theorem Doc22.call (h : Doc22 w0 w b v1 v2 t0 n B vH vW H W) {B' : Bk} (ht : BkTo w0 w w' b v1 v2 B') : ∃ u1 u2, BkIs w0 w' b u1 u2 B' ∧ RRow22 w' 0 vH H ∧ RRow22 w' 0 vW W ∧ (∀ x : RL, x.lies w → offX w b v1 v2 x → x.lies w' ∧ offX w' b u1 u2 x) ∧ (∀ x ∈ H ++ W, offX w' b u1 u2 x) ∧ Far2 b v1 v2 w w' := by
  obtain ⟨u1, u2, hk, hF, f1, f2⟩ := ht
  have row : ∀ {v : Value} {L : List RL}, RRow22 w 0 v L → (∀ x ∈ L, offX w b v1 v2 x) → RRow22 w' 0 v L := fun {v L} hr ho =>
    ⟨row_far22 hF hr.1 (row_offL h.bk.blk hr.1 (by decide)) (rows_apart hr.1 h.bk.r1 (by decide)) (rows_apart hr.1 h.bk.r2 (by decide)), fun x hx => lies_far22 hF (hr.2 x hx) (ho x hx)⟩
  exact ⟨u1, u2, hk, row h.rH (fun x hx => h.off x (List.mem_append.2 (.inl hx))), row h.rW (fun x hx => h.off x (List.mem_append.2 (.inr hx))), fun x hl ho => ⟨lies_far22 hF hl ho, off_far ho hF f1 f2⟩, fun x hx => off_far (h.off x hx) hF f1 f2, hF⟩
/-- What the document's book has, comes out of what it had. -/
theorem pump_all {P : RL → Prop} (hP : ∀ x t, P x → P (x.tokd t)) {H W : List RL} {last : Int} (hH : ∀ x ∈ H, P x) (hW : ∀ x ∈ W, P x) : (∀ x ∈ (pumpF H last W).1, P x) ∧ ∀ x ∈ (pumpF H last W).2.2.2, P x := by
  have key : ∀ j, j ≤ W.length → (∀ x ∈ (pumpF H last (W.take j)).1, P x) ∧ ∀ x ∈ (pumpF H last (W.take j)).2.2.2, P x := by
    intro j
    induction j with
    | zero => intro _; exact ⟨by simpa [pumpF] using hH, by simp [pumpF]⟩
    | succ j ih =>
      intro hj
      obtain ⟨i1, i2⟩ := ih (by omega)
      have hx := hW W[j] (List.getElem_mem (by omega))
      rw [pumpF_snoc H last W j (by omega)]
      unfold pumpStep
      split
      · refine ⟨fun z hz => ?_, i2⟩
        rcases List.mem_append.1 hz with hz | hz
        · exact i1 z hz
        · rw [List.mem_singleton.1 hz]; exact hP _ _ hx
      · refine ⟨i1, fun z hz => ?_⟩
        rcases List.mem_append.1 hz with hz | hz
        · exact i2 z hz
        · rw [List.mem_singleton.1 hz]; exact hx
  have := key W.length (Nat.le_refl _)
  rwa [List.take_length] at this
theorem acq_all {P : RL → Prop} (hP : ∀ x t, P x → P (x.tokd t)) {H W : List RL} {last : Int} {x : RL} {wait : Bool} (hH : ∀ x ∈ H, P x) (hW : ∀ x ∈ W, P x) (hx : P x) : (∀ z ∈ (acqR H W last x wait).1, P z) ∧ ∀ z ∈ (acqR H W last x wait).2.1, P z := by
  unfold acqR
  split
  · split <;> exact ⟨hH, hW⟩
  · split
    · exact ⟨hH, hW⟩
    · split
      · split
        · exact ⟨hH, hW⟩
        · refine ⟨fun z hz => ?_, hW⟩
          rcases List.mem_append.1 hz with hz | hz
          · exact hH z hz
          · rw [List.mem_singleton.1 hz]; exact hP _ _ hx
      · split
        · exact ⟨hH, hW⟩
        · split
          · exact ⟨hH, hW⟩
          · refine ⟨hH, fun z hz => ?_⟩
            rcases List.mem_append.1 hz with hz | hz
            · exact hW z hz
            · rw [List.mem_singleton.1 hz]; exact hP _ _ hx
theorem offX_tokd (x : RL) (t : Int) (h : offX w b v1 v2 x) : offX w b v1 v2 (x.tokd t) := h.eq rfl rfl
/-- The document's Acquire, whole. -/
theorem refAcquire_any {bH bW : Nat} {vH vW : Value} {last : Int} (H W : List RL) (x : RL) (wait : Bool) (w : World) (hH : RRow22 w bH vH H) (hW : RRow22 w bW vW W) (hx : x.lies w) (hl : H.length + W.length ≤ 400) (ht : 0 ≤ last ∧ last ≤ 18446744073709551615) :
    Calls Tryz.prog 24 #[.agg #[vH, vW, .int .u64 last], .agg #[.int .i64 x.ses, .slice x.a x.l.length x.c, .bool x.ex, .int .u64 x.tok], .bool wait] w fun e w' => ∃ v1 v2, e = .returned (.tuple #[.agg #[v1, v2, .int .u64 (acqR H W last x wait).2.2.1], .agg #[.int .i64 (acqR H W last x wait).2.2.2.1.ses, .slice (acqR H W last x wait).2.2.2.1.a (acqR H W last x wait).2.2.2.1.l.length (acqR H W last x wait).2.2.2.1.c, .bool (acqR H W last x wait).2.2.2.1.ex, .int .u64 (acqR H W last x wait).2.2.2.1.tok], .int .i64 (acqR H W last x wait).2.2.2.2.1, .int .i64 (acqR H W last x wait).2.2.2.2.2]) ∧ RRow22 w' 0 v1 (acqR H W last x wait).1 ∧ RRow22 w' 0 v2 (acqR H W last x wait).2.1 ∧ Gr w w' := by
  by_cases hi : 0 ≤ (findR H W x.ses x.l).2
  · exact refAcquire_found H W x wait w hH hW hx hl ht hi
  · exact refAcquire_new H W x wait w hH hW hx hl ht hi
/-- The lock that the document's Acquire gives, lies where its path does. -/
theorem acq_lies {H W : List RL} {last : Int} {x : RL} {wait : Bool} {w : World} (hH : ∀ x ∈ H, x.lies w) (hW : ∀ x ∈ W, x.lies w) (hx : x.lies w) : (acqR H W last x wait).2.2.2.1.lies w := by
  have hz : zRL.lies w := ⟨by simp [zRL], by simp [zRL], .inl rfl⟩
  have hf : (findR H W x.ses x.l).1.lies w := by
    unfold findR
    split
    · rename_i h
      rcases fstF_spec (fun y => sameR y x.ses x.l) H 0 with ⟨e, _⟩ | ⟨i, hi, e, _⟩
      · omega
      · rw [e]
        show RL.lies w (H.getD ((i : Nat) : Int).toNat zRL)
        rw [show ((i : Nat) : Int).toNat = i by omega, List.getD_eq_getElem?_getD, List.getElem?_eq_getElem hi]
        exact hH _ (List.getElem_mem hi)
    · split
      · rcases fstF_spec (fun y => sameR y x.ses x.l) W 0 with ⟨e, _⟩ | ⟨i, hi, e, _⟩
        · omega
        · rw [e]
          show RL.lies w (W.getD ((i : Nat) : Int).toNat zRL)
          rw [show ((i : Nat) : Int).toNat = i by omega, List.getD_eq_getElem?_getD, List.getElem?_eq_getElem hi]
          exact hW _ (List.getElem_mem hi)
      · exact hz
  unfold acqR
  split
  · split
    · exact hz
    · exact hf
  · split
    · exact hz
    · split
      · split
        · exact hz
        · exact RL.tokd_lies hx _
      · split
        · exact hz
        · split
          · exact hz
          · exact RL.tokd_lies hx _
end Go.Proofs.YtmgpnpmdmelnkaaGreatDoor

namespace Go.Proofs.YtmgpnpmdmelnkaaGreatDoor
open Go.ChangeShapes Go.WideShapes Go.ChangeAt Go.RowKit
set_option linter.unusedVariables false
set_option linter.unusedSimpArgs false
/-- A path and its parts, which lie in a block of their own. -/
def PairNew (l : List ByteArray) (w : World) (e : Ending) (w' : World) : Prop := ∃ a c, e = .returned (.tuple #[.agg #[.string (ptext l)], .slice a l.length c]) ∧ Strs w' a l ∧ Gr w w' ∧ ∀ b o s, a = some ⟨b, o, s⟩ → w.heap.size ≤ b
set_option maxRecDepth 100000 in
set_option maxHeartbeats 2000000 in
theorem lawMadeNew_any (a : Option Addr) (ss : List ByteArray) (c : Nat) (w : World) (h : Strs w a ss) (he : ET w) :
    Calls Tryz.prog 19 #[.slice a ss.length c] w (PairNew (madeL ss) w) := by
  obtain ⟨i0, hi, hz0, hz1, hz2⟩ := info_parts info_str3
  have hl := h.2.1
  have HE := Lib.hid he
  go_enter Tryz.func19, Tryz.ntmps19
  go_wp2
  obtain ⟨w1, hw1⟩ : ∃ w1, w1 = w.alloc (.cells #[.string ⟨#[]⟩] 40) := ⟨_, rfl⟩
  have hg1 := Lib.hid (show Gr w w1 by rw [hw1]; exact (Gr.refl _).alloc _)
  have c0 : w1.cell? ⟨w.heap.size, 0, none⟩ = some (.string ⟨#[]⟩) := by rw [hw1]; exact new_cell rfl rfl
  have f0 : w1.frozen? ⟨w.heap.size, 0, none⟩ = false := by rw [hw1]; exact new_free rfl
  have Hs1 := Lib.hid (show w1.heap.size = w.heap.size + 1 by rw [hw1]; simp)
  have HS := Lib.hid (h.gr hg1.out)
  have C0 := Lib.hid c0
  have F0 := Lib.hid f0
  rw [← hw1]
  clear hw1 h he c0 f0
  go_loopw [4, 5] (fun o i wr => ∃ k : Nat, k ≤ ss.length ∧ i = .int .i64 k ∧ ((ss.take k).filter okPart).length ≤ 6 ∧ wr.ownsRow w1.heap.size 9 1 o ((ss.take k).filter okPart).length (strCells ((ss.take k).filter okPart)) ∧ Hid (Gr w1 wr)) (fun _ i _ => ss.length - (intOf i).toNat)
  case atStart => exact ⟨0, by omega, rfl, by simp, World.ownsRow_nil _ _ _ _, Lib.hid (Gr.refl _)⟩
  case round =>
    obtain ⟨k, hk, rfl, h6, hown, hG⟩ := hrel
    have hz : ∀ s ∈ (ss.take k).filter okPart, s.size ≤ 9223372036854775807 := fun s hs => HS.out.1 s (List.mem_of_mem_take (List.mem_filter.1 hs).1)
    by_cases hend : k < ss.length ∧ ((ss.take k).filter okPart).length < 6
    · obtain ⟨hlt, h6'⟩ := hend
      obtain ⟨b, off, rfl, hbw, hcell, hsz⟩ := HS.out.at k hlt
      replace hcell := hG.out.cell hcell
      have hF := Lib.hid (filter_snoc hlt)
      have hO := Lib.hid (okParts_one ss[k])
      obtain ⟨ao, cap, rfl, _⟩ := strs_of_row hown hz (by omega)
      have hbl := hG.out.size
      generalize ss[k] = s at *
      generalize (ss.take k).filter okPart = O at *
      generalize hq : okPart s = q at *
      have HS1 := Lib.hid (show Strs (wr.alloc (.cells #[.string s] 9)) (some ⟨wr.heap.size, 0, none⟩) [s] from ⟨fun x hx => by simp at hx; rw [hx]; exact hsz, by simp, .inr ⟨_, 0, rfl, fun i hi => by
        obtain rfl : i = 0 := by simpa using hi
        exact new_cell rfl rfl⟩⟩)
      have HC := Lib.hid hcell
      have HQ := Lib.hid hq
      clear hq
      cases q
      · go_wp2_with fail
        refine (refMade_any _ [s] 1 _ HS1.out).mono ?_
        rintro e w2 ⟨rfl, rfl⟩
        rw [hO.out]
        go_wp2
        go_roundw
        case rel => exact ⟨k + 1, by omega, by go_num, by rw [hF.out]; simpa using h6, by rw [hF.out]; simpa using hown.alloc _, Lib.hid (hG.out.alloc _)⟩
        case measure => simp [intOf]; omega
      · go_wp2_with fail
        refine (refMade_any _ [s] 1 _ HS1.out).mono ?_
        rintro e w2 ⟨rfl, rfl⟩
        rw [hO.out]
        have hcell2 := ((Gr.refl wr).alloc (.cells #[.string s] 9)).cell HC.out
        clear hcell
        go_wp2_with (at_builtin; refine wpList_append_own _ rfl _ _ 33 rfl w1.heap.size 9 i0 (.string ⟨#[]⟩) 1 16 Tryz.underlying33 hi hz0 hz1 hz2 rfl (by decide) _ _ _ rfl ((hown.alloc _).alloc _) ⟨wr.heap.size + 1, 0, none⟩ 1 1 [.string s] rfl rfl ?c1 ?c2 ?c3 ?c4 ?c5 ?_)
        case c1 => simpa using cellsOne (wr.alloc (.cells #[.string s] 9)) (.string s) 9
        case c2 => intro u hu; simp at hu; subst hu; rfl
        case c3 => unfold maxLen; omega
        case c4 => omega
        case c5 => simp; omega
        · intro v' w3 hown3 hgrow _
          have HG3 := Lib.hid (((hG.out.alloc (.cells #[.string s] 9)).alloc (.cells #[.string s] 9)).append ((hown.alloc _).alloc _) hgrow)
          have hsn : (O ++ [s]).length = O.length + 1 := by simp
          have HO3 := Lib.hid (show w3.ownsRow w1.heap.size 9 1 v' (O ++ [s]).length (strCells (O ++ [s])) by rw [hsn]; simpa [strCells] using hown3)
          clear hgrow hown hown3 hcell2
          go_wp2
          go_roundw
          case rel => exact ⟨k + 1, by omega, by go_num, by rw [hF.out]; simp; omega, by rw [hF.out]; simpa using HO3.out, HG3⟩
          case measure => simp [intOf]; omega
    · have hO : madeL ss = (ss.take k).filter okPart := by
        by_cases hlt : k < ss.length
        · exact madeL_six (by omega)
        · obtain rfl : k = ss.length := by omega
          rw [List.take_length] at h6 ⊢
          exact madeL_all h6
      obtain ⟨ao, cap, rfl, hst, hbase⟩ := strs_of_row' hown hz (by omega)
      generalize (ss.take k).filter okPart = O at *
      have HST := Lib.hid hst
      have HOK := Lib.hid (show okParts O = true by rw [← hO]; exact madeL_ok ss)
      have HB := Lib.hid hbase
      have HO := Lib.hid hO
      clear hst hbase hown hO hz
      by_cases hlt : k < ss.length
      · have h6' : 6 ≤ O.length := by omega
        go_wp2_with fail
        refine (made_any ao O cap _ HST.out (HE.out.gr (hg1.out.trans hG.out))).mono ?_
        rw [if_pos HOK.out]
        rintro e w2 ⟨rfl, hg⟩
        have c2 := hg.cell (hG.out.cell C0.out)
        have f2 := (hg.frozen (o := 0) (cell_lt (hG.out.cell C0.out))).trans ((hG.out.frozen (cell_lt C0.out)).trans F0.out)
        have c3 := ((Gr.refl w2).alloc (.cells #[.string (ptext O)] 40)).cell c2
        have f3 := (((Gr.refl w2).alloc (.cells #[.string (ptext O)] 40)).frozen (o := 0) (cell_lt c2)).trans f2
        have HG2 := Lib.hid (((hg1.out.trans hG.out).trans hg).alloc (.cells #[.string (ptext O)] 40))
        have HST2 := Lib.hid ((HST.out.gr hg).gr ((Gr.refl w2).alloc (.cells #[.string (ptext O)] 40)))
        clear hg c2 f2
        go_wp2
        refine bodyPost_ret (by simp [results, Tryz.results19, go_sem, c3, f3]; try rfl) rfl ?_
        rw [HO.out]
        exact ⟨ao, cap, rfl, HST2.out.set HB.out (by rw [Hs1.out]; exact Nat.lt_succ_self _) _, HG2.out.setCell (Nat.le_refl _) _, fun b o s9 e9 => by have h8 := HB.out b o s9 e9; have h7 := Hs1.out; omega⟩
      · have hk2 : k = ss.length := by omega
        go_wp2_with fail
        refine (made_any ao O cap _ HST.out (HE.out.gr (hg1.out.trans hG.out))).mono ?_
        rw [if_pos HOK.out]
        rintro e w2 ⟨rfl, hg⟩
        have c2 := hg.cell (hG.out.cell C0.out)
        have f2 := (hg.frozen (o := 0) (cell_lt (hG.out.cell C0.out))).trans ((hG.out.frozen (cell_lt C0.out)).trans F0.out)
        have c3 := ((Gr.refl w2).alloc (.cells #[.string (ptext O)] 40)).cell c2
        have f3 := (((Gr.refl w2).alloc (.cells #[.string (ptext O)] 40)).frozen (o := 0) (cell_lt c2)).trans f2
        have HG2 := Lib.hid (((hg1.out.trans hG.out).trans hg).alloc (.cells #[.string (ptext O)] 40))
        have HST2 := Lib.hid ((HST.out.gr hg).gr ((Gr.refl w2).alloc (.cells #[.string (ptext O)] 40)))
        clear hg c2 f2
        go_wp2
        refine bodyPost_ret (by simp [results, Tryz.results19, go_sem, c3, f3]; try rfl) rfl ?_
        rw [HO.out]
        exact ⟨ao, cap, rfl, HST2.out.set HB.out (by rw [Hs1.out]; exact Nat.lt_succ_self _) _, HG2.out.setCell (Nat.le_refl _) _, fun b o s9 e9 => by have h8 := HB.out b o s9 e9; have h7 := Hs1.out; omega⟩
end Go.Proofs.YtmgpnpmdmelnkaaGreatDoor
namespace Go.Proofs.YtmgpnpmdmelnkaaGreatDoor
open Go.ChangeShapes Go.WideShapes Go.ChangeAt Go.RowKit
set_option linter.unusedVariables false
theorem and_mask (a : Int) (m : Nat) (hm : m < 9223372036854775808) : 0 ≤ bits .and .i64 a (m : Int) ∧ bits .and .i64 a (m : Int) ≤ m := by
  have e : (BitVec.ofInt 64 (m : Int)).toNat = m := by
    rw [BitVec.ofInt_natCast, BitVec.toNat_ofNat]; exact Nat.mod_eq_of_lt (by omega)
  have hx : (BitVec.ofInt 64 a &&& BitVec.ofInt 64 (m : Int)).toNat ≤ m := by
    rw [BitVec.toNat_and, e]; exact Nat.and_le_right
  have e3 := IntWalk.i64_in ((BitVec.ofInt 64 a &&& BitVec.ofInt 64 (m : Int)).toNat : Int) ⟨by omega, by omega⟩
  have e2 : bits .and .i64 a (m : Int) = ((BitVec.ofInt 64 a &&& BitVec.ofInt 64 (m : Int)).toNat : Int) := e3
  omega
end Go.Proofs.YtmgpnpmdmelnkaaGreatDoor
namespace Go.Proofs.YtmgpnpmdmelnkaaGreatDoor
open Go.ChangeShapes Go.WideShapes Go.ChangeAt Go.RowKit
set_option linter.unusedVariables false
set_option linter.unusedSimpArgs false
theorem ptext_inj {l m : List ByteArray} (hl : okParts l = true) (hm : okParts m = true) (h : ptext l = ptext m) : l = m := by
  have h1 : flat l = flat m := by rw [← ptext_bytes, ← ptext_bytes, h]
  have h2 := pcs_flat [] l (fun s hs => okParts_clean hl s hs)
  rw [h1, pcs_flat [] m (fun s hs => okParts_clean hm s hs)] at h2
  simp only [List.cons.injEq, true_and] at h2
  exact (map_bytes_inj h2).symm
theorem made_path22 (l : List ByteArray) : IsPath (ptext (madeL l)) := ⟨_, madeL_ok l, rfl⟩
theorem pof_made (l : List ByteArray) : pof (ptext (madeL l)) = madeL l := ptext_inj (pof_ok (made_path22 l)).1 (madeL_ok l) (pof_ok (made_path22 l)).2
/-- A session, as the law makes it of a number. -/
theorem ses_of22 (S : Int) : ∃ s : Int, wrap64 (1 + (bits .and .i64 S 255).tmod 9) = s ∧ 1 ≤ s ∧ s ≤ 9 := by
  have ha : 0 ≤ bits .and .i64 S 255 ∧ bits .and .i64 S 255 ≤ 255 := and_mask S 255 (by decide)
  rw [Int.tmod_eq_emod_of_nonneg ha.1]
  refine ⟨_, rfl, ?_⟩
  unfold wrap64; omega
noncomputable def sesOf (S : Int) : Int := wrap64 (1 + (bits .and .i64 S 255).tmod 9)
theorem sesOf_in (S : Int) : 1 ≤ sesOf S ∧ sesOf S ≤ 9 := by obtain ⟨s, hs, h⟩ := ses_of22 S; unfold sesOf; rw [hs]; exact h
/-- A call, by the program's book. -/
noncomputable def doB (B : Bk) (K S : Int) (Q : List ByteArray) (X Wt : Bool) : Bk :=
  if K = 0 then (acqB B (clr ⟨sesOf S, ptext (madeL Q), X, 7⟩) Wt).1 else if K = 1 then (relB B (sesOf S) (ptext (madeL Q))).1 else if K = 2 then (dropB B (sesOf S)).1 else B
/-- What a call leaves: the two books alike, and true. -/
def DoIs (w0 w : World) (b : Nat) (v1 v2 : Value) (t0 : Int) (n : Nat) (B' : Bk) (e : Ending) (w' : World) : Prop :=
  ∃ u1 u2 vH vW H' W', e = .returned (.tuple #[.agg #[vH, vW, .int .u64 B'.last], .bool true]) ∧ Doc22 w0 w' b u1 u2 t0 n B' vH vW H' W' ∧ Far2 b v1 v2 w w' ∧ From v1 w u1 ∧ From v2 w u2
theorem Blk.far22 {w w' : World} {b c : Nat} {v1 v2 : Value} {cs : Array Value} {t : TypeId} (h : Blk w c cs t) (hf : Far2 b v1 v2 w w') (hb : c ≠ b) (h1 : v1.ownBlock ≠ some c) (h2 : v2.ownBlock ≠ some c) : Blk w' c cs t := (hf.block c h.lt hb h1 h2).trans h
def NoStr (cs : Array Value) : Prop := ∀ (o : Nat) (s : ByteArray), cs[o]? ≠ some (.string s)
theorem lies_set {w : World} {c o : Nat} {cs : Array Value} {t : TypeId} {x : RL} (h : x.lies w) (hB : Blk w c cs t) (hn : NoStr cs) (v : Value) : x.lies (w.setCell ⟨c, o, none⟩ v) := by
  obtain ⟨h1, h2, h3⟩ := (h : Strs w x.a x.l)
  refine (⟨h1, h2, ?_⟩ : Strs _ x.a x.l)
  rcases h3 with h3 | ⟨g, off, ha, hc⟩
  · exact .inl h3
  · refine .inr ⟨g, off, ha, fun i hi => ?_⟩
    have hne : g ≠ c := hB.ne (hc i hi) (hn _ _)
    exact (World.cell?_setCell_other _ _ _ _ (fun e => by injection e with e1; exact hne e1.symm)).trans (hc i hi)
theorem noStr3 (a1 a2 : Option Addr) (n1 n2 c1 c2 : Nat) (k : Int) : NoStr #[.slice a1 n1 c1, .slice a2 n2 c2, .int .u64 k] := by
  intro o s h
  rcases o with _ | _ | _ | o <;> simp at h
/-- The end of a call of the law: the document's book is stored as the answer. -/
theorem do_end {w0 w w6 w7 w10 : World} {b c n n' : Nat} {v1 v2 u1 u2 vH vW vH' vW' : Value} {t0 t : Int} {B B' : Bk} {H W H' W' : List RL} (hD : Doc22 w0 w6 b v1 v2 t0 n B vH vW H W) (hg : Gr w w6) (hv1 : ∀ k, v1.ownBlock = some k → k < w.heap.size) (hv2 : ∀ k, v2.ownBlock = some k → k < w.heap.size) (hb : b < w.heap.size)
    (hF : Far2 b v1 v2 w6 w7) (f1 : From v1 w6 u1) (f2 : From v2 w6 u2) (hk : BkIs w0 w7 b u1 u2 B') (hrel : Rel22 t0 n' B' H' W') (hg10 : Gr w7 w10) (rH : RRow22 w10 0 vH' H') (rW : RRow22 w10 0 vW' W') (off : ∀ x ∈ H' ++ W', offX w7 b u1 u2 x)
    (hR : Blk w10 c #[.slice none 0 0, .slice none 0 0, .int .u64 0] 29) (hc1 : w.heap.size ≤ c) (hc2 : c < w6.heap.size) :
    Doc22 w0 (((w10.setCell ⟨c, 0, none⟩ vH').setCell ⟨c, 1, none⟩ vW').setCell ⟨c, 2, none⟩ (.int .u64 t)) b u1 u2 t0 n' B' vH' vW' H' W' ∧ Far2 b v1 v2 w (((w10.setCell ⟨c, 0, none⟩ vH').setCell ⟨c, 1, none⟩ vW').setCell ⟨c, 2, none⟩ (.int .u64 t)) ∧ From v1 w u1 ∧ From v2 w u2 := by
  obtain ⟨aH, cH, rfl, _⟩ := ownsRow_slice rH.1
  obtain ⟨aW, cW, rfl, _⟩ := ownsRow_slice rW.1
  have hcb : c ≠ b := by omega
  have nu : ∀ {v u : Value}, (∀ k, v.ownBlock = some k → k < w.heap.size) → From v w6 u → u.ownBlock ≠ some c := fun hv f e => by
    rcases f c e with q | q
    · have := hv c q; omega
    · omega
  have hu1 := nu hv1 f1
  have hu2 := nu hv2 f2
  have hw0 : w0.heap.size ≤ c := Nat.le_trans (Nat.le_trans hD.bk.base (Nat.le_of_lt hb)) hc1
  have R1 : Blk (w10.setCell ⟨c, 0, none⟩ (.slice aH H'.length cH)) c #[.slice aH H'.length cH, .slice none 0 0, .int .u64 0] 29 := hR.set 0 _
  have R2 : Blk ((w10.setCell ⟨c, 0, none⟩ (.slice aH H'.length cH)).setCell ⟨c, 1, none⟩ (.slice aW W'.length cW)) c #[.slice aH H'.length cH, .slice aW W'.length cW, .int .u64 0] 29 := R1.set 1 _
  have row : ∀ {v : Value} {L : List RL}, RRow22 w10 0 v L → RRow22 (((w10.setCell ⟨c, 0, none⟩ (.slice aH H'.length cH)).setCell ⟨c, 1, none⟩ (.slice aW W'.length cW)).setCell ⟨c, 2, none⟩ (.int .u64 t)) 0 v L := fun {v L} hr => by
    have hne := row_offL hR hr.1 (by decide)
    exact ⟨ownsRow_setCell_other (a := ⟨c, 2, none⟩) (ownsRow_setCell_other (a := ⟨c, 1, none⟩) (ownsRow_setCell_other (a := ⟨c, 0, none⟩) hr.1 hne _) hne _) hne _, fun x hx => lies_set (lies_set (lies_set (hr.2 x hx) hR (noStr3 _ _ _ _ _ _ _) _) R1 (noStr3 _ _ _ _ _ _ _) _) R2 (noStr3 _ _ _ _ _ _ _) _⟩
  have hs : w7.heap.size ≤ (((w10.setCell ⟨c, 0, none⟩ (.slice aH H'.length cH)).setCell ⟨c, 1, none⟩ (.slice aW W'.length cW)).setCell ⟨c, 2, none⟩ (.int .u64 t)).heap.size := by
    have := hg10.size
    simpa [World.setCell] using this
  refine ⟨⟨(((hk.gr hg10).setO hcb hu1 hu2 hw0 _).setO hcb hu1 hu2 hw0 _).setO hcb hu1 hu2 hw0 _, hrel, row rH, row rW, fun x hx => (off x hx).gr hs⟩, ?_, fun k e => (f1 k e).imp id (Nat.le_trans hg.size), fun k e => (f2 k e).imp id (Nat.le_trans hg.size)⟩
  have h1 : Far2 b v1 v2 w w10 := ((Far2.of_gr hg).trans (From.refl _ _) (From.refl _ _) hF).trans (fun k e => (f1 k e).imp id (Nat.le_trans hg.size)) (fun k e => (f2 k e).imp id (Nat.le_trans hg.size)) (Far2.of_gr hg10)
  exact ((h1.fresh hc1 _).fresh hc1 _).fresh hc1 _
end Go.Proofs.YtmgpnpmdmelnkaaGreatDoor
