import Derived.Test.YtmgpnpmdmelnkaaGreatDoorK14
import Derived.Test.YtmgpnpmdmelnkaaGreatDoorF05i
import Derived.WalkKit
import Derived.ProofKit
import Derived.LoopTactic
import Derived.Outline
import Derived.WalkSpells
import Derived.WalkLawsBesides
import Derived.Lib.Hide
import Derived.Deep.LoopGhost
import Derived.Deep.QuietTactic
import Derived.BigQuiet
import Derived.ShutString
import Derived.IntWalk
import Derived.Lib.MinMax
import Derived.Deep.AppendLies
import Derived.Deep.RegionWith
import Derived.Deep.RegionHeld3
import Derived.Deep.Cut
import Derived.Deep.CutRange
import Derived.Deep.CutBlock
namespace Go.Proofs.YtmgpnpmdmelnkaaGreatDoor
open Go.ChangeShapes Go.WideShapes Go.ChangeAt Go.RowKit
set_option linter.unusedVariables false
set_option linter.unusedSimpArgs false
/-- A lock of the document's, with where its path's parts lie. -/
structure RL where
  ses : Int
  l : List ByteArray
  a : Option Addr
  c : Nat
  ex : Bool
  tok : Int
def encRL (x : RL) : List Value := [.int .i64 x.ses, .slice x.a x.l.length x.c, .bool x.ex, .int .u64 x.tok]
theorem encRL_len (x : RL) : (encRL x).length = 4 := rfl
theorem encRL_one (x : RL) : ∀ v ∈ encRL x, v.oneCell' = true := by
  intro v hv; simp [encRL] at hv; rcases hv with rfl | rfl | rfl | rfl <;> rfl
def RL.lies (w : World) (x : RL) : Prop := Strs w x.a x.l
def RRow22 (w : World) (base : Nat) (v : Value) (L : List RL) : Prop := w.ownsRow base 71 4 v L.length (rcells encRL L) ∧ ∀ x ∈ L, x.lies w
theorem RRow22.gr {w w' : World} {base : Nat} {v : Value} {L : List RL} (h : RRow22 w base v L) (hg : Gr w w') : RRow22 w' base v L := ⟨ownsRow_gr hg h.1, fun x hx => (h.2 x hx).gr hg⟩
theorem rlrow_at {w : World} {base : Nat} {v : Value} {L : List RL} (h : RRow22 w base v L) (i : Nat) (hi : i < L.length) :
    ∃ g cap, v = .slice (some ⟨g, 0, none⟩) L.length cap ∧ w.cell? ⟨g, i * 4, none⟩ = some (.int .i64 L[i].ses) ∧ w.cell? ⟨g, i * 4 + 1, none⟩ = some (.slice L[i].a L[i].l.length L[i].c) ∧ w.cell? ⟨g, i * 4 + 2, none⟩ = some (.bool L[i].ex) ∧ w.cell? ⟨g, i * 4 + 3, none⟩ = some (.int .u64 L[i].tok) ∧ L[i].lies w := by
  obtain ⟨g, cap, cur, hv, _, _, _, _, _, _, _, hat, _⟩ := owns_open h.1 (by omega)
  refine ⟨g, cap, hv, hat _ _ ?_, hat _ _ ?_, hat _ _ ?_, hat _ _ ?_, h.2 _ (List.getElem_mem hi)⟩
  · have := rcells_at encRL_len L i hi 0 (by omega); rw [Nat.add_zero] at this; rw [this]; rfl
  · rw [rcells_at encRL_len L i hi 1 (by omega)]; rfl
  · rw [rcells_at encRL_len L i hi 2 (by omega)]; rfl
  · rw [rcells_at encRL_len L i hi 3 (by omega)]; rfl
def sameR (x : RL) (s : Int) (p : List ByteArray) : Bool := decide (x.ses = s) && decide (cmpP x.l p = 0)
def cflR (x y : RL) : Bool := decide (x.ses ≠ y.ses) && (x.ex || y.ex) && (overP x.l y.l || overP y.l x.l)
set_option maxRecDepth 100000 in
theorem refSame_any22 (x : RL) (s : Int) (p : List ByteArray) (pa : Option Addr) (pc : Nat) (w : World) (hx : x.lies w) (hp : Strs w pa p) :
    Calls Tryz.prog 71 #[.agg #[.int .i64 x.ses, .slice x.a x.l.length x.c, .bool x.ex, .int .u64 x.tok], .int .i64 s, .slice pa p.length pc] w fun e w' => e = .returned (.bool (sameR x s p)) ∧ Gr w w' := by
  have HX := Lib.hid hx
  have HP := Lib.hid hp
  have HG := Lib.hid ((Gr.refl w).alloc (.cells #[.int .i64 x.ses, .slice x.a x.l.length x.c, .bool x.ex, .int .u64 x.tok] 71))
  have hcm := refCompare_any x.l p x.a pa x.c pc _ (hx.gr HG.out) (hp.gr HG.out)
  obtain ⟨xs, xl, xa, xc, xe, xk⟩ := x
  unfold sameR
  simp only at *
  clear hx hp
  by_cases h1 : xs = s
  · subst h1
    go_enter Tryz.func71, Tryz.ntmps71
    go_wp2_with fail
    refine hcm.mono ?_
    rintro e w1 ⟨rfl, hg⟩
    have HG1 := Lib.hid (HG.out.trans hg)
    clear hg hcm
    go_wp2
    go_ret
    exact ⟨by simp; rfl, HG1.out⟩
  · have e1 : (xs == s) = false := by simpa using h1
    have HS := Lib.hid (decide_eq_false h1)
    clear h1 hcm
    go_enter Tryz.func71, Tryz.ntmps71
    go_wp2
    go_ret
    exact ⟨by rw [HS.out]; rfl, HG.out⟩
set_option maxRecDepth 100000 in
theorem refConflict_any (x y : RL) (w : World) (hx : x.lies w) (hy : y.lies w) :
    Calls Tryz.prog 72 #[.agg #[.int .i64 x.ses, .slice x.a x.l.length x.c, .bool x.ex, .int .u64 x.tok], .agg #[.int .i64 y.ses, .slice y.a y.l.length y.c, .bool y.ex, .int .u64 y.tok]] w fun e w' => e = .returned (.bool (cflR x y)) ∧ Gr w w' := by
  have HX := Lib.hid hx
  have HY := Lib.hid hy
  have HG := Lib.hid (((Gr.refl w).alloc (.cells #[.int .i64 x.ses, .slice x.a x.l.length x.c, .bool x.ex, .int .u64 x.tok] 71)).alloc (.cells #[.int .i64 y.ses, .slice y.a y.l.length y.c, .bool y.ex, .int .u64 y.tok] 71))
  have BX := Lib.hid ((Blk.new w #[.int .i64 x.ses, .slice x.a x.l.length x.c, .bool x.ex, .int .u64 x.tok] 71).gr ((Gr.refl _).alloc (.cells #[.int .i64 y.ses, .slice y.a y.l.length y.c, .bool y.ex, .int .u64 y.tok] 71)))
  have BY := Lib.hid (Blk.new (w.alloc (.cells #[.int .i64 x.ses, .slice x.a x.l.length x.c, .bool x.ex, .int .u64 x.tok] 71)) #[.int .i64 y.ses, .slice y.a y.l.length y.c, .bool y.ex, .int .u64 y.tok] 71)
  have hsz : (w.alloc (.cells #[.int .i64 x.ses, .slice x.a x.l.length x.c, .bool x.ex, .int .u64 x.tok] 71)).heap.size = w.heap.size + 1 := by simp
  rw [hsz] at BY
  clear hsz
  have hx0 : Strs w x.a x.l := hx
  have hy0 : Strs w y.a y.l := hy
  obtain ⟨xs, xl, xa, xc, xe, xk⟩ := x
  obtain ⟨ys, yl, ya, yc, ye, yk⟩ := y
  unfold cflR
  simp only at *
  clear hx hy
  by_cases h1 : xs = ys
  · subst h1
    go_enter Tryz.func72, Tryz.ntmps72
    go_wp2
    go_ret
    exact ⟨by simp, HG.out⟩
  · have e1 : (xs != ys) = true := by simpa using h1
    have HS : Hid (decide (xs ≠ ys) = true) := Lib.hid (decide_eq_true h1)
    clear h1
    cases hq : (xe || ye)
    · have e2 : xe = false := by cases xe <;> simp_all
      have e3 : ye = false := by cases ye <;> simp_all
      subst e2 e3
      clear hq
      go_enter Tryz.func72, Tryz.ntmps72
      go_wp2
      go_ret
      exact ⟨by simp, HG.out⟩
    · have HQ := Lib.hid hq
      have hov := refOver_any xl yl xa ya xc yc _ (hx0.gr HG.out) (hy0.gr HG.out)
      have HV := Lib.hid (fun w' (hg : Gr w w') => refOver_any yl xl ya xa yc xc w' (hy0.gr hg) (hx0.gr hg))
      cases xe
      · have e2 : ye = true := by simpa using hq
        subst e2
        clear hq
        cases h3 : overP xl yl
        · rw [h3] at hov
          clear h3
          go_enter Tryz.func72, Tryz.ntmps72
          go_wp2_with fail
          refine hov.mono ?_
          rintro e w1 ⟨rfl, hg⟩
          have HG1 := Lib.hid (HG.out.trans hg)
          have x1 := (BX.out.gr hg).cell (i := 1) rfl
          have y1 := (BY.out.gr hg).cell (i := 1) rfl
          clear hg hov BX BY
          go_wp2_with fail
          refine (HV.out w1 HG1.out).mono ?_
          rintro e w2 ⟨rfl, hg⟩
          have HG2 := Lib.hid (HG1.out.trans hg)
          clear hg HV x1 y1
          go_wp2
          go_ret
          exact ⟨by rw [HS.out]; simp, HG2.out⟩
        · rw [h3] at hov
          clear h3 HV
          go_enter Tryz.func72, Tryz.ntmps72
          go_wp2_with fail
          refine hov.mono ?_
          rintro e w1 ⟨rfl, hg⟩
          have HG1 := Lib.hid (HG.out.trans hg)
          clear hg hov BX BY
          go_wp2
          go_ret
          exact ⟨by rw [HS.out]; simp, HG1.out⟩
      · clear hq
        cases h3 : overP xl yl
        · rw [h3] at hov
          clear h3
          go_enter Tryz.func72, Tryz.ntmps72
          go_wp2_with fail
          refine hov.mono ?_
          rintro e w1 ⟨rfl, hg⟩
          have HG1 := Lib.hid (HG.out.trans hg)
          have x1 := (BX.out.gr hg).cell (i := 1) rfl
          have y1 := (BY.out.gr hg).cell (i := 1) rfl
          clear hg hov BX BY
          go_wp2_with fail
          refine (HV.out w1 HG1.out).mono ?_
          rintro e w2 ⟨rfl, hg⟩
          have HG2 := Lib.hid (HG1.out.trans hg)
          clear hg HV x1 y1
          go_wp2
          go_ret
          exact ⟨by rw [HS.out]; simp, HG2.out⟩
        · rw [h3] at hov
          clear h3 HV
          go_enter Tryz.func72, Tryz.ntmps72
          go_wp2_with fail
          refine hov.mono ?_
          rintro e w1 ⟨rfl, hg⟩
          have HG1 := Lib.hid (HG.out.trans hg)
          clear hg hov BX BY
          go_wp2
          go_ret
          exact ⟨by rw [HS.out]; simp, HG1.out⟩
end Go.Proofs.YtmgpnpmdmelnkaaGreatDoor
namespace Go.Proofs.YtmgpnpmdmelnkaaGreatDoor
open Go.ChangeShapes Go.WideShapes Go.ChangeAt Go.RowKit
set_option linter.unusedVariables false
set_option linter.unusedSimpArgs false
theorem any_snoc {α : Type} (q : α → Bool) (L : List α) (k : Nat) (h : k < L.length) : (L.take (k + 1)).any q = ((L.take k).any q || q L[k]) := by
  rw [List.take_succ_eq_append_getElem h, List.any_append]; simp
theorem any_here {α : Type} (q : α → Bool) (L : List α) (k : Nat) (h : k < L.length) (hq : q L[k] = true) : L.any q = true := List.any_eq_true.2 ⟨_, List.getElem_mem h, hq⟩
def mayR (H E : List RL) (x : RL) : Bool := !(H.any (cflR x)) && !(E.any (cflR x))
set_option maxRecDepth 100000 in
set_option maxHeartbeats 2000000 in
theorem refMay_any {bH bE : Nat} {vH vW vE : Value} {last : Int} (H E : List RL) (x : RL) (w : World) (hH : RRow22 w bH vH H) (hE : RRow22 w bE vE E) (hx : x.lies w) (hl : H.length + E.length ≤ 1000) :
    Calls Tryz.prog 48 #[.agg #[vH, vW, .int .u64 last], .agg #[.int .i64 x.ses, .slice x.a x.l.length x.c, .bool x.ex, .int .u64 x.tok], vE] w fun e w' => e = .returned (.bool (mayR H E x)) ∧ Gr w w' := by
  have HH := Lib.hid hH
  have HE := Lib.hid hE
  have HX := Lib.hid hx
  obtain ⟨aH, cH, rfl, _⟩ := ownsRow_slice hH.1
  obtain ⟨aE, cE, rfl, _⟩ := ownsRow_slice hE.1
  have hsz : (w.alloc (.cells #[.slice aH H.length cH, vW, .int .u64 last] 29)).heap.size = w.heap.size + 1 := by simp
  have BX := Lib.hid (Blk.new (w.alloc (.cells #[.slice aH H.length cH, vW, .int .u64 last] 29)) #[.int .i64 x.ses, .slice x.a x.l.length x.c, .bool x.ex, .int .u64 x.tok] 71)
  rw [hsz] at BX
  have HG := Lib.hid (((Gr.refl w).alloc (.cells #[.slice aH H.length cH, vW, .int .u64 last] 29)).alloc (.cells #[.int .i64 x.ses, .slice x.a x.l.length x.c, .bool x.ex, .int .u64 x.tok] 71))
  have HAH := Lib.hid (fun k (h : k < H.length) => any_snoc (cflR x) H k h)
  have HAE := Lib.hid (fun k (h : k < E.length) => any_snoc (cflR x) E k h)
  have HYH := Lib.hid (fun k (h : k < H.length) => any_here (cflR x) H k h)
  have HYN := Lib.hid (fun k (h : k < E.length) => any_here (cflR x) E k h)
  have HC := Lib.hid (fun (y : RL) w' (hg : Gr w w') (hy : y.lies w') => refConflict_any x y w' (hx.gr hg) hy)
  have HM : Hid (mayR H E x = (!(H.any (cflR x)) && !(E.any (cflR x)))) := Lib.hid rfl
  have HTH : Hid ((H.take H.length).any (cflR x) = H.any (cflR x)) := Lib.hid (by rw [List.take_length])
  have HTE : Hid ((E.take E.length).any (cflR x) = E.any (cflR x)) := Lib.hid (by rw [List.take_length])
  clear hH hE hx hsz
  have BB := Lib.hid ((Blk.new w #[.slice aH H.length cH, vW, .int .u64 last] 29).gr ((Gr.refl _).alloc (.cells #[.int .i64 x.ses, .slice x.a x.l.length x.c, .bool x.ex, .int .u64 x.tok] 71)))
  go_enter Tryz.func48, Tryz.ntmps48
  go_upto_region 1 with fail
  generalize (w.alloc (.cells #[.slice aH H.length cH, vW, .int .u64 last] 29)).alloc (.cells #[.int .i64 x.ses, .slice x.a x.l.length x.c, .bool x.ex, .int .u64 x.tok] 71) = w1 at *
  generalize w.heap.size = c0 at *
  have b0 := BB.out.cell (i := 0) rfl
  go_wp2_with fail
  go_loopw [14] (fun i wr => ∃ k : Nat, k ≤ H.length ∧ i = .int .i64 k ∧ Hid ((H.take k).any (cflR x) = false) ∧ Hid (Gr w1 wr)) (fun i _ => H.length - (intOf i).toNat)
  case atStart => exact ⟨0, by omega, rfl, Lib.hid rfl, Lib.hid (Gr.refl _)⟩
  case round =>
    obtain ⟨k, hk, rfl, hN, hG⟩ := hrel
    by_cases hlt : k < H.length
    · skip
      have HGX := Lib.hid (hG.out)
      obtain ⟨g, cap, hv, d0, d1, d2, d3, hlies⟩ := rlrow_at (HH.out.gr (HG.out.trans hG.out)) k hlt
      simp only [Value.slice.injEq] at hv
      obtain ⟨rfl, hnn, rfl⟩ := hv
      clear hnn
      have HLY := Lib.hid (hlies.gr ((Gr.refl wr).alloc (.cells #[.int .i64 H[k].ses, .slice H[k].a H[k].l.length H[k].c, .bool H[k].ex, .int .u64 H[k].tok] 71)))
      have HY := Lib.hid (Blk.new wr #[.int .i64 H[k].ses, .slice H[k].a H[k].l.length H[k].c, .bool H[k].ex, .int .u64 H[k].tok] 71)
      have HGy := Lib.hid ((HG.out.trans hG.out).alloc (.cells #[.int .i64 H[k].ses, .slice H[k].a H[k].l.length H[k].c, .bool H[k].ex, .int .u64 H[k].tok] 71))
      have HG1y := Lib.hid (hG.out.alloc (.cells #[.int .i64 H[k].ses, .slice H[k].a H[k].l.length H[k].c, .bool H[k].ex, .int .u64 H[k].tok] 71))
      have HBX := Lib.hid (BX.out.gr (HGX.out.alloc (.cells #[.int .i64 H[k].ses, .slice H[k].a H[k].l.length H[k].c, .bool H[k].ex, .int .u64 H[k].tok] 71)))
      clear hlies
      generalize hy : H[k] = y at *
      have HYE := Lib.hid hy
      clear hy
      obtain ⟨ys, yl, ya, yc, ye, yk⟩ := y
      simp only at d0 d1 d2 d3 HY HGy HLY HG1y HBX
      go_upto_region 4 with fail
      generalize wr.alloc (.cells #[.int .i64 ys, .slice ya yl.length yc, .bool ye, .int .u64 yk] 71) = wy at *
      generalize wr.heap.size = cy at *
      clear d0 d1 d2 d3
      have d0 := HY.out.cell (i := 0) rfl
      have d1 := HY.out.cell (i := 1) rfl
      have d2 := HY.out.cell (i := 2) rfl
      have d3 := HY.out.cell (i := 3) rfl
      have x0 := HBX.out.cell (i := 0) rfl
      have x1 := HBX.out.cell (i := 1) rfl
      have x2 := HBX.out.cell (i := 2) rfl
      have x3 := HBX.out.cell (i := 3) rfl
      have hcf := HC.out ⟨ys, yl, ya, yc, ye, yk⟩ wy HGy.out HLY.out
      simp only at hcf
      cases hq : cflR x ⟨ys, yl, ya, yc, ye, yk⟩
      · rw [hq] at hcf
        have HS := Lib.hid (HAH.out k hlt)
        rw [HYE.out, hq, Bool.or_false, hN.out] at HS
        clear hq hN
        go_wp2_with fail
        refine hcf.mono ?_
        rintro e w5 ⟨rfl, hg5⟩
        have HG5 := Lib.hid (HG1y.out.trans hg5)
        clear hg5 hcf x0 x1 x2 x3 d0 d1 d2 d3
        go_wp2
        exact ⟨⟨k + 1, hlt, by simp, HS, HG5⟩, by simp [intOf]; omega⟩
      · rw [hq] at hcf
        have HS := Lib.hid (HYH.out k hlt (by rw [HYE.out]; exact hq))
        clear hq hN
        go_wp2_with fail
        refine hcf.mono ?_
        rintro e w5 ⟨rfl, hg5⟩
        have HG5 := Lib.hid (HGy.out.trans hg5)
        clear hg5 hcf x0 x1 x2 x3 d0 d1 d2 d3
        go_wp2
        go_ret
        exact ⟨by rw [HM.out, HS.out]; rfl, HG5.out⟩
    · obtain rfl : k = H.length := by omega
      clear b0
      have HN := Lib.hid (HTH.out.symm.trans hN.out)
      have HG0 := hG
      clear hN hG
      generalize wr = w2 at *
      go_wp2_with fail
      go_loopw [24] (fun i wr => ∃ k : Nat, k ≤ E.length ∧ i = .int .i64 k ∧ Hid ((E.take k).any (cflR x) = false) ∧ Hid (Gr w2 wr)) (fun i _ => E.length - (intOf i).toNat)
      case atStart => exact ⟨0, by omega, rfl, Lib.hid rfl, Lib.hid (Gr.refl _)⟩
      case round =>
        obtain ⟨k, hk, rfl, hN, hG⟩ := hrel
        by_cases hlt : k < E.length
        · skip
          have HGX := Lib.hid (HG0.out.trans hG.out)
          obtain ⟨g, cap, hv, d0, d1, d2, d3, hlies⟩ := rlrow_at (HE.out.gr ((HG.out.trans HG0.out).trans hG.out)) k hlt
          simp only [Value.slice.injEq] at hv
          obtain ⟨rfl, hnn, rfl⟩ := hv
          clear hnn
          have HLY := Lib.hid (hlies.gr ((Gr.refl wr).alloc (.cells #[.int .i64 E[k].ses, .slice E[k].a E[k].l.length E[k].c, .bool E[k].ex, .int .u64 E[k].tok] 71)))
          have HY := Lib.hid (Blk.new wr #[.int .i64 E[k].ses, .slice E[k].a E[k].l.length E[k].c, .bool E[k].ex, .int .u64 E[k].tok] 71)
          have HGy := Lib.hid (((HG.out.trans HG0.out).trans hG.out).alloc (.cells #[.int .i64 E[k].ses, .slice E[k].a E[k].l.length E[k].c, .bool E[k].ex, .int .u64 E[k].tok] 71))
          have HG1y := Lib.hid (hG.out.alloc (.cells #[.int .i64 E[k].ses, .slice E[k].a E[k].l.length E[k].c, .bool E[k].ex, .int .u64 E[k].tok] 71))
          have HBX := Lib.hid (BX.out.gr (HGX.out.alloc (.cells #[.int .i64 E[k].ses, .slice E[k].a E[k].l.length E[k].c, .bool E[k].ex, .int .u64 E[k].tok] 71)))
          clear hlies
          generalize hy : E[k] = y at *
          have HYE := Lib.hid hy
          clear hy
          obtain ⟨ys, yl, ya, yc, ye, yk⟩ := y
          simp only at d0 d1 d2 d3 HY HGy HLY HG1y HBX
          go_upto_region 10 with fail
          generalize wr.alloc (.cells #[.int .i64 ys, .slice ya yl.length yc, .bool ye, .int .u64 yk] 71) = wy at *
          generalize wr.heap.size = cy at *
          clear d0 d1 d2 d3
          have d0 := HY.out.cell (i := 0) rfl
          have d1 := HY.out.cell (i := 1) rfl
          have d2 := HY.out.cell (i := 2) rfl
          have d3 := HY.out.cell (i := 3) rfl
          have x0 := HBX.out.cell (i := 0) rfl
          have x1 := HBX.out.cell (i := 1) rfl
          have x2 := HBX.out.cell (i := 2) rfl
          have x3 := HBX.out.cell (i := 3) rfl
          have hcf := HC.out ⟨ys, yl, ya, yc, ye, yk⟩ wy HGy.out HLY.out
          simp only at hcf
          cases hq : cflR x ⟨ys, yl, ya, yc, ye, yk⟩
          · rw [hq] at hcf
            have HS := Lib.hid (HAE.out k hlt)
            rw [HYE.out, hq, Bool.or_false, hN.out] at HS
            clear hq hN
            go_wp2_with fail
            refine hcf.mono ?_
            rintro e w5 ⟨rfl, hg5⟩
            have HG5 := Lib.hid (HG1y.out.trans hg5)
            clear hg5 hcf x0 x1 x2 x3 d0 d1 d2 d3
            go_wp2
            exact ⟨⟨k + 1, hlt, by simp, HS, HG5⟩, by simp [intOf]; omega⟩
          · rw [hq] at hcf
            have HS := Lib.hid (HYN.out k hlt (by rw [HYE.out]; exact hq))
            clear hq hN
            go_wp2_with fail
            refine hcf.mono ?_
            rintro e w5 ⟨rfl, hg5⟩
            have HG5 := Lib.hid (HGy.out.trans hg5)
            clear hg5 hcf x0 x1 x2 x3 d0 d1 d2 d3
            go_wp2
            go_ret
            exact ⟨by rw [HM.out, HS.out, HN.out]; rfl, HG5.out⟩
        · obtain rfl : k = E.length := by omega
          have HN2 := Lib.hid (HTE.out.symm.trans hN.out)
          have HG2 := Lib.hid ((HG.out.trans HG0.out).trans hG.out)
          clear hN hG
          go_wp2
          go_ret
          exact ⟨by rw [HM.out, HN.out, HN2.out]; rfl, HG2.out⟩
end Go.Proofs.YtmgpnpmdmelnkaaGreatDoor
namespace Go.Proofs.YtmgpnpmdmelnkaaGreatDoor
open Go.ChangeShapes Go.WideShapes Go.ChangeAt Go.RowKit
set_option linter.unusedVariables false
set_option linter.unusedSimpArgs false
def keepR (s : Int) (all : Bool) (p : List ByteArray) (x : RL) : Bool := decide (x.ses ≠ s) || (!all && !(sameR x s p))
set_option maxRecDepth 100000 in
set_option maxHeartbeats 2000000 in
theorem refWithout_any {bL : Nat} {vL : Value} (L : List RL) (s : Int) (all : Bool) (p : List ByteArray) (pa : Option Addr) (pc : Nat) (w : World) (hL : RRow22 w bL vL L) (hp : Strs w pa p) (hl : L.length ≤ 1000) :
    Calls Tryz.prog 51 #[vL, .int .i64 s, .bool all, .slice pa p.length pc] w fun e w' => ∃ v', e = .returned v' ∧ RRow22 w' w.heap.size v' (L.filter (keepR s all p)) ∧ Gr w w' := by
  obtain ⟨i0, hi, hz0, hz1, hz2⟩ : ∃ i0 : TypeInfo, Tryz.prog.info? 71 = some i0 ∧ i0.zero = some (.agg #[.int .i64 0, .slice none 0 0, .bool false, .int .u64 0]) ∧ i0.size = 4 ∧ i0.bytes = 48 := ⟨_, rfl, rfl, rfl, rfl⟩
  have HL := Lib.hid hL
  have HP := Lib.hid hp
  obtain ⟨aL, cL, rfl, _⟩ := ownsRow_slice hL.1
  have HLI := Lib.hid (fun x (h : x ∈ L.filter (keepR s all p)) w' (hg : Gr w w') => (hL.2 x (List.mem_filter.1 h).1).gr hg)
  have HSN : Hid (∀ k (h : k < L.length), (L.take (k + 1)).filter (keepR s all p) = (L.take k).filter (keepR s all p) ++ (if keepR s all p L[k] = true then [L[k]] else [])) := Lib.hid fun k h => by
    rw [List.take_succ_eq_append_getElem h, List.filter_append]
    congr 1
    cases hq : keepR s all p L[k] <;> simp [List.filter, hq]
  have HEN : Hid ((L.take L.length).filter (keepR s all p) = L.filter (keepR s all p)) := Lib.hid (by rw [List.take_length])
  have HLN : Hid (∀ k, ((L.take k).filter (keepR s all p)).length ≤ 1000) := Lib.hid fun k => by
    have := List.length_filter_le (keepR s all p) (L.take k)
    rw [List.length_take] at this; omega
  have H0N : Hid ((L.take 0).filter (keepR s all p) = []) := Lib.hid rfl
  generalize hF : (fun k => (L.take k).filter (keepR s all p)) = F at *
  have eF : ∀ k, (L.take k).filter (keepR s all p) = F k := fun k => by rw [← hF]
  simp only [eF] at HSN HEN HLN H0N
  clear hF eF hL hp
  have HO := Lib.hid (World.ownsRow_made (base := w.heap.size) (e := 71) (size := 4) w #[] 0 (Nat.le_refl _) (by unfold maxLen; omega) rfl)
  have HG := Lib.hid ((Gr.refl w).alloc (.cells #[] 71))
  go_enter Tryz.func51, Tryz.ntmps51
  go_upto_region 2 with fail
  generalize hw1 : w.alloc (.cells #[] 71) = w1 at *
  clear hw1
  go_wp2_with fail
  go_loopw [9, 15] (fun x i wr => ∃ (k : Nat) (a : Option Addr) (c : Nat), k ≤ L.length ∧ i = .int .i64 k ∧ x = .slice a (F k).length c ∧ Hid (wr.ownsRow w.heap.size 71 4 (.slice a (F k).length c) (F k).length (rcells encRL (F k))) ∧ Hid (Gr w wr)) (fun _ i _ => L.length - (intOf i).toNat)
  case atStart => exact ⟨0, some ⟨w.heap.size, 0, none⟩, 0, by omega, rfl, by rw [H0N.out]; rfl, Lib.hid (by rw [H0N.out]; exact HO.out), HG⟩
  case round =>
    obtain ⟨k, a, c, hk, rfl, rfl, hF, hG⟩ := hrel
    by_cases hlt : k < L.length
    · have HSJ := Lib.hid (HSN.out k hlt)
      have HLJ := Lib.hid (HLN.out k)
      have HFy := Lib.hid (ownsRow_gr ((Gr.refl wr).alloc (.cells #[.int .i64 L[k].ses, .slice L[k].a L[k].l.length L[k].c, .bool L[k].ex, .int .u64 L[k].tok] 71)) hF.out)
      obtain ⟨g, cap, hv, d0, d1, d2, d3, hlies⟩ := rlrow_at (HL.out.gr (hG.out)) k hlt
      simp only [Value.slice.injEq] at hv
      obtain ⟨rfl, hnn, rfl⟩ := hv
      clear hnn
      have HLY := Lib.hid (hlies.gr ((Gr.refl wr).alloc (.cells #[.int .i64 L[k].ses, .slice L[k].a L[k].l.length L[k].c, .bool L[k].ex, .int .u64 L[k].tok] 71)))
      have HY := Lib.hid (Blk.new wr #[.int .i64 L[k].ses, .slice L[k].a L[k].l.length L[k].c, .bool L[k].ex, .int .u64 L[k].tok] 71)
      have HGy := Lib.hid ((hG.out).alloc (.cells #[.int .i64 L[k].ses, .slice L[k].a L[k].l.length L[k].c, .bool L[k].ex, .int .u64 L[k].tok] 71))
      clear hlies
      generalize hy : L[k] = y at *
      have HYE := Lib.hid hy
      clear hy
      obtain ⟨ys, yl, ya, yc, ye, yk⟩ := y
      simp only at d0 d1 d2 d3 HY HGy HLY HFy
      go_upto_region 5 with fail
      generalize wr.alloc (.cells #[.int .i64 ys, .slice ya yl.length yc, .bool ye, .int .u64 yk] 71) = wy at *
      generalize wr.heap.size = cy at *
      clear d0 d1 d2 d3
      have d0 := HY.out.cell (i := 0) rfl
      have d1 := HY.out.cell (i := 1) rfl
      have d2 := HY.out.cell (i := 2) rfl
      have d3 := HY.out.cell (i := 3) rfl
      clear hF hG
      by_cases h1 : ys = s
      · subst h1
        cases all
        · have hsm := refSame_any22 ⟨ys, yl, ya, yc, ye, yk⟩ ys p pa pc wy HLY.out (HP.out.gr HGy.out)
          simp only at hsm
          cases hq : sameR ⟨ys, yl, ya, yc, ye, yk⟩ ys p
          · rw [hq] at hsm
            have HK : Hid (keepR ys false p ⟨ys, yl, ya, yc, ye, yk⟩ = true) := Lib.hid (by unfold keepR; rw [hq]; simp)
            clear hq
            go_wp2_with fail
            refine hsm.mono ?_
            rintro e w5 ⟨rfl, hg5⟩
            have HG5 := Lib.hid (HGy.out.trans hg5)
            have HF5 := Lib.hid (ownsRow_gr hg5 HFy.out)
            have d0 := (HY.out.gr hg5).cell (i := 0) rfl
            have d1 := (HY.out.gr hg5).cell (i := 1) rfl
            have d2 := (HY.out.gr hg5).cell (i := 2) rfl
            have d3 := (HY.out.gr hg5).cell (i := 3) rfl
            clear hg5 hsm HFy HGy
            rw [if_pos HK.out] at HSJ
            have hrow0 := HF5.out
            have hrow := ownsRow_gr ((Gr.refl w5).alloc (.cells #[.int .i64 ys, .slice ya yl.length yc, .bool ye, .int .u64 yk] 71)) hrow0
            clear hrow0
            go_wp2_with (at_builtin; go_loud (refine wpList_append_lies _ rfl (.tmp 34) (.tmp 36) 27 rfl w.heap.size 71 i0 (.agg #[.int .i64 0, .slice none 0 0, .bool false, .int .u64 0]) 4 48 Tryz.underlying27 hi hz0 hz1 hz2 rfl (by decide) _ _ _ rfl hrow ⟨w5.heap.size, 0, none⟩ 1 1 [.int .i64 ys, .slice ya yl.length yc, .bool ye, .int .u64 yk] rfl (by simp) ?ka1 ?ka2 Nat.one_pos ?ka3 ?ka4 ?ka5 _ rfl ?_))
            case ka1 => exact World.news_of_block (cs := #[.int .i64 ys, .slice ya yl.length yc, .bool ye, .int .u64 yk]) (t := 71) (fr := (0, 0)) (heap_alloc_new w5 (.cells #[.int .i64 ys, .slice ya yl.length yc, .bool ye, .int .u64 yk] 71))
            case ka2 => first | (intro u hu; simp at hu; rcases hu with rfl | rfl | rfl | rfl <;> rfl) | exact ⟨rfl, rfl, rfl, rfl⟩
            case ka3 => have := HLJ.out; unfold maxLen; omega
            case ka4 => have := HLJ.out; omega
            case ka5 => have := HG5.out.size; simp; omega
            intro g7 cap7 w7 hown7 hgrow7 hat7 hlt7
            have HG7 := Lib.hid ((HG5.out.alloc (.cells #[.int .i64 ys, .slice ya yl.length yc, .bool ye, .int .u64 yk] 71)).append hrow hgrow7)
            have HR7 := Lib.hid hown7
            clear hown7 hgrow7 hat7 hlt7 hrow
            go_wp2
            have e7 : (F (k + 1)).length = (F k).length + 1 := by rw [HSJ.out, List.length_append, List.length_singleton]
            refine ⟨⟨k + 1, some ⟨g7, 0, none⟩, cap7, hlt, by simp, by rw [e7], Lib.hid ?_, HG7⟩, by simp [intOf]; omega⟩
            rw [e7, HSJ.out, rcells_append]
            exact HR7.out
          · rw [hq] at hsm
            have HK : Hid (keepR ys false p ⟨ys, yl, ya, yc, ye, yk⟩ = false) := Lib.hid (by unfold keepR; rw [hq]; simp)
            clear hq
            go_wp2_with fail
            refine hsm.mono ?_
            rintro e w5 ⟨rfl, hg5⟩
            have HG5 := Lib.hid (HGy.out.trans hg5)
            have HF5 := Lib.hid (ownsRow_gr hg5 HFy.out)
            clear hg5 hsm HFy HGy d0 d1 d2 d3
            rw [if_neg (by rw [HK.out]; simp), List.append_nil] at HSJ
            go_wp2
            refine ⟨⟨k + 1, a, c, hlt, by simp, by rw [HSJ.out], Lib.hid ?_, HG5⟩, by simp [intOf]; omega⟩
            rw [HSJ.out]
            exact HF5.out
        · have HK : Hid (keepR ys true p ⟨ys, yl, ya, yc, ye, yk⟩ = false) := Lib.hid (by unfold keepR; simp)
          rw [if_neg (by rw [HK.out]; simp), List.append_nil] at HSJ
          go_wp2
          refine ⟨⟨k + 1, a, c, hlt, by simp, by rw [HSJ.out], Lib.hid ?_, HGy⟩, by simp [intOf]; omega⟩
          rw [HSJ.out]
          exact HFy.out
      · have e1 : (ys != s) = true := by simpa using h1
        have HK : Hid (keepR s all p ⟨ys, yl, ya, yc, ye, yk⟩ = true) := Lib.hid (by unfold keepR; rw [decide_eq_true h1]; simp)
        clear h1
        rw [if_pos HK.out] at HSJ
        have hrow0 := HFy.out
        have hrow := ownsRow_gr ((Gr.refl wy).alloc (.cells #[.int .i64 ys, .slice ya yl.length yc, .bool ye, .int .u64 yk] 71)) hrow0
        clear hrow0
        go_wp2_with (at_builtin; go_loud (refine wpList_append_lies _ rfl (.tmp 34) (.tmp 36) 27 rfl w.heap.size 71 i0 (.agg #[.int .i64 0, .slice none 0 0, .bool false, .int .u64 0]) 4 48 Tryz.underlying27 hi hz0 hz1 hz2 rfl (by decide) _ _ _ rfl hrow ⟨wy.heap.size, 0, none⟩ 1 1 [.int .i64 ys, .slice ya yl.length yc, .bool ye, .int .u64 yk] rfl (by simp) ?kb1 ?kb2 Nat.one_pos ?kb3 ?kb4 ?kb5 _ rfl ?_))
        case kb1 => exact World.news_of_block (cs := #[.int .i64 ys, .slice ya yl.length yc, .bool ye, .int .u64 yk]) (t := 71) (fr := (0, 0)) (heap_alloc_new wy (.cells #[.int .i64 ys, .slice ya yl.length yc, .bool ye, .int .u64 yk] 71))
        case kb2 => first | (intro u hu; simp at hu; rcases hu with rfl | rfl | rfl | rfl <;> rfl) | exact ⟨rfl, rfl, rfl, rfl⟩
        case kb3 => have := HLJ.out; unfold maxLen; omega
        case kb4 => have := HLJ.out; omega
        case kb5 => have := HGy.out.size; simp; omega
        intro g7 cap7 w7 hown7 hgrow7 hat7 hlt7
        have HG7 := Lib.hid ((HGy.out.alloc (.cells #[.int .i64 ys, .slice ya yl.length yc, .bool ye, .int .u64 yk] 71)).append hrow hgrow7)
        have HR7 := Lib.hid hown7
        clear hown7 hgrow7 hat7 hlt7 hrow
        go_wp2
        have e7 : (F (k + 1)).length = (F k).length + 1 := by rw [HSJ.out, List.length_append, List.length_singleton]
        refine ⟨⟨k + 1, some ⟨g7, 0, none⟩, cap7, hlt, by simp, by rw [e7], Lib.hid ?_, HG7⟩, by simp [intOf]; omega⟩
        rw [e7, HSJ.out, rcells_append]
        exact HR7.out
    · obtain rfl : k = L.length := by omega
      have hEN := HEN.out
      rw [hEN] at hF
      have HEN2 := Lib.hid hEN
      clear hEN
      go_wp2
      go_ret
      exact ⟨_, rfl, ⟨by rw [HEN2.out]; exact hF.out, fun x hx => HLI.out x hx _ hG.out⟩, hG.out⟩
end Go.Proofs.YtmgpnpmdmelnkaaGreatDoor
namespace Go.Proofs.YtmgpnpmdmelnkaaGreatDoor
open Go.ChangeShapes Go.WideShapes Go.ChangeAt Go.RowKit
set_option linter.unusedVariables false
set_option linter.unusedSimpArgs false
def zRL : RL := ⟨0, [], none, 0, false, 0⟩
def findR (H W : List RL) (s : Int) (p : List ByteArray) : RL × Int :=
  if 0 ≤ fstF (fun x => sameR x s p) H 0 then (H.getD (fstF (fun x => sameR x s p) H 0).toNat zRL, 0)
  else if 0 ≤ fstF (fun x => sameR x s p) W 0 then (W.getD (fstF (fun x => sameR x s p) W 0).toNat zRL, fstF (fun x => sameR x s p) W 0 + 1)
  else (zRL, -1)
theorem findR_held {H W : List RL} {s : Int} {p : List ByteArray} {k : Nat} {y : RL} (h : fstF (fun x => sameR x s p) H 0 = k) (hk : k < H.length) (hy : H[k] = y) : findR H W s p = (y, 0) := by
  unfold findR
  rw [h, if_pos (by omega), show (k : Int).toNat = k by omega, List.getD_eq_getElem?_getD, List.getElem?_eq_getElem hk, hy]; rfl
theorem findR_waits {H W : List RL} {s : Int} {p : List ByteArray} {k : Nat} {y : RL} (h0 : fstF (fun x => sameR x s p) H 0 = -1) (h : fstF (fun x => sameR x s p) W 0 = k) (hk : k < W.length) (hy : W[k] = y) : findR H W s p = (y, (k : Int) + 1) := by
  unfold findR
  rw [h0, h, if_neg (by omega), if_pos (by omega), show (k : Int).toNat = k by omega, List.getD_eq_getElem?_getD, List.getElem?_eq_getElem hk, hy]; rfl
theorem findR_none {H W : List RL} {s : Int} {p : List ByteArray} (h0 : fstF (fun x => sameR x s p) H 0 = -1) (h : fstF (fun x => sameR x s p) W 0 = -1) : findR H W s p = (zRL, -1) := by
  unfold findR
  rw [h0, h, if_neg (by omega), if_neg (by omega)]
set_option maxRecDepth 100000 in
set_option maxHeartbeats 4000000 in
theorem refFind_any {bH bW : Nat} {vH vW : Value} {last : Int} (H W : List RL) (s : Int) (p : List ByteArray) (pa : Option Addr) (pc : Nat) (w : World) (hH : RRow22 w bH vH H) (hW : RRow22 w bW vW W) (hp : Strs w pa p) (hl : H.length + W.length ≤ 1000) :
    Calls Tryz.prog 47 #[.agg #[vH, vW, .int .u64 last], .int .i64 s, .slice pa p.length pc] w fun e w' => e = .returned (.tuple #[.agg #[.int .i64 (findR H W s p).1.ses, .slice (findR H W s p).1.a (findR H W s p).1.l.length (findR H W s p).1.c, .bool (findR H W s p).1.ex, .int .u64 (findR H W s p).1.tok], .int .i64 (findR H W s p).2]) ∧ Gr w w' := by
  have HH := Lib.hid hH
  have HW := Lib.hid hW
  have HP := Lib.hid hp
  obtain ⟨aH, cH, rfl, _⟩ := ownsRow_slice hH.1
  obtain ⟨aW, cW, rfl, _⟩ := ownsRow_slice hW.1
  have hsz : (w.alloc (.cells #[.slice aH H.length cH, .slice aW W.length cW, .int .u64 last] 29)).heap.size = w.heap.size + 1 := by simp
  have BX := Lib.hid (Blk.new (w.alloc (.cells #[.slice aH H.length cH, .slice aW W.length cW, .int .u64 last] 29)) #[.int .i64 0, .slice none 0 0, .bool false, .int .u64 0] 71)
  rw [hsz] at BX
  have BB := Lib.hid ((Blk.new w #[.slice aH H.length cH, .slice aW W.length cW, .int .u64 last] 29).gr ((Gr.refl _).alloc (.cells #[.int .i64 0, .slice none 0 0, .bool false, .int .u64 0] 71)))
  have HG := Lib.hid (((Gr.refl w).alloc (.cells #[.slice aH H.length cH, .slice aW W.length cW, .int .u64 last] 29)).alloc (.cells #[.int .i64 0, .slice none 0 0, .bool false, .int .u64 0] 71))
  clear hH hW hp hsz
  go_enter Tryz.func47, Tryz.ntmps47
  go_upto_region 1 with fail
  generalize (w.alloc (.cells #[.slice aH H.length cH, .slice aW W.length cW, .int .u64 last] 29)).alloc (.cells #[.int .i64 0, .slice none 0 0, .bool false, .int .u64 0] 71) = w1 at *
  have b0 := BB.out.cell (i := 0) rfl
  go_wp2_with fail
  go_loopw [15] (fun i wr => ∃ k : Nat, k ≤ H.length ∧ i = .int .i64 k ∧ Hid (fstF (fun x => sameR x s p) H 0 = fstF (fun x => sameR x s p) H k) ∧ Hid (Gr w1 wr)) (fun i _ => H.length - (intOf i).toNat)
  case atStart => exact ⟨0, by omega, rfl, Lib.hid rfl, Lib.hid (Gr.refl _)⟩
  case round =>
    obtain ⟨k, hk, rfl, hN, hG⟩ := hrel
    by_cases hlt : k < H.length
    · skip
      have HGX := Lib.hid (hG.out)
      have HHIT := Lib.hid (fun h => fstF_hit (fun x => sameR x s p) H hlt h)
      have HMIS := Lib.hid (fun h => fstF_miss (fun x => sameR x s p) H hlt h)
      obtain ⟨g, cap, hv, d0, d1, d2, d3, hlies⟩ := rlrow_at (HH.out.gr (HG.out.trans HGX.out)) k hlt
      simp only [Value.slice.injEq] at hv
      obtain ⟨rfl, hnn, rfl⟩ := hv
      clear hnn
      have HLY := Lib.hid (hlies.gr ((Gr.refl wr).alloc (.cells #[.int .i64 H[k].ses, .slice H[k].a H[k].l.length H[k].c, .bool H[k].ex, .int .u64 H[k].tok] 71)))
      have HY := Lib.hid (Blk.new wr #[.int .i64 H[k].ses, .slice H[k].a H[k].l.length H[k].c, .bool H[k].ex, .int .u64 H[k].tok] 71)
      have HGy := Lib.hid ((HG.out.trans HGX.out).alloc (.cells #[.int .i64 H[k].ses, .slice H[k].a H[k].l.length H[k].c, .bool H[k].ex, .int .u64 H[k].tok] 71))
      have HG1y := Lib.hid (hG.out.alloc (.cells #[.int .i64 H[k].ses, .slice H[k].a H[k].l.length H[k].c, .bool H[k].ex, .int .u64 H[k].tok] 71))
      have HBX := Lib.hid (BX.out.gr (HGX.out.alloc (.cells #[.int .i64 H[k].ses, .slice H[k].a H[k].l.length H[k].c, .bool H[k].ex, .int .u64 H[k].tok] 71)))
      clear hlies
      generalize hy : H[k] = y at *
      have HYE := Lib.hid hy
      clear hy
      obtain ⟨ys, yl, ya, yc, ye, yk⟩ := y
      simp only at d0 d1 d2 d3 HY HGy HLY HG1y HBX
      go_upto_region 4 with fail
      generalize wr.alloc (.cells #[.int .i64 ys, .slice ya yl.length yc, .bool ye, .int .u64 yk] 71) = wy at *
      generalize wr.heap.size = cy at *
      clear d0 d1 d2 d3
      have d0 := HY.out.cell (i := 0) rfl
      have d1 := HY.out.cell (i := 1) rfl
      have d2 := HY.out.cell (i := 2) rfl
      have d3 := HY.out.cell (i := 3) rfl
      have hsm := refSame_any22 ⟨ys, yl, ya, yc, ye, yk⟩ s p pa pc wy HLY.out (HP.out.gr HGy.out)
      simp only at hsm
      cases hq : sameR ⟨ys, yl, ya, yc, ye, yk⟩ s p
      · rw [hq] at hsm
        have HS := Lib.hid (hN.out.trans (HMIS.out hq))
        clear hq hN
        go_wp2_with fail
        refine hsm.mono ?_
        rintro e w5 ⟨rfl, hg5⟩
        have HG5 := Lib.hid (HG1y.out.trans hg5)
        clear hg5 hsm d0 d1 d2 d3
        go_wp2
        exact ⟨⟨k + 1, hlt, by simp, HS, HG5⟩, by simp [intOf]; omega⟩
      · rw [hq] at hsm
        have HS := Lib.hid (hN.out.trans (HHIT.out hq))
        clear hq hN
        go_wp2_with fail
        refine hsm.mono ?_
        rintro e w5 ⟨rfl, hg5⟩
        have HG5 := Lib.hid (HGy.out.trans hg5)
        have HR5 := Lib.hid (HBX.out.gr hg5)
        have HY5 := Lib.hid (HY.out.gr hg5)
        clear hg5 hsm d0 d1 d2 d3
        have d0 := HY5.out.cell (i := 0) rfl
        have d1 := HY5.out.cell (i := 1) rfl
        have d2 := HY5.out.cell (i := 2) rfl
        have d3 := HY5.out.cell (i := 3) rfl
        have r0 := HR5.out.cell (i := 0) rfl
        have r1 := HR5.out.cell (i := 1) rfl
        have r2 := HR5.out.cell (i := 2) rfl
        have r3 := HR5.out.cell (i := 3) rfl
        have f0 := HR5.out.free 0
        have f1 := HR5.out.free 1
        have f2 := HR5.out.free 2
        have f3 := HR5.out.free 3
        go_wp2
        refine bodyPost_ret (v := .tuple #[.agg #[.int .i64 ys, .slice ya yl.length yc, .bool ye, .int .u64 yk], .int .i64 0]) (by simp [results, Tryz.results47, go_sem, r0, r1, r2, r3, f0]; try rfl) rfl ?_
        exact ⟨by rw [show findR H W s p = (⟨ys, yl, ya, yc, ye, yk⟩, 0) from findR_held HS.out hlt HYE.out]; try rfl, ((((HG5.out.setCell (p := ⟨_, 0, none⟩) (Nat.le_succ _) _).setCell (p := ⟨_, 1, none⟩) (Nat.le_succ _) _).setCell (p := ⟨_, 2, none⟩) (Nat.le_succ _) _).setCell (p := ⟨_, 3, none⟩) (Nat.le_succ _) _)⟩
    · obtain rfl : k = H.length := by omega
      clear b0
      have HN := Lib.hid (hN.out.trans (fstF_end (fun x => sameR x s p) H hlt))
      have HG0 := hG
      clear hN hG
      generalize wr = w2 at *
      have b1 := (BB.out.gr HG0.out).cell (i := 1) rfl
      go_wp2_with fail
      go_loopw [28] (fun i wr => ∃ k : Nat, k ≤ W.length ∧ i = .int .i64 k ∧ Hid (fstF (fun x => sameR x s p) W 0 = fstF (fun x => sameR x s p) W k) ∧ Hid (Gr w2 wr)) (fun i _ => W.length - (intOf i).toNat)
      case atStart => exact ⟨0, by omega, rfl, Lib.hid rfl, Lib.hid (Gr.refl _)⟩
      case round =>
        obtain ⟨k, hk, rfl, hN, hG⟩ := hrel
        by_cases hlt : k < W.length
        · skip
          have HGX := Lib.hid (HG0.out.trans hG.out)
          have HHIT := Lib.hid (fun h => fstF_hit (fun x => sameR x s p) W hlt h)
          have HMIS := Lib.hid (fun h => fstF_miss (fun x => sameR x s p) W hlt h)
          obtain ⟨g, cap, hv, d0, d1, d2, d3, hlies⟩ := rlrow_at (HW.out.gr (HG.out.trans HGX.out)) k hlt
          simp only [Value.slice.injEq] at hv
          obtain ⟨rfl, hnn, rfl⟩ := hv
          clear hnn
          have HLY := Lib.hid (hlies.gr ((Gr.refl wr).alloc (.cells #[.int .i64 W[k].ses, .slice W[k].a W[k].l.length W[k].c, .bool W[k].ex, .int .u64 W[k].tok] 71)))
          have HY := Lib.hid (Blk.new wr #[.int .i64 W[k].ses, .slice W[k].a W[k].l.length W[k].c, .bool W[k].ex, .int .u64 W[k].tok] 71)
          have HGy := Lib.hid ((HG.out.trans HGX.out).alloc (.cells #[.int .i64 W[k].ses, .slice W[k].a W[k].l.length W[k].c, .bool W[k].ex, .int .u64 W[k].tok] 71))
          have HG1y := Lib.hid (hG.out.alloc (.cells #[.int .i64 W[k].ses, .slice W[k].a W[k].l.length W[k].c, .bool W[k].ex, .int .u64 W[k].tok] 71))
          have HBX := Lib.hid (BX.out.gr (HGX.out.alloc (.cells #[.int .i64 W[k].ses, .slice W[k].a W[k].l.length W[k].c, .bool W[k].ex, .int .u64 W[k].tok] 71)))
          clear hlies
          generalize hy : W[k] = y at *
          have HYE := Lib.hid hy
          clear hy
          obtain ⟨ys, yl, ya, yc, ye, yk⟩ := y
          simp only at d0 d1 d2 d3 HY HGy HLY HG1y HBX
          go_upto_region 10 with fail
          generalize wr.alloc (.cells #[.int .i64 ys, .slice ya yl.length yc, .bool ye, .int .u64 yk] 71) = wy at *
          generalize wr.heap.size = cy at *
          clear d0 d1 d2 d3
          have d0 := HY.out.cell (i := 0) rfl
          have d1 := HY.out.cell (i := 1) rfl
          have d2 := HY.out.cell (i := 2) rfl
          have d3 := HY.out.cell (i := 3) rfl
          have hsm := refSame_any22 ⟨ys, yl, ya, yc, ye, yk⟩ s p pa pc wy HLY.out (HP.out.gr HGy.out)
          simp only at hsm
          cases hq : sameR ⟨ys, yl, ya, yc, ye, yk⟩ s p
          · rw [hq] at hsm
            have HS := Lib.hid (hN.out.trans (HMIS.out hq))
            clear hq hN
            go_wp2_with fail
            refine hsm.mono ?_
            rintro e w5 ⟨rfl, hg5⟩
            have HG5 := Lib.hid (HG1y.out.trans hg5)
            clear hg5 hsm d0 d1 d2 d3
            go_wp2
            exact ⟨⟨k + 1, hlt, by simp, HS, HG5⟩, by simp [intOf]; omega⟩
          · rw [hq] at hsm
            have HS := Lib.hid (hN.out.trans (HHIT.out hq))
            clear hq hN
            go_wp2_with fail
            refine hsm.mono ?_
            rintro e w5 ⟨rfl, hg5⟩
            have HG5 := Lib.hid (HGy.out.trans hg5)
            have HR5 := Lib.hid (HBX.out.gr hg5)
            have HY5 := Lib.hid (HY.out.gr hg5)
            clear hg5 hsm d0 d1 d2 d3
            have d0 := HY5.out.cell (i := 0) rfl
            have d1 := HY5.out.cell (i := 1) rfl
            have d2 := HY5.out.cell (i := 2) rfl
            have d3 := HY5.out.cell (i := 3) rfl
            have r0 := HR5.out.cell (i := 0) rfl
            have r1 := HR5.out.cell (i := 1) rfl
            have r2 := HR5.out.cell (i := 2) rfl
            have r3 := HR5.out.cell (i := 3) rfl
            have f0 := HR5.out.free 0
            have f1 := HR5.out.free 1
            have f2 := HR5.out.free 2
            have f3 := HR5.out.free 3
            go_wp2
            refine bodyPost_ret (v := .tuple #[.agg #[.int .i64 ys, .slice ya yl.length yc, .bool ye, .int .u64 yk], .int .i64 ((k : Int) + 1)]) (by simp [results, Tryz.results47, go_sem, r0, r1, r2, r3, f0]; try rfl) rfl ?_
            exact ⟨by rw [show findR H W s p = (⟨ys, yl, ya, yc, ye, yk⟩, ((k : Int) + 1)) from findR_waits HN.out HS.out hlt HYE.out]; try rfl, ((((HG5.out.setCell (p := ⟨_, 0, none⟩) (Nat.le_succ _) _).setCell (p := ⟨_, 1, none⟩) (Nat.le_succ _) _).setCell (p := ⟨_, 2, none⟩) (Nat.le_succ _) _).setCell (p := ⟨_, 3, none⟩) (Nat.le_succ _) _)⟩
        · obtain rfl : k = W.length := by omega
          have HN2 := Lib.hid (hN.out.trans (fstF_end (fun x => sameR x s p) W hlt))
          have HG2 := Lib.hid (HG.out.trans (HG0.out.trans hG.out))
          have HR2 := Lib.hid (BX.out.gr (HG0.out.trans hG.out))
          clear hN hG b1
          have r0 := HR2.out.cell (i := 0) rfl
          have r1 := HR2.out.cell (i := 1) rfl
          have r2 := HR2.out.cell (i := 2) rfl
          have r3 := HR2.out.cell (i := 3) rfl
          have f0 := HR2.out.free 0
          have f1 := HR2.out.free 1
          have f2 := HR2.out.free 2
          have f3 := HR2.out.free 3
          go_wp2
          refine bodyPost_ret (v := .tuple #[.agg #[.int .i64 0, .slice none ([] : List ByteArray).length 0, .bool false, .int .u64 0], .int .i64 (-1)]) (by simp [results, Tryz.results47, go_sem, r0, r1, r2, r3, f0]; try rfl) rfl ?_
          exact ⟨by rw [show findR H W s p = (⟨0, ([] : List ByteArray), none, 0, false, 0⟩, (-1)) from findR_none HN.out HN2.out]; try rfl, ((((HG2.out.setCell (p := ⟨_, 0, none⟩) (Nat.le_succ _) _).setCell (p := ⟨_, 1, none⟩) (Nat.le_succ _) _).setCell (p := ⟨_, 2, none⟩) (Nat.le_succ _) _).setCell (p := ⟨_, 3, none⟩) (Nat.le_succ _) _)⟩
end Go.Proofs.YtmgpnpmdmelnkaaGreatDoor
