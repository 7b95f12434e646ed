import Derived.Test.YtkihencimbdoiaaM16
import Derived.Test.YtkihencimbdoiaaL16d
import Derived.Test.YtkihencimbdoiaaC06
import Derived.WalkKit
import Derived.ProofKit
import Derived.LoopTactic
import Derived.Outline
import Derived.WalkSpells
import Derived.WalkLawsBesides
import Derived.Lib.Hide
import Derived.Deep.LoopGhost
import Derived.Deep.QuietTactic
import Derived.BigQuiet
import Derived.ShutString
import Derived.IntWalk
import Derived.Lib.MinMax
import Derived.Deep.CutBlock
import Derived.Deep.RegionWith
import Derived.Deep.RegionHeld3
namespace Go.Proofs.Ytkihencimbdoiaa
open Go.ChangeShapes Go.WideShapes Go.ChangeAt Go.RowKit
open Rates
open Bal
set_option linter.unusedVariables false
set_option linter.unusedSimpArgs false
theorem grant_prepare (a : Ac) (fr c n nw lg : Int) : GrantOk a (a.prepare fr c n nw) (a.prepareR fr c n nw).k fr nw lg := by
  unfold Ac.prepareR
  by_cases h1 : a.bars fr nw = true
  · rw [if_pos h1]; exact fun h => absurd h (show (5 : Int) ≠ 11 by decide)
  · rw [if_neg h1]
    by_cases h2 : a.late c n = true
    · rw [if_pos h2]; exact fun h => absurd h (show (5 : Int) ≠ 11 by decide)
    · rw [if_neg h2]; exact fun h => absurd h (show (2 : Int) ≠ 11 by decide)
theorem grant_accept (a : Ac) (fr c n slot nw lg : Int) (text : ByteArray) : GrantOk a (a.accept c n slot text) (a.acceptR c n slot text).k fr nw lg := by
  unfold Ac.acceptR
  by_cases h2 : a.late c n = true
  · rw [if_pos h2]; exact fun h => absurd h (show (5 : Int) ≠ 11 by decide)
  · rw [if_neg h2]
    by_cases h3 : a.full slot = true
    · rw [if_pos h3]; exact fun h => absurd h (show (0 : Int) ≠ 11 by decide)
    · rw [if_neg h3]
      by_cases h4 : a.ba < slot
      · rw [if_pos h4]; exact fun h => absurd h (show (4 : Int) ≠ 11 by decide)
      · rw [if_neg h4]; exact fun h => absurd h (show (4 : Int) ≠ 11 by decide)
theorem grant_ask (a : Ac) (fr c n time nw lg : Int) : GrantOk a (a.ask fr c n nw lg) (a.askR fr c n time nw lg).k fr nw lg := by
  unfold Ac.ask Ac.askR
  by_cases h2 : a.late c n = true
  · rw [if_pos h2, if_pos h2]; exact fun h => absurd h (show (5 : Int) ≠ 11 by decide)
  · rw [if_neg h2, if_neg h2]
    by_cases h1 : a.bars fr nw = true
    · rw [if_pos h1, if_pos h1]; exact fun h => absurd h (show (5 : Int) ≠ 11 by decide)
    · rw [if_neg h1, if_neg h1]; exact fun _ => ⟨rfl, Int.le_refl _⟩
/-- All that the law keeps: the argument's box, the rate, the acceptor, the clocks. -/
structure GS (w2 wr : World) (pbx prt pb cb : Nat) (BX RT : Array Value) (v : Value) (a : Ac) (c : Clk) : Prop where
  ac : AcIs w2 wr pb v a
  ck : ClkIs wr cb c
  bx : Blk wr pbx BX 72
  rt : Blk wr prt RT 74
  n1 : pbx ≠ pb
  n2 : pbx ≠ cb
  n3 : prt ≠ pb
  n4 : prt ≠ cb
  n5 : cb ≠ pb
  le : w2.heap.size ≤ cb
  nv : v.ownBlock ≠ some cb
section
variable {w2 wr : World} {pbx prt pb cb : Nat} {BX RT : Array Value} {v : Value} {a : Ac} {c : Clk}
theorem GS.gr {w' : World} (h : GS w2 wr pbx prt pb cb BX RT v a c) (hg : Gr wr w') : GS w2 w' pbx prt pb cb BX RT v a c :=
  ⟨h.ac.gr hg, h.ck.gr hg, h.bx.gr hg, h.rt.gr hg, h.n1, h.n2, h.n3, h.n4, h.n5, h.le, h.nv⟩
theorem GS.acTo {w' : World} {v' : Value} {a' : Ac} (h : GS w2 wr pbx prt pb cb BX RT v a c) (hA : AcIs w2 w' pb v' a') (hf : Far pb v wr w') (hv : From v wr v') : GS w2 w' pbx prt pb cb BX RT v' a' c :=
  ⟨hA, h.ck.far hf h.n5 h.nv, h.ac.keep hf h.bx h.n1 (by decide), h.ac.keep hf h.rt h.n3 (by decide), h.n1, h.n2, h.n3, h.n4, h.n5, h.le, fun e => by
    rcases hv _ e with h1 | h1
    · exact h.nv h1
    · have := h.ck.lt; omega⟩
theorem GS.clk {w' : World} {c' : Clk} (h : GS w2 wr pbx prt pb cb BX RT v a c) (hc : ClkTo cb wr c' w') : GS w2 w' pbx prt pb cb BX RT v a c' :=
  ⟨h.ac.far hc.2 h.le h.n5.symm h.nv, hc.1, h.bx.far hc.2 h.n2 (by simp [Value.ownBlock]), h.rt.far hc.2 h.n4 (by simp [Value.ownBlock]), h.n1, h.n2, h.n3, h.n4, h.n5, h.le, h.nv⟩
theorem GS.put {ms : List Value} {p : Nat} {cs : Array Value} {t : TypeId} (h : GS w2 wr pbx prt pb cb BX RT v a c) (hp : Blk wr p cs t) (hg : wr.grownBy (wr.setCells p 0 ms) (some p)) (ht : t ≠ 108) (hw : w2.heap.size ≤ p) (q1 : p ≠ pb) (q2 : p ≠ cb) (q3 : p ≠ pbx) (q4 : p ≠ prt) : GS w2 (wr.setCells p 0 ms) pbx prt pb cb BX RT v a c :=
  ⟨h.ac.put hg q1 hw (row_off hp h.ac.row ht), ⟨by
      have hb := hg.block cb h.ck.lt (fun e => q2 (Option.some.inj e).symm)
      exact (World.cell?_of_block (w := wr) (a := ⟨cb, 0, none⟩) hb).trans h.ck.n, fun i hi => (World.cell?_of_block (w := wr) (a := ⟨cb, 1 + i, none⟩) (hg.block cb h.ck.lt (fun e => q2 (Option.some.inj e).symm))).trans (h.ck.now i hi), fun i hi => (World.cell?_of_block (w := wr) (a := ⟨cb, 13 + i, none⟩) (hg.block cb h.ck.lt (fun e => q2 (Option.some.inj e).symm))).trans (h.ck.by' i hi),
      (World.cell?_of_block (w := wr) (a := ⟨cb, 25, none⟩) (hg.block cb h.ck.lt (fun e => q2 (Option.some.inj e).symm))).trans h.ck.lo, (World.cell?_of_block (w := wr) (a := ⟨cb, 26, none⟩) (hg.block cb h.ck.lt (fun e => q2 (Option.some.inj e).symm))).trans h.ck.hi, (World.cell?_of_block (w := wr) (a := ⟨cb, 27, none⟩) (hg.block cb h.ck.lt (fun e => q2 (Option.some.inj e).symm))).trans h.ck.jd,
      fun i => (World.frozen?_of_block (w := wr) (a := ⟨cb, i, none⟩) (hg.block cb h.ck.lt (fun e => q2 (Option.some.inj e).symm))).trans (h.ck.free i), h.ck.ok⟩,
    h.bx.put_other hg q3.symm, h.rt.put_other hg q4.symm, h.n1, h.n2, h.n3, h.n4, h.n5, h.le, h.nv⟩
end
theorem TInv.up {P Q : Int} {c : Clk} {k : Nat} (h : TInv P Q c k) : TInv P Q c (k + 1) := ⟨h.n, h.b0, h.b1, by have := h.t0; push_cast; omega, by have := h.t1; push_cast; omega, h.ok, h.f⟩
/-- Behind the call: p12 the message, p13 the reply. -/
def Told (w2 : World) (pbx prt pb cb p12 p13 : Nat) (BX RT : Array Value) (a : Ac) (c : Clk) (FR SL NW LG C N TI : Int) (TX : ByteArray) (wx : World) : Prop :=
  ∃ (rk rc rn rs rt : Int) (la : Option Addr) (ll lc : Nat) (v' : Value) (a' : Ac), GS w2 wx pbx prt pb cb BX RT v' a' c ∧ a'.Ok ∧ KeepOk a a' rk C N FR NW ∧ GrantOk a a' rk FR NW LG ∧ Blk wx p12 #[.int .i64 0, .int .i64 FR, .int .i64 0, .int .i64 0, .int .u64 C, .int .i64 N, .int .i64 SL, .int .i64 TI, .bool false, .string TX, .slice none 0 0] 30 ∧ Blk wx p13 #[.int .i64 rk, .int .i64 0, .int .i64 0, .int .i64 0, .int .u64 rc, .int .i64 rn, .int .i64 rs, .int .i64 rt, .bool false, .string ⟨#[]⟩, .slice la ll lc] 30
/-- Behind the clocks' step. -/
def Timed (w2 : World) (pbx prt pb cb : Nat) (BX RT : Array Value) (v : Value) (a : Ac) (P Q e : Int) (k : Nat) (wx : World) : Prop :=
  ∃ c, GS w2 wx pbx prt pb cb BX RT v a c ∧ TInv P Q c (k + 1) ∧ GI P Q a (c.now 0) (c.now 1) e
set_option maxRecDepth 100000 in
set_option maxHeartbeats 4000000 in
theorem grants_walk (P0 Q0 T0 : Int) (S : List (Int × Int)) (sa : Option Addr) (sc : Nat) (L : List Act16) (ra : Option Addr) (rc : Nat) (w : World) (hs : PairRow w sa S) (hr : Act16Row w ra L) :
    Calls Try.prog 7 #[.agg #[.int .i64 P0, .int .i64 Q0, .int .i64 T0, .slice sa S.length sc, .slice ra L.length rc]] w fun e w' => e = .returned (.bool true) ∧ Gr w w' := by
  have HRW := Lib.hid hr
  have HSW := Lib.hid hs
  clear hr hs
  have HBX := Lib.hid (Blk.new w #[.int .i64 P0, .int .i64 Q0, .int .i64 T0, .slice sa S.length sc, .slice ra L.length rc] 72)
  have HG0 := Lib.hid ((Gr.refl w).alloc (.cells #[.int .i64 P0, .int .i64 Q0, .int .i64 T0, .slice sa S.length sc, .slice ra L.length rc] 72))
  have t0 : 0 ≤ bits .and .i64 T0 255 := (and_mask T0 255 (by decide)).1
  have t1 : bits .and .i64 T0 255 ≤ 255 := (and_mask T0 255 (by decide)).2
  go_enter Try.func7, Try.ntmps7
  go_wp2_with fail
  generalize w.alloc (.cells #[.int .i64 P0, .int .i64 Q0, .int .i64 T0, .slice sa S.length sc, .slice ra L.length rc] 72) = wa at *
  refine (near_any P0 Q0 _).mono ?_
  rintro e w1 ⟨P, Q, rfl, hgd, hg1⟩
  have HGD := Lib.hid hgd
  have HRT := Lib.hid (Blk.new w1 #[.int .i64 P, .int .i64 Q] 74)
  have HG1 := Lib.hid (HG0.out.trans (hg1.trans ((Gr.refl w1).alloc (.cells #[.int .i64 P, .int .i64 Q] 74))))
  have HBX1 := Lib.hid (HBX.out.gr (hg1.trans ((Gr.refl w1).alloc (.cells #[.int .i64 P, .int .i64 Q] 74))))
  have x2 := HBX1.out.cell (i := 2) rfl
  clear hgd hg1 HG0 HBX
  go_wp2_with fail
  generalize w1.alloc (.cells #[.int .i64 P, .int .i64 Q] 74) = w2 at *
  generalize hprt : w1.heap.size = prt at *
  clear hprt
  have hbnd : 0 ≤ bits .and .i64 T0 255 % 100 ∧ bits .and .i64 T0 255 % 100 ≤ 99 := by omega
  generalize hterm : bits .and .i64 T0 255 % 100 = tm at *
  clear hterm x2
  refine (acNew_st false _).mono ?_
  rintro e w3 ⟨rfl, hA3⟩
  go_wp2_with fail
  refine (clkNew_any 2 _).mono ?_
  rintro e w4 ⟨cb, rfl, hcb, hC4, hg4⟩
  have HGS := Lib.hid (show GS w2 w4 w.heap.size prt w2.heap.size cb #[.int .i64 P0, .int .i64 Q0, .int .i64 T0, .slice sa S.length sc, .slice ra L.length rc] #[.int .i64 P, .int .i64 Q] (.slice none 0 0) ⟨false, 0, 0, 0, [], 0, 0⟩ (newC 2) from
    ⟨hA3.gr hg4, hC4, HBX1.out.gr (hA3.grown.trans hg4), HRT.out.gr (hA3.grown.trans hg4), by have := HBX1.out.lt; omega, by have := HBX1.out.lt; have := hA3.lt; omega, by have := HRT.out.lt; omega, by have := HRT.out.lt; have := hA3.lt; omega, by have := hA3.lt; omega, by have := hA3.lt; omega, by simp [Value.ownBlock]⟩)
  have HW2 := Lib.hid HG1.out
  have HOK := Lib.hid (ok0 false)
  have HTI := Lib.hid (tinv_new HGD.out)
  have HGI := Lib.hid (show GI P Q ⟨false, 0, 0, 0, [], 0, 0⟩ ((newC 2).now 0) ((newC 2).now 1) (-1) from fun h => absurd h (by show ¬ (0 : Int) < -1; decide))
  clear hA3 hcb hC4 hg4 HRT HBX1 HG1 t0 t1
  go_wp2
  generalize hpbx : w.heap.size = pbx at *
  generalize hpb : w2.heap.size = pb at *
  have HPB := Lib.hid hpb
  clear hpbx hpb
  go_loopg [7, 8] 60 (fun g u7 u8 wr => ∃ (k : Nat) (v : Value) (a : Ac) (c : Clk) (e : Int), g + k = 60 ∧ u7 = .int .i64 e ∧ u8 = .int .i64 (k : Nat) ∧ Hid (GS w2 wr pbx prt pb cb #[.int .i64 P0, .int .i64 Q0, .int .i64 T0, .slice sa S.length sc, .slice ra L.length rc] #[.int .i64 P, .int .i64 Q] v a c) ∧ Hid a.Ok ∧ Hid (TInv P Q c k) ∧ Hid (GI P Q a (c.now 0) (c.now 1) e))
  case atStart => exact ⟨0, .slice none 0 0, ⟨false, 0, 0, 0, [], 0, 0⟩, newC 2, -1, by omega, rfl, rfl, HGS, HOK, HTI, HGI⟩
  case round =>
    clear HGS HOK HTI HGI
    obtain ⟨k, v, a, c, e, hgk, rfl, rfl, HGS, HOK, HTI, HGI⟩ := hrel
    have x3 := HGS.out.bx.cell (i := 3) rfl
    have x4 := HGS.out.bx.cell (i := 4) rfl
    by_cases hlt : k < L.length
    · have hk4 : (k : Int) < (L.length : Int) := by omega
      by_cases hk6 : k < 60
      · have hk7 : (k : Int) < 60 := by omega
        go_upto_if 47 with fail
        go_cut [] from 32 to 162 (fun wx => Hid (Timed w2 pbx prt pb cb #[.int .i64 P0, .int .i64 Q0, .int .i64 T0, .slice sa S.length sc, .slice ra L.length rc] #[.int .i64 P, .int .i64 Q] v a P Q e k wx))
        case first =>
          by_cases hst : k < S.length
          · have hst4 : (k : Int) < (S.length : Int) := by omega
            obtain ⟨_, _, hrow⟩ := HSW.out.gr (HW2.out.trans HGS.out.ac.grown)
            rcases hrow with rfl | ⟨sb, so, rfl, hrow⟩
            · exact absurd hst (by simp)
            · obtain ⟨r0, r1⟩ := hrow k hst
              generalize S[k].1 = X at *
              generalize S[k].2 = Y at *
              clear hrow
              go_wp2_with fail
              refine wp_region_held_drew (S := (fun w9 => w9.cell? ⟨pbx, 3, none⟩ = some (.slice (some ⟨sb, so, none⟩) S.length sc) ∧ w9.cell? ⟨sb, so + k * 2, none⟩ = some (.int .i64 X) ∧ w9.cell? ⟨sb, so + k * 2 + 1, none⟩ = some (.int .i64 Y))) (by kernel_rfl) ?inva (fun h0 => ?_)
              case inva => ((try dsimp only); (exact ⟨x3, r0, r1⟩))
              refine wpAnyH_take (i := 0) (oi := { dst := some 48, op := Go.Op.fieldAddr 72 (Go.Operand.tmp 1) 3, type := 0, pos := "top08.go:31", after := #[], guard := none }) (v := ?va1) rfl (by kernel_rfl) (by kernel_rfl) (by kernel_rfl) (fun _ _ _ h => h) (Or.inl ⟨by rfl, ?ra1⟩) (by assumption) ?_
              case ra1 => (intro w hSw; (try dsimp only at hSw); (go_simp <;> with_reducible rfl))
              try simp only [Act.put, List.setIfInBounds_toArray, List.set_cons_zero, List.set_cons_succ]
              refine wpAnyH_take (i := 1) (oi := { dst := some 49, op := Go.Op.load 70 (Go.Operand.tmp 48), type := 70, pos := "top08.go:31", after := #[{ on := 0, ground := Go.Ground.data }], guard := none }) (v := ?va2) rfl (by kernel_rfl) (by kernel_rfl) (by kernel_rfl) (fun _ _ _ h => h) (Or.inl ⟨by rfl, ?ra2⟩) (by assumption) ?_
              case ra2 => (intro w hSw; (try dsimp only at hSw); (go_simp <;> with_reducible rfl))
              try simp only [Act.put, List.setIfInBounds_toArray, List.set_cons_zero, List.set_cons_succ]
              refine wpAnyH_take (i := 2) (oi := { dst := some 50, op := Go.Op.move (Go.Operand.tmp 8), type := 3, pos := "top08.go:31", after := #[], guard := none }) (v := ?va3) rfl (by kernel_rfl) (by kernel_rfl) (by kernel_rfl) (fun _ _ _ h => h) (Or.inl ⟨by rfl, ?ra3⟩) (by assumption) ?_
              case ra3 => (intro w hSw; (try dsimp only at hSw); (go_simp <;> with_reducible rfl))
              try simp only [Act.put, List.setIfInBounds_toArray, List.set_cons_zero, List.set_cons_succ]
              refine wpAnyH_take (i := 3) (oi := { dst := some 51, op := Go.Op.indexAddr 70 (Go.Operand.tmp 49) (Go.Operand.tmp 50), type := 0, pos := "top08.go:31", after := #[{ on := 1, ground := Go.Ground.data }, { on := 2, ground := Go.Ground.data }], guard := none }) (v := ?va4) rfl (by kernel_rfl) (by kernel_rfl) (by kernel_rfl) (fun _ _ _ h => h) (Or.inl ⟨by rfl, ?ra4⟩) (by assumption) ?_
              case ra4 => (intro w hSw; (try dsimp only at hSw); (go_simp <;> with_reducible rfl))
              try simp only [Act.put, List.setIfInBounds_toArray, List.set_cons_zero, List.set_cons_succ]
              refine wpAnyH_take (i := 4) (oi := { dst := some 52, op := Go.Op.indexAddr 78 (Go.Operand.tmp 51) (Go.Operand.const (Go.Value.int Go.IntKind.i64 0)), type := 0, pos := "top08.go:31", after := #[{ on := 3, ground := Go.Ground.data }], guard := none }) (v := ?va5) rfl (by kernel_rfl) (by kernel_rfl) (by kernel_rfl) (fun _ _ _ h => h) (Or.inl ⟨by rfl, ?ra5⟩) (by assumption) ?_
              case ra5 => (intro w hSw; (try dsimp only at hSw); (go_simp <;> with_reducible rfl))
              try simp only [Act.put, List.setIfInBounds_toArray, List.set_cons_zero, List.set_cons_succ]
              refine wpAnyH_take (i := 5) (oi := { dst := some 53, op := Go.Op.load 3 (Go.Operand.tmp 52), type := 3, pos := "top08.go:31", after := #[{ on := 4, ground := Go.Ground.data }], guard := none }) (v := ?va6) rfl (by kernel_rfl) (by kernel_rfl) (by kernel_rfl) (fun _ _ _ h => h) (Or.inl ⟨by rfl, ?ra6⟩) (by assumption) ?_
              case ra6 => (intro w hSw; (try dsimp only at hSw); (go_simp <;> with_reducible rfl))
              try simp only [Act.put, List.setIfInBounds_toArray, List.set_cons_zero, List.set_cons_succ]
              refine wpAnyH_take (i := 6) (oi := { dst := some 54, op := Go.Op.call { callee := Go.Callee.builtin Go.Builtin.min, args := #[Go.Operand.tmp 53, Go.Operand.const (Go.Value.int Go.IntKind.i64 50)], argTypes := #[3, 3] }, type := 3, pos := "top08.go:31", after := #[{ on := 5, ground := Go.Ground.data }], guard := none }) (v := ?va7) rfl (by kernel_rfl) (by kernel_rfl) (by kernel_rfl) (fun _ _ _ h => h) (Or.inl ⟨by rfl, ?ra7⟩) (by assumption) ?_
              case ra7 => (intro w hSw; (try dsimp only at hSw); (go_simp <;> with_reducible rfl))
              try simp only [Act.put, List.setIfInBounds_toArray, List.set_cons_zero, List.set_cons_succ]
              refine wpAnyH_take (i := 7) (oi := { dst := some 55, op := Go.Op.call { callee := Go.Callee.builtin Go.Builtin.max, args := #[Go.Operand.const (Go.Value.int Go.IntKind.i64 0), Go.Operand.tmp 54], argTypes := #[3, 3] }, type := 3, pos := "top08.go:31", after := #[{ on := 6, ground := Go.Ground.data }], guard := none }) (v := ?va8) rfl (by kernel_rfl) (by kernel_rfl) (by kernel_rfl) (fun _ _ _ h => h) (Or.inl ⟨by rfl, ?ra8⟩) (by assumption) ?_
              case ra8 => (intro w hSw; (try dsimp only at hSw); (go_simp <;> with_reducible rfl))
              try simp only [Act.put, List.setIfInBounds_toArray, List.set_cons_zero, List.set_cons_succ]
              refine wpAnyH_take (i := 8) (oi := { dst := some 56, op := Go.Op.fieldAddr 72 (Go.Operand.tmp 1) 3, type := 0, pos := "top08.go:31", after := #[], guard := none }) (v := ?va9) rfl (by kernel_rfl) (by kernel_rfl) (by kernel_rfl) (fun _ _ _ h => h) (Or.inl ⟨by rfl, ?ra9⟩) (by assumption) ?_
              case ra9 => (intro w hSw; (try dsimp only at hSw); (go_simp <;> with_reducible rfl))
              try simp only [Act.put, List.setIfInBounds_toArray, List.set_cons_zero, List.set_cons_succ]
              refine wpAnyH_take (i := 9) (oi := { dst := some 57, op := Go.Op.load 70 (Go.Operand.tmp 56), type := 70, pos := "top08.go:31", after := #[{ on := 8, ground := Go.Ground.data }], guard := none }) (v := ?va10) rfl (by kernel_rfl) (by kernel_rfl) (by kernel_rfl) (fun _ _ _ h => h) (Or.inl ⟨by rfl, ?ra10⟩) (by assumption) ?_
              case ra10 => (intro w hSw; (try dsimp only at hSw); (go_simp <;> with_reducible rfl))
              try simp only [Act.put, List.setIfInBounds_toArray, List.set_cons_zero, List.set_cons_succ]
              refine wpAnyH_take (i := 10) (oi := { dst := some 58, op := Go.Op.move (Go.Operand.tmp 8), type := 3, pos := "top08.go:31", after := #[], guard := none }) (v := ?va11) rfl (by kernel_rfl) (by kernel_rfl) (by kernel_rfl) (fun _ _ _ h => h) (Or.inl ⟨by rfl, ?ra11⟩) (by assumption) ?_
              case ra11 => (intro w hSw; (try dsimp only at hSw); (go_simp <;> with_reducible rfl))
              try simp only [Act.put, List.setIfInBounds_toArray, List.set_cons_zero, List.set_cons_succ]
              refine wpAnyH_take (i := 11) (oi := { dst := some 59, op := Go.Op.indexAddr 70 (Go.Operand.tmp 57) (Go.Operand.tmp 58), type := 0, pos := "top08.go:31", after := #[{ on := 9, ground := Go.Ground.data }, { on := 10, ground := Go.Ground.data }], guard := none }) (v := ?va12) rfl (by kernel_rfl) (by kernel_rfl) (by kernel_rfl) (fun _ _ _ h => h) (Or.inl ⟨by rfl, ?ra12⟩) (by assumption) ?_
              case ra12 => (intro w hSw; (try dsimp only at hSw); (go_simp <;> with_reducible rfl))
              try simp only [Act.put, List.setIfInBounds_toArray, List.set_cons_zero, List.set_cons_succ]
              refine wpAnyH_take (i := 12) (oi := { dst := some 60, op := Go.Op.indexAddr 78 (Go.Operand.tmp 59) (Go.Operand.const (Go.Value.int Go.IntKind.i64 1)), type := 0, pos := "top08.go:31", after := #[{ on := 11, ground := Go.Ground.data }], guard := none }) (v := ?va13) rfl (by kernel_rfl) (by kernel_rfl) (by kernel_rfl) (fun _ _ _ h => h) (Or.inl ⟨by rfl, ?ra13⟩) (by assumption) ?_
              case ra13 => (intro w hSw; (try dsimp only at hSw); (go_simp <;> with_reducible rfl))
              try simp only [Act.put, List.setIfInBounds_toArray, List.set_cons_zero, List.set_cons_succ]
              refine wpAnyH_take (i := 13) (oi := { dst := some 61, op := Go.Op.load 3 (Go.Operand.tmp 60), type := 3, pos := "top08.go:31", after := #[{ on := 12, ground := Go.Ground.data }], guard := none }) (v := ?va14) rfl (by kernel_rfl) (by kernel_rfl) (by kernel_rfl) (fun _ _ _ h => h) (Or.inl ⟨by rfl, ?ra14⟩) (by assumption) ?_
              case ra14 => (intro w hSw; (try dsimp only at hSw); (go_simp <;> with_reducible rfl))
              try simp only [Act.put, List.setIfInBounds_toArray, List.set_cons_zero, List.set_cons_succ]
              refine wpAnyH_take (i := 14) (oi := { dst := some 62, op := Go.Op.call { callee := Go.Callee.builtin Go.Builtin.min, args := #[Go.Operand.tmp 61, Go.Operand.const (Go.Value.int Go.IntKind.i64 50)], argTypes := #[3, 3] }, type := 3, pos := "top08.go:31", after := #[{ on := 13, ground := Go.Ground.data }], guard := none }) (v := ?va15) rfl (by kernel_rfl) (by kernel_rfl) (by kernel_rfl) (fun _ _ _ h => h) (Or.inl ⟨by rfl, ?ra15⟩) (by assumption) ?_
              case ra15 => (intro w hSw; (try dsimp only at hSw); (go_simp <;> with_reducible rfl))
              try simp only [Act.put, List.setIfInBounds_toArray, List.set_cons_zero, List.set_cons_succ]
              refine wpAnyH_take (i := 15) (oi := { dst := some 63, op := Go.Op.call { callee := Go.Callee.builtin Go.Builtin.max, args := #[Go.Operand.const (Go.Value.int Go.IntKind.i64 0), Go.Operand.tmp 62], argTypes := #[3, 3] }, type := 3, pos := "top08.go:31", after := #[{ on := 14, ground := Go.Ground.data }], guard := none }) (v := ?va16) rfl (by kernel_rfl) (by kernel_rfl) (by kernel_rfl) (fun _ _ _ h => h) (Or.inl ⟨by rfl, ?ra16⟩) (by assumption) ?_
              case ra16 => (intro w hSw; (try dsimp only at hSw); (go_simp <;> with_reducible rfl))
              try simp only [Act.put, List.setIfInBounds_toArray, List.set_cons_zero, List.set_cons_succ]
              refine wpAnyH_take (i := 16) (oi := { dst := some 9, op := Go.Op.assign (Go.Operand.tmp 55), type := 3, pos := "top08.go:31", after := #[{ on := 7, ground := Go.Ground.data }, { on := 0, ground := Go.Ground.phase }, { on := 1, ground := Go.Ground.phase }, { on := 2, ground := Go.Ground.phase }, { on := 3, ground := Go.Ground.phase }, { on := 4, ground := Go.Ground.phase }, { on := 5, ground := Go.Ground.phase }, { on := 6, ground := Go.Ground.phase }, { on := 7, ground := Go.Ground.phase }, { on := 8, ground := Go.Ground.textOnly Go.Departure.lateStores }, { on := 9, ground := Go.Ground.textOnly Go.Departure.lateStores }, { on := 10, ground := Go.Ground.textOnly Go.Departure.lateStores }, { on := 11, ground := Go.Ground.textOnly Go.Departure.lateStores }, { on := 12, ground := Go.Ground.textOnly Go.Departure.lateStores }, { on := 13, ground := Go.Ground.textOnly Go.Departure.lateStores }, { on := 14, ground := Go.Ground.textOnly Go.Departure.lateStoresUnsure }, { on := 15, ground := Go.Ground.textOnly Go.Departure.lateStoresUnsure }], guard := none }) (v := ?va17) rfl (by kernel_rfl) (by kernel_rfl) (by kernel_rfl) (fun _ _ _ h => h) (Or.inl ⟨by rfl, ?ra17⟩) (by assumption) ?_
              case ra17 => (intro w hSw; (try dsimp only at hSw); (go_simp <;> with_reducible rfl))
              try simp only [Act.put, List.setIfInBounds_toArray, List.set_cons_zero, List.set_cons_succ]
              refine wpAnyH_take (i := 17) (oi := { dst := some 10, op := Go.Op.assign (Go.Operand.tmp 63), type := 3, pos := "top08.go:31", after := #[{ on := 15, ground := Go.Ground.data }, { on := 16, ground := Go.Ground.chain }, { on := 0, ground := Go.Ground.phase }, { on := 1, ground := Go.Ground.phase }, { on := 2, ground := Go.Ground.phase }, { on := 3, ground := Go.Ground.phase }, { on := 4, ground := Go.Ground.phase }, { on := 5, ground := Go.Ground.phase }, { on := 6, ground := Go.Ground.phase }, { on := 7, ground := Go.Ground.phase }, { on := 8, ground := Go.Ground.phase }, { on := 9, ground := Go.Ground.phase }, { on := 10, ground := Go.Ground.phase }, { on := 11, ground := Go.Ground.phase }, { on := 12, ground := Go.Ground.phase }, { on := 13, ground := Go.Ground.phase }, { on := 14, ground := Go.Ground.phase }, { on := 15, ground := Go.Ground.phase }, { on := 16, ground := Go.Ground.phase }], guard := none }) (v := ?va18) rfl (by kernel_rfl) (by kernel_rfl) (by kernel_rfl) (fun _ _ _ h => h) (Or.inl ⟨by rfl, ?ra18⟩) (by assumption) ?_
              case ra18 => (intro w hSw; (try dsimp only at hSw); (go_simp <;> with_reducible rfl))
              try simp only [Act.put, List.setIfInBounds_toArray, List.set_cons_zero, List.set_cons_succ]
              refine wpAnyH_done (by kernel_rfl) ?_ _
              clear h0 r0 r1 x3 x4
              have p0 : 0 ≤ max 0 (min X 50) := by omega
              have p1 : max 0 (min X 50) ≤ 50 := by omega
              have q0 : 0 ≤ max 0 (min Y 50) := by omega
              have q1 : max 0 (min Y 50) ≤ 50 := by omega
              generalize max 0 (min X 50) = X1 at *
              generalize max 0 (min Y 50) = Y1 at *
              have HD := Lib.hid (HGS.out.gr (Gr.refl wr).drew)
              clear HGS
              generalize wr.drew = wd at *
              have t0 := HD.out.rt.cell (i := 0) rfl
              have t1 := HD.out.rt.cell (i := 1) rfl
              go_wp2_with fail
              refine (fits_any P Q X1 Y1 _).mono ?_
              rintro e9 w9 ⟨rfl, hg9⟩
              have HD9 := Lib.hid (HD.out.gr hg9)
              clear HD hg9 t0 t1
              by_cases hf : fits P Q X1 Y1 = true
              · have HF := Lib.hid hf
                rw [hf]
                clear hf
                go_wp2_with fail
                refine (clkGo_any 0 X1 _ HD9.out.ck).mono ?_
                rintro e9 w10 ⟨rfl, hc10⟩
                have HD10 := Lib.hid (HD9.out.clk hc10)
                clear HD9 hc10
                go_wp2_with fail
                refine (clkGo_any 1 Y1 _ HD10.out.ck).mono ?_
                rintro e9 w11 ⟨rfl, hc11⟩
                have HD11 := Lib.hid (HD10.out.clk hc11)
                clear HD10 hc11
                go_wp2_with fail
                refine (clkStep_any _ HD11.out.ck).mono ?_
                rintro e9 w12 ⟨rfl, hc12⟩
                have HD12 := Lib.hid (HD11.out.clk hc12)
                clear HD11 hc12
                go_wp2
                go_meet
                have hst := tinv_step HTI.out HGD.out (by omega) p0 p1 q0 q1 HF.out
                refine ⟨_, HD12.out, hst.1, ?_⟩
                rw [hst.2.1, hst.2.2]
                exact gi_time HGI.out q0 ((fits_iff HGD.out p0 (by omega) q0 (by omega)).1 HF.out).1
              · have hf := Bool.eq_false_iff.2 hf
                rw [hf]
                go_wp2
                go_meet
                exact ⟨c, HD9.out, HTI.out.up, HGI.out⟩
          · have hst5 : ¬ (k : Int) < (S.length : Int) := by omega
            go_wp2
            go_meet
            exact ⟨c, HGS.out, HTI.out.up, HGI.out⟩
        case rest =>
          obtain ⟨c1, hgs, hti, hgi⟩ := hcut.out
          have HGS1 := Lib.hid hgs
          have HTI1 := Lib.hid hti
          have HGI1 := Lib.hid hgi
          clear hgs hti hgi hcut HGS HTI HGI
          generalize wc = wA at *
          obtain ⟨rb, off, rfl, hrl, hat, hok⟩ := HRW.out.at k hlt
          obtain ⟨⟨K, FR, SL, TI, NW, LG, C, N, TX⟩, hq, hqk, hfew⟩ := few16_det _ hok
          clear hqk
          simp only [Act16.vals] at hfew
          have HQ := Lib.hid hq
          have HFW := Lib.hid hfew
          obtain ⟨c0, c1', c2, c3, c4, c5, c6, c7, c8⟩ := hat.gr (HW2.out.trans HGS1.out.ac.grown)
          have x4 := HGS1.out.bx.cell (i := 4) rfl
          clear hq hfew hat hok
          go_wp2_with fail
          refine (HFW.out _).mono ?_
          rintro e3 w3 ⟨rfl, hg3⟩
          have HG4 := Lib.hid (hg3.trans ((Gr.refl w3).alloc (.cells #[.int .i64 K, .int .i64 FR, .int .i64 SL, .int .i64 TI, .int .i64 NW, .int .i64 LG, .int .u64 C, .int .i64 N, .string TX] 41)))
          have HGS2 := Lib.hid (HGS1.out.gr HG4.out)
          have HX11 := Lib.hid (Blk.new w3 #[.int .i64 K, .int .i64 FR, .int .i64 SL, .int .i64 TI, .int .i64 NW, .int .i64 LG, .int .u64 C, .int .i64 N, .string TX] 41)
          have HZ11 := Lib.hid (show w3.heap.size < (w3.alloc (.cells #[.int .i64 K, .int .i64 FR, .int .i64 SL, .int .i64 TI, .int .i64 NW, .int .i64 LG, .int .u64 C, .int .i64 N, .string TX] 41)).heap.size by simp)
          clear hg3 HGS1 HG4 c0 c1' c2 c3 c4 c5 c6 c7 c8 x4 x3
          go_upto_region 18 with fail
          generalize w3.alloc (.cells #[.int .i64 K, .int .i64 FR, .int .i64 SL, .int .i64 TI, .int .i64 NW, .int .i64 LG, .int .u64 C, .int .i64 N, .string TX] 41) = w4 at *
          generalize w3.heap.size = p11 at *
          have e1 := HX11.out.cell (i := 1) rfl
          have e2 := HX11.out.cell (i := 2) rfl
          have e6 := HX11.out.cell (i := 6) rfl
          have e7 := HX11.out.cell (i := 7) rfl
          have e8 := HX11.out.cell (i := 8) rfl
          have HB4 := Lib.hid (show pb < w4.heap.size from HGS2.out.ac.lt)
          have HB5 := Lib.hid (show cb < w4.heap.size from HGS2.out.ck.lt)
          have hnow := (tinv_now HTI1.out)
          have HN0 := Lib.hid hnow.1
          have HN1 := Lib.hid hnow.2
          clear hnow
          go_cut [12] from 32 to 162 (fun u wx => ∃ p12 : Nat, u = .pointer (some ⟨p12, 0, none⟩) ∧ Hid (GS w2 wx pbx prt pb cb #[.int .i64 P0, .int .i64 Q0, .int .i64 T0, .slice sa S.length sc, .slice (some ⟨rb, off, none⟩) L.length rc] #[.int .i64 P, .int .i64 Q] v a c1) ∧ Hid (Blk wx p11 #[.int .i64 K, .int .i64 FR, .int .i64 SL, .int .i64 TI, .int .i64 NW, .int .i64 LG, .int .u64 C, .int .i64 N, .string TX] 41) ∧ Hid (Blk wx p12 #[.int .i64 0, .int .i64 FR, .int .i64 0, .int .i64 0, .int .u64 C, .int .i64 N, .int .i64 SL, .int .i64 (c1.now 1), .bool false, .string TX, .slice none 0 0] 30) ∧ Hid (w4.heap.size ≤ p12))
          case first =>
            generalize hT1 : c1.now 1 = T1 at *
            have HT1 := Lib.hid hT1
            clear hT1
            refine wp_region_held_drew (S := (fun w9 => Gr w4 w9 ∧ w9.cell? ⟨p11, 1, none⟩ = some (.int .i64 FR) ∧ w9.cell? ⟨p11, 2, none⟩ = some (.int .i64 SL) ∧ w9.cell? ⟨p11, 6, none⟩ = some (.int .u64 C) ∧ w9.cell? ⟨p11, 7, none⟩ = some (.int .i64 N) ∧ w9.cell? ⟨p11, 8, none⟩ = some (.string TX))) (by kernel_rfl) ?invb (fun h0 => ?_)
            case invb => ((try dsimp only); (exact ⟨(by first | exact Gr.refl _ | exact (Gr.refl _).drew), e1, e2, e6, e7, e8⟩))
            refine wpAnyH_take (i := 0) (oi := { dst := some 82, op := Go.Op.fieldAddr 41 (Go.Operand.tmp 11) 1, type := 0, pos := "top08.go:39", after := #[], guard := none }) (v := ?vb1) rfl (by kernel_rfl) (by kernel_rfl) (by kernel_rfl) (fun _ _ _ h => h) (Or.inl ⟨by rfl, ?rb1⟩) (by assumption) ?_
            case rb1 => (intro w hSw; (try dsimp only at hSw); (go_simp <;> with_reducible rfl))
            try simp only [Act.put, List.setIfInBounds_toArray, List.set_cons_zero, List.set_cons_succ]
            refine wpAnyH_take (i := 1) (oi := { dst := some 83, op := Go.Op.load 3 (Go.Operand.tmp 82), type := 3, pos := "top08.go:39", after := #[{ on := 0, ground := Go.Ground.data }], guard := none }) (v := ?vb2) rfl (by kernel_rfl) (by kernel_rfl) (by kernel_rfl) (fun _ _ _ h => h) (Or.inl ⟨by rfl, ?rb2⟩) (by assumption) ?_
            case rb2 => (intro w hSw; (try dsimp only at hSw); (go_simp <;> with_reducible rfl))
            try simp only [Act.put, List.setIfInBounds_toArray, List.set_cons_zero, List.set_cons_succ]
            refine wpAnyH_take (i := 2) (oi := { dst := some 84, op := Go.Op.fieldAddr 41 (Go.Operand.tmp 11) 6, type := 0, pos := "top08.go:39", after := #[], guard := none }) (v := ?vb3) rfl (by kernel_rfl) (by kernel_rfl) (by kernel_rfl) (fun _ _ _ h => h) (Or.inl ⟨by rfl, ?rb3⟩) (by assumption) ?_
            case rb3 => (intro w hSw; (try dsimp only at hSw); (go_simp <;> with_reducible rfl))
            try simp only [Act.put, List.setIfInBounds_toArray, List.set_cons_zero, List.set_cons_succ]
            refine wpAnyH_take (i := 3) (oi := { dst := some 85, op := Go.Op.load 39 (Go.Operand.tmp 84), type := 39, pos := "top08.go:39", after := #[{ on := 2, ground := Go.Ground.data }], guard := none }) (v := ?vb4) rfl (by kernel_rfl) (by kernel_rfl) (by kernel_rfl) (fun _ _ _ h => h) (Or.inl ⟨by rfl, ?rb4⟩) (by assumption) ?_
            case rb4 => (intro w hSw; (try dsimp only at hSw); (go_simp <;> with_reducible rfl))
            try simp only [Act.put, List.setIfInBounds_toArray, List.set_cons_zero, List.set_cons_succ]
            refine wpAnyH_take (i := 4) (oi := { dst := some 86, op := Go.Op.fieldAddr 41 (Go.Operand.tmp 11) 2, type := 0, pos := "top08.go:39", after := #[], guard := none }) (v := ?vb5) rfl (by kernel_rfl) (by kernel_rfl) (by kernel_rfl) (fun _ _ _ h => h) (Or.inl ⟨by rfl, ?rb5⟩) (by assumption) ?_
            case rb5 => (intro w hSw; (try dsimp only at hSw); (go_simp <;> with_reducible rfl))
            try simp only [Act.put, List.setIfInBounds_toArray, List.set_cons_zero, List.set_cons_succ]
            refine wpAnyH_take (i := 5) (oi := { dst := some 87, op := Go.Op.load 3 (Go.Operand.tmp 86), type := 3, pos := "top08.go:39", after := #[{ on := 4, ground := Go.Ground.data }], guard := none }) (v := ?vb6) rfl (by kernel_rfl) (by kernel_rfl) (by kernel_rfl) (fun _ _ _ h => h) (Or.inl ⟨by rfl, ?rb6⟩) (by assumption) ?_
            case rb6 => (intro w hSw; (try dsimp only at hSw); (go_simp <;> with_reducible rfl))
            try simp only [Act.put, List.setIfInBounds_toArray, List.set_cons_zero, List.set_cons_succ]
            refine wpAnyH_take (i := 6) (oi := { dst := some 88, op := Go.Op.fieldAddr 41 (Go.Operand.tmp 11) 7, type := 0, pos := "top08.go:39", after := #[], guard := none }) (v := ?vb7) rfl (by kernel_rfl) (by kernel_rfl) (by kernel_rfl) (fun _ _ _ h => h) (Or.inl ⟨by rfl, ?rb7⟩) (by assumption) ?_
            case rb7 => (intro w hSw; (try dsimp only at hSw); (go_simp <;> with_reducible rfl))
            try simp only [Act.put, List.setIfInBounds_toArray, List.set_cons_zero, List.set_cons_succ]
            refine wpAnyH_take (i := 7) (oi := { dst := some 89, op := Go.Op.load 9 (Go.Operand.tmp 88), type := 9, pos := "top08.go:39", after := #[{ on := 6, ground := Go.Ground.data }], guard := none }) (v := ?vb8) rfl (by kernel_rfl) (by kernel_rfl) (by kernel_rfl) (fun _ _ _ h => h) (Or.inl ⟨by rfl, ?rb8⟩) (by assumption) ?_
            case rb8 => (intro w hSw; (try dsimp only at hSw); (go_simp <;> with_reducible rfl))
            try simp only [Act.put, List.setIfInBounds_toArray, List.set_cons_zero, List.set_cons_succ]
            refine wpAnyH_take (i := 8) (oi := { dst := some 90, op := Go.Op.move (Go.Operand.tmp 6), type := 76, pos := "top08.go:39", after := #[], guard := none }) (v := ?vb9) rfl (by kernel_rfl) (by kernel_rfl) (by kernel_rfl) (fun _ _ _ h => h) (Or.inl ⟨by rfl, ?rb9⟩) (by assumption) ?_
            case rb9 => (intro w hSw; (try dsimp only at hSw); (go_simp <;> with_reducible rfl))
            try simp only [Act.put, List.setIfInBounds_toArray, List.set_cons_zero, List.set_cons_succ]
            refine wpAnyH_ready (rs := [9, 11]) (by kernel_rfl) (by simp) ?_
            refine AllReadyH.cons (o := { dst := some 91, op := Go.Op.call { callee := Go.Callee.value (Go.Operand.func 42), args := #[Go.Operand.tmp 90, Go.Operand.const (Go.Value.int Go.IntKind.i64 1)], argTypes := #[76, 3] }, type := 3, pos := "top08.go:39", after := #[{ on := 8, ground := Go.Ground.data }], guard := none }) rfl (fun K hK => ?_) (AllReadyH.cons (o := { dst := some 12, op := Go.Op.alloc 30, type := 0, pos := "top08.go:39", after := #[], guard := none }) rfl (fun K hK => ?_) AllReadyH.nil)
            · skip
              go_simp
              go_at_call 42
              refine (clkNow_any 1 _ (HGS2.out.gr h0.1).ck).mono ?_
              rw [HN1.out]
              rintro e9 w9 ⟨rfl, rfl⟩
              first | refine hK.out _ _ ?sb10 (fun h10 => ?_) | (go_wp2_with fail; refine hK.out _ _ ?sb10 (fun h10 => ?_))
              case sb10 => ((try dsimp only); (exact h0))
              clear hK K h0
              try simp only [Act.put, List.setIfInBounds_toArray, List.set_cons_zero, List.set_cons_succ]
              refine wpAnyH_take (i := 10) (oi := { dst := some 92, op := Go.Op.build 30 #[(1, Go.Operand.tmp 83), (4, Go.Operand.tmp 85), (5, Go.Operand.tmp 87), (8, Go.Operand.tmp 89), (6, Go.Operand.tmp 91)], type := 30, pos := "top08.go:39", after := #[{ on := 1, ground := Go.Ground.data }, { on := 3, ground := Go.Ground.data }, { on := 5, ground := Go.Ground.data }, { on := 7, ground := Go.Ground.data }, { on := 9, ground := Go.Ground.data }], guard := none }) (v := ?vb11) rfl (by kernel_rfl) (by kernel_rfl) (by kernel_rfl) (fun _ _ _ h => h) (Or.inl ⟨by rfl, ?rb11⟩) (by assumption) ?_
              case rb11 => (intro w hSw; (try dsimp only at hSw); (go_simp <;> with_reducible rfl))
              try simp only [Act.put, List.setIfInBounds_toArray, List.set_cons_zero, List.set_cons_succ]
              refine wpAnyH_ready (rs := [11]) (by kernel_rfl) (by simp) ?_
              refine AllReadyH.cons (o := { dst := some 12, op := Go.Op.alloc 30, type := 0, pos := "top08.go:39", after := #[], guard := none }) rfl (fun K hK => ?_) AllReadyH.nil
              go_simp
              skip
              first | refine hK.out _ _ ?sb12 (fun h12 => ?_) | (go_wp2_with fail; refine hK.out _ _ ?sb12 (fun h12 => ?_))
              case sb12 => ((try dsimp only); (exact ⟨h10.1.alloc _, ((Gr.refl _).alloc _).cell h10.2.1, ((Gr.refl _).alloc _).cell h10.2.2.1, ((Gr.refl _).alloc _).cell h10.2.2.2.1, ((Gr.refl _).alloc _).cell h10.2.2.2.2.1, ((Gr.refl _).alloc _).cell h10.2.2.2.2.2⟩))
              clear hK K h10
              try simp only [Act.put, List.setIfInBounds_toArray, List.set_cons_zero, List.set_cons_succ]
              refine wpAnyH_ready (rs := [12]) (by kernel_rfl) (by simp) ?_
              refine AllReadyH.cons (o := { dst := none, op := Go.Op.store 30 (Go.Operand.tmp 12) (Go.Operand.tmp 92), type := 0, pos := "top08.go:39", after := #[{ on := 11, ground := Go.Ground.data }, { on := 10, ground := Go.Ground.data }, { on := 9, ground := Go.Ground.chain }, { on := 0, ground := Go.Ground.phase }, { on := 1, ground := Go.Ground.phase }, { on := 2, ground := Go.Ground.phase }, { on := 3, ground := Go.Ground.phase }, { on := 4, ground := Go.Ground.phase }, { on := 5, ground := Go.Ground.phase }, { on := 6, ground := Go.Ground.phase }, { on := 7, ground := Go.Ground.phase }, { on := 8, ground := Go.Ground.phase }, { on := 9, ground := Go.Ground.phase }, { on := 10, ground := Go.Ground.phase }, { on := 11, ground := Go.Ground.phase }], guard := none }) rfl (fun K hK => ?_) AllReadyH.nil
              go_simp
              skip
              first | refine hK.out _ _ ?sb13 (fun h13 => ?_) | (go_wp2_with fail; refine hK.out _ _ ?sb13 (fun h13 => ?_))
              case sb13 => ((try dsimp only); (exact ⟨(((Gr.refl w4).alloc (.cells #[.int .i64 0, .int .i64 FR, .int .i64 0, .int .i64 0, .int .u64 C, .int .i64 N, .int .i64 SL, .int .i64 T1, .bool false, .string TX, .slice none 0 0] 30)).drew), (((Gr.refl w4).alloc (.cells #[.int .i64 0, .int .i64 FR, .int .i64 0, .int .i64 0, .int .u64 C, .int .i64 N, .int .i64 SL, .int .i64 T1, .bool false, .string TX, .slice none 0 0] 30)).drew).cell e1, (((Gr.refl w4).alloc (.cells #[.int .i64 0, .int .i64 FR, .int .i64 0, .int .i64 0, .int .u64 C, .int .i64 N, .int .i64 SL, .int .i64 T1, .bool false, .string TX, .slice none 0 0] 30)).drew).cell e2, (((Gr.refl w4).alloc (.cells #[.int .i64 0, .int .i64 FR, .int .i64 0, .int .i64 0, .int .u64 C, .int .i64 N, .int .i64 SL, .int .i64 T1, .bool false, .string TX, .slice none 0 0] 30)).drew).cell e6, (((Gr.refl w4).alloc (.cells #[.int .i64 0, .int .i64 FR, .int .i64 0, .int .i64 0, .int .u64 C, .int .i64 N, .int .i64 SL, .int .i64 T1, .bool false, .string TX, .slice none 0 0] 30)).drew).cell e7, (((Gr.refl w4).alloc (.cells #[.int .i64 0, .int .i64 FR, .int .i64 0, .int .i64 0, .int .u64 C, .int .i64 N, .int .i64 SL, .int .i64 T1, .bool false, .string TX, .slice none 0 0] 30)).drew).cell e8⟩))
              clear hK K h12
              try simp only [Act.put, List.setIfInBounds_toArray, List.set_cons_zero, List.set_cons_succ]
              refine wpAnyH_done (by kernel_rfl) ?_ _
              clear h13
              go_wp2
              go_meet
              exact ⟨w4.heap.size, rfl, Lib.hid (HGS2.out.gr ((Gr.refl w4).alloc _).drew), Lib.hid (HX11.out.gr ((Gr.refl w4).alloc _).drew), Lib.hid ((Blk.new w4 #[.int .i64 0, .int .i64 FR, .int .i64 0, .int .i64 0, .int .u64 C, .int .i64 N, .int .i64 SL, .int .i64 T1, .bool false, .string TX, .slice none 0 0] 30).gr (Gr.refl _).drew), Lib.hid (Nat.le_refl _)⟩
            · skip
              go_simp
              skip
              first | refine hK.out _ _ ?sb14 (fun h14 => ?_) | (go_wp2_with fail; refine hK.out _ _ ?sb14 (fun h14 => ?_))
              case sb14 => ((try dsimp only); (exact ⟨h0.1.alloc _, ((Gr.refl _).alloc _).cell h0.2.1, ((Gr.refl _).alloc _).cell h0.2.2.1, ((Gr.refl _).alloc _).cell h0.2.2.2.1, ((Gr.refl _).alloc _).cell h0.2.2.2.2.1, ((Gr.refl _).alloc _).cell h0.2.2.2.2.2⟩))
              clear hK K h0
              try simp only [Act.put, List.setIfInBounds_toArray, List.set_cons_zero, List.set_cons_succ]
              refine wpAnyH_ready (rs := [9]) (by kernel_rfl) (by simp) ?_
              refine AllReadyH.cons (o := { dst := some 91, op := Go.Op.call { callee := Go.Callee.value (Go.Operand.func 42), args := #[Go.Operand.tmp 90, Go.Operand.const (Go.Value.int Go.IntKind.i64 1)], argTypes := #[76, 3] }, type := 3, pos := "top08.go:39", after := #[{ on := 8, ground := Go.Ground.data }], guard := none }) rfl (fun K hK => ?_) AllReadyH.nil
              go_simp
              go_at_call 42
              refine (clkNow_any 1 _ (HGS2.out.gr h14.1).ck).mono ?_
              rw [HN1.out]
              rintro e9 w9 ⟨rfl, rfl⟩
              first | refine hK.out _ _ ?sb15 (fun h15 => ?_) | (go_wp2_with fail; refine hK.out _ _ ?sb15 (fun h15 => ?_))
              case sb15 => ((try dsimp only); (exact h14))
              clear hK K h14
              try simp only [Act.put, List.setIfInBounds_toArray, List.set_cons_zero, List.set_cons_succ]
              refine wpAnyH_take (i := 10) (oi := { dst := some 92, op := Go.Op.build 30 #[(1, Go.Operand.tmp 83), (4, Go.Operand.tmp 85), (5, Go.Operand.tmp 87), (8, Go.Operand.tmp 89), (6, Go.Operand.tmp 91)], type := 30, pos := "top08.go:39", after := #[{ on := 1, ground := Go.Ground.data }, { on := 3, ground := Go.Ground.data }, { on := 5, ground := Go.Ground.data }, { on := 7, ground := Go.Ground.data }, { on := 9, ground := Go.Ground.data }], guard := none }) (v := ?vb16) rfl (by kernel_rfl) (by kernel_rfl) (by kernel_rfl) (fun _ _ _ h => h) (Or.inl ⟨by rfl, ?rb16⟩) (by assumption) ?_
              case rb16 => (intro w hSw; (try dsimp only at hSw); (go_simp <;> with_reducible rfl))
              try simp only [Act.put, List.setIfInBounds_toArray, List.set_cons_zero, List.set_cons_succ]
              refine wpAnyH_ready (rs := [12]) (by kernel_rfl) (by simp) ?_
              refine AllReadyH.cons (o := { dst := none, op := Go.Op.store 30 (Go.Operand.tmp 12) (Go.Operand.tmp 92), type := 0, pos := "top08.go:39", after := #[{ on := 11, ground := Go.Ground.data }, { on := 10, ground := Go.Ground.data }, { on := 9, ground := Go.Ground.chain }, { on := 0, ground := Go.Ground.phase }, { on := 1, ground := Go.Ground.phase }, { on := 2, ground := Go.Ground.phase }, { on := 3, ground := Go.Ground.phase }, { on := 4, ground := Go.Ground.phase }, { on := 5, ground := Go.Ground.phase }, { on := 6, ground := Go.Ground.phase }, { on := 7, ground := Go.Ground.phase }, { on := 8, ground := Go.Ground.phase }, { on := 9, ground := Go.Ground.phase }, { on := 10, ground := Go.Ground.phase }, { on := 11, ground := Go.Ground.phase }], guard := none }) rfl (fun K hK => ?_) AllReadyH.nil
              go_simp
              skip
              first | refine hK.out _ _ ?sb17 (fun h17 => ?_) | (go_wp2_with fail; refine hK.out _ _ ?sb17 (fun h17 => ?_))
              case sb17 => ((try dsimp only); (exact ⟨(((Gr.refl w4).alloc (.cells #[.int .i64 0, .int .i64 FR, .int .i64 0, .int .i64 0, .int .u64 C, .int .i64 N, .int .i64 SL, .int .i64 T1, .bool false, .string TX, .slice none 0 0] 30)).drew), (((Gr.refl w4).alloc (.cells #[.int .i64 0, .int .i64 FR, .int .i64 0, .int .i64 0, .int .u64 C, .int .i64 N, .int .i64 SL, .int .i64 T1, .bool false, .string TX, .slice none 0 0] 30)).drew).cell e1, (((Gr.refl w4).alloc (.cells #[.int .i64 0, .int .i64 FR, .int .i64 0, .int .i64 0, .int .u64 C, .int .i64 N, .int .i64 SL, .int .i64 T1, .bool false, .string TX, .slice none 0 0] 30)).drew).cell e2, (((Gr.refl w4).alloc (.cells #[.int .i64 0, .int .i64 FR, .int .i64 0, .int .i64 0, .int .u64 C, .int .i64 N, .int .i64 SL, .int .i64 T1, .bool false, .string TX, .slice none 0 0] 30)).drew).cell e6, (((Gr.refl w4).alloc (.cells #[.int .i64 0, .int .i64 FR, .int .i64 0, .int .i64 0, .int .u64 C, .int .i64 N, .int .i64 SL, .int .i64 T1, .bool false, .string TX, .slice none 0 0] 30)).drew).cell e7, (((Gr.refl w4).alloc (.cells #[.int .i64 0, .int .i64 FR, .int .i64 0, .int .i64 0, .int .u64 C, .int .i64 N, .int .i64 SL, .int .i64 T1, .bool false, .string TX, .slice none 0 0] 30)).drew).cell e8⟩))
              clear hK K h15
              try simp only [Act.put, List.setIfInBounds_toArray, List.set_cons_zero, List.set_cons_succ]
              refine wpAnyH_done (by kernel_rfl) ?_ _
              clear h17
              go_wp2
              go_meet
              exact ⟨w4.heap.size, rfl, Lib.hid (HGS2.out.gr ((Gr.refl w4).alloc _).drew), Lib.hid (HX11.out.gr ((Gr.refl w4).alloc _).drew), Lib.hid ((Blk.new w4 #[.int .i64 0, .int .i64 FR, .int .i64 0, .int .i64 0, .int .u64 C, .int .i64 N, .int .i64 SL, .int .i64 T1, .bool false, .string TX, .slice none 0 0] 30).gr (Gr.refl _).drew), Lib.hid (Nat.le_refl _)⟩
          case rest =>
            obtain ⟨p12, rfl, HGS3, HX11b, HX12, HLE⟩ := hcut
            clear HGS2 HX11 e1 e2 e6 e7 e8
            generalize wc = wB at *
            have HG5 := Lib.hid ((Gr.refl wB).alloc (.cells #[.int .i64 0, .int .i64 0, .int .i64 0, .int .i64 0, .int .u64 0, .int .i64 0, .int .i64 0, .int .i64 0, .bool false, .string ⟨#[]⟩, .slice none 0 0] 30))
            have HGS4 := Lib.hid (HGS3.out.gr HG5.out)
            have HX12b := Lib.hid (HX12.out.gr HG5.out)
            have HX13 := Lib.hid (Blk.new wB #[.int .i64 0, .int .i64 0, .int .i64 0, .int .i64 0, .int .u64 0, .int .i64 0, .int .i64 0, .int .i64 0, .bool false, .string ⟨#[]⟩, .slice none 0 0] 30)
            have f0 := (HX11b.out.gr HG5.out).cell (i := 0) rfl
            have HQ1 := Lib.hid (show wB.heap.size ≠ p12 by have := HX12.out.lt; omega)
            have HQ2 := Lib.hid (show wB.heap.size ≠ pb by have := HGS3.out.ac.lt; omega)
            have HQ3 := Lib.hid (show wB.heap.size ≠ cb by have := HGS3.out.ck.lt; omega)
            have HQ4 := Lib.hid (show wB.heap.size ≠ pbx by have := HGS3.out.bx.lt; omega)
            have HQ5 := Lib.hid (show wB.heap.size ≠ prt by have := HGS3.out.rt.lt; omega)
            have HQ6 := Lib.hid (show w2.heap.size ≤ wB.heap.size from HGS3.out.ac.grown.size)
            have HQ7 := Lib.hid (show p12 ≠ pb by have := HLE.out; have := HB4.out; omega)
            clear HGS3 HX11b HX12 HG5
            go_upto_block 2 with fail
            generalize wB.alloc (.cells #[.int .i64 0, .int .i64 0, .int .i64 0, .int .i64 0, .int .u64 0, .int .i64 0, .int .i64 0, .int .i64 0, .bool false, .string ⟨#[]⟩, .slice none 0 0] 30) = wD at *
            generalize wB.heap.size = p13 at *
            have HQ8 := Lib.hid (show p12 ≠ cb by have := HLE.out; have := HB5.out; omega)
            clear f0
            go_cut [] from 32 to 162 (fun wx => Hid (Told w2 pbx prt pb cb p12 p13 #[.int .i64 P0, .int .i64 Q0, .int .i64 T0, .slice sa S.length sc, .slice (some ⟨rb, off, none⟩) L.length rc] #[.int .i64 P, .int .i64 Q] a c1 FR SL (c1.now 0) (longer P Q (1 + tm)) C N (c1.now 1) TX wx))
            case first =>
              have HF0 := Lib.hid (show 0 ≤ FR ∧ FR ≤ 1000000 from ⟨HQ.out.fr.1, by have h : FR ≤ 11 := HQ.out.fr.2; omega⟩)
              have HW0 := Lib.hid (show 0 ≤ c1.now 0 ∧ c1.now 0 ≤ 4000000000000 from ⟨(HTI1.out.ok.now 0).1, by have := (HTI1.out.ok.now 0).2; omega⟩)
              have HTX := Lib.hid (show TX.size ≤ 1000000 by have h : TX.size ≤ 30 := HQ.out.tx; omega)
              generalize hT1 : c1.now 1 = T1 at *
              generalize hT0 : c1.now 0 = TT at *
              generalize hLG : longer P Q (1 + tm) = LGG at *
              have HLGG := Lib.hid hLG
              clear hT1 hT0 hLG
              have m0 := HX12b.out.cell (i := 0) rfl
              have m1 := HX12b.out.cell (i := 1) rfl
              have m2 := HX12b.out.cell (i := 2) rfl
              have m3 := HX12b.out.cell (i := 3) rfl
              have m4 := HX12b.out.cell (i := 4) rfl
              have m5 := HX12b.out.cell (i := 5) rfl
              have m6 := HX12b.out.cell (i := 6) rfl
              have m7 := HX12b.out.cell (i := 7) rfl
              have m8 := HX12b.out.cell (i := 8) rfl
              have m9 := HX12b.out.cell (i := 9) rfl
              have m10 := HX12b.out.cell (i := 10) rfl
              by_cases k0 : K = 0
              · subst k0
                go_wp2_with fail
                refine wp_region_held_drew (S := (fun w9 => w9.cell? ⟨p12, 0, none⟩ = some (.int .i64 0) ∧ w9.cell? ⟨p12, 1, none⟩ = some (.int .i64 FR) ∧ w9.cell? ⟨p12, 2, none⟩ = some (.int .i64 0) ∧ w9.cell? ⟨p12, 3, none⟩ = some (.int .i64 0) ∧ w9.cell? ⟨p12, 4, none⟩ = some (.int .u64 C) ∧ w9.cell? ⟨p12, 5, none⟩ = some (.int .i64 N) ∧ w9.cell? ⟨p12, 6, none⟩ = some (.int .i64 SL) ∧ w9.cell? ⟨p12, 7, none⟩ = some (.int .i64 T1) ∧ w9.cell? ⟨p12, 8, none⟩ = some (.bool false) ∧ w9.cell? ⟨p12, 9, none⟩ = some (.string TX) ∧ w9.cell? ⟨p12, 10, none⟩ = some (.slice none 0 0))) (by kernel_rfl) ?invc (fun h0 => ?_)
                case invc => ((try dsimp only); (exact ⟨m0, m1, m2, m3, m4, m5, m6, m7, m8, m9, m10⟩))
                refine wpAnyH_take (i := 0) (oi := { dst := some 98, op := Go.Op.move (Go.Operand.tmp 5), type := 23, pos := "top08.go:43", after := #[], guard := none }) (v := ?vc1) rfl (by kernel_rfl) (by kernel_rfl) (by kernel_rfl) (fun _ _ _ h => h) (Or.inl ⟨by rfl, ?rc1⟩) (by assumption) ?_
                case rc1 => (intro w hSw; (try dsimp only at hSw); (go_simp <;> with_reducible rfl))
                try simp only [Act.put, List.setIfInBounds_toArray, List.set_cons_zero, List.set_cons_succ]
                refine wpAnyH_take (i := 1) (oi := { dst := some 99, op := Go.Op.load 30 (Go.Operand.tmp 12), type := 30, pos := "top08.go:43", after := #[], guard := none }) (v := ?vc2) rfl (by kernel_rfl) (by kernel_rfl) (by kernel_rfl) (fun _ _ _ h => h) (Or.inl ⟨by rfl, ?rc2⟩) (by assumption) ?_
                case rc2 => (intro w hSw; (try dsimp only at hSw); (go_simp <;> with_reducible rfl))
                try simp only [Act.put, List.setIfInBounds_toArray, List.set_cons_zero, List.set_cons_succ]
                refine wpAnyH_take (i := 2) (oi := { dst := some 100, op := Go.Op.move (Go.Operand.tmp 6), type := 76, pos := "top08.go:43", after := #[], guard := none }) (v := ?vc3) rfl (by kernel_rfl) (by kernel_rfl) (by kernel_rfl) (fun _ _ _ h => h) (Or.inl ⟨by rfl, ?rc3⟩) (by assumption) ?_
                case rc3 => (intro w hSw; (try dsimp only at hSw); (go_simp <;> with_reducible rfl))
                try simp only [Act.put, List.setIfInBounds_toArray, List.set_cons_zero, List.set_cons_succ]
                refine wpAnyH_ready (rs := [3]) (by kernel_rfl) (by simp) ?_
                refine AllReadyH.cons (o := { dst := some 101, op := Go.Op.call { callee := Go.Callee.value (Go.Operand.func 42), args := #[Go.Operand.tmp 100, Go.Operand.const (Go.Value.int Go.IntKind.i64 0)], argTypes := #[76, 3] }, type := 3, pos := "top08.go:43", after := #[{ on := 2, ground := Go.Ground.data }], guard := none }) rfl (fun K hK => ?_) AllReadyH.nil
                go_simp
                go_at_call 42
                refine (clkNow_any 0 _ (HGS4.out.gr (by first | exact (Gr.refl wD).drew | exact (Gr.refl wD).drew.trans hgL)).ck).mono ?_
                rw [HN0.out]
                rintro e9 wN ⟨rfl, rfl⟩
                first | refine hK.out _ _ ?sc4 (fun h4 => ?_) | (go_wp2_with fail; refine hK.out _ _ ?sc4 (fun h4 => ?_))
                case sc4 => ((try dsimp only); (exact h0))
                clear hK K h0
                try simp only [Act.put, List.setIfInBounds_toArray, List.set_cons_zero, List.set_cons_succ]
                refine wpAnyH_ready (rs := [4]) (by kernel_rfl) (by simp) ?_
                refine AllReadyH.cons (o := { dst := some 102, op := Go.Op.call { callee := Go.Callee.value (Go.Operand.func 21), args := #[Go.Operand.tmp 98, Go.Operand.tmp 99, Go.Operand.tmp 101], argTypes := #[23, 30, 3] }, type := 31, pos := "top08.go:43", after := #[{ on := 0, ground := Go.Ground.data }, { on := 1, ground := Go.Ground.data }, { on := 3, ground := Go.Ground.data }, { on := 3, ground := Go.Ground.chain }], guard := none }) rfl (fun K hK => ?_) AllReadyH.nil
                go_simp
                have HKO := Lib.hid (keep_prepare a FR C N TT)
                have HGO := Lib.hid (grant_prepare a FR C N TT LGG)
                have HOK2 := Lib.hid (HOK.out.prepare FR C N TT)
                have HGSX := Lib.hid (HGS4.out.gr (Gr.refl wD).drew)
                have HX12X := Lib.hid (HX12b.out.gr (Gr.refl wD).drew)
                have HX13X := Lib.hid (HX13.out.gr (Gr.refl wD).drew)
                have HCC := Lib.hid (prepare_st 0 FR 0 0 C N SL T1 false TX none 0 0 TT HGSX.out.ac HOK.out HF0.out HW0.out)
                obtain ⟨⟨rk, rc9, rn, rs, rt, rch⟩, hR⟩ : ∃ R, R = a.prepareR FR C N TT := ⟨_, rfl⟩
                rw [← hR] at HKO HGO HCC
                simp only [Rep.msg] at HCC HKO HGO
                clear hR
                go_at_call 21
                refine HCC.out.mono ?_
                rintro e9 w9 ⟨xa, xl, xc, rfl, _, v9, hA9, hF9, hV9⟩
                have HGS9 := Lib.hid (HGSX.out.acTo hA9 hF9 hV9)
                have HM9 := Lib.hid (HGSX.out.ac.keep hF9 HX12X.out HQ7.out (by decide))
                have HR9 := Lib.hid (HGSX.out.ac.keep hF9 HX13X.out HQ2.out (by decide))
                obtain ⟨ms, hms, hml, hst, hgr, hBl⟩ := blk_store (P := Try.prog) HR9.out [.int .i64 rk, .int .i64 0, .int .i64 0, .int .i64 0, .int .u64 rc9, .int .i64 rn, .int .i64 rs, .int .i64 rt, .bool false, .string ⟨#[]⟩, .slice xa xl xc] rfl (by intro u hu; simp only [List.mem_cons, List.not_mem_nil, or_false] at hu; rcases hu with rfl | rfl | rfl | rfl | rfl | rfl | rfl | rfl | rfl | rfl | rfl <;> rfl)
                have HGB := Lib.hid hgr
                have HBL := Lib.hid hBl
                have HMS := Lib.hid hms
                clear hms hgr hBl hF9 hV9
                first | refine hK.out _ _ ?sc5 (fun h5 => ?_) | (go_wp2_with fail; refine hK.out _ _ ?sc5 (fun h5 => ?_))
                case sc5 => ((try dsimp only); (exact ⟨HM9.out.cell rfl, HM9.out.cell rfl, HM9.out.cell rfl, HM9.out.cell rfl, HM9.out.cell rfl, HM9.out.cell rfl, HM9.out.cell rfl, HM9.out.cell rfl, HM9.out.cell rfl, HM9.out.cell rfl, HM9.out.cell rfl⟩))
                clear hK K h4
                try simp only [Act.put, List.setIfInBounds_toArray, List.set_cons_zero, List.set_cons_succ]
                refine wpAnyH_take (i := 5) (oi := { dst := some 97, op := Go.Op.move (Go.Operand.tmp 102), type := 31, pos := "top08.go:43", after := #[{ on := 4, ground := Go.Ground.data }], guard := none }) (v := ?vc6) rfl (by kernel_rfl) (by kernel_rfl) (by kernel_rfl) (fun _ _ _ h => h) (Or.inl ⟨by rfl, ?rc6⟩) (by assumption) ?_
                case rc6 => (intro w hSw; (try dsimp only at hSw); (go_simp <;> with_reducible rfl))
                try simp only [Act.put, List.setIfInBounds_toArray, List.set_cons_zero, List.set_cons_succ]
                refine wpAnyH_take (i := 6) (oi := { dst := some 103, op := Go.Op.extract (Go.Operand.tmp 97) 0, type := 30, pos := "top08.go:43", after := #[{ on := 5, ground := Go.Ground.data }], guard := none }) (v := (.agg ms.toArray)) rfl (by kernel_rfl) (by kernel_rfl) (by kernel_rfl) (fun _ _ _ h => h) (Or.inl ⟨by rfl, ?rc7⟩) (by assumption) ?_
                case rc7 => (intro w hSw; (try dsimp only at hSw); go_simp; all_goals (rw [← HMS.out]))
                try simp only [Act.put, List.setIfInBounds_toArray, List.set_cons_zero, List.set_cons_succ]
                refine wpAnyH_take (i := 7) (oi := { dst := some 104, op := Go.Op.extract (Go.Operand.tmp 97) 1, type := 4, pos := "top08.go:43", after := #[{ on := 5, ground := Go.Ground.data }, { on := 8, ground := Go.Ground.gcOnly Go.Departure.lateStores }], guard := none }) (v := ?vc8) rfl (by kernel_rfl) (by kernel_rfl) (by kernel_rfl) (fun _ _ _ h => h) (Or.inl ⟨by rfl, ?rc8⟩) (by assumption) ?_
                case rc8 => (intro w hSw; (try dsimp only at hSw); (go_simp <;> with_reducible rfl))
                try simp only [Act.put, List.setIfInBounds_toArray, List.set_cons_zero, List.set_cons_succ]
                refine wpAnyH_ready (rs := [8]) (by kernel_rfl) (by simp) ?_
                refine AllReadyH.cons (o := { dst := none, op := Go.Op.store 30 (Go.Operand.tmp 13) (Go.Operand.tmp 103), type := 0, pos := "top08.go:43", after := #[{ on := 6, ground := Go.Ground.data }, { on := 4, ground := Go.Ground.chain }, { on := 0, ground := Go.Ground.phase }, { on := 1, ground := Go.Ground.phase }, { on := 2, ground := Go.Ground.phase }, { on := 3, ground := Go.Ground.phase }, { on := 4, ground := Go.Ground.phase }, { on := 5, ground := Go.Ground.phase }, { on := 6, ground := Go.Ground.phase }, { on := 7, ground := Go.Ground.textOnly Go.Departure.lateStores }], guard := none }) rfl (fun K hK => ?_) AllReadyH.nil
                go_simp
                skip
                first | refine hK.out _ _ ?sc9 (fun h9 => ?_) | (go_wp2_with fail; refine hK.out _ _ ?sc9 (fun h9 => ?_))
                case sc9 => ((try dsimp only); (exact ⟨(HM9.out.put_other HGB.out HQ1.out.symm).cell rfl, (HM9.out.put_other HGB.out HQ1.out.symm).cell rfl, (HM9.out.put_other HGB.out HQ1.out.symm).cell rfl, (HM9.out.put_other HGB.out HQ1.out.symm).cell rfl, (HM9.out.put_other HGB.out HQ1.out.symm).cell rfl, (HM9.out.put_other HGB.out HQ1.out.symm).cell rfl, (HM9.out.put_other HGB.out HQ1.out.symm).cell rfl, (HM9.out.put_other HGB.out HQ1.out.symm).cell rfl, (HM9.out.put_other HGB.out HQ1.out.symm).cell rfl, (HM9.out.put_other HGB.out HQ1.out.symm).cell rfl, (HM9.out.put_other HGB.out HQ1.out.symm).cell rfl⟩))
                clear hK K h5
                try simp only [Act.put, List.setIfInBounds_toArray, List.set_cons_zero, List.set_cons_succ]
                refine wpAnyH_done (by kernel_rfl) ?_ _
                clear h9
                go_wp2
                go_meet
                exact ⟨rk, rc9, rn, rs, rt, xa, xl, xc, v9, _, HGS9.out.put HR9.out HGB.out (by decide) HQ6.out HQ2.out HQ3.out HQ4.out HQ5.out, HOK2.out, HKO.out, HGO.out, HM9.out.put_other HGB.out HQ1.out.symm, HBL.out⟩
              · have k0' : (K == 0) = false := beq_eq_false_iff_ne.2 k0
                by_cases k1 : K = 1
                · subst k1
                  have HKO := Lib.hid (keep_accept a FR C N SL TT TX)
                  have HGO := Lib.hid (grant_accept a FR C N SL TT LGG TX)
                  have HOK2 := Lib.hid (HOK.out.accept C N SL HTX.out)
                  have HGSX := Lib.hid (HGS4.out.gr (Gr.refl wD))
                  have HX12X := Lib.hid (HX12b.out.gr (Gr.refl wD))
                  have HX13X := Lib.hid (HX13.out.gr (Gr.refl wD))
                  have HCC := Lib.hid (accept_st 0 FR 0 0 C N SL T1 false TX none 0 0 HGSX.out.ac HOK.out HTX.out)
                  obtain ⟨⟨rk, rc9, rn, rs, rt, rch⟩, hR⟩ : ∃ R, R = a.acceptR C N SL TX := ⟨_, rfl⟩
                  rw [← hR] at HKO HGO HCC
                  simp only [Rep.msg] at HCC HKO HGO
                  clear hR
                  go_wp2_with fail
                  refine HCC.out.mono ?_
                  rintro e9 w9 ⟨rfl, v9, hA9, hF9, hV9⟩
                  have HGS9 := Lib.hid (HGSX.out.acTo hA9 hF9 hV9)
                  have HM9 := Lib.hid (HGSX.out.ac.keep hF9 HX12X.out HQ7.out (by decide))
                  have HR9 := Lib.hid (HGSX.out.ac.keep hF9 HX13X.out HQ2.out (by decide))
                  obtain ⟨ms, hms, hml, hT, hO, hgr, hBl⟩ := blk_put HR9.out #[.int .i64 rk, .int .i64 0, .int .i64 0, .int .i64 0, .int .u64 rc9, .int .i64 rn, .int .i64 rs, .int .i64 rt, .bool false, .string ⟨#[]⟩, .slice none 0 0] rfl (by intro u hu; simp only [List.mem_cons, List.not_mem_nil, or_false] at hu; rcases hu with rfl | rfl | rfl | rfl | rfl | rfl | rfl | rfl | rfl | rfl | rfl <;> rfl)
                  have HGB := Lib.hid hgr
                  have HBL := Lib.hid hBl
                  have HMS := Lib.hid hms
                  have HML := Lib.hid hml
                  have HTT := Lib.hid hT
                  have HOO := Lib.hid hO
                  clear hms hml hT hO hgr hBl hF9 hV9 m0 m1 m2 m3 m4 m5 m6 m7 m8 m9 m10
                  go_wp2_with (first | (refine wpList_store_mid rfl 30 (.tmp 13) (.tmp 111) (by rfl) p13 0 ms.toArray (by rfl) (by exact HMS.out) HTT.out (by rw [HML.out]; kernel_rfl) HOO.out ?_))
                  go_meet
                  exact ⟨rk, rc9, rn, rs, rt, none, 0, 0, v9, _, HGS9.out.put HR9.out HGB.out (by decide) HQ6.out HQ2.out HQ3.out HQ4.out HQ5.out, HOK2.out, HKO.out, HGO.out, HM9.out.put_other HGB.out HQ1.out.symm, HBL.out⟩
                · have k1' : (K == 1) = false := beq_eq_false_iff_ne.2 k1
                  by_cases k2 : K = 2
                  · subst k2
                    go_wp2_with fail
                    have t0 := HGS4.out.rt.cell (i := 0) rfl
                    have t1 := HGS4.out.rt.cell (i := 1) rfl
                    refine wp_region_held_drew (S := (fun w9 => w9.cell? ⟨p12, 0, none⟩ = some (.int .i64 0) ∧ w9.cell? ⟨p12, 1, none⟩ = some (.int .i64 FR) ∧ w9.cell? ⟨p12, 2, none⟩ = some (.int .i64 0) ∧ w9.cell? ⟨p12, 3, none⟩ = some (.int .i64 0) ∧ w9.cell? ⟨p12, 4, none⟩ = some (.int .u64 C) ∧ w9.cell? ⟨p12, 5, none⟩ = some (.int .i64 N) ∧ w9.cell? ⟨p12, 6, none⟩ = some (.int .i64 SL) ∧ w9.cell? ⟨p12, 7, none⟩ = some (.int .i64 T1) ∧ w9.cell? ⟨p12, 8, none⟩ = some (.bool false) ∧ w9.cell? ⟨p12, 9, none⟩ = some (.string TX) ∧ w9.cell? ⟨p12, 10, none⟩ = some (.slice none 0 0) ∧ w9.cell? ⟨prt, 0, none⟩ = some (.int .i64 P) ∧ w9.cell? ⟨prt, 1, none⟩ = some (.int .i64 Q))) (by kernel_rfl) ?invd (fun h0 => ?_)
                    case invd => ((try dsimp only); (exact ⟨m0, m1, m2, m3, m4, m5, m6, m7, m8, m9, m10, t0, t1⟩))
                    refine wpAnyH_take (i := 0) (oi := { dst := some 116, op := Go.Op.move (Go.Operand.tmp 5), type := 23, pos := "top08.go:47", after := #[], guard := none }) (v := ?vd1) rfl (by kernel_rfl) (by kernel_rfl) (by kernel_rfl) (fun _ _ _ h => h) (Or.inl ⟨by rfl, ?rd1⟩) (by assumption) ?_
                    case rd1 => (intro w hSw; (try dsimp only at hSw); (go_simp <;> with_reducible rfl))
                    try simp only [Act.put, List.setIfInBounds_toArray, List.set_cons_zero, List.set_cons_succ]
                    refine wpAnyH_take (i := 1) (oi := { dst := some 117, op := Go.Op.load 30 (Go.Operand.tmp 12), type := 30, pos := "top08.go:47", after := #[], guard := none }) (v := ?vd2) rfl (by kernel_rfl) (by kernel_rfl) (by kernel_rfl) (fun _ _ _ h => h) (Or.inl ⟨by rfl, ?rd2⟩) (by assumption) ?_
                    case rd2 => (intro w hSw; (try dsimp only at hSw); (go_simp <;> with_reducible rfl))
                    try simp only [Act.put, List.setIfInBounds_toArray, List.set_cons_zero, List.set_cons_succ]
                    refine wpAnyH_take (i := 2) (oi := { dst := some 118, op := Go.Op.move (Go.Operand.tmp 6), type := 76, pos := "top08.go:47", after := #[], guard := none }) (v := ?vd3) rfl (by kernel_rfl) (by kernel_rfl) (by kernel_rfl) (fun _ _ _ h => h) (Or.inl ⟨by rfl, ?rd3⟩) (by assumption) ?_
                    case rd3 => (intro w hSw; (try dsimp only at hSw); (go_simp <;> with_reducible rfl))
                    try simp only [Act.put, List.setIfInBounds_toArray, List.set_cons_zero, List.set_cons_succ]
                    refine wpAnyH_take (i := 4) (oi := { dst := some 120, op := Go.Op.load 74 (Go.Operand.tmp 3), type := 74, pos := "top08.go:47", after := #[], guard := none }) (v := ?vd4) rfl (by kernel_rfl) (by kernel_rfl) (by kernel_rfl) (fun _ _ _ h => h) (Or.inl ⟨by rfl, ?rd4⟩) (by assumption) ?_
                    case rd4 => (intro w hSw; (try dsimp only at hSw); (go_simp <;> with_reducible rfl))
                    try simp only [Act.put, List.setIfInBounds_toArray, List.set_cons_zero, List.set_cons_succ]
                    refine wpAnyH_take (i := 5) (oi := { dst := some 121, op := Go.Op.move (Go.Operand.tmp 4), type := 3, pos := "top08.go:47", after := #[], guard := none }) (v := ?vd5) rfl (by kernel_rfl) (by kernel_rfl) (by kernel_rfl) (fun _ _ _ h => h) (Or.inl ⟨by rfl, ?rd5⟩) (by assumption) ?_
                    case rd5 => (intro w hSw; (try dsimp only at hSw); (go_simp <;> with_reducible rfl))
                    try simp only [Act.put, List.setIfInBounds_toArray, List.set_cons_zero, List.set_cons_succ]
                    refine wpAnyH_ready (rs := [3]) (by kernel_rfl) (by simp) ?_
                    refine AllReadyH.cons (o := { dst := some 119, op := Go.Op.call { callee := Go.Callee.value (Go.Operand.func 42), args := #[Go.Operand.tmp 118, Go.Operand.const (Go.Value.int Go.IntKind.i64 0)], argTypes := #[76, 3] }, type := 3, pos := "top08.go:47", after := #[{ on := 2, ground := Go.Ground.data }], guard := none }) rfl (fun K hK => ?_) AllReadyH.nil
                    go_simp
                    go_at_call 42
                    refine (clkNow_any 0 _ (HGS4.out.gr (by first | exact (Gr.refl wD).drew | exact (Gr.refl wD).drew.trans hgL)).ck).mono ?_
                    rw [HN0.out]
                    rintro e9 wN ⟨rfl, rfl⟩
                    first | refine hK.out _ _ ?sd6 (fun h6 => ?_) | (go_wp2_with fail; refine hK.out _ _ ?sd6 (fun h6 => ?_))
                    case sd6 => ((try dsimp only); (exact h0))
                    clear hK K h0
                    try simp only [Act.put, List.setIfInBounds_toArray, List.set_cons_zero, List.set_cons_succ]
                    refine wpAnyH_ready (rs := [6]) (by kernel_rfl) (by simp) ?_
                    refine AllReadyH.cons (o := { dst := some 122, op := Go.Op.call { callee := Go.Callee.value (Go.Operand.func 43), args := #[Go.Operand.tmp 120, Go.Operand.tmp 121], argTypes := #[74, 3] }, type := 3, pos := "top08.go:47", after := #[{ on := 4, ground := Go.Ground.data }, { on := 5, ground := Go.Ground.data }, { on := 3, ground := Go.Ground.chain }], guard := none }) rfl (fun K hK => ?_) AllReadyH.nil
                    go_simp
                    go_at_call 43
                    refine (longer_any P Q (1 + tm) _).mono ?_
                    rw [HLGG.out]
                    rintro e9 wL ⟨rfl, hgL0⟩
                    have hgL := hgL0
                    first | refine hK.out _ _ ?sd7 (fun h7 => ?_) | (go_wp2_with fail; refine hK.out _ _ ?sd7 (fun h7 => ?_))
                    case sd7 => ((try dsimp only); (exact ⟨hgL.cell h6.1, hgL.cell h6.2.1, hgL.cell h6.2.2.1, hgL.cell h6.2.2.2.1, hgL.cell h6.2.2.2.2.1, hgL.cell h6.2.2.2.2.2.1, hgL.cell h6.2.2.2.2.2.2.1, hgL.cell h6.2.2.2.2.2.2.2.1, hgL.cell h6.2.2.2.2.2.2.2.2.1, hgL.cell h6.2.2.2.2.2.2.2.2.2.1, hgL.cell h6.2.2.2.2.2.2.2.2.2.2.1, hgL.cell h6.2.2.2.2.2.2.2.2.2.2.2.1, hgL.cell h6.2.2.2.2.2.2.2.2.2.2.2.2⟩))
                    clear hK K h6
                    try simp only [Act.put, List.setIfInBounds_toArray, List.set_cons_zero, List.set_cons_succ]
                    refine wpAnyH_ready (rs := [7]) (by kernel_rfl) (by simp) ?_
                    refine AllReadyH.cons (o := { dst := some 123, op := Go.Op.call { callee := Go.Callee.value (Go.Operand.func 22), args := #[Go.Operand.tmp 116, Go.Operand.tmp 117, Go.Operand.tmp 119, Go.Operand.tmp 122], argTypes := #[23, 30, 3, 3] }, type := 31, pos := "top08.go:47", after := #[{ on := 0, ground := Go.Ground.data }, { on := 1, ground := Go.Ground.data }, { on := 3, ground := Go.Ground.data }, { on := 6, ground := Go.Ground.data }, { on := 6, ground := Go.Ground.chain }], guard := none }) rfl (fun K hK => ?_) AllReadyH.nil
                    go_simp
                    have HKO := Lib.hid (keep_ask a FR C N T1 TT LGG)
                    have HGO := Lib.hid (grant_ask a FR C N T1 TT LGG)
                    have HOK2 := Lib.hid (HOK.out.ask FR C N TT LGG HF0.out)
                    have HGSX := Lib.hid (HGS4.out.gr ((Gr.refl wD).drew.trans hgL))
                    have HX12X := Lib.hid (HX12b.out.gr ((Gr.refl wD).drew.trans hgL))
                    have HX13X := Lib.hid (HX13.out.gr ((Gr.refl wD).drew.trans hgL))
                    have HCC := Lib.hid (ask_st 0 FR 0 0 C N SL T1 false TX none 0 0 TT LGG HGSX.out.ac HOK.out HF0.out HW0.out)
                    obtain ⟨⟨rk, rc9, rn, rs, rt, rch⟩, hR⟩ : ∃ R, R = a.askR FR C N T1 TT LGG := ⟨_, rfl⟩
                    rw [← hR] at HKO HGO HCC
                    simp only [Rep.msg] at HCC HKO HGO
                    clear hR
                    go_at_call 22
                    refine HCC.out.mono ?_
                    rintro e9 w9 ⟨rfl, v9, hA9, hF9, hV9⟩
                    have HGS9 := Lib.hid (HGSX.out.acTo hA9 hF9 hV9)
                    have HM9 := Lib.hid (HGSX.out.ac.keep hF9 HX12X.out HQ7.out (by decide))
                    have HR9 := Lib.hid (HGSX.out.ac.keep hF9 HX13X.out HQ2.out (by decide))
                    obtain ⟨ms, hms, hml, hst, hgr, hBl⟩ := blk_store (P := Try.prog) HR9.out [.int .i64 rk, .int .i64 0, .int .i64 0, .int .i64 0, .int .u64 rc9, .int .i64 rn, .int .i64 rs, .int .i64 rt, .bool false, .string ⟨#[]⟩, .slice none 0 0] rfl (by intro u hu; simp only [List.mem_cons, List.not_mem_nil, or_false] at hu; rcases hu with rfl | rfl | rfl | rfl | rfl | rfl | rfl | rfl | rfl | rfl | rfl <;> rfl)
                    have HGB := Lib.hid hgr
                    have HBL := Lib.hid hBl
                    have HMS := Lib.hid hms
                    clear hms hgr hBl hF9 hV9
                    first | refine hK.out _ _ ?sd8 (fun h8 => ?_) | (go_wp2_with fail; refine hK.out _ _ ?sd8 (fun h8 => ?_))
                    case sd8 => ((try dsimp only); (exact ⟨HM9.out.cell rfl, HM9.out.cell rfl, HM9.out.cell rfl, HM9.out.cell rfl, HM9.out.cell rfl, HM9.out.cell rfl, HM9.out.cell rfl, HM9.out.cell rfl, HM9.out.cell rfl, HM9.out.cell rfl, HM9.out.cell rfl, HGS9.out.rt.cell (i := 0) rfl, HGS9.out.rt.cell (i := 1) rfl⟩))
                    clear hK K h7
                    try simp only [Act.put, List.setIfInBounds_toArray, List.set_cons_zero, List.set_cons_succ]
                    refine wpAnyH_take (i := 8) (oi := { dst := some 115, op := Go.Op.move (Go.Operand.tmp 123), type := 31, pos := "top08.go:47", after := #[{ on := 7, ground := Go.Ground.data }], guard := none }) (v := ?vd9) rfl (by kernel_rfl) (by kernel_rfl) (by kernel_rfl) (fun _ _ _ h => h) (Or.inl ⟨by rfl, ?rd9⟩) (by assumption) ?_
                    case rd9 => (intro w hSw; (try dsimp only at hSw); (go_simp <;> with_reducible rfl))
                    try simp only [Act.put, List.setIfInBounds_toArray, List.set_cons_zero, List.set_cons_succ]
                    refine wpAnyH_take (i := 9) (oi := { dst := some 124, op := Go.Op.extract (Go.Operand.tmp 115) 0, type := 30, pos := "top08.go:47", after := #[{ on := 8, ground := Go.Ground.data }], guard := none }) (v := (.agg ms.toArray)) rfl (by kernel_rfl) (by kernel_rfl) (by kernel_rfl) (fun _ _ _ h => h) (Or.inl ⟨by rfl, ?rd10⟩) (by assumption) ?_
                    case rd10 => (intro w hSw; (try dsimp only at hSw); go_simp; all_goals (rw [← HMS.out]))
                    try simp only [Act.put, List.setIfInBounds_toArray, List.set_cons_zero, List.set_cons_succ]
                    refine wpAnyH_take (i := 10) (oi := { dst := some 125, op := Go.Op.extract (Go.Operand.tmp 115) 1, type := 4, pos := "top08.go:47", after := #[{ on := 8, ground := Go.Ground.data }, { on := 11, ground := Go.Ground.gcOnly Go.Departure.lateStores }], guard := none }) (v := ?vd11) rfl (by kernel_rfl) (by kernel_rfl) (by kernel_rfl) (fun _ _ _ h => h) (Or.inl ⟨by rfl, ?rd11⟩) (by assumption) ?_
                    case rd11 => (intro w hSw; (try dsimp only at hSw); (go_simp <;> with_reducible rfl))
                    try simp only [Act.put, List.setIfInBounds_toArray, List.set_cons_zero, List.set_cons_succ]
                    refine wpAnyH_ready (rs := [11]) (by kernel_rfl) (by simp) ?_
                    refine AllReadyH.cons (o := { dst := none, op := Go.Op.store 30 (Go.Operand.tmp 13) (Go.Operand.tmp 124), type := 0, pos := "top08.go:47", after := #[{ on := 9, ground := Go.Ground.data }, { on := 7, ground := Go.Ground.chain }, { on := 0, ground := Go.Ground.phase }, { on := 1, ground := Go.Ground.phase }, { on := 2, ground := Go.Ground.phase }, { on := 3, ground := Go.Ground.phase }, { on := 4, ground := Go.Ground.phase }, { on := 5, ground := Go.Ground.phase }, { on := 6, ground := Go.Ground.phase }, { on := 7, ground := Go.Ground.phase }, { on := 8, ground := Go.Ground.phase }, { on := 9, ground := Go.Ground.phase }, { on := 10, ground := Go.Ground.textOnly Go.Departure.lateStores }], guard := none }) rfl (fun K hK => ?_) AllReadyH.nil
                    go_simp
                    skip
                    first | refine hK.out _ _ ?sd12 (fun h12 => ?_) | (go_wp2_with fail; refine hK.out _ _ ?sd12 (fun h12 => ?_))
                    case sd12 => ((try dsimp only); (exact ⟨(HM9.out.put_other HGB.out HQ1.out.symm).cell rfl, (HM9.out.put_other HGB.out HQ1.out.symm).cell rfl, (HM9.out.put_other HGB.out HQ1.out.symm).cell rfl, (HM9.out.put_other HGB.out HQ1.out.symm).cell rfl, (HM9.out.put_other HGB.out HQ1.out.symm).cell rfl, (HM9.out.put_other HGB.out HQ1.out.symm).cell rfl, (HM9.out.put_other HGB.out HQ1.out.symm).cell rfl, (HM9.out.put_other HGB.out HQ1.out.symm).cell rfl, (HM9.out.put_other HGB.out HQ1.out.symm).cell rfl, (HM9.out.put_other HGB.out HQ1.out.symm).cell rfl, (HM9.out.put_other HGB.out HQ1.out.symm).cell rfl, (HGS9.out.rt.put_other HGB.out HQ5.out.symm).cell (i := 0) rfl, (HGS9.out.rt.put_other HGB.out HQ5.out.symm).cell (i := 1) rfl⟩))
                    clear hK K h8
                    try simp only [Act.put, List.setIfInBounds_toArray, List.set_cons_zero, List.set_cons_succ]
                    refine wpAnyH_done (by kernel_rfl) ?_ _
                    clear h12
                    go_wp2
                    go_meet
                    exact ⟨rk, rc9, rn, rs, rt, none, 0, 0, v9, _, HGS9.out.put HR9.out HGB.out (by decide) HQ6.out HQ2.out HQ3.out HQ4.out HQ5.out, HOK2.out, HKO.out, HGO.out, HM9.out.put_other HGB.out HQ1.out.symm, HBL.out⟩
                  · have k2' : (K == 2) = false := beq_eq_false_iff_ne.2 k2
                    go_wp2
                    go_meet
                    exact ⟨0, 0, 0, 0, 0, none, 0, 0, v, a, HGS4.out, HOK.out, keep_same a 0 C N FR TT (by decide) (by decide) (by decide), fun h => absurd h (by decide), HX12b.out, HX13.out⟩
            case rest =>
              obtain ⟨rk, rc9, rn, rs, rt, la, ll, lc, v', a', hgs, hok, hko, hgo, h12, h13⟩ := hcut.out
              have HGS5 := Lib.hid hgs
              have HOK5 := Lib.hid hok
              have HKO := Lib.hid hko
              have HGO := Lib.hid hgo
              have H12 := Lib.hid h12
              have H13 := Lib.hid h13
              clear hgs hok hko hgo h12 h13 hcut HGS4 HX12b HX13
              generalize wc = wE at *
              have HT0 := Lib.hid (show 0 ≤ c1.now 0 ∧ c1.now 0 ≤ 100000 from ⟨(HTI1.out.ok.now 0).1, by have := HTI1.out.t0; omega⟩)
              have HT1 := Lib.hid (show 0 ≤ c1.now 1 ∧ c1.now 1 ≤ 100000 from ⟨(HTI1.out.ok.now 1).1, by have := HTI1.out.t1; omega⟩)
              have HGI2 := Lib.hid (show GI P Q a' (c1.now 0) (c1.now 1) e from gi_step (rk := rk) (c := C) (n := N) (fr := FR) HGD.out HGI1.out (fun h1 h2 => by
                have h3 : a'.to = a.to := by
                  rcases Decidable.em (a'.to = a.to) with h3 | h3
                  · exact h3
                  · exact absurd h2 (HKO.out.own (by omega) h3)
                exact ⟨by omega, HKO.out.till h3⟩))
              have HBAR := Lib.hid (show c1.now 1 < e → FR ≠ 0 → rk ≠ 2 ∧ rk ≠ 11 from fun h1 h2 => by
                obtain ⟨h3, h4⟩ := gi_lt HGD.out HGI1.out h1
                exact HKO.out.bar (by omega) (by omega) h4)
              have HGR := Lib.hid (show rk = 11 → FR = 0 → GI P Q a' (c1.now 0) (c1.now 1) (c1.now 1 + (1 + tm)) from fun h1 h2 => by
                obtain ⟨h3, h4⟩ := HGO.out h1
                exact gi_grant HGD.out (by omega) (by omega) HT0.out.1 HT0.out.2 (by omega) h4)
              have HFT := Lib.hid (tinv_fits HTI1.out)
              have t0 := HGS5.out.rt.cell (i := 0) rfl
              have t1 := HGS5.out.rt.cell (i := 1) rfl
              go_wp2_with fail
              refine (clkFits_any P Q _ HGS5.out.ck).mono ?_
              rw [HFT.out]
              rintro e9 w9 ⟨rfl, hg9⟩
              have HGS6 := Lib.hid (HGS5.out.gr hg9)
              have H12b := Lib.hid (H12.out.gr hg9)
              have H13b := Lib.hid (H13.out.gr hg9)
              clear HGS5 H12 H13 hg9 t0 t1
              generalize hT1 : c1.now 1 = T1 at *
              have HT1E := Lib.hid hT1
              generalize hT0 : c1.now 0 = TT at *
              have HT0E := Lib.hid hT0
              clear hT1 hT0
              have m1 := H12b.out.cell (i := 1) rfl
              have r0 := H13b.out.cell (i := 0) rfl
              have HNW := Lib.hid (clkNow_any 1 _ HGS6.out.ck)
              rw [HN1.out] at HNW
              go_upto_region 29 with fail
              go_cut [148] from 32 to 162 (fun u wx => u = .bool false ∧ wx = w9)
              case first =>
                go_wp2_with fail
                refine HNW.out.mono ?_
                rintro e9 w10 ⟨rfl, rfl⟩
                by_cases h1 : T1 < e
                · by_cases h2 : FR = 0
                  · have h2' : (FR != 0) = false := by rw [h2]; rfl
                    clear h2
                    go_wp2
                    go_meet
                    exact ⟨by first | rfl | (simp; omega), rfl⟩
                  · have h2' : (FR != 0) = true := bne_iff_ne.2 h2
                    have h3 := HBAR.out h1 h2
                    have h5 : (rk == 2) = false := beq_eq_false_iff_ne.2 h3.1
                    have h6 : (rk == 11) = false := beq_eq_false_iff_ne.2 h3.2
                    clear h2 h3
                    go_wp2
                    go_meet
                    exact ⟨by first | rfl | (simp; omega), rfl⟩
                · go_wp2
                  go_meet
                  exact ⟨by first | rfl | (simp; omega), rfl⟩
              case rest =>
                obtain ⟨rfl, rfl⟩ := hcut
                by_cases h1 : rk = 11
                · have h1' : (rk == 11) = true := by rw [h1]; rfl
                  have HG3 := Lib.hid (HGR.out h1)
                  clear h1
                  by_cases h2 : FR = 0
                  · have h2' : (FR == 0) = true := by rw [h2]; rfl
                    have HG4 := Lib.hid (gi_max HGI2.out (HG3.out h2))
                    clear h2
                    have hb1 := HT1.out.1
                    have hb2 := HT1.out.2
                    go_wp2_with fail
                    refine HNW.out.mono ?_
                    rintro e9 w10 ⟨rfl, rfl⟩
                    go_wp2
                    go_roundg (60 - (k + 1))
                    case measure => omega
                    case rel => exact ⟨k + 1, v', a', c1, max e (T1 + (1 + tm)), by omega, rfl, by go_num, HGS6, HOK5, HTI1, by rw [HT0E.out, HT1E.out]; exact HG4⟩
                  · have h2' : (FR == 0) = false := beq_eq_false_iff_ne.2 h2
                    clear h2
                    go_wp2
                    go_roundg (60 - (k + 1))
                    case measure => omega
                    case rel => exact ⟨k + 1, v', a', c1, e, by omega, rfl, by go_num, HGS6, HOK5, HTI1, by rw [HT0E.out, HT1E.out]; exact HGI2⟩
                · have h1' : (rk == 11) = false := beq_eq_false_iff_ne.2 h1
                  clear h1
                  go_wp2
                  go_roundg (60 - (k + 1))
                  case measure => omega
                  case rel => exact ⟨k + 1, v', a', c1, e, by omega, rfl, by go_num, HGS6, HOK5, HTI1, by rw [HT0E.out, HT1E.out]; exact HGI2⟩
      · have hk8 : ¬ (k : Int) < 60 := by omega
        go_wp2
        go_ret
        exact ⟨rfl, HW2.out.trans HGS.out.ac.grown⟩
    · have hk5 : ¬ (k : Int) < (L.length : Int) := by omega
      go_wp2
      go_ret
      exact ⟨rfl, HW2.out.trans HGS.out.ac.grown⟩
end Go.Proofs.Ytkihencimbdoiaa
