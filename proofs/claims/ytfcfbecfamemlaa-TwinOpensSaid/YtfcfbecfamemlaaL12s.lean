import Derived.Test.YtfcfbecfamemlaaL12r
import Derived.WalkKit
import Derived.ProofKit
import Derived.LoopTactic
import Derived.Outline
import Derived.WalkSpells
import Derived.WalkLawsBesides
import Derived.Lib.Hide
import Derived.Deep.LoopGhost
import Derived.Deep.QuietTactic
import Derived.BigQuiet
import Derived.ShutString
import Derived.IntWalk
import Derived.Lib.MinMax
import Derived.Deep.RegionWith
import Derived.Deep.RegionHeld3
namespace Go.Proofs.Ytfcfbecfamemlaa
open Go.ChangeShapes Go.WideShapes Go.ChangeAt Go.RowKit
open Dk Enc
set_option linter.unusedVariables false
set_option linter.unusedSimpArgs false
def RPIs (s : ByteArray) (w : World) (e : Ending) (w' : World) : Prop :=
  e = .returned (.agg #[.int .u64 ((parseB s).1 : Nat), .string (parseB s).2.1, .bool (parseB s).2.2]) ∧ Gr w w'
theorem rpIs_mk {s t : ByteArray} {v : Nat} {b : Bool} {w w' : World} (h : Hid (parseB s = (v, t, b))) (hg : Gr w w') : RPIs s w (.returned (.agg #[.int .u64 (v : Nat), .string t, .bool b])) w' := ⟨by rw [h.out], hg⟩
theorem three_set {W : World} {b : Nat} {x y z : Value} (a c d : Value) (h0 : W.cell? ⟨b, 0, none⟩ = some x) (h1 : W.cell? ⟨b, 1, none⟩ = some y) (h2 : W.cell? ⟨b, 2, none⟩ = some z) :
    (((W.setCell ⟨b, 0, none⟩ a).setCell ⟨b, 1, none⟩ c).setCell ⟨b, 2, none⟩ d).cell? ⟨b, 0, none⟩ = some a ∧ (((W.setCell ⟨b, 0, none⟩ a).setCell ⟨b, 1, none⟩ c).setCell ⟨b, 2, none⟩ d).cell? ⟨b, 1, none⟩ = some c ∧ (((W.setCell ⟨b, 0, none⟩ a).setCell ⟨b, 1, none⟩ c).setCell ⟨b, 2, none⟩ d).cell? ⟨b, 2, none⟩ = some d := by
  obtain ⟨k0, k1, -⟩ := two_set a c h0 h1
  refine ⟨?_, ?_, ?_⟩
  · rw [World.cell?_setCell_other _ _ _ _ (by simp)]; exact k0
  · rw [World.cell?_setCell_other _ _ _ _ (by simp)]; exact k1
  · exact World.cell?_setCell_same' _ _ _ (by rw [World.cell?_setCell_other _ _ _ _ (by simp), World.cell?_setCell_other _ _ _ _ (by simp), h2]; rfl)
theorem refParse_empty (w : World) : Calls Try.prog 57 #[.string ⟨#[]⟩] w (RPIs ⟨#[]⟩ w) := by
  have E := Lib.hid parse_empty
  have hq : (⟨#[]⟩ : ByteArray).toList.isEmpty = true := by decide +kernel
  go_enter Try.func57, Try.ntmps57
  go_wp2
  refine bodyPost_ret (v := .agg #[.int .u64 0, .string ⟨#[]⟩, .bool false]) (by simp [results, Try.results57, go_sem]; try rfl) rfl ?_
  exact rpIs_mk E ((Gr.refl _).alloc _)
set_option maxRecDepth 100000 in
set_option maxHeartbeats 1000000 in
theorem refParse_bad0 (s p r1 r2 t : ByteArray) (k n e1 v e2 d : Nat) (w : World) (hq : s.toList.isEmpty = false)
    (RO : Hid (∀ w, Calls Try.prog 73 #[.string s] w fun e w' => e = .returned (.tuple #[.agg #[.int .u8 k, .string p], .int .i64 n]) ∧ Gr w w'))
    (RU : Hid (∀ w, Calls Try.prog 74 #[.agg #[.string p, .int .i64 0]] w fun e w' => e = .returned (.tuple #[.agg #[.string r1, .int .i64 (e1 : Int)], .int .u64 (v : Int)]) ∧ Gr w w'))
    (RS : Hid (∀ w, Calls Try.prog 75 #[.agg #[.string r1, .int .i64 (e1 : Int)], .int .i64 524288] w fun e w' => e = .returned (.tuple #[.agg #[.string r2, .int .i64 (e2 : Int)], .string t]) ∧ Gr w w'))
    (RD : Hid (∀ w, Calls Try.prog 76 #[.agg #[.string r2, .int .i64 (e2 : Int)]] w fun e w' => e = .returned (.agg #[.string r2, .int .i64 (d : Int)]) ∧ Gr w w'))
    (hp : p.size ≤ 500000) (hs : s.size ≤ 500000) (f0 : ((n : Int) != 0) = true)
    (E : Hid (parseB s = (0, ⟨#[]⟩, true))) :
    Calls Try.prog 57 #[.string s] w (RPIs s w) := by
  go_enter Try.func57, Try.ntmps57
  go_wp2_with fail
  refine (RO.out _).mono ?_
  rintro e w2 ⟨rfl, hg2⟩
  have q0 : w2.cell? ⟨w.heap.size, 0, none⟩ = some (.int .u64 0) := hg2.own.1 0 _ rfl
  have q1 : w2.cell? ⟨w.heap.size, 1, none⟩ = some (.string ⟨#[]⟩) := hg2.own.1 1 _ rfl
  have q2 : w2.cell? ⟨w.heap.size, 2, none⟩ = some (.bool false) := hg2.own.1 2 _ rfl
  have x0 := hg2.own.2.1 0
  have x1 := hg2.own.2.1 1
  have x2 := hg2.own.2.1 2
  have hlt := hg2.own.2.2
  have HG2 := Lib.hid (((Gr.refl w).alloc _).trans hg2)
  clear hg2
  go_wp2_with fail
  refine (RU.out _).mono ?_
  rintro e w3 ⟨rfl, hg3⟩
  have p0 : w3.cell? ⟨w2.heap.size, 0, none⟩ = some (.int .u8 (k : Nat)) := hg3.own.1 0 _ rfl
  have p1 : w3.cell? ⟨w2.heap.size, 1, none⟩ = some (.string p) := hg3.own.1 1 _ rfl
  have g3 := ((Gr.refl w2).alloc _).trans hg3
  have hpl := hg3.own.2.2
  replace q0 := g3.cell q0
  replace q1 := g3.cell q1
  replace q2 := g3.cell q2
  replace x0 := (g3.frozen hlt).trans x0
  replace x1 := (g3.frozen hlt).trans x1
  replace x2 := (g3.frozen hlt).trans x2
  have HG3 := Lib.hid (HG2.out.trans g3)
  have hlt3 := Nat.lt_trans hlt hpl
  clear hg3 g3
  go_wp2_with fail
  refine (RS.out _).mono ?_
  rintro e w4 ⟨rfl, hg4⟩
  have c0 : w4.cell? ⟨w3.heap.size, 0, none⟩ = some (.string r1) := hg4.own.1 0 _ rfl
  have c1 : w4.cell? ⟨w3.heap.size, 1, none⟩ = some (.int .i64 (e1 : Nat)) := hg4.own.1 1 _ rfl
  have y0 := hg4.own.2.1 0
  have y1 := hg4.own.2.1 1
  have g4 := ((Gr.refl w3).alloc _).trans hg4
  have hcl := hg4.own.2.2
  replace q0 := g4.cell q0
  replace q1 := g4.cell q1
  replace q2 := g4.cell q2
  replace p0 := g4.cell p0
  replace p1 := g4.cell p1
  replace x0 := (g4.frozen hlt3).trans x0
  replace x1 := (g4.frozen hlt3).trans x1
  replace x2 := (g4.frozen hlt3).trans x2
  have HG4 := Lib.hid (HG3.out.trans g4)
  clear hg4 g4
  have HLE := Lib.hid (show w.heap.size ≤ w3.heap.size by omega)
  generalize w3.heap.size = cb at *
  generalize w2.heap.size = pb at *
  have HRB := Lib.hid (show w.heap.size ≤ w.heap.size from Nat.le_refl _)
  generalize hrb : w.heap.size = rb at *
  have n1 := Lib.hid (show rb ≠ cb by omega)
  have n2 := Lib.hid (show pb ≠ cb by omega)
  have n3 := Lib.hid (show pb ≠ rb by omega)
  have n4 := Lib.hid (show w.heap.size ≤ rb by omega)
  have n5 := Lib.hid (show w.heap.size ≤ cb by omega)
  have n6 := Lib.hid (show rb < w4.heap.size by omega)
  clear hlt hpl hlt3 hcl hrb HRB HLE HG2 HG3
  go_wp2_with fail
  have S2 := (Sole.setCell cb 0 w4 (.string r2)).trans (Sole.setCell cb 1 (w4.setCell ⟨cb, 0, none⟩ (.string r2)) (.int .i64 (e2 : Nat)))
  obtain ⟨d0, d1, df⟩ := two_set (.string r2) (.int .i64 (e2 : Nat)) c0 c1
  replace y0 := (df 0).trans y0
  replace y1 := (df 1).trans y1
  replace q0 := S2.cell n1.out q0
  replace q1 := S2.cell n1.out q1
  replace q2 := S2.cell n1.out q2
  replace p0 := S2.cell n2.out p0
  replace p1 := S2.cell n2.out p1
  replace x0 := (S2.frozen n1.out n6.out).trans x0
  replace x1 := (S2.frozen n1.out n6.out).trans x1
  replace x2 := (S2.frozen n1.out n6.out).trans x2
  have HG5 := Lib.hid (S2.gr HG4.out n5.out)
  clear S2 df c0 c1 HG4 n6
  generalize (w4.setCell ⟨cb, 0, none⟩ (.string r2)).setCell ⟨cb, 1, none⟩ (.int .i64 (e2 : Nat)) = w5 at *
  refine (RD.out _).mono ?_
  rintro e w6 ⟨rfl, g6⟩
  have l5 := cell_lt q0
  have l6 := cell_lt d0
  replace q0 := g6.cell q0
  replace q1 := g6.cell q1
  replace q2 := g6.cell q2
  replace p0 := g6.cell p0
  replace p1 := g6.cell p1
  replace d0 := g6.cell d0
  replace d1 := g6.cell d1
  replace x0 := (g6.frozen l5).trans x0
  replace x1 := (g6.frozen l5).trans x1
  replace x2 := (g6.frozen l5).trans x2
  replace y0 := (g6.frozen l6).trans y0
  replace y1 := (g6.frozen l6).trans y1
  have HG6 := Lib.hid (HG5.out.trans g6)
  clear g6 HG5 l5 l6
  have l7 := cell_lt q0
  have S2 := (Sole.setCell cb 0 w6 (.string r2)).trans (Sole.setCell cb 1 (w6.setCell ⟨cb, 0, none⟩ (.string r2)) (.int .i64 (d : Nat)))
  have h7 := two_set (.string r2) (.int .i64 (d : Nat)) d0 d1
  have Q := Lib.hid (And.intro (S2.cell n1.out q0) (And.intro (S2.cell n1.out q1) (S2.cell n1.out q2)))
  have P := Lib.hid (And.intro (S2.cell n2.out p0) (S2.cell n2.out p1))
  have X := Lib.hid (And.intro ((S2.frozen n1.out l7).trans x0) (And.intro ((S2.frozen n1.out l7).trans x1) ((S2.frozen n1.out l7).trans x2)))
  have HC7 := Lib.hid h7.2.1
  have HG7 := Lib.hid (S2.gr HG6.out n5.out)
  have pp0 := P.out.1
  have pp1 := P.out.2
  have cc := HC7.out
  have v0 := Q.out.1
  have v1 := Q.out.2.1
  have v2 := Q.out.2.2
  have z0 := X.out.1
  have z1 := X.out.2.1
  have z2 := X.out.2.2
  clear S2 h7 l7 q0 q1 q2 p0 p1 x0 x1 x2
  go_wp2
  generalize (w6.setCell ⟨cb, 0, none⟩ (.string r2)).setCell ⟨cb, 1, none⟩ (.int .i64 (d : Nat)) = w7 at *
  obtain ⟨u0, u1, u2⟩ := three_set (.int .u64 0) (.string ⟨#[]⟩) (.bool true) v0 v1 v2
  refine bodyPost_ret (v := .agg #[.int .u64 0, .string ⟨#[]⟩, .bool true]) (by simp [results, Try.results57, go_sem, u0, u1, u2]; try rfl) rfl ?_
  exact rpIs_mk E (((HG7.out.setCell (p := ⟨rb, 0, none⟩) n4.out _).setCell (p := ⟨rb, 1, none⟩) n4.out _).setCell (p := ⟨rb, 2, none⟩) n4.out _)
set_option maxRecDepth 100000 in
set_option maxHeartbeats 1000000 in
theorem refParse_bad1 (s p r1 r2 t : ByteArray) (k n e1 v e2 d : Nat) (w : World) (hq : s.toList.isEmpty = false)
    (RO : Hid (∀ w, Calls Try.prog 73 #[.string s] w fun e w' => e = .returned (.tuple #[.agg #[.int .u8 k, .string p], .int .i64 n]) ∧ Gr w w'))
    (RU : Hid (∀ w, Calls Try.prog 74 #[.agg #[.string p, .int .i64 0]] w fun e w' => e = .returned (.tuple #[.agg #[.string r1, .int .i64 (e1 : Int)], .int .u64 (v : Int)]) ∧ Gr w w'))
    (RS : Hid (∀ w, Calls Try.prog 75 #[.agg #[.string r1, .int .i64 (e1 : Int)], .int .i64 524288] w fun e w' => e = .returned (.tuple #[.agg #[.string r2, .int .i64 (e2 : Int)], .string t]) ∧ Gr w w'))
    (RD : Hid (∀ w, Calls Try.prog 76 #[.agg #[.string r2, .int .i64 (e2 : Int)]] w fun e w' => e = .returned (.agg #[.string r2, .int .i64 (d : Int)]) ∧ Gr w w'))
    (hp : p.size ≤ 500000) (hs : s.size ≤ 500000) (f0 : ((n : Int) != 0) = false) (f1 : ((k : Int) != 1) = true)
    (E : Hid (parseB s = (0, ⟨#[]⟩, true))) :
    Calls Try.prog 57 #[.string s] w (RPIs s w) := by
  go_enter Try.func57, Try.ntmps57
  go_wp2_with fail
  refine (RO.out _).mono ?_
  rintro e w2 ⟨rfl, hg2⟩
  have q0 : w2.cell? ⟨w.heap.size, 0, none⟩ = some (.int .u64 0) := hg2.own.1 0 _ rfl
  have q1 : w2.cell? ⟨w.heap.size, 1, none⟩ = some (.string ⟨#[]⟩) := hg2.own.1 1 _ rfl
  have q2 : w2.cell? ⟨w.heap.size, 2, none⟩ = some (.bool false) := hg2.own.1 2 _ rfl
  have x0 := hg2.own.2.1 0
  have x1 := hg2.own.2.1 1
  have x2 := hg2.own.2.1 2
  have hlt := hg2.own.2.2
  have HG2 := Lib.hid (((Gr.refl w).alloc _).trans hg2)
  clear hg2
  go_wp2_with fail
  refine (RU.out _).mono ?_
  rintro e w3 ⟨rfl, hg3⟩
  have p0 : w3.cell? ⟨w2.heap.size, 0, none⟩ = some (.int .u8 (k : Nat)) := hg3.own.1 0 _ rfl
  have p1 : w3.cell? ⟨w2.heap.size, 1, none⟩ = some (.string p) := hg3.own.1 1 _ rfl
  have g3 := ((Gr.refl w2).alloc _).trans hg3
  have hpl := hg3.own.2.2
  replace q0 := g3.cell q0
  replace q1 := g3.cell q1
  replace q2 := g3.cell q2
  replace x0 := (g3.frozen hlt).trans x0
  replace x1 := (g3.frozen hlt).trans x1
  replace x2 := (g3.frozen hlt).trans x2
  have HG3 := Lib.hid (HG2.out.trans g3)
  have hlt3 := Nat.lt_trans hlt hpl
  clear hg3 g3
  go_wp2_with fail
  refine (RS.out _).mono ?_
  rintro e w4 ⟨rfl, hg4⟩
  have c0 : w4.cell? ⟨w3.heap.size, 0, none⟩ = some (.string r1) := hg4.own.1 0 _ rfl
  have c1 : w4.cell? ⟨w3.heap.size, 1, none⟩ = some (.int .i64 (e1 : Nat)) := hg4.own.1 1 _ rfl
  have y0 := hg4.own.2.1 0
  have y1 := hg4.own.2.1 1
  have g4 := ((Gr.refl w3).alloc _).trans hg4
  have hcl := hg4.own.2.2
  replace q0 := g4.cell q0
  replace q1 := g4.cell q1
  replace q2 := g4.cell q2
  replace p0 := g4.cell p0
  replace p1 := g4.cell p1
  replace x0 := (g4.frozen hlt3).trans x0
  replace x1 := (g4.frozen hlt3).trans x1
  replace x2 := (g4.frozen hlt3).trans x2
  have HG4 := Lib.hid (HG3.out.trans g4)
  clear hg4 g4
  have HLE := Lib.hid (show w.heap.size ≤ w3.heap.size by omega)
  generalize w3.heap.size = cb at *
  generalize w2.heap.size = pb at *
  have HRB := Lib.hid (show w.heap.size ≤ w.heap.size from Nat.le_refl _)
  generalize hrb : w.heap.size = rb at *
  have n1 := Lib.hid (show rb ≠ cb by omega)
  have n2 := Lib.hid (show pb ≠ cb by omega)
  have n3 := Lib.hid (show pb ≠ rb by omega)
  have n4 := Lib.hid (show w.heap.size ≤ rb by omega)
  have n5 := Lib.hid (show w.heap.size ≤ cb by omega)
  have n6 := Lib.hid (show rb < w4.heap.size by omega)
  clear hlt hpl hlt3 hcl hrb HRB HLE HG2 HG3
  go_wp2_with fail
  have S2 := (Sole.setCell cb 0 w4 (.string r2)).trans (Sole.setCell cb 1 (w4.setCell ⟨cb, 0, none⟩ (.string r2)) (.int .i64 (e2 : Nat)))
  obtain ⟨d0, d1, df⟩ := two_set (.string r2) (.int .i64 (e2 : Nat)) c0 c1
  replace y0 := (df 0).trans y0
  replace y1 := (df 1).trans y1
  replace q0 := S2.cell n1.out q0
  replace q1 := S2.cell n1.out q1
  replace q2 := S2.cell n1.out q2
  replace p0 := S2.cell n2.out p0
  replace p1 := S2.cell n2.out p1
  replace x0 := (S2.frozen n1.out n6.out).trans x0
  replace x1 := (S2.frozen n1.out n6.out).trans x1
  replace x2 := (S2.frozen n1.out n6.out).trans x2
  have HG5 := Lib.hid (S2.gr HG4.out n5.out)
  clear S2 df c0 c1 HG4 n6
  generalize (w4.setCell ⟨cb, 0, none⟩ (.string r2)).setCell ⟨cb, 1, none⟩ (.int .i64 (e2 : Nat)) = w5 at *
  refine (RD.out _).mono ?_
  rintro e w6 ⟨rfl, g6⟩
  have l5 := cell_lt q0
  have l6 := cell_lt d0
  replace q0 := g6.cell q0
  replace q1 := g6.cell q1
  replace q2 := g6.cell q2
  replace p0 := g6.cell p0
  replace p1 := g6.cell p1
  replace d0 := g6.cell d0
  replace d1 := g6.cell d1
  replace x0 := (g6.frozen l5).trans x0
  replace x1 := (g6.frozen l5).trans x1
  replace x2 := (g6.frozen l5).trans x2
  replace y0 := (g6.frozen l6).trans y0
  replace y1 := (g6.frozen l6).trans y1
  have HG6 := Lib.hid (HG5.out.trans g6)
  clear g6 HG5 l5 l6
  have l7 := cell_lt q0
  have S2 := (Sole.setCell cb 0 w6 (.string r2)).trans (Sole.setCell cb 1 (w6.setCell ⟨cb, 0, none⟩ (.string r2)) (.int .i64 (d : Nat)))
  have h7 := two_set (.string r2) (.int .i64 (d : Nat)) d0 d1
  have Q := Lib.hid (And.intro (S2.cell n1.out q0) (And.intro (S2.cell n1.out q1) (S2.cell n1.out q2)))
  have P := Lib.hid (And.intro (S2.cell n2.out p0) (S2.cell n2.out p1))
  have X := Lib.hid (And.intro ((S2.frozen n1.out l7).trans x0) (And.intro ((S2.frozen n1.out l7).trans x1) ((S2.frozen n1.out l7).trans x2)))
  have HC7 := Lib.hid h7.2.1
  have HG7 := Lib.hid (S2.gr HG6.out n5.out)
  have pp0 := P.out.1
  have pp1 := P.out.2
  have cc := HC7.out
  have v0 := Q.out.1
  have v1 := Q.out.2.1
  have v2 := Q.out.2.2
  have z0 := X.out.1
  have z1 := X.out.2.1
  have z2 := X.out.2.2
  clear S2 h7 l7 q0 q1 q2 p0 p1 x0 x1 x2
  go_wp2
  generalize (w6.setCell ⟨cb, 0, none⟩ (.string r2)).setCell ⟨cb, 1, none⟩ (.int .i64 (d : Nat)) = w7 at *
  obtain ⟨u0, u1, u2⟩ := three_set (.int .u64 0) (.string ⟨#[]⟩) (.bool true) v0 v1 v2
  refine bodyPost_ret (v := .agg #[.int .u64 0, .string ⟨#[]⟩, .bool true]) (by simp [results, Try.results57, go_sem, u0, u1, u2]; try rfl) rfl ?_
  exact rpIs_mk E (((HG7.out.setCell (p := ⟨rb, 0, none⟩) n4.out _).setCell (p := ⟨rb, 1, none⟩) n4.out _).setCell (p := ⟨rb, 2, none⟩) n4.out _)
set_option maxRecDepth 100000 in
set_option maxHeartbeats 1000000 in
theorem refParse_bad2 (s p r1 r2 t : ByteArray) (k n e1 v e2 d : Nat) (w : World) (hq : s.toList.isEmpty = false)
    (RO : Hid (∀ w, Calls Try.prog 73 #[.string s] w fun e w' => e = .returned (.tuple #[.agg #[.int .u8 k, .string p], .int .i64 n]) ∧ Gr w w'))
    (RU : Hid (∀ w, Calls Try.prog 74 #[.agg #[.string p, .int .i64 0]] w fun e w' => e = .returned (.tuple #[.agg #[.string r1, .int .i64 (e1 : Int)], .int .u64 (v : Int)]) ∧ Gr w w'))
    (RS : Hid (∀ w, Calls Try.prog 75 #[.agg #[.string r1, .int .i64 (e1 : Int)], .int .i64 524288] w fun e w' => e = .returned (.tuple #[.agg #[.string r2, .int .i64 (e2 : Int)], .string t]) ∧ Gr w w'))
    (RD : Hid (∀ w, Calls Try.prog 76 #[.agg #[.string r2, .int .i64 (e2 : Int)]] w fun e w' => e = .returned (.agg #[.string r2, .int .i64 (d : Int)]) ∧ Gr w w'))
    (hp : p.size ≤ 500000) (hs : s.size ≤ 500000) (f0 : ((n : Int) != 0) = false) (f1 : ((k : Int) != 1) = false) (f2 : ((p.size : Int) + 8 != s.size) = true)
    (E : Hid (parseB s = (0, ⟨#[]⟩, true))) :
    Calls Try.prog 57 #[.string s] w (RPIs s w) := by
  go_enter Try.func57, Try.ntmps57
  go_wp2_with fail
  refine (RO.out _).mono ?_
  rintro e w2 ⟨rfl, hg2⟩
  have q0 : w2.cell? ⟨w.heap.size, 0, none⟩ = some (.int .u64 0) := hg2.own.1 0 _ rfl
  have q1 : w2.cell? ⟨w.heap.size, 1, none⟩ = some (.string ⟨#[]⟩) := hg2.own.1 1 _ rfl
  have q2 : w2.cell? ⟨w.heap.size, 2, none⟩ = some (.bool false) := hg2.own.1 2 _ rfl
  have x0 := hg2.own.2.1 0
  have x1 := hg2.own.2.1 1
  have x2 := hg2.own.2.1 2
  have hlt := hg2.own.2.2
  have HG2 := Lib.hid (((Gr.refl w).alloc _).trans hg2)
  clear hg2
  go_wp2_with fail
  refine (RU.out _).mono ?_
  rintro e w3 ⟨rfl, hg3⟩
  have p0 : w3.cell? ⟨w2.heap.size, 0, none⟩ = some (.int .u8 (k : Nat)) := hg3.own.1 0 _ rfl
  have p1 : w3.cell? ⟨w2.heap.size, 1, none⟩ = some (.string p) := hg3.own.1 1 _ rfl
  have g3 := ((Gr.refl w2).alloc _).trans hg3
  have hpl := hg3.own.2.2
  replace q0 := g3.cell q0
  replace q1 := g3.cell q1
  replace q2 := g3.cell q2
  replace x0 := (g3.frozen hlt).trans x0
  replace x1 := (g3.frozen hlt).trans x1
  replace x2 := (g3.frozen hlt).trans x2
  have HG3 := Lib.hid (HG2.out.trans g3)
  have hlt3 := Nat.lt_trans hlt hpl
  clear hg3 g3
  go_wp2_with fail
  refine (RS.out _).mono ?_
  rintro e w4 ⟨rfl, hg4⟩
  have c0 : w4.cell? ⟨w3.heap.size, 0, none⟩ = some (.string r1) := hg4.own.1 0 _ rfl
  have c1 : w4.cell? ⟨w3.heap.size, 1, none⟩ = some (.int .i64 (e1 : Nat)) := hg4.own.1 1 _ rfl
  have y0 := hg4.own.2.1 0
  have y1 := hg4.own.2.1 1
  have g4 := ((Gr.refl w3).alloc _).trans hg4
  have hcl := hg4.own.2.2
  replace q0 := g4.cell q0
  replace q1 := g4.cell q1
  replace q2 := g4.cell q2
  replace p0 := g4.cell p0
  replace p1 := g4.cell p1
  replace x0 := (g4.frozen hlt3).trans x0
  replace x1 := (g4.frozen hlt3).trans x1
  replace x2 := (g4.frozen hlt3).trans x2
  have HG4 := Lib.hid (HG3.out.trans g4)
  clear hg4 g4
  have HLE := Lib.hid (show w.heap.size ≤ w3.heap.size by omega)
  generalize w3.heap.size = cb at *
  generalize w2.heap.size = pb at *
  have HRB := Lib.hid (show w.heap.size ≤ w.heap.size from Nat.le_refl _)
  generalize hrb : w.heap.size = rb at *
  have n1 := Lib.hid (show rb ≠ cb by omega)
  have n2 := Lib.hid (show pb ≠ cb by omega)
  have n3 := Lib.hid (show pb ≠ rb by omega)
  have n4 := Lib.hid (show w.heap.size ≤ rb by omega)
  have n5 := Lib.hid (show w.heap.size ≤ cb by omega)
  have n6 := Lib.hid (show rb < w4.heap.size by omega)
  clear hlt hpl hlt3 hcl hrb HRB HLE HG2 HG3
  go_wp2_with fail
  have S2 := (Sole.setCell cb 0 w4 (.string r2)).trans (Sole.setCell cb 1 (w4.setCell ⟨cb, 0, none⟩ (.string r2)) (.int .i64 (e2 : Nat)))
  obtain ⟨d0, d1, df⟩ := two_set (.string r2) (.int .i64 (e2 : Nat)) c0 c1
  replace y0 := (df 0).trans y0
  replace y1 := (df 1).trans y1
  replace q0 := S2.cell n1.out q0
  replace q1 := S2.cell n1.out q1
  replace q2 := S2.cell n1.out q2
  replace p0 := S2.cell n2.out p0
  replace p1 := S2.cell n2.out p1
  replace x0 := (S2.frozen n1.out n6.out).trans x0
  replace x1 := (S2.frozen n1.out n6.out).trans x1
  replace x2 := (S2.frozen n1.out n6.out).trans x2
  have HG5 := Lib.hid (S2.gr HG4.out n5.out)
  clear S2 df c0 c1 HG4 n6
  generalize (w4.setCell ⟨cb, 0, none⟩ (.string r2)).setCell ⟨cb, 1, none⟩ (.int .i64 (e2 : Nat)) = w5 at *
  refine (RD.out _).mono ?_
  rintro e w6 ⟨rfl, g6⟩
  have l5 := cell_lt q0
  have l6 := cell_lt d0
  replace q0 := g6.cell q0
  replace q1 := g6.cell q1
  replace q2 := g6.cell q2
  replace p0 := g6.cell p0
  replace p1 := g6.cell p1
  replace d0 := g6.cell d0
  replace d1 := g6.cell d1
  replace x0 := (g6.frozen l5).trans x0
  replace x1 := (g6.frozen l5).trans x1
  replace x2 := (g6.frozen l5).trans x2
  replace y0 := (g6.frozen l6).trans y0
  replace y1 := (g6.frozen l6).trans y1
  have HG6 := Lib.hid (HG5.out.trans g6)
  clear g6 HG5 l5 l6
  have l7 := cell_lt q0
  have S2 := (Sole.setCell cb 0 w6 (.string r2)).trans (Sole.setCell cb 1 (w6.setCell ⟨cb, 0, none⟩ (.string r2)) (.int .i64 (d : Nat)))
  have h7 := two_set (.string r2) (.int .i64 (d : Nat)) d0 d1
  have Q := Lib.hid (And.intro (S2.cell n1.out q0) (And.intro (S2.cell n1.out q1) (S2.cell n1.out q2)))
  have P := Lib.hid (And.intro (S2.cell n2.out p0) (S2.cell n2.out p1))
  have X := Lib.hid (And.intro ((S2.frozen n1.out l7).trans x0) (And.intro ((S2.frozen n1.out l7).trans x1) ((S2.frozen n1.out l7).trans x2)))
  have HC7 := Lib.hid h7.2.1
  have HG7 := Lib.hid (S2.gr HG6.out n5.out)
  have pp0 := P.out.1
  have pp1 := P.out.2
  have cc := HC7.out
  have v0 := Q.out.1
  have v1 := Q.out.2.1
  have v2 := Q.out.2.2
  have z0 := X.out.1
  have z1 := X.out.2.1
  have z2 := X.out.2.2
  clear S2 h7 l7 q0 q1 q2 p0 p1 x0 x1 x2
  go_wp2
  generalize (w6.setCell ⟨cb, 0, none⟩ (.string r2)).setCell ⟨cb, 1, none⟩ (.int .i64 (d : Nat)) = w7 at *
  obtain ⟨u0, u1, u2⟩ := three_set (.int .u64 0) (.string ⟨#[]⟩) (.bool true) v0 v1 v2
  refine bodyPost_ret (v := .agg #[.int .u64 0, .string ⟨#[]⟩, .bool true]) (by simp [results, Try.results57, go_sem, u0, u1, u2]; try rfl) rfl ?_
  exact rpIs_mk E (((HG7.out.setCell (p := ⟨rb, 0, none⟩) n4.out _).setCell (p := ⟨rb, 1, none⟩) n4.out _).setCell (p := ⟨rb, 2, none⟩) n4.out _)
set_option maxRecDepth 100000 in
set_option maxHeartbeats 1000000 in
theorem refParse_bad3 (s p r1 r2 t : ByteArray) (k n e1 v e2 d : Nat) (w : World) (hq : s.toList.isEmpty = false)
    (RO : Hid (∀ w, Calls Try.prog 73 #[.string s] w fun e w' => e = .returned (.tuple #[.agg #[.int .u8 k, .string p], .int .i64 n]) ∧ Gr w w'))
    (RU : Hid (∀ w, Calls Try.prog 74 #[.agg #[.string p, .int .i64 0]] w fun e w' => e = .returned (.tuple #[.agg #[.string r1, .int .i64 (e1 : Int)], .int .u64 (v : Int)]) ∧ Gr w w'))
    (RS : Hid (∀ w, Calls Try.prog 75 #[.agg #[.string r1, .int .i64 (e1 : Int)], .int .i64 524288] w fun e w' => e = .returned (.tuple #[.agg #[.string r2, .int .i64 (e2 : Int)], .string t]) ∧ Gr w w'))
    (RD : Hid (∀ w, Calls Try.prog 76 #[.agg #[.string r2, .int .i64 (e2 : Int)]] w fun e w' => e = .returned (.agg #[.string r2, .int .i64 (d : Int)]) ∧ Gr w w'))
    (hp : p.size ≤ 500000) (hs : s.size ≤ 500000) (f0 : ((n : Int) != 0) = false) (f1 : ((k : Int) != 1) = false) (f2 : ((p.size : Int) + 8 != s.size) = false) (f3 : ((d : Int) != 0) = true)
    (E : Hid (parseB s = (0, ⟨#[]⟩, true))) :
    Calls Try.prog 57 #[.string s] w (RPIs s w) := by
  go_enter Try.func57, Try.ntmps57
  go_wp2_with fail
  refine (RO.out _).mono ?_
  rintro e w2 ⟨rfl, hg2⟩
  have q0 : w2.cell? ⟨w.heap.size, 0, none⟩ = some (.int .u64 0) := hg2.own.1 0 _ rfl
  have q1 : w2.cell? ⟨w.heap.size, 1, none⟩ = some (.string ⟨#[]⟩) := hg2.own.1 1 _ rfl
  have q2 : w2.cell? ⟨w.heap.size, 2, none⟩ = some (.bool false) := hg2.own.1 2 _ rfl
  have x0 := hg2.own.2.1 0
  have x1 := hg2.own.2.1 1
  have x2 := hg2.own.2.1 2
  have hlt := hg2.own.2.2
  have HG2 := Lib.hid (((Gr.refl w).alloc _).trans hg2)
  clear hg2
  go_wp2_with fail
  refine (RU.out _).mono ?_
  rintro e w3 ⟨rfl, hg3⟩
  have p0 : w3.cell? ⟨w2.heap.size, 0, none⟩ = some (.int .u8 (k : Nat)) := hg3.own.1 0 _ rfl
  have p1 : w3.cell? ⟨w2.heap.size, 1, none⟩ = some (.string p) := hg3.own.1 1 _ rfl
  have g3 := ((Gr.refl w2).alloc _).trans hg3
  have hpl := hg3.own.2.2
  replace q0 := g3.cell q0
  replace q1 := g3.cell q1
  replace q2 := g3.cell q2
  replace x0 := (g3.frozen hlt).trans x0
  replace x1 := (g3.frozen hlt).trans x1
  replace x2 := (g3.frozen hlt).trans x2
  have HG3 := Lib.hid (HG2.out.trans g3)
  have hlt3 := Nat.lt_trans hlt hpl
  clear hg3 g3
  go_wp2_with fail
  refine (RS.out _).mono ?_
  rintro e w4 ⟨rfl, hg4⟩
  have c0 : w4.cell? ⟨w3.heap.size, 0, none⟩ = some (.string r1) := hg4.own.1 0 _ rfl
  have c1 : w4.cell? ⟨w3.heap.size, 1, none⟩ = some (.int .i64 (e1 : Nat)) := hg4.own.1 1 _ rfl
  have y0 := hg4.own.2.1 0
  have y1 := hg4.own.2.1 1
  have g4 := ((Gr.refl w3).alloc _).trans hg4
  have hcl := hg4.own.2.2
  replace q0 := g4.cell q0
  replace q1 := g4.cell q1
  replace q2 := g4.cell q2
  replace p0 := g4.cell p0
  replace p1 := g4.cell p1
  replace x0 := (g4.frozen hlt3).trans x0
  replace x1 := (g4.frozen hlt3).trans x1
  replace x2 := (g4.frozen hlt3).trans x2
  have HG4 := Lib.hid (HG3.out.trans g4)
  clear hg4 g4
  have HLE := Lib.hid (show w.heap.size ≤ w3.heap.size by omega)
  generalize w3.heap.size = cb at *
  generalize w2.heap.size = pb at *
  have HRB := Lib.hid (show w.heap.size ≤ w.heap.size from Nat.le_refl _)
  generalize hrb : w.heap.size = rb at *
  have n1 := Lib.hid (show rb ≠ cb by omega)
  have n2 := Lib.hid (show pb ≠ cb by omega)
  have n3 := Lib.hid (show pb ≠ rb by omega)
  have n4 := Lib.hid (show w.heap.size ≤ rb by omega)
  have n5 := Lib.hid (show w.heap.size ≤ cb by omega)
  have n6 := Lib.hid (show rb < w4.heap.size by omega)
  clear hlt hpl hlt3 hcl hrb HRB HLE HG2 HG3
  go_wp2_with fail
  have S2 := (Sole.setCell cb 0 w4 (.string r2)).trans (Sole.setCell cb 1 (w4.setCell ⟨cb, 0, none⟩ (.string r2)) (.int .i64 (e2 : Nat)))
  obtain ⟨d0, d1, df⟩ := two_set (.string r2) (.int .i64 (e2 : Nat)) c0 c1
  replace y0 := (df 0).trans y0
  replace y1 := (df 1).trans y1
  replace q0 := S2.cell n1.out q0
  replace q1 := S2.cell n1.out q1
  replace q2 := S2.cell n1.out q2
  replace p0 := S2.cell n2.out p0
  replace p1 := S2.cell n2.out p1
  replace x0 := (S2.frozen n1.out n6.out).trans x0
  replace x1 := (S2.frozen n1.out n6.out).trans x1
  replace x2 := (S2.frozen n1.out n6.out).trans x2
  have HG5 := Lib.hid (S2.gr HG4.out n5.out)
  clear S2 df c0 c1 HG4 n6
  generalize (w4.setCell ⟨cb, 0, none⟩ (.string r2)).setCell ⟨cb, 1, none⟩ (.int .i64 (e2 : Nat)) = w5 at *
  refine (RD.out _).mono ?_
  rintro e w6 ⟨rfl, g6⟩
  have l5 := cell_lt q0
  have l6 := cell_lt d0
  replace q0 := g6.cell q0
  replace q1 := g6.cell q1
  replace q2 := g6.cell q2
  replace p0 := g6.cell p0
  replace p1 := g6.cell p1
  replace d0 := g6.cell d0
  replace d1 := g6.cell d1
  replace x0 := (g6.frozen l5).trans x0
  replace x1 := (g6.frozen l5).trans x1
  replace x2 := (g6.frozen l5).trans x2
  replace y0 := (g6.frozen l6).trans y0
  replace y1 := (g6.frozen l6).trans y1
  have HG6 := Lib.hid (HG5.out.trans g6)
  clear g6 HG5 l5 l6
  have l7 := cell_lt q0
  have S2 := (Sole.setCell cb 0 w6 (.string r2)).trans (Sole.setCell cb 1 (w6.setCell ⟨cb, 0, none⟩ (.string r2)) (.int .i64 (d : Nat)))
  have h7 := two_set (.string r2) (.int .i64 (d : Nat)) d0 d1
  have Q := Lib.hid (And.intro (S2.cell n1.out q0) (And.intro (S2.cell n1.out q1) (S2.cell n1.out q2)))
  have P := Lib.hid (And.intro (S2.cell n2.out p0) (S2.cell n2.out p1))
  have X := Lib.hid (And.intro ((S2.frozen n1.out l7).trans x0) (And.intro ((S2.frozen n1.out l7).trans x1) ((S2.frozen n1.out l7).trans x2)))
  have HC7 := Lib.hid h7.2.1
  have HG7 := Lib.hid (S2.gr HG6.out n5.out)
  have pp0 := P.out.1
  have pp1 := P.out.2
  have cc := HC7.out
  have v0 := Q.out.1
  have v1 := Q.out.2.1
  have v2 := Q.out.2.2
  have z0 := X.out.1
  have z1 := X.out.2.1
  have z2 := X.out.2.2
  clear S2 h7 l7 q0 q1 q2 p0 p1 x0 x1 x2
  go_wp2
  generalize (w6.setCell ⟨cb, 0, none⟩ (.string r2)).setCell ⟨cb, 1, none⟩ (.int .i64 (d : Nat)) = w7 at *
  obtain ⟨u0, u1, u2⟩ := three_set (.int .u64 0) (.string ⟨#[]⟩) (.bool true) v0 v1 v2
  refine bodyPost_ret (v := .agg #[.int .u64 0, .string ⟨#[]⟩, .bool true]) (by simp [results, Try.results57, go_sem, u0, u1, u2]; try rfl) rfl ?_
  exact rpIs_mk E (((HG7.out.setCell (p := ⟨rb, 0, none⟩) n4.out _).setCell (p := ⟨rb, 1, none⟩) n4.out _).setCell (p := ⟨rb, 2, none⟩) n4.out _)
set_option maxRecDepth 100000 in
set_option maxHeartbeats 1000000 in
theorem refParse_bad4 (s p r1 r2 t : ByteArray) (k n e1 v e2 d : Nat) (w : World) (hq : s.toList.isEmpty = false)
    (RO : Hid (∀ w, Calls Try.prog 73 #[.string s] w fun e w' => e = .returned (.tuple #[.agg #[.int .u8 k, .string p], .int .i64 n]) ∧ Gr w w'))
    (RU : Hid (∀ w, Calls Try.prog 74 #[.agg #[.string p, .int .i64 0]] w fun e w' => e = .returned (.tuple #[.agg #[.string r1, .int .i64 (e1 : Int)], .int .u64 (v : Int)]) ∧ Gr w w'))
    (RS : Hid (∀ w, Calls Try.prog 75 #[.agg #[.string r1, .int .i64 (e1 : Int)], .int .i64 524288] w fun e w' => e = .returned (.tuple #[.agg #[.string r2, .int .i64 (e2 : Int)], .string t]) ∧ Gr w w'))
    (RD : Hid (∀ w, Calls Try.prog 76 #[.agg #[.string r2, .int .i64 (e2 : Int)]] w fun e w' => e = .returned (.agg #[.string r2, .int .i64 (d : Int)]) ∧ Gr w w'))
    (hp : p.size ≤ 500000) (hs : s.size ≤ 500000) (f0 : ((n : Int) != 0) = false) (f1 : ((k : Int) != 1) = false) (f2 : ((p.size : Int) + 8 != s.size) = false) (f3 : ((d : Int) != 0) = false) (f4 : ((v : Int) == 0) = true)
    (E : Hid (parseB s = (0, ⟨#[]⟩, true))) :
    Calls Try.prog 57 #[.string s] w (RPIs s w) := by
  go_enter Try.func57, Try.ntmps57
  go_wp2_with fail
  refine (RO.out _).mono ?_
  rintro e w2 ⟨rfl, hg2⟩
  have q0 : w2.cell? ⟨w.heap.size, 0, none⟩ = some (.int .u64 0) := hg2.own.1 0 _ rfl
  have q1 : w2.cell? ⟨w.heap.size, 1, none⟩ = some (.string ⟨#[]⟩) := hg2.own.1 1 _ rfl
  have q2 : w2.cell? ⟨w.heap.size, 2, none⟩ = some (.bool false) := hg2.own.1 2 _ rfl
  have x0 := hg2.own.2.1 0
  have x1 := hg2.own.2.1 1
  have x2 := hg2.own.2.1 2
  have hlt := hg2.own.2.2
  have HG2 := Lib.hid (((Gr.refl w).alloc _).trans hg2)
  clear hg2
  go_wp2_with fail
  refine (RU.out _).mono ?_
  rintro e w3 ⟨rfl, hg3⟩
  have p0 : w3.cell? ⟨w2.heap.size, 0, none⟩ = some (.int .u8 (k : Nat)) := hg3.own.1 0 _ rfl
  have p1 : w3.cell? ⟨w2.heap.size, 1, none⟩ = some (.string p) := hg3.own.1 1 _ rfl
  have g3 := ((Gr.refl w2).alloc _).trans hg3
  have hpl := hg3.own.2.2
  replace q0 := g3.cell q0
  replace q1 := g3.cell q1
  replace q2 := g3.cell q2
  replace x0 := (g3.frozen hlt).trans x0
  replace x1 := (g3.frozen hlt).trans x1
  replace x2 := (g3.frozen hlt).trans x2
  have HG3 := Lib.hid (HG2.out.trans g3)
  have hlt3 := Nat.lt_trans hlt hpl
  clear hg3 g3
  go_wp2_with fail
  refine (RS.out _).mono ?_
  rintro e w4 ⟨rfl, hg4⟩
  have c0 : w4.cell? ⟨w3.heap.size, 0, none⟩ = some (.string r1) := hg4.own.1 0 _ rfl
  have c1 : w4.cell? ⟨w3.heap.size, 1, none⟩ = some (.int .i64 (e1 : Nat)) := hg4.own.1 1 _ rfl
  have y0 := hg4.own.2.1 0
  have y1 := hg4.own.2.1 1
  have g4 := ((Gr.refl w3).alloc _).trans hg4
  have hcl := hg4.own.2.2
  replace q0 := g4.cell q0
  replace q1 := g4.cell q1
  replace q2 := g4.cell q2
  replace p0 := g4.cell p0
  replace p1 := g4.cell p1
  replace x0 := (g4.frozen hlt3).trans x0
  replace x1 := (g4.frozen hlt3).trans x1
  replace x2 := (g4.frozen hlt3).trans x2
  have HG4 := Lib.hid (HG3.out.trans g4)
  clear hg4 g4
  have HLE := Lib.hid (show w.heap.size ≤ w3.heap.size by omega)
  generalize w3.heap.size = cb at *
  generalize w2.heap.size = pb at *
  have HRB := Lib.hid (show w.heap.size ≤ w.heap.size from Nat.le_refl _)
  generalize hrb : w.heap.size = rb at *
  have n1 := Lib.hid (show rb ≠ cb by omega)
  have n2 := Lib.hid (show pb ≠ cb by omega)
  have n3 := Lib.hid (show pb ≠ rb by omega)
  have n4 := Lib.hid (show w.heap.size ≤ rb by omega)
  have n5 := Lib.hid (show w.heap.size ≤ cb by omega)
  have n6 := Lib.hid (show rb < w4.heap.size by omega)
  clear hlt hpl hlt3 hcl hrb HRB HLE HG2 HG3
  go_wp2_with fail
  have S2 := (Sole.setCell cb 0 w4 (.string r2)).trans (Sole.setCell cb 1 (w4.setCell ⟨cb, 0, none⟩ (.string r2)) (.int .i64 (e2 : Nat)))
  obtain ⟨d0, d1, df⟩ := two_set (.string r2) (.int .i64 (e2 : Nat)) c0 c1
  replace y0 := (df 0).trans y0
  replace y1 := (df 1).trans y1
  replace q0 := S2.cell n1.out q0
  replace q1 := S2.cell n1.out q1
  replace q2 := S2.cell n1.out q2
  replace p0 := S2.cell n2.out p0
  replace p1 := S2.cell n2.out p1
  replace x0 := (S2.frozen n1.out n6.out).trans x0
  replace x1 := (S2.frozen n1.out n6.out).trans x1
  replace x2 := (S2.frozen n1.out n6.out).trans x2
  have HG5 := Lib.hid (S2.gr HG4.out n5.out)
  clear S2 df c0 c1 HG4 n6
  generalize (w4.setCell ⟨cb, 0, none⟩ (.string r2)).setCell ⟨cb, 1, none⟩ (.int .i64 (e2 : Nat)) = w5 at *
  refine (RD.out _).mono ?_
  rintro e w6 ⟨rfl, g6⟩
  have l5 := cell_lt q0
  have l6 := cell_lt d0
  replace q0 := g6.cell q0
  replace q1 := g6.cell q1
  replace q2 := g6.cell q2
  replace p0 := g6.cell p0
  replace p1 := g6.cell p1
  replace d0 := g6.cell d0
  replace d1 := g6.cell d1
  replace x0 := (g6.frozen l5).trans x0
  replace x1 := (g6.frozen l5).trans x1
  replace x2 := (g6.frozen l5).trans x2
  replace y0 := (g6.frozen l6).trans y0
  replace y1 := (g6.frozen l6).trans y1
  have HG6 := Lib.hid (HG5.out.trans g6)
  clear g6 HG5 l5 l6
  have l7 := cell_lt q0
  have S2 := (Sole.setCell cb 0 w6 (.string r2)).trans (Sole.setCell cb 1 (w6.setCell ⟨cb, 0, none⟩ (.string r2)) (.int .i64 (d : Nat)))
  have h7 := two_set (.string r2) (.int .i64 (d : Nat)) d0 d1
  have Q := Lib.hid (And.intro (S2.cell n1.out q0) (And.intro (S2.cell n1.out q1) (S2.cell n1.out q2)))
  have P := Lib.hid (And.intro (S2.cell n2.out p0) (S2.cell n2.out p1))
  have X := Lib.hid (And.intro ((S2.frozen n1.out l7).trans x0) (And.intro ((S2.frozen n1.out l7).trans x1) ((S2.frozen n1.out l7).trans x2)))
  have HC7 := Lib.hid h7.2.1
  have HG7 := Lib.hid (S2.gr HG6.out n5.out)
  have pp0 := P.out.1
  have pp1 := P.out.2
  have cc := HC7.out
  have v0 := Q.out.1
  have v1 := Q.out.2.1
  have v2 := Q.out.2.2
  have z0 := X.out.1
  have z1 := X.out.2.1
  have z2 := X.out.2.2
  clear S2 h7 l7 q0 q1 q2 p0 p1 x0 x1 x2
  go_wp2
  generalize (w6.setCell ⟨cb, 0, none⟩ (.string r2)).setCell ⟨cb, 1, none⟩ (.int .i64 (d : Nat)) = w7 at *
  obtain ⟨u0, u1, u2⟩ := three_set (.int .u64 0) (.string ⟨#[]⟩) (.bool true) v0 v1 v2
  refine bodyPost_ret (v := .agg #[.int .u64 0, .string ⟨#[]⟩, .bool true]) (by simp [results, Try.results57, go_sem, u0, u1, u2]; try rfl) rfl ?_
  exact rpIs_mk E (((HG7.out.setCell (p := ⟨rb, 0, none⟩) n4.out _).setCell (p := ⟨rb, 1, none⟩) n4.out _).setCell (p := ⟨rb, 2, none⟩) n4.out _)
set_option maxRecDepth 100000 in
set_option maxHeartbeats 1000000 in
theorem refParse_good (s p r1 r2 t : ByteArray) (k n e1 v e2 d : Nat) (w : World) (hq : s.toList.isEmpty = false)
    (RO : Hid (∀ w, Calls Try.prog 73 #[.string s] w fun e w' => e = .returned (.tuple #[.agg #[.int .u8 k, .string p], .int .i64 n]) ∧ Gr w w'))
    (RU : Hid (∀ w, Calls Try.prog 74 #[.agg #[.string p, .int .i64 0]] w fun e w' => e = .returned (.tuple #[.agg #[.string r1, .int .i64 (e1 : Int)], .int .u64 (v : Int)]) ∧ Gr w w'))
    (RS : Hid (∀ w, Calls Try.prog 75 #[.agg #[.string r1, .int .i64 (e1 : Int)], .int .i64 524288] w fun e w' => e = .returned (.tuple #[.agg #[.string r2, .int .i64 (e2 : Int)], .string t]) ∧ Gr w w'))
    (RD : Hid (∀ w, Calls Try.prog 76 #[.agg #[.string r2, .int .i64 (e2 : Int)]] w fun e w' => e = .returned (.agg #[.string r2, .int .i64 (d : Int)]) ∧ Gr w w'))
    (hp : p.size ≤ 500000) (hs : s.size ≤ 500000) (f0 : ((n : Int) != 0) = false) (f1 : ((k : Int) != 1) = false) (f2 : ((p.size : Int) + 8 != s.size) = false) (f3 : ((d : Int) != 0) = false) (f4 : ((v : Int) == 0) = false)
    (E : Hid (parseB s = (v, t, false))) :
    Calls Try.prog 57 #[.string s] w (RPIs s w) := by
  go_enter Try.func57, Try.ntmps57
  go_wp2_with fail
  refine (RO.out _).mono ?_
  rintro e w2 ⟨rfl, hg2⟩
  have q0 : w2.cell? ⟨w.heap.size, 0, none⟩ = some (.int .u64 0) := hg2.own.1 0 _ rfl
  have q1 : w2.cell? ⟨w.heap.size, 1, none⟩ = some (.string ⟨#[]⟩) := hg2.own.1 1 _ rfl
  have q2 : w2.cell? ⟨w.heap.size, 2, none⟩ = some (.bool false) := hg2.own.1 2 _ rfl
  have x0 := hg2.own.2.1 0
  have x1 := hg2.own.2.1 1
  have x2 := hg2.own.2.1 2
  have hlt := hg2.own.2.2
  have HG2 := Lib.hid (((Gr.refl w).alloc _).trans hg2)
  clear hg2
  go_wp2_with fail
  refine (RU.out _).mono ?_
  rintro e w3 ⟨rfl, hg3⟩
  have p0 : w3.cell? ⟨w2.heap.size, 0, none⟩ = some (.int .u8 (k : Nat)) := hg3.own.1 0 _ rfl
  have p1 : w3.cell? ⟨w2.heap.size, 1, none⟩ = some (.string p) := hg3.own.1 1 _ rfl
  have g3 := ((Gr.refl w2).alloc _).trans hg3
  have hpl := hg3.own.2.2
  replace q0 := g3.cell q0
  replace q1 := g3.cell q1
  replace q2 := g3.cell q2
  replace x0 := (g3.frozen hlt).trans x0
  replace x1 := (g3.frozen hlt).trans x1
  replace x2 := (g3.frozen hlt).trans x2
  have HG3 := Lib.hid (HG2.out.trans g3)
  have hlt3 := Nat.lt_trans hlt hpl
  clear hg3 g3
  go_wp2_with fail
  refine (RS.out _).mono ?_
  rintro e w4 ⟨rfl, hg4⟩
  have c0 : w4.cell? ⟨w3.heap.size, 0, none⟩ = some (.string r1) := hg4.own.1 0 _ rfl
  have c1 : w4.cell? ⟨w3.heap.size, 1, none⟩ = some (.int .i64 (e1 : Nat)) := hg4.own.1 1 _ rfl
  have y0 := hg4.own.2.1 0
  have y1 := hg4.own.2.1 1
  have g4 := ((Gr.refl w3).alloc _).trans hg4
  have hcl := hg4.own.2.2
  replace q0 := g4.cell q0
  replace q1 := g4.cell q1
  replace q2 := g4.cell q2
  replace p0 := g4.cell p0
  replace p1 := g4.cell p1
  replace x0 := (g4.frozen hlt3).trans x0
  replace x1 := (g4.frozen hlt3).trans x1
  replace x2 := (g4.frozen hlt3).trans x2
  have HG4 := Lib.hid (HG3.out.trans g4)
  clear hg4 g4
  have HLE := Lib.hid (show w.heap.size ≤ w3.heap.size by omega)
  generalize w3.heap.size = cb at *
  generalize w2.heap.size = pb at *
  have HRB := Lib.hid (show w.heap.size ≤ w.heap.size from Nat.le_refl _)
  generalize hrb : w.heap.size = rb at *
  have n1 := Lib.hid (show rb ≠ cb by omega)
  have n2 := Lib.hid (show pb ≠ cb by omega)
  have n3 := Lib.hid (show pb ≠ rb by omega)
  have n4 := Lib.hid (show w.heap.size ≤ rb by omega)
  have n5 := Lib.hid (show w.heap.size ≤ cb by omega)
  have n6 := Lib.hid (show rb < w4.heap.size by omega)
  clear hlt hpl hlt3 hcl hrb HRB HLE HG2 HG3
  go_wp2_with fail
  have S2 := (Sole.setCell cb 0 w4 (.string r2)).trans (Sole.setCell cb 1 (w4.setCell ⟨cb, 0, none⟩ (.string r2)) (.int .i64 (e2 : Nat)))
  obtain ⟨d0, d1, df⟩ := two_set (.string r2) (.int .i64 (e2 : Nat)) c0 c1
  replace y0 := (df 0).trans y0
  replace y1 := (df 1).trans y1
  replace q0 := S2.cell n1.out q0
  replace q1 := S2.cell n1.out q1
  replace q2 := S2.cell n1.out q2
  replace p0 := S2.cell n2.out p0
  replace p1 := S2.cell n2.out p1
  replace x0 := (S2.frozen n1.out n6.out).trans x0
  replace x1 := (S2.frozen n1.out n6.out).trans x1
  replace x2 := (S2.frozen n1.out n6.out).trans x2
  have HG5 := Lib.hid (S2.gr HG4.out n5.out)
  clear S2 df c0 c1 HG4 n6
  generalize (w4.setCell ⟨cb, 0, none⟩ (.string r2)).setCell ⟨cb, 1, none⟩ (.int .i64 (e2 : Nat)) = w5 at *
  refine (RD.out _).mono ?_
  rintro e w6 ⟨rfl, g6⟩
  have l5 := cell_lt q0
  have l6 := cell_lt d0
  replace q0 := g6.cell q0
  replace q1 := g6.cell q1
  replace q2 := g6.cell q2
  replace p0 := g6.cell p0
  replace p1 := g6.cell p1
  replace d0 := g6.cell d0
  replace d1 := g6.cell d1
  replace x0 := (g6.frozen l5).trans x0
  replace x1 := (g6.frozen l5).trans x1
  replace x2 := (g6.frozen l5).trans x2
  replace y0 := (g6.frozen l6).trans y0
  replace y1 := (g6.frozen l6).trans y1
  have HG6 := Lib.hid (HG5.out.trans g6)
  clear g6 HG5 l5 l6
  have l7 := cell_lt q0
  have S2 := (Sole.setCell cb 0 w6 (.string r2)).trans (Sole.setCell cb 1 (w6.setCell ⟨cb, 0, none⟩ (.string r2)) (.int .i64 (d : Nat)))
  have h7 := two_set (.string r2) (.int .i64 (d : Nat)) d0 d1
  have Q := Lib.hid (And.intro (S2.cell n1.out q0) (And.intro (S2.cell n1.out q1) (S2.cell n1.out q2)))
  have P := Lib.hid (And.intro (S2.cell n2.out p0) (S2.cell n2.out p1))
  have X := Lib.hid (And.intro ((S2.frozen n1.out l7).trans x0) (And.intro ((S2.frozen n1.out l7).trans x1) ((S2.frozen n1.out l7).trans x2)))
  have HC7 := Lib.hid h7.2.1
  have HG7 := Lib.hid (S2.gr HG6.out n5.out)
  have pp0 := P.out.1
  have pp1 := P.out.2
  have cc := HC7.out
  have v0 := Q.out.1
  have v1 := Q.out.2.1
  have v2 := Q.out.2.2
  have z0 := X.out.1
  have z1 := X.out.2.1
  have z2 := X.out.2.2
  clear S2 h7 l7 q0 q1 q2 p0 p1 x0 x1 x2
  go_wp2
  generalize (w6.setCell ⟨cb, 0, none⟩ (.string r2)).setCell ⟨cb, 1, none⟩ (.int .i64 (d : Nat)) = w7 at *
  obtain ⟨u0, u1, u2⟩ := three_set (.int .u64 (v : Nat)) (.string t) (.bool false) v0 v1 v2
  refine bodyPost_ret (v := .agg #[.int .u64 (v : Nat), .string t, .bool false]) (by simp [results, Try.results57, go_sem, u0, u1, u2]; try rfl) rfl ?_
  exact rpIs_mk E (((HG7.out.setCell (p := ⟨rb, 0, none⟩) n4.out _).setCell (p := ⟨rb, 1, none⟩) n4.out _).setCell (p := ⟨rb, 2, none⟩) n4.out _)
theorem refParse_any (s : ByteArray) (w : World) (hs : s.size ≤ 500000) : Calls Try.prog 57 #[.string s] w (RPIs s w) := by
  by_cases h0 : s = ⟨#[]⟩
  · subst h0; exact refParse_empty w
  · have hq : s.toList.isEmpty = false := isEmpty_of (by
      rcases Nat.eq_zero_or_pos s.size with h | h
      · exact absurd (empty_of h) h0
      · exact h)
    obtain ⟨k, p, n, hO⟩ : ∃ k p n, openB s = (k, p, n) := ⟨_, _, _, rfl⟩
    obtain ⟨r1, e1, v, hU⟩ : ∃ r1 e1 v, uS p 0 = (r1, e1, v) := ⟨_, _, _, rfl⟩
    obtain ⟨r2, e2, t, hS⟩ : ∃ r2 e2 t, sS r1 e1 524288 = (r2, e2, t) := ⟨_, _, _, rfl⟩
    have hp : p.size ≤ 500000 := by have := openB_in s; rw [hO] at this; exact Nat.le_trans this hs
    have hr1 : r1.size ≤ 500000 := by have := uS_left p 0; rw [hU] at this; exact Nat.le_trans this hp
    have RO : Hid (∀ w, Calls Try.prog 73 #[.string s] w fun e w' => e = .returned (.tuple #[.agg #[.int .u8 k, .string p], .int .i64 n]) ∧ Gr w w') := Lib.hid fun w => (ropen_any s w (by omega)).mono fun e w' h => ropen_is hO h
    have RU := Lib.hid (fun w => ru_is hU w (by omega))
    have RS := Lib.hid (fun w => rs_is hS w (by omega) (by decide))
    have RD := Lib.hid (fun w => refDone_any r2 e2 w)
    have key := parse_ref hs h0 hO hU hS
    generalize doneE r2 e2 = d at *
    by_cases f0 : n = 0
    · by_cases f1 : k = 1
      · by_cases f2 : p.size + 8 = s.size
        · by_cases f3 : d = 0
          · by_cases f4 : v = 0
            · rcases key with ⟨_, _, _, _, h, _⟩ | ⟨_, E⟩
              · exact absurd f4 h
              · exact refParse_bad4 s p r1 r2 t k n e1 v e2 d w hq RO RU RS RD hp hs (by simp [f0]) (by simp [f1]) (by simp; omega) (by simp [f3]) (by simp [f4]) (Lib.hid E)
            · rcases key with ⟨_, _, _, _, _, E⟩ | ⟨h, _⟩
              · exact refParse_good s p r1 r2 t k n e1 v e2 d w hq RO RU RS RD hp hs (by simp [f0]) (by simp [f1]) (by simp; omega) (by simp [f3]) (by simp [f4]) (Lib.hid E)
              · exact absurd ⟨f0, f1, f2, f3, f4⟩ h
          · rcases key with ⟨_, _, _, h, _⟩ | ⟨_, E⟩
            · exact absurd h f3
            · exact refParse_bad3 s p r1 r2 t k n e1 v e2 d w hq RO RU RS RD hp hs (by simp [f0]) (by simp [f1]) (by simp; omega) (by simp; omega) (Lib.hid E)
        · rcases key with ⟨_, _, h, _⟩ | ⟨_, E⟩
          · exact absurd h f2
          · exact refParse_bad2 s p r1 r2 t k n e1 v e2 d w hq RO RU RS RD hp hs (by simp [f0]) (by simp [f1]) (by simp; omega) (Lib.hid E)
      · rcases key with ⟨_, h, _⟩ | ⟨_, E⟩
        · exact absurd h f1
        · exact refParse_bad1 s p r1 r2 t k n e1 v e2 d w hq RO RU RS RD hp hs (by simp [f0]) (by simp; omega) (Lib.hid E)
    · rcases key with ⟨h, _⟩ | ⟨_, E⟩
      · exact absurd h f0
      · exact refParse_bad0 s p r1 r2 t k n e1 v e2 d w hq RO RU RS RD hp hs (by simp; omega) (Lib.hid E)
end Go.Proofs.Ytfcfbecfamemlaa
