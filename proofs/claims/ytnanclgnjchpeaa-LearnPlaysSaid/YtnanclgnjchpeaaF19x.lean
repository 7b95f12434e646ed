import Derived.Test.YtnanclgnjchpeaaM19d
import Derived.WalkKit
import Derived.ProofKit
import Derived.LoopTactic
import Derived.Outline
import Derived.WalkSpells
import Derived.WalkLawsBesides
import Derived.Lib.Hide
import Derived.Deep.LoopGhost
import Derived.Deep.QuietTactic
import Derived.BigQuiet
import Derived.ShutString
namespace Go.Proofs.Ytnanclgnjchpeaa
open Go.ChangeShapes Go.WideShapes Go.ChangeAt Go.RowKit
open Bal
set_option linter.unusedVariables false
set_option linter.unusedSimpArgs false
theorem rows_apart2 {w : World} {b1 b2 n1 n2 k1 k2 : Nat} {t1 t2 : TypeId} {v1 v2 : Value} {x1 x2 : List Value} (h1 : w.ownsRow b1 t1 k1 v1 n1 x1) (h2 : w.ownsRow b2 t2 k2 v2 n2 x2) (hne : t1 ≠ t2) : ∀ k, v1.ownBlock = some k → v2.ownBlock ≠ some k := by
  intro k e1 e2
  rcases h1.2 with ⟨rfl, _⟩ | ⟨g, cap, cur, rfl, _, hc, _⟩
  · simp [Value.ownBlock] at e1
  · rcases h2.2 with ⟨rfl, _⟩ | ⟨g', cap', cur', rfl, _, hc', _⟩
    · simp [Value.ownBlock] at e2
    · simp only [Value.ownBlock, Option.some.injEq] at e1 e2
      subst e1; subst e2
      rw [hc] at hc'
      simp only [Option.some.injEq, Obj.cells.injEq] at hc'
      exact hne hc'.2.1
theorem blk_apart {w : World} {b c : Nat} {x y : Array Value} {t u : TypeId} (h : Blk w b x t) (k : Blk w c y u) (hne : t ≠ u) : b ≠ c := by
  rintro rfl
  have e := (show w.heap[b]? = _ from h).symm.trans k
  simp only [Option.some.injEq, Obj.cells.injEq] at e
  exact hne e.2.1
theorem LnIs.far19 {w0 w w' : World} {b c : Nat} {v v2 : Value} {a2 : Ln} (h : LnIs w0 w c v2 a2) (hf : Far b v w w') (hg : Gr w0 w') (hcb : c ≠ b) (hv : v.ownBlock ≠ some c) (h2 : v2.ownBlock ≠ some b) (hvv : ∀ k, v2.ownBlock = some k → v.ownBlock ≠ some k) : LnIs w0 w' c v2 a2 :=
  ⟨h.base, hg, h.blk.far hf hcb hv, ownsRow_far hf h.row h2 hvv⟩
/-- All that the law holds in a round. -/
structure PS19 (w0 wx : World) (pb b2 p7 p10 p12 pl : Nat) (v v2 : Value) (a a0 : Ln) (s s' : Rs) (lv lv' : Value) (K S : Int) (T : ByteArray) (F0 M0 : Int) : Prop where
  l : LnIs w0 wx pb v a
  was : LnIs w0 wx b2 v2 a0
  n1 : b2 ≠ pb
  n2 : v.ownBlock ≠ some b2
  n3 : ∀ k, v2.ownBlock = some k → v.ownBlock ≠ some k
  c7 : Blk wx p7 #[.int .i64 s.ba, .int .i64 s.dn, lv] 31
  c10 : Blk wx p10 #[.int .i64 K, .int .i64 S, .string T] 33
  c12 : Blk wx p12 #[.int .i64 s'.ba, .int .i64 s'.dn, lv'] 31
  n4 : p7 ≠ p12
  n5 : w0.heap.size ≤ p12
  n6 : w0.heap.size ≤ p7
  cl : Blk wx pl #[.int .i64 F0, .int .i64 M0] 26
  r : RRow wx lv s.M
  r' : RRow wx lv' s'.M
namespace PS19
variable {w0 wx wy : World} {pb b2 p7 p10 p12 pl : Nat} {v v2 : Value} {a a0 : Ln} {s s' : Rs} {lv lv' : Value} {K S : Int} {T : ByteArray} {F0 M0 : Int}
theorem gr (h : PS19 w0 wx pb b2 p7 p10 p12 pl v v2 a a0 s s' lv lv' K S T F0 M0) (hg : Gr wx wy) : PS19 w0 wy pb b2 p7 p10 p12 pl v v2 a a0 s s' lv lv' K S T F0 M0 :=
  ⟨h.l.gr hg, h.was.gr hg, h.n1, h.n2, h.n3, h.c7.gr hg, h.c10.gr hg, h.c12.gr hg, h.n4, h.n5, h.n6, h.cl.gr hg, ownsRow_gr hg h.r, ownsRow_gr hg h.r'⟩
theorem far (h : PS19 w0 wx pb b2 p7 p10 p12 pl v v2 a a0 s s' lv lv' K S T F0 M0) {a1 : Ln} (ht : LnTo w0 wx wy pb v a1) : ∃ v1, PS19 w0 wy pb b2 p7 p10 p12 pl v1 v2 a1 a0 s s' lv lv' K S T F0 M0 := by
  obtain ⟨v1, h1, hf, hv⟩ := ht
  have hb : ∀ {c : Nat} {cs : Array Value} {t : TypeId}, Blk wx c cs t → t ≠ 114 → t ≠ 44 → Blk wy c cs t := fun hc ht1 ht2 => hc.far hf (blk_apart hc h.l.blk ht1) (row_off hc h.l.row (Ne.symm (Ne.symm ht2)))
  have hr : ∀ {x : Value} {M : List RE}, RRow wx x M → RRow wy x M := fun hr => ownsRow_far hf hr (row_off h.l.blk hr (by decide)) (rows_apart2 hr h.l.row (by decide))
  refine ⟨v1, h1, h.was.far19 hf h1.grown h.n1 h.n2 (row_off h.l.blk h.was.row (by decide)) h.n3, h.n1, fun e => ?_, fun k e1 e2 => ?_, hb h.c7 (by decide) (by decide), hb h.c10 (by decide) (by decide), hb h.c12 (by decide) (by decide), h.n4, h.n5, h.n6, hb h.cl (by decide) (by decide), hr h.r, hr h.r'⟩
  · rcases hv _ e with h2 | h2
    · exact h.n2 h2
    · have := h.was.lt; omega
  · rcases hv _ e2 with h2 | h2
    · exact h.n3 k e1 h2
    · have := (h.was.row.lt _ e1).2; omega
theorem setCells {w : World} {p : Nat} {x0 x1 x2 : Value} {b : Nat} {cs : Array Value} {t : TypeId} (h : Blk w b cs t) (hne : b ≠ p) : Blk (((w.setCell ⟨p, 0, none⟩ x0).setCell ⟨p, 1, none⟩ x1).setCell ⟨p, 2, none⟩ x2) b cs t := ((h.other hne 0 x0).other hne 1 x1).other hne 2 x2
theorem setRow {w : World} {p n k : Nat} {base : Nat} {t : TypeId} {x0 x1 x2 u : Value} {xs : List Value} (h : w.ownsRow base t k u n xs) (hne : u.ownBlock ≠ some p) : (((w.setCell ⟨p, 0, none⟩ x0).setCell ⟨p, 1, none⟩ x1).setCell ⟨p, 2, none⟩ x2).ownsRow base t k u n xs :=
  ownsRow_setCell_other (a := ⟨p, 2, none⟩) (ownsRow_setCell_other (a := ⟨p, 1, none⟩) (ownsRow_setCell_other (a := ⟨p, 0, none⟩) h hne x0) hne x1) hne x2
theorem setLn {w : World} {p b : Nat} {u : Value} {a : Ln} {x0 x1 x2 : Value} (h : LnIs w0 w b u a) (h0 : w0.heap.size ≤ p) (hb : b ≠ p) (hu : u.ownBlock ≠ some p) : LnIs w0 (((w.setCell ⟨p, 0, none⟩ x0).setCell ⟨p, 1, none⟩ x1).setCell ⟨p, 2, none⟩ x2) b u a :=
  ⟨h.base, h.grown.store3 h0 x0 x1 x2, setCells h.blk hb, setRow h.row hu⟩
/-- A new state is stored where the next one lies. -/
theorem put12 (h : PS19 w0 wx pb b2 p7 p10 p12 pl v v2 a a0 s s' lv lv' K S T F0 M0) (s1 : Rs) (l1 : Value) (hr : RRow wx l1 s1.M) :
    PS19 w0 (((wx.setCell ⟨p12, 0, none⟩ (.int .i64 s1.ba)).setCell ⟨p12, 1, none⟩ (.int .i64 s1.dn)).setCell ⟨p12, 2, none⟩ l1) pb b2 p7 p10 p12 pl v v2 a a0 s s1 lv l1 K S T F0 M0 := by
  have e1 := blk_apart h.l.blk h.c12 (by decide)
  have e2 := blk_apart h.was.blk h.c12 (by decide)
  exact ⟨setLn h.l h.n5 e1 (row_off h.c12 h.l.row (by decide)), setLn h.was h.n5 e2 (row_off h.c12 h.was.row (by decide)), h.n1, h.n2, h.n3, setCells h.c7 h.n4, setCells h.c10 (blk_apart h.c10 h.c12 (by decide)), h.c12.store3 _ _ _, h.n4, h.n5, h.n6, setCells h.cl (blk_apart h.cl h.c12 (by decide)), setRow h.r (row_off h.c12 h.r (by decide)), setRow hr (row_off h.c12 hr (by decide))⟩
end PS19
end Go.Proofs.Ytnanclgnjchpeaa
