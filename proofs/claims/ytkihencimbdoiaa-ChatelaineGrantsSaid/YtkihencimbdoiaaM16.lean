import Derived.Test.YtkihencimbdoiaaF15r
import Derived.Test.YtkihencimbdoiaaM04b
import Derived.Test.YtkihencimbdoiaaH16b
import Derived.WalkKit
import Derived.ProofKit
import Derived.LoopTactic
import Derived.Outline
import Derived.WalkSpells
import Derived.WalkLawsBesides
import Derived.Lib.Hide
import Derived.Deep.LoopGhost
import Derived.Deep.QuietTactic
import Derived.BigQuiet
import Derived.ShutString
namespace Go.Proofs.Ytkihencimbdoiaa
open Go.ChangeShapes Go.WideShapes Go.ChangeAt Go.RowKit
open Rates
open Bal
set_option linter.unusedVariables false
set_option linter.unusedSimpArgs false
/-- Two clocks that fit so far; both have been judged. -/
structure TInv (P Q : Int) (c : Clk) (k : Nat) : Prop where
  n : c.n = 2
  b0 : c.by' 0 = 0
  b1 : c.by' 1 = 0
  t0 : c.now 0 ≤ 50 * (k : Int)
  t1 : c.now 1 ≤ 50 * (k : Int)
  ok : c.Ok
  f : fits P Q c.lo c.hi = true
theorem fits_self {P Q x : Int} (hg : good P Q = true) (h0 : 0 ≤ x) (h1 : x ≤ 1099511627776) : fits P Q x x = true := by
  have hg' := good_of hg
  rw [fits_iff hg h0 h1 h0 h1]
  have : x * Q ≤ x * P := Int.mul_le_mul_of_nonneg_left (by omega) h0
  exact ⟨this, this⟩
theorem tinv_new {P Q : Int} (hg : good P Q = true) : TInv P Q (newC 2) 0 :=
  ⟨rfl, rfl, rfl, by show (0 : Int) ≤ _; simp, by show (0 : Int) ≤ _; simp, newC_ok 2, fits_self hg (by decide) (by decide)⟩
theorem tinv_has {P Q : Int} {c : Clk} {k : Nat} (h : TInv P Q c k) : hasC c 0 = true ∧ hasC c 1 = true := by
  unfold hasC
  rw [h.n]
  exact ⟨by decide, by decide⟩
theorem tinv_now {P Q : Int} {c : Clk} {k : Nat} (h : TInv P Q c k) : nowC c 0 = c.now 0 ∧ nowC c 1 = c.now 1 := by
  unfold nowC
  rw [if_pos (tinv_has h).1, if_pos (tinv_has h).2]
  exact ⟨rfl, rfl⟩
theorem tinv_fits {P Q : Int} {c : Clk} {k : Nat} (h : TInv P Q c k) : fitsC c P Q = true := by
  unfold fitsC
  rw [h.f, Bool.or_true]
theorem next_in {c : Clk} {k : Nat} {d : Int} (h0 : 0 ≤ c.now k) (h1 : c.now k ≤ 100000) (d0 : 0 ≤ d) (d1 : d ≤ 100000) : nextC c k d = c.now k + d := by
  unfold nextC
  rw [lim_self h0 (by omega), lim_self d0 (by omega), lim_self (by omega) (by omega)]
theorem goC_in {c : Clk} {j : Nat} {d : Int} (hn : hasC c (j : Int) = true) (h0 : 0 ≤ c.now j) (h1 : c.now j ≤ 100000) (d0 : 0 ≤ d) (d1 : d ≤ 100000) :
    goC c (j : Int) d = ⟨c.n, upd c.now j (c.now j + d), upd c.by' j (c.by' j + d), c.lo, c.hi, c.jd⟩ := by
  unfold goC
  rw [if_pos hn, Int.toNat_natCast, next_in h0 h1 d0 d1, show c.now j + d - c.now j = d by omega]
theorem tinv_step {P Q : Int} {c : Clk} {k : Nat} {p q : Int} (h : TInv P Q c k) (hg : good P Q = true) (hk : k ≤ 60) (p0 : 0 ≤ p) (p1 : p ≤ 50) (q0 : 0 ≤ q) (q1 : q ≤ 50) (hf : fits P Q p q = true) :
    TInv P Q (stepC (goC (goC c 0 p) 1 q)) (k + 1) ∧ (stepC (goC (goC c 0 p) 1 q)).now 0 = c.now 0 + p ∧ (stepC (goC (goC c 0 p) 1 q)).now 1 = c.now 1 + q := by
  have ho0 := h.ok.now 0
  have ho1 := h.ok.now 1
  have ht0 := h.t0
  have ht1 := h.t1
  have hu : (upd c.now 0 (c.now 0 + p)) 1 = c.now 1 := upd_other _ _ (by decide)
  have hv : (upd c.by' 0 (c.by' 0 + p)) 1 = 0 := by rw [upd_other _ _ (by decide)]; exact h.b1
  have e1 := goC_in (c := c) (j := 0) (d := p) (tinv_has h).1 ho0.1 (by omega) p0 (by omega)
  have e2 := goC_in (c := ⟨c.n, upd c.now 0 (c.now 0 + p), upd c.by' 0 (c.by' 0 + p), c.lo, c.hi, c.jd⟩) (j := 1) (d := q) (tinv_has h).2 (by show 0 ≤ (upd c.now 0 (c.now 0 + p)) 1; rw [hu]; exact ho1.1) (by show (upd c.now 0 (c.now 0 + p)) 1 ≤ _; rw [hu]; omega) q0 (by omega)
  have hok2 := goC_ok (goC_ok h.ok 0 p) 1 q
  rw [show ((0 : Nat) : Int) = 0 from rfl] at e1
  rw [show ((1 : Nat) : Int) = 1 from rfl] at e2
  rw [e1, e2] at hok2 ⊢
  dsimp only at hok2 ⊢
  generalize hc2 : Clk.mk c.n (upd (upd c.now 0 (c.now 0 + p)) 1 ((upd c.now 0 (c.now 0 + p)) 1 + q)) (upd (upd c.by' 0 (c.by' 0 + p)) 1 ((upd c.by' 0 (c.by' 0 + p)) 1 + q)) c.lo c.hi c.jd = c2 at *
  have n2 : c2.n = 2 := by rw [← hc2]; exact h.n
  have w0 : c2.now 0 = c.now 0 + p := by rw [← hc2]; simp [upd]
  have w1 : c2.now 1 = c.now 1 + q := by rw [← hc2]; simp [upd]
  have hlo : c2.lo = c.lo := by rw [← hc2]
  have hhi : c2.hi = c.hi := by rw [← hc2]
  have hby : byL c2 = [p, q] := by
    unfold byL
    rw [n2, show List.range 2 = [0, 1] from rfl]
    rw [← hc2]
    simp [upd, h.b0, h.b1]
  clear hc2 e1 e2
  have e3 : stepC c2 = clearC (judgeC c2 (Lib.minOf (byL c2)) (Lib.maxOf (byL c2))) := by
    unfold stepC
    rw [if_pos (show 1 < c2.n by rw [n2]; decide)]
  have hb2 : ∀ x ∈ byL c2, x = p ∨ x = q := by rw [hby]; simp
  have hmn := (min_facts (L := byL c2) (by rw [hby]; simp)).2
  have hmx := (max_facts (L := byL c2) (by rw [hby]; simp)).2
  have hmn2 := byL_mem hok2 hmn
  have hmx2 := byL_mem hok2 hmx
  have hmnq := hb2 _ hmn
  have hmxq := hb2 _ hmx
  generalize Lib.minOf (byL c2) = mn at *
  generalize Lib.maxOf (byL c2) = mx at *
  have hfm : fits P Q mn mx = true := by
    rcases hmnq with e | e <;> rcases hmxq with e' | e' <;> rw [e, e']
    · exact fits_self hg p0 (by omega)
    · exact hf
    · rw [fits_symm]; exact hf
    · exact fits_self hg q0 (by omega)
  rw [e3]
  have hok3 := clearC_ok (judgeC_ok hok2 hmn2 hmx2)
  have hjn : (judgeC c2 mn mx).n = 2 := by unfold judgeC; split <;> exact n2
  have hjw : (judgeC c2 mn mx).now = c2.now := by unfold judgeC; split <;> rfl
  have hjf : fits P Q (judgeC c2 mn mx).lo (judgeC c2 mn mx).hi = true := by
    unfold judgeC
    split
    · exact hfm
    · show fits P Q c2.lo c2.hi = true
      rw [hlo, hhi]; exact h.f
  generalize judgeC c2 mn mx = c3 at *
  refine ⟨⟨hjn, ?_, ?_, ?_, ?_, hok3, hjf⟩, ?_, ?_⟩
  · show (if 0 < c3.n then 0 else c3.by' 0) = 0
    rw [hjn]; rfl
  · show (if 1 < c3.n then 0 else c3.by' 1) = 0
    rw [hjn]; rfl
  · show c3.now 0 ≤ _
    rw [hjw, w0]; push_cast; omega
  · show c3.now 1 ≤ _
    rw [hjw, w1]; push_cast; omega
  · show c3.now 0 = _
    rw [hjw, w0]
  · show c3.now 1 = _
    rw [hjw, w1]
/-- Till the end on the holder's clock the grant is its own, on the acceptor's. -/
def GI (P Q : Int) (a : Ac) (T0 T1 e : Int) : Prop := T1 < e → a.to = 1 ∧ (e - T1) * P ≤ (a.til - T0) * Q
theorem gi_time {P Q : Int} {a : Ac} {T0 T1 e p q : Int} (h : GI P Q a T0 T1 e) (q0 : 0 ≤ q) (hpq : p * Q ≤ q * P) : GI P Q a (T0 + p) (T1 + q) e := fun hlt => by
  obtain ⟨h1, h2⟩ := h (by omega)
  refine ⟨h1, ?_⟩
  rw [show e - (T1 + q) = e - T1 - q by omega, show a.til - (T0 + p) = a.til - T0 - p by omega, Int.sub_mul (e - T1) q P, Int.sub_mul (a.til - T0) p Q]
  omega
theorem gi_lt {P Q : Int} {a : Ac} {T0 T1 e : Int} (hg : good P Q = true) (h : GI P Q a T0 T1 e) (hlt : T1 < e) : a.to = 1 ∧ T0 < a.til := by
  obtain ⟨h1, h2⟩ := h hlt
  have hg' := good_of hg
  refine ⟨h1, ?_⟩
  rcases Int.lt_or_le T0 a.til with h3 | h3
  · exact h3
  · exfalso
    have h4 : 0 < (e - T1) * P := Int.mul_pos (by omega) (by omega)
    have h5 : (a.til - T0) * Q ≤ 0 * Q := Int.mul_le_mul_of_nonneg_right (by omega) (by omega)
    omega
/-- A grant is told with its end. -/
def GrantOk (a a' : Ac) (rk fr nw lg : Int) : Prop := rk = 11 → a'.to = fr + 1 ∧ untilA nw lg a.til ≤ a'.til
theorem gi_step {P Q : Int} {a a' : Ac} {T0 T1 e rk c n fr : Int} (hg : good P Q = true) (h : GI P Q a T0 T1 e) (hs : a.to = 1 → T0 < a.til → a'.to = 1 ∧ a.til ≤ a'.til) : GI P Q a' T0 T1 e := fun hlt => by
  obtain ⟨h1, h2⟩ := gi_lt hg h hlt
  obtain ⟨h3, h4⟩ := hs h1 h2
  have hg' := good_of hg
  refine ⟨h3, Int.le_trans (h hlt).2 (Int.mul_le_mul_of_nonneg_right (by omega) (by omega))⟩
theorem gi_grant {P Q term : Int} {a' : Ac} {T0 T1 til0 : Int} (hg : good P Q = true) (t0 : 1 ≤ term) (t1 : term ≤ 100) (n0 : 0 ≤ T0) (n1 : T0 ≤ 100000) (h1 : a'.to = 1) (h2 : untilA T0 (longer P Q term) til0 ≤ a'.til) : GI P Q a' T0 T1 (T1 + term) := fun _ => by
  have hg' := good_of hg
  have hb := up_bd (t := term) hg' (by omega)
  have hl : longer P Q term = (term * P + Q - 1) / Q := longer_in hg (by omega) (by omega)
  have hu : term * P ≤ longer P Q term * Q := by rw [hl]; exact (up_le (by omega)).1 (Int.le_refl _)
  rw [← hl] at hb
  have hle : T0 + longer P Q term ≤ a'.til := by
    unfold untilA at h2
    have hL0 : lim (longer P Q term) = longer P Q term := lim_self (by omega) (by omega)
    rw [lim_self n0 (by omega), hL0, lim_self (t := T0 + longer P Q term) (by omega) (by omega)] at h2
    omega
  refine ⟨h1, ?_⟩
  rw [show T1 + term - T1 = term by omega]
  exact Int.le_trans hu (Int.mul_le_mul_of_nonneg_right (by omega) (by omega))
theorem gi_max {P Q : Int} {a : Ac} {T0 T1 e e' : Int} (h : GI P Q a T0 T1 e) (h' : GI P Q a T0 T1 e') : GI P Q a T0 T1 (max e e') := by
  rcases Int.le_total e e' with k | k
  · rw [Int.max_eq_right k]; exact h'
  · rw [Int.max_eq_left k]; exact h
theorem ClkIs.far {w w' : World} {b c : Nat} {v : Value} {x : Clk} (h : ClkIs w c x) (hf : Far b v w w') (hb : c ≠ b) (hv : v.ownBlock ≠ some c) : ClkIs w' c x :=
  ⟨hf.cell hb hv h.n, fun i hi => hf.cell hb hv (h.now i hi), fun i hi => hf.cell hb hv (h.by' i hi), hf.cell hb hv h.lo, hf.cell hb hv h.hi, hf.cell hb hv h.jd, fun i => (hf.frozen hb hv (cell_lt h.n)).trans (h.free i), h.ok⟩
theorem ClkIs.lt {w : World} {c : Nat} {x : Clk} (h : ClkIs w c x) : c < w.heap.size := cell_lt h.n
theorem AcIs.far {w0 w w' : World} {b c : Nat} {v : Value} {a : Ac} (h : AcIs w0 w b v a) (hf : Far c (.slice none 0 0) w w') (hc : w0.heap.size ≤ c) (hb : b ≠ c) (hv : v.ownBlock ≠ some c) : AcIs w0 w' b v a :=
  ⟨h.base, hf.gr h.grown hc (fun k e => by simp [Value.ownBlock] at e), h.blk.far hf hb (by simp [Value.ownBlock]), ownsRow_far hf h.row hv (fun k _ => by simp [Value.ownBlock])⟩
end Go.Proofs.Ytkihencimbdoiaa
