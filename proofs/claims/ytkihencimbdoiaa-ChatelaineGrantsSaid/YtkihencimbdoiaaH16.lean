import Derived.Test.YtkihencimbdoiaaF16t
import Derived.Test.YtkihencimbdoiaaF16w
import Derived.Test.YtkihencimbdoiaaF16x
import Derived.Test.YtkihencimbdoiaaF16z
import Derived.WalkKit
import Derived.ProofKit
import Derived.LoopTactic
import Derived.Outline
import Derived.WalkSpells
import Derived.WalkLawsBesides
import Derived.Lib.Hide
import Derived.Deep.LoopGhost
import Derived.Deep.QuietTactic
import Derived.BigQuiet
import Derived.ShutString
import Derived.IntWalk
namespace Go.Proofs.Ytkihencimbdoiaa
open Go.ChangeShapes Go.WideShapes Go.ChangeAt Go.RowKit
open Bal
open Rates
set_option linter.unusedVariables false
set_option linter.unusedSimpArgs false
/-- What an acceptor is. -/
structure Ac where
  wit : Bool
  pc : Int
  pn : Int
  ba : Int
  L : List E
  to : Int
  til : Int
/-- What a reply says, and whether the state has changed. -/
structure Rep where
  k : Int
  c : Int
  n : Int
  s : Int
  t : Int
  ch : Bool
def Rep.msg (r : Rep) (l : Value) : Value := .agg #[.int .i64 r.k, .int .i64 0, .int .i64 0, .int .i64 0, .int .u64 r.c, .int .i64 r.n, .int .i64 r.s, .int .i64 r.t, .bool false, .string ⟨#[]⟩, l]
namespace Ac
def late (a : Ac) (c n : Int) : Bool := decide (cmpB c n a.pc a.pn < 0)
def full (a : Ac) (slot : Int) : Bool := decide (a.ba < slot) && (!(hasE a.L slot) && decide (64 ≤ a.L.length))
def other (a : Ac) (c n : Int) : Bool := decide (¬ (c = a.pc ∧ n = a.pn))
def refuse (a : Ac) (t : Int) : Rep := ⟨5, a.pc, a.pn, 0, t, false⟩
def entry (a : Ac) (c n slot : Int) (text : ByteArray) : E := ⟨slot, c, n, kept16 a.wit text⟩
def acceptR (a : Ac) (c n slot : Int) (text : ByteArray) : Rep :=
  if a.late c n then a.refuse 0 else if a.full slot then ⟨0, 0, 0, 0, 0, false⟩ else
    if a.ba < slot then ⟨4, c, n, slot, 0, a.other c n || !(sameE (oldE a.L slot) (a.entry c n slot text))⟩ else ⟨4, c, n, slot, 0, a.other c n⟩
def accept (a : Ac) (c n slot : Int) (text : ByteArray) : Ac :=
  if a.late c n then a else if a.full slot then a else
    if a.ba < slot then { a with pc := c, pn := n, L := setE a.L (a.entry c n slot text) } else { a with pc := c, pn := n }
def bars (a : Ac) (frm now : Int) : Bool := barsA a.to a.til frm now
def prepareR (a : Ac) (frm c n now : Int) : Rep :=
  if a.bars frm now then a.refuse (a.til - now) else if a.late c n then a.refuse 0 else ⟨2, c, n, a.ba, 0, a.other c n⟩
def prepare (a : Ac) (frm c n now : Int) : Ac :=
  if a.bars frm now then a else if a.late c n then a else { a with pc := c, pn := n }
def prepareL (a : Ac) (frm c n slot now : Int) : List E :=
  if a.bars frm now then [] else if a.late c n then [] else fromE a.L slot
def askR (a : Ac) (frm c n time now long : Int) : Rep :=
  if a.late c n then a.refuse 0 else if a.bars frm now then a.refuse (a.til - now) else
    ⟨11, c, n, 0, time, a.other c n || decide (¬ (frm + 1 = a.to ∧ untilA now long a.til = a.til))⟩
def ask (a : Ac) (frm c n now long : Int) : Ac :=
  if a.late c n then a else if a.bars frm now then a else { a with pc := c, pn := n, to := frm + 1, til := untilA now long a.til }
def trim (a : Ac) (x : Int) : Ac := if x ≤ a.ba then a else { a with ba := x, L := hiE a.L x }
structure Ok (a : Ac) : Prop where
  asc : Asc a.L
  len : a.L.length ≤ 64
  text : ∀ e ∈ a.L, e.text.size ≤ 1000000
  til0 : 0 ≤ a.til
  til1 : a.til ≤ 1099511627776
  to0 : 0 ≤ a.to
  to1 : a.to ≤ 1000001
def cells (a : Ac) (v : Value) : Array Value := #[.bool a.wit, .int .u64 a.pc, .int .i64 a.pn, .int .i64 a.ba, v, .int .i64 a.to, .int .i64 a.til]
end Ac
/-- Block b, made behind w0, holds an acceptor; v is its row. -/
structure AcIs (w0 w : World) (b : Nat) (v : Value) (a : Ac) : Prop where
  base : w0.heap.size ≤ b
  grown : Gr w0 w
  blk : Blk w b (a.cells v) 100
  row : w.ownsRow w0.heap.size 108 4 v a.L.length (rcells encE a.L)
theorem AcIs.gr {w0 w w' : World} {b : Nat} {v : Value} {a : Ac} (h : AcIs w0 w b v a) (hg : Gr w w') : AcIs w0 w' b v a :=
  ⟨h.base, h.grown.trans hg, h.blk.gr hg, ownsRow_gr hg h.row⟩
theorem AcIs.lt {w0 w : World} {b : Nat} {v : Value} {a : Ac} (h : AcIs w0 w b v a) : b < w.heap.size := h.blk.lt
theorem AcIs.off {w0 w : World} {b : Nat} {v : Value} {a : Ac} (h : AcIs w0 w b v a) : v.ownBlock ≠ some b := row_off h.blk h.row (by decide)
/-- A step of an acceptor: none but its own block and its own row turn. -/
def AcTo (w0 w w' : World) (b : Nat) (v : Value) (a : Ac) : Prop := ∃ v', AcIs w0 w' b v' a ∧ Far b v w w' ∧ From v w v'
/-- What is known of another block is known still. -/
theorem AcIs.keep {w0 w w' : World} {b c : Nat} {v : Value} {a : Ac} {cs : Array Value} {t : TypeId} (h : AcIs w0 w b v a) (hf : Far b v w w') (hc : Blk w c cs t) (hne : c ≠ b) (ht : t ≠ 108) : Blk w' c cs t :=
  hc.far hf hne (row_off hc h.row ht)
theorem AcTo.gr {w0 w w1 w2 : World} {b : Nat} {v : Value} {a : Ac} (h : AcTo w0 w w1 b v a) (hg : Gr w1 w2) : AcTo w0 w w2 b v a := by
  obtain ⟨v', h1, h2, h3⟩ := h
  exact ⟨v', h1.gr hg, h2.trans h3 (Far.of_gr hg), h3⟩
theorem ac_to {w0 w w' : World} {b n : Nat} {v v' : Value} {xs : List Value} {a' : Ac} (hb : w0.heap.size ≤ b) (hg : Gr w0 w) (ho : w.ownsRow w0.heap.size 108 4 v n xs) (h1 : Blk w' b (a'.cells v') 100) (h2 : w'.ownsRow w0.heap.size 108 4 v' a'.L.length (rcells encE a'.L)) (hf : Far b v w w') (hv : From v w v') : AcTo w0 w w' b v a' :=
  ⟨v', ⟨hb, hf.gr hg hb (fun k e => (ho.lt k e).1), h1, h2⟩, hf, hv⟩
theorem parts_len (L : List E) (x : Int) : (lowE L x).length + (hiE L x).length + (L.filter fun e => decide (e.slot = x)).length = L.length := by
  induction L with
  | nil => rfl
  | cons y r ih =>
    unfold lowE hiE at ih ⊢
    rcases Int.lt_trichotomy y.slot x with h | h | h
    · simp [h, Int.not_lt.2 (Int.le_of_lt h), Int.ne_of_lt h]; omega
    · simp [h]; omega
    · simp [h, Int.not_lt.2 (Int.le_of_lt h), (Int.ne_of_lt h).symm]; omega
theorem set_len (L : List E) (e : E) : (setE L e).length ≤ L.length + 1 ∧ (hasE L e.slot = true → (setE L e).length ≤ L.length) := by
  have h := parts_len L e.slot
  unfold setE
  rw [List.length_append, List.length_cons]
  refine ⟨by omega, fun hh => ?_⟩
  obtain ⟨y, hy, hs⟩ := List.any_eq_true.1 hh
  have : y ∈ L.filter fun z => decide (z.slot = e.slot) := List.mem_filter.2 ⟨hy, hs⟩
  have := List.length_pos_of_mem this
  omega
theorem set_mem {L : List E} {e y : E} (h : y ∈ setE L e) : y = e ∨ y ∈ L := by
  unfold setE at h
  rcases List.mem_append.1 h with h | h
  · exact .inr (List.mem_filter.1 h).1
  · rcases List.mem_cons.1 h with h | h
    · exact .inl h
    · exact .inr (List.mem_filter.1 h).1
theorem asc_filter {L : List E} (ha : Asc L) (p : E → Bool) : Asc (L.filter p) := by
  have h0 : L.Pairwise fun a b => a.slot < b.slot := List.pairwise_iff_getElem.2 fun i j hi hj hij => ha i j hi hj hij
  exact fun p q hp hq hpq => List.pairwise_iff_getElem.1 (h0.filter _) p q hp hq hpq
namespace Ac
theorem Ok.accept {a : Ac} (h : a.Ok) (c n slot : Int) {text : ByteArray} (ht : text.size ≤ 1000000) : (a.accept c n slot text).Ok := by
  unfold Ac.accept
  by_cases h1 : a.late c n = true
  · rw [if_pos h1]; exact h
  · rw [if_neg h1]
    by_cases h2 : a.full slot = true
    · rw [if_pos h2]; exact h
    · rw [if_neg h2]
      by_cases h3 : a.ba < slot
      · rw [if_pos h3]
        refine ⟨asc_set h.asc _, ?_, fun e he => ?_, h.til0, h.til1, h.to0, h.to1⟩
        · have hs := set_len a.L (a.entry c n slot text)
          have hl := h.len
          by_cases hh : hasE a.L slot = true
          · have := hs.2 hh; exact Nat.le_trans this hl
          · have h5 : ¬ 64 ≤ a.L.length := fun h6 => h2 (by unfold full; simp [h3, hh, h6])
            exact Nat.le_trans hs.1 (by omega)
        · rcases set_mem he with rfl | he
          · exact kept16_size _ _ ht
          · exact h.text e he
      · rw [if_neg h3]; exact ⟨h.asc, h.len, h.text, h.til0, h.til1, h.to0, h.to1⟩
theorem Ok.prepare {a : Ac} (h : a.Ok) (frm c n now : Int) : (a.prepare frm c n now).Ok := by
  unfold Ac.prepare
  split
  · exact h
  · split
    · exact h
    · exact ⟨h.asc, h.len, h.text, h.til0, h.til1, h.to0, h.to1⟩
theorem Ok.ask {a : Ac} (h : a.Ok) (frm c n now long : Int) (hf : 0 ≤ frm ∧ frm ≤ 1000000) : (a.ask frm c n now long).Ok := by
  unfold Ac.ask
  split
  · exact h
  · split
    · exact h
    · have h0 := h.til0
      have h1 := h.til1
      have hb := lim_bd (lim now + lim long)
      exact ⟨h.asc, h.len, h.text, by show 0 ≤ untilA now long a.til; unfold untilA; omega, by show untilA now long a.til ≤ _; unfold untilA; omega, by show 0 ≤ frm + 1; omega, by show frm + 1 ≤ 1000001; omega⟩
theorem Ok.trim {a : Ac} (h : a.Ok) (x : Int) : (a.trim x).Ok := by
  unfold Ac.trim
  split
  · exact h
  · exact ⟨asc_filter h.asc _, Nat.le_trans (List.length_filter_le _ _) h.len, fun e he => h.text e (List.mem_filter.1 he).1, h.til0, h.til1, h.to0, h.to1⟩
end Ac
end Go.Proofs.Ytkihencimbdoiaa
