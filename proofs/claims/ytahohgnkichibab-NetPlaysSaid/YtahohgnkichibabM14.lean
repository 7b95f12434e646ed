import Derived.Test.YtahohgnkichibabC00
import Derived.Test.YtahohgnkichibabC01
import Derived.WalkKit
import Derived.ProofKit
import Derived.LoopTactic
import Derived.Outline
import Derived.WalkSpells
import Derived.WalkLawsBesides
import Derived.Lib.Hide
import Derived.Deep.LoopGhost
import Derived.Deep.QuietTactic
import Derived.BigQuiet
import Derived.ShutString
namespace Go.Proofs.Ytahohgnkichibab
open Go.ChangeShapes Go.WideShapes Go.ChangeAt Go.RowKit
set_option linter.unusedVariables false
set_option linter.unusedSimpArgs false
namespace Nt
/-- A packet. -/
structure P where
  a : Int
  b : Int
  s : ByteArray
def P.val (p : P) : Value := .agg #[.int .i64 p.a, .int .i64 p.b, .string p.s]
def P.cells (p : P) : List Value := [.int .i64 p.a, .int .i64 p.b, .string p.s]
def pzero : P := ⟨0, 0, ⟨#[]⟩⟩
def pcells (L : List P) : List Value := L.flatMap P.cells
theorem pcells_len (L : List P) : (pcells L).length = L.length * 3 := by
  unfold pcells
  induction L with
  | nil => rfl
  | cons p t ih => rw [List.flatMap_cons, List.length_append, ih, List.length_cons]; simp [P.cells]; omega
theorem pcells_append (L M : List P) : pcells (L ++ M) = pcells L ++ pcells M := by simp [pcells]
theorem pcells_snoc (L : List P) (p : P) : pcells (L ++ [p]) = pcells L ++ [.int .i64 p.a, .int .i64 p.b, .string p.s] := by simp [pcells, P.cells]
theorem pcells_split (L : List P) (k : Nat) (h : k < L.length) : pcells L = pcells (L.take k) ++ (P.cells L[k] ++ pcells (L.drop (k + 1))) := by
  have h1 : L = L.take k ++ (L[k] :: L.drop (k + 1)) := by rw [← List.drop_eq_getElem_cons h, List.take_append_drop]
  have h2 : pcells L = pcells (L.take k ++ (L[k] :: L.drop (k + 1))) := congrArg pcells h1
  rw [h2, pcells_append]
  unfold pcells
  rw [List.flatMap_cons]
theorem pcells_at (L : List P) (k : Nat) (h : k < L.length) : (pcells L)[k * 3]? = some (.int .i64 L[k].a) ∧ (pcells L)[k * 3 + 1]? = some (.int .i64 L[k].b) ∧ (pcells L)[k * 3 + 2]? = some (.string L[k].s) := by
  have hl : (pcells (L.take k)).length = k * 3 := by rw [pcells_len, List.length_take]; omega
  rw [pcells_split L k h]
  refine ⟨?_, ?_, ?_⟩
  · rw [List.getElem?_append_right (by omega), hl]; simp [P.cells]
  · rw [List.getElem?_append_right (by omega), hl, show k * 3 + 1 - k * 3 = 1 by omega]; simp [P.cells]
  · rw [List.getElem?_append_right (by omega), hl, show k * 3 + 2 - k * 3 = 2 by omega]; simp [P.cells]
theorem pcells_one (L : List P) : ∀ u ∈ pcells L, u.oneCell' = true := by
  intro u hu
  simp only [pcells, List.mem_flatMap, P.cells, List.mem_cons, List.not_mem_nil, or_false] at hu
  obtain ⟨p, _, h⟩ := hu
  rcases h with rfl | rfl | rfl <;> rfl
/-- A net. -/
structure N where
  n : Nat
  L : List P
  cut : Nat → Nat → Bool
def wayB (n : Nat) (a b : Int) : Bool := decide (0 ≤ a ∧ a < (n : Int) ∧ 0 ≤ b ∧ b < (n : Int) ∧ a ≠ b)
def hasB (x : N) (k : Int) : Bool := decide (0 ≤ k ∧ k < (x.L.length : Int))
def put (x : N) (L : List P) : N := ⟨x.n, L, x.cut⟩
def add (x : N) (p : P) : N × Bool := if x.L.length < 4000 then (put x (x.L ++ [p]), true) else (x, false)
def send (x : N) (p : P) : N × Bool := if wayB x.n p.a p.b then add x p else (x, false)
def look (x : N) (k : Int) : P × Bool := if hasB x k then (x.L.getD k.toNat pzero, true) else (pzero, false)
def drop (x : N) (k : Int) : N := if hasB x k then put x (x.L.eraseIdx k.toNat) else x
def isCut (x : N) (a b : Int) : Bool := wayB x.n a b && x.cut a.toNat b.toNat
def take (x : N) (k : Int) : P × Bool := if hasB x k && !isCut x (look x k).1.a (look x k).1.b then ((look x k).1, true) else (pzero, false)
def again (x : N) (k : Int) : N × Bool := if hasB x k then add x (look x k).1 else (x, false)
def last (x : N) (k : Int) : N × Bool := if hasB x k then add (drop x k) (look x k).1 else (x, false)
def setCut (x : N) (a b : Int) (is : Bool) : N := if wayB x.n a b then ⟨x.n, x.L, fun i j => if i = a.toNat ∧ j = b.toNat then is else x.cut i j⟩ else x
def heal (x : N) : N := ⟨x.n, x.L, fun _ _ => false⟩
def new (n : Int) : N := ⟨(min (max n 0) 12).toNat, [], fun _ _ => false⟩
/-- What is true of each net that the program makes. -/
structure N.Ok (x : N) : Prop where
  n : x.n ≤ 12
  l : x.L.length ≤ 4000
  s : ∀ p ∈ x.L, p.s.size ≤ 1000000
theorem N.Ok.put {x : N} (h : x.Ok) {L : List P} (hl : L.length ≤ 4000) (hs : ∀ p ∈ L, p.s.size ≤ 1000000) : (put x L).Ok := ⟨h.n, hl, hs⟩
theorem new_ok (n : Int) : (new n).Ok := ⟨by show (min (max n 0) 12).toNat ≤ 12; omega, by simp [new], by simp [new]⟩
theorem add_ok {x : N} (h : x.Ok) {p : P} (hp : p.s.size ≤ 1000000) : (add x p).1.Ok := by
  unfold add
  split
  · refine h.put (by simp; omega) (fun q hq => ?_)
    rcases List.mem_append.1 hq with hq | hq
    · exact h.s q hq
    · simp at hq; subst hq; exact hp
  · exact h
theorem send_ok {x : N} (h : x.Ok) {p : P} (hp : p.s.size ≤ 1000000) : (send x p).1.Ok := by
  unfold send; split
  · exact add_ok h hp
  · exact h
theorem drop_ok {x : N} (h : x.Ok) (k : Int) : (drop x k).Ok := by
  unfold drop; split
  · refine h.put ?_ (fun q hq => h.s q (List.mem_of_mem_eraseIdx hq))
    exact Nat.le_trans (by rw [List.length_eraseIdx]; split <;> omega) h.l
  · exact h
theorem look_s {x : N} (h : x.Ok) (k : Int) : (look x k).1.s.size ≤ 1000000 := by
  unfold look; split
  · show (x.L.getD k.toNat pzero).s.size ≤ _
    rw [List.getD_eq_getElem?_getD]
    cases he : x.L[k.toNat]? with
    | none => decide
    | some q => exact h.s q (List.mem_of_getElem? he)
  · decide
theorem again_ok {x : N} (h : x.Ok) (k : Int) : (again x k).1.Ok := by
  unfold again; split
  · exact add_ok h (look_s h k)
  · exact h
theorem last_ok {x : N} (h : x.Ok) (k : Int) : (last x k).1.Ok := by
  unfold last; split
  · exact add_ok (drop_ok h k) (look_s h k)
  · exact h
theorem setCut_ok {x : N} (h : x.Ok) (a b : Int) (is : Bool) : (setCut x a b is).Ok := by
  unfold setCut; split
  · exact ⟨h.n, h.l, h.s⟩
  · exact h
theorem heal_ok {x : N} (h : x.Ok) : (heal x).Ok := ⟨h.n, h.l, h.s⟩
end Nt
end Go.Proofs.Ytahohgnkichibab
