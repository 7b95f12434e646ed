import Derived.Test.YtjllnojhhlkpoaaC00
import Derived.Test.YtjllnojhhlkpoaaF01g
import Derived.Test.YtjllnojhhlkpoaaC16
import Derived.Test.YtjllnojhhlkpoaaL01k
import Derived.WalkKit
import Derived.ProofKit
import Derived.LoopTactic
import Derived.Outline
import Derived.WalkSpells
import Derived.WalkLawsBesides
import Derived.Lib.Hide
import Derived.Deep.LoopGhost
import Derived.Deep.QuietTactic
import Derived.BigQuiet
import Derived.ShutString
import Derived.IntWalk
import Derived.Lib.MinMax
import Derived.OpenShut
import Derived.Deep.RegionWith
import Derived.Deep.RegionHeld3
import Derived.BigQuiet
namespace Go.Proofs.Ytjllnojhhlkpoaa
set_option linter.unusedVariables false
set_option linter.unusedSimpArgs false
namespace Dk
/-- A file: what it contains now, what it contains for sure, and whether it was replaced since. -/
structure F where
  now : ByteArray
  sure : ByteArray
  put : Bool
def F.size (f : F) : Nat := max f.now.size f.sure.size
def F.Ok (f : F) : Prop := f.put = false → bytesOf f.sure <+: bytesOf f.now
theorem len (s : ByteArray) : (bytesOf s).length = s.size := by simp [bytesOf]
theorem F.Ok.le {f : F} (h : f.Ok) (hp : f.put = false) : f.sure.size ≤ f.now.size := by
  have := (h hp).length_le; rwa [len, len] at this
theorem ext {a b : ByteArray} (h : bytesOf a = bytesOf b) : a = b := ByteArray.ext (Array.toList_inj.1 h)
theorem app (a b : ByteArray) : bytesOf (a ++ b) = bytesOf a ++ bytesOf b := by simp [bytesOf]
theorem extr (s : ByteArray) (b : Nat) : bytesOf (s.extract 0 b) = (bytesOf s).take b := by simp [bytesOf]
/-- What is left of a file behind a crash with a choice. -/
def leftN (f : F) (c : Int) : Nat := if f.put then (c % ((f.now.size : Int) + 2)).toNat else f.sure.size + (c % ((f.now.size : Int) - f.sure.size + 1)).toNat
def left (f : F) (c : Int) : ByteArray :=
  if f.put then (if leftN f c = 0 then f.sure else f.now.extract 0 (leftN f c - 1)) else f.now.extract 0 (leftN f c)
theorem left_size (f : F) (c : Int) : (left f c).size ≤ f.size := by
  unfold left F.size
  split
  · split
    · omega
    · simp; omega
  · simp; omega
theorem left_pre (f : F) (c : Int) (h : f.Ok) (hp : f.put = false) : bytesOf f.sure <+: bytesOf (left f c) := by
  have h1 := h hp
  unfold left
  rw [if_neg (by simp [hp]), extr]
  have h2 : f.sure.size ≤ leftN f c := by unfold leftN; rw [if_neg (by simp [hp])]; omega
  rw [List.prefix_take_iff]
  exact ⟨h1, by rw [len]; exact h2⟩
def upd (fs : Nat → F) (k : Nat) (f : F) : Nat → F := fun j => if j = k then f else fs j
theorem upd_same (fs : Nat → F) (k : Nat) (f : F) : upd fs k f k = f := by unfold upd; rw [if_pos rfl]
theorem upd_other (fs : Nat → F) (k j : Nat) (f : F) (h : j ≠ k) : upd fs k f j = fs j := by unfold upd; rw [if_neg h]
def used (fs : Nat → F) : Nat := (fs 0).size + (fs 1).size + (fs 2).size + (fs 3).size
theorem used_upd (fs : Nat → F) (k : Nat) (f : F) (hk : k < 4) : used (upd fs k f) + (fs k).size = used fs + f.size := by
  unfold used
  have hk' : k = 0 ∨ k = 1 ∨ k = 2 ∨ k = 3 := by omega
  rcases hk' with rfl | rfl | rfl | rfl <;> simp [upd] <;> omega
theorem size_le (fs : Nat → F) (k : Nat) (hk : k < 4) : (fs k).size ≤ used fs := by
  unfold used
  have hk' : k = 0 ∨ k = 1 ∨ k = 2 ∨ k = 3 := by omega
  rcases hk' with rfl | rfl | rfl | rfl <;> omega
/-- A disk. -/
structure D where
  room : Nat
  fs : Nat → F
  fail : Nat
structure D.Ok (d : D) : Prop where
  room : d.room ≤ 1099511627776
  used : used d.fs ≤ d.room
  fail : d.fail ≤ 1073741825
  ok : ∀ k, k < 4 → (d.fs k).Ok
def zero : F := ⟨⟨#[]⟩, ⟨#[]⟩, false⟩
def new (r : Nat) : D := ⟨r, fun _ => zero, 0⟩
theorem zero_ok : zero.Ok := fun _ => List.prefix_rfl
theorem new_ok (r : Nat) (h : r ≤ 1099511627776) : (new r).Ok := ⟨h, by show used (fun _ => zero) ≤ r; have : used (fun _ => zero) = 0 := rfl; omega, Nat.zero_le _, fun _ _ => zero_ok⟩
/-- The number of calls that work yet, behind a call. -/
def tick (d : D) : D := ⟨d.room, d.fs, d.fail - 1⟩
theorem tick_ok {d : D} (h : d.Ok) : (tick d).Ok := ⟨h.room, h.used, by show d.fail - 1 ≤ _; have := h.fail; omega, h.ok⟩
/-- A call that turns file i by g: the disk, the error's number. -/
def full (d : D) (k : Nat) (f : F) : Bool := decide (d.room + (d.fs k).size < used d.fs + f.size)
def putF (d : D) (k : Nat) (f : F) : D := ⟨d.room, upd d.fs k f, d.fail⟩
def repl (d : D) (k : Nat) (f : F) : D × Nat := if full d k f then (d, 17) else (putF d k f, 0)
def act (d : D) (i : Int) (g : F → F) : D × Nat :=
  if 0 ≤ i ∧ i < 4 then (if d.fail = 1 then (tick d, 8) else repl (tick d) i.toNat (g (d.fs i.toNat))) else (d, 1)
def gApp (s : ByteArray) (f : F) : F := ⟨f.now ++ s, f.sure, f.put⟩
def gPut (s : ByteArray) (f : F) : F := ⟨s, f.sure, true⟩
def gKeep (f : F) : F := ⟨f.now, f.now, false⟩
theorem gApp_ok (s : ByteArray) {f : F} (h : f.Ok) : (gApp s f).Ok := fun hp => by
  show bytesOf f.sure <+: bytesOf (f.now ++ s)
  rw [app]; exact (h hp).trans (List.prefix_append _ _)
theorem gPut_ok (s : ByteArray) (f : F) : (gPut s f).Ok := fun hp => by simp [gPut] at hp
theorem gKeep_ok (f : F) : (gKeep f).Ok := fun _ => List.prefix_rfl
theorem gKeep_size (f : F) : (gKeep f).size ≤ f.size := by unfold gKeep F.size; simp; omega
theorem full_keep {d : D} (h : d.Ok) (k : Nat) (f : F) (hf : f.size ≤ (d.fs k).size) : full d k f = false := by
  unfold full; have := h.used; exact decide_eq_false (by omega)
theorem putF_ok {d : D} (h : d.Ok) {k : Nat} (hk : k < 4) {f : F} (hf : f.Ok) (hn : full d k f = false) : (putF d k f).Ok := by
  refine ⟨h.room, ?_, h.fail, fun j hj => ?_⟩
  · show used (upd d.fs k f) ≤ d.room
    have := used_upd d.fs k f hk
    have h2 := of_decide_eq_false hn
    omega
  · show (upd d.fs k f j).Ok
    by_cases e : j = k
    · subst e; rw [upd_same]; exact hf
    · rw [upd_other _ _ _ _ e]; exact h.ok j hj
theorem repl_ok {d : D} (h : d.Ok) {k : Nat} (hk : k < 4) {f : F} (hf : f.Ok) : (repl d k f).1.Ok := by
  unfold repl
  cases hn : full d k f
  · exact putF_ok h hk hf hn
  · exact h
theorem act_ok {d : D} (h : d.Ok) (i : Int) (g : F → F) (hg : ∀ f, f.Ok → (g f).Ok) : (act d i g).1.Ok := by
  unfold act
  split
  · split
    · exact tick_ok h
    · exact repl_ok (tick_ok h) (by omega) (hg _ (h.ok _ (by omega)))
  · exact h
def setFail (d : D) (n : Int) : D := ⟨d.room, d.fs, (min (max n (-1)) 1073741824 + 1).toNat⟩
theorem setFail_ok {d : D} (h : d.Ok) (n : Int) : (setFail d n).Ok := ⟨h.room, h.used, by show (min (max n (-1)) 1073741824 + 1).toNat ≤ _; omega, h.ok⟩
/-- A crash, file by file. -/
def crashF (f : F) (ch : List Int) : F := if f.now = f.sure then gKeep f else ⟨left f (ch.headD 0), left f (ch.headD 0), false⟩
def crashC (f : F) (ch : List Int) : List Int := if f.now = f.sure then ch else ch.tail
def crashN : Nat → (Nat → F) → List Int → (Nat → F) × List Int
  | 0, fs, ch => (fs, ch)
  | k + 1, fs, ch => (upd (crashN k fs ch).1 k (crashF ((crashN k fs ch).1 k) (crashN k fs ch).2), crashC ((crashN k fs ch).1 k) (crashN k fs ch).2)
def crash (d : D) (ch : List Int) : D := ⟨d.room, (crashN 4 d.fs ch).1, 0⟩
theorem crashF_size (f : F) (ch : List Int) : (crashF f ch).size ≤ f.size := by
  unfold crashF
  split
  · exact gKeep_size f
  · have := left_size f (ch.headD 0); unfold F.size at *; simp only; omega
theorem crashF_ok (f : F) (ch : List Int) : (crashF f ch).Ok := by
  unfold crashF
  split
  · exact gKeep_ok f
  · exact fun _ => List.prefix_rfl
theorem crashF_flat (f : F) (ch : List Int) : (crashF f ch).now = (crashF f ch).sure ∧ (crashF f ch).put = false := by
  unfold crashF
  split <;> exact ⟨rfl, rfl⟩
theorem crashF_pre (f : F) (ch : List Int) (h : f.Ok) (hp : f.put = false) : bytesOf f.sure <+: bytesOf (crashF f ch).sure := by
  unfold crashF
  split
  · exact h hp
  · exact left_pre f _ h hp
theorem crashN_at (fs : Nat → F) (ch : List Int) : ∀ (k j : Nat), k ≤ j → (crashN k fs ch).1 j = fs j
  | 0, j, _ => rfl
  | k + 1, j, h => by
    show upd (crashN k fs ch).1 k _ j = fs j
    rw [upd_other _ _ _ _ (by omega)]; exact crashN_at fs ch k j (by omega)
theorem crashN_is (fs : Nat → F) (ch : List Int) : ∀ (k j : Nat), j < k → ∃ l, (crashN k fs ch).1 j = crashF (fs j) l
  | k + 1, j, h => by
    show ∃ l, upd (crashN k fs ch).1 k _ j = _
    by_cases e : j = k
    · subst e; rw [upd_same, crashN_at fs ch j j (Nat.le_refl _)]; exact ⟨_, rfl⟩
    · rw [upd_other _ _ _ _ e]; exact crashN_is fs ch k j (by omega)
theorem crashN_used (fs : Nat → F) (ch : List Int) : ∀ k, k ≤ 4 → used (crashN k fs ch).1 ≤ used fs
  | 0, _ => Nat.le_refl _
  | k + 1, h => by
    show used (upd (crashN k fs ch).1 k _) ≤ _
    have h1 := crashN_used fs ch k (by omega)
    have h2 := used_upd (crashN k fs ch).1 k (crashF ((crashN k fs ch).1 k) (crashN k fs ch).2) (by omega)
    have h3 := crashF_size ((crashN k fs ch).1 k) (crashN k fs ch).2
    omega
theorem crashN_ok {fs : Nat → F} (ch : List Int) (h : ∀ k, k < 4 → (fs k).Ok) (k j : Nat) (hj : j < 4) : ((crashN k fs ch).1 j).Ok := by
  by_cases e : j < k
  · obtain ⟨l, hl⟩ := crashN_is fs ch k j e; rw [hl]; exact crashF_ok _ _
  · rw [crashN_at fs ch k j (by omega)]; exact h j hj
theorem crash_ok {d : D} (h : d.Ok) (ch : List Int) : (crash d ch).Ok :=
  ⟨h.room, Nat.le_trans (crashN_used d.fs ch 4 (Nat.le_refl _)) h.used, Nat.zero_le _, fun j hj => crashN_ok ch h.ok 4 j hj⟩
theorem crash_at (d : D) (ch : List Int) (j : Nat) (hj : j < 4) : ∃ l, (crash d ch).fs j = crashF (d.fs j) l := crashN_is d.fs ch 4 j hj
/-- A byte is another one. -/
def flip (s : ByteArray) (n : Nat) (by_ : UInt8) : ByteArray := ⟨s.data.modify n (· ^^^ by_)⟩
theorem flip_size (s : ByteArray) (n : Nat) (b : UInt8) : (flip s n b).size = s.size := by unfold flip ByteArray.size; simp
def can (d : D) (i at_ : Int) : Bool := decide (0 ≤ i ∧ i < 4 ∧ (d.fs i.toNat).now = (d.fs i.toNat).sure ∧ 0 ≤ at_ ∧ at_ < ((d.fs i.toNat).now.size : Int))
def spoil (d : D) (i at_ : Int) (b : UInt8) : D := if can d i at_ then putF d i.toNat ⟨flip (d.fs i.toNat).now at_.toNat b, flip (d.fs i.toNat).now at_.toNat b, false⟩ else d
theorem spoil_ok {d : D} (h : d.Ok) (i at_ : Int) (b : UInt8) : (spoil d i at_ b).Ok := by
  unfold spoil
  cases hc : can d i at_
  · exact h
  · have h1 := of_decide_eq_true hc
    refine putF_ok h (by omega) (fun _ => List.prefix_rfl) (full_keep h _ _ ?_)
    unfold F.size
    simp only [flip_size]
    omega
/-- What was synced is there yet. -/
def Kept (k : Nat) (s : ByteArray) (d : D) : Prop := bytesOf s <+: bytesOf (d.fs k).sure ∧ (d.fs k).put = false
theorem kept_act {k : Nat} {s : ByteArray} {d : D} (h : Kept k s d) (i : Int) (g : F → F) (hg : i = (k : Int) → bytesOf s <+: bytesOf (g (d.fs k)).sure ∧ (g (d.fs k)).put = false) : Kept k s (act d i g).1 := by
  unfold act
  split
  · rename_i hi
    split
    · exact h
    · unfold repl
      split
      · exact h
      · unfold Kept
        show bytesOf s <+: bytesOf (upd d.fs i.toNat _ k).sure ∧ (upd d.fs i.toNat _ k).put = false
        by_cases e : k = i.toNat
        · subst e; rw [upd_same]; exact hg (by omega)
        · rw [upd_other _ _ _ _ e]; exact h
  · exact h
theorem kept_app {k : Nat} {s : ByteArray} {d : D} (h : Kept k s d) (i : Int) (t : ByteArray) : Kept k s (act d i (gApp t)).1 := kept_act h i _ fun _ => h
theorem kept_put {k : Nat} {s : ByteArray} {d : D} (h : Kept k s d) (i : Int) (t : ByteArray) (hi : i ≠ (k : Int)) : Kept k s (act d i (gPut t)).1 := kept_act h i _ fun e => absurd e hi
theorem kept_sync {k : Nat} {s : ByteArray} {d : D} (h : Kept k s d) (ho : d.Ok) (hk : k < 4) (i : Int) : Kept k s (act d i gKeep).1 := kept_act h i _ fun _ => ⟨h.1.trans (ho.ok k hk h.2), rfl⟩
theorem kept_fail {k : Nat} {s : ByteArray} {d : D} (h : Kept k s d) (n : Int) : Kept k s (setFail d n) := h
theorem kept_crash {k : Nat} {s : ByteArray} {d : D} (h : Kept k s d) (ho : d.Ok) (hk : k < 4) (ch : List Int) : Kept k s (crash d ch) := by
  obtain ⟨l, hl⟩ := crash_at d ch k hk
  unfold Kept
  rw [hl]
  exact ⟨h.1.trans (crashF_pre _ _ (ho.ok k hk) h.2), (crashF_flat _ _).2⟩
theorem kept_end {k : Nat} {s : ByteArray} {d : D} (h : Kept k s d) (ho : d.Ok) (hk : k < 4) (ch : List Int) :
    s.size ≤ ((crash d ch).fs k).now.size ∧ ((crash d ch).fs k).now.extract 0 s.size = s ∧ ((crash d ch).fs k).now = ((crash d ch).fs k).sure := by
  have h1 := (kept_crash h ho hk ch).1
  obtain ⟨l, hl⟩ := crash_at d ch k hk
  have h2 : ((crash d ch).fs k).now = ((crash d ch).fs k).sure := by rw [hl]; exact (crashF_flat _ _).1
  rw [← h2] at h1
  refine ⟨by have := h1.length_le; rwa [len, len] at this, ext ?_, h2⟩
  rw [extr, ← len s]
  exact (List.prefix_iff_eq_take.1 h1).symm
end Dk
end Go.Proofs.Ytjllnojhhlkpoaa

namespace Go.Proofs.Ytjllnojhhlkpoaa
open Go.ChangeShapes Go.WideShapes Go.ChangeAt Go.RowKit
set_option linter.unusedVariables false
set_option linter.unusedSimpArgs false
open Dk
/-- Of blocks other than p nothing has turned. -/
structure Sole (p : Nat) (w w' : World) : Prop where
  os : w'.os = w.os
  tape : w'.tape = w.tape
  output : w'.output = w.output
  size : w.heap.size ≤ w'.heap.size
  block : ∀ k, k < w.heap.size → k ≠ p → w'.heap[k]? = w.heap[k]?
theorem Sole.refl (p : Nat) (w : World) : Sole p w w := ⟨rfl, rfl, rfl, Nat.le_refl _, fun _ _ _ => rfl⟩
theorem Sole.trans {p : Nat} {a b c : World} (h : Sole p a b) (k : Sole p b c) : Sole p a c :=
  ⟨k.os.trans h.os, k.tape.trans h.tape, k.output.trans h.output, Nat.le_trans h.size k.size, fun i hi hp => (k.block i (Nat.lt_of_lt_of_le hi h.size) hp).trans (h.block i hi hp)⟩
theorem Sole.setCell (p o : Nat) (w : World) (v : Value) : Sole p w (w.setCell ⟨p, o, none⟩ v) := ⟨rfl, rfl, rfl, by simp [World.setCell], fun k _ hk => Below.heap_setCell _ _ _ _ hk⟩
theorem Sole.gr {p : Nat} {w0 w w' : World} (h : Sole p w w') (hg : Gr w0 w) (hp : w0.heap.size ≤ p) : Gr w0 w' :=
  Below.trans hg ⟨h.os, h.tape, h.output, h.size, fun k hk => h.block k (Nat.lt_of_lt_of_le hk hg.size) (by omega)⟩
theorem Sole.of_gr {p : Nat} {w w' : World} (h : Gr w w') : Sole p w w' := ⟨Below.os h, Below.tape h, Below.output h, h.size, fun k hk _ => Below.block h k hk⟩
theorem Sole.cell {p : Nat} {w w' : World} (h : Sole p w w') {b o : Nat} {v : Value} (hb : b ≠ p) (hc : w.cell? ⟨b, o, none⟩ = some v) : w'.cell? ⟨b, o, none⟩ = some v :=
  (World.cell?_of_block (w := w) (a := ⟨b, o, none⟩) (h.block b (cell_lt hc) hb)).trans hc
theorem Sole.frozen {p : Nat} {w w' : World} (h : Sole p w w') {b o : Nat} (hb : b ≠ p) (hlt : b < w.heap.size) : w'.frozen? ⟨b, o, none⟩ = w.frozen? ⟨b, o, none⟩ :=
  World.frozen?_of_block (w := w) (a := ⟨b, o, none⟩) (h.block b hlt hb)
/-- A disk lies in block b. -/
structure DkIs (w : World) (b : Nat) (d : D) : Prop where
  room : w.cell? ⟨b, 0, none⟩ = some (.int .i64 d.room)
  now : ∀ k, k < 4 → w.cell? ⟨b, 1 + k * 3, none⟩ = some (.string (d.fs k).now)
  sure : ∀ k, k < 4 → w.cell? ⟨b, 1 + k * 3 + 1, none⟩ = some (.string (d.fs k).sure)
  put : ∀ k, k < 4 → w.cell? ⟨b, 1 + k * 3 + 2, none⟩ = some (.bool (d.fs k).put)
  fail : w.cell? ⟨b, 13, none⟩ = some (.int .i64 d.fail)
  free : ∀ i, i < 14 → w.frozen? ⟨b, i, none⟩ = false
  ok : d.Ok
theorem DkIs.gr {w w' : World} {b : Nat} {d : D} (h : DkIs w b d) (hg : Gr w w') : DkIs w' b d :=
  ⟨hg.cell h.room, fun k hk => hg.cell (h.now k hk), fun k hk => hg.cell (h.sure k hk), fun k hk => hg.cell (h.put k hk), hg.cell h.fail, fun i hi => (hg.frozen (cell_lt h.room)).trans (h.free i hi), h.ok⟩
theorem DkIs.sole {w w' : World} {b p : Nat} {d : D} (h : DkIs w b d) (hs : Sole p w w') (hb : b ≠ p) : DkIs w' b d :=
  ⟨hs.cell hb h.room, fun k hk => hs.cell hb (h.now k hk), fun k hk => hs.cell hb (h.sure k hk), fun k hk => hs.cell hb (h.put k hk), hs.cell hb h.fail, fun i hi => (hs.frozen hb (cell_lt h.room)).trans (h.free i hi), h.ok⟩
theorem DkIs.setFail {w : World} {b : Nat} {d d' : D} (h : DkIs w b d) (hr : d'.room = d.room) (hf : d'.fs = d.fs) (ho : d'.Ok) : DkIs (w.setCell ⟨b, 13, none⟩ (.int .i64 (d'.fail : Nat))) b d' := by
  have o : ∀ i v, i ≠ 13 → w.cell? ⟨b, i, none⟩ = some v → (w.setCell ⟨b, 13, none⟩ (.int .i64 (d'.fail : Nat))).cell? ⟨b, i, none⟩ = some v := fun i v hi hv => by
    rw [World.cell?_setCell_other _ _ _ _ (by simp [hi])]; exact hv
  refine ⟨o 0 _ (by decide) (by rw [hr]; exact h.room), fun k hk => o _ _ (by omega) (by rw [hf]; exact h.now k hk), fun k hk => o _ _ (by omega) (by rw [hf]; exact h.sure k hk), fun k hk => o _ _ (by omega) (by rw [hf]; exact h.put k hk),
    World.cell?_setCell_same' _ _ _ (by rw [h.fail]; rfl), fun i hi => by rw [World.frozen?_setCell]; exact h.free i hi, ho⟩
/-- Behind the stores of file k. -/
def put3 (w : World) (b k : Nat) (f : F) : World := ((w.setCell ⟨b, 1 + k * 3, none⟩ (.string f.now)).setCell ⟨b, 1 + k * 3 + 1, none⟩ (.string f.sure)).setCell ⟨b, 1 + k * 3 + 2, none⟩ (.bool f.put)
theorem Sole.put3 (w : World) (b k : Nat) (f : F) : Sole b w (put3 w b k f) := ((Sole.setCell _ _ _ _).trans (Sole.setCell _ _ _ _)).trans (Sole.setCell _ _ _ _)
theorem DkIs.put3 {w : World} {b k : Nat} {d : D} {f : F} (h : DkIs w b d) (hk : k < 4) (ho : (putF d k f).Ok) : DkIs (put3 w b k f) b (putF d k f) := by
  have o : ∀ i v, i ≠ 1 + k * 3 → i ≠ 1 + k * 3 + 1 → i ≠ 1 + k * 3 + 2 → w.cell? ⟨b, i, none⟩ = some v → (Ytjllnojhhlkpoaa.put3 w b k f).cell? ⟨b, i, none⟩ = some v := fun i v h1 h2 h3 hv => by
    unfold Ytjllnojhhlkpoaa.put3
    rw [World.cell?_setCell_other _ _ _ _ (by simp [h3]), World.cell?_setCell_other _ _ _ _ (by simp [h2]), World.cell?_setCell_other _ _ _ _ (by simp [h1])]; exact hv
  refine ⟨o 0 _ (by omega) (by omega) (by omega) h.room, fun j hj => ?_, fun j hj => ?_, fun j hj => ?_, o 13 _ (by omega) (by omega) (by omega) h.fail, fun i hi => ?_, ho⟩
  · show _ = some (Value.string (upd d.fs k f j).now)
    by_cases e : j = k
    · subst e; rw [upd_same]; unfold Ytjllnojhhlkpoaa.put3
      rw [World.cell?_setCell_other _ _ _ _ (by simp), World.cell?_setCell_other _ _ _ _ (by simp)]
      exact World.cell?_setCell_same' _ _ _ (by rw [h.now j hj]; rfl)
    · rw [upd_other _ _ _ _ e]; exact o _ _ (by omega) (by omega) (by omega) (h.now j hj)
  · show _ = some (Value.string (upd d.fs k f j).sure)
    by_cases e : j = k
    · subst e; rw [upd_same]; unfold Ytjllnojhhlkpoaa.put3
      rw [World.cell?_setCell_other _ _ _ _ (by simp)]
      exact World.cell?_setCell_same' _ _ _ (by rw [World.cell?_setCell_other _ _ _ _ (by simp), h.sure j hj]; rfl)
    · rw [upd_other _ _ _ _ e]; exact o _ _ (by omega) (by omega) (by omega) (h.sure j hj)
  · show _ = some (Value.bool (upd d.fs k f j).put)
    by_cases e : j = k
    · subst e; rw [upd_same]; unfold Ytjllnojhhlkpoaa.put3
      exact World.cell?_setCell_same' _ _ _ (by rw [World.cell?_setCell_other _ _ _ _ (by simp), World.cell?_setCell_other _ _ _ _ (by simp), h.put j hj]; rfl)
    · rw [upd_other _ _ _ _ e]; exact o _ _ (by omega) (by omega) (by omega) (h.put j hj)
  · unfold Ytjllnojhhlkpoaa.put3; rw [World.frozen?_setCell, World.frozen?_setCell, World.frozen?_setCell]; exact h.free i hi
def hasB (f : Int) : Bool := decide (0 ≤ f ∧ f < 4)
set_option maxRecDepth 100000 in
theorem has_any (f : Int) (w : World) : Calls Try.prog 60 #[.int .i64 f] w fun e w' => e = .returned (.bool (hasB f)) ∧ w = w' := by
  generalize hq : hasB f = q
  have HQ := Lib.hid hq
  clear hq
  by_cases h0 : 0 ≤ f
  · by_cases h1 : f < 4
    · go_enter Try.func60, Try.ntmps60
      go_wp2
      go_ret
      exact ⟨by rw [← HQ.out]; simp [hasB, h0, h1], rfl⟩
    · go_enter Try.func60, Try.ntmps60
      go_wp2
      go_ret
      exact ⟨by rw [← HQ.out]; simp [hasB, h0, h1], rfl⟩
  · go_enter Try.func60, Try.ntmps60
    go_wp2
    go_ret
    exact ⟨by rw [← HQ.out]; simp [hasB]; omega, rfl⟩
set_option maxRecDepth 100000 in
theorem size_any (f : F) (w : World) (hn : f.now.size ≤ 9223372036854775807) (hs : f.sure.size ≤ 9223372036854775807) : Calls Try.prog 57 #[.agg #[.string f.now, .string f.sure, .bool f.put]] w fun e w' => e = .returned (.int .i64 f.size) ∧ Gr w w' := by
  obtain ⟨n, s, p⟩ := f
  have E := Lib.hid (show ((F.size ⟨n, s, p⟩ : Nat) : Int) = max (n.size : Int) (s.size : Int) by unfold F.size; simp only; omega)
  rw [E.out]
  go_enter Try.func57, Try.ntmps57
  go_wp2
  go_ret
  exact ⟨rfl, (Gr.refl _).alloc _⟩
theorem mod_emod (c n : Int) (hn : 0 < n) : ((c.tmod n) + n).tmod n = c % n := by
  have h1 := Int.tmod_lt_of_pos c hn
  have h2 := Int.lt_tmod_of_pos c hn
  rw [Int.tmod_eq_emod_of_nonneg (by omega), Int.add_emod_right, Int.tmod_eq_emod]
  split
  · simp
  · rename_i h
    rw [Int.sub_emod]
    simp [Int.natAbs_of_nonneg (Int.le_of_lt hn)]
set_option maxRecDepth 100000 in
theorem modulo_any (c n : Int) (hn : 0 < n) (hm : n ≤ 4611686018427387904) (wc : (Lit.int .i64 c).wf = true) (w : World) :
    Calls Try.prog 91 #[.int .i64 c, .int .i64 n] w fun e w' => e = .returned (.int .i64 (c % n)) ∧ w = w' := by
  have h1 := Int.tmod_lt_of_pos c hn
  have h2 := Int.lt_tmod_of_pos c hn
  have E := Lib.hid (show (c.tmod n + n) % n = c % n by have h9 := mod_emod c n hn; rwa [Int.tmod_eq_emod_of_nonneg (show 0 ≤ c.tmod n + n by omega)] at h9)
  rw [← E.out]
  have hb := bounds_i64 wc
  have hne : n ≠ 0 := by omega
  go_enter Try.func91, Try.ntmps91
  go_wp2
  go_ret
  exact ⟨rfl, rfl⟩
end Go.Proofs.Ytjllnojhhlkpoaa

namespace Go.Proofs.Ytjllnojhhlkpoaa
open Go.ChangeShapes Go.WideShapes Go.ChangeAt Go.RowKit
set_option linter.unusedVariables false
set_option linter.unusedSimpArgs false
open Dk
theorem tick_zero {d : D} (h : d.fail = 0) : tick d = d := by
  obtain ⟨r, fs, n⟩ := d
  simp only at h
  subst h; rfl
set_option maxRecDepth 100000 in
theorem fails_any {b : Nat} {d : D} (w : World) (h : DkIs w b d) :
    Calls Try.prog 89 #[.pointer (some ⟨b, 0, none⟩)] w fun e w' => e = .returned (.bool (decide (d.fail = 1))) ∧ DkIs w' b (tick d) ∧ Sole b w w' := by
  have c13 := h.fail
  have f13 := h.free 13 (by decide)
  have H := Lib.hid h
  rcases hf : d.fail with _ | n
  · have E := Lib.hid (tick_zero hf)
    rw [hf] at c13
    clear h hf
    go_enter Try.func89, Try.ntmps89
    go_wp2
    go_ret
    exact ⟨rfl, by rw [E.out]; exact H.out, Sole.refl _ _⟩
  · rw [hf] at c13
    have E := Lib.hid (show (tick d).fail = n by unfold tick; simp [hf])
    have hn : n ≤ 1073741824 := by have := h.ok.fail; omega
    have HT := Lib.hid (H.out.setFail (d' := tick d) rfl rfl (tick_ok H.out.ok))
    rw [E.out] at HT
    have c13 : w.cell? ⟨b, 13, none⟩ = some (.int .i64 ((n : Int) + 1)) := c13
    clear h hf E
    by_cases hz : n = 0
    · subst hz
      go_enter Try.func89, Try.ntmps89
      go_wp2
      go_ret
      exact ⟨rfl, HT.out, Sole.setCell _ _ _ _⟩
    · have e1 : ((n : Int) == 0) = false := by simp [hz]
      have e2 : decide (n + 1 = 1) = false := by simp [hz]
      go_enter Try.func89, Try.ntmps89
      go_wp2
      go_ret
      exact ⟨by rw [e2]; rfl, HT.out, Sole.setCell _ _ _ _⟩
/-- What a call that turns file f tells ahead of its work. -/
def beginE (d : D) (f : Int) : Nat := if hasB f then (if d.fail = 1 then 8 else 0) else 1
def beginD (d : D) (f : Int) : D := if hasB f then tick d else d
set_option maxRecDepth 100000 in
theorem begin_any {b : Nat} {d : D} (f : Int) (w : World) (h : DkIs w b d) :
    Calls Try.prog 58 #[.pointer (some ⟨b, 0, none⟩), .int .i64 f] w fun e w' => e = .returned (.int .i64 (beginE d f : Nat)) ∧ DkIs w' b (beginD d f) ∧ Sole b w w' := by
  have HH := Lib.hid (has_any f)
  have HF := Lib.hid (fails_any w h)
  have H := Lib.hid h
  have E := Lib.hid (show beginE d f = if hasB f then (if d.fail = 1 then 8 else 0) else 1 from rfl)
  have E2 := Lib.hid (show beginD d f = if hasB f then tick d else d from rfl)
  clear h
  generalize beginE d f = q at *
  generalize beginD d f = d2 at *
  generalize hasB f = hb at *
  generalize hk : decide (d.fail = 1) = k at *
  cases hb
  · obtain rfl : q = 1 := E.out
    obtain rfl : d2 = d := E2.out
    clear HF hk E E2
    go_enter Try.func58, Try.ntmps58
    go_wp2_with fail
    refine (HH.out _).mono ?_
    rintro e w2 ⟨rfl, rfl⟩
    go_wp2
    go_ret
    exact ⟨rfl, H.out, Sole.refl _ _⟩
  · obtain rfl : d2 = tick d := E2.out
    have E3 := Lib.hid (show q = if d.fail = 1 then 8 else 0 from E.out)
    clear E E2 H
    cases k
    · obtain rfl : q = 0 := by rw [E3.out, if_neg (of_decide_eq_false hk)]
      clear E3 hk
      go_enter Try.func58, Try.ntmps58
      go_wp2_with fail
      refine (HH.out _).mono ?_
      rintro e w2 ⟨rfl, rfl⟩
      go_wp2_with fail
      refine HF.out.mono ?_
      rintro e w2 ⟨rfl, h1, h2⟩
      have H1 := Lib.hid h1
      have H2 := Lib.hid h2
      clear h1 h2
      go_wp2
      go_ret
      exact ⟨rfl, H1.out, H2.out⟩
    · obtain rfl : q = 8 := by rw [E3.out, if_pos (of_decide_eq_true hk)]
      clear E3 hk
      go_enter Try.func58, Try.ntmps58
      go_wp2_with fail
      refine (HH.out _).mono ?_
      rintro e w2 ⟨rfl, rfl⟩
      go_wp2_with fail
      refine HF.out.mono ?_
      rintro e w2 ⟨rfl, h1, h2⟩
      have H1 := Lib.hid h1
      have H2 := Lib.hid h2
      clear h1 h2
      go_wp2
      go_ret
      exact ⟨rfl, H1.out, H2.out⟩
def usedN (fs : Nat → F) : Nat → Nat
  | 0 => 0
  | k + 1 => usedN fs k + (fs k).size
theorem usedN_four (fs : Nat → F) : usedN fs 4 = used fs := by unfold used; simp [usedN]
theorem usedN_le (fs : Nat → F) (k : Nat) (hk : k ≤ 4) : usedN fs k ≤ used fs := by
  have hk' : k = 0 ∨ k = 1 ∨ k = 2 ∨ k = 3 ∨ k = 4 := by omega
  unfold used
  rcases hk' with rfl | rfl | rfl | rfl | rfl <;> simp [usedN] <;> omega
theorem ok_now {d : D} (h : d.Ok) (k : Nat) (hk : k < 4) : (d.fs k).now.size ≤ 1099511627776 ∧ (d.fs k).sure.size ≤ 1099511627776 ∧ (d.fs k).size ≤ 1099511627776 := by
  have h1 := size_le d.fs k hk
  have h2 := h.used
  have h3 := h.room
  unfold F.size at *
  omega
theorem idx0 (fs : Nat → F) (w : World) : (Instr.index 102 (.agg #[.string (fs 0).now, .string (fs 0).sure, .bool (fs 0).put, .string (fs 1).now, .string (fs 1).sure, .bool (fs 1).put, .string (fs 2).now, .string (fs 2).sure, .bool (fs 2).put, .string (fs 3).now, .string (fs 3).sure, .bool (fs 3).put]) (.int .i64 0)).run Try.prog w = .ok (.agg #[.string (fs 0).now, .string (fs 0).sure, .bool (fs 0).put]) w := by kernel_rfl
theorem idx1 (fs : Nat → F) (w : World) : (Instr.index 102 (.agg #[.string (fs 0).now, .string (fs 0).sure, .bool (fs 0).put, .string (fs 1).now, .string (fs 1).sure, .bool (fs 1).put, .string (fs 2).now, .string (fs 2).sure, .bool (fs 2).put, .string (fs 3).now, .string (fs 3).sure, .bool (fs 3).put]) (.int .i64 1)).run Try.prog w = .ok (.agg #[.string (fs 1).now, .string (fs 1).sure, .bool (fs 1).put]) w := by kernel_rfl
theorem idx2 (fs : Nat → F) (w : World) : (Instr.index 102 (.agg #[.string (fs 0).now, .string (fs 0).sure, .bool (fs 0).put, .string (fs 1).now, .string (fs 1).sure, .bool (fs 1).put, .string (fs 2).now, .string (fs 2).sure, .bool (fs 2).put, .string (fs 3).now, .string (fs 3).sure, .bool (fs 3).put]) (.int .i64 2)).run Try.prog w = .ok (.agg #[.string (fs 2).now, .string (fs 2).sure, .bool (fs 2).put]) w := by kernel_rfl
theorem idx3 (fs : Nat → F) (w : World) : (Instr.index 102 (.agg #[.string (fs 0).now, .string (fs 0).sure, .bool (fs 0).put, .string (fs 1).now, .string (fs 1).sure, .bool (fs 1).put, .string (fs 2).now, .string (fs 2).sure, .bool (fs 2).put, .string (fs 3).now, .string (fs 3).sure, .bool (fs 3).put]) (.int .i64 3)).run Try.prog w = .ok (.agg #[.string (fs 3).now, .string (fs 3).sure, .bool (fs 3).put]) w := by kernel_rfl
set_option maxRecDepth 100000 in
set_option maxHeartbeats 1000000 in
theorem used_any {b : Nat} {d : D} (w : World) (h : DkIs w b d) :
    Calls Try.prog 15 #[.pointer (some ⟨b, 0, none⟩)] w fun e w' => e = .returned (.int .i64 (used d.fs : Nat)) ∧ Gr w w' := by
  have n0 := h.now 0 (by decide)
  have n1 := h.now 1 (by decide)
  have n2 := h.now 2 (by decide)
  have n3 := h.now 3 (by decide)
  have s0 := h.sure 0 (by decide)
  have s1 := h.sure 1 (by decide)
  have s2 := h.sure 2 (by decide)
  have s3 := h.sure 3 (by decide)
  have p0 := h.put 0 (by decide)
  have p1 := h.put 1 (by decide)
  have p2 := h.put 2 (by decide)
  have p3 := h.put 3 (by decide)
  have HSZ := Lib.hid (fun k hk w => size_any (d.fs k) w (by have := ok_now h.ok k hk; omega) (by have := ok_now h.ok k hk; omega))
  have HU := Lib.hid (fun k hk => usedN_le d.fs k hk)
  have HZ := Lib.hid (show ∀ k, k < 4 → (d.fs k).size ≤ 1099511627776 from fun k hk => (ok_now h.ok k hk).2.2)
  have HB := Lib.hid (show used d.fs ≤ 1099511627776 from Nat.le_trans h.ok.used h.ok.room)
  have H4 := Lib.hid (usedN_four d.fs)
  clear h
  generalize d.fs = fs at *
  go_enter Try.func15, Try.ntmps15
  go_wp2
  go_loopw [3, 10] (fun v i wr => ∃ k : Nat, k ≤ 4 ∧ i = .int .i64 k ∧ v = .int .i64 (usedN fs k : Nat) ∧ Hid (Gr w wr)) (fun _ i _ => 4 - (intOf i).toNat)
  case atStart => exact ⟨0, by omega, rfl, rfl, Lib.hid (Gr.refl _)⟩
  case round =>
    obtain ⟨k, hk, rfl, rfl, HG⟩ := hrel
    have h1 := HU.out k hk
    have h2 := HB.out
    have hk' : k = 0 ∨ k = 1 ∨ k = 2 ∨ k = 3 ∨ k = 4 := by omega
    rcases hk' with hk0 | hk0 | hk0 | hk0 | hk0
    · have h3 := HZ.out 0 (by decide)
      have ix := fun w => idx0 fs w
      have SZ := Lib.hid (HSZ.out 0 (by decide))
      have HS := Lib.hid (show usedN fs (0 + 1) = usedN fs 0 + (fs 0).size from rfl)
      rw [hk0] at h1 ⊢
      clear hk0 hk
      generalize usedN fs 0 = U at *
      generalize fs 0 = f at *
      generalize hz : f.size = z at *
      clear hz
      go_wp2_with fail
      refine (SZ.out _).mono ?_
      rintro e w2 ⟨rfl, hg⟩
      have HG2 := Lib.hid ((HG.out.alloc _).trans hg)
      clear hg
      go_wp2
      go_roundw
      case rel => exact ⟨0 + 1, by omega, by go_num, by rw [HS.out]; rfl, HG2⟩
      case measure => simp [intOf]
    · have h3 := HZ.out 1 (by decide)
      have ix := fun w => idx1 fs w
      have SZ := Lib.hid (HSZ.out 1 (by decide))
      have HS := Lib.hid (show usedN fs (1 + 1) = usedN fs 1 + (fs 1).size from rfl)
      rw [hk0] at h1 ⊢
      clear hk0 hk
      generalize usedN fs 1 = U at *
      generalize fs 1 = f at *
      generalize hz : f.size = z at *
      clear hz
      go_wp2_with fail
      refine (SZ.out _).mono ?_
      rintro e w2 ⟨rfl, hg⟩
      have HG2 := Lib.hid ((HG.out.alloc _).trans hg)
      clear hg
      go_wp2
      go_roundw
      case rel => exact ⟨1 + 1, by omega, by go_num, by rw [HS.out]; rfl, HG2⟩
      case measure => simp [intOf]
    · have h3 := HZ.out 2 (by decide)
      have ix := fun w => idx2 fs w
      have SZ := Lib.hid (HSZ.out 2 (by decide))
      have HS := Lib.hid (show usedN fs (2 + 1) = usedN fs 2 + (fs 2).size from rfl)
      rw [hk0] at h1 ⊢
      clear hk0 hk
      generalize usedN fs 2 = U at *
      generalize fs 2 = f at *
      generalize hz : f.size = z at *
      clear hz
      go_wp2_with fail
      refine (SZ.out _).mono ?_
      rintro e w2 ⟨rfl, hg⟩
      have HG2 := Lib.hid ((HG.out.alloc _).trans hg)
      clear hg
      go_wp2
      go_roundw
      case rel => exact ⟨2 + 1, by omega, by go_num, by rw [HS.out]; rfl, HG2⟩
      case measure => simp [intOf]
    · have h3 := HZ.out 3 (by decide)
      have ix := fun w => idx3 fs w
      have SZ := Lib.hid (HSZ.out 3 (by decide))
      have HS := Lib.hid (show usedN fs (3 + 1) = usedN fs 3 + (fs 3).size from rfl)
      rw [hk0] at h1 ⊢
      clear hk0 hk
      generalize usedN fs 3 = U at *
      generalize fs 3 = f at *
      generalize hz : f.size = z at *
      clear hz
      go_wp2_with fail
      refine (SZ.out _).mono ?_
      rintro e w2 ⟨rfl, hg⟩
      have HG2 := Lib.hid ((HG.out.alloc _).trans hg)
      clear hg
      go_wp2
      go_roundw
      case rel => exact ⟨3 + 1, by omega, by go_num, by rw [HS.out]; rfl, HG2⟩
      case measure => simp [intOf]
    · have e4 := H4.out
      rw [hk0] at h1 ⊢
      rw [e4] at h1 ⊢
      clear hk0 hk e4
      go_wp2
      go_ret
      exact ⟨rfl, HG.out⟩
end Go.Proofs.Ytjllnojhhlkpoaa

namespace Go.Proofs.Ytjllnojhhlkpoaa
open Go.ChangeShapes Go.WideShapes Go.ChangeAt Go.RowKit
set_option linter.unusedVariables false
set_option linter.unusedSimpArgs false
open Dk
theorem same11 {f : FuncId} {args : Array Value} {w : World} {v : Value} (h : Calls Try.prog f args w fun e w' => e = .returned v ∧ w = w') : Calls Try.prog f args w fun e w' => e = .returned v ∧ w' = w := h.mono fun _ _ ⟨he, hw⟩ => ⟨he, hw.symm⟩
theorem gr_new (w : World) (o : Obj) : Gr w (w.alloc o) := (Gr.refl w).alloc o
set_option maxRecDepth 100000 in
theorem new_any (r : Nat) (hr : r ≤ 1099511627776) (w : World) :
    Calls Try.prog 12 #[.int .i64 r] w fun e w' => ∃ b, e = .returned (.pointer (some ⟨b, 0, none⟩)) ∧ b = w.heap.size ∧ DkIs w' b (new r) ∧ Gr w w' := by
  have E : (max (r : Int) 0) = r := by omega
  have HE := Lib.hid E
  clear E
  go_enter Try.func12, Try.ntmps12
  go_wp2_with (simp only [HE.out])
  go_ret
  refine ⟨_, rfl, rfl, ⟨?_, fun k hk => ?_, fun k hk => ?_, fun k hk => ?_, ?_, fun i hi => ?_, new_ok r hr⟩, (Gr.refl _).alloc _⟩
  · exact new_cell rfl rfl
  · have hk' : k = 0 ∨ k = 1 ∨ k = 2 ∨ k = 3 := by omega
    rcases hk' with rfl | rfl | rfl | rfl <;> exact new_cell rfl rfl
  · have hk' : k = 0 ∨ k = 1 ∨ k = 2 ∨ k = 3 := by omega
    rcases hk' with rfl | rfl | rfl | rfl <;> exact new_cell rfl rfl
  · have hk' : k = 0 ∨ k = 1 ∨ k = 2 ∨ k = 3 := by omega
    rcases hk' with rfl | rfl | rfl | rfl <;> exact new_cell rfl rfl
  · exact new_cell rfl rfl
  · exact new_free rfl
set_option maxRecDepth 100000 in
theorem fail_any11 {b : Nat} {d : D} (n : Int) (wn : (Lit.int .i64 n).wf = true) (w : World) (h : DkIs w b d) :
    Calls Try.prog 16 #[.pointer (some ⟨b, 0, none⟩), .int .i64 n] w fun e w' => e = .returned (.tuple #[]) ∧ DkIs w' b (setFail d n) ∧ Sole b w w' := by
  have c13 := h.fail
  have f13 := h.free 13 (by decide)
  have HT := Lib.hid (h.setFail (d' := setFail d n) rfl rfl (setFail_ok h.ok n))
  have E : ((setFail d n).fail : Int) = min (max n (-1)) 1073741824 + 1 := by unfold setFail; simp only; omega
  have HE := Lib.hid E
  have hb := bounds_i64 wn
  clear h E
  go_enter Try.func16, Try.ntmps16
  go_wp2
  go_end0
  exact ⟨rfl, by have h9 := HT.out; rw [HE.out] at h9; exact h9, Sole.setCell _ _ _ _⟩
theorem DkIs.of {w w' : World} {b k : Nat} {d : D} {f : F} (h : DkIs w b d) (hk : k < 4) (ho : (putF d k f).Ok) (hfr : ∀ i, w'.frozen? ⟨b, i, none⟩ = w.frozen? ⟨b, i, none⟩)
    (hn : w'.cell? ⟨b, 1 + k * 3, none⟩ = some (.string f.now)) (hs : w'.cell? ⟨b, 1 + k * 3 + 1, none⟩ = some (.string f.sure)) (hp : w'.cell? ⟨b, 1 + k * 3 + 2, none⟩ = some (.bool f.put))
    (o : ∀ i v, i ≠ 1 + k * 3 → i ≠ 1 + k * 3 + 1 → i ≠ 1 + k * 3 + 2 → w.cell? ⟨b, i, none⟩ = some v → w'.cell? ⟨b, i, none⟩ = some v) : DkIs w' b (putF d k f) := by
  refine ⟨o 0 _ (by omega) (by omega) (by omega) h.room, fun j hj => ?_, fun j hj => ?_, fun j hj => ?_, o 13 _ (by omega) (by omega) (by omega) h.fail, fun i hi => ?_, ho⟩
  · show _ = some (Value.string (upd d.fs k f j).now)
    by_cases e : j = k
    · subst e; rw [upd_same]; exact hn
    · rw [upd_other _ _ _ _ e]; exact o _ _ (by omega) (by omega) (by omega) (h.now j hj)
  · show _ = some (Value.string (upd d.fs k f j).sure)
    by_cases e : j = k
    · subst e; rw [upd_same]; exact hs
    · rw [upd_other _ _ _ _ e]; exact o _ _ (by omega) (by omega) (by omega) (h.sure j hj)
  · show _ = some (Value.bool (upd d.fs k f j).put)
    by_cases e : j = k
    · subst e; rw [upd_same]; exact hp
    · rw [upd_other _ _ _ _ e]; exact o _ _ (by omega) (by omega) (by omega) (h.put j hj)
  · rw [hfr]; exact h.free i hi
theorem keep2 {w : World} {b k : Nat} {d : D} (h : DkIs w b d) (hk : k < 4) : DkIs ((w.setCell ⟨b, 1 + k * 3 + 1, none⟩ (.string (d.fs k).now)).setCell ⟨b, 1 + k * 3 + 2, none⟩ (.bool false)) b (putF d k (gKeep (d.fs k))) := by
  refine h.of hk (putF_ok h.ok hk (gKeep_ok _) (full_keep h.ok _ _ (gKeep_size _))) (fun i => by rw [World.frozen?_setCell, World.frozen?_setCell]) ?_ ?_ ?_ (fun i v h1 h2 h3 hv => ?_)
  · rw [World.cell?_setCell_other _ _ _ _ (by simp), World.cell?_setCell_other _ _ _ _ (by simp)]; exact h.now k hk
  · rw [World.cell?_setCell_other _ _ _ _ (by simp)]
    exact World.cell?_setCell_same' _ _ _ (by rw [h.sure k hk]; rfl)
  · exact World.cell?_setCell_same' _ _ _ (by rw [World.cell?_setCell_other _ _ _ _ (by simp), h.put k hk]; rfl)
  · rw [World.cell?_setCell_other _ _ _ _ (by simp [h3]), World.cell?_setCell_other _ _ _ _ (by simp [h2])]; exact hv
set_option maxRecDepth 100000 in
theorem keep_any {b : Nat} {d : D} (k : Nat) (hk : k < 4) (w : World) (h : DkIs w b d) :
    Calls Try.prog 59 #[.pointer (some ⟨b, 1 + k * 3, none⟩)] w fun e w' => e = .returned (.tuple #[]) ∧ DkIs w' b (putF d k (gKeep (d.fs k))) ∧ Sole b w w' := by
  have n0 := h.now k hk
  have s0 := h.sure k hk
  have p0 := h.put k hk
  have fn := h.free (1 + k * 3) (by omega)
  have fs := h.free (1 + k * 3 + 1) (by omega)
  have fp := h.free (1 + k * 3 + 2) (by omega)
  have H := Lib.hid (keep2 h hk)
  clear h
  go_enter Try.func59, Try.ntmps59
  go_wp2
  go_end0
  exact ⟨rfl, H.out, (Sole.setCell _ _ _ _).trans (Sole.setCell _ _ _ _)⟩
set_option maxRecDepth 100000 in
set_option maxHeartbeats 1000000 in
theorem left_any11 (f : F) (c : Int) (wc : (Lit.int .i64 c).wf = true) (hf : f.Ok) (hn : f.now.size ≤ 1099511627776) (hs : f.sure.size ≤ 1099511627776) (w : World) :
    Calls Try.prog 63 #[.agg #[.string f.now, .string f.sure, .bool f.put], .int .i64 c] w fun e w' => e = .returned (.string (left f c)) ∧ Gr w w' := by
  obtain ⟨n, s, p⟩ := f
  simp only at hn hs
  cases p
  · have hle : s.size ≤ n.size := hf.le rfl
    have HM := Lib.hid (fun w => same11 (modulo_any c ((n.size : Int) - s.size + 1) (by omega) (by omega) wc w))
    have h0 := Int.emod_nonneg c (show ((n.size : Int) - s.size + 1) ≠ 0 by omega)
    have h1 := Int.emod_lt_of_pos c (show 0 < ((n.size : Int) - s.size + 1) by omega)
    have HL := Lib.hid (show left ⟨n, s, false⟩ c = n.extract 0 (s.size + (c % ((n.size : Int) - s.size + 1)).toNat) from rfl)
    generalize c % ((n.size : Int) - s.size + 1) = m at *
    obtain ⟨m, rfl⟩ := Int.eq_ofNat_of_zero_le h0
    rw [HL.out]
    clear HL hf
    have x1 : IntKind.i64.wrap ((n.size : Int) - s.size) = (n.size : Int) - s.size := IntWalk.i64_in _ (by omega)
    have x2 : IntKind.i64.wrap ((n.size : Int) - s.size + 1) = (n.size : Int) - s.size + 1 := IntWalk.i64_in _ (by omega)
    have x3 : IntKind.i64.wrap ((s.size : Int) + (m : Int)) = ((s.size + m : Nat) : Int) := IntWalk.i64_in _ (by omega)
    have x4 : ((s.size + m : Nat) : Int) ≤ (n.size : Int) := by omega
    have HE := Lib.hid (show n.extract 0 (s.size + m) = n.extract 0 (s.size + (m : Int).toNat) by simp)
    go_enter Try.func63, Try.ntmps63
    go_wp2
    go_quiet ((go_at_call 91; exact Calls.quiet_of_same (HM.out _)))
    go_wp2
    go_ret
    exact ⟨rfl, ((Gr.refl _).alloc _).drewN _⟩
  · have HM := Lib.hid (modulo_any c ((n.size : Int) + 2) (by omega) (by omega) wc)
    have h0 := Int.emod_nonneg c (show ((n.size : Int) + 2) ≠ 0 by omega)
    have h1 := Int.emod_lt_of_pos c (show 0 < ((n.size : Int) + 2) by omega)
    have HL := Lib.hid (show left ⟨n, s, true⟩ c = if (c % ((n.size : Int) + 2)).toNat = 0 then s else n.extract 0 ((c % ((n.size : Int) + 2)).toNat - 1) from rfl)
    generalize c % ((n.size : Int) + 2) = m at *
    obtain ⟨m, rfl⟩ := Int.eq_ofNat_of_zero_le h0
    clear hf
    rcases m with _ | j
    · have HE := Lib.hid (show left ⟨n, s, true⟩ c = s from HL.out)
      rw [HE.out]
      clear HL HE
      go_enter Try.func63, Try.ntmps63
      go_wp2_with fail
      refine (HM.out _).mono ?_
      rintro e w2 ⟨rfl, rfl⟩
      go_wp2
      go_ret
      exact ⟨rfl, ((Gr.refl _).alloc _)⟩
    · have HE := Lib.hid (show left ⟨n, s, true⟩ c = n.extract 0 j by rw [HL.out]; simp)
      rw [HE.out]
      have e0 : (((j + 1 : Nat) : Int) == 0) = false := by simp; omega
      clear HL HE
      have h1' : (j : Int) ≤ n.size := by omega
      go_enter Try.func63, Try.ntmps63
      go_wp2_with fail
      refine (HM.out _).mono ?_
      rintro e w2 ⟨rfl, rfl⟩
      go_wp2
      go_ret
      exact ⟨rfl, ((Gr.refl _).alloc _)⟩
end Go.Proofs.Ytjllnojhhlkpoaa

namespace Go.Proofs.Ytjllnojhhlkpoaa
open Go.ChangeShapes Go.WideShapes Go.ChangeAt Go.RowKit
set_option linter.unusedVariables false
set_option linter.unusedSimpArgs false
open Dk
def ReplIs (b : Nat) (d : D) (k : Nat) (f : F) (w : World) (e : Ending) (w' : World) : Prop := e = .returned (.int .i64 ((repl d k f).2 : Nat)) ∧ DkIs w' b (repl d k f).1 ∧ Sole b w w'
theorem replIs_no {b : Nat} {d : D} {k : Nat} {f : F} {w w' : World} (hf : full d k f = true) (h : DkIs w' b d) (hs : Sole b w w') : ReplIs b d k f w (.returned (.int .i64 17)) w' := by
  unfold ReplIs repl; rw [if_pos hf]; exact ⟨rfl, h, hs⟩
theorem replIs_yes {b : Nat} {d : D} {k : Nat} {f : F} {w w' : World} (hf : full d k f = false) (h : DkIs w' b (putF d k f)) (hs : Sole b w w') : ReplIs b d k f w (.returned (.int .i64 0)) w' := by
  unfold ReplIs repl; rw [if_neg (by simp [hf])]; exact ⟨rfl, h, hs⟩
theorem put3_is {w : World} {b k : Nat} {d : D} {n0 n1 : ByteArray} {n2 : Bool} (h : DkIs w b d) (hk : k < 4) (ho : (putF d k ⟨n0, n1, n2⟩).Ok) (w' : World) (hw : w' = ((w.setCell ⟨b, 1 + k * 3, none⟩ (.string n0)).setCell ⟨b, 1 + k * 3 + 1, none⟩ (.string n1)).setCell ⟨b, 1 + k * 3 + 2, none⟩ (.bool n2)) :
    DkIs w' b (putF d k ⟨n0, n1, n2⟩) ∧ Sole b w w' := by
  have h1 := DkIs.put3 h hk ho
  have h2 := Sole.put3 w b k ⟨n0, n1, n2⟩
  have e : Ytjllnojhhlkpoaa.put3 w b k ⟨n0, n1, n2⟩ = w' := by rw [hw]; unfold Ytjllnojhhlkpoaa.put3; with_reducible rfl
  rw [e] at h1 h2
  exact ⟨h1, h2⟩
set_option maxRecDepth 100000 in
set_option maxHeartbeats 2000000 in
theorem replace_any {b : Nat} {d : D} (k : Nat) (hk : k < 4) (f : F) (hok : f.Ok) (hn : f.now.size ≤ 2199023255552) (hs : f.sure.size ≤ 2199023255552) (w : World) (h : DkIs w b d) :
    Calls Try.prog 81 #[.pointer (some ⟨b, 0, none⟩), .int .i64 (k : Nat), .agg #[.string f.now, .string f.sure, .bool f.put]] w (ReplIs b d k f w) := by
  have g0c := h.now k hk
  have g1c := h.sure k hk
  have g2c := h.put k hk
  have rc := h.room
  have fn := h.free (1 + k * 3) (by omega)
  have fs := h.free (1 + k * 3 + 1) (by omega)
  have fp := h.free (1 + k * 3 + 2) (by omega)
  have HD := Lib.hid h
  have hblt := cell_lt rc
  have Z1 := Lib.hid (fun w => size_any (d.fs k) w (by have := ok_now h.ok k hk; omega) (by have := ok_now h.ok k hk; omega))
  have Z2 := Lib.hid (fun w => size_any f w (by omega) (by omega))
  have hz1 := (ok_now h.ok k hk).2.2
  have hz2 : f.size ≤ 2199023255552 := by unfold F.size; omega
  have hu1 : used d.fs ≤ 1099511627776 := Nat.le_trans h.ok.used h.ok.room
  have hR := h.ok.room
  have hR2 := h.ok.used
  have hsl := size_le d.fs k hk
  obtain ⟨q, hq⟩ : ∃ q, full d k f = q := ⟨_, rfl⟩
  have HQ0 := Lib.hid (show decide ((used d.fs : Int) - (d.fs k).size + f.size > d.room) = q by rw [← hq]; unfold full; rw [decide_eq_decide]; omega)
  have HFQ := Lib.hid hq
  have HPUT := Lib.hid (fun (e : full d k f = false) => putF_ok h.ok hk hok e)
  obtain ⟨n0, n1, n2⟩ := f
  obtain ⟨d, rfl⟩ : ∃ d', d' = d := ⟨_, rfl⟩
  have HU := Lib.hid (fun (w0 w9 : World) (hg : Gr w w0) (hg2 : Gr w0 w9) => used_any w9 (h.gr (hg.trans hg2)))
  simp only at Z2 hz2 HQ0
  clear h hok hq
  generalize hU : used d.fs = U at *
  generalize hG : d.fs k = g at *
  obtain ⟨g0, g1, g2⟩ := g
  simp only at g0c g1c g2c Z1
  generalize hg1 : F.size ⟨g0, g1, g2⟩ = z1 at *
  generalize hg2 : F.size ⟨n0, n1, n2⟩ = z2 at *
  generalize hRR : d.room = R at *
  have HG := Lib.hid hG
  clear hU hG hg1 hg2 hRR
  have hk4 : (k : Int) < 4 := by omega
  have x1 : IntKind.i64.wrap ((U : Int) - (z1 : Int)) = (U : Int) - z1 := IntWalk.i64_in _ (by omega)
  have x2 : IntKind.i64.wrap ((U : Int) - (z1 : Int) + (z2 : Int)) = (U : Int) - z1 + z2 := IntWalk.i64_in _ (by omega)
  have HQ := HQ0
  clear HQ0
  go_enter Try.func81, Try.ntmps81
  go_wp2
  have a0 := new_cell (w := w) (c := #[.string n0, .string n1, .bool n2]) (t := 101) (n := w.heap.size) (i := 0) rfl rfl
  have a1 := new_cell (w := w) (c := #[.string n0, .string n1, .bool n2]) (t := 101) (n := w.heap.size) (i := 1) rfl rfl
  have a2 := new_cell (w := w) (c := #[.string n0, .string n1, .bool n2]) (t := 101) (n := w.heap.size) (i := 2) rfl rfl
  have hz := (Gr.refl w).alloc (.cells #[.string n0, .string n1, .bool n2] 101)
  replace g0c := hz.cell g0c
  replace g1c := hz.cell g1c
  replace g2c := hz.cell g2c
  replace rc := hz.cell rc
  replace fn := (hz.frozen hblt).trans fn
  replace fs := (hz.frozen hblt).trans fs
  replace fp := (hz.frozen hblt).trans fp
  have HZ := Lib.hid hz
  have hne : b ≠ w.heap.size := Nat.ne_of_lt hblt
  have hb2 : b < (w.alloc (.cells #[.string n0, .string n1, .bool n2] 101)).heap.size := cell_lt rc
  replace HU := Lib.hid (fun w9 hg => HU.out _ w9 hz hg)
  clear hz
  generalize w.alloc (.cells #[.string n0, .string n1, .bool n2] 101) = wn at *
  generalize w.heap.size = nb at *
  have HS0 : (fun w9 => Gr wn w9 ∧ w9.cell? ⟨b, 1 + k * 3, none⟩ = some (.string g0) ∧ w9.cell? ⟨b, 1 + k * 3 + 1, none⟩ = some (.string g1) ∧ w9.cell? ⟨b, 1 + k * 3 + 2, none⟩ = some (.bool g2) ∧ w9.cell? ⟨b, 0, none⟩ = some (.int .i64 R) ∧ w9.cell? ⟨nb, 0, none⟩ = some (.string n0) ∧ w9.cell? ⟨nb, 1, none⟩ = some (.string n1) ∧ w9.cell? ⟨nb, 2, none⟩ = some (.bool n2)) wn := ⟨Gr.refl _, g0c, g1c, g2c, rc, a0, a1, a2⟩
  have HF := Lib.hid (And.intro fn (And.intro fs fp))
  have HX : Hid (∀ w0 w9 : World, Gr w0 w9 → (fun w9 => Gr wn w9 ∧ w9.cell? ⟨b, 1 + k * 3, none⟩ = some (.string g0) ∧ w9.cell? ⟨b, 1 + k * 3 + 1, none⟩ = some (.string g1) ∧ w9.cell? ⟨b, 1 + k * 3 + 2, none⟩ = some (.bool g2) ∧ w9.cell? ⟨b, 0, none⟩ = some (.int .i64 R) ∧ w9.cell? ⟨nb, 0, none⟩ = some (.string n0) ∧ w9.cell? ⟨nb, 1, none⟩ = some (.string n1) ∧ w9.cell? ⟨nb, 2, none⟩ = some (.bool n2)) w0 → (fun w9 => Gr wn w9 ∧ w9.cell? ⟨b, 1 + k * 3, none⟩ = some (.string g0) ∧ w9.cell? ⟨b, 1 + k * 3 + 1, none⟩ = some (.string g1) ∧ w9.cell? ⟨b, 1 + k * 3 + 2, none⟩ = some (.bool g2) ∧ w9.cell? ⟨b, 0, none⟩ = some (.int .i64 R) ∧ w9.cell? ⟨nb, 0, none⟩ = some (.string n0) ∧ w9.cell? ⟨nb, 1, none⟩ = some (.string n1) ∧ w9.cell? ⟨nb, 2, none⟩ = some (.bool n2)) w9) := Lib.hid fun w0 w9 hg ⟨h, q0, q1, q2, q3, q4, q5, q6⟩ => ⟨h.trans hg, hg.cell q0, hg.cell q1, hg.cell q2, hg.cell q3, hg.cell q4, hg.cell q5, hg.cell q6⟩
  clear g0c g1c g2c rc a0 a1 a2 fn fs fp
  apply cutS (fun w9 => Gr wn w9 ∧ w9.cell? ⟨b, 1 + k * 3, none⟩ = some (.string g0) ∧ w9.cell? ⟨b, 1 + k * 3 + 1, none⟩ = some (.string g1) ∧ w9.cell? ⟨b, 1 + k * 3 + 2, none⟩ = some (.bool g2) ∧ w9.cell? ⟨b, 0, none⟩ = some (.int .i64 R) ∧ w9.cell? ⟨nb, 0, none⟩ = some (.string n0) ∧ w9.cell? ⟨nb, 1, none⟩ = some (.string n1) ∧ w9.cell? ⟨nb, 2, none⟩ = some (.bool n2))
  case main =>
    intro HL
    refine wp_region_held_drew (S := (fun w9 => Gr wn w9 ∧ w9.cell? ⟨b, 1 + k * 3, none⟩ = some (.string g0) ∧ w9.cell? ⟨b, 1 + k * 3 + 1, none⟩ = some (.string g1) ∧ w9.cell? ⟨b, 1 + k * 3 + 2, none⟩ = some (.bool g2) ∧ w9.cell? ⟨b, 0, none⟩ = some (.int .i64 R) ∧ w9.cell? ⟨nb, 0, none⟩ = some (.string n0) ∧ w9.cell? ⟨nb, 1, none⟩ = some (.string n1) ∧ w9.cell? ⟨nb, 2, none⟩ = some (.bool n2))) (by kernel_rfl) ?inva (fun h0 => ?_)
    case inva => ((try dsimp only); (first | exact HS0 | exact HX.out _ _ ((Gr.refl _).drew) HS0))
    refine wpAnyH_take (i := 0) (oi := { dst := some 7, op := Go.Op.move (Go.Operand.tmp 0), type := 24, pos := "disk.go:103", after := #[], guard := none }) (v := ?va1) rfl (by kernel_rfl) (by kernel_rfl) (by kernel_rfl) (fun _ _ _ h => h) (Or.inl ⟨by rfl, ?ra1⟩) (by assumption) ?_
    case ra1 => (intro w hSw; (try dsimp only at hSw); (go_simp <;> with_reducible rfl))
    try simp only [Act.put, List.setIfInBounds_toArray, List.set_cons_zero, List.set_cons_succ]
    refine wpAnyH_take (i := 2) (oi := { dst := some 9, op := Go.Op.move (Go.Operand.tmp 0), type := 24, pos := "disk.go:103", after := #[], guard := none }) (v := ?va2) rfl (by kernel_rfl) (by kernel_rfl) (by kernel_rfl) (fun _ _ _ h => h) (Or.inl ⟨by rfl, ?ra2⟩) (by assumption) ?_
    case ra2 => (intro w hSw; (try dsimp only at hSw); (go_simp <;> with_reducible rfl))
    try simp only [Act.put, List.setIfInBounds_toArray, List.set_cons_zero, List.set_cons_succ]
    refine wpAnyH_take (i := 3) (oi := { dst := some 10, op := Go.Op.move (Go.Operand.tmp 1), type := 3, pos := "disk.go:103", after := #[], guard := none }) (v := ?va3) rfl (by kernel_rfl) (by kernel_rfl) (by kernel_rfl) (fun _ _ _ h => h) (Or.inl ⟨by rfl, ?ra3⟩) (by assumption) ?_
    case ra3 => (intro w hSw; (try dsimp only at hSw); (go_simp <;> with_reducible rfl))
    try simp only [Act.put, List.setIfInBounds_toArray, List.set_cons_zero, List.set_cons_succ]
    refine wpAnyH_take (i := 4) (oi := { dst := some 11, op := Go.Op.nilCheck (Go.Operand.tmp 9), type := 0, pos := "disk.go:103", after := #[{ on := 2, ground := Go.Ground.data }], guard := none }) (v := ?va4) rfl (by kernel_rfl) (by kernel_rfl) (by kernel_rfl) (fun _ _ _ h => h) (Or.inl ⟨by rfl, ?ra4⟩) (by assumption) ?_
    case ra4 => (intro w hSw; (try dsimp only at hSw); (go_simp <;> with_reducible rfl))
    try simp only [Act.put, List.setIfInBounds_toArray, List.set_cons_zero, List.set_cons_succ]
    refine wpAnyH_take (i := 5) (oi := { dst := some 12, op := Go.Op.fieldAddr 104 (Go.Operand.tmp 11) 1, type := 0, pos := "disk.go:103", after := #[{ on := 4, ground := Go.Ground.data }], guard := none }) (v := ?va5) rfl (by kernel_rfl) (by kernel_rfl) (by kernel_rfl) (fun _ _ _ h => h) (Or.inl ⟨by rfl, ?ra5⟩) (by assumption) ?_
    case ra5 => (intro w hSw; (try dsimp only at hSw); (go_simp <;> with_reducible rfl))
    try simp only [Act.put, List.setIfInBounds_toArray, List.set_cons_zero, List.set_cons_succ]
    refine wpAnyH_take (i := 6) (oi := { dst := some 13, op := Go.Op.indexAddr 102 (Go.Operand.tmp 12) (Go.Operand.tmp 10), type := 0, pos := "disk.go:103", after := #[{ on := 5, ground := Go.Ground.data }, { on := 3, ground := Go.Ground.data }], guard := none }) (v := ?va6) rfl (by kernel_rfl) (by kernel_rfl) (by kernel_rfl) (fun _ _ _ h => h) (Or.inl ⟨by rfl, ?ra6⟩) (by assumption) ?_
    case ra6 => (intro w hSw; (try dsimp only at hSw); (go_simp <;> with_reducible rfl))
    try simp only [Act.put, List.setIfInBounds_toArray, List.set_cons_zero, List.set_cons_succ]
    refine wpAnyH_take (i := 7) (oi := { dst := some 14, op := Go.Op.load 101 (Go.Operand.tmp 13), type := 101, pos := "disk.go:103", after := #[{ on := 6, ground := Go.Ground.data }], guard := none }) (v := ?va7) rfl (by kernel_rfl) (by kernel_rfl) (by kernel_rfl) (fun _ _ _ h => h) (Or.inl ⟨by rfl, ?ra7⟩) (by assumption) ?_
    case ra7 => (intro w hSw; (try dsimp only at hSw); (go_simp <;> with_reducible rfl))
    try simp only [Act.put, List.setIfInBounds_toArray, List.set_cons_zero, List.set_cons_succ]
    refine wpAnyH_take (i := 10) (oi := { dst := some 17, op := Go.Op.load 101 (Go.Operand.tmp 5), type := 101, pos := "disk.go:103", after := #[], guard := none }) (v := ?va8) rfl (by kernel_rfl) (by kernel_rfl) (by kernel_rfl) (fun _ _ _ h => h) (Or.inl ⟨by rfl, ?ra8⟩) (by assumption) ?_
    case ra8 => (intro w hSw; (try dsimp only at hSw); (go_simp <;> with_reducible rfl))
    try simp only [Act.put, List.setIfInBounds_toArray, List.set_cons_zero, List.set_cons_succ]
    refine wpAnyH_take (i := 13) (oi := { dst := some 20, op := Go.Op.move (Go.Operand.tmp 0), type := 24, pos := "disk.go:103", after := #[], guard := none }) (v := ?va9) rfl (by kernel_rfl) (by kernel_rfl) (by kernel_rfl) (fun _ _ _ h => h) (Or.inl ⟨by rfl, ?ra9⟩) (by assumption) ?_
    case ra9 => (intro w hSw; (try dsimp only at hSw); (go_simp <;> with_reducible rfl))
    try simp only [Act.put, List.setIfInBounds_toArray, List.set_cons_zero, List.set_cons_succ]
    refine wpAnyH_take (i := 14) (oi := { dst := some 21, op := Go.Op.nilCheck (Go.Operand.tmp 20), type := 0, pos := "disk.go:103", after := #[{ on := 13, ground := Go.Ground.data }], guard := none }) (v := ?va10) rfl (by kernel_rfl) (by kernel_rfl) (by kernel_rfl) (fun _ _ _ h => h) (Or.inl ⟨by rfl, ?ra10⟩) (by assumption) ?_
    case ra10 => (intro w hSw; (try dsimp only at hSw); (go_simp <;> with_reducible rfl))
    try simp only [Act.put, List.setIfInBounds_toArray, List.set_cons_zero, List.set_cons_succ]
    refine wpAnyH_take (i := 15) (oi := { dst := some 22, op := Go.Op.fieldAddr 104 (Go.Operand.tmp 21) 0, type := 0, pos := "disk.go:103", after := #[{ on := 14, ground := Go.Ground.data }], guard := none }) (v := ?va11) rfl (by kernel_rfl) (by kernel_rfl) (by kernel_rfl) (fun _ _ _ h => h) (Or.inl ⟨by rfl, ?ra11⟩) (by assumption) ?_
    case ra11 => (intro w hSw; (try dsimp only at hSw); (go_simp <;> with_reducible rfl))
    try simp only [Act.put, List.setIfInBounds_toArray, List.set_cons_zero, List.set_cons_succ]
    refine wpAnyH_take (i := 16) (oi := { dst := some 23, op := Go.Op.load 3 (Go.Operand.tmp 22), type := 3, pos := "disk.go:103", after := #[{ on := 15, ground := Go.Ground.data }], guard := none }) (v := ?va12) rfl (by kernel_rfl) (by kernel_rfl) (by kernel_rfl) (fun _ _ _ h => h) (Or.inl ⟨by rfl, ?ra12⟩) (by assumption) ?_
    case ra12 => (intro w hSw; (try dsimp only at hSw); (go_simp <;> with_reducible rfl))
    try simp only [Act.put, List.setIfInBounds_toArray, List.set_cons_zero, List.set_cons_succ]
    refine wpAnyH_ready (rs := [1]) (by kernel_rfl) (by simp) ?_
    refine AllReadyH.cons (o := { dst := some 8, op := Go.Op.call { callee := Go.Callee.value (Go.Operand.func 15), args := #[Go.Operand.tmp 7], argTypes := #[24] }, type := 3, pos := "disk.go:103", after := #[{ on := 0, ground := Go.Ground.data }], guard := none }) rfl (fun K hK => ?_) AllReadyH.nil
    go_simp
    (go_at_call 15; refine (HU.out _ (by first | exact h0.1 | exact (h0).1)).mono ?_; rintro e w9 ⟨rfl, hgN⟩)
    first | refine hK.out _ _ ?sa13 (fun h13 => ?_) | (go_wp2_with fail; refine hK.out _ _ ?sa13 (fun h13 => ?_))
    case sa13 => ((try dsimp only); exact HX.out _ _ hgN h0)
    clear hK K h0
    try simp only [Act.put, List.setIfInBounds_toArray, List.set_cons_zero, List.set_cons_succ]
    refine wpAnyH_ready (rs := [8]) (by kernel_rfl) (by simp) ?_
    refine AllReadyH.cons (o := { dst := some 15, op := Go.Op.call { callee := Go.Callee.value (Go.Operand.func 57), args := #[Go.Operand.tmp 14], argTypes := #[101] }, type := 3, pos := "disk.go:103", after := #[{ on := 7, ground := Go.Ground.data }, { on := 1, ground := Go.Ground.chain }], guard := none }) rfl (fun K hK => ?_) AllReadyH.nil
    go_simp
    (go_at_call 57; refine (Z1.out _).mono ?_; rintro e w9 ⟨rfl, hgN⟩)
    first | refine hK.out _ _ ?sa14 (fun h14 => ?_) | (go_wp2_with fail; refine hK.out _ _ ?sa14 (fun h14 => ?_))
    case sa14 => ((try dsimp only); exact HX.out _ _ hgN h13)
    clear hK K h13
    try simp only [Act.put, List.setIfInBounds_toArray, List.set_cons_zero, List.set_cons_succ]
    refine wpAnyH_take (i := 9) (oi := { dst := some 16, op := Go.Op.binOp Go.BinOp.sub 3 (Go.Operand.tmp 8) (Go.Operand.tmp 15) 3, type := 3, pos := "disk.go:103", after := #[{ on := 1, ground := Go.Ground.data }, { on := 8, ground := Go.Ground.data }], guard := none }) (v := (.int .i64 ((U : Int) - z1))) rfl (by kernel_rfl) (by kernel_rfl) (by kernel_rfl) (fun _ _ _ h => h) (Or.inl ⟨by rfl, ?ra15⟩) (by assumption) ?_
    case ra15 => (intro w hSw; (try dsimp only at hSw); go_simp; all_goals simp only [x1])
    try simp only [Act.put, List.setIfInBounds_toArray, List.set_cons_zero, List.set_cons_succ]
    refine wpAnyH_ready (rs := [11]) (by kernel_rfl) (by simp) ?_
    refine AllReadyH.cons (o := { dst := some 18, op := Go.Op.call { callee := Go.Callee.value (Go.Operand.func 57), args := #[Go.Operand.tmp 17], argTypes := #[101] }, type := 3, pos := "disk.go:103", after := #[{ on := 10, ground := Go.Ground.data }, { on := 8, ground := Go.Ground.chain }], guard := none }) rfl (fun K hK => ?_) AllReadyH.nil
    go_simp
    (go_at_call 57; refine (Z2.out _).mono ?_; rintro e w9 ⟨rfl, hgN⟩)
    first | refine hK.out _ _ ?sa16 (fun h16 => ?_) | (go_wp2_with fail; refine hK.out _ _ ?sa16 (fun h16 => ?_))
    case sa16 => ((try dsimp only); exact HX.out _ _ hgN h14)
    clear hK K h14
    try simp only [Act.put, List.setIfInBounds_toArray, List.set_cons_zero, List.set_cons_succ]
    refine wpAnyH_take (i := 12) (oi := { dst := some 19, op := Go.Op.binOp Go.BinOp.add 3 (Go.Operand.tmp 16) (Go.Operand.tmp 18) 3, type := 3, pos := "disk.go:103", after := #[{ on := 9, ground := Go.Ground.data }, { on := 11, ground := Go.Ground.data }], guard := none }) (v := (.int .i64 ((U : Int) - z1 + z2))) rfl (by kernel_rfl) (by kernel_rfl) (by kernel_rfl) (fun _ _ _ h => h) (Or.inl ⟨by rfl, ?ra17⟩) (by assumption) ?_
    case ra17 => (intro w hSw; (try dsimp only at hSw); go_simp; all_goals simp only [x2])
    try simp only [Act.put, List.setIfInBounds_toArray, List.set_cons_zero, List.set_cons_succ]
    refine wpAnyH_take (i := 17) (oi := { dst := some 24, op := Go.Op.binOp Go.BinOp.gtr 3 (Go.Operand.tmp 19) (Go.Operand.tmp 23) 3, type := 4, pos := "disk.go:103", after := #[{ on := 12, ground := Go.Ground.data }, { on := 16, ground := Go.Ground.data }], guard := none }) (v := (.bool q)) rfl (by kernel_rfl) (by kernel_rfl) (by kernel_rfl) (fun _ _ _ h => h) (Or.inl ⟨by rfl, ?ra18⟩) (by assumption) ?_
    case ra18 => (intro w hSw; (try dsimp only at hSw); go_simp; simp only [HQ.out])
    try simp only [Act.put, List.setIfInBounds_toArray, List.set_cons_zero, List.set_cons_succ]
    refine wpAnyH_done (by kernel_rfl) ?_ _
    exact HL _ h16
  case rest =>
    rintro wy ⟨hgy, g0c, g1c, g2c, rc, a0, a1, a2⟩
    have fn := (hgy.frozen hb2 (o := 1 + k * 3)).trans HF.out.1
    have fs := (hgy.frozen hb2 (o := 1 + k * 3 + 1)).trans HF.out.2.1
    have fp := (hgy.frozen hb2 (o := 1 + k * 3 + 2)).trans HF.out.2.2
    have HGY := Lib.hid (HZ.out.trans hgy)
    clear hgy HX HS0 HF x1 x2 HU Z1 Z2 HQ
    cases q
    · go_wp2
      have HP1 := Lib.hid (put3_is (HD.out.gr HGY.out) hk (HPUT.out HFQ.out) _ rfl)
      go_region
      all_goals
        go_wp2
        go_ret
        exact replIs_yes HFQ.out (HP1.out.1.gr (Gr.refl _).drew) (((Sole.of_gr HGY.out).trans HP1.out.2).trans (Sole.of_gr (Gr.refl _).drew))
    · go_wp2
      go_ret
      exact replIs_no HFQ.out (HD.out.gr HGY.out) (Sole.of_gr HGY.out)
end Go.Proofs.Ytjllnojhhlkpoaa

namespace Go.Proofs.Ytjllnojhhlkpoaa
open Go.ChangeShapes Go.WideShapes Go.ChangeAt Go.RowKit
set_option linter.unusedVariables false
set_option linter.unusedSimpArgs false
open Dk
/-- What a call that turns file i tells and leaves. -/
def ActIs (b : Nat) (d : D) (i : Int) (g : F → F) (w : World) (e : Ending) (w' : World) : Prop := e = .returned (.int .i64 ((act d i g).2 : Nat)) ∧ DkIs w' b (act d i g).1 ∧ Sole b w w'
theorem actIs_no {b : Nat} {d : D} {i : Int} {g : F → F} {w w' : World} (hf : hasB i = false) (h : DkIs w' b d) (hs : Sole b w w') : ActIs b d i g w (.returned (.int .i64 1)) w' := by
  unfold ActIs act; rw [if_neg (of_decide_eq_false hf)]; exact ⟨rfl, h, hs⟩
theorem actIs_io {b : Nat} {d : D} {i : Int} {g : F → F} {w w' : World} (hf : hasB i = true) (h1 : d.fail = 1) (h : DkIs w' b (tick d)) (hs : Sole b w w') : ActIs b d i g w (.returned (.int .i64 8)) w' := by
  unfold ActIs act; rw [if_pos (of_decide_eq_true hf), if_pos h1]; exact ⟨rfl, h, hs⟩
theorem actIs_go {b : Nat} {d : D} {k : Nat} {g : F → F} {f : F} {w w' : World} {q : Nat} (hk : k < 4) (h1 : d.fail ≠ 1) (hf : g (d.fs k) = f) (hq : (repl (tick d) k f).2 = q) (h : DkIs w' b (repl (tick d) k f).1) (hs : Sole b w w') : ActIs b d (k : Int) g w (.returned (.int .i64 (q : Nat))) w' := by
  subst hf hq
  unfold ActIs act; rw [if_pos (by omega), if_neg h1]; exact ⟨rfl, h, hs⟩
theorem begin_ways (d : D) (i : Int) : (hasB i = false ∧ beginE d i = 1 ∧ beginD d i = d) ∨ (hasB i = true ∧ d.fail = 1 ∧ beginE d i = 8 ∧ beginD d i = tick d) ∨ (∃ k : Nat, i = (k : Int) ∧ k < 4 ∧ d.fail ≠ 1 ∧ beginE d i = 0 ∧ beginD d i = tick d) := by
  unfold beginE beginD
  cases h : hasB i
  · exact .inl ⟨rfl, by simp, by simp⟩
  · have h2 := of_decide_eq_true h
    by_cases hf : d.fail = 1
    · exact .inr (.inl ⟨rfl, hf, by simp [hf], by simp⟩)
    · exact .inr (.inr ⟨i.toNat, by omega, by omega, hf, by simp [hf], by simp⟩)
theorem setNew {w w' : World} {nb o : Nat} (h : Gr w w') (hb : w.heap.size ≤ nb) (v : Value) : Gr w (w'.setCell ⟨nb, o, none⟩ v) := h.setCell hb v
set_option maxRecDepth 100000 in
set_option maxHeartbeats 1000000 in
theorem append_any11 {b : Nat} {d : D} (i : Int) (s : ByteArray) (hs : s.size ≤ 1099511627776) (w : World) (h : DkIs w b d) :
    Calls Try.prog 47 #[.pointer (some ⟨b, 0, none⟩), .int .i64 i, .string s] w (ActIs b d i (gApp s) w) := by
  have B := begin_any i w h
  have HO := Lib.hid h.ok
  rcases begin_ways d i with ⟨h0, h1, h2⟩ | ⟨h0, hf, h1, h2⟩ | ⟨k, rfl, hk, hf, h1, h2⟩
  · rw [h1, h2] at B
    have B := Lib.hid B
    have H0 := Lib.hid h0
    clear h h1 h2 h0
    go_enter Try.func47, Try.ntmps47
    go_wp2_with fail
    refine B.out.mono ?_
    rintro e w2 ⟨rfl, hd, hs⟩
    have HD := Lib.hid hd
    have HS := Lib.hid hs
    clear hd hs
    go_wp2
    go_ret
    exact actIs_no H0.out HD.out HS.out
  · rw [h1, h2] at B
    have B := Lib.hid B
    have H0 := Lib.hid h0
    have HF := Lib.hid hf
    clear h h1 h2 h0 hf
    go_enter Try.func47, Try.ntmps47
    go_wp2_with fail
    refine B.out.mono ?_
    rintro e w2 ⟨rfl, hd, hs⟩
    have HD := Lib.hid hd
    have HS := Lib.hid hs
    clear hd hs
    go_wp2
    go_ret
    exact actIs_io H0.out HF.out HD.out HS.out
  · rw [h1, h2] at B
    have B := Lib.hid B
    have HF := Lib.hid hf
    clear h h1 h2 hf
    have hk4 : (k : Int) < 4 := by omega
    go_enter Try.func47, Try.ntmps47
    go_wp2_with fail
    refine B.out.mono ?_
    rintro e w2 ⟨rfl, hd, hs⟩
    have HD := Lib.hid hd
    have HS := Lib.hid hs
    have n0 := hd.now k hk
    have s0 := hd.sure k hk
    have p0 := hd.put k hk
    clear hd hs
    have HFS := Lib.hid (show (tick d).fs k = d.fs k from rfl)
    rw [HFS.out] at n0 s0 p0
    have hz := ok_now HO.out k hk
    have HOK := Lib.hid (gApp_ok s (HO.out.ok k hk))
    have HG := Lib.hid (show gApp s (d.fs k) = ⟨(d.fs k).now ++ s, (d.fs k).sure, (d.fs k).put⟩ from rfl)
    generalize d.fs k = f at *
    obtain ⟨f0, f1, f2⟩ := f
    simp only at n0 s0 p0 HG hz
    have RP := fun w (h : DkIs w b (tick d)) => replace_any k hk ⟨f0 ++ s, f1, f2⟩ (by have h9 := HOK.out; rw [HG.out] at h9; exact h9) (by simp only; rw [ByteArray.size_append]; omega) (by simp only; omega) w h
    simp only at RP
    have RP := Lib.hid RP
    go_wp2_with fail
    have a0 : (w2.alloc (.cells #[.string f0, .string f1, .bool f2] 101)).cell? ⟨w2.heap.size, 0, none⟩ = some (.string f0) := new_cell rfl rfl
    have a1 : (w2.alloc (.cells #[.string f0, .string f1, .bool f2] 101)).cell? ⟨w2.heap.size, 1, none⟩ = some (.string f1) := new_cell rfl rfl
    have a2 : (w2.alloc (.cells #[.string f0, .string f1, .bool f2] 101)).cell? ⟨w2.heap.size, 2, none⟩ = some (.bool f2) := new_cell rfl rfl
    have r0 := new_free (w := w2) (c := #[.string f0, .string f1, .bool f2]) (t := 101) (n := w2.heap.size) (i := 0) rfl
    have r2 := new_free (w := w2) (c := #[.string f0, .string f1, .bool f2]) (t := 101) (n := w2.heap.size) (i := 2) rfl
    have HZ := Lib.hid ((Gr.refl w2).alloc (.cells #[.string f0, .string f1, .bool f2] 101))
    have hnb := cell_lt a0
    have hcat : ¬ 9223372036854775807 < f0.size + s.size := by omega
    clear n0 s0 p0 hz
    generalize w2.alloc (.cells #[.string f0, .string f1, .bool f2] 101) = wn at *
    generalize hnb2 : w2.heap.size = nb at *
    have HNB2 := Lib.hid hnb2
    clear hnb2
    go_region_with (go_at_call 61; go_loud (refine (clone_c s _ (by omega)).mono ?_; rintro e w3 ⟨rfl, hg3⟩; have hg4 : Gr wn w3 := (by first | exact hg3 | exact hg3.of_drew); have b0 := hg4.cell a0; have b1 := hg4.cell a1; have b2 := hg4.cell a2; have q0 := (hg4.frozen hnb (o := 0)).trans r0; have q2 := (hg4.frozen hnb (o := 2)).trans r2; have HG4 := Lib.hid (HZ.out.trans hg4); clear hg3 hg4))
    all_goals
      go_wp2_with fail
      refine (RP.out _ ?dk).mono ?_
      case dk => first | exact HD.out.gr (setNew HG4.out (Nat.le_of_eq HNB2.out) _) | exact HD.out.gr ((setNew HG4.out (Nat.le_of_eq HNB2.out) _).drew) | exact HD.out.gr (setNew HG4.out.drew (Nat.le_of_eq HNB2.out) _) | exact HD.out.gr (setNew (setNew HG4.out (Nat.le_of_eq HNB2.out) _) (Nat.le_of_eq HNB2.out) _)
      rintro e w5 ⟨rfl, hd5, hs5⟩
      have hs5 : Sole b w2 w5 := by first | exact (Sole.of_gr (setNew HG4.out (Nat.le_of_eq HNB2.out) _)).trans hs5 | exact (Sole.of_gr ((setNew HG4.out (Nat.le_of_eq HNB2.out) _).drew)).trans hs5 | exact (Sole.of_gr (setNew HG4.out.drew (Nat.le_of_eq HNB2.out) _)).trans hs5 | exact (Sole.of_gr (setNew (setNew HG4.out (Nat.le_of_eq HNB2.out) _) (Nat.le_of_eq HNB2.out) _)).trans hs5
      have HD5 := Lib.hid hd5
      have HS5 := Lib.hid (HS.out.trans hs5)
      obtain ⟨q, hq⟩ : ∃ q, (repl (tick d) k ⟨f0 ++ s, f1, f2⟩).2 = q := ⟨_, rfl⟩
      rw [hq]
      have HQ := Lib.hid hq
      clear hd5 hs5 hq b0 b1 b2 q0 q2 a0 a1 a2 r0 r2
      go_wp2
      go_ret
      exact actIs_go hk HF.out (by have h9 := HG.out; rw [← HFS.out] at h9; exact h9) HQ.out HD5.out HS5.out
set_option maxRecDepth 100000 in
set_option maxHeartbeats 1000000 in
theorem put_any11 {b : Nat} {d : D} (i : Int) (s : ByteArray) (hs : s.size ≤ 1099511627776) (w : World) (h : DkIs w b d) :
    Calls Try.prog 53 #[.pointer (some ⟨b, 0, none⟩), .int .i64 i, .string s] w (ActIs b d i (gPut s) w) := by
  have B := begin_any i w h
  have HO := Lib.hid h.ok
  rcases begin_ways d i with ⟨h0, h1, h2⟩ | ⟨h0, hf, h1, h2⟩ | ⟨k, rfl, hk, hf, h1, h2⟩
  · rw [h1, h2] at B
    have B := Lib.hid B
    have H0 := Lib.hid h0
    clear h h1 h2 h0
    go_enter Try.func53, Try.ntmps53
    go_wp2_with fail
    refine B.out.mono ?_
    rintro e w2 ⟨rfl, hd, hs⟩
    have HD := Lib.hid hd
    have HS := Lib.hid hs
    clear hd hs
    go_wp2
    go_ret
    exact actIs_no H0.out HD.out HS.out
  · rw [h1, h2] at B
    have B := Lib.hid B
    have H0 := Lib.hid h0
    have HF := Lib.hid hf
    clear h h1 h2 h0 hf
    go_enter Try.func53, Try.ntmps53
    go_wp2_with fail
    refine B.out.mono ?_
    rintro e w2 ⟨rfl, hd, hs⟩
    have HD := Lib.hid hd
    have HS := Lib.hid hs
    clear hd hs
    go_wp2
    go_ret
    exact actIs_io H0.out HF.out HD.out HS.out
  · rw [h1, h2] at B
    have B := Lib.hid B
    have HF := Lib.hid hf
    clear h h1 h2 hf
    have hk4 : (k : Int) < 4 := by omega
    go_enter Try.func53, Try.ntmps53
    go_wp2_with fail
    refine B.out.mono ?_
    rintro e w2 ⟨rfl, hd, hs⟩
    have HD := Lib.hid hd
    have HS := Lib.hid hs
    have n0 := hd.now k hk
    have s0 := hd.sure k hk
    have p0 := hd.put k hk
    clear hd hs
    have HFS := Lib.hid (show (tick d).fs k = d.fs k from rfl)
    rw [HFS.out] at n0 s0 p0
    have hz := ok_now HO.out k hk
    have HOK := Lib.hid (gPut_ok s (d.fs k))
    have HG := Lib.hid (show gPut s (d.fs k) = ⟨s, (d.fs k).sure, true⟩ from rfl)
    generalize d.fs k = f at *
    obtain ⟨f0, f1, f2⟩ := f
    simp only at n0 s0 p0 HG hz
    have RP := fun w (h : DkIs w b (tick d)) => replace_any k hk ⟨s, f1, true⟩ (by have h9 := HOK.out; rw [HG.out] at h9; exact h9) (by simp only; omega) (by simp only; omega) w h
    simp only at RP
    have RP := Lib.hid RP
    go_wp2_with fail
    have a0 : (w2.alloc (.cells #[.string f0, .string f1, .bool f2] 101)).cell? ⟨w2.heap.size, 0, none⟩ = some (.string f0) := new_cell rfl rfl
    have a1 : (w2.alloc (.cells #[.string f0, .string f1, .bool f2] 101)).cell? ⟨w2.heap.size, 1, none⟩ = some (.string f1) := new_cell rfl rfl
    have a2 : (w2.alloc (.cells #[.string f0, .string f1, .bool f2] 101)).cell? ⟨w2.heap.size, 2, none⟩ = some (.bool f2) := new_cell rfl rfl
    have r0 := new_free (w := w2) (c := #[.string f0, .string f1, .bool f2]) (t := 101) (n := w2.heap.size) (i := 0) rfl
    have r2 := new_free (w := w2) (c := #[.string f0, .string f1, .bool f2]) (t := 101) (n := w2.heap.size) (i := 2) rfl
    have HZ := Lib.hid ((Gr.refl w2).alloc (.cells #[.string f0, .string f1, .bool f2] 101))
    have hnb := cell_lt a0
    have hcat : ¬ 9223372036854775807 < f0.size + s.size := by omega
    clear n0 s0 p0 hz
    generalize w2.alloc (.cells #[.string f0, .string f1, .bool f2] 101) = wn at *
    generalize hnb2 : w2.heap.size = nb at *
    have HNB2 := Lib.hid hnb2
    clear hnb2
    refine (clone_c s _ (by omega)).mono ?_
    rintro e w3 ⟨rfl, hg3⟩
    have hg4 : Gr wn w3 := (by first | exact hg3 | exact hg3.of_drew)
    have b0 := hg4.cell a0
    have b1 := hg4.cell a1
    have b2 := hg4.cell a2
    have q0 := (hg4.frozen hnb (o := 0)).trans r0
    have q2 := (hg4.frozen hnb (o := 2)).trans r2
    have HG4 := Lib.hid (HZ.out.trans hg4)
    clear hg3 hg4
    · skip
      go_wp2_with fail
      refine (RP.out _ ?dk).mono ?_
      case dk => first | exact HD.out.gr (setNew HG4.out (Nat.le_of_eq HNB2.out) _) | exact HD.out.gr ((setNew HG4.out (Nat.le_of_eq HNB2.out) _).drew) | exact HD.out.gr (setNew HG4.out.drew (Nat.le_of_eq HNB2.out) _) | exact HD.out.gr (setNew (setNew HG4.out (Nat.le_of_eq HNB2.out) _) (Nat.le_of_eq HNB2.out) _)
      rintro e w5 ⟨rfl, hd5, hs5⟩
      have hs5 : Sole b w2 w5 := by first | exact (Sole.of_gr (setNew HG4.out (Nat.le_of_eq HNB2.out) _)).trans hs5 | exact (Sole.of_gr ((setNew HG4.out (Nat.le_of_eq HNB2.out) _).drew)).trans hs5 | exact (Sole.of_gr (setNew HG4.out.drew (Nat.le_of_eq HNB2.out) _)).trans hs5 | exact (Sole.of_gr (setNew (setNew HG4.out (Nat.le_of_eq HNB2.out) _) (Nat.le_of_eq HNB2.out) _)).trans hs5
      have HD5 := Lib.hid hd5
      have HS5 := Lib.hid (HS.out.trans hs5)
      obtain ⟨q, hq⟩ : ∃ q, (repl (tick d) k ⟨s, f1, true⟩).2 = q := ⟨_, rfl⟩
      rw [hq]
      have HQ := Lib.hid hq
      clear hd5 hs5 hq b0 b1 b2 q0 q2 a0 a1 a2 r0 r2
      go_wp2
      go_ret
      exact actIs_go hk HF.out (by have h9 := HG.out; rw [← HFS.out] at h9; exact h9) HQ.out HD5.out HS5.out
end Go.Proofs.Ytjllnojhhlkpoaa

namespace Go.Proofs.Ytjllnojhhlkpoaa
open Go.ChangeShapes Go.WideShapes Go.ChangeAt Go.RowKit
set_option linter.unusedVariables false
set_option linter.unusedSimpArgs false
open Dk
theorem actIs_keep {b : Nat} {d : D} {k : Nat} {w w' : World} (ho : d.Ok) (hk : k < 4) (h1 : d.fail ≠ 1) (h : DkIs w' b (putF (tick d) k (gKeep ((tick d).fs k)))) (hs : Sole b w w') : ActIs b d (k : Int) gKeep w (.returned (.int .i64 0)) w' := by
  have hf := full_keep (tick_ok ho) k (gKeep ((tick d).fs k)) (gKeep_size _)
  have e : repl (tick d) k (gKeep (d.fs k)) = (putF (tick d) k (gKeep ((tick d).fs k)), 0) := by unfold repl; exact if_neg (by show ¬ full (tick d) k (gKeep ((tick d).fs k)) = true; rw [hf]; simp)
  exact actIs_go (q := 0) hk h1 rfl (by rw [e]) (by rw [e]; exact h) hs
set_option maxRecDepth 100000 in
set_option maxHeartbeats 1000000 in
theorem sync_any11 {b : Nat} {d : D} (i : Int) (w : World) (h : DkIs w b d) :
    Calls Try.prog 17 #[.pointer (some ⟨b, 0, none⟩), .int .i64 i] w (ActIs b d i gKeep w) := by
  have B := begin_any i w h
  have HO := Lib.hid h.ok
  rcases begin_ways d i with ⟨h0, h1, h2⟩ | ⟨h0, hf, h1, h2⟩ | ⟨k, rfl, hk, hf, h1, h2⟩
  · rw [h1, h2] at B
    have B := Lib.hid B
    have H0 := Lib.hid h0
    clear h h1 h2 h0
    go_enter Try.func17, Try.ntmps17
    go_wp2_with fail
    refine B.out.mono ?_
    rintro e w2 ⟨rfl, hd, hs⟩
    have HD := Lib.hid hd
    have HS := Lib.hid hs
    clear hd hs
    go_wp2
    go_ret
    exact actIs_no H0.out HD.out HS.out
  · rw [h1, h2] at B
    have B := Lib.hid B
    have H0 := Lib.hid h0
    have HF := Lib.hid hf
    clear h h1 h2 h0 hf
    go_enter Try.func17, Try.ntmps17
    go_wp2_with fail
    refine B.out.mono ?_
    rintro e w2 ⟨rfl, hd, hs⟩
    have HD := Lib.hid hd
    have HS := Lib.hid hs
    clear hd hs
    go_wp2
    go_ret
    exact actIs_io H0.out HF.out HD.out HS.out
  · rw [h1, h2] at B
    have B := Lib.hid B
    have HF := Lib.hid hf
    clear h h1 h2 hf
    have hk4 : (k : Int) < 4 := by omega
    go_enter Try.func17, Try.ntmps17
    go_wp2_with fail
    refine B.out.mono ?_
    rintro e w2 ⟨rfl, hd, hs⟩
    have HD := Lib.hid hd
    have HS := Lib.hid hs
    have n0 := hd.now k hk
    have s0 := hd.sure k hk
    have p0 := hd.put k hk
    clear hd hs
    have n0 := HD.out.fail
    clear n0 s0 p0
    go_wp2_with fail
    refine (keep_any k hk _ HD.out).mono ?_
    rintro e w3 ⟨rfl, hd3, hs3⟩
    have HD3 := Lib.hid hd3
    have HS3 := Lib.hid (HS.out.trans hs3)
    clear hd3 hs3
    go_wp2
    go_ret
    exact actIs_keep HO.out hk HF.out HD3.out HS3.out
theorem toList_beq (s t : ByteArray) : (s.toList == t.toList) = decide (s = t) := by
  rw [Bool.eq_iff_iff]
  simp only [beq_iff_eq, decide_eq_true_eq]
  constructor
  · intro h
    rw [Lib.toList_data, Lib.toList_data] at h
    exact ext h
  · intro h; rw [h]
set_option maxRecDepth 100000 in
theorem read_in {b : Nat} {d : D} (k : Nat) (hk : k < 4) (w : World) (h : DkIs w b d) :
    Calls Try.prog 18 #[.pointer (some ⟨b, 0, none⟩), .int .i64 (k : Nat)] w fun e w' => e = .returned (.tuple #[.string (d.fs k).now, .int .i64 0]) ∧ Gr w w' := by
  have H := Lib.hid (has_any (k : Int))
  have hb : hasB (k : Int) = true := decide_eq_true (by omega)
  rw [hb] at H
  have n0 := h.now k hk
  have hz := ok_now h.ok k hk
  have hk4 : (k : Int) < 4 := by omega
  clear hb h
  generalize (d.fs k).now = s at *
  go_enter Try.func18, Try.ntmps18
  go_wp2_with fail
  refine (H.out _).mono ?_
  rintro e w2 ⟨rfl, rfl⟩
  go_wp2_with fail
  refine (clone_c s _ (by omega)).mono ?_
  rintro e w3 ⟨rfl, hg3⟩
  go_wp2
  go_ret2
  exact ⟨rfl, hg3⟩
set_option maxRecDepth 100000 in
theorem read_out {b : Nat} (i : Int) (hi : hasB i = false) (w : World) :
    Calls Try.prog 18 #[.pointer (some ⟨b, 0, none⟩), .int .i64 i] w fun e w' => e = .returned (.tuple #[.string ⟨#[]⟩, .int .i64 1]) ∧ Gr w w' := by
  have H := Lib.hid (has_any i)
  rw [hi] at H
  clear hi
  go_enter Try.func18, Try.ntmps18
  go_wp2_with fail
  refine (H.out _).mono ?_
  rintro e w2 ⟨rfl, rfl⟩
  go_wp2
  go_ret2
  exact ⟨rfl, Gr.refl _⟩
set_option maxRecDepth 100000 in
theorem sure_in {b : Nat} {d : D} (k : Nat) (hk : k < 4) (w : World) (h : DkIs w b d) :
    Calls Try.prog 21 #[.pointer (some ⟨b, 0, none⟩), .int .i64 (k : Nat)] w fun e w' => e = .returned (.bool (decide ((d.fs k).now = (d.fs k).sure))) ∧ Gr w w' := by
  have hb : hasB (k : Int) = true := decide_eq_true (by omega)
  have H := Lib.hid (fun w => same11 (by have h9 := has_any (k : Int) w; rw [hb] at h9; exact h9))
  have n0 := h.now k hk
  have s0 := h.sure k hk
  have hk4 : (k : Int) < 4 := by omega
  clear hb h
  generalize (d.fs k).now = s at *
  generalize (d.fs k).sure = t at *
  have hq := toList_beq s t
  generalize decide (s = t) = q at *
  have hq2 : (s.toList == t.toList) = q := hq
  go_enter Try.func21, Try.ntmps21
  go_wp2
  go_quiet ((go_at_call 60; exact Calls.quiet_of_same (H.out _)))
  all_goals
    go_wp2
    go_ret
    exact ⟨rfl, (Gr.refl _).drewN _⟩
set_option maxRecDepth 100000 in
theorem sure_out {b : Nat} (i : Int) (hi : hasB i = false) (w : World) :
    Calls Try.prog 21 #[.pointer (some ⟨b, 0, none⟩), .int .i64 i] w fun e w' => e = .returned (.bool false) ∧ Gr w w' := by
  have H := Lib.hid (fun w => same11 (by have h9 := has_any i w; rw [hi] at h9; exact h9))
  clear hi
  go_enter Try.func21, Try.ntmps21
  go_wp2
  go_quiet ((go_at_call 60; exact Calls.quiet_of_same (H.out _)))
  all_goals
    go_wp2
    go_ret
    exact ⟨rfl, (Gr.refl _).drewN _⟩
end Go.Proofs.Ytjllnojhhlkpoaa
