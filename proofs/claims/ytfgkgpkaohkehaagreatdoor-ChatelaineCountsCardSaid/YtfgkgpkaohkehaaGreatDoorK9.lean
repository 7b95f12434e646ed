import Derived.WalkKit
import Derived.Test.YtfgkgpkaohkehaaGreatDoorK1
import Derived.ProofKit
import Derived.LoopTactic
import Derived.Outline
import Derived.WalkSpells
import Derived.WalkLawsBesides
import Derived.Lib.Hide
import Derived.Deep.LoopGhost
import Derived.Deep.QuietTactic
import Derived.BigQuiet
import Derived.ShutString
import Derived.Deep.RegionWith
import Derived.Deep.RegionHeld3
import Derived.Deep.AppendLies
import Derived.Deep.RegionLaw
import Derived.Lib.AppendStr
namespace Go.Proofs.YtfgkgpkaohkehaaGreatDoor.Enc
/-- A number as a byte. -/
def b8 (n : Nat) : UInt8 := UInt8.ofNat n
theorem b8_toNat {n : Nat} (h : n < 256) : (b8 n).toNat = n := by unfold b8; simp; omega
theorem b8_byte (b : UInt8) : b8 b.toNat = b := by apply UInt8.toNat_inj.1; exact b8_toNat b.toNat_lt
/-- n bytes of a number, the first the greatest. -/
def wide (v : Nat) : Nat → List UInt8
  | 0 => []
  | k + 1 => b8 (v / 256 ^ k % 256) :: wide v k
theorem wide_length (v : Nat) : ∀ k, (wide v k).length = k
  | 0 => rfl
  | k + 1 => by rw [wide, List.length_cons, wide_length v k]
theorem wide_at (v : Nat) : ∀ k i (h : i < (wide v k).length), (wide v k)[i] = b8 (v / 256 ^ (k - 1 - i) % 256)
  | 0, i, h => by simp [wide] at h
  | k + 1, 0, h => by simp [wide]
  | k + 1, i + 1, h => by
    have := wide_at v k i (by simpa [wide] using h)
    simp only [wide, List.getElem_cons_succ]
    rw [this]
    congr 4; omega
/-- The first byte of a number's form, and how many follow it. -/
def first (v : Nat) : Nat := if v < 252 then v else if v < 65536 then 252 else if v < 4294967296 then 253 else 254
def more (f : Nat) : Nat := if f = 252 then 2 else if f = 253 then 4 else if f = 254 then 8 else 0
def encU (v : Nat) : List UInt8 := b8 (first v) :: wide v (more (first v))
def encN (n : Int) : List UInt8 := encU (max n 0).toNat
def encB (b : Bool) : List UInt8 := [if b then 1 else 0]
def encS (s : List UInt8) : List UInt8 := encU s.length ++ s
theorem first_lt (v : Nat) : first v < 255 := by unfold first; split <;> (try split) <;> (try split) <;> omega
theorem more_le (f : Nat) : more f ≤ 8 := by unfold more; split <;> (try split) <;> (try split) <;> omega
theorem encU_length (v : Nat) : (encU v).length = 1 + more (first v) := by rw [encU, List.length_cons, wide_length]; omega
theorem encU_le (v : Nat) : (encU v).length ≤ 9 := by rw [encU_length]; have := more_le (first v); omega
end Go.Proofs.YtfgkgpkaohkehaaGreatDoor.Enc
namespace Go.Proofs.YtfgkgpkaohkehaaGreatDoor
open Go.ChangeShapes Go.WideShapes Go.ChangeAt Go.RowKit
open Enc
set_option linter.unusedVariables false
/-- The cells of bytes. -/
def bCells (l : List UInt8) : List Value := l.map fun b => .int .u8 (b.toNat : Int)
theorem bCells_append (l m : List UInt8) : bCells (l ++ m) = bCells l ++ bCells m := by simp [bCells]
theorem info_u8 : (Tryz.prog.info? 5).map (fun i => (i.zero, i.size, i.bytes)) = some (some (.int .u8 0), 1, 1) := by kernel_rfl
/-- A Writer lies in block p and holds these bytes; what it owns lies behind it. -/
def WrIs (w : World) (p : Nat) (l : List UInt8) : Prop :=
  ∃ a cap, w.cell? ⟨p, 0, none⟩ = some (.slice a l.length cap) ∧ w.frozen? ⟨p, 0, none⟩ = false ∧ p < w.heap.size ∧ w.ownsRow (p + 1) 5 1 (.slice a l.length cap) l.length (bCells l)
set_option maxRecDepth 100000 in
theorem first_big (v : Nat) (w : World) (b c : Bool) (h1 : decide ((v : Int) < 252) = false) (h2 : decide ((v : Int) < 65536) = b) (h3 : decide ((v : Int) < 4294967296) = c) :
    Calls Tryz.prog 102 #[.int .u64 v] w fun e w' => e = .returned (.int .u8 (if b then 252 else if c then 253 else 254)) ∧ w = w' := by
  cases b <;> cases c <;>
    (go_enter Tryz.func102, Tryz.ntmps102
     repeat go_step
     go_ret
     exact ⟨rfl, rfl⟩)
theorem first_small (v : Nat) (w : World) (h1 : decide ((v : Int) < 252) = true) (h2 : v < 256) :
    Calls Tryz.prog 102 #[.int .u64 v] w fun e w' => e = .returned (.int .u8 v) ∧ w = w' := by
  go_enter Tryz.func102, Tryz.ntmps102
  repeat go_step
  go_ret
  exact ⟨rfl, rfl⟩
theorem first_val (v : Nat) (h : 252 ≤ v) : (if decide ((v : Int) < 65536) = true then (252 : Int) else if decide ((v : Int) < 4294967296) = true then 253 else 254) = (first v : Nat) := by
  unfold first
  rw [if_neg (show ¬ v < 252 by omega)]
  simp only [decide_eq_true_eq]
  by_cases h2 : v < 65536
  · rw [if_pos h2, if_pos (show (v : Int) < 65536 by omega)]; rfl
  · rw [if_neg h2, if_neg (show ¬ (v : Int) < 65536 by omega)]
    by_cases h3 : v < 4294967296
    · rw [if_pos h3, if_pos (show (v : Int) < 4294967296 by omega)]; rfl
    · rw [if_neg h3, if_neg (show ¬ (v : Int) < 4294967296 by omega)]; rfl
theorem mark_any (v : Nat) (w : World) :
    Calls Tryz.prog 102 #[.int .u64 v] w fun e w' => e = .returned (.int .u8 (first v : Nat)) ∧ w = w' := by
  rcases Nat.lt_or_ge v 252 with h1 | h1
  · have e : first v = v := by unfold first; rw [if_pos h1]
    rw [e]
    exact first_small v w (by simp; omega) (by omega)
  · refine (first_big v w _ _ (by simp; omega) rfl rfl).mono fun e w' h => ?_
    obtain ⟨rfl, rfl⟩ := h
    exact ⟨ret_int (first_val v h1), rfl⟩
theorem more_any (f : Nat) (w : World) (hf : f < 256) :
    Calls Tryz.prog 103 #[.int .u8 f] w fun e w' => e = .returned (.int .i64 (more f : Nat)) ∧ w = w' := by
  have go : ∀ (a b c : Bool) (n : Nat), ((f : Int) == 252) = a → ((f : Int) == 253) = b → ((f : Int) == 254) = c → more f = n → (n = if a then 2 else if b then 4 else if c then 8 else 0) →
      Calls Tryz.prog 103 #[.int .u8 f] w fun e w' => e = .returned (.int .i64 (more f : Nat)) ∧ w = w' := by
    intro a b c n ha hb hc hn hv
    have E := Lib.hid hn
    clear hn
    cases a <;> cases b <;> cases c <;> simp at hv <;> subst hv <;>
      (go_enter Tryz.func103, Tryz.ntmps103
       go_wp2
       go_ret
       exact ⟨by rw [E.out]; rfl, rfl⟩)
  refine go _ _ _ (more f) rfl rfl rfl rfl ?_
  unfold more
  by_cases h1 : f = 252
  · subst h1; rfl
  by_cases h2 : f = 253
  · subst h2; rfl
  by_cases h3 : f = 254
  · subst h3; rfl
  have e1 : ((f : Int) == 252) = false := by simp; omega
  have e2 : ((f : Int) == 253) = false := by simp; omega
  have e3 : ((f : Int) == 254) = false := by simp; omega
  rw [if_neg h1, if_neg h2, if_neg h3, e1, e2, e3]; rfl
theorem cells_one (w : World) (x : Value) (t : TypeId) : ∀ (j : Nat) (u : Value), [x][j]? = some u → (w.alloc (.cells #[x] t)).cell? ((⟨w.heap.size, 0, none⟩ : Addr).add j) = some u := by
  intro j u hj
  match j, hj with
  | 0, hj => simp at hj; subst hj; exact new_cell rfl rfl
theorem shift_byte (v n k : Nat) (h : k < n) : IntKind.u8.wrap ((v : Int) / 2 ^ (8 * ((n : Int) - 1 - (k : Int))).toNat) = ((b8 (v / 256 ^ (n - 1 - k) % 256)).toNat : Int) := by
  have e : (8 * ((n : Int) - 1 - (k : Int))).toNat = 8 * (n - 1 - k) := by omega
  have h2 : (v : Int) / 2 ^ (8 * (n - 1 - k)) = ((v / 256 ^ (n - 1 - k) : Nat) : Int) := by
    rw [show (256 : Nat) = 2 ^ 8 from rfl, ← Nat.pow_mul, Int.natCast_ediv, Int.natCast_pow]; rfl
  rw [e, h2, IntKind.wrap_u8', b8_toNat (Nat.mod_lt _ (by decide))]
  omega
/-- Behind an append to what a Writer in block p owns: its own cell is as it was. -/
theorem wr_grow {w w0 w1 : World} {p : Nat} {v : Value} {n : Nat} {xs : List Value} (hp : p < w.heap.size) (hc : w.cell? ⟨p, 0, none⟩ = some v) (hf : w.frozen? ⟨p, 0, none⟩ = false)
    (hown : w.ownsRow (p + 1) 5 1 v n xs) (hg : Gr w w0) (hgrow : w0.grownBy w1 v.ownBlock) :
    w1.cell? ⟨p, 0, none⟩ = some v ∧ w1.frozen? ⟨p, 0, none⟩ = false ∧ p < w1.heap.size ∧ Below p w w1 := by
  have hlt := hown.lt
  have hs := hg.size
  have hne : some p ≠ v.ownBlock := by intro e; have := hlt p e.symm; omega
  refine ⟨hgrow.cell (hg.cell hc) hne, ?_, Nat.lt_of_lt_of_le hp (Nat.le_trans hs hgrow.size), ?_⟩
  · rw [World.frozen?_of_block (w := w0) (a := ⟨p, 0, none⟩) (hgrow.block p (by omega) hne)]
    exact (hg.frozen hp).trans hf
  · exact (hg.below.mono (by omega)).grown hgrow (by omega) (by intro k hk; have := hlt k hk; omega)
/-- Behind the store of a slice into a Writer's cell. -/
theorem wr_store {w1 : World} {p n cap : Nat} {a : Option Addr} {v : Value} {l : List UInt8} (hp : p < w1.heap.size) (hc : w1.cell? ⟨p, 0, none⟩ = some v) (hf : w1.frozen? ⟨p, 0, none⟩ = false) (hn : n = l.length)
    (hown : w1.ownsRow (p + 1) 5 1 (.slice a n cap) n (bCells l)) :
    WrIs (w1.setCell ⟨p, 0, none⟩ (.slice a n cap)) p l ∧ Below p w1 (w1.setCell ⟨p, 0, none⟩ (.slice a n cap)) := by
  subst hn
  refine ⟨⟨_, _, ?_, ?_, ?_, ownsRow_setCell_below hown (by simp) _⟩, (Below.refl p w1).setCell (p := ⟨p, 0, none⟩) (Nat.le_refl p) _⟩
  · exact World.cell?_setCell_same' _ _ _ (by rw [hc]; rfl)
  · rw [World.frozen?_setCell]; exact hf
  · simpa [World.setCell] using hp
/-- Block b is not what the Writer in block p owns. -/
def Free (w : World) (p b : Nat) : Prop := ∀ v, w.cell? ⟨p, 0, none⟩ = some v → v.ownBlock ≠ some b
/-- Of other blocks than the Writer's own nothing has turned. -/
def Keeps (p : Nat) (w w' : World) : Prop := w.heap.size ≤ w'.heap.size ∧ ∀ b, b < w.heap.size → b ≠ p → Free w p b → w'.heap[b]? = w.heap[b]? ∧ Free w' p b
theorem Keeps.refl (p : Nat) (w : World) : Keeps p w w := ⟨Nat.le_refl _, fun _ _ _ h => ⟨rfl, h⟩⟩
theorem Keeps.trans {p : Nat} {a b c : World} (h : Keeps p a b) (k : Keeps p b c) : Keeps p a c :=
  ⟨Nat.le_trans h.1 k.1, fun i hi hp hf => by
    obtain ⟨h1, h2⟩ := h.2 i hi hp hf
    obtain ⟨k1, k2⟩ := k.2 i (Nat.lt_of_lt_of_le hi h.1) hp h2
    exact ⟨k1.trans h1, k2⟩⟩
theorem Keeps.cell {p : Nat} {w w' : World} (h : Keeps p w w') {b o : Nat} {v : Value} (hb : b ≠ p) (hf : Free w p b) (hc : w.cell? ⟨b, o, none⟩ = some v) : w'.cell? ⟨b, o, none⟩ = some v :=
  (World.cell?_of_block (w := w) (a := ⟨b, o, none⟩) (h.2 b (cell_lt hc) hb hf).1).trans hc
theorem wr_keeps {w w0 w1 : World} {p g n cap : Nat} {v u : Value} (hc : w.cell? ⟨p, 0, none⟩ = some v) (hg : Gr w w0) (hgrow : w0.grownBy w1 v.ownBlock) (hat : v.ownBlock = some g ∨ w.heap.size ≤ g) (hc1 : w1.cell? ⟨p, 0, none⟩ = some u) :
    Keeps p w (w1.setCell ⟨p, 0, none⟩ (.slice (some ⟨g, 0, none⟩) n cap)) := by
  have hs := hg.size
  refine ⟨by have := hgrow.size; simp [World.setCell]; omega, fun b hb hne hf => ⟨?_, ?_⟩⟩
  · rw [Below.heap_setCell _ _ _ _ hne, hgrow.block b (by omega) (fun e => hf v hc e.symm)]
    exact hg.below.block b hb
  · intro x hx
    rw [World.cell?_setCell_same' _ _ _ (by rw [hc1]; rfl)] at hx
    simp only [Option.some.injEq] at hx
    subst hx
    intro e
    simp only [Value.ownBlock, Option.some.injEq] at e
    subst e
    rcases hat with h | h
    · exact hf v hc h
    · omega
set_option maxRecDepth 100000 in
set_option maxHeartbeats 1000000 in
theorem number_any (p v : Nat) (l : List UInt8) (w : World) (h : WrIs w p l) (hl : l.length ≤ 1000000000) :
    Calls Tryz.prog 65 #[.pointer (some ⟨p, 0, none⟩), .int .u64 v] w fun e w' => e = .returned (.tuple #[]) ∧ WrIs w' p (l ++ encU v) ∧ Below p w w' ∧ Keeps p w w' := by
  obtain ⟨i0, hi, hz0, hz1, hz2⟩ := info_parts info_u8
  obtain ⟨a0, c0, hc, hf, hp, hown⟩ := h
  have hfl := first_lt v
  obtain ⟨f, hf'⟩ : ∃ f, first v = f := ⟨_, rfl⟩
  rw [hf'] at hfl
  have HF := Lib.hid hf'; clear hf'
  have hb8 : ((b8 f).toNat : Int) = f := by rw [b8_toNat (by omega)]
  have HB := Lib.hid hb8; clear hb8
  have Hc := Lib.hid hc; clear hc
  have hc := Hc.out
  go_enter Tryz.func65, Tryz.ntmps65
  go_wp2_with fail
  refine (mark_any v w).mono ?_
  rintro e w1 ⟨rfl, rfl⟩
  rw [HF.out]
  go_wp2_with (at_builtin; go_loud (refine wpList_append_lies _ rfl (.tmp 13) (.tmp 15) 78 rfl (p + 1) 5 i0 (.int .u8 0) 1 1 Tryz.underlying78 hi hz0 hz1 hz2 rfl (by decide) _ _ _ rfl (hown.alloc _) ⟨w.heap.size, 0, none⟩ 1 1 [.int .u8 f] rfl rfl ?c1 ?c2 Nat.one_pos ?c3 ?c4 ?c5 _ rfl ?_))
  case c1 => exact cells_one w _ _
  case c2 => intro u hu; simp at hu; subst hu; rfl
  case c3 => unfold maxLen; omega
  case c4 => omega
  case c5 => simp; omega
  intro g1 cap1 w1 hown1 hgrow hat1 _
  obtain ⟨hc1, hf1, hp1, hB1⟩ := wr_grow hp Hc.out hf hown ((Gr.refl _).alloc _) hgrow
  have hbc : bCells l ++ [Value.int .u8 f] = bCells (l ++ [b8 f]) := by rw [bCells_append]; simp only [bCells, List.map_cons, List.map_nil, HB.out]
  rw [hbc] at hown1
  obtain ⟨hW2, hB2⟩ := wr_store hp1 hc1 hf1 (by simp) hown1
  have hB := hB1.trans hB2
  have hK := wr_keeps (n := l.length + 1) (cap := cap1) Hc.out ((Gr.refl _).alloc _) hgrow (hat1.imp id (fun h => by first | omega | (simp at h; omega))) hc1
  clear hat1
  clear hgrow hown hc hf hbc hown1
  go_wp2_with fail
  refine (more_any f _ (by omega)).mono ?_
  rintro e w2 ⟨rfl, rfl⟩
  generalize w1.setCell ⟨p, 0, none⟩ (.slice (some ⟨g1, 0, none⟩) (l.length + 1) cap1) = w2 at *
  have hn8 := more_le f
  clear hc1 hf1 hp1 hB1 hB2
  go_wp2_with fail
  go_loopw [22] (fun i wr => ∃ k : Nat, k ≤ more f ∧ i = .int .i64 (k : Nat) ∧ Hid (WrIs wr p (l ++ [b8 f] ++ (wide v (more f)).take k)) ∧ Below p w wr ∧ Hid (Keeps p w wr)) (fun i _ => more f - (intOf i).toNat)
  case atStart => exact ⟨0, by omega, rfl, (by show WrIs w2 p _; simpa using hW2), hB, hK⟩
  case round =>
    obtain ⟨k, hk, rfl, hWr, hBr, hKr⟩ := hrel
    by_cases hlt : k < more f
    · have hsn : (wide v (more f)).take (k + 1) = (wide v (more f)).take k ++ [b8 (v / 256 ^ (more f - 1 - k) % 256)] := by
        have hl' : k < (wide v (more f)).length := by rw [wide_length]; exact hlt
        rw [List.take_succ_eq_append_getElem hl', wide_at]
      have Hsn := Lib.hid hsn
      have hlen : (l ++ [b8 f] ++ (wide v (more f)).take k).length ≤ 1000000100 := by simp; omega
      generalize hLL : l ++ [b8 f] ++ (wide v (more f)).take k = L at *
      generalize more f = n at *
      have HL := Lib.hid hLL; clear hLL
      obtain ⟨a1, c1, hc, hf, hp', hown⟩ := hWr.out
      have Hc := Lib.hid hc
      clear hsn
      have wr1 : True → IntKind.i64.wrap ((n : Int) - 1) = (n : Int) - 1 := fun _ => IntWalk.i64_in _ (by omega)
      have wr2 : True → IntKind.i64.wrap ((n : Int) - 1 - (k : Int)) = (n : Int) - 1 - (k : Int) := fun _ => IntWalk.i64_in _ (by omega)
      have wr3 : True → IntKind.i64.wrap (8 * ((n : Int) - 1 - (k : Int))) = 8 * ((n : Int) - 1 - (k : Int)) := fun _ => IntWalk.i64_in _ (by omega)
      have sh1 : 0 ≤ 8 * ((n : Int) - 1 - (k : Int)) := by omega
      have sh2 : 8 * ((n : Int) - 1 - (k : Int)) ≤ 64 := by omega
      go_wp2
      go_region_law ((refine step_append_lies _ (by rfl) _ _ _ (by rfl) (p + 1) 5 i0 (.int .u8 0) 1 1 Tryz.underlying78 hi hz0 hz1 hz2 rfl (by omega) _ L.length _ (by rfl) ((hown.alloc _).drew) ⟨wr.heap.size, 0, none⟩ 1 1 [.int .u8 _] (by rfl) (by rfl) (World.news_of_block (cs := #[.int .u8 _]) (t := 5) (fr := (0, 0)) (heap_alloc_new wr _)) (by simp [Value.oneCell']) (by omega) (by unfold maxLen; omega) (by omega) (by simp; omega) (wr.heap.size + 1) (by simp) ?_; intro g2 cap2 w3 hown3 hgrow3 hat3 _; obtain ⟨hc3, hf3, hp3, hB3⟩ := wr_grow hp' Hc.out hf hown (((Gr.refl _).alloc _).drew) hgrow3))
      all_goals
        rw [shift_byte v n k hlt, show [Value.int .u8 ((b8 (v / 256 ^ (n - 1 - k) % 256)).toNat : Int)] = bCells [b8 (v / 256 ^ (n - 1 - k) % 256)] from rfl, ← bCells_append] at hown3
        obtain ⟨hW4, hB4⟩ := wr_store hp3 hc3 hf3 (by simp) hown3
        have hB5 := hBr.trans (hB3.trans hB4)
        have hK5 := hKr.out.trans (wr_keeps (n := L.length + 1) (cap := cap2) Hc.out (((Gr.refl _).alloc _).drew) hgrow3 (hat3.imp id (fun h => by omega)) hc3)
        clear hat3
        clear hgrow3 hown hown3 hc hf hc3 hf3 hB3 hB4 hp3 sh1 sh2 wr1 wr2 wr3
        generalize w3.setCell ⟨p, 0, none⟩ (.slice (some ⟨g2, 0, none⟩) (L.length + 1) cap2) = w4 at *
        go_wp2
        go_roundw
        case rel => exact ⟨k + 1, by omega, by go_num, by show WrIs w4 p _; rw [Hsn.out, ← List.append_assoc, HL.out]; exact hW4, hB5, hK5⟩
        case measure => simp [intOf]; omega
    · obtain rfl : k = more f := by omega
      go_wp2
      go_end0
      refine ⟨rfl, ?_, hBr, hKr.out⟩
      have := hWr.out
      rw [List.take_of_length_le (by rw [wide_length]; omega)] at this
      unfold encU
      rw [HF.out]
      simpa using this
/-- The numbers that a call is handed lie behind an address. -/
def NumRow (w : World) (k : IntKind) (b off : Nat) (ns : List Int) : Prop := ∀ i (h : i < ns.length), w.cell? ⟨b, off + i, none⟩ = some (.int k ns[i])
theorem NumRow.keeps {w w' : World} {k : IntKind} {b off p : Nat} {ns : List Int} (h : NumRow w k b off ns) (hk : Keeps p w w') (hb : b ≠ p) (hf : Free w p b) : NumRow w' k b off ns :=
  fun i hi => hk.cell hb hf (h i hi)
def encUs (vs : List Nat) : List UInt8 := vs.flatMap encU
theorem encUs_le (vs : List Nat) : (encUs vs).length ≤ vs.length * 9 := by
  induction vs with
  | nil => simp [encUs]
  | cons v t ih => have := encU_le v; simp only [encUs, List.flatMap_cons, List.length_append, List.length_cons] at *; omega
theorem encUs_snoc (vs : List Nat) (k : Nat) (h : k < vs.length) : encUs (vs.take (k + 1)) = encUs (vs.take k) ++ encU vs[k] := by
  unfold encUs; rw [List.take_succ_eq_append_getElem h, List.flatMap_append, List.flatMap_cons, List.flatMap_nil, List.append_nil]
set_option maxRecDepth 100000 in
set_option maxHeartbeats 1000000 in
theorem wU_any (p b off : Nat) (vs : List Nat) (l : List UInt8) (w : World) (h : WrIs w p l) (hb : b ≠ p) (hfr : Free w p b) (hblt : b < w.heap.size) (hc : NumRow w .u64 b off (vs.map Int.ofNat)) (hl : l.length ≤ 1000000) (hv : vs.length ≤ 1000) :
    Calls Tryz.prog 64 #[.pointer (some ⟨p, 0, none⟩), .slice (some ⟨b, off, none⟩) vs.length vs.length] w fun e w' => e = .returned (.pointer (some ⟨p, 0, none⟩)) ∧ WrIs w' p (l ++ encUs vs) ∧ Below p w w' ∧ Keeps p w w' := by
  have H := Lib.hid h
  have Hc := Lib.hid hc
  have HF := Lib.hid hfr
  clear h hc hfr
  go_enter Tryz.func64, Tryz.ntmps64
  go_wp2
  go_loopw [9] (fun i wr => ∃ k : Nat, k ≤ vs.length ∧ i = .int .i64 (k : Nat) ∧ Hid (WrIs wr p (l ++ encUs (vs.take k))) ∧ Below p w wr ∧ Hid (Keeps p w wr)) (fun i _ => vs.length - (intOf i).toNat)
  case atStart => exact ⟨0, by omega, rfl, (by show WrIs _ _ _; simpa [encUs] using H.out), Below.refl _ _, Keeps.refl _ _⟩
  case round =>
    obtain ⟨k, hk, rfl, hW, hB, hK⟩ := hrel
    by_cases hlt : k < vs.length
    · have hcell := (Hc.out.keeps hK.out hb HF.out) k (by simpa using hlt)
      have he : (vs.map Int.ofNat)[k]'(by simpa using hlt) = (vs[k] : Int) := by simp
      rw [he] at hcell
      have hsn := Lib.hid (encUs_snoc vs k hlt)
      have hle : (l ++ encUs (vs.take k)).length ≤ 1000000000 := by have := encUs_le (vs.take k); simp only [List.length_append, List.length_take] at *; omega
      clear he
      generalize vs[k] = v at *
      generalize hLL : l ++ encUs (vs.take k) = L at *
      have HL := Lib.hid hLL; clear hLL
      go_wp2_with fail
      refine (number_any p v L _ hW.out hle).mono ?_
      rintro e w1 ⟨rfl, hW1, hB1, hK1⟩
      have hB2 := hB.trans hB1
      have hK2 := Lib.hid (hK.out.trans hK1)
      have HW1 := Lib.hid hW1
      clear hW1 hB1 hK1
      go_wp2
      go_roundw
      case rel => exact ⟨k + 1, by omega, by go_num, by show WrIs w1 p _; rw [hsn.out, ← List.append_assoc, HL.out]; exact HW1.out, hB2, hK2⟩
      case measure => simp [intOf]; omega
    · obtain rfl : k = vs.length := by omega
      go_wp2
      go_ret
      exact ⟨rfl, by have := hW.out; rwa [List.take_length] at this, hB, hK.out⟩
end Go.Proofs.YtfgkgpkaohkehaaGreatDoor
namespace Go.Proofs.YtfgkgpkaohkehaaGreatDoor
open Go.ChangeShapes Go.WideShapes Go.ChangeAt Go.RowKit
open Enc
set_option linter.unusedVariables false
def encNs (vs : List Int) : List UInt8 := vs.flatMap encN
theorem encNs_le (vs : List Int) : (encNs vs).length ≤ vs.length * 9 := by
  induction vs with
  | nil => simp [encNs]
  | cons v t ih => have := encU_le (max v 0).toNat; simp only [encNs, encN, List.flatMap_cons, List.length_append, List.length_cons] at *; omega
theorem encNs_snoc (vs : List Int) (k : Nat) (h : k < vs.length) : encNs (vs.take (k + 1)) = encNs (vs.take k) ++ encN vs[k] := by
  unfold encNs; rw [List.take_succ_eq_append_getElem h, List.flatMap_append, List.flatMap_cons, List.flatMap_nil, List.append_nil]
set_option maxRecDepth 100000 in
set_option maxHeartbeats 1000000 in
theorem wN_any (p b off : Nat) (vs : List Int) (l : List UInt8) (w : World) (h : WrIs w p l) (hb : b ≠ p) (hfr : Free w p b) (hc : NumRow w .i64 b off vs) (hl : l.length ≤ 1000000) (hv : vs.length ≤ 1000) (hbd : ∀ v ∈ vs, v ≤ 9223372036854775807) :
    Calls Tryz.prog 34 #[.pointer (some ⟨p, 0, none⟩), .slice (some ⟨b, off, none⟩) vs.length vs.length] w fun e w' => e = .returned (.pointer (some ⟨p, 0, none⟩)) ∧ WrIs w' p (l ++ encNs vs) ∧ Below p w w' ∧ Keeps p w w' := by
  have H := Lib.hid h
  have Hc := Lib.hid hc
  have HF := Lib.hid hfr
  have HBd := Lib.hid hbd
  clear h hc hfr hbd
  go_enter Tryz.func34, Tryz.ntmps34
  go_wp2
  go_loopw [9] (fun i wr => ∃ k : Nat, k ≤ vs.length ∧ i = .int .i64 (k : Nat) ∧ Hid (WrIs wr p (l ++ encNs (vs.take k))) ∧ Below p w wr ∧ Hid (Keeps p w wr)) (fun i _ => vs.length - (intOf i).toNat)
  case atStart => exact ⟨0, by omega, rfl, (by show WrIs _ _ _; simpa [encNs] using H.out), Below.refl _ _, Keeps.refl _ _⟩
  case round =>
    obtain ⟨k, hk, rfl, hW, hB, hK⟩ := hrel
    by_cases hlt : k < vs.length
    · have hcell := (Hc.out.keeps hK.out hb HF.out) k hlt
      have hsn := Lib.hid (encNs_snoc vs k hlt)
      have hle : (l ++ encNs (vs.take k)).length ≤ 1000000000 := by have := encNs_le (vs.take k); simp only [List.length_append, List.length_take] at *; omega
      have hbk := HBd.out vs[k] (List.getElem_mem hlt)
      generalize vs[k] = v at *
      generalize hLL : l ++ encNs (vs.take k) = L at *
      have HL := Lib.hid hLL; clear hLL
      obtain ⟨x, hx⟩ : ∃ x : Nat, (max v 0).toNat = x := ⟨_, rfl⟩
      have HX := Lib.hid hx
      rcases Int.lt_or_le v 0 with hneg | hpos
      · obtain rfl : x = 0 := by omega
        clear hx
        go_wp2_with fail
        refine (number_any p 0 L _ hW.out hle).mono ?_
        rintro e w1 ⟨rfl, hW1, hB1, hK1⟩
        have hB2 := hB.trans hB1
        have hK2 := Lib.hid (hK.out.trans hK1)
        have HW1 := Lib.hid hW1
        clear hW1 hB1 hK1
        go_wp2
        go_roundw
        case rel => exact ⟨k + 1, by omega, by go_num, by show WrIs w1 p _; rw [hsn.out, ← List.append_assoc, HL.out, encN, HX.out]; exact HW1.out, hB2, hK2⟩
        case measure => simp [intOf]; omega
      · obtain rfl : v = (x : Int) := by omega
        clear hx
        go_wp2_with fail
        refine (number_any p x L _ hW.out hle).mono ?_
        rintro e w1 ⟨rfl, hW1, hB1, hK1⟩
        have hB2 := hB.trans hB1
        have hK2 := Lib.hid (hK.out.trans hK1)
        have HW1 := Lib.hid hW1
        clear hW1 hB1 hK1
        go_wp2
        go_roundw
        case rel => exact ⟨k + 1, by omega, by go_num, by show WrIs w1 p _; rw [hsn.out, ← List.append_assoc, HL.out, encN, HX.out]; exact HW1.out, hB2, hK2⟩
        case measure => simp [intOf]; omega
    · obtain rfl : k = vs.length := by omega
      go_wp2
      go_ret
      exact ⟨rfl, by have := hW.out; rwa [List.take_length] at this, hB, hK.out⟩
theorem ownsRow_text {w : World} {base cap : Nat} {a : Option Addr} {l : List UInt8} (hown : w.ownsRow base 5 1 (.slice a l.length cap) l.length (bCells l)) :
    (convert 78 9 (.slice a l.length cap)).run Tryz.prog w = .ok (.string ⟨l.toArray⟩) w := by
  obtain ⟨a', cap', he, hc⟩ := ownsRow_slice hown
  simp only [Value.slice.injEq, true_and] at he
  obtain ⟨rfl, rfl⟩ := he
  rcases hc with ⟨rfl, h0⟩ | ⟨g, rfl, hg, hc⟩
  · have hl : l = [] := List.length_eq_zero_iff.1 h0
    subst hl
    show (convert 78 9 (.slice none 0 cap)).run Tryz.prog w = _
    rw [run_convert_bytes_string w _ _ _ none 0 cap Tryz.underlying78 Tryz.underlying5 Tryz.underlying9]
    rfl
  · refine run_convert_bytes_back (P := Tryz.prog) w _ _ 5 ⟨g, 0, none⟩ cap l Tryz.underlying78 Tryz.underlying5 Tryz.underlying9 (fun j hj => ?_)
    have hadd : (⟨g, 0, none⟩ : Addr).add j = ⟨g, j, none⟩ := by unfold Addr.add; split <;> simp_all
    rw [hadd]
    exact hc j _ (by simp [bCells, hj])
set_option maxRecDepth 100000 in
/-- Text of a Writer. -/
theorem wText_any (p : Nat) (l : List UInt8) (w : World) (h : WrIs w p l) :
    Calls Tryz.prog 38 #[.pointer (some ⟨p, 0, none⟩)] w fun e w' => e = .returned (.string ⟨l.toArray⟩) ∧ w = w' := by
  obtain ⟨a, cap, hc, hf, hp, hown⟩ := h
  have hr := ownsRow_text hown
  clear hown hf hp
  go_enter Tryz.func38, Tryz.ntmps38
  go_wp2
  go_ret
  exact ⟨rfl, rfl⟩
set_option maxRecDepth 100000 in
set_option maxHeartbeats 1000000 in
theorem wB_one (p b off : Nat) (x : Bool) (l : List UInt8) (w : World) (h : WrIs w p l) (hc : w.cell? ⟨b, off, none⟩ = some (.bool x)) (hl : l.length ≤ 1000000000) :
    Calls Tryz.prog 35 #[.pointer (some ⟨p, 0, none⟩), .slice (some ⟨b, off, none⟩) 1 1] w fun e w' => e = .returned (.pointer (some ⟨p, 0, none⟩)) ∧ WrIs w' p (l ++ encB x) ∧ Below p w w' ∧ Keeps p w w' := by
  obtain ⟨i0, hi, hz0, hz1, hz2⟩ := info_parts info_u8
  have H := Lib.hid h
  clear h
  go_enter Tryz.func35, Tryz.ntmps35
  go_wp2
  go_loopw [10] (fun i wr => (i = .int .i64 0 ∧ wr = w) ∨ (i = .int .i64 1 ∧ Hid (WrIs wr p (l ++ encB x)) ∧ Below p w wr ∧ Hid (Keeps p w wr))) (fun i _ => 1 - (intOf i).toNat)
  case atStart => exact .inl ⟨rfl, rfl⟩
  case round =>
    rcases hrel with ⟨rfl, rfl⟩ | ⟨rfl, hW, hB, hK⟩
    · obtain ⟨a0, c0, hcp, hf, hp, hown⟩ := H.out
      have Hcp := Lib.hid hcp
      cases x
      all_goals
        go_wp2_with (at_builtin; refine wpList_append_lies _ rfl (.tmp 19) (.tmp 21) 78 rfl (p + 1) 5 i0 (.int .u8 0) 1 1 Tryz.underlying78 hi hz0 hz1 hz2 rfl (by decide) _ _ _ rfl (hown.alloc _) ⟨wr.heap.size, 0, none⟩ 1 1 [.int .u8 _] rfl rfl (cells_one _ _ _) (by simp [Value.oneCell']) Nat.one_pos (by unfold maxLen; omega) (by omega) (by simp; omega) _ rfl ?_)
        intro g1 cap1 w1 hown1 hgrow hat1 _
        obtain ⟨hc1, hf1, hp1, hB1⟩ := wr_grow hp Hcp.out hf hown ((Gr.refl _).alloc _) hgrow
        have hK := wr_keeps (n := l.length + 1) (cap := cap1) Hcp.out ((Gr.refl _).alloc _) hgrow (hat1.imp id (fun h => by first | omega | (simp at h; omega))) hc1
        first | rw [show bCells l ++ [Value.int .u8 0] = bCells (l ++ encB false) by simp [bCells, encB]] at hown1 | rw [show bCells l ++ [Value.int .u8 1] = bCells (l ++ encB true) by simp [bCells, encB]] at hown1
        obtain ⟨hW2, hB2⟩ := wr_store hp1 hc1 hf1 (by simp [encB]) hown1
        have hB3 := hB1.trans hB2
        have HW2 := Lib.hid hW2
        have HK := Lib.hid hK
        clear hgrow hown hown1 hat1 hf hcp hB1 hB2 hK hW2
        go_wp2
        go_roundw
        case rel => exact .inr ⟨rfl, HW2.out, hB3, HK⟩
        case measure => simp [intOf]
    · go_wp2
      go_ret
      exact ⟨rfl, hW, hB, hK.out⟩
set_option maxRecDepth 100000 in
set_option maxHeartbeats 1000000 in
theorem wS_one (p b off : Nat) (s : ByteArray) (l : List UInt8) (w : World) (h : WrIs w p l) (hc : w.cell? ⟨b, off, none⟩ = some (.string s)) (hl : l.length ≤ 100000000) (hs : s.size ≤ 100000000) :
    Calls Tryz.prog 36 #[.pointer (some ⟨p, 0, none⟩), .slice (some ⟨b, off, none⟩) 1 1] w fun e w' => e = .returned (.pointer (some ⟨p, 0, none⟩)) ∧ WrIs w' p (l ++ encS (bytesOf s)) ∧ Below p w w' := by
  obtain ⟨i0, hi, hz0, hz1, hz2⟩ := info_parts info_u8
  have H := Lib.hid h
  clear h
  go_enter Tryz.func36, Tryz.ntmps36
  go_wp2
  go_loopw [9] (fun i wr => (i = .int .i64 0 ∧ wr = w) ∨ (i = .int .i64 1 ∧ Hid (WrIs wr p (l ++ encS (bytesOf s))) ∧ Below p w wr)) (fun i _ => 1 - (intOf i).toNat)
  case atStart => exact .inl ⟨rfl, rfl⟩
  case round =>
    rcases hrel with ⟨rfl, rfl⟩ | ⟨rfl, hW, hB⟩
    · go_wp2_with fail
      refine (number_any p s.size l _ H.out (by omega)).mono ?_
      rintro e w1 ⟨rfl, hW1, hB1, _⟩
      have hle := encU_le s.size
      have hL : (l ++ encU s.size).length ≤ 100000009 := by rw [List.length_append]; omega
      have HE := Lib.hid (show encS (bytesOf s) = encU s.size ++ bytesOf s by unfold encS; rw [show (bytesOf s).length = s.size by simp [bytesOf]])
      generalize hLL : l ++ encU s.size = L at *
      have HL := Lib.hid hLL; clear hLL hle
      obtain ⟨a0, c0, hcp, hf, hp, hown⟩ := hW1
      have Hcp := Lib.hid hcp
      go_wp2_with (refine Lib.wpList_append_own_string _ rfl (.tmp 22) (.tmp 23) 78 9 rfl (p + 1) 5 i0 Tryz.underlying78 Tryz.underlying9 hi hz0 hz1 hz2 _ _ _ rfl hown s rfl (by unfold maxLen; omega) (by omega) (by omega) ?_)
      intro v' w2 hown2 hgrow _
      obtain ⟨a2, c2, rfl, _⟩ := ownsRow_slice hown2
      obtain ⟨hc1, hf1, hp1, hB2⟩ := wr_grow hp Hcp.out hf hown (Gr.refl _) hgrow
      have hst : bCells L ++ Lib.strCells s = bCells (L ++ bytesOf s) := by simp [bCells, Lib.strCells, bytesOf]
      rw [hst] at hown2
      obtain ⟨hW2, hB3⟩ := wr_store hp1 hc1 hf1 (by simp [bytesOf]) hown2
      have hB4 := (hB1.trans hB2).trans hB3
      have HW2 := Lib.hid hW2
      clear hgrow hown hown2 hf hcp hB1 hB2 hB3 hW2 hst
      go_wp2
      go_roundw
      case rel => exact .inr ⟨rfl, by show WrIs _ p _; rw [HE.out, ← List.append_assoc, HL.out]; exact HW2.out, hB4⟩
      case measure => simp [intOf]
    · go_wp2
      go_ret
      exact ⟨rfl, hW, hB⟩
end Go.Proofs.YtfgkgpkaohkehaaGreatDoor
namespace Go.Proofs.YtfgkgpkaohkehaaGreatDoor
open Go.ChangeShapes Go.WideShapes Go.ChangeAt Go.RowKit
open Enc
set_option linter.unusedVariables false
/-- Of blocks other than p nothing has turned. -/
structure Only (p : Nat) (w w' : World) : Prop where
  os : w'.os = w.os
  tape : w'.tape = w.tape
  output : w'.output = w.output
  size : w.heap.size ≤ w'.heap.size
  block : ∀ k, k < w.heap.size → k ≠ p → w'.heap[k]? = w.heap[k]?
theorem Only.refl (p : Nat) (w : World) : Only p w w := ⟨rfl, rfl, rfl, Nat.le_refl _, fun _ _ _ => rfl⟩
theorem Only.trans {p : Nat} {a b c : World} (h : Only p a b) (k : Only p b c) : Only p a c :=
  ⟨k.os.trans h.os, k.tape.trans h.tape, k.output.trans h.output, Nat.le_trans h.size k.size, fun i hi hp => (k.block i (Nat.lt_of_lt_of_le hi h.size) hp).trans (h.block i hi hp)⟩
theorem Only.setCell (p o : Nat) (w : World) (v : Value) : Only p w (w.setCell ⟨p, o, none⟩ v) := ⟨rfl, rfl, rfl, by simp [World.setCell], fun k _ hk => Below.heap_setCell _ _ _ _ hk⟩
theorem Only.gr {p : Nat} {w0 w w' : World} (h : Only p w w') (hg : Gr w0 w) (hp : w0.heap.size ≤ p) : Gr w0 w' :=
  Below.trans hg ⟨h.os, h.tape, h.output, h.size, fun k hk => h.block k (Nat.lt_of_lt_of_le hk hg.size) (by omega)⟩
theorem Only.of_gr {p : Nat} {w w' : World} (h : Gr w w') : Only p w w' := ⟨Below.os h, Below.tape h, Below.output h, h.size, fun k hk _ => Below.block h k hk⟩
theorem Only.cell {p : Nat} {w w' : World} (h : Only p w w') {b o : Nat} {v : Value} (hb : b ≠ p) (hc : w.cell? ⟨b, o, none⟩ = some v) : w'.cell? ⟨b, o, none⟩ = some v :=
  (World.cell?_of_block (w := w) (a := ⟨b, o, none⟩) (h.block b (cell_lt hc) hb)).trans hc
/-- A Reader lies in block p: what is left, and the error. -/
def RdIs (w : World) (p : Nat) (r : ByteArray) (e : Nat) : Prop :=
  w.cell? ⟨p, 0, none⟩ = some (.string r) ∧ w.cell? ⟨p, 1, none⟩ = some (.int .i64 (e : Int)) ∧ w.frozen? ⟨p, 0, none⟩ = false ∧ w.frozen? ⟨p, 1, none⟩ = false ∧ r.size ≤ 9223372036854775807
theorem RdIs.rest {w : World} {p : Nat} {r r' : ByteArray} {e : Nat} (h : RdIs w p r e) (hr : r'.size ≤ 9223372036854775807) : RdIs (w.setCell ⟨p, 0, none⟩ (.string r')) p r' e := by
  obtain ⟨h0, h1, f0, f1, _⟩ := h
  refine ⟨World.cell?_setCell_same' _ _ _ (by rw [h0]; rfl), ?_, by rw [World.frozen?_setCell]; exact f0, by rw [World.frozen?_setCell]; exact f1, hr⟩
  rw [World.cell?_setCell_other _ _ _ _ (by simp)]; exact h1
theorem RdIs.err {w : World} {p : Nat} {r : ByteArray} {e e' : Nat} (h : RdIs w p r e) : RdIs (w.setCell ⟨p, 1, none⟩ (.int .i64 (e' : Int))) p r e' := by
  obtain ⟨h0, h1, f0, f1, hr⟩ := h
  refine ⟨?_, World.cell?_setCell_same' _ _ _ (by rw [h1]; rfl), by rw [World.frozen?_setCell]; exact f0, by rw [World.frozen?_setCell]; exact f1, hr⟩
  rw [World.cell?_setCell_other _ _ _ _ (by simp)]; exact h0
theorem RdIs.gr {w w' : World} {p : Nat} {r : ByteArray} {e : Nat} (h : RdIs w p r e) (hg : Gr w w') : RdIs w' p r e := by
  obtain ⟨h0, h1, f0, f1, hr⟩ := h
  exact ⟨hg.cell h0, hg.cell h1, (hg.frozen (cell_lt h0)).trans f0, (hg.frozen (cell_lt h0)).trans f1, hr⟩
theorem RdIs.only {w w' : World} {p q : Nat} {r : ByteArray} {e : Nat} (h : RdIs w p r e) (hg : Only q w w') (hq : p ≠ q) : RdIs w' p r e := by
  obtain ⟨h0, h1, f0, f1, hr⟩ := h
  have hb := hg.block p (cell_lt h0) hq
  exact ⟨hg.cell hq h0, hg.cell hq h1, (World.frozen?_of_block (w := w) (a := ⟨p, 0, none⟩) hb).trans f0, (World.frozen?_of_block (w := w) (a := ⟨p, 1, none⟩) hb).trans f1, hr⟩
/-- The first error stays. -/
def failE (e x : Nat) : Nat := if e = 0 then x else e
theorem rfail_any (p x : Nat) (r : ByteArray) (e : Nat) (y : Int) (hy : y = x) (w : World) (h : RdIs w p r e) :
    Calls Tryz.prog 60 #[.pointer (some ⟨p, 0, none⟩), .int .i64 y] w fun en w' => en = .returned (.tuple #[]) ∧ RdIs w' p r (failE e x) ∧ Only p w w' := by
  subst hy
  have H := Lib.hid h
  obtain ⟨h0, h1, f0, f1, hr⟩ := h
  by_cases he : e = 0
  · have E := Lib.hid (show failE e x = x by simp [failE, he])
    have t : ((e : Int) == 0) = true := by simp [he]
    clear he
    go_enter Tryz.func60, Tryz.ntmps60
    go_wp2
    go_end0
    exact ⟨rfl, by rw [E.out]; exact H.out.err, Only.setCell _ _ _ _⟩
  · have E := Lib.hid (show failE e x = e by simp [failE, he])
    have t : ((e : Int) == 0) = false := by simp [he]
    clear he
    go_enter Tryz.func60, Tryz.ntmps60
    go_wp2
    go_end0
    exact ⟨rfl, by rw [E.out]; exact H.out, Only.refl _ _⟩
theorem fail_zero (p x : Nat) (r : ByteArray) (y : Int) (hy : y = x) (w : World) (h : RdIs w p r 0) :
    Calls Tryz.prog 60 #[.pointer (some ⟨p, 0, none⟩), .int .i64 y] w fun en w' => en = .returned (.tuple #[]) ∧ RdIs w' p r x ∧ Only p w w' := rfail_any p x r 0 y hy w h
theorem fail_keep (p x : Nat) (r : ByteArray) (e : Nat) (he : ((e : Int) != 0) = true) (y : Int) (hy : y = x) (w : World) (h : RdIs w p r e) :
    Calls Tryz.prog 60 #[.pointer (some ⟨p, 0, none⟩), .int .i64 y] w fun en w' => en = .returned (.tuple #[]) ∧ RdIs w' p r e ∧ Only p w w' := by
  have := rfail_any p x r e y hy w h
  rwa [show failE e x = e by unfold failE; rw [if_neg (by intro h0; simp [h0] at he)]] at this
theorem err_any (p : Nat) (r : ByteArray) (e : Nat) (w : World) (h : RdIs w p r e) :
    Calls Tryz.prog 95 #[.pointer (some ⟨p, 0, none⟩)] w fun en w' => en = .returned (.int .i64 e) ∧ w = w' := by
  obtain ⟨h0, h1, f0, f1, hr⟩ := h
  go_enter Tryz.func95, Tryz.ntmps95
  go_wp2
  go_ret
  exact ⟨rfl, rfl⟩
def ReadIs (s : ByteArray) (w : World) (en : Ending) (w' : World) : Prop :=
  en = .returned (.pointer (some ⟨w.heap.size, 0, none⟩)) ∧ RdIs w' w.heap.size s 0 ∧ Gr w w'
theorem read_any (s : ByteArray) (w : World) (hs : s.size ≤ 9223372036854775807) : Calls Tryz.prog 26 #[.string s] w (ReadIs s w) := by
  go_enter Tryz.func26, Tryz.ntmps26
  go_wp2
  go_ret
  refine ⟨rfl, ⟨new_cell rfl rfl, new_cell rfl rfl, new_free rfl, new_free rfl, hs⟩, (Gr.refl _).alloc _⟩
/-- The next n bytes. -/
def takeS (r : ByteArray) (e n : Nat) : ByteArray × Nat × ByteArray :=
  if e ≠ 0 then (r, e, ⟨#[]⟩) else if r.size < n then (r, 3, ⟨#[]⟩) else (r.extract n r.size, 0, r.extract 0 n)
def TakeIs (p : Nat) (r : ByteArray) (e n : Nat) (w : World) (en : Ending) (w' : World) : Prop :=
  en = .returned (.string (takeS r e n).2.2) ∧ RdIs w' p (takeS r e n).1 (takeS r e n).2.1 ∧ Only p w w'
theorem takeIs_mk {p : Nat} {r : ByteArray} {e n : Nat} {w w' : World} {a c : ByteArray} {b : Nat} (h : Hid (takeS r e n = (a, b, c))) (h1 : RdIs w' p a b) (h2 : Only p w w') : TakeIs p r e n w (.returned (.string c)) w' := by
  refine ⟨by rw [h.out], by rw [h.out]; exact h1, h2⟩
set_option maxRecDepth 100000 in
set_option maxHeartbeats 1000000 in
theorem take_any (p : Nat) (r : ByteArray) (e n : Nat) (y : Int) (hy : y = n) (w : World) (h : RdIs w p r e) :
    Calls Tryz.prog 96 #[.pointer (some ⟨p, 0, none⟩), .int .i64 y] w (TakeIs p r e n w) := by
  subst hy
  have H := Lib.hid h
  obtain ⟨h0, h1, f0, f1, hr⟩ := h
  by_cases he : e = 0
  · subst he
    rcases Nat.lt_or_ge r.size n with hn | hn
    · have E := Lib.hid (show takeS r 0 n = (r, 3, ⟨#[]⟩) by simp [takeS, hn])
      go_enter Tryz.func96, Tryz.ntmps96
      go_wp2_with fail
      refine (fail_zero p 3 r _ rfl _ H.out).mono ?_
      rintro en w1 ⟨rfl, hR, hO⟩
      have HR := Lib.hid hR
      obtain ⟨g0, g1, g2, g3, _⟩ := hR
      go_wp2
      go_ret
      exact takeIs_mk E HR.out hO
    · have E := Lib.hid (show takeS r 0 n = (r.extract n r.size, 0, r.extract 0 n) by simp [takeS, Nat.not_lt.2 hn])
      have hz : (r.extract n r.size).size ≤ 9223372036854775807 := by simp; omega
      have HZ := Lib.hid hz
      clear hz
      go_enter Tryz.func96, Tryz.ntmps96
      go_wp2
      go_ret
      exact takeIs_mk E (H.out.rest HZ.out) (Only.setCell _ _ _ _)
  · have t1 : ((e : Int) != 0) = true := by simp [he]
    have E := Lib.hid (show takeS r e n = (r, e, ⟨#[]⟩) by simp [takeS, he])
    clear he
    rcases Nat.lt_or_ge r.size n with hn | hn
    · go_enter Tryz.func96, Tryz.ntmps96
      go_wp2_with fail
      refine (fail_keep p 3 r e t1 _ rfl _ H.out).mono ?_
      rintro en w1 ⟨rfl, hR, hO⟩
      have HR := Lib.hid hR
      obtain ⟨g0, g1, g2, g3, _⟩ := hR
      go_wp2
      go_ret
      exact takeIs_mk E HR.out hO
    · go_enter Tryz.func96, Tryz.ntmps96
      go_wp2
      go_ret
      exact takeIs_mk E H.out (Only.refl _ _)
def num8 (l : List UInt8) : Nat := l.foldl (fun n b => 256 * n + b.toNat) 0
theorem num8_snoc (l : List UInt8) (b : UInt8) : num8 (l ++ [b]) = 256 * num8 l + b.toNat := by simp [num8]
theorem num8_lt (l : List UInt8) : num8 l < 256 ^ l.length := by
  generalize hl : l.length = n
  induction n generalizing l with
  | zero => have := List.length_eq_zero_iff.1 hl; subst this; simp [num8]
  | succ n ih =>
    have hne : l ≠ [] := by intro e; simp [e] at hl
    rw [← List.dropLast_concat_getLast hne, num8_snoc]
    have h1 := ih l.dropLast (by simp [hl])
    have h2 := (l.getLast hne).toNat_lt
    rw [Nat.pow_succ]; omega
theorem or_byte (C b : Nat) (hC : C < 72057594037927936) (hb : b < 2 ^ 8) : bits .or .u64 (IntKind.u64.wrap ((C : Int) * 256)) (b : Int) = ((256 * C + b : Nat) : Int) := by
  have e1 : IntKind.u64.wrap ((C : Int) * 256) = ((256 * C : Nat) : Int) := by
    rw [IntWalk.u64_in _ (by omega)]; omega
  rw [e1, u64_or_nat (256 * C) b (by omega) (by omega)]
  rw [show 256 * C = 2 ^ 8 * C from rfl, ← Nat.two_pow_add_eq_or_of_lt hb]
set_option maxRecDepth 100000 in
set_option maxHeartbeats 1000000 in
theorem whole_any (s : ByteArray) (w : World) (hs : s.size ≤ 8) :
    Calls Tryz.prog 111 #[.string s] w fun e w' => e = .returned (.int .u64 (num8 (bytesOf s) : Nat)) ∧ w = w' := by
  go_enter Tryz.func111, Tryz.ntmps111
  go_wp2
  go_loop [3, 7] (fun r i => ∃ k : Nat, k ≤ s.size ∧ i = .int .i64 k ∧ r = .int .u64 (num8 ((bytesOf s).take k) : Nat)) (fun _ i => s.size - (intOf i).toNat)
  case atStart => exact ⟨0, by omega, rfl, rfl⟩
  case round =>
    obtain ⟨k, hk, rfl, rfl⟩ := hrel
    by_cases hlt : k < s.size
    · have hts := Lib.hid (take_snoc s k hlt)
      have hb := s[k].toNat_lt
      generalize hC : num8 ((bytesOf s).take k) = C at *
      have HC := Lib.hid hC; clear hC
      have hCl : C < 72057594037927936 := by
        have h1 := num8_lt ((bytesOf s).take k)
        rw [HC.out] at h1
        have h2 : ((bytesOf s).take k).length ≤ 7 := by simp; omega
        exact Nat.lt_of_lt_of_le h1 (Nat.le_trans (Nat.pow_le_pow_right (n := 256) (by decide) h2) (by decide))
      have hor := Lib.hid (or_byte C s[k].toNat hCl hb)
      clear hCl
      go_wp2
      go_round
      case rel => exact ⟨k + 1, by omega, by go_num, by rw [hor.out, hts.out, num8_snoc, HC.out]⟩
      case measure => simp [intOf]; omega
    · obtain rfl : k = s.size := by omega
      go_wp2
      go_ret
      exact ⟨ret_int (by rw [take_size]), rfl⟩
theorem take_err (p : Nat) (r : ByteArray) (e n : Nat) (y : Int) (hy : y = n) (he : ((e : Int) != 0) = true) (w : World) (h : RdIs w p r e) :
    Calls Tryz.prog 96 #[.pointer (some ⟨p, 0, none⟩), .int .i64 y] w fun en w' => en = .returned (.string ⟨#[]⟩) ∧ RdIs w' p r e ∧ Only p w w' := by
  have := take_any p r e n y hy w h
  have e1 : takeS r e n = (r, e, ⟨#[]⟩) := by unfold takeS; rw [if_pos (by intro h0; simp [h0] at he)]
  unfold TakeIs at this
  rwa [e1] at this
theorem take_short (p : Nat) (r : ByteArray) (n : Nat) (y : Int) (hy : y = n) (hn : r.size < n) (w : World) (h : RdIs w p r 0) :
    Calls Tryz.prog 96 #[.pointer (some ⟨p, 0, none⟩), .int .i64 y] w fun en w' => en = .returned (.string ⟨#[]⟩) ∧ RdIs w' p r 3 ∧ Only p w w' := by
  have := take_any p r 0 n y hy w h
  have e1 : takeS r 0 n = (r, 3, ⟨#[]⟩) := by simp [takeS, hn]
  unfold TakeIs at this
  rwa [e1] at this
theorem take_ok (p : Nat) (r : ByteArray) (n : Nat) (y : Int) (hy : y = n) (hn : n ≤ r.size) (w : World) (h : RdIs w p r 0) :
    Calls Tryz.prog 96 #[.pointer (some ⟨p, 0, none⟩), .int .i64 y] w fun en w' => en = .returned (.string (r.extract 0 n)) ∧ RdIs w' p (r.extract n r.size) 0 ∧ Only p w w' := by
  have := take_any p r 0 n y hy w h
  have e1 : takeS r 0 n = (r.extract n r.size, 0, r.extract 0 n) := by simp [takeS, Nat.not_lt.2 hn]
  unfold TakeIs at this
  rwa [e1] at this
end Go.Proofs.YtfgkgpkaohkehaaGreatDoor
namespace Go.Proofs.YtfgkgpkaohkehaaGreatDoor
open Go.ChangeShapes Go.WideShapes Go.ChangeAt Go.RowKit
open Enc
set_option linter.unusedVariables false
/-- Behind a number's first byte m: what is left, the error, the number. -/
def uR (r1 : ByteArray) (m : Nat) : ByteArray × Nat × Nat :=
  if more m = 0 then (if first m = m then (r1, 0, m) else (r1, 4, 0))
  else if r1.size < more m then (r1, 3, 0)
  else if first (num8 (bytesOf (r1.extract 0 (more m)))) = m then (r1.extract (more m) r1.size, 0, num8 (bytesOf (r1.extract 0 (more m))))
  else (r1.extract (more m) r1.size, 4, 0)
/-- The first byte, or 0. -/
def hd (r : ByteArray) : Nat := if h : 0 < r.size then r[0].toNat else 0
theorem hd_lt (r : ByteArray) : hd r < 256 := by unfold hd; split; exact UInt8.toNat_lt _; omega
def uS (r : ByteArray) (e : Nat) : ByteArray × Nat × Nat :=
  if e ≠ 0 then (r, e, 0) else if r.size < 1 then (r, 3, 0) else uR (r.extract 1 r.size) (hd r)
def UIs (p : Nat) (r : ByteArray) (e : Nat) (w : World) (en : Ending) (w' : World) : Prop :=
  en = .returned (.int .u64 (uS r e).2.2) ∧ RdIs w' p (uS r e).1 (uS r e).2.1 ∧ Only p w w'
theorem uIs_mk {p : Nat} {r : ByteArray} {e : Nat} {w w' : World} {a : ByteArray} {b c : Nat} (h : Hid (uS r e = (a, b, c))) (h1 : RdIs w' p a b) (h2 : Only p w w') : UIs p r e w (.returned (.int .u64 (c : Int))) w' :=
  ⟨by rw [h.out], by rw [h.out]; exact h1, h2⟩
theorem uIs_mk0 {p : Nat} {r : ByteArray} {e : Nat} {w w' : World} {a : ByteArray} {b : Nat} (h : Hid (uS r e = (a, b, 0))) (h1 : RdIs w' p a b) (h2 : Only p w w') : UIs p r e w (.returned (.int .u64 0)) w' := uIs_mk h h1 h2
theorem first_zero : first 0 = 0 := rfl
set_option maxRecDepth 100000 in
set_option maxHeartbeats 1000000 in
theorem rU_none (p : Nat) (r : ByteArray) (e : Nat) (w : World) (h : RdIs w p r e) (hc : e ≠ 0 ∨ e = 0 ∧ r.size < 1) : Calls Tryz.prog 93 #[.pointer (some ⟨p, 0, none⟩)] w (UIs p r e w) := by
  have H := Lib.hid h
  clear h
  rcases hc with he | ⟨rfl, hz⟩
  · have E := Lib.hid (show uS r e = (r, e, 0) by unfold uS; rw [if_pos he])
    have t1 : ((e : Int) != 0) = true := by simp [he]
    clear he
    go_enter Tryz.func93, Tryz.ntmps93
    go_wp2_with fail
    refine (take_err p r e 1 _ rfl t1 _ H.out).mono ?_
    rintro en w1 ⟨rfl, hR, hO⟩
    have HR := Lib.hid hR
    obtain ⟨g0, g1, g2, g3, _⟩ := hR
    go_wp2
    go_ret
    exact uIs_mk0 E HR.out hO
  · have E := Lib.hid (show uS r 0 = (r, 3, 0) by unfold uS; rw [if_neg (by omega), if_pos hz])
    go_enter Tryz.func93, Tryz.ntmps93
    go_wp2_with fail
    refine (take_short p r 1 _ rfl hz _ H.out).mono ?_
    rintro en w1 ⟨rfl, hR, hO⟩
    have HR := Lib.hid hR
    obtain ⟨g0, g1, g2, g3, _⟩ := hR
    go_wp2
    go_ret
    exact uIs_mk0 E HR.out hO
set_option maxRecDepth 100000 in
set_option maxHeartbeats 2000000 in
/-- A first byte that nothing follows. -/
theorem rU_one (p : Nat) (r r1 : ByteArray) (m : Nat) (w : World) (h : RdIs w p r 0) (hz : 1 ≤ r.size) (hr1 : Hid (r.extract 1 r.size = r1)) (S : ByteArray) (hS : Hid (r.extract 0 1 = S)) (i0 : 0 < S.size) (hm : True → S[0].toNat = m) (hml : m < 256)
    (hmore : Hid (more m = 0)) (F : Nat) (hF : Hid (first m = F)) (ok : Bool) (hok : ((F : Int) != (m : Int)) = !ok) (E : Hid (uS r 0 = if ok then (r1, 0, m) else (r1, 4, 0))) :
    Calls Tryz.prog 93 #[.pointer (some ⟨p, 0, none⟩)] w (UIs p r 0 w) := by
  have H := Lib.hid h
  clear h
  go_enter Tryz.func93, Tryz.ntmps93
  go_wp2_with fail
  refine (take_ok p r 1 _ rfl hz _ H.out).mono ?_
  rintro en w1 ⟨rfl, hR, hO⟩
  rw [hr1.out] at hR
  rw [hS.out]
  have HR := Lib.hid hR
  obtain ⟨g0, g1, g2, g3, _⟩ := hR
  go_wp2_with fail
  refine (more_any m _ hml).mono ?_
  rintro en w2 ⟨rfl, rfl⟩
  rw [hmore.out]
  go_wp2_with fail
  refine (mark_any m _).mono ?_
  rintro en w2 ⟨rfl, rfl⟩
  rw [hF.out]
  cases ok
  · go_wp2_with fail
    refine (fail_zero p 4 r1 _ rfl _ HR.out).mono ?_
    rintro en w2 ⟨rfl, hR2, hO2⟩
    have HR2 := Lib.hid hR2
    obtain ⟨g4, g5, g6, g7, _⟩ := hR2
    go_wp2
    go_ret
    exact uIs_mk0 E HR2.out (hO.trans hO2)
  · go_wp2
    go_ret
    exact uIs_mk E HR.out hO
set_option maxRecDepth 100000 in
set_option maxHeartbeats 2000000 in
/-- A first byte that others follow. -/
theorem rU_more (p : Nat) (r r1 : ByteArray) (m n : Nat) (w : World) (h : RdIs w p r 0) (hz : 1 ≤ r.size) (hr1 : Hid (r.extract 1 r.size = r1)) (S : ByteArray) (hS : Hid (r.extract 0 1 = S)) (i0 : 0 < S.size) (hm : True → S[0].toNat = m) (hml : m < 255)
    (hmore : Hid (more m = n)) (hn : 1 ≤ n ∧ n ≤ 8) (hm0 : Hid (m ≠ 0))
    (hc : r1.size < n ∧ Hid (uS r 0 = (r1, 3, 0)) ∨ n ≤ r1.size ∧ ∃ (r2 T : ByteArray) (v F : Nat) (ok : Bool), Hid (r1.extract n r1.size = r2) ∧ Hid (r1.extract 0 n = T) ∧ T.size ≤ 8 ∧ Hid (num8 (bytesOf T) = v) ∧ Hid (first v = F) ∧ ((F : Int) != (m : Int)) = !ok ∧ Hid (uS r 0 = if ok then (r2, 0, v) else (r2, 4, 0))) :
    Calls Tryz.prog 93 #[.pointer (some ⟨p, 0, none⟩)] w (UIs p r 0 w) := by
  have H := Lib.hid h
  clear h
  rcases hc with ⟨hs, E⟩ | ⟨hs, r2, T, v, F, ok, hr2, hT, hTz, hv, hF, hok, E⟩
  · have hw0 : num8 (bytesOf ⟨#[]⟩) = 0 := rfl
    have HW0 := Lib.hid hw0; clear hw0
    go_enter Tryz.func93, Tryz.ntmps93
    go_wp2_with fail
    refine (take_ok p r 1 _ rfl hz _ H.out).mono ?_
    rintro en w1 ⟨rfl, hR, hO⟩
    rw [hr1.out] at hR
    rw [hS.out]
    have HR := Lib.hid hR
    obtain ⟨g0, g1, g2, g3, _⟩ := hR
    go_wp2_with fail
    refine (more_any m _ (by omega)).mono ?_
    rintro en w2 ⟨rfl, rfl⟩
    rw [hmore.out]
    go_wp2_with fail
    refine (take_short p r1 n _ rfl hs _ HR.out).mono ?_
    rintro en w2 ⟨rfl, hR2, hO2⟩
    have HR2 := Lib.hid hR2
    have HO := Lib.hid (hO.trans hO2)
    clear g0 g1 g2 g3 hO hO2
    obtain ⟨g0, g1, g2, g3, _⟩ := hR2
    go_wp2_with fail
    refine (whole_any ⟨#[]⟩ _ (by decide)).mono ?_
    rintro en w3 ⟨rfl, rfl⟩
    rw [HW0.out]
    go_wp2_with fail
    refine (mark_any 0 _).mono ?_
    rintro en w3 ⟨rfl, rfl⟩
    rw [first_zero]
    have t0 : ((0 : Int) != (m : Int)) = true := by have := hm0.out; simp; omega
    go_wp2_with fail
    refine (fail_keep p 4 r1 3 (by decide) _ rfl _ HR2.out).mono ?_
    rintro en w3 ⟨rfl, hR3, hO3⟩
    have HR3 := Lib.hid hR3
    have HO3 := Lib.hid hO3
    clear g0 g1 g2 g3 hO3
    obtain ⟨g0, g1, g2, g3, _⟩ := hR3
    go_wp2
    go_ret
    exact uIs_mk0 E HR3.out (HO.out.trans HO3.out)
  · go_enter Tryz.func93, Tryz.ntmps93
    go_wp2_with fail
    refine (take_ok p r 1 _ rfl hz _ H.out).mono ?_
    rintro en w1 ⟨rfl, hR, hO⟩
    rw [hr1.out] at hR
    rw [hS.out]
    have HR := Lib.hid hR
    obtain ⟨g0, g1, g2, g3, _⟩ := hR
    go_wp2_with fail
    refine (more_any m _ (by omega)).mono ?_
    rintro en w2 ⟨rfl, rfl⟩
    rw [hmore.out]
    go_wp2_with fail
    refine (take_ok p r1 n _ rfl hs _ HR.out).mono ?_
    rintro en w2 ⟨rfl, hR2, hO2⟩
    rw [hr2.out] at hR2
    rw [hT.out]
    have HR2 := Lib.hid hR2
    have HO := Lib.hid (hO.trans hO2)
    clear g0 g1 g2 g3 hO hO2
    obtain ⟨g0, g1, g2, g3, _⟩ := hR2
    go_wp2_with fail
    refine (whole_any T _ hTz).mono ?_
    rintro en w3 ⟨rfl, rfl⟩
    rw [hv.out]
    go_wp2_with fail
    refine (mark_any v _).mono ?_
    rintro en w3 ⟨rfl, rfl⟩
    rw [hF.out]
    cases ok
    · go_wp2_with fail
      refine (fail_zero p 4 r2 _ rfl _ HR2.out).mono ?_
      rintro en w3 ⟨rfl, hR3, hO3⟩
      have HR3 := Lib.hid hR3
      have HO3 := Lib.hid hO3
      clear g0 g1 g2 g3 hO3
      obtain ⟨g0, g1, g2, g3, _⟩ := hR3
      go_wp2
      go_ret
      exact uIs_mk0 E HR3.out (HO.out.trans HO3.out)
    · go_wp2
      go_ret
      exact uIs_mk E HR2.out HO.out
theorem bool_ne (a b : Nat) : ((a : Int) != (b : Int)) = !decide (a = b) := by
  by_cases h : a = b
  · subst h; simp
  · have : ((a : Int) != (b : Int)) = true := by simp; omega
    rw [this]; simp [h]
theorem rU_any (p : Nat) (r : ByteArray) (e : Nat) (w : World) (h : RdIs w p r e) : Calls Tryz.prog 93 #[.pointer (some ⟨p, 0, none⟩)] w (UIs p r e w) := by
  by_cases he : e = 0
  · subst he
    rcases Nat.lt_or_ge r.size 1 with hz | hz
    · exact rU_none p r 0 w h (.inr ⟨rfl, hz⟩)
    · have hsz : (r.extract 0 1).size = 1 := by simp; omega
      have i0 : 0 < (r.extract 0 1).size := by omega
      have hm : (r.extract 0 1)[0].toNat = hd r := by unfold hd; rw [dif_pos (show 0 < r.size by omega), ByteArray.getElem_extract]
      have hml := hd_lt r
      have hu : uS r 0 = uR (r.extract 1 r.size) (hd r) := by unfold uS; rw [if_neg (by omega), if_neg (by omega)]
      by_cases hk : more (hd r) = 0
      · refine rU_one p r _ (hd r) w h hz rfl _ rfl i0 (fun _ => hm) hml hk _ rfl (decide (first (hd r) = hd r)) (bool_ne _ _) ?_
        show uS r 0 = _
        rw [hu]; unfold uR; rw [if_pos hk]; simp
      · have h8 := more_le (hd r)
        have hml' : hd r < 255 := by
          rcases Nat.lt_or_ge (hd r) 255 with h | h
          · exact h
          · exfalso; apply hk; have : hd r = 255 := by omega
            rw [this]; rfl
        have hm0 : hd r ≠ 0 := by intro h0; apply hk; rw [h0]; rfl
        refine rU_more p r _ (hd r) _ w h hz rfl _ rfl i0 (fun _ => hm) hml' rfl (by omega) hm0 ?_
        rcases Nat.lt_or_ge (r.extract 1 r.size).size (more (hd r)) with hs | hs
        · refine .inl ⟨hs, ?_⟩
          show uS r 0 = _
          rw [hu]; unfold uR; rw [if_neg hk, if_pos hs]
        · refine .inr ⟨hs, _, _, _, _, decide (first (num8 (bytesOf ((r.extract 1 r.size).extract 0 (more (hd r))))) = hd r), rfl, rfl, by simp; omega, rfl, rfl, bool_ne _ _, ?_⟩
          show uS r 0 = _
          rw [hu]; unfold uR; rw [if_neg hk, if_neg (Nat.not_lt.2 hs)]; simp
  · exact rU_none p r e w h (.inl he)
end Go.Proofs.YtfgkgpkaohkehaaGreatDoor
namespace Go.Proofs.YtfgkgpkaohkehaaGreatDoor
open Go.ChangeShapes Go.WideShapes Go.ChangeAt Go.RowKit
open Enc
set_option linter.unusedVariables false
theorem uR_zero (r1 : ByteArray) (m : Nat) (h : (uR r1 m).2.1 ≠ 0) : (uR r1 m).2.2 = 0 := by
  unfold uR at *
  by_cases h1 : more m = 0
  · rw [if_pos h1] at *
    by_cases h2 : first m = m
    · rw [if_pos h2] at h; exact absurd rfl h
    · rw [if_neg h2]
  · rw [if_neg h1] at *
    by_cases h2 : r1.size < more m
    · rw [if_pos h2]
    · rw [if_neg h2] at *
      by_cases h3 : first (num8 (bytesOf (r1.extract 0 (more m)))) = m
      · rw [if_pos h3] at h; exact absurd rfl h
      · rw [if_neg h3]
theorem uS_zero (r : ByteArray) (e : Nat) (h : (uS r e).2.1 ≠ 0) : (uS r e).2.2 = 0 := by
  unfold uS at *
  split at h
  · simp_all
  · split at h
    · simp_all
    · rename_i h1 h2; rw [if_neg h1, if_neg h2]; exact uR_zero _ _ h
def nS (r : ByteArray) (e : Nat) (most : Int) : ByteArray × Nat × Nat :=
  if ((max most 0).toNat < (uS r e).2.2) then ((uS r e).1, 6, 0) else uS r e
def NIs (p : Nat) (r : ByteArray) (e : Nat) (most : Int) (w : World) (en : Ending) (w' : World) : Prop :=
  en = .returned (.int .i64 (nS r e most).2.2) ∧ RdIs w' p (nS r e most).1 (nS r e most).2.1 ∧ Only p w w'
theorem nIs_mk {p : Nat} {r : ByteArray} {e : Nat} {most : Int} {w w' : World} {a : ByteArray} {b c : Nat} (h : Hid (nS r e most = (a, b, c))) (h1 : RdIs w' p a b) (h2 : Only p w w') : NIs p r e most w (.returned (.int .i64 (c : Int))) w' :=
  ⟨by rw [h.out], by rw [h.out]; exact h1, h2⟩
theorem uIs_is {p : Nat} {r : ByteArray} {e : Nat} {w w' : World} {en : Ending} {a : ByteArray} {b c : Nat} (h : Hid (uS r e = (a, b, c))) (hu : UIs p r e w en w') : en = .returned (.int .u64 (c : Int)) ∧ RdIs w' p a b ∧ Only p w w' := by
  have := h.out
  unfold UIs at hu; rwa [this] at hu
set_option maxRecDepth 100000 in
set_option maxHeartbeats 1000000 in
theorem rN_walk (p : Nat) (r a : ByteArray) (e b c : Nat) (most : Int) (M : Nat) (hM : most < 0 ∧ M = 0 ∨ most = (M : Int)) (hb : most ≤ 9223372036854775807) (w : World) (h : RdIs w p r e) (hu : Hid (uS r e = (a, b, c)))
    (hc : M < c ∧ b = 0 ∧ Hid (nS r e most = (a, 6, 0)) ∨ c ≤ M ∧ Hid (nS r e most = (a, b, c))) :
    Calls Tryz.prog 55 #[.pointer (some ⟨p, 0, none⟩), .int .i64 most] w (NIs p r e most w) := by
  have H := Lib.hid h
  clear h
  rcases hM with ⟨hneg, rfl⟩ | rfl
  · rcases hc with ⟨hlt, rfl, E⟩ | ⟨hle, E⟩
    · have t1 : (0 : Int) < (c : Int) := by omega
      go_enter Tryz.func55, Tryz.ntmps55
      go_wp2_with fail
      refine (rU_any p r e _ H.out).mono ?_
      intro en w1 hU
      obtain ⟨rfl, hR, hO⟩ := uIs_is hu hU
      clear hU
      have HR := Lib.hid hR
      obtain ⟨g0, g1, g2, g3, _⟩ := hR
      go_wp2_with fail
      refine (fail_zero p 6 a _ rfl _ HR.out).mono ?_
      rintro en w2 ⟨rfl, hR2, hO2⟩
      go_wp2
      go_ret
      exact nIs_mk E hR2 (hO.trans hO2)
    · obtain rfl : c = 0 := by omega
      go_enter Tryz.func55, Tryz.ntmps55
      go_wp2_with fail
      refine (rU_any p r e _ H.out).mono ?_
      intro en w1 hU
      obtain ⟨rfl, hR, hO⟩ := uIs_is hu hU
      clear hU
      go_wp2
      go_ret
      exact nIs_mk E hR hO
  · rcases hc with ⟨hlt, rfl, E⟩ | ⟨hle, E⟩
    · have t1 : (M : Int) < (c : Int) := by omega
      go_enter Tryz.func55, Tryz.ntmps55
      go_wp2_with fail
      refine (rU_any p r e _ H.out).mono ?_
      intro en w1 hU
      obtain ⟨rfl, hR, hO⟩ := uIs_is hu hU
      clear hU
      have HR := Lib.hid hR
      obtain ⟨g0, g1, g2, g3, _⟩ := hR
      go_wp2_with fail
      refine (fail_zero p 6 a _ rfl _ HR.out).mono ?_
      rintro en w2 ⟨rfl, hR2, hO2⟩
      go_wp2
      go_ret
      exact nIs_mk E hR2 (hO.trans hO2)
    · have t1 : (c : Int) ≤ (M : Int) := by omega
      go_enter Tryz.func55, Tryz.ntmps55
      go_wp2_with fail
      refine (rU_any p r e _ H.out).mono ?_
      intro en w1 hU
      obtain ⟨rfl, hR, hO⟩ := uIs_is hu hU
      clear hU
      go_wp2
      go_ret
      exact nIs_mk E hR hO
theorem rN_any (p : Nat) (r : ByteArray) (e : Nat) (most : Int) (hb : most ≤ 9223372036854775807) (w : World) (h : RdIs w p r e) :
    Calls Tryz.prog 55 #[.pointer (some ⟨p, 0, none⟩), .int .i64 most] w (NIs p r e most w) := by
  have hz := uS_zero r e
  refine rN_walk p r (uS r e).1 e (uS r e).2.1 (uS r e).2.2 most (max most 0).toNat (by omega) hb w h rfl ?_
  by_cases hc : (max most 0).toNat < (uS r e).2.2
  · refine .inl ⟨hc, ?_, by show nS r e most = _; unfold nS; rw [if_pos hc]⟩
    rcases Nat.eq_zero_or_pos (uS r e).2.1 with h0 | h0
    · exact h0
    · have := hz (by omega); omega
  · exact .inr ⟨by omega, by show nS r e most = _; unfold nS; rw [if_neg hc]⟩
def bS (r : ByteArray) (e : Nat) : ByteArray × Nat × Bool :=
  if e ≠ 0 then (r, e, false) else if r.size < 1 then (r, 3, false) else if 1 < hd r then (r.extract 1 r.size, 4, false) else (r.extract 1 r.size, 0, decide (hd r = 1))
def BIs (p : Nat) (r : ByteArray) (e : Nat) (w : World) (en : Ending) (w' : World) : Prop :=
  en = .returned (.bool (bS r e).2.2) ∧ RdIs w' p (bS r e).1 (bS r e).2.1 ∧ Only p w w'
theorem bIs_mk {p : Nat} {r : ByteArray} {e : Nat} {w w' : World} {a : ByteArray} {b : Nat} {c : Bool} (h : Hid (bS r e = (a, b, c))) (h1 : RdIs w' p a b) (h2 : Only p w w') : BIs p r e w (.returned (.bool c)) w' :=
  ⟨by rw [h.out], by rw [h.out]; exact h1, h2⟩
set_option maxRecDepth 100000 in
set_option maxHeartbeats 1000000 in
theorem rB_none (p : Nat) (r : ByteArray) (e : Nat) (w : World) (h : RdIs w p r e) (hc : e ≠ 0 ∨ e = 0 ∧ r.size < 1) : Calls Tryz.prog 57 #[.pointer (some ⟨p, 0, none⟩)] w (BIs p r e w) := by
  have H := Lib.hid h
  clear h
  rcases hc with he | ⟨rfl, hz⟩
  · have E := Lib.hid (show bS r e = (r, e, false) by unfold bS; rw [if_pos he])
    have t1 : ((e : Int) != 0) = true := by simp [he]
    clear he
    go_enter Tryz.func57, Tryz.ntmps57
    go_wp2_with fail
    refine (take_err p r e 1 _ rfl t1 _ H.out).mono ?_
    rintro en w1 ⟨rfl, hR, hO⟩
    have HR := Lib.hid hR
    obtain ⟨g0, g1, g2, g3, _⟩ := hR
    go_wp2
    go_ret
    exact bIs_mk E HR.out hO
  · have E := Lib.hid (show bS r 0 = (r, 3, false) by unfold bS; rw [if_neg (by omega), if_pos hz])
    go_enter Tryz.func57, Tryz.ntmps57
    go_wp2_with fail
    refine (take_short p r 1 _ rfl hz _ H.out).mono ?_
    rintro en w1 ⟨rfl, hR, hO⟩
    have HR := Lib.hid hR
    obtain ⟨g0, g1, g2, g3, _⟩ := hR
    go_wp2
    go_ret
    exact bIs_mk E HR.out hO
set_option maxRecDepth 100000 in
set_option maxHeartbeats 1000000 in
theorem rB_some (p : Nat) (r r1 : ByteArray) (m : Nat) (w : World) (h : RdIs w p r 0) (hz : 1 ≤ r.size) (hr1 : Hid (r.extract 1 r.size = r1)) (S : ByteArray) (hS : Hid (r.extract 0 1 = S)) (i0 : 0 < S.size) (hm : True → S[0].toNat = m)
    (hc : 1 < m ∧ Hid (bS r 0 = (r1, 4, false)) ∨ m ≤ 1 ∧ ∃ x : Bool, ((m : Int) == 1) = x ∧ Hid (bS r 0 = (r1, 0, x))) :
    Calls Tryz.prog 57 #[.pointer (some ⟨p, 0, none⟩)] w (BIs p r 0 w) := by
  have H := Lib.hid h
  clear h
  rcases hc with ⟨hlt, E⟩ | ⟨hle, x, hx, E⟩
  · have t1 : (1 : Int) < (m : Int) := by omega
    have t2 : ((m : Int) == 1) = false := by simp; omega
    go_enter Tryz.func57, Tryz.ntmps57
    go_wp2_with fail
    refine (take_ok p r 1 _ rfl hz _ H.out).mono ?_
    rintro en w1 ⟨rfl, hR, hO⟩
    rw [hr1.out] at hR
    rw [hS.out]
    have HR := Lib.hid hR
    obtain ⟨g0, g1, g2, g3, _⟩ := hR
    go_wp2_with fail
    refine (fail_zero p 4 r1 _ rfl _ HR.out).mono ?_
    rintro en w2 ⟨rfl, hR2, hO2⟩
    go_wp2
    go_ret
    exact bIs_mk E hR2 (hO.trans hO2)
  · have t1 : (m : Int) ≤ 1 := by omega
    cases x
    all_goals
      go_enter Tryz.func57, Tryz.ntmps57
      go_wp2_with fail
      refine (take_ok p r 1 _ rfl hz _ H.out).mono ?_
      rintro en w1 ⟨rfl, hR, hO⟩
      rw [hr1.out] at hR
      rw [hS.out]
      have HR := Lib.hid hR
      obtain ⟨g0, g1, g2, g3, _⟩ := hR
      go_wp2
      go_ret
      exact bIs_mk E HR.out hO
theorem rB_any (p : Nat) (r : ByteArray) (e : Nat) (w : World) (h : RdIs w p r e) : Calls Tryz.prog 57 #[.pointer (some ⟨p, 0, none⟩)] w (BIs p r e w) := by
  by_cases he : e = 0
  · subst he
    rcases Nat.lt_or_ge r.size 1 with hz | hz
    · exact rB_none p r 0 w h (.inr ⟨rfl, hz⟩)
    · have hsz : (r.extract 0 1).size = 1 := by simp; omega
      have i0 : 0 < (r.extract 0 1).size := by omega
      have hm : (r.extract 0 1)[0].toNat = hd r := by unfold hd; rw [dif_pos (show 0 < r.size by omega), ByteArray.getElem_extract]
      refine rB_some p r _ (hd r) w h hz rfl _ rfl i0 (fun _ => hm) ?_
      have h1 : ¬ r.size < 1 := by omega
      by_cases hk : 1 < hd r
      · exact .inl ⟨hk, by show bS r 0 = _; unfold bS; rw [if_neg (by omega), if_neg h1, if_pos hk]⟩
      · refine .inr ⟨by omega, decide (hd r = 1), ?_, by show bS r 0 = _; unfold bS; rw [if_neg (by omega), if_neg h1, if_neg hk]⟩
        by_cases h2 : hd r = 1
        · rw [h2]; rfl
        · have : ((hd r : Int) == 1) = false := by simp; omega
          rw [this]; simp [h2]
  · exact rB_none p r e w h (.inl he)
def doneE (r : ByteArray) (e : Nat) : Nat := if 0 < r.size then failE e 4 else e
set_option maxRecDepth 100000 in
theorem rDone_any (p : Nat) (r : ByteArray) (e : Nat) (w : World) (h : RdIs w p r e) :
    Calls Tryz.prog 28 #[.pointer (some ⟨p, 0, none⟩)] w fun en w' => en = .returned (.int .i64 (doneE r e : Nat)) ∧ RdIs w' p r (doneE r e) ∧ Only p w w' := by
  have H := Lib.hid h
  obtain ⟨h0, h1, f0, f1, hr⟩ := h
  by_cases hz : 0 < r.size
  · have E : doneE r e = failE e 4 := by unfold doneE; rw [if_pos hz]
    rw [E]
    clear E
    go_enter Tryz.func28, Tryz.ntmps28
    go_wp2_with fail
    refine (rfail_any p 4 r e _ rfl _ H.out).mono ?_
    rintro en w2 ⟨rfl, hR2, hO2⟩
    have HR := Lib.hid hR2
    obtain ⟨g0, g1, g2, g3, _⟩ := hR2
    go_wp2
    go_ret
    exact ⟨rfl, HR.out, hO2⟩
  · have E : doneE r e = e := by unfold doneE; rw [if_neg hz]
    rw [E]
    clear E
    go_enter Tryz.func28, Tryz.ntmps28
    go_wp2
    go_ret
    exact ⟨rfl, H.out, Only.refl _ _⟩
end Go.Proofs.YtfgkgpkaohkehaaGreatDoor
