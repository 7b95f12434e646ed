import Derived.Test.YtjllnojhhlkpoaaC01
import Derived.Test.YtjllnojhhlkpoaaM01
import Derived.WalkKit
import Derived.ProofKit
import Derived.LoopTactic
import Derived.Outline
import Derived.WalkSpells
import Derived.WalkLawsBesides
import Derived.Lib.Hide
import Derived.Deep.LoopGhost
import Derived.Deep.QuietTactic
import Derived.BigQuiet
import Derived.ShutString
import Derived.Deep.RegionWith
import Derived.Deep.RegionHeld3
import Derived.Deep.AppendLies
import Derived.Deep.RegionLaw
namespace Go.Proofs.Ytjllnojhhlkpoaa
open Go.ChangeShapes Go.WideShapes Go.ChangeAt Go.RowKit
open Enc
set_option linter.unusedVariables false
/-- The cells of bytes. -/
def bCells (l : List UInt8) : List Value := l.map fun b => .int .u8 (b.toNat : Int)
theorem bCells_append (l m : List UInt8) : bCells (l ++ m) = bCells l ++ bCells m := by simp [bCells]
theorem info_u8 : (Try.prog.info? 5).map (fun i => (i.zero, i.size, i.bytes)) = some (some (.int .u8 0), 1, 1) := by kernel_rfl
/-- A Writer lies in block p and holds these bytes; what it owns lies behind it. -/
def WrIs (w : World) (p : Nat) (l : List UInt8) : Prop :=
  ∃ a cap, w.cell? ⟨p, 0, none⟩ = some (.slice a l.length cap) ∧ w.frozen? ⟨p, 0, none⟩ = false ∧ p < w.heap.size ∧ w.ownsRow (p + 1) 5 1 (.slice a l.length cap) l.length (bCells l)
set_option maxRecDepth 100000 in
theorem first_big (v : Nat) (w : World) (b c : Bool) (h1 : decide ((v : Int) < 252) = false) (h2 : decide ((v : Int) < 65536) = b) (h3 : decide ((v : Int) < 4294967296) = c) :
    Calls Try.prog 88 #[.int .u64 v] w fun e w' => e = .returned (.int .u8 (if b then 252 else if c then 253 else 254)) ∧ w = w' := by
  cases b <;> cases c <;>
    (go_enter Try.func88, Try.ntmps88
     repeat go_step
     go_ret
     exact ⟨rfl, rfl⟩)
theorem first_small (v : Nat) (w : World) (h1 : decide ((v : Int) < 252) = true) (h2 : v < 256) :
    Calls Try.prog 88 #[.int .u64 v] w fun e w' => e = .returned (.int .u8 v) ∧ w = w' := by
  go_enter Try.func88, Try.ntmps88
  repeat go_step
  go_ret
  exact ⟨rfl, rfl⟩
theorem first_val (v : Nat) (h : 252 ≤ v) : (if decide ((v : Int) < 65536) = true then (252 : Int) else if decide ((v : Int) < 4294967296) = true then 253 else 254) = (first v : Nat) := by
  unfold first
  rw [if_neg (show ¬ v < 252 by omega)]
  simp only [decide_eq_true_eq]
  by_cases h2 : v < 65536
  · rw [if_pos h2, if_pos (show (v : Int) < 65536 by omega)]; rfl
  · rw [if_neg h2, if_neg (show ¬ (v : Int) < 65536 by omega)]
    by_cases h3 : v < 4294967296
    · rw [if_pos h3, if_pos (show (v : Int) < 4294967296 by omega)]; rfl
    · rw [if_neg h3, if_neg (show ¬ (v : Int) < 4294967296 by omega)]; rfl
theorem first_any (v : Nat) (w : World) :
    Calls Try.prog 88 #[.int .u64 v] w fun e w' => e = .returned (.int .u8 (first v : Nat)) ∧ w = w' := by
  rcases Nat.lt_or_ge v 252 with h1 | h1
  · have e : first v = v := by unfold first; rw [if_pos h1]
    rw [e]
    exact first_small v w (by simp; omega) (by omega)
  · refine (first_big v w _ _ (by simp; omega) rfl rfl).mono fun e w' h => ?_
    obtain ⟨rfl, rfl⟩ := h
    exact ⟨ret_int (first_val v h1), rfl⟩
theorem more_any (f : Nat) (w : World) (hf : f < 256) :
    Calls Try.prog 86 #[.int .u8 f] w fun e w' => e = .returned (.int .i64 (more f : Nat)) ∧ w = w' := by
  have go : ∀ (a b c : Bool) (n : Nat), ((f : Int) == 252) = a → ((f : Int) == 253) = b → ((f : Int) == 254) = c → more f = n → (n = if a then 2 else if b then 4 else if c then 8 else 0) →
      Calls Try.prog 86 #[.int .u8 f] w fun e w' => e = .returned (.int .i64 (more f : Nat)) ∧ w = w' := by
    intro a b c n ha hb hc hn hv
    have E := Lib.hid hn
    clear hn
    cases a <;> cases b <;> cases c <;> simp at hv <;> subst hv <;>
      (go_enter Try.func86, Try.ntmps86
       go_wp2
       go_ret
       exact ⟨by rw [E.out]; rfl, rfl⟩)
  refine go _ _ _ (more f) rfl rfl rfl rfl ?_
  unfold more
  by_cases h1 : f = 252
  · subst h1; rfl
  by_cases h2 : f = 253
  · subst h2; rfl
  by_cases h3 : f = 254
  · subst h3; rfl
  have e1 : ((f : Int) == 252) = false := by simp; omega
  have e2 : ((f : Int) == 253) = false := by simp; omega
  have e3 : ((f : Int) == 254) = false := by simp; omega
  rw [if_neg h1, if_neg h2, if_neg h3, e1, e2, e3]; rfl
theorem cells_one (w : World) (x : Value) (t : TypeId) : ∀ (j : Nat) (u : Value), [x][j]? = some u → (w.alloc (.cells #[x] t)).cell? ((⟨w.heap.size, 0, none⟩ : Addr).add j) = some u := by
  intro j u hj
  match j, hj with
  | 0, hj => simp at hj; subst hj; exact new_cell rfl rfl
theorem shift_byte (v n k : Nat) (h : k < n) : IntKind.u8.wrap ((v : Int) / 2 ^ (8 * ((n : Int) - 1 - (k : Int))).toNat) = ((b8 (v / 256 ^ (n - 1 - k) % 256)).toNat : Int) := by
  have e : (8 * ((n : Int) - 1 - (k : Int))).toNat = 8 * (n - 1 - k) := by omega
  have h2 : (v : Int) / 2 ^ (8 * (n - 1 - k)) = ((v / 256 ^ (n - 1 - k) : Nat) : Int) := by
    rw [show (256 : Nat) = 2 ^ 8 from rfl, ← Nat.pow_mul, Int.natCast_ediv, Int.natCast_pow]; rfl
  rw [e, h2, IntKind.wrap_u8', b8_toNat (Nat.mod_lt _ (by decide))]
  omega
/-- Behind an append to what a Writer in block p owns: its own cell is as it was. -/
theorem wr_grow {w w0 w1 : World} {p : Nat} {v : Value} {n : Nat} {xs : List Value} (hp : p < w.heap.size) (hc : w.cell? ⟨p, 0, none⟩ = some v) (hf : w.frozen? ⟨p, 0, none⟩ = false)
    (hown : w.ownsRow (p + 1) 5 1 v n xs) (hg : Gr w w0) (hgrow : w0.grownBy w1 v.ownBlock) :
    w1.cell? ⟨p, 0, none⟩ = some v ∧ w1.frozen? ⟨p, 0, none⟩ = false ∧ p < w1.heap.size ∧ Below p w w1 := by
  have hlt := hown.lt
  have hs := hg.size
  have hne : some p ≠ v.ownBlock := by intro e; have := hlt p e.symm; omega
  refine ⟨hgrow.cell (hg.cell hc) hne, ?_, Nat.lt_of_lt_of_le hp (Nat.le_trans hs hgrow.size), ?_⟩
  · rw [World.frozen?_of_block (w := w0) (a := ⟨p, 0, none⟩) (hgrow.block p (by omega) hne)]
    exact (hg.frozen hp).trans hf
  · exact (hg.below.mono (by omega)).grown hgrow (by omega) (by intro k hk; have := hlt k hk; omega)
/-- Behind the store of a slice into a Writer's cell. -/
theorem wr_store {w1 : World} {p n cap : Nat} {a : Option Addr} {v : Value} {l : List UInt8} (hp : p < w1.heap.size) (hc : w1.cell? ⟨p, 0, none⟩ = some v) (hf : w1.frozen? ⟨p, 0, none⟩ = false) (hn : n = l.length)
    (hown : w1.ownsRow (p + 1) 5 1 (.slice a n cap) n (bCells l)) :
    WrIs (w1.setCell ⟨p, 0, none⟩ (.slice a n cap)) p l ∧ Below p w1 (w1.setCell ⟨p, 0, none⟩ (.slice a n cap)) := by
  subst hn
  refine ⟨⟨_, _, ?_, ?_, ?_, ownsRow_setCell_below hown (by simp) _⟩, (Below.refl p w1).setCell (p := ⟨p, 0, none⟩) (Nat.le_refl p) _⟩
  · exact World.cell?_setCell_same' _ _ _ (by rw [hc]; rfl)
  · rw [World.frozen?_setCell]; exact hf
  · simpa [World.setCell] using hp
/-- Block b is not what the Writer in block p owns. -/
def Free (w : World) (p b : Nat) : Prop := ∀ v, w.cell? ⟨p, 0, none⟩ = some v → v.ownBlock ≠ some b
/-- Of other blocks than the Writer's own nothing has turned. -/
def Keeps (p : Nat) (w w' : World) : Prop := w.heap.size ≤ w'.heap.size ∧ ∀ b, b < w.heap.size → b ≠ p → Free w p b → w'.heap[b]? = w.heap[b]? ∧ Free w' p b
theorem Keeps.refl (p : Nat) (w : World) : Keeps p w w := ⟨Nat.le_refl _, fun _ _ _ h => ⟨rfl, h⟩⟩
theorem Keeps.trans {p : Nat} {a b c : World} (h : Keeps p a b) (k : Keeps p b c) : Keeps p a c :=
  ⟨Nat.le_trans h.1 k.1, fun i hi hp hf => by
    obtain ⟨h1, h2⟩ := h.2 i hi hp hf
    obtain ⟨k1, k2⟩ := k.2 i (Nat.lt_of_lt_of_le hi h.1) hp h2
    exact ⟨k1.trans h1, k2⟩⟩
theorem Keeps.cell {p : Nat} {w w' : World} (h : Keeps p w w') {b o : Nat} {v : Value} (hb : b ≠ p) (hf : Free w p b) (hc : w.cell? ⟨b, o, none⟩ = some v) : w'.cell? ⟨b, o, none⟩ = some v :=
  (World.cell?_of_block (w := w) (a := ⟨b, o, none⟩) (h.2 b (cell_lt hc) hb hf).1).trans hc
theorem wr_keeps {w w0 w1 : World} {p g n cap : Nat} {v u : Value} (hc : w.cell? ⟨p, 0, none⟩ = some v) (hg : Gr w w0) (hgrow : w0.grownBy w1 v.ownBlock) (hat : v.ownBlock = some g ∨ w.heap.size ≤ g) (hc1 : w1.cell? ⟨p, 0, none⟩ = some u) :
    Keeps p w (w1.setCell ⟨p, 0, none⟩ (.slice (some ⟨g, 0, none⟩) n cap)) := by
  have hs := hg.size
  refine ⟨by have := hgrow.size; simp [World.setCell]; omega, fun b hb hne hf => ⟨?_, ?_⟩⟩
  · rw [Below.heap_setCell _ _ _ _ hne, hgrow.block b (by omega) (fun e => hf v hc e.symm)]
    exact hg.below.block b hb
  · intro x hx
    rw [World.cell?_setCell_same' _ _ _ (by rw [hc1]; rfl)] at hx
    simp only [Option.some.injEq] at hx
    subst hx
    intro e
    simp only [Value.ownBlock, Option.some.injEq] at e
    subst e
    rcases hat with h | h
    · exact hf v hc h
    · omega
set_option maxRecDepth 100000 in
set_option maxHeartbeats 1000000 in
theorem number_any (p v : Nat) (l : List UInt8) (w : World) (h : WrIs w p l) (hl : l.length ≤ 1000000000) :
    Calls Try.prog 65 #[.pointer (some ⟨p, 0, none⟩), .int .u64 v] w fun e w' => e = .returned (.tuple #[]) ∧ WrIs w' p (l ++ encU v) ∧ Below p w w' ∧ Keeps p w w' := by
  obtain ⟨i0, hi, hz0, hz1, hz2⟩ := info_parts info_u8
  obtain ⟨a0, c0, hc, hf, hp, hown⟩ := h
  have hfl := first_lt v
  obtain ⟨f, hf'⟩ : ∃ f, first v = f := ⟨_, rfl⟩
  rw [hf'] at hfl
  have HF := Lib.hid hf'; clear hf'
  have hb8 : ((b8 f).toNat : Int) = f := by rw [b8_toNat (by omega)]
  have HB := Lib.hid hb8; clear hb8
  have Hc := Lib.hid hc; clear hc
  have hc := Hc.out
  go_enter Try.func65, Try.ntmps65
  go_wp2_with fail
  refine (first_any v w).mono ?_
  rintro e w1 ⟨rfl, rfl⟩
  rw [HF.out]
  go_wp2_with (at_builtin; go_loud (refine wpList_append_lies _ rfl (.tmp 13) (.tmp 15) 48 rfl (p + 1) 5 i0 (.int .u8 0) 1 1 Try.underlying48 hi hz0 hz1 hz2 rfl (by decide) _ _ _ rfl (hown.alloc _) ⟨w.heap.size, 0, none⟩ 1 1 [.int .u8 f] rfl rfl ?c1 ?c2 Nat.one_pos ?c3 ?c4 ?c5 _ rfl ?_))
  case c1 => exact cells_one w _ _
  case c2 => intro u hu; simp at hu; subst hu; rfl
  case c3 => unfold maxLen; omega
  case c4 => omega
  case c5 => simp; omega
  intro g1 cap1 w1 hown1 hgrow hat1 _
  obtain ⟨hc1, hf1, hp1, hB1⟩ := wr_grow hp Hc.out hf hown ((Gr.refl _).alloc _) hgrow
  have hbc : bCells l ++ [Value.int .u8 f] = bCells (l ++ [b8 f]) := by rw [bCells_append]; simp only [bCells, List.map_cons, List.map_nil, HB.out]
  rw [hbc] at hown1
  obtain ⟨hW2, hB2⟩ := wr_store hp1 hc1 hf1 (by simp) hown1
  have hB := hB1.trans hB2
  have hK := wr_keeps (n := l.length + 1) (cap := cap1) Hc.out ((Gr.refl _).alloc _) hgrow (hat1.imp id (fun h => by first | omega | (simp at h; omega))) hc1
  clear hat1
  clear hgrow hown hc hf hbc hown1
  go_wp2_with fail
  refine (more_any f _ (by omega)).mono ?_
  rintro e w2 ⟨rfl, rfl⟩
  generalize w1.setCell ⟨p, 0, none⟩ (.slice (some ⟨g1, 0, none⟩) (l.length + 1) cap1) = w2 at *
  have hn8 := more_le f
  clear hc1 hf1 hp1 hB1 hB2
  go_wp2_with fail
  go_loopw [22] (fun i wr => ∃ k : Nat, k ≤ more f ∧ i = .int .i64 (k : Nat) ∧ Hid (WrIs wr p (l ++ [b8 f] ++ (wide v (more f)).take k)) ∧ Below p w wr ∧ Hid (Keeps p w wr)) (fun i _ => more f - (intOf i).toNat)
  case atStart => exact ⟨0, by omega, rfl, (by show WrIs w2 p _; simpa using hW2), hB, hK⟩
  case round =>
    obtain ⟨k, hk, rfl, hWr, hBr, hKr⟩ := hrel
    by_cases hlt : k < more f
    · have hsn : (wide v (more f)).take (k + 1) = (wide v (more f)).take k ++ [b8 (v / 256 ^ (more f - 1 - k) % 256)] := by
        have hl' : k < (wide v (more f)).length := by rw [wide_length]; exact hlt
        rw [List.take_succ_eq_append_getElem hl', wide_at]
      have Hsn := Lib.hid hsn
      have hlen : (l ++ [b8 f] ++ (wide v (more f)).take k).length ≤ 1000000100 := by simp; omega
      generalize hLL : l ++ [b8 f] ++ (wide v (more f)).take k = L at *
      generalize more f = n at *
      have HL := Lib.hid hLL; clear hLL
      obtain ⟨a1, c1, hc, hf, hp', hown⟩ := hWr.out
      have Hc := Lib.hid hc
      clear hsn
      have wr1 : True → IntKind.i64.wrap ((n : Int) - 1) = (n : Int) - 1 := fun _ => IntWalk.i64_in _ (by omega)
      have wr2 : True → IntKind.i64.wrap ((n : Int) - 1 - (k : Int)) = (n : Int) - 1 - (k : Int) := fun _ => IntWalk.i64_in _ (by omega)
      have wr3 : True → IntKind.i64.wrap (8 * ((n : Int) - 1 - (k : Int))) = 8 * ((n : Int) - 1 - (k : Int)) := fun _ => IntWalk.i64_in _ (by omega)
      have sh1 : 0 ≤ 8 * ((n : Int) - 1 - (k : Int)) := by omega
      have sh2 : 8 * ((n : Int) - 1 - (k : Int)) ≤ 64 := by omega
      go_wp2
      go_region_law ((refine step_append_lies _ (by rfl) _ _ _ (by rfl) (p + 1) 5 i0 (.int .u8 0) 1 1 Try.underlying48 hi hz0 hz1 hz2 rfl (by omega) _ L.length _ (by rfl) ((hown.alloc _).drew) ⟨wr.heap.size, 0, none⟩ 1 1 [.int .u8 _] (by rfl) (by rfl) (World.news_of_block (cs := #[.int .u8 _]) (t := 5) (fr := (0, 0)) (heap_alloc_new wr _)) (by simp [Value.oneCell']) (by omega) (by unfold maxLen; omega) (by omega) (by simp; omega) (wr.heap.size + 1) (by simp) ?_; intro g2 cap2 w3 hown3 hgrow3 hat3 _; obtain ⟨hc3, hf3, hp3, hB3⟩ := wr_grow hp' Hc.out hf hown (((Gr.refl _).alloc _).drew) hgrow3))
      all_goals
        rw [shift_byte v n k hlt, show [Value.int .u8 ((b8 (v / 256 ^ (n - 1 - k) % 256)).toNat : Int)] = bCells [b8 (v / 256 ^ (n - 1 - k) % 256)] from rfl, ← bCells_append] at hown3
        obtain ⟨hW4, hB4⟩ := wr_store hp3 hc3 hf3 (by simp) hown3
        have hB5 := hBr.trans (hB3.trans hB4)
        have hK5 := hKr.out.trans (wr_keeps (n := L.length + 1) (cap := cap2) Hc.out (((Gr.refl _).alloc _).drew) hgrow3 (hat3.imp id (fun h => by omega)) hc3)
        clear hat3
        clear hgrow3 hown hown3 hc hf hc3 hf3 hB3 hB4 hp3 sh1 sh2 wr1 wr2 wr3
        generalize w3.setCell ⟨p, 0, none⟩ (.slice (some ⟨g2, 0, none⟩) (L.length + 1) cap2) = w4 at *
        go_wp2
        go_roundw
        case rel => exact ⟨k + 1, by omega, by go_num, by show WrIs w4 p _; rw [Hsn.out, ← List.append_assoc, HL.out]; exact hW4, hB5, hK5⟩
        case measure => simp [intOf]; omega
    · obtain rfl : k = more f := by omega
      go_wp2
      go_end0
      refine ⟨rfl, ?_, hBr, hKr.out⟩
      have := hWr.out
      rw [List.take_of_length_le (by rw [wide_length]; omega)] at this
      unfold encU
      rw [HF.out]
      simpa using this
/-- The numbers that a call is handed lie behind an address. -/
def NumRow (w : World) (k : IntKind) (b off : Nat) (ns : List Int) : Prop := ∀ i (h : i < ns.length), w.cell? ⟨b, off + i, none⟩ = some (.int k ns[i])
theorem NumRow.keeps {w w' : World} {k : IntKind} {b off p : Nat} {ns : List Int} (h : NumRow w k b off ns) (hk : Keeps p w w') (hb : b ≠ p) (hf : Free w p b) : NumRow w' k b off ns :=
  fun i hi => hk.cell hb hf (h i hi)
def encUs (vs : List Nat) : List UInt8 := vs.flatMap encU
theorem encUs_le (vs : List Nat) : (encUs vs).length ≤ vs.length * 9 := by
  induction vs with
  | nil => simp [encUs]
  | cons v t ih => have := encU_le v; simp only [encUs, List.flatMap_cons, List.length_append, List.length_cons] at *; omega
theorem encUs_snoc (vs : List Nat) (k : Nat) (h : k < vs.length) : encUs (vs.take (k + 1)) = encUs (vs.take k) ++ encU vs[k] := by
  unfold encUs; rw [List.take_succ_eq_append_getElem h, List.flatMap_append, List.flatMap_cons, List.flatMap_nil, List.append_nil]
set_option maxRecDepth 100000 in
set_option maxHeartbeats 1000000 in
theorem wU_any (p b off : Nat) (vs : List Nat) (l : List UInt8) (w : World) (h : WrIs w p l) (hb : b ≠ p) (hfr : Free w p b) (hblt : b < w.heap.size) (hc : NumRow w .u64 b off (vs.map Int.ofNat)) (hl : l.length ≤ 1000000) (hv : vs.length ≤ 1000) :
    Calls Try.prog 84 #[.pointer (some ⟨p, 0, none⟩), .slice (some ⟨b, off, none⟩) vs.length vs.length] w fun e w' => e = .returned (.pointer (some ⟨p, 0, none⟩)) ∧ WrIs w' p (l ++ encUs vs) ∧ Below p w w' ∧ Keeps p w w' := by
  have H := Lib.hid h
  have Hc := Lib.hid hc
  have HF := Lib.hid hfr
  clear h hc hfr
  go_enter Try.func84, Try.ntmps84
  go_wp2
  go_loopw [9] (fun i wr => ∃ k : Nat, k ≤ vs.length ∧ i = .int .i64 (k : Nat) ∧ Hid (WrIs wr p (l ++ encUs (vs.take k))) ∧ Below p w wr ∧ Hid (Keeps p w wr)) (fun i _ => vs.length - (intOf i).toNat)
  case atStart => exact ⟨0, by omega, rfl, (by show WrIs _ _ _; simpa [encUs] using H.out), Below.refl _ _, Keeps.refl _ _⟩
  case round =>
    obtain ⟨k, hk, rfl, hW, hB, hK⟩ := hrel
    by_cases hlt : k < vs.length
    · have hcell := (Hc.out.keeps hK.out hb HF.out) k (by simpa using hlt)
      have he : (vs.map Int.ofNat)[k]'(by simpa using hlt) = (vs[k] : Int) := by simp
      rw [he] at hcell
      have hsn := Lib.hid (encUs_snoc vs k hlt)
      have hle : (l ++ encUs (vs.take k)).length ≤ 1000000000 := by have := encUs_le (vs.take k); simp only [List.length_append, List.length_take] at *; omega
      clear he
      generalize vs[k] = v at *
      generalize hLL : l ++ encUs (vs.take k) = L at *
      have HL := Lib.hid hLL; clear hLL
      go_wp2_with fail
      refine (number_any p v L _ hW.out hle).mono ?_
      rintro e w1 ⟨rfl, hW1, hB1, hK1⟩
      have hB2 := hB.trans hB1
      have hK2 := Lib.hid (hK.out.trans hK1)
      have HW1 := Lib.hid hW1
      clear hW1 hB1 hK1
      go_wp2
      go_roundw
      case rel => exact ⟨k + 1, by omega, by go_num, by show WrIs w1 p _; rw [hsn.out, ← List.append_assoc, HL.out]; exact HW1.out, hB2, hK2⟩
      case measure => simp [intOf]; omega
    · obtain rfl : k = vs.length := by omega
      go_wp2
      go_ret
      exact ⟨rfl, by have := hW.out; rwa [List.take_length] at this, hB, hK.out⟩
end Go.Proofs.Ytjllnojhhlkpoaa
