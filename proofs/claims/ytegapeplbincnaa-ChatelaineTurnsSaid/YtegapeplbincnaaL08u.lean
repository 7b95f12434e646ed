import Derived.Test.YtegapeplbincnaaF08n
import Derived.Test.YtegapeplbincnaaM08b
import Derived.Test.YtegapeplbincnaaC20
import Derived.Test.YtegapeplbincnaaC22
import Derived.WalkKit
import Derived.ProofKit
import Derived.LoopTactic
import Derived.Outline
import Derived.WalkSpells
import Derived.WalkLawsBesides
import Derived.Lib.Hide
import Derived.Deep.LoopGhost
import Derived.Deep.QuietTactic
import Derived.BigQuiet
import Derived.ShutString
import Derived.IntWalk
import Derived.Laws.AppendOwn
import Derived.Deep.RegionWith
import Derived.Deep.RegionHeld3
namespace Go.Proofs.Ytegapeplbincnaa
open Go.ChangeShapes Go.WideShapes Go.ChangeAt Go.RowKit
open Bal
set_option linter.unusedVariables false
set_option linter.unusedSimpArgs false
/-- What the twelve nodes have heard of lies in block hb. -/
def HRow (w : World) (hb : Nat) (H : Nat → Int × Int) : Prop := ∀ k, k < 12 → w.cell? ⟨hb, k * 2, none⟩ = some (.int .u64 (H k).1) ∧ w.cell? ⟨hb, k * 2 + 1, none⟩ = some (.int .i64 (H k).2) ∧ w.frozen? ⟨hb, k * 2, none⟩ = false ∧ w.frozen? ⟨hb, k * 2 + 1, none⟩ = false
theorem HRow.gr {w w' : World} {hb : Nat} {H : Nat → Int × Int} (h : HRow w hb H) (hg : Gr w w') : HRow w' hb H := fun k hk => by
  obtain ⟨h0, h1, f0, f1⟩ := h k hk
  exact ⟨hg.cell h0, hg.cell h1, (hg.frozen (cell_lt h0)).trans f0, (hg.frozen (cell_lt h1)).trans f1⟩
theorem HRow.put {w : World} {hb k : Nat} {H : Nat → Int × Int} {x : Int × Int} (h : HRow w hb H) (hk : k < 12) : HRow ((w.setCell ⟨hb, k * 2, none⟩ (.int .u64 x.1)).setCell ⟨hb, k * 2 + 1, none⟩ (.int .i64 x.2)) hb (Bal.put H k x) := fun j hj => by
  obtain ⟨h0, h1, f0, f1⟩ := h j hj
  refine ⟨?_, ?_, by rw [World.frozen?_setCell, World.frozen?_setCell]; exact f0, by rw [World.frozen?_setCell, World.frozen?_setCell]; exact f1⟩
  · by_cases e : j = k
    · subst e
      rw [World.cell?_setCell_other _ _ _ _ (by simp)]
      unfold Bal.put; rw [if_pos rfl]
      exact World.cell?_setCell_same' _ _ _ (by rw [h0]; rfl)
    · rw [World.cell?_setCell_other _ _ _ _ (by first | (simp; done) | (simp; omega)), World.cell?_setCell_other _ _ _ _ (by first | (simp; done) | (simp; omega))]
      unfold Bal.put; rw [if_neg e]; exact h0
  · by_cases e : j = k
    · subst e
      unfold Bal.put; rw [if_pos rfl]
      exact World.cell?_setCell_same' _ _ _ (by rw [World.cell?_setCell_other _ _ _ _ (by simp), h1]; rfl)
    · rw [World.cell?_setCell_other _ _ _ _ (by first | (simp; done) | (simp; omega)), World.cell?_setCell_other _ _ _ _ (by first | (simp; done) | (simp; omega))]
      unfold Bal.put; rw [if_neg e]; exact h1
def bvals (b : Int × Int) : List Value := [.int .u64 b.1, .int .i64 b.2]
def bcells (A : List (Int × Int)) : List Value := A.flatMap bvals
theorem bcells_at : ∀ (A : List (Int × Int)) (i : Nat) (h : i < A.length) (j : Nat), j < 2 → (bcells A)[i * 2 + j]? = (bvals A[i])[j]?
  | [], i, h, _, _ => by simp at h
  | x :: A, 0, _, j, hj => by
    unfold bcells
    rw [List.flatMap_cons, List.getElem?_append_left (by simp [bvals]; omega), Nat.zero_mul, Nat.zero_add]; rfl
  | x :: A, i + 1, h, j, hj => by
    have ih := bcells_at A i (by simpa using h) j hj
    have hl : (bvals x).length = 2 := rfl
    unfold bcells at *
    rw [List.flatMap_cons, List.getElem?_append_right (by omega), hl, show (i + 1) * 2 + j - 2 = i * 2 + j by omega, ih]; rfl
theorem brow_of {w : World} {base : Nat} {e : TypeId} {v : Value} {A : List (Int × Int)} (h : w.ownsRow base e 2 v A.length (bcells A)) : ∃ a cap, v = .slice a A.length cap ∧ BRow w a A := by
  obtain ⟨a, cap, rfl, h1⟩ := ownsRow_slice h
  refine ⟨a, cap, rfl, ?_⟩
  rcases h1 with ⟨rfl, h0⟩ | ⟨g, rfl, _, hc⟩
  · exact .inl (List.length_eq_zero_iff.1 h0)
  · refine .inr ⟨g, 0, rfl, fun i hi => ?_⟩
    have at' := fun j hj u hu => hc (i * 2 + j) u ((bcells_at A i hi j hj).trans hu)
    simp only [Nat.zero_add]
    exact ⟨at' 0 (by omega) _ rfl, at' 1 (by omega) _ rfl⟩
theorem zeros_at (w : World) (t : TypeId) : HRow (w.alloc (.cells #[.int .u64 0, .int .i64 0, .int .u64 0, .int .i64 0, .int .u64 0, .int .i64 0, .int .u64 0, .int .i64 0, .int .u64 0, .int .i64 0, .int .u64 0, .int .i64 0, .int .u64 0, .int .i64 0, .int .u64 0, .int .i64 0, .int .u64 0, .int .i64 0, .int .u64 0, .int .i64 0, .int .u64 0, .int .i64 0, .int .u64 0, .int .i64 0] t)) w.heap.size (fun _ => (0, 0)) := fun k hk => by
  have hk' : k = 0 ∨ k = 1 ∨ k = 2 ∨ k = 3 ∨ k = 4 ∨ k = 5 ∨ k = 6 ∨ k = 7 ∨ k = 8 ∨ k = 9 ∨ k = 10 ∨ k = 11 := by omega
  rcases hk' with rfl | rfl | rfl | rfl | rfl | rfl | rfl | rfl | rfl | rfl | rfl | rfl <;> exact ⟨new_cell rfl rfl, new_cell rfl rfl, new_free rfl, new_free rfl⟩
theorem cells_two (w : World) (x0 x1 : Value) (t : TypeId) (n : Nat) (hn : n = w.heap.size) : ∀ (j : Nat) (u : Value), [x0, x1][j]? = some u → (w.alloc (.cells #[x0, x1] t)).cell? ((⟨n, 0, none⟩ : Addr).add j) = some u := by
  intro j u hj
  have hadd : (⟨n, 0, none⟩ : Addr).add j = ⟨n, 0 + j, none⟩ := by unfold Addr.add; split <;> simp_all
  rw [hadd, Nat.zero_add]
  exact new_cell hn (by simpa using hj)
theorem own_mono {w : World} {base b2 : Nat} {e : TypeId} {size : Nat} {v : Value} {n : Nat} {xs : List Value} (h : w.ownsRow base e size v n xs) (hb : b2 ≤ base) : w.ownsRow b2 e size v n xs := by
  refine ⟨h.1, h.2.imp id ?_⟩
  rintro ⟨g, cap, cur, hv, hg, rest⟩
  exact ⟨g, cap, cur, hv, Nat.le_trans hb hg, rest⟩
theorem own_ne {w : World} {base : Nat} {e : TypeId} {size : Nat} {v : Value} {n bb hb g : Nat} {xs : List Value} (h : w.ownsRow base e size v n xs) (hg : v.ownBlock = some g) (hbb : w.heap.size ≤ bb) (hhb : hb < base) : g ≠ bb ∧ g ≠ hb := by
  obtain ⟨h1, h2⟩ := h.lt g hg
  omega
theorem grown_cell {w w' : World} {v : Value} {d o : Nat} {x : Value} (h : w.grownBy w' v.ownBlock) (hd : ∀ g, v.ownBlock = some g → g ≠ d) (hx : w.cell? ⟨d, o, none⟩ = some x) : w'.cell? ⟨d, o, none⟩ = some x :=
  (World.cell?_of_block (w := w) (a := ⟨d, o, none⟩) (h.block d (cell_lt hx) (fun e => hd d e.symm rfl))).trans hx
theorem grown_free {w w' : World} {v : Value} {d o : Nat} {x : Value} {ob : Obj} (h : (w.alloc ob).grownBy w' v.ownBlock) (hd : ∀ g, v.ownBlock = some g → g ≠ d) (hx : w.cell? ⟨d, o, none⟩ = some x) : w'.frozen? ⟨d, o, none⟩ = w.frozen? ⟨d, o, none⟩ :=
  (World.frozen?_of_block (w := w.alloc ob) (a := ⟨d, o, none⟩) (h.block d (by have := cell_lt hx; simp; omega) (fun e => hd d e.symm rfl))).trans (((Gr.refl w).alloc ob).frozen (cell_lt hx))
theorem bnew (w : World) (c1 m1 c2 m2 : Int) (t : TypeId) : BRow (w.alloc (.cells #[.int .u64 c1, .int .i64 m1, .int .u64 c2, .int .i64 m2] t)) (some ⟨w.heap.size, 0, none⟩) [(c1, m1), (c2, m2)] := by
  refine .inr ⟨_, 0, rfl, fun i hi => ?_⟩
  have hi' : i = 0 ∨ i = 1 := by simp at hi; omega
  rcases hi' with rfl | rfl
  · exact ⟨new_cell rfl rfl, new_cell rfl rfl⟩
  · exact ⟨new_cell rfl rfl, new_cell rfl rfl⟩
theorem bcells_snoc (A : List (Int × Int)) (c m : Int) : bcells (A ++ [(c, m)]) = bcells A ++ [.int .u64 c, .int .i64 m] := by simp [bcells, bvals]
theorem info_ballot : (Try.prog.info? 55).map (fun i => (i.zero, i.size, i.bytes)) = some (some (.agg #[.int .u64 0, .int .i64 0]), 2, 16) := by kernel_rfl
set_option maxRecDepth 100000 in
set_option maxHeartbeats 8000000 in
theorem turns_walk (l : List Int) (a : Option Addr) (cap : Nat) (D : List Bool) (da : Option Addr) (dcap : Nat) (w : World) (hl : Ints w a l) (hcap : l.length ≤ cap) (hD : Bools w da D) :
    Calls Try.prog 9 #[.slice a l.length cap, .slice da D.length dcap] w fun e w' => e = .returned (.bool true) ∧ Gr w w' := by
  obtain ⟨i0, hi, hz0, hz1, hz2⟩ := info_parts info_ballot
  have hLl := hl.1
  have hDl := hD.1
  have HL := Lib.hid hl
  have HDf := Lib.hid hD
  clear hl hD hcap
  go_enter Try.func9, Try.ntmps9
  go_wp2
  have HZ := Lib.hid (zeros_at w 91)
  have HG0 := Lib.hid ((Gr.refl w).alloc (.cells #[.int .u64 0, .int .i64 0, .int .u64 0, .int .i64 0, .int .u64 0, .int .i64 0, .int .u64 0, .int .i64 0, .int .u64 0, .int .i64 0, .int .u64 0, .int .i64 0, .int .u64 0, .int .i64 0, .int .u64 0, .int .i64 0, .int .u64 0, .int .i64 0, .int .u64 0, .int .i64 0, .int .u64 0, .int .i64 0, .int .u64 0, .int .i64 0] 91))
  have hbz : w.heap.size < (w.alloc (.cells #[.int .u64 0, .int .i64 0, .int .u64 0, .int .i64 0, .int .u64 0, .int .i64 0, .int .u64 0, .int .i64 0, .int .u64 0, .int .i64 0, .int .u64 0, .int .i64 0, .int .u64 0, .int .i64 0, .int .u64 0, .int .i64 0, .int .u64 0, .int .i64 0, .int .u64 0, .int .i64 0, .int .u64 0, .int .i64 0, .int .u64 0, .int .i64 0] 91)).heap.size := by simp
  generalize w.alloc (.cells #[.int .u64 0, .int .i64 0, .int .u64 0, .int .i64 0, .int .u64 0, .int .i64 0, .int .u64 0, .int .i64 0, .int .u64 0, .int .i64 0, .int .u64 0, .int .i64 0, .int .u64 0, .int .i64 0, .int .u64 0, .int .i64 0, .int .u64 0, .int .i64 0, .int .u64 0, .int .i64 0, .int .u64 0, .int .i64 0, .int .u64 0, .int .i64 0] 91) = wz at *
  have HHB := Lib.hid (Nat.le_refl w.heap.size)
  generalize hhb : w.heap.size = hb at *
  have HWB := Lib.hid hhb
  clear hhb
  go_loopw [5, 7] (fun v i wr => ∃ (k : Nat) (A : List (Int × Int)) (H : Nat → Int × Int), k ≤ l.length ∧ k ≤ 60 ∧ i = .int .i64 (k : Nat) ∧ Hid (A.length = k) ∧ Hid (wr.ownsRow wz.heap.size 55 2 v k (bcells A)) ∧ Hid (HRow wr hb H) ∧ Hid (Inv A H k) ∧ Hid (Gr w wr) ∧ Hid (wz.heap.size ≤ wr.heap.size)) (fun _ i _ => l.length - (intOf i).toNat)
  case atStart => exact ⟨0, [], fun _ => (0, 0), by omega, by omega, rfl, Lib.hid rfl, Lib.hid (World.ownsRow_nil _ _ _ _), HZ.out, inv_start, HG0.out, Lib.hid (Nat.le_refl _)⟩
  case round =>
    obtain ⟨k, A, H, hk, hk60, rfl, HA, HO, HR, HI, HG, HS⟩ := hrel
    by_cases hlt : k < l.length
    · by_cases h60 : k < 60
      · obtain ⟨-, -, hcl⟩ := HL.out.gr HG.out
        obtain ⟨bl, ol, rfl, hcc⟩ := hcl.resolve_left (by intro e; rw [e] at hlt; simp at hlt)
        have c0 := hcc k hlt
        clear hcl hcc
        generalize l[k] = x at *
        obtain ⟨n, hn, he⟩ := mod12 x
        have HE := Lib.hid he
        clear he
        obtain ⟨h0, h1, -, -⟩ := HR.out n (by omega)
        have hok := HI.out.1 n (by omega)
        obtain ⟨y, hy, hy1, hy2, hy3⟩ := next_is (c := (H n).1) (m := (H n).2) hok (by omega) n (by omega)
        have NX := Lib.hid (fun w => next_to hy (by have := hok.1; have := hok.2.1; omega) w)
        have HY3 := Lib.hid hy3
        have NEW := Lib.hid (fun z hz => new_is HI.out (x := y) (n := n) hy3 z hz)
        have HCH := Lib.hid (fun w => compareB_any y (n : Int) (H n).1 (H n).2 w)
        have hpos : 0 < cmpB y n (H n).1 (H n).2 := by rw [gt_iff]; omega
        have hoc := Lib.hid hok
        clear hok hy hy3
        generalize hcc : cmpB y n (H n).1 (H n).2 = cv at *
        clear hcc
        generalize hc1 : (H n).1 = hn1 at *
        generalize hc2 : (H n).2 = hn2 at *
        clear hc1 hc2
        have HOA := Lib.hid (show wr.ownsRow wz.heap.size 55 2 _ A.length (bcells A) by rw [HA.out]; exact HO.out)
        obtain ⟨aa, acap, rfl, hbr⟩ := brow_of HOA.out
        have HBR := Lib.hid hbr
        clear hbr
        go_wp2_with (simp only [HE.out])
        refine (NX.out _).mono ?_
        rintro e w1 ⟨rfl, hg1⟩
        have hz := hg1.trans ((Gr.refl w1).alloc (.cells #[.int .u64 y, .int .i64 (n : Nat)] 55))
        have HGb := Lib.hid hz
        have h0 := hz.cell h0
        have h1 := hz.cell h1
        have b0 : (w1.alloc (.cells #[.int .u64 y, .int .i64 (n : Nat)] 55)).cell? ⟨w1.heap.size, 0, none⟩ = some (.int .u64 y) := new_cell rfl rfl
        have b1 : (w1.alloc (.cells #[.int .u64 y, .int .i64 (n : Nat)] 55)).cell? ⟨w1.heap.size, 1, none⟩ = some (.int .i64 (n : Nat)) := new_cell rfl rfl
        have hbb : hb ≠ w1.heap.size := Nat.ne_of_lt (Nat.lt_of_lt_of_le hbz (Nat.le_trans HS.out hg1.size))
        have HGO := Lib.hid hg1.size
        have HWS := Lib.hid (show w.heap.size ≤ w1.heap.size from Nat.le_trans HG.out.size hg1.size)
        clear hg1 hz c0
        have hn12 : (n : Int) < 12 := by omega
        go_wp2
        generalize w1.alloc (.cells #[.int .u64 y, .int .i64 (n : Nat)] 55) = wb at *
        generalize w1.heap.size = bb at *
        have HS0 : (fun w9 => Gr wb w9 ∧ w9.cell? ⟨bb, 0, none⟩ = some (.int .u64 y) ∧ w9.cell? ⟨bb, 1, none⟩ = some (.int .i64 (n : Nat)) ∧ w9.cell? ⟨hb, n * 2, none⟩ = some (.int .u64 hn1) ∧ w9.cell? ⟨hb, n * 2 + 1, none⟩ = some (.int .i64 hn2)) wb := ⟨Gr.refl _, b0, b1, h0, h1⟩
        have HX : Hid (∀ w0 w9 : World, Gr w0 w9 → (fun w9 => Gr wb w9 ∧ w9.cell? ⟨bb, 0, none⟩ = some (.int .u64 y) ∧ w9.cell? ⟨bb, 1, none⟩ = some (.int .i64 (n : Nat)) ∧ w9.cell? ⟨hb, n * 2, none⟩ = some (.int .u64 hn1) ∧ w9.cell? ⟨hb, n * 2 + 1, none⟩ = some (.int .i64 hn2)) w0 → (fun w9 => Gr wb w9 ∧ w9.cell? ⟨bb, 0, none⟩ = some (.int .u64 y) ∧ w9.cell? ⟨bb, 1, none⟩ = some (.int .i64 (n : Nat)) ∧ w9.cell? ⟨hb, n * 2, none⟩ = some (.int .u64 hn1) ∧ w9.cell? ⟨hb, n * 2 + 1, none⟩ = some (.int .i64 hn2)) w9) := Lib.hid fun w0 w9 hg ⟨h, q0, q1, q2, q3⟩ => ⟨h.trans hg, hg.cell q0, hg.cell q1, hg.cell q2, hg.cell q3⟩
        clear h0 h1
        refine wp_region_held_drew (S := (fun w9 => Gr wb w9 ∧ w9.cell? ⟨bb, 0, none⟩ = some (.int .u64 y) ∧ w9.cell? ⟨bb, 1, none⟩ = some (.int .i64 (n : Nat)) ∧ w9.cell? ⟨hb, n * 2, none⟩ = some (.int .u64 hn1) ∧ w9.cell? ⟨hb, n * 2 + 1, none⟩ = some (.int .i64 hn2))) (by kernel_rfl) ?inva (fun h0 => ?_)
        case inva => ((try dsimp only); (first | exact HS0 | exact HX.out _ _ ((Gr.refl _).drew) HS0))
        refine wpAnyH_take (i := 0) (oi := { dst := some 39, op := Go.Op.move (Go.Operand.tmp 10), type := 44, pos := "top04.go:32", after := #[], guard := none }) (v := ?va1) rfl (by kernel_rfl) (by kernel_rfl) (by kernel_rfl) (fun _ _ _ h => h) (Or.inl ⟨by rfl, ?ra1⟩) (by assumption) ?_
        case ra1 => (intro w hSw; (try dsimp only at hSw); (go_simp <;> with_reducible rfl))
        try simp only [Act.put, List.setIfInBounds_toArray, List.set_cons_zero, List.set_cons_succ]
        refine wpAnyH_take (i := 1) (oi := { dst := some 40, op := Go.Op.binOp Go.BinOp.neq 44 (Go.Operand.tmp 39) (Go.Operand.const (Go.Value.int Go.IntKind.i64 0)) 44, type := 4, pos := "top04.go:32", after := #[{ on := 0, ground := Go.Ground.data }], guard := none }) (v := ?va2) rfl (by kernel_rfl) (by kernel_rfl) (by kernel_rfl) (fun _ _ _ h => h) (Or.inl ⟨by rfl, ?ra2⟩) (by assumption) ?_
        case ra2 => (intro w hSw; (try dsimp only at hSw); (go_simp <;> with_reducible rfl))
        try simp only [Act.put, List.setIfInBounds_toArray, List.set_cons_zero, List.set_cons_succ]
        refine wpAnyH_take (i := 2) (oi := { dst := some 41, op := Go.Op.move (Go.Operand.tmp 40), type := 4, pos := "top04.go:32", after := #[{ on := 1, ground := Go.Ground.data }], guard := none }) (v := ?va3) rfl (by kernel_rfl) (by kernel_rfl) (by kernel_rfl) (fun _ _ _ h => h) (Or.inl ⟨by rfl, ?ra3⟩) (by assumption) ?_
        case ra3 => (intro w hSw; (try dsimp only at hSw); (go_simp <;> with_reducible rfl))
        try simp only [Act.put, List.setIfInBounds_toArray, List.set_cons_zero, List.set_cons_succ]
        refine wpAnyH_take (i := 3) (oi := { dst := some 42, op := Go.Op.load 55 (Go.Operand.tmp 9), type := 55, pos := "top04.go:32", after := #[{ on := 2, ground := Go.Ground.guard }], guard := some (2, false) }) (v := ?va4) rfl (by kernel_rfl) (by kernel_rfl) (by kernel_rfl) (fun _ _ _ h => h) (Or.inl ⟨by rfl, ?ra4⟩) (by assumption) ?_
        case ra4 => (intro w hSw; (try dsimp only at hSw); (go_simp <;> with_reducible rfl))
        try simp only [Act.put, List.setIfInBounds_toArray, List.set_cons_zero, List.set_cons_succ]
        refine wpAnyH_take (i := 4) (oi := { dst := some 43, op := Go.Op.move (Go.Operand.tmp 8), type := 3, pos := "top04.go:32", after := #[{ on := 2, ground := Go.Ground.guard }], guard := some (2, false) }) (v := ?va5) rfl (by kernel_rfl) (by kernel_rfl) (by kernel_rfl) (fun _ _ _ h => h) (Or.inl ⟨by rfl, ?ra5⟩) (by assumption) ?_
        case ra5 => (intro w hSw; (try dsimp only at hSw); (go_simp <;> with_reducible rfl))
        try simp only [Act.put, List.setIfInBounds_toArray, List.set_cons_zero, List.set_cons_succ]
        refine wpAnyH_take (i := 5) (oi := { dst := some 44, op := Go.Op.indexAddr 91 (Go.Operand.tmp 6) (Go.Operand.tmp 43), type := 0, pos := "top04.go:32", after := #[{ on := 4, ground := Go.Ground.data }, { on := 2, ground := Go.Ground.guard }], guard := some (2, false) }) (v := ?va6) rfl (by kernel_rfl) (by kernel_rfl) (by kernel_rfl) (fun _ _ _ h => h) (Or.inl ⟨by rfl, ?ra6⟩) (by assumption) ?_
        case ra6 => (intro w hSw; (try dsimp only at hSw); (go_simp <;> with_reducible rfl))
        try simp only [Act.put, List.setIfInBounds_toArray, List.set_cons_zero, List.set_cons_succ]
        refine wpAnyH_take (i := 6) (oi := { dst := some 45, op := Go.Op.load 55 (Go.Operand.tmp 44), type := 55, pos := "top04.go:32", after := #[{ on := 5, ground := Go.Ground.data }, { on := 2, ground := Go.Ground.guard }], guard := some (2, false) }) (v := ?va7) rfl (by kernel_rfl) (by kernel_rfl) (by kernel_rfl) (fun _ _ _ h => h) (Or.inl ⟨by rfl, ?ra7⟩) (by assumption) ?_
        case ra7 => (intro w hSw; (try dsimp only at hSw); (go_simp <;> with_reducible rfl))
        try simp only [Act.put, List.setIfInBounds_toArray, List.set_cons_zero, List.set_cons_succ]
        refine wpAnyH_ready (rs := [7]) (by kernel_rfl) (by simp) ?_
        refine AllReadyH.cons (o := { dst := some 46, op := Go.Op.call { callee := Go.Callee.value (Go.Operand.func 46), args := #[Go.Operand.tmp 42, Go.Operand.tmp 45], argTypes := #[55, 55] }, type := 3, pos := "top04.go:32", after := #[{ on := 3, ground := Go.Ground.data }, { on := 6, ground := Go.Ground.data }, { on := 2, ground := Go.Ground.chain }, { on := 2, ground := Go.Ground.guard }], guard := some (2, false) }) rfl (fun K hK => ?_) AllReadyH.nil
        go_simp
        (go_at_call 46; refine (HCH.out _).mono ?_; rintro e w9 ⟨rfl, hgN⟩)
        first | refine hK.out _ _ ?sa8 (fun h8 => ?_) | (go_wp2_with fail; refine hK.out _ _ ?sa8 (fun h8 => ?_))
        case sa8 => ((try dsimp only); exact HX.out _ _ hgN h0)
        clear hK K h0
        try simp only [Act.put, List.setIfInBounds_toArray, List.set_cons_zero, List.set_cons_succ]
        refine wpAnyH_take (i := 8) (oi := { dst := some 47, op := Go.Op.binOp Go.BinOp.leq 3 (Go.Operand.tmp 46) (Go.Operand.const (Go.Value.int Go.IntKind.i64 0)) 3, type := 4, pos := "top04.go:32", after := #[{ on := 7, ground := Go.Ground.data }, { on := 2, ground := Go.Ground.guard }], guard := some (2, false) }) (v := (.bool false)) rfl (by kernel_rfl) (by kernel_rfl) (by kernel_rfl) (fun _ _ _ h => h) (Or.inl ⟨by rfl, ?ra9⟩) (by assumption) ?_
        case ra9 => (intro w hSw; (try dsimp only at hSw); go_simp; all_goals first | omega | (simp; omega))
        try simp only [Act.put, List.setIfInBounds_toArray, List.set_cons_zero, List.set_cons_succ]
        refine wpAnyH_take (i := 9) (oi := { dst := some 48, op := Go.Op.pick (Go.Operand.tmp 41) (Go.Operand.const (Go.Value.bool true)) (Go.Operand.tmp 47), type := 4, pos := "top04.go:32", after := #[{ on := 2, ground := Go.Ground.data }, { on := 8, ground := Go.Ground.data }], guard := none }) (v := ?va10) rfl (by kernel_rfl) (by kernel_rfl) (by kernel_rfl) (fun _ _ _ h => h) (Or.inl ⟨by rfl, ?ra10⟩) (by assumption) ?_
        case ra10 => (intro w hSw; (try dsimp only at hSw); (go_simp <;> with_reducible rfl))
        try simp only [Act.put, List.setIfInBounds_toArray, List.set_cons_zero, List.set_cons_succ]
        refine wpAnyH_done (by kernel_rfl) ?_ _
        have HE8 := Lib.hid (h8).1
        clear h8 HS0
        go_wp2
        have HB0 := Lib.hid (And.intro b0 b1)
        clear b0 b1 HX HCH NX
        have hAl : A.length ≤ 60 := by have := HA.out; omega
        obtain ⟨wo, rfl⟩ : ∃ wo : World, wo = wr := ⟨_, rfl⟩
        go_loopw [51] (fun j w2 => ∃ j2 : Nat, j2 ≤ A.length ∧ j = .int .i64 (j2 : Nat) ∧ Hid (Gr wb w2)) (fun j _ => A.length - (intOf j).toNat)
        case atStart => exact ⟨0, by omega, rfl, HE8.out⟩
        case round =>
          obtain ⟨j2, hj2, rfl, HG2⟩ := hrel
          by_cases hlt2 : j2 < A.length
          · obtain ⟨ab, ao, rfl, x0, x9⟩ := brow_at (HBR.out.gr (HGb.out.trans HG2.out)) j2 hlt2
            obtain ⟨ne1, ne2, ne3⟩ := NEW.out A[j2] (List.getElem_mem hlt2)
            have C1 := Lib.hid (fun w => compareB_any (A[j2]).1 (A[j2]).2 y (n : Int) w)
            have C2 := Lib.hid (fun w => compareB_any y (n : Int) (A[j2]).1 (A[j2]).2 w)
            have hb3 : -1 ≤ cmpB y n (A[j2]).1 (A[j2]).2 ∧ cmpB y n (A[j2]).1 (A[j2]).2 ≤ 1 := by rcases cmpB_ways y n (A[j2]).1 (A[j2]).2 with ⟨_, e⟩ | ⟨_, e⟩ | ⟨_, e⟩ <;> rw [e] <;> decide
            generalize cmpB (A[j2]).1 (A[j2]).2 y n = cv1 at *
            generalize cmpB y n (A[j2]).1 (A[j2]).2 = cv2 at *
            generalize (A[j2]).1 = x1 at *
            generalize (A[j2]).2 = x2 at *
            have hz := (Gr.refl wr).alloc (.cells #[.int .u64 x1, .int .i64 x2] 55)
            have u0 : (wr.alloc (.cells #[.int .u64 x1, .int .i64 x2] 55)).cell? ⟨wr.heap.size, 0, none⟩ = some (.int .u64 x1) := new_cell rfl rfl
            have u1 : (wr.alloc (.cells #[.int .u64 x1, .int .i64 x2] 55)).cell? ⟨wr.heap.size, 1, none⟩ = some (.int .i64 x2) := new_cell rfl rfl
            have v0 := (HG2.out.trans hz).cell HB0.out.1
            have v1 := (HG2.out.trans hz).cell HB0.out.2
            have HGc := Lib.hid (HG2.out.trans hz)
            clear hz
            go_wp2
            generalize wr.alloc (.cells #[.int .u64 x1, .int .i64 x2] 55) = wc at *
            generalize wr.heap.size = xb at *
            have HS0 : (fun w9 => Gr wc w9 ∧ w9.cell? ⟨xb, 0, none⟩ = some (.int .u64 x1) ∧ w9.cell? ⟨xb, 1, none⟩ = some (.int .i64 x2) ∧ w9.cell? ⟨bb, 0, none⟩ = some (.int .u64 y) ∧ w9.cell? ⟨bb, 1, none⟩ = some (.int .i64 (n : Nat))) wc := ⟨Gr.refl _, u0, u1, v0, v1⟩
            have HX : Hid (∀ w0 w9 : World, Gr w0 w9 → (fun w9 => Gr wc w9 ∧ w9.cell? ⟨xb, 0, none⟩ = some (.int .u64 x1) ∧ w9.cell? ⟨xb, 1, none⟩ = some (.int .i64 x2) ∧ w9.cell? ⟨bb, 0, none⟩ = some (.int .u64 y) ∧ w9.cell? ⟨bb, 1, none⟩ = some (.int .i64 (n : Nat))) w0 → (fun w9 => Gr wc w9 ∧ w9.cell? ⟨xb, 0, none⟩ = some (.int .u64 x1) ∧ w9.cell? ⟨xb, 1, none⟩ = some (.int .i64 x2) ∧ w9.cell? ⟨bb, 0, none⟩ = some (.int .u64 y) ∧ w9.cell? ⟨bb, 1, none⟩ = some (.int .i64 (n : Nat))) w9) := Lib.hid fun w0 w9 hg ⟨h, q0, q1, q2, q3⟩ => ⟨h.trans hg, hg.cell q0, hg.cell q1, hg.cell q2, hg.cell q3⟩
            clear u0 u1 v0 v1 x0 x9
            refine wp_region_held_drew (S := (fun w9 => Gr wc w9 ∧ w9.cell? ⟨xb, 0, none⟩ = some (.int .u64 x1) ∧ w9.cell? ⟨xb, 1, none⟩ = some (.int .i64 x2) ∧ w9.cell? ⟨bb, 0, none⟩ = some (.int .u64 y) ∧ w9.cell? ⟨bb, 1, none⟩ = some (.int .i64 (n : Nat)))) (by kernel_rfl) ?invb (fun h0 => ?_)
            case invb => ((try dsimp only); (first | exact HS0 | exact HX.out _ _ ((Gr.refl _).drew) HS0))
            refine wpAnyH_take (i := 0) (oi := { dst := some 55, op := Go.Op.load 55 (Go.Operand.tmp 12), type := 55, pos := "top04.go:36", after := #[], guard := none }) (v := ?vb1) rfl (by kernel_rfl) (by kernel_rfl) (by kernel_rfl) (fun _ _ _ h => h) (Or.inl ⟨by rfl, ?rb1⟩) (by assumption) ?_
            case rb1 => (intro w hSw; (try dsimp only at hSw); (go_simp <;> with_reducible rfl))
            try simp only [Act.put, List.setIfInBounds_toArray, List.set_cons_zero, List.set_cons_succ]
            refine wpAnyH_take (i := 1) (oi := { dst := some 56, op := Go.Op.load 55 (Go.Operand.tmp 9), type := 55, pos := "top04.go:36", after := #[], guard := none }) (v := ?vb2) rfl (by kernel_rfl) (by kernel_rfl) (by kernel_rfl) (fun _ _ _ h => h) (Or.inl ⟨by rfl, ?rb2⟩) (by assumption) ?_
            case rb2 => (intro w hSw; (try dsimp only at hSw); (go_simp <;> with_reducible rfl))
            try simp only [Act.put, List.setIfInBounds_toArray, List.set_cons_zero, List.set_cons_succ]
            refine wpAnyH_take (i := 2) (oi := { dst := some 57, op := Go.Op.binOp Go.BinOp.eql 55 (Go.Operand.tmp 55) (Go.Operand.tmp 56) 55, type := 4, pos := "top04.go:36", after := #[{ on := 0, ground := Go.Ground.data }, { on := 1, ground := Go.Ground.data }], guard := none }) (v := (.bool false)) rfl (by kernel_rfl) (by kernel_rfl) (by kernel_rfl) (fun _ _ _ h => h) (Or.inl ⟨by rfl, ?rb3⟩) (by assumption) ?_
            case rb3 => (intro w hSw; (try dsimp only at hSw); go_simp; all_goals first | omega | (simp; done) | (simp; omega) | (intro h; exact fun h2 => ne1 ⟨h, h2⟩) | (simp; intro h; exact fun h2 => ne1 ⟨h, h2⟩))
            try simp only [Act.put, List.setIfInBounds_toArray, List.set_cons_zero, List.set_cons_succ]
            refine wpAnyH_take (i := 3) (oi := { dst := some 58, op := Go.Op.move (Go.Operand.tmp 57), type := 4, pos := "top04.go:36", after := #[{ on := 2, ground := Go.Ground.data }], guard := none }) (v := ?vb4) rfl (by kernel_rfl) (by kernel_rfl) (by kernel_rfl) (fun _ _ _ h => h) (Or.inl ⟨by rfl, ?rb4⟩) (by assumption) ?_
            case rb4 => (intro w hSw; (try dsimp only at hSw); (go_simp <;> with_reducible rfl))
            try simp only [Act.put, List.setIfInBounds_toArray, List.set_cons_zero, List.set_cons_succ]
            refine wpAnyH_take (i := 4) (oi := { dst := some 59, op := Go.Op.load 55 (Go.Operand.tmp 12), type := 55, pos := "top04.go:36", after := #[{ on := 3, ground := Go.Ground.guard }], guard := some (3, false) }) (v := ?vb5) rfl (by kernel_rfl) (by kernel_rfl) (by kernel_rfl) (fun _ _ _ h => h) (Or.inl ⟨by rfl, ?rb5⟩) (by assumption) ?_
            case rb5 => (intro w hSw; (try dsimp only at hSw); (go_simp <;> with_reducible rfl))
            try simp only [Act.put, List.setIfInBounds_toArray, List.set_cons_zero, List.set_cons_succ]
            refine wpAnyH_take (i := 5) (oi := { dst := some 60, op := Go.Op.load 55 (Go.Operand.tmp 9), type := 55, pos := "top04.go:36", after := #[{ on := 3, ground := Go.Ground.guard }], guard := some (3, false) }) (v := ?vb6) rfl (by kernel_rfl) (by kernel_rfl) (by kernel_rfl) (fun _ _ _ h => h) (Or.inl ⟨by rfl, ?rb6⟩) (by assumption) ?_
            case rb6 => (intro w hSw; (try dsimp only at hSw); (go_simp <;> with_reducible rfl))
            try simp only [Act.put, List.setIfInBounds_toArray, List.set_cons_zero, List.set_cons_succ]
            refine wpAnyH_ready (rs := [6]) (by kernel_rfl) (by simp) ?_
            refine AllReadyH.cons (o := { dst := some 61, op := Go.Op.call { callee := Go.Callee.value (Go.Operand.func 46), args := #[Go.Operand.tmp 59, Go.Operand.tmp 60], argTypes := #[55, 55] }, type := 3, pos := "top04.go:36", after := #[{ on := 4, ground := Go.Ground.data }, { on := 5, ground := Go.Ground.data }, { on := 3, ground := Go.Ground.chain }, { on := 3, ground := Go.Ground.guard }], guard := some (3, false) }) rfl (fun K hK => ?_) AllReadyH.nil
            go_simp
            (go_at_call 46; refine (C1.out _).mono ?_; rintro e w9 ⟨rfl, hgN⟩)
            first | refine hK.out _ _ ?sb7 (fun h7 => ?_) | (go_wp2_with fail; refine hK.out _ _ ?sb7 (fun h7 => ?_))
            case sb7 => ((try dsimp only); exact HX.out _ _ hgN h0)
            clear hK K h0
            try simp only [Act.put, List.setIfInBounds_toArray, List.set_cons_zero, List.set_cons_succ]
            refine wpAnyH_take (i := 7) (oi := { dst := some 62, op := Go.Op.binOp Go.BinOp.eql 3 (Go.Operand.tmp 61) (Go.Operand.const (Go.Value.int Go.IntKind.i64 0)) 3, type := 4, pos := "top04.go:36", after := #[{ on := 6, ground := Go.Ground.data }, { on := 3, ground := Go.Ground.guard }], guard := some (3, false) }) (v := (.bool false)) rfl (by kernel_rfl) (by kernel_rfl) (by kernel_rfl) (fun _ _ _ h => h) (Or.inl ⟨by rfl, ?rb8⟩) (by assumption) ?_
            case rb8 => (intro w hSw; (try dsimp only at hSw); go_simp; all_goals first | omega | (simp; done) | (simp; omega) | (intro h; exact fun h2 => ne1 ⟨h, h2⟩) | (simp; intro h; exact fun h2 => ne1 ⟨h, h2⟩))
            try simp only [Act.put, List.setIfInBounds_toArray, List.set_cons_zero, List.set_cons_succ]
            refine wpAnyH_take (i := 8) (oi := { dst := some 63, op := Go.Op.pick (Go.Operand.tmp 58) (Go.Operand.const (Go.Value.bool true)) (Go.Operand.tmp 62), type := 4, pos := "top04.go:36", after := #[{ on := 3, ground := Go.Ground.data }, { on := 7, ground := Go.Ground.data }], guard := none }) (v := ?vb9) rfl (by kernel_rfl) (by kernel_rfl) (by kernel_rfl) (fun _ _ _ h => h) (Or.inl ⟨by rfl, ?rb9⟩) (by assumption) ?_
            case rb9 => (intro w hSw; (try dsimp only at hSw); (go_simp <;> with_reducible rfl))
            try simp only [Act.put, List.setIfInBounds_toArray, List.set_cons_zero, List.set_cons_succ]
            refine wpAnyH_take (i := 9) (oi := { dst := some 64, op := Go.Op.move (Go.Operand.tmp 63), type := 4, pos := "top04.go:36", after := #[{ on := 8, ground := Go.Ground.data }, { on := 6, ground := Go.Ground.chain }], guard := none }) (v := ?vb10) rfl (by kernel_rfl) (by kernel_rfl) (by kernel_rfl) (fun _ _ _ h => h) (Or.inl ⟨by rfl, ?rb10⟩) (by assumption) ?_
            case rb10 => (intro w hSw; (try dsimp only at hSw); (go_simp <;> with_reducible rfl))
            try simp only [Act.put, List.setIfInBounds_toArray, List.set_cons_zero, List.set_cons_succ]
            refine wpAnyH_take (i := 10) (oi := { dst := some 65, op := Go.Op.load 55 (Go.Operand.tmp 12), type := 55, pos := "top04.go:36", after := #[{ on := 9, ground := Go.Ground.guard }], guard := some (9, false) }) (v := ?vb11) rfl (by kernel_rfl) (by kernel_rfl) (by kernel_rfl) (fun _ _ _ h => h) (Or.inl ⟨by rfl, ?rb11⟩) (by assumption) ?_
            case rb11 => (intro w hSw; (try dsimp only at hSw); (go_simp <;> with_reducible rfl))
            try simp only [Act.put, List.setIfInBounds_toArray, List.set_cons_zero, List.set_cons_succ]
            refine wpAnyH_take (i := 11) (oi := { dst := some 66, op := Go.Op.load 55 (Go.Operand.tmp 9), type := 55, pos := "top04.go:36", after := #[{ on := 9, ground := Go.Ground.guard }], guard := some (9, false) }) (v := ?vb12) rfl (by kernel_rfl) (by kernel_rfl) (by kernel_rfl) (fun _ _ _ h => h) (Or.inl ⟨by rfl, ?rb12⟩) (by assumption) ?_
            case rb12 => (intro w hSw; (try dsimp only at hSw); (go_simp <;> with_reducible rfl))
            try simp only [Act.put, List.setIfInBounds_toArray, List.set_cons_zero, List.set_cons_succ]
            refine wpAnyH_take (i := 13) (oi := { dst := some 68, op := Go.Op.load 55 (Go.Operand.tmp 9), type := 55, pos := "top04.go:36", after := #[{ on := 9, ground := Go.Ground.guard }], guard := some (9, false) }) (v := ?vb13) rfl (by kernel_rfl) (by kernel_rfl) (by kernel_rfl) (fun _ _ _ h => h) (Or.inl ⟨by rfl, ?rb13⟩) (by assumption) ?_
            case rb13 => (intro w hSw; (try dsimp only at hSw); (go_simp <;> with_reducible rfl))
            try simp only [Act.put, List.setIfInBounds_toArray, List.set_cons_zero, List.set_cons_succ]
            refine wpAnyH_take (i := 14) (oi := { dst := some 69, op := Go.Op.load 55 (Go.Operand.tmp 12), type := 55, pos := "top04.go:36", after := #[{ on := 9, ground := Go.Ground.guard }], guard := some (9, false) }) (v := ?vb14) rfl (by kernel_rfl) (by kernel_rfl) (by kernel_rfl) (fun _ _ _ h => h) (Or.inl ⟨by rfl, ?rb14⟩) (by assumption) ?_
            case rb14 => (intro w hSw; (try dsimp only at hSw); (go_simp <;> with_reducible rfl))
            try simp only [Act.put, List.setIfInBounds_toArray, List.set_cons_zero, List.set_cons_succ]
            refine wpAnyH_ready (rs := [12]) (by kernel_rfl) (by simp) ?_
            refine AllReadyH.cons (o := { dst := some 67, op := Go.Op.call { callee := Go.Callee.value (Go.Operand.func 46), args := #[Go.Operand.tmp 65, Go.Operand.tmp 66], argTypes := #[55, 55] }, type := 3, pos := "top04.go:36", after := #[{ on := 10, ground := Go.Ground.data }, { on := 11, ground := Go.Ground.data }, { on := 9, ground := Go.Ground.chain }, { on := 9, ground := Go.Ground.guard }], guard := some (9, false) }) rfl (fun K hK => ?_) AllReadyH.nil
            go_simp
            (go_at_call 46; refine (C1.out _).mono ?_; rintro e w9 ⟨rfl, hgN⟩)
            first | refine hK.out _ _ ?sb15 (fun h15 => ?_) | (go_wp2_with fail; refine hK.out _ _ ?sb15 (fun h15 => ?_))
            case sb15 => ((try dsimp only); exact HX.out _ _ hgN h7)
            clear hK K h7
            try simp only [Act.put, List.setIfInBounds_toArray, List.set_cons_zero, List.set_cons_succ]
            refine wpAnyH_ready (rs := [15]) (by kernel_rfl) (by simp) ?_
            refine AllReadyH.cons (o := { dst := some 70, op := Go.Op.call { callee := Go.Callee.value (Go.Operand.func 46), args := #[Go.Operand.tmp 68, Go.Operand.tmp 69], argTypes := #[55, 55] }, type := 3, pos := "top04.go:36", after := #[{ on := 13, ground := Go.Ground.data }, { on := 14, ground := Go.Ground.data }, { on := 12, ground := Go.Ground.chain }, { on := 9, ground := Go.Ground.guard }], guard := some (9, false) }) rfl (fun K hK => ?_) AllReadyH.nil
            go_simp
            (go_at_call 46; refine (C2.out _).mono ?_; rintro e w9 ⟨rfl, hgN⟩)
            first | refine hK.out _ _ ?sb16 (fun h16 => ?_) | (go_wp2_with fail; refine hK.out _ _ ?sb16 (fun h16 => ?_))
            case sb16 => ((try dsimp only); exact HX.out _ _ hgN h15)
            clear hK K h15
            try simp only [Act.put, List.setIfInBounds_toArray, List.set_cons_zero, List.set_cons_succ]
            refine wpAnyH_take (i := 16) (oi := { dst := some 71, op := Go.Op.unOp Go.UnOp.neg 3 (Go.Operand.tmp 70), type := 3, pos := "top04.go:36", after := #[{ on := 15, ground := Go.Ground.data }, { on := 9, ground := Go.Ground.guard }], guard := some (9, false) }) (v := (.int .i64 cv1)) rfl (by kernel_rfl) (by kernel_rfl) (by kernel_rfl) (fun _ _ _ h => h) (Or.inl ⟨by rfl, ?rb17⟩) (by assumption) ?_
            case rb17 => (intro w hSw; (try dsimp only at hSw); go_simp; all_goals first | omega | (unfold wrap64; omega) | (simp; omega) | exact IntWalk.i64_in _ (by omega) | exact IntWalk.i64_in _ ⟨by omega, by omega⟩)
            try simp only [Act.put, List.setIfInBounds_toArray, List.set_cons_zero, List.set_cons_succ]
            refine wpAnyH_take (i := 17) (oi := { dst := some 72, op := Go.Op.binOp Go.BinOp.neq 3 (Go.Operand.tmp 67) (Go.Operand.tmp 71) 3, type := 4, pos := "top04.go:36", after := #[{ on := 12, ground := Go.Ground.data }, { on := 16, ground := Go.Ground.data }, { on := 9, ground := Go.Ground.guard }], guard := some (9, false) }) (v := (.bool false)) rfl (by kernel_rfl) (by kernel_rfl) (by kernel_rfl) (fun _ _ _ h => h) (Or.inl ⟨by rfl, ?rb18⟩) (by assumption) ?_
            case rb18 => (intro w hSw; (try dsimp only at hSw); go_simp; all_goals first | (simp; done) | omega)
            try simp only [Act.put, List.setIfInBounds_toArray, List.set_cons_zero, List.set_cons_succ]
            refine wpAnyH_take (i := 18) (oi := { dst := some 73, op := Go.Op.pick (Go.Operand.tmp 64) (Go.Operand.const (Go.Value.bool true)) (Go.Operand.tmp 72), type := 4, pos := "top04.go:36", after := #[{ on := 9, ground := Go.Ground.data }, { on := 17, ground := Go.Ground.data }], guard := none }) (v := ?vb19) rfl (by kernel_rfl) (by kernel_rfl) (by kernel_rfl) (fun _ _ _ h => h) (Or.inl ⟨by rfl, ?rb19⟩) (by assumption) ?_
            case rb19 => (intro w hSw; (try dsimp only at hSw); (go_simp <;> with_reducible rfl))
            try simp only [Act.put, List.setIfInBounds_toArray, List.set_cons_zero, List.set_cons_succ]
            refine wpAnyH_done (by kernel_rfl) ?_ _
            have HE9 := Lib.hid (h16).1
            clear h16 HS0
            go_wp2
            go_roundw
            case rel => exact ⟨j2 + 1, by omega, by go_num, Lib.hid (HGc.out.trans HE9.out)⟩
            case measure => simp [intOf]; omega
          · obtain rfl : j2 = A.length := by omega
            have hz2g := HGb.out.trans HG2.out
            have HOw := Lib.hid (ownsRow_gr hz2g HOA.out)
            have HRw := Lib.hid (HR.out.gr hz2g)
            have HGw := Lib.hid (HG.out.trans hz2g)
            have hbw : bb < wr.heap.size := cell_lt (HG2.out.cell HB0.out.1)
            have hgA : ∀ g, (Value.slice aa A.length acap).ownBlock = some g → g ≠ bb ∧ g ≠ hb := fun g hg => own_ne HOA.out hg HGO.out hbz
            have b0 := HG2.out.cell HB0.out.1
            have b1 := HG2.out.cell HB0.out.2
            have HSw := Lib.hid (show wz.heap.size ≤ wr.heap.size from Nat.le_trans HS.out hz2g.size)
            clear hz2g
            go_wp2_with (at_builtin; refine wpList_append_own _ rfl (.tmp 75) (.tmp 77) 90 rfl wz.heap.size 55 i0 (.agg #[.int .u64 0, .int .i64 0]) 2 16 Try.underlying90 hi hz0 hz1 hz2 rfl (by decide) _ _ _ rfl (HOw.out.alloc _) ⟨wr.heap.size, 0, none⟩ 1 1 [.int .u64 y, .int .i64 (n : Nat)] rfl rfl ?c1 ?c2 ?c3 ?c4 ?c5 ?_)
            case c1 => exact cells_two _ _ _ _ _ rfl
            case c2 => intro u hu; simp at hu; rcases hu with rfl | rfl <;> rfl
            case c3 => unfold maxLen; omega
            case c4 => omega
            case c5 => have := HSw.out; simp; omega
            · intro v2 w3 hown3 hgrow _
              have HN3 := Lib.hid hown3
              have HG3 := Lib.hid ((HGw.out.alloc _).append (own_mono (HOw.out.alloc _) (by have := HG0.out.size; omega)) hgrow)
              have hkeep : ∀ d o x, (∀ g, (Value.slice aa A.length acap).ownBlock = some g → g ≠ d) → wr.cell? ⟨d, o, none⟩ = some x → w3.cell? ⟨d, o, none⟩ = some x := fun d o x hd hx => grown_cell hgrow hd (((Gr.refl wr).alloc _).cell hx)
              have hfree : ∀ d o x, (∀ g, (Value.slice aa A.length acap).ownBlock = some g → g ≠ d) → wr.cell? ⟨d, o, none⟩ = some x → w3.frozen? ⟨d, o, none⟩ = wr.frozen? ⟨d, o, none⟩ := fun d o x hd hx => grown_free hgrow hd hx
              have HR3 : Hid (HRow w3 hb H) := Lib.hid fun j hj => (by obtain ⟨p0, p1, f0, f1⟩ := HRw.out j hj; exact ⟨hkeep _ _ _ (fun g hg => (hgA g hg).2) p0, hkeep _ _ _ (fun g hg => (hgA g hg).2) p1, (hfree _ _ _ (fun g hg => (hgA g hg).2) p0).trans f0, (hfree _ _ _ (fun g hg => (hgA g hg).2) p1).trans f1⟩)
              replace b0 := hkeep _ _ _ (fun g hg => (hgA g hg).1) b0
              replace b1 := hkeep _ _ _ (fun g hg => (hgA g hg).1) b1
              have HB3 := Lib.hid (And.intro b0 b1)
              have HS3 := Lib.hid (show wz.heap.size ≤ w3.heap.size from Nat.le_trans HSw.out (Nat.le_trans (by simp) hgrow.size))
              clear b0 b1 hkeep hfree hgrow hown3
              clear hgA
              have HM0 := Lib.hid (mid_start HI.out n y)
              have HOKY := Lib.hid (show Ok (k + 1) (y, (n : Int)) by unfold Ok; simp only; omega)
              have HI0 := HI
              go_wp2
              go_loopw [79] (fun j wq => ∃ (k3 : Nat) (G : Nat → Int × Int), k3 ≤ 12 ∧ j = .int .i64 (k3 : Nat) ∧ Hid (HRow wq hb G) ∧ Hid (Mid H k n y k3 G) ∧ Hid (wq.ownsRow wz.heap.size 55 2 v2 (A.length + 1) (bcells A ++ [.int .u64 y, .int .i64 (n : Nat)])) ∧ Hid (wq.cell? ⟨bb, 0, none⟩ = some (.int .u64 y) ∧ wq.cell? ⟨bb, 1, none⟩ = some (.int .i64 (n : Nat))) ∧ Hid (Gr w wq) ∧ Hid (wz.heap.size ≤ wq.heap.size)) (fun j _ => 12 - (intOf j).toNat)
              case atStart => exact ⟨0, H, by omega, rfl, HR3, HM0, HN3, HB3, HG3, HS3⟩
              case round =>
                obtain ⟨k3, G, hk3, rfl, HRq, HM, HNq, HBq, HGq, HSq⟩ := hrel
                obtain ⟨wq, rfl⟩ : ∃ wq : World, wq = wr := ⟨_, rfl⟩
                by_cases hlt3 : k3 < 12
                · obtain ⟨p0, p1, f0, f1⟩ := HRq.out k3 hlt3
                  obtain ⟨q0, q1⟩ := HBq.out
                  obtain ⟨g1, g2, hG⟩ : ∃ g1 g2, G k3 = (g1, g2) := ⟨_, _, rfl⟩
                  rw [hG] at p0 p1
                  have HGE := Lib.hid hG
                  clear hG
                  simp only at p0 p1
                  have MX := Lib.hid (fun a cap w h => max_any [(g1, g2), (y, (n : Int))] a cap w (by show 2 ≤ 1000; decide) h)
                  obtain ⟨mm, hmm⟩ : ∃ mm, maxB [(g1, g2), (y, (n : Int))] = mm := ⟨_, rfl⟩
                  have HMM := Lib.hid hmm
                  rw [hmm] at MX
                  clear hmm
                  by_cases hkn : k3 = n
                  · have e1 : ((k3 : Int) == (n : Int)) = true := by simp [hkn]
                    clear hkn
                    go_wp2_with fail
                    go_region_with (go_at_call 47; go_loud (refine (MX.out _ 2 _ (by first | exact (bnew wq g1 g2 y n _).gr ((Gr.refl _).drew) | exact bnew wq.drew g1 g2 y n _)).mono ?_; rintro e w9 ⟨rfl, hg9⟩; have hz : Gr wq w9 := (by first | exact (((Gr.refl wq).alloc _).drew).trans hg9 | exact (((Gr.refl wq).drew).alloc _).trans hg9); have HR9 := Lib.hid (HRq.out.gr hz); have HN9 := Lib.hid (ownsRow_gr hz HNq.out); have HG9 := Lib.hid (HGq.out.trans hz); have HB9 := Lib.hid (And.intro (hz.cell HBq.out.1) (hz.cell HBq.out.2)); have HS9 := Lib.hid (Nat.le_trans HSq.out hz.size); obtain ⟨r0, r1, s0, s1⟩ := HR9.out k3 hlt3; clear hz hg9 p0 p1 f0 f1 q0 q1))
                    go_wp2
                    all_goals
                      go_roundw
                      case rel =>
                        refine ⟨k3 + 1, Bal.put G k3 mm, by omega, by go_num, Lib.hid (HRow.put HR9.out hlt3), Lib.hid ?_, Lib.hid (ownsRow_setCell_below (ownsRow_setCell_below HN9.out (by exact hbz) _) (by exact hbz) _), Lib.hid ⟨?_, ?_⟩, Lib.hid ((HG9.out.setCell (by rw [HWB.out]; exact Nat.le_refl _) _).setCell (by rw [HWB.out]; exact Nat.le_refl _) _), Lib.hid (by simpa using HS9.out)⟩
                        · have h7 := mid_put HM.out hlt3 (x := y) HOKY.out; rw [HGE.out, HMM.out] at h7; exact h7
                        · rw [World.cell?_setCell_other _ _ _ _ (by first | (simp; done) | (simp; omega)), World.cell?_setCell_other _ _ _ _ (by first | (simp; done) | (simp; omega))]; exact HB9.out.1
                        · rw [World.cell?_setCell_other _ _ _ _ (by first | (simp; done) | (simp; omega)), World.cell?_setCell_other _ _ _ _ (by first | (simp; done) | (simp; omega))]; exact HB9.out.2
                      case measure => simp [intOf]; omega
                  · have e1 : ((k3 : Int) == (n : Int)) = false := by simp; omega
                    by_cases hDk : D.length ≤ k
                    · skip
                      go_wp2_with fail
                      go_region_with (go_at_call 47; go_loud (refine (MX.out _ 2 _ (by first | exact (bnew wq g1 g2 y n _).gr ((Gr.refl _).drew) | exact bnew wq.drew g1 g2 y n _)).mono ?_; rintro e w9 ⟨rfl, hg9⟩; have hz : Gr wq w9 := (by first | exact (((Gr.refl wq).alloc _).drew).trans hg9 | exact (((Gr.refl wq).drew).alloc _).trans hg9); have HR9 := Lib.hid (HRq.out.gr hz); have HN9 := Lib.hid (ownsRow_gr hz HNq.out); have HG9 := Lib.hid (HGq.out.trans hz); have HB9 := Lib.hid (And.intro (hz.cell HBq.out.1) (hz.cell HBq.out.2)); have HS9 := Lib.hid (Nat.le_trans HSq.out hz.size); obtain ⟨r0, r1, s0, s1⟩ := HR9.out k3 hlt3; clear hz hg9 p0 p1 f0 f1 q0 q1))
                      go_wp2
                      all_goals
                        go_roundw
                        case rel =>
                          refine ⟨k3 + 1, Bal.put G k3 mm, by omega, by go_num, Lib.hid (HRow.put HR9.out hlt3), Lib.hid ?_, Lib.hid (ownsRow_setCell_below (ownsRow_setCell_below HN9.out (by exact hbz) _) (by exact hbz) _), Lib.hid ⟨?_, ?_⟩, Lib.hid ((HG9.out.setCell (by rw [HWB.out]; exact Nat.le_refl _) _).setCell (by rw [HWB.out]; exact Nat.le_refl _) _), Lib.hid (by simpa using HS9.out)⟩
                          · have h7 := mid_put HM.out hlt3 (x := y) HOKY.out; rw [HGE.out, HMM.out] at h7; exact h7
                          · rw [World.cell?_setCell_other _ _ _ _ (by first | (simp; done) | (simp; omega)), World.cell?_setCell_other _ _ _ _ (by first | (simp; done) | (simp; omega))]; exact HB9.out.1
                          · rw [World.cell?_setCell_other _ _ _ _ (by first | (simp; done) | (simp; omega)), World.cell?_setCell_other _ _ _ _ (by first | (simp; done) | (simp; omega))]; exact HB9.out.2
                        case measure => simp [intOf]; omega
                    · obtain ⟨-, hcl⟩ := HDf.out.gr HGq.out
                      obtain ⟨bd, od, rfl, hcc⟩ := hcl.resolve_left (by intro e; rw [e] at hDk; simp at hDk)
                      have d0 := hcc k (by omega)
                      clear hcl hcc
                      generalize D[k] = bv at *
                      cases bv
                      · skip
                        go_wp2_with fail
                        go_region_with (go_at_call 47; go_loud (refine (MX.out _ 2 _ (by first | exact (bnew wq g1 g2 y n _).gr ((Gr.refl _).drew) | exact bnew wq.drew g1 g2 y n _)).mono ?_; rintro e w9 ⟨rfl, hg9⟩; have hz : Gr wq w9 := (by first | exact (((Gr.refl wq).alloc _).drew).trans hg9 | exact (((Gr.refl wq).drew).alloc _).trans hg9); have HR9 := Lib.hid (HRq.out.gr hz); have HN9 := Lib.hid (ownsRow_gr hz HNq.out); have HG9 := Lib.hid (HGq.out.trans hz); have HB9 := Lib.hid (And.intro (hz.cell HBq.out.1) (hz.cell HBq.out.2)); have HS9 := Lib.hid (Nat.le_trans HSq.out hz.size); obtain ⟨r0, r1, s0, s1⟩ := HR9.out k3 hlt3; clear hz hg9 p0 p1 f0 f1 q0 q1))
                        go_wp2
                        all_goals
                          go_roundw
                          case rel =>
                            refine ⟨k3 + 1, Bal.put G k3 mm, by omega, by go_num, Lib.hid (HRow.put HR9.out hlt3), Lib.hid ?_, Lib.hid (ownsRow_setCell_below (ownsRow_setCell_below HN9.out (by exact hbz) _) (by exact hbz) _), Lib.hid ⟨?_, ?_⟩, Lib.hid ((HG9.out.setCell (by rw [HWB.out]; exact Nat.le_refl _) _).setCell (by rw [HWB.out]; exact Nat.le_refl _) _), Lib.hid (by simpa using HS9.out)⟩
                            · have h7 := mid_put HM.out hlt3 (x := y) HOKY.out; rw [HGE.out, HMM.out] at h7; exact h7
                            · rw [World.cell?_setCell_other _ _ _ _ (by first | (simp; done) | (simp; omega)), World.cell?_setCell_other _ _ _ _ (by first | (simp; done) | (simp; omega))]; exact HB9.out.1
                            · rw [World.cell?_setCell_other _ _ _ _ (by first | (simp; done) | (simp; omega)), World.cell?_setCell_other _ _ _ _ (by first | (simp; done) | (simp; omega))]; exact HB9.out.2
                          case measure => simp [intOf]; omega
                      · go_wp2
                        go_roundw
                        case rel => exact ⟨k3 + 1, G, by omega, by go_num, HRq, Lib.hid (mid_keep HM.out hkn), HNq, HBq, HGq, HSq⟩
                        case measure => simp [intOf]; omega
                · obtain rfl : k3 = 12 := by omega
                  go_wp2
                  go_roundw
                  case rel => exact ⟨k + 1, A ++ [(y, (n : Int))], G, by omega, by omega, by go_num, Lib.hid (by rw [List.length_append, HA.out]; rfl), Lib.hid (by have h7 := HNq.out; rw [HA.out] at h7; rw [bcells_snoc]; exact h7), HRq, Lib.hid (mid_end HI0.out (by omega) ⟨hy1, hy2⟩ HM.out), HGq, HSq⟩
                  case measure => simp [intOf]; omega
      · go_wp2
        go_ret
        exact ⟨rfl, HG.out⟩
    · go_wp2
      go_ret
      exact ⟨rfl, HG.out⟩
end Go.Proofs.Ytegapeplbincnaa
