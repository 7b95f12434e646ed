import Derived.Test.YtjllnojhhlkpoaaF11u
import Derived.Test.YtjllnojhhlkpoaaC25
import Derived.WalkKit
import Derived.ProofKit
import Derived.LoopTactic
import Derived.Outline
import Derived.WalkSpells
import Derived.WalkLawsBesides
import Derived.Lib.Hide
import Derived.Deep.LoopGhost
import Derived.Deep.QuietTactic
import Derived.BigQuiet
import Derived.ShutString
import Derived.IntWalk
import Derived.Lib.MinMax
import Derived.Deep.RegionWith
import Derived.Deep.RegionHeld3
namespace Go.Proofs.Ytjllnojhhlkpoaa
open Go.ChangeShapes Go.WideShapes Go.ChangeAt Go.RowKit
open Dk
set_option linter.unusedVariables false
set_option linter.unusedSimpArgs false
theorem RkAt.sole {w w' : World} {g off p : Nat} {fs : Nat → F} (h : RkAt w g off fs) (hs : Sole p w w') (hg : g ≠ p) : RkAt w' g off fs := fun k hk => ⟨hs.cell hg (h k hk).1, hs.cell hg (h k hk).2.1, hs.cell hg (h k hk).2.2⟩
/-- The row of a disk's files is no block of three cells. -/
theorem RkAt.ne {w : World} {g off b : Nat} {fs : Nat → F} {x y z : Value} {t : TypeId} (h : RkAt w g off fs) (hb : Blk w b #[x, y, z] t) : g ≠ b := by
  refine hb.ne (h 3 (by decide)).1 ?_
  rw [Array.getElem?_eq_none (by simp)]
  simp
theorem store3_sole (w : World) (b : Nat) (x y z : Value) : Sole b w (((w.setCell ⟨b, 0, none⟩ x).setCell ⟨b, 1, none⟩ y).setCell ⟨b, 2, none⟩ z) := ((Sole.setCell _ _ _ _).trans (Sole.setCell _ _ _ _)).trans (Sole.setCell _ _ _ _)
/-- A result that is stored. -/
theorem stored {w5 : World} {b g off cap : Nat} {d : D} {x y z : Value} {t : TypeId} {R fv : Int} (h : Blk w5 b #[x, y, z] t) (ha : RkAt w5 g off d.fs) :
    Blk (((w5.setCell ⟨b, 0, none⟩ (.slice (some ⟨g, off, none⟩) 4 cap)).setCell ⟨b, 1, none⟩ (.int .i64 R)).setCell ⟨b, 2, none⟩ (.int .i64 fv)) b #[.slice (some ⟨g, off, none⟩) 4 cap, .int .i64 R, .int .i64 fv] t ∧
    RkAt (((w5.setCell ⟨b, 0, none⟩ (.slice (some ⟨g, off, none⟩) 4 cap)).setCell ⟨b, 1, none⟩ (.int .i64 R)).setCell ⟨b, 2, none⟩ (.int .i64 fv)) g off d.fs :=
  ⟨h.store3 _ _ _, ha.sole (store3_sole _ _ _ _ _) (ha.ne h)⟩
theorem rk_cells {w : World} {gb off k : Nat} {fs : Nat → F} (h : RkAt w gb off fs) (hk : k < 4) : w.cell? ⟨gb, off + k * 3, none⟩ = some (.string (fs k).now) ∧ w.cell? ⟨gb, off + k * 3 + 1, none⟩ = some (.string (fs k).sure) ∧ w.cell? ⟨gb, off + k * 3 + 2, none⟩ = some (.bool (fs k).put) := h k hk
set_option maxRecDepth 100000 in
set_option maxHeartbeats 2000000 in
theorem refDo_sync {d : D} (k : Nat) (hk : k < 4) (s : ByteArray) (v : Value) (w : World) (h : RkIs w v d) (ho : d.Ok) (h1 : d.fail ≠ 1) :
    Calls Try.prog 19 #[v, .int .i64 2, .int .i64 (k : Nat), .string s] w (RDo d (k : Nat) gKeep v w) := by
  obtain ⟨gb, off, cap, rfl, ha⟩ := h
  have HE := Lib.hid (act_yes (d := d) gKeep hk h1 (full_keep (tick_ok ho) k _ (gKeep_size _)))
  obtain ⟨c0, c1, c2⟩ := rk_cells ha hk
  have HW0 := fun (v : Value) (w : World) (h : RkIs w v (tick d)) => refWith_any k hk (gKeep (d.fs k)) (tick d) v w h
  have hfb := ho.fail
  have HA := Lib.hid ha
  clear ha
  have hk4 : (k : Int) < 4 := by omega
  obtain ⟨fv, hf⟩ : ∃ fv : Int, (d.fail : Int) - 1 = fv := ⟨_, rfl⟩
  rw [hf]
  have HT := Lib.hid (show (((tick d).fail : Nat) : Int) - 1 = if 0 < fv then fv - 1 else fv by show ((d.fail - 1 : Nat) : Int) - 1 = _; split <;> omega)
  have hf0 : fv ≠ 0 := by omega
  have hfu : fv ≤ 1073741824 := by omega
  have hfl : -1 ≤ fv := by omega
  generalize hr : (d.room : Int) = R at *
  have HR := Lib.hid hr
  generalize hn : (d.fs k).now = n at *
  generalize hs : (d.fs k).sure = u at *
  generalize hp : (d.fs k).put = p at *
  rw [show (gKeep (d.fs k)).now = n from hn, show (gKeep (d.fs k)).sure = n from hn, show (gKeep (d.fs k)).put = false from rfl] at HW0
  have HW := Lib.hid HW0
  have HTR := Lib.hid (show ((tick d).room : Int) = R from hr)
  clear HW0
  clear hr hf hn hs hp h1 ho hfb
  by_cases hpos : 0 < fv
  · have hw1 : IntKind.i64.wrap (fv - 1) = fv - 1 := IntWalk.i64_in _ (by omega)
    rw [if_pos hpos] at HT
    have G0 := (Gr.refl w).alloc (.cells #[.slice (some ⟨gb, off, none⟩) 4 cap, .int .i64 R, .int .i64 (fv - 1)] 28)
    have G := G0.alloc (.cells #[.slice none 0 0, .int .i64 0, .int .i64 0] 28)
    have p0 := G.cell c0
    have p1 := G.cell c1
    have p2 := G.cell c2
    have B8 := Blk.new (w.alloc (.cells #[.slice (some ⟨gb, off, none⟩) 4 cap, .int .i64 R, .int .i64 (fv - 1)] 28)) #[.slice none 0 0, .int .i64 0, .int .i64 0] 28
    have hsz : (w.alloc (.cells #[.slice (some ⟨gb, off, none⟩) 4 cap, .int .i64 R, .int .i64 (fv - 1)] 28)).heap.size = w.heap.size + 1 := by simp
    rw [hsz] at B8
    have HB8 := Lib.hid (B8.gr ((Gr.refl _).alloc (.cells #[.string n, .string u, .bool p] 106)))
    have HG := Lib.hid (G.alloc (.cells #[.string n, .string u, .bool p] 106))
    have HRK : Hid (∀ W, Gr w W → RkIs W (.agg #[.slice (some ⟨gb, off, none⟩) 4 cap, .int .i64 R, .int .i64 (fv - 1)]) (tick d)) := Lib.hid fun W hW => ⟨gb, off, cap, by rw [HT.out, HTR.out]; try rfl, HA.out.gr hW⟩
    clear G G0 c0 c1 c2 B8 hsz
    go_enter Try.func19, Try.ntmps19
    go_wp2_with fail
    refine (HW.out _ _ (HRK.out _ HG.out)).mono ?_
    rintro e w5 ⟨v5, rfl, hr5, hg5, hn5⟩
    obtain ⟨g5, off5, cap5, rfl, ha5⟩ := hr5
    have HG5 := Lib.hid (HG.out.trans hg5)
    have HN5 : Hid (w.heap.size ≤ g5) := Lib.hid (Nat.le_trans HG.out.size hn5)
    clear hn5
    have HB5 := Lib.hid (HB8.out.gr hg5)
    have HA5 := Lib.hid ha5
    have b0 := HB5.out.cell (i := 0) rfl
    have b1 := HB5.out.cell (i := 1) rfl
    have b2 := HB5.out.cell (i := 2) rfl
    have f0 := HB5.out.free 0
    have f1 := HB5.out.free 1
    have f2 := HB5.out.free 2
    generalize hR5 : ((putF (tick d) k (gKeep (d.fs k))).room : Int) = R5 at *
    generalize hF5 : ((putF (tick d) k (gKeep (d.fs k))).fail : Int) - 1 = F5 at *
    have HR5 := Lib.hid hR5
    have HF5 := Lib.hid hF5
    have HST := Lib.hid (stored (R := R5) (fv := F5) (cap := cap5) HB5.out HA5.out)
    have HG6 := Lib.hid (HG5.out.store3 (b := w.heap.size + 1) (by omega) (.slice (some ⟨g5, off5, none⟩) 4 cap5) (.int .i64 R5) (.int .i64 F5))
    clear hR5 hF5 ha5 hg5 p0 p1 p2
    go_wp2
    have r0 := HST.out.1.cell (i := 0) rfl
    have r1 := HST.out.1.cell (i := 1) rfl
    have r2 := HST.out.1.cell (i := 2) rfl
    refine bodyPost_ret (v := .tuple #[.agg #[.slice (some ⟨g5, off5, none⟩) 4 cap5, .int .i64 R5, .int .i64 F5], .int .i64 0]) (by simp [results, Try.results19, go_sem, r0, r1, r2]; try rfl) rfl ?_
    exact ⟨_, by rw [HE.out]; rfl, by rw [HE.out]; exact ⟨g5, off5, cap5, by rw [HR5.out, HF5.out], HST.out.2⟩, HG6.out, .inr (by exact HN5.out)⟩
  · obtain rfl : fv = -1 := by omega
    rw [if_neg (by decide)] at HT
    have G0 := (Gr.refl w).alloc (.cells #[.slice (some ⟨gb, off, none⟩) 4 cap, .int .i64 R, .int .i64 (-1)] 28)
    have G := G0.alloc (.cells #[.slice none 0 0, .int .i64 0, .int .i64 0] 28)
    have p0 := G.cell c0
    have p1 := G.cell c1
    have p2 := G.cell c2
    have B8 := Blk.new (w.alloc (.cells #[.slice (some ⟨gb, off, none⟩) 4 cap, .int .i64 R, .int .i64 (-1)] 28)) #[.slice none 0 0, .int .i64 0, .int .i64 0] 28
    have hsz : (w.alloc (.cells #[.slice (some ⟨gb, off, none⟩) 4 cap, .int .i64 R, .int .i64 (-1)] 28)).heap.size = w.heap.size + 1 := by simp
    rw [hsz] at B8
    have HB8 := Lib.hid (B8.gr ((Gr.refl _).alloc (.cells #[.string n, .string u, .bool p] 106)))
    have HG := Lib.hid (G.alloc (.cells #[.string n, .string u, .bool p] 106))
    have HRK : Hid (∀ W, Gr w W → RkIs W (.agg #[.slice (some ⟨gb, off, none⟩) 4 cap, .int .i64 R, .int .i64 (-1)]) (tick d)) := Lib.hid fun W hW => ⟨gb, off, cap, by rw [HT.out, HTR.out]; try rfl, HA.out.gr hW⟩
    clear G G0 c0 c1 c2 B8 hsz
    go_enter Try.func19, Try.ntmps19
    go_wp2_with fail
    refine (HW.out _ _ (HRK.out _ HG.out)).mono ?_
    rintro e w5 ⟨v5, rfl, hr5, hg5, hn5⟩
    obtain ⟨g5, off5, cap5, rfl, ha5⟩ := hr5
    have HG5 := Lib.hid (HG.out.trans hg5)
    have HN5 : Hid (w.heap.size ≤ g5) := Lib.hid (Nat.le_trans HG.out.size hn5)
    clear hn5
    have HB5 := Lib.hid (HB8.out.gr hg5)
    have HA5 := Lib.hid ha5
    have b0 := HB5.out.cell (i := 0) rfl
    have b1 := HB5.out.cell (i := 1) rfl
    have b2 := HB5.out.cell (i := 2) rfl
    have f0 := HB5.out.free 0
    have f1 := HB5.out.free 1
    have f2 := HB5.out.free 2
    generalize hR5 : ((putF (tick d) k (gKeep (d.fs k))).room : Int) = R5 at *
    generalize hF5 : ((putF (tick d) k (gKeep (d.fs k))).fail : Int) - 1 = F5 at *
    have HR5 := Lib.hid hR5
    have HF5 := Lib.hid hF5
    have HST := Lib.hid (stored (R := R5) (fv := F5) (cap := cap5) HB5.out HA5.out)
    have HG6 := Lib.hid (HG5.out.store3 (b := w.heap.size + 1) (by omega) (.slice (some ⟨g5, off5, none⟩) 4 cap5) (.int .i64 R5) (.int .i64 F5))
    clear hR5 hF5 ha5 hg5 p0 p1 p2
    go_wp2
    have r0 := HST.out.1.cell (i := 0) rfl
    have r1 := HST.out.1.cell (i := 1) rfl
    have r2 := HST.out.1.cell (i := 2) rfl
    refine bodyPost_ret (v := .tuple #[.agg #[.slice (some ⟨g5, off5, none⟩) 4 cap5, .int .i64 R5, .int .i64 F5], .int .i64 0]) (by simp [results, Try.results19, go_sem, r0, r1, r2]; try rfl) rfl ?_
    exact ⟨_, by rw [HE.out]; rfl, by rw [HE.out]; exact ⟨g5, off5, cap5, by rw [HR5.out, HF5.out], HST.out.2⟩, HG6.out, .inr (by exact HN5.out)⟩
end Go.Proofs.Ytjllnojhhlkpoaa
