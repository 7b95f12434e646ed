import Derived.Test.YtjllnojhhlkpoaaF11g
import Derived.WalkKit
import Derived.ProofKit
import Derived.LoopTactic
import Derived.Outline
import Derived.WalkSpells
import Derived.WalkLawsBesides
import Derived.Lib.Hide
import Derived.Deep.LoopGhost
import Derived.Deep.QuietTactic
import Derived.BigQuiet
import Derived.ShutString
import Derived.IntWalk
import Derived.Lib.MinMax
import Derived.Deep.RegionWith
import Derived.Deep.RegionHeld3
namespace Go.Proofs.Ytjllnojhhlkpoaa
open Go.ChangeShapes Go.WideShapes Go.ChangeAt Go.RowKit
open Dk
set_option linter.unusedVariables false
set_option linter.unusedSimpArgs false
/-- The four files of the reference's disk, from a cell on. -/
def RkAt (w : World) (g off : Nat) (fs : Nat → F) : Prop := ∀ k, k < 4 → w.cell? ⟨g, off + k * 3, none⟩ = some (.string (fs k).now) ∧ w.cell? ⟨g, off + k * 3 + 1, none⟩ = some (.string (fs k).sure) ∧ w.cell? ⟨g, off + k * 3 + 2, none⟩ = some (.bool (fs k).put)
theorem RkAt.gr {w w' : World} {g off : Nat} {fs : Nat → F} (h : RkAt w g off fs) (hg : Gr w w') : RkAt w' g off fs := fun k hk => ⟨hg.cell (h k hk).1, hg.cell (h k hk).2.1, hg.cell (h k hk).2.2⟩
def usedTo (fs : Nat → F) : Nat → Nat
  | 0 => 0
  | k + 1 => usedTo fs k + (fs k).size
theorem usedTo_four (fs : Nat → F) : usedTo fs 4 = used fs := by simp [usedTo, used]
set_option maxRecDepth 100000 in
set_option maxHeartbeats 1000000 in
theorem refUsed_any (g off cap : Nat) (fs : Nat → F) (room fail : Int) (w : World) (h : RkAt w g off fs) (hB : ∀ k, k < 4 → (fs k).now.size ≤ 2199023255552 ∧ (fs k).sure.size ≤ 2199023255552) :
    Calls Try.prog 62 #[.agg #[.slice (some ⟨g, off, none⟩) 4 cap, .int .i64 room, .int .i64 fail]] w fun e w' => e = .returned (.int .i64 (used fs : Nat)) ∧ Gr w w' := by
  have hU : ∀ k, k ≤ 4 → usedTo fs k ≤ k * 2199023255552 := by
    intro k hk
    induction k with
    | zero => exact Nat.le_refl _
    | succ k ih => have h1 := ih (by omega); have h2 := hB k (by omega); rw [usedTo]; unfold F.size; omega
  rw [← usedTo_four]
  have H := Lib.hid h
  clear h
  go_enter Try.func62, Try.ntmps62
  go_wp2
  go_loopw [3, 9] (fun n i wr => ∃ k : Nat, k ≤ 4 ∧ n = .int .i64 (usedTo fs k : Nat) ∧ i = .int .i64 (k : Nat) ∧ Hid (Gr w wr)) (fun n i _ => 4 - (intOf i).toNat)
  case atStart => exact ⟨0, by omega, rfl, rfl, Lib.hid ((Gr.refl _).alloc _)⟩
  case round =>
    obtain ⟨k, hk, rfl, rfl, HG⟩ := hrel
    by_cases hlt : k < 4
    · obtain ⟨c0, c1, c2⟩ := (H.out.gr HG.out) k hlt
      have hb := hB k hlt
      have hu := hU k hk
      have hs : usedTo fs (k + 1) = usedTo fs k + max (fs k).now.size (fs k).sure.size := rfl
      have HS := Lib.hid hs
      clear hs hU hB
      generalize usedTo fs k = u at *
      generalize (fs k).now = a at *
      generalize (fs k).sure = b at *
      generalize (fs k).put = p at *
      by_cases hc : b.size < a.size
      · have h1 : (b.size : Int) < a.size := by omega
        go_wp2
        go_roundw
        case rel => exact ⟨k + 1, by omega, by rw [HS.out]; go_num, by go_num, Lib.hid (HG.out.alloc _)⟩
        case measure => simp [intOf]; omega
      · have h1 : ¬ (b.size : Int) < a.size := by omega
        go_wp2
        go_roundw
        case rel => exact ⟨k + 1, by omega, by rw [HS.out]; go_num, by go_num, Lib.hid (HG.out.alloc _)⟩
        case measure => simp [intOf]; omega
    · obtain rfl : k = 4 := by omega
      go_wp2
      go_ret
      exact ⟨rfl, HG.out⟩
end Go.Proofs.Ytjllnojhhlkpoaa
