import Derived.Test.YtihhfdkcggnjpaaK4
import Derived.Test.YtihhfdkcggnjpaaC12
import Derived.WalkKit
import Derived.ProofKit
import Derived.LoopTactic
import Derived.Outline
import Derived.WalkSpells
import Derived.WalkLawsBesides
import Derived.Lib.Hide
import Derived.Deep.LoopGhost
import Derived.Deep.QuietTactic
import Derived.BigQuiet
import Derived.ShutString
import Derived.IntWalk
import Derived.Deep.RegionWith
namespace Go.Proofs.Ytihhfdkcggnjpaa
open Go.ChangeShapes Go.WideShapes Go.ChangeAt Go.RowKit
set_option linter.unusedVariables false
set_option linter.unusedSimpArgs false
def fnvS (h : Int) (b : UInt8) : Int := IntKind.u64.wrap (bits .xor .u64 h (b.toNat : Int) * 1099511628211)
def fnvL (l : List UInt8) : Int := l.foldl fnvS 14695981039346656037
theorem fnvS_bd (h : Int) (b : UInt8) : 0 ≤ fnvS h b ∧ fnvS h b < 18446744073709551616 := by
  unfold fnvS
  rw [IntKind.wrap_u64]
  omega
theorem fnvL_snoc (l : List UInt8) (b : UInt8) : fnvL (l ++ [b]) = fnvS (fnvL l) b := by unfold fnvL; rw [List.foldl_append]; rfl
theorem fnvL_bd (l : List UInt8) : 0 ≤ fnvL l ∧ fnvL l < 18446744073709551616 := by
  by_cases h : l = []
  · subst h; decide
  · rw [← List.dropLast_concat_getLast h, fnvL_snoc]; exact fnvS_bd _ _
/-- A byte of a number, counted from the least one. -/
def byt (H : Int) (i : Nat) : Int := H / 256 ^ i % 256
theorem byt_bd (H : Int) (i : Nat) : 0 ≤ byt H i ∧ byt H i < 256 := by unfold byt; omega
def b8d (n : Int) : UInt8 := UInt8.ofNat n.toNat
theorem b8d_toNat {n : Int} (h0 : 0 ≤ n) (h1 : n < 256) : ((b8d n).toNat : Int) = n := by
  unfold b8d; simp; omega
/-- The last k of n bytes of a number. -/
def digD (H : Int) : Nat → ByteArray
  | 0 => ⟨#[]⟩
  | k + 1 => ⟨#[b8d (byt H k)]⟩ ++ digD H k
theorem digD_size (H : Int) : ∀ k, (digD H k).size = k
  | 0 => rfl
  | k + 1 => by rw [digD, ByteArray.size_append, digD_size H k]; show 1 + k = k + 1; omega
/-- What lies in the block behind k rounds. -/
def dAt (H : Int) (k j : Nat) : Value := if 8 ≤ j + k then .int .u8 (byt H (7 - j)) else .int .u8 0
def dCells (H : Int) (k : Nat) : Array Value := #[dAt H k 0, dAt H k 1, dAt H k 2, dAt H k 3, dAt H k 4, dAt H k 5, dAt H k 6, dAt H k 7]
theorem conv1d (k : Int) (h0 : 0 ≤ k ∧ k < 256) (W : World) (b : Nat) (hc : W.cell? ⟨b, 0, none⟩ = some (.int .u8 k)) :
    (convert 109 9 (.slice (some ⟨b, 0, none⟩) 1 1)).run Try.prog W = .ok (.string ⟨#[b8d k]⟩) W :=
  run_convert_bytes_back (P := Try.prog) W 109 9 5 ⟨b, 0, none⟩ 1 [b8d k] Try.underlying109 Try.underlying5 Try.underlying9 (by
    intro j hj
    have hj' : j < 1 := hj
    match j, hj' with
    | 0, _ => simpa [Addr.add, b8d_toNat h0.1 h0.2] using hc)
theorem conv8d (H : Int) (W : World) (b : Nat) (hb : Blk W b (dCells H 8) 263) :
    (convert 109 9 (.slice (some ⟨b, 0, none⟩) 8 8)).run Try.prog W = .ok (.string (digD H 8)) W := by
  have hc : ∀ j, j < 8 → W.cell? ⟨b, j, none⟩ = some (.int .u8 (byt H (7 - j))) := fun j hj => hb.cell (by
    match j, hj with
    | 0, _ => rfl
    | 1, _ => rfl
    | 2, _ => rfl
    | 3, _ => rfl
    | 4, _ => rfl
    | 5, _ => rfl
    | 6, _ => rfl
    | 7, _ => rfl)
  have := run_convert_bytes_back (P := Try.prog) W 109 9 5 ⟨b, 0, none⟩ 8 [b8d (byt H 7), b8d (byt H 6), b8d (byt H 5), b8d (byt H 4), b8d (byt H 3), b8d (byt H 2), b8d (byt H 1), b8d (byt H 0)] Try.underlying109 Try.underlying5 Try.underlying9 (by
    intro j hj
    have hj' : j < 8 := hj
    have h1 := hc j hj'
    match j, hj' with
    | 0, _ => simpa [Addr.add, b8d_toNat (byt_bd H 7).1 (byt_bd H 7).2] using h1
    | 1, _ => simpa [Addr.add, b8d_toNat (byt_bd H 6).1 (byt_bd H 6).2] using h1
    | 2, _ => simpa [Addr.add, b8d_toNat (byt_bd H 5).1 (byt_bd H 5).2] using h1
    | 3, _ => simpa [Addr.add, b8d_toNat (byt_bd H 4).1 (byt_bd H 4).2] using h1
    | 4, _ => simpa [Addr.add, b8d_toNat (byt_bd H 3).1 (byt_bd H 3).2] using h1
    | 5, _ => simpa [Addr.add, b8d_toNat (byt_bd H 2).1 (byt_bd H 2).2] using h1
    | 6, _ => simpa [Addr.add, b8d_toNat (byt_bd H 1).1 (byt_bd H 1).2] using h1
    | 7, _ => simpa [Addr.add, b8d_toNat (byt_bd H 0).1 (byt_bd H 0).2] using h1)
  exact this
set_option maxRecDepth 100000 in
set_option maxHeartbeats 400000 in
theorem digest_any (s : ByteArray) (w : World) (hs : s.size ≤ 1000000) :
    Calls Try.prog 215 #[.string s] w fun e w' => e = .returned (.string (digD (fnvL (bytesOf s)) 8)) ∧ Gr w w' := by
  have H0 : Hid (fnvL ((bytesOf s).take 0) = 14695981039346656037) := Lib.hid rfl
  go_enter Try.func215, Try.ntmps215
  go_wp2
  go_loopw [3, 9] (fun h i wr => ∃ k : Nat, k ≤ s.size ∧ i = .int .i64 (k : Nat) ∧ h = .int .u64 (fnvL ((bytesOf s).take k)) ∧ Gr w wr) (fun _ i _ => s.size - (intOf i).toNat)
  case atStart => exact ⟨0, by omega, rfl, by rw [H0.out], Gr.refl _⟩
  case round =>
    obtain ⟨k, hk, rfl, rfl, hg⟩ := hrel
    by_cases hlt : k < s.size
    · have hb := s[k].toNat_lt
      have HN := Lib.hid (show fnvL ((bytesOf s).take (k + 1)) = fnvS (fnvL ((bytesOf s).take k)) s[k] by rw [take_snoc s k hlt, fnvL_snoc])
      have hB := fnvL_bd ((bytesOf s).take k)
      generalize fnvL ((bytesOf s).take k) = H at *
      have hk4 : (k : Int) < (s.size : Int) := by omega
      go_wp2
      go_roundw
      case rel => exact ⟨k + 1, by omega, by go_num, by rw [HN.out]; rfl, hg⟩
      case measure => simp [intOf]; omega
    · obtain rfl : k = s.size := by omega
      rw [take_size]
      have hB := fnvL_bd (bytesOf s)
      generalize hH : fnvL (bytesOf s) = H at *
      have HH := Lib.hid hH
      clear hH
      have hk5 : ¬ (s.size : Int) < (s.size : Int) := by omega
      go_wp2
      have HB0 : Hid (Blk (wr.alloc (.cells #[.int .u8 0, .int .u8 0, .int .u8 0, .int .u8 0, .int .u8 0, .int .u8 0, .int .u8 0, .int .u8 0] 263)) wr.heap.size (dCells H 0) 263) := Lib.hid (Blk.new wr _ _)
      have hg1 := hg.alloc (.cells #[.int .u8 0, .int .u8 0, .int .u8 0, .int .u8 0, .int .u8 0, .int .u8 0, .int .u8 0, .int .u8 0] 263)
      have hlo : w.heap.size ≤ wr.heap.size := hg.size
      generalize wr.alloc (.cells #[.int .u8 0, .int .u8 0, .int .u8 0, .int .u8 0, .int .u8 0, .int .u8 0, .int .u8 0, .int .u8 0] 263) = wa at *
      generalize wr.heap.size = p5 at *
      clear hg
      go_loopw [20] (fun i wr => ∃ k : Nat, k ≤ 8 ∧ i = .int .i64 (k : Nat) ∧ Hid (Blk wr p5 (dCells H k) 263) ∧ Gr w wr) (fun i _ => 8 - (intOf i).toNat)
      case atStart => exact ⟨0, by omega, rfl, HB0, hg1⟩
      case round =>
        clear HB0 hg1
        obtain ⟨k, hk8, rfl, HB, hg⟩ := hrel
        by_cases hlt8 : k < 8
        · obtain rfl | rfl | rfl | rfl | rfl | rfl | rfl | rfl : k = 0 ∨ k = 1 ∨ k = 2 ∨ k = 3 ∨ k = 4 ∨ k = 5 ∨ k = 6 ∨ k = 7 := by omega
          · have o : wr.cell? ⟨p5, 7, none⟩ = some (.int .u8 0) := HB.out.cell (i := 7) rfl
            have f := HB.out.free 7
            have HS := Lib.hid (HB.out.set 7 (.int .u8 (byt H 0)))
            have hg2 := hg.setCell (p := ⟨p5, 7, none⟩) hlo (.int .u8 (byt H 0))
            have hv : byt H 0 = H % 256 := by unfold byt; rw [show (256 : Int) ^ 0 = 1 by decide]; omega
            go_wp2
            go_roundw
            case rel => exact ⟨1, by omega, by go_num, by rw [← hv]; exact HS, by rw [← hv]; exact hg2⟩
            case measure => simp [intOf]
          · have o : wr.cell? ⟨p5, 6, none⟩ = some (.int .u8 0) := HB.out.cell (i := 6) rfl
            have f := HB.out.free 6
            have HS := Lib.hid (HB.out.set 6 (.int .u8 (byt H 1)))
            have hg2 := hg.setCell (p := ⟨p5, 6, none⟩) hlo (.int .u8 (byt H 1))
            have hv : byt H 1 = H / 256 % 256 := by unfold byt; rw [show (256 : Int) ^ 1 = 256 by decide]
            go_wp2
            go_roundw
            case rel => exact ⟨2, by omega, by go_num, HS, hg2⟩
            case measure => simp [intOf]
          · have o : wr.cell? ⟨p5, 5, none⟩ = some (.int .u8 0) := HB.out.cell (i := 5) rfl
            have f := HB.out.free 5
            have HS := Lib.hid (HB.out.set 5 (.int .u8 (byt H 2)))
            have hg2 := hg.setCell (p := ⟨p5, 5, none⟩) hlo (.int .u8 (byt H 2))
            have hv : byt H 2 = H / 65536 % 256 := by unfold byt; rw [show (256 : Int) ^ 2 = 65536 by decide]
            go_wp2
            go_roundw
            case rel => exact ⟨3, by omega, by go_num, HS, hg2⟩
            case measure => simp [intOf]
          · have o : wr.cell? ⟨p5, 4, none⟩ = some (.int .u8 0) := HB.out.cell (i := 4) rfl
            have f := HB.out.free 4
            have HS := Lib.hid (HB.out.set 4 (.int .u8 (byt H 3)))
            have hg2 := hg.setCell (p := ⟨p5, 4, none⟩) hlo (.int .u8 (byt H 3))
            have hv : byt H 3 = H / 16777216 % 256 := by unfold byt; rw [show (256 : Int) ^ 3 = 16777216 by decide]
            go_wp2
            go_roundw
            case rel => exact ⟨4, by omega, by go_num, HS, hg2⟩
            case measure => simp [intOf]
          · have o : wr.cell? ⟨p5, 3, none⟩ = some (.int .u8 0) := HB.out.cell (i := 3) rfl
            have f := HB.out.free 3
            have HS := Lib.hid (HB.out.set 3 (.int .u8 (byt H 4)))
            have hg2 := hg.setCell (p := ⟨p5, 3, none⟩) hlo (.int .u8 (byt H 4))
            have hv : byt H 4 = H / 4294967296 % 256 := by unfold byt; rw [show (256 : Int) ^ 4 = 4294967296 by decide]
            go_wp2
            go_roundw
            case rel => exact ⟨5, by omega, by go_num, HS, hg2⟩
            case measure => simp [intOf]
          · have o : wr.cell? ⟨p5, 2, none⟩ = some (.int .u8 0) := HB.out.cell (i := 2) rfl
            have f := HB.out.free 2
            have HS := Lib.hid (HB.out.set 2 (.int .u8 (byt H 5)))
            have hg2 := hg.setCell (p := ⟨p5, 2, none⟩) hlo (.int .u8 (byt H 5))
            have hv : byt H 5 = H / 1099511627776 % 256 := by unfold byt; rw [show (256 : Int) ^ 5 = 1099511627776 by decide]
            go_wp2
            go_roundw
            case rel => exact ⟨6, by omega, by go_num, HS, hg2⟩
            case measure => simp [intOf]
          · have o : wr.cell? ⟨p5, 1, none⟩ = some (.int .u8 0) := HB.out.cell (i := 1) rfl
            have f := HB.out.free 1
            have HS := Lib.hid (HB.out.set 1 (.int .u8 (byt H 6)))
            have hg2 := hg.setCell (p := ⟨p5, 1, none⟩) hlo (.int .u8 (byt H 6))
            have hv : byt H 6 = H / 281474976710656 % 256 := by unfold byt; rw [show (256 : Int) ^ 6 = 281474976710656 by decide]
            go_wp2
            go_roundw
            case rel => exact ⟨7, by omega, by go_num, HS, hg2⟩
            case measure => simp [intOf]
          · have o : wr.cell? ⟨p5, 0, none⟩ = some (.int .u8 0) := HB.out.cell (i := 0) rfl
            have f := HB.out.free 0
            have HS := Lib.hid (HB.out.set 0 (.int .u8 (byt H 7)))
            have hg2 := hg.setCell (p := ⟨p5, 0, none⟩) hlo (.int .u8 (byt H 7))
            have hv : byt H 7 = H / 72057594037927936 := by unfold byt; rw [show (256 : Int) ^ 7 = 72057594037927936 by decide]; omega
            go_wp2
            go_roundw
            case rel => exact ⟨8, by omega, by go_num, by rw [← hv]; exact HS, by rw [← hv]; exact hg2⟩
            case measure => simp [intOf]
        · obtain rfl : k = 8 := by omega
          have C := conv8d H wr p5 HB.out
          go_wp2
          go_ret
          exact ⟨by rw [HH.out]; rfl, hg⟩
set_option maxRecDepth 100000 in
set_option maxHeartbeats 400000 in
theorem refDigest_any (s : ByteArray) (w : World) (hs : s.size ≤ 1000000) :
    Calls Try.prog 187 #[.string s] w fun e w' => e = .returned (.string (digD (fnvL (bytesOf s)) 8)) ∧ Gr w w' := by
  have H0 : Hid (fnvL ((bytesOf s).take 0) = 14695981039346656037) := Lib.hid rfl
  go_enter Try.func187, Try.ntmps187
  go_wp2
  go_loopw [3, 4] (fun h i wr => ∃ k : Nat, k ≤ s.size ∧ i = .int .i64 (k : Nat) ∧ h = .int .u64 (fnvL ((bytesOf s).take k)) ∧ Gr w wr) (fun _ i _ => s.size - (intOf i).toNat)
  case atStart => exact ⟨0, by omega, rfl, by rw [H0.out], Gr.refl _⟩
  case round =>
    obtain ⟨k, hk, rfl, rfl, hg⟩ := hrel
    by_cases hlt : k < s.size
    · have hb := s[k].toNat_lt
      have HN := Lib.hid (show fnvL ((bytesOf s).take (k + 1)) = fnvS (fnvL ((bytesOf s).take k)) s[k] by rw [take_snoc s k hlt, fnvL_snoc])
      have hB := fnvL_bd ((bytesOf s).take k)
      generalize fnvL ((bytesOf s).take k) = H at *
      have hk4 : (k : Int) < (s.size : Int) := by omega
      go_wp2
      go_roundw
      case rel => exact ⟨k + 1, by omega, by go_num, by rw [HN.out]; rfl, hg⟩
      case measure => simp [intOf]; omega
    · obtain rfl : k = s.size := by omega
      rw [take_size]
      have hB := fnvL_bd (bytesOf s)
      generalize hH : fnvL (bytesOf s) = H at *
      have HH := Lib.hid hH
      clear hH
      have hk5 : ¬ (s.size : Int) < (s.size : Int) := by omega
      go_wp2
      go_loopw [3, 5, 6] (fun x t i wr => ∃ k : Nat, k ≤ 8 ∧ i = .int .i64 (k : Nat) ∧ x = .int .u64 (H / 256 ^ k) ∧ t = .string (digD H k) ∧ Gr w wr) (fun _ _ i _ => 8 - (intOf i).toNat)
      case atStart => exact ⟨0, by omega, rfl, by simp, rfl, hg⟩
      case round =>
        clear hg
        obtain ⟨k, hk8, rfl, rfl, rfl, hg⟩ := hrel
        by_cases hlt8 : k < 8
        · have hk6 : (k : Int) < 8 := by omega
          have HP : Hid (H / 256 ^ (k + 1) = H / 256 ^ k / 256) := Lib.hid (by rw [Int.pow_succ, Int.ediv_ediv_of_nonneg (Int.pow_nonneg (by decide))])
          have HD : Hid (digD H (k + 1) = ⟨#[b8d (H / 256 ^ k % 256)]⟩ ++ digD H k) := Lib.hid rfl
          have hz : (digD H k).size ≤ 8 := by rw [digD_size]; omega
          have hx : 0 ≤ H / 256 ^ k ∧ H / 256 ^ k < 18446744073709551616 := ⟨Int.ediv_nonneg hB.1 (Int.pow_nonneg (by decide)), by
            have := Int.ediv_le_self (256 ^ k) hB.1
            omega⟩
          generalize H / 256 ^ k = X at *
          generalize digD H k = d at *
          have C := conv1d (X % 256) (by omega) (wr.alloc (.cells #[.int .u8 (X % 256)] 5)) wr.heap.size (new_cell rfl rfl)
          go_wp2
          go_roundw
          case rel => exact ⟨k + 1, by omega, by go_num, by rw [HP.out], by rw [HD.out], hg.alloc _⟩
          case measure => simp [intOf]; omega
        · obtain rfl : k = 8 := by omega
          go_wp2
          go_ret
          exact ⟨by rw [HH.out]; rfl, hg⟩
end Go.Proofs.Ytihhfdkcggnjpaa
