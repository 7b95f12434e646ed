import Derived.Test.YtmgpnpmdmelnkaaGreatDoorF22i
import Derived.WalkKit
import Derived.ProofKit
import Derived.LoopTactic
import Derived.Outline
import Derived.WalkSpells
import Derived.WalkLawsBesides
import Derived.Lib.Hide
import Derived.Deep.LoopGhost
import Derived.Deep.QuietTactic
import Derived.BigQuiet
import Derived.ShutString
import Derived.IntWalk
import Derived.Lib.MinMax
import Derived.Deep.RegionWith
import Derived.Deep.RegionHeld3
namespace Go.Proofs.YtmgpnpmdmelnkaaGreatDoor
open Go.ChangeShapes Go.WideShapes Go.ChangeAt Go.RowKit
set_option linter.unusedVariables false
set_option linter.unusedSimpArgs false
variable {w0 w : World} {b : Nat} {v1 v2 : Value} {B : Bk}
def cntS (s : Int) (L : List Lok) : Nat := L.countP fun x => x.ses == s
theorem cntS_snoc (s : Int) (L : List Lok) (j : Nat) (h : j < L.length) : cntS s (L.take (j + 1)) = cntS s (L.take j) + (if L[j].ses = s then 1 else 0) := by
  unfold cntS
  rw [List.take_succ_eq_append_getElem h, List.countP_append]
  congr 1
  by_cases e : L[j].ses = s <;> simp [e]
theorem cntS_le (s : Int) (L : List Lok) : cntS s L ≤ L.length := List.countP_le_length
set_option maxRecDepth 100000 in
set_option maxHeartbeats 2000000 in
theorem bcount_any (s : Int) (w : World) (h : BkIs w0 w b v1 v2 B) (hl : B.H.length + B.W.length ≤ 500) :
    Calls Tryz.prog 43 #[.pointer (some ⟨b, 0, none⟩), .int .i64 s] w fun e w' => e = .returned (.int .i64 ((cntS s B.H + cntS s B.W : Nat) : Int)) ∧ Gr w w' := by
  have H := Lib.hid h
  obtain ⟨a1, k1, rfl, _⟩ := ownsRow_slice h.r1
  obtain ⟨a2, k2, rfl, _⟩ := ownsRow_slice h.r2
  have c0 := h.blk.cell (i := 0) rfl
  have c1 := h.blk.cell (i := 1) rfl
  have HS1 := Lib.hid (fun j (hj : j < B.H.length) => cntS_snoc s B.H j hj)
  have HS2 := Lib.hid (fun j (hj : j < B.W.length) => cntS_snoc s B.W j hj)
  have HZ1 := Lib.hid (show cntS s (B.H.take 0) = 0 from rfl)
  have HZ2 := Lib.hid (show cntS s (B.W.take 0) = 0 from rfl)
  have HE1 := Lib.hid (show cntS s (B.H.take B.H.length) = cntS s B.H by rw [List.take_length])
  have HE2 := Lib.hid (show cntS s (B.W.take B.W.length) = cntS s B.W by rw [List.take_length])
  have HB1 := Lib.hid (fun j => Nat.le_trans (cntS_le s (B.H.take j)) (by rw [List.length_take]; omega : (B.H.take j).length ≤ 500))
  have HB2 := Lib.hid (fun j => Nat.le_trans (cntS_le s (B.W.take j)) (by rw [List.length_take]; omega : (B.W.take j).length ≤ 500))
  have HR1 := Lib.hid (fun k hk => lokrow_at h.r1 k hk)
  have HR2 := Lib.hid (fun k hk => lokrow_at h.r2 k hk)
  clear h
  generalize hC1 : (fun j => cntS s (B.H.take j)) = C1 at *
  generalize hC2 : (fun j => cntS s (B.W.take j)) = C2 at *
  have e1 : ∀ j, cntS s (B.H.take j) = C1 j := fun j => by rw [← hC1]
  have e2 : ∀ j, cntS s (B.W.take j) = C2 j := fun j => by rw [← hC2]
  simp only [e1, e2] at HS1 HS2 HZ1 HZ2 HE1 HE2 HB1 HB2
  clear hC1 hC2 e1 e2
  generalize cntS s B.H = t1 at *
  generalize cntS s B.W = t2 at *
  go_enter Tryz.func43, Tryz.ntmps43
  go_wp2
  go_region
  have HBZ := Lib.hid (Blk.new w #[.slice a1 B.H.length k1, .slice a2 B.W.length k2] 37)
  have HGZ : Hid (Gr w (w.alloc (.cells #[.slice a1 B.H.length k1, .slice a2 B.W.length k2] 37)).drew) := Lib.hid ((Gr.refl w).alloc _).drew
  replace HBZ : Hid (Blk (w.alloc (.cells #[.slice a1 B.H.length k1, .slice a2 B.W.length k2] 37)).drew w.heap.size #[.slice a1 B.H.length k1, .slice a2 B.W.length k2] 37) := Lib.hid (HBZ.out.gr ((Gr.refl _).drew))
  generalize (w.alloc (.cells #[.slice a1 B.H.length k1, .slice a2 B.W.length k2] 37)).drew = wz at *
  clear c0 c1
  go_wp2
  go_loopw [5, 20] (fun n i wr => ∃ q : Nat, q ≤ 2 ∧ i = .int .i64 q ∧ n = .int .i64 ((if q = 0 then 0 else if q = 1 then t1 else t1 + t2 : Nat) : Int) ∧ Hid (Gr wz wr)) (fun _ i _ => 2 - (intOf i).toNat)
  case atStart => exact ⟨0, by omega, rfl, rfl, Lib.hid (Gr.refl _)⟩
  case round =>
    obtain ⟨q, hq, rfl, rfl, hG⟩ := hrel
    generalize wr = wo at *
    have q0 := (HBZ.out.gr hG.out).cell (i := 0) rfl
    have q1 := (HBZ.out.gr hG.out).cell (i := 1) rfl
    rcases (show q = 0 ∨ q = 1 ∨ q = 2 by omega) with rfl | rfl | rfl
    · skip
      simp only [if_true]
      have hb1 : t1 ≤ 500 := by rw [← HE1.out]; exact HB1.out _
      go_wp2
      go_loopw [5, 26] (fun n i wq => ∃ j : Nat, j ≤ B.H.length ∧ i = .int .i64 j ∧ n = .int .i64 ((0 + C1 j : Nat) : Int) ∧ Hid (Gr wo wq)) (fun _ i _ => B.H.length - (intOf i).toNat)
      case atStart => exact ⟨0, by omega, rfl, congrArg (Value.int .i64) (by have := HZ1.out; push_cast; omega), Lib.hid (Gr.refl _)⟩
      case round =>
        obtain ⟨j, hj, rfl, rfl, hGj⟩ := hrel
        have hbj := HB1.out j
        by_cases hlt : j < B.H.length
        · obtain ⟨g, cap, hv, d0, d1, d2, d3⟩ := HR1.out j hlt
          simp only [Value.slice.injEq] at hv
          obtain ⟨rfl, hnn, rfl⟩ := hv
          clear hnn
          have HGW := Lib.hid ((HGZ.out.trans hG.out).trans hGj.out)
          have d0 := HGW.out.cell d0
          have d1 := HGW.out.cell d1
          have d2 := HGW.out.cell d2
          have d3 := HGW.out.cell d3
          have HSJ := Lib.hid (HS1.out j hlt)
          have HGA := Lib.hid (hGj.out.alloc (.cells #[.int .i64 B.H[j].ses, .string B.H[j].txt, .bool B.H[j].ex, .int .u64 B.H[j].tok] 42))
          generalize B.H[j] = y at *
          generalize hcj : C1 j = cj at *
          clear hcj q0 q1
          by_cases e : y.ses = s
          · rw [if_pos e] at HSJ
            have e1 : (y.ses == s) = true := by simpa using e
            clear e
            go_wp2
            exact ⟨⟨j + 1, hlt, by simp, congrArg (Value.int .i64) (by have := HSJ.out; push_cast; omega), HGA⟩, by simp [intOf]; omega⟩
          · rw [if_neg e] at HSJ
            have e1 : (y.ses == s) = false := by simpa using e
            clear e
            go_wp2
            exact ⟨⟨j + 1, hlt, by simp, congrArg (Value.int .i64) (by have := HSJ.out; push_cast; omega), HGA⟩, by simp [intOf]; omega⟩
        · obtain rfl : j = B.H.length := by omega
          go_wp2
          exact ⟨⟨1, by omega, rfl, congrArg (Value.int .i64) (by have := HE1.out; simp; omega), Lib.hid (hG.out.trans hGj.out)⟩, by simp [intOf]⟩
    · skip
      simp only [if_neg (show ¬ (1 : Nat) = 0 by omega), if_true]
      have hb1 : t1 ≤ 500 := by rw [← HE1.out]; exact HB1.out _
      go_wp2
      go_loopw [5, 26] (fun n i wq => ∃ j : Nat, j ≤ B.W.length ∧ i = .int .i64 j ∧ n = .int .i64 ((t1 + C2 j : Nat) : Int) ∧ Hid (Gr wo wq)) (fun _ i _ => B.W.length - (intOf i).toNat)
      case atStart => exact ⟨0, by omega, rfl, congrArg (Value.int .i64) (by have := HZ2.out; push_cast; omega), Lib.hid (Gr.refl _)⟩
      case round =>
        obtain ⟨j, hj, rfl, rfl, hGj⟩ := hrel
        have hbj := HB2.out j
        by_cases hlt : j < B.W.length
        · obtain ⟨g, cap, hv, d0, d1, d2, d3⟩ := HR2.out j hlt
          simp only [Value.slice.injEq] at hv
          obtain ⟨rfl, hnn, rfl⟩ := hv
          clear hnn
          have HGW := Lib.hid ((HGZ.out.trans hG.out).trans hGj.out)
          have d0 := HGW.out.cell d0
          have d1 := HGW.out.cell d1
          have d2 := HGW.out.cell d2
          have d3 := HGW.out.cell d3
          have HSJ := Lib.hid (HS2.out j hlt)
          have HGA := Lib.hid (hGj.out.alloc (.cells #[.int .i64 B.W[j].ses, .string B.W[j].txt, .bool B.W[j].ex, .int .u64 B.W[j].tok] 42))
          generalize B.W[j] = y at *
          generalize hcj : C2 j = cj at *
          clear hcj q0 q1
          by_cases e : y.ses = s
          · rw [if_pos e] at HSJ
            have e1 : (y.ses == s) = true := by simpa using e
            clear e
            go_wp2
            exact ⟨⟨j + 1, hlt, by simp, congrArg (Value.int .i64) (by have := HSJ.out; push_cast; omega), HGA⟩, by simp [intOf]; omega⟩
          · rw [if_neg e] at HSJ
            have e1 : (y.ses == s) = false := by simpa using e
            clear e
            go_wp2
            exact ⟨⟨j + 1, hlt, by simp, congrArg (Value.int .i64) (by have := HSJ.out; push_cast; omega), HGA⟩, by simp [intOf]; omega⟩
        · obtain rfl : j = B.W.length := by omega
          go_wp2
          exact ⟨⟨2, by omega, rfl, congrArg (Value.int .i64) (by have := HE2.out; simp; omega), Lib.hid (hG.out.trans hGj.out)⟩, by simp [intOf]⟩
    · have hb1 : t1 ≤ 500 := by rw [← HE1.out]; exact HB1.out _
      have hb2 : t2 ≤ 500 := by rw [← HE2.out]; exact HB2.out _
      simp only [if_neg (show ¬ (2 : Nat) = 0 by omega), if_neg (show ¬ (2 : Nat) = 1 by omega)]
      go_wp2
      go_ret
      exact ⟨rfl, HGZ.out.trans hG.out⟩
end Go.Proofs.YtmgpnpmdmelnkaaGreatDoor
