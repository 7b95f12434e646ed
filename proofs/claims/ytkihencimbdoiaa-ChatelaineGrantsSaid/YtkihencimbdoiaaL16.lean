import Derived.Test.YtkihencimbdoiaaF16o
import Derived.Test.YtkihencimbdoiaaC12
import Derived.WalkKit
import Derived.ProofKit
import Derived.LoopTactic
import Derived.Outline
import Derived.WalkSpells
import Derived.WalkLawsBesides
import Derived.Lib.Hide
import Derived.Deep.LoopGhost
import Derived.Deep.QuietTactic
import Derived.BigQuiet
import Derived.ShutString
import Derived.IntWalk
import Derived.BigQuiet
namespace Go.Proofs.Ytkihencimbdoiaa
open Go.ChangeShapes Go.WideShapes Go.ChangeAt Go.RowKit
open Bal
set_option linter.unusedVariables false
set_option linter.unusedSimpArgs false
theorem refuse1 {b : Nat} (ms : List Value) (hms : Hid (ms = [.int .i64 5, .int .i64 0, .int .i64 0, .int .i64 0, .int .u64 2, .int .i64 1, .int .i64 0, .int .i64 0, .bool false, .string ⟨#[]⟩, .slice none 0 0])) (w : World) (h : Blk w b #[.bool false, .int .u64 2, .int .i64 1, .int .i64 0, .slice none 0 0, .int .i64 0, .int .i64 0] 100) : Calls Try.prog 58 #[.pointer (some ⟨b, 0, none⟩)] w fun e w' => e = .returned (.agg ms.toArray) ∧ Gr w w' := by
  rw [hms.out]
  exact refuse_any w h
set_option maxRecDepth 100000 in
set_option maxHeartbeats 2000000 in
theorem accept0 {b : Nat} (w : World) (h : Blk w b #[.bool false, .int .u64 2, .int .i64 1, .int .i64 0, .slice none 0 0, .int .i64 0, .int .i64 0] 100) :
    Calls Try.prog 14 #[.pointer (some ⟨b, 0, none⟩), .agg #[.int .i64 0, .int .i64 0, .int .i64 0, .int .i64 0, .int .u64 1, .int .i64 0, .int .i64 1, .int .i64 0, .bool false, .string ⟨#[]⟩, .slice none 0 0]] w fun e w' => e = .returned (.tuple #[.agg #[.int .i64 5, .int .i64 0, .int .i64 0, .int .i64 0, .int .u64 2, .int .i64 1, .int .i64 0, .int .i64 0, .bool false, .string ⟨#[]⟩, .slice none 0 0], .bool false]) ∧ Gr w w' := by
  have HM := Lib.hid ((Blk.new w #[.int .i64 0, .int .i64 0, .int .i64 0, .int .i64 0, .int .u64 1, .int .i64 0, .int .i64 1, .int .i64 0, .bool false, .string ⟨#[]⟩, .slice none 0 0] 30).gr ((Gr.refl _).alloc (.cells #[.int .i64 0, .int .i64 0, .int .i64 0, .int .i64 0, .int .u64 0, .int .i64 0, .int .i64 0, .int .i64 0, .bool false, .string ⟨#[]⟩, .slice none 0 0] 30)))
  have HR := Lib.hid (Blk.new (w.alloc (.cells #[.int .i64 0, .int .i64 0, .int .i64 0, .int .i64 0, .int .u64 1, .int .i64 0, .int .i64 1, .int .i64 0, .bool false, .string ⟨#[]⟩, .slice none 0 0] 30)) #[.int .i64 0, .int .i64 0, .int .i64 0, .int .i64 0, .int .u64 0, .int .i64 0, .int .i64 0, .int .i64 0, .bool false, .string ⟨#[]⟩, .slice none 0 0] 30)
  rw [show (w.alloc (.cells #[.int .i64 0, .int .i64 0, .int .i64 0, .int .i64 0, .int .u64 1, .int .i64 0, .int .i64 1, .int .i64 0, .bool false, .string ⟨#[]⟩, .slice none 0 0] 30)).heap.size = w.heap.size + 1 by simp] at HR
  have HG := Lib.hid (((Gr.refl w).alloc (.cells #[.int .i64 0, .int .i64 0, .int .i64 0, .int .i64 0, .int .u64 1, .int .i64 0, .int .i64 1, .int .i64 0, .bool false, .string ⟨#[]⟩, .slice none 0 0] 30)).alloc (.cells #[.int .i64 0, .int .i64 0, .int .i64 0, .int .i64 0, .int .u64 0, .int .i64 0, .int .i64 0, .int .i64 0, .bool false, .string ⟨#[]⟩, .slice none 0 0] 30))
  have HA := Lib.hid (h.gr HG.out)
  clear h
  obtain ⟨ms, hms⟩ : ∃ ms : List Value, ms = [.int .i64 5, .int .i64 0, .int .i64 0, .int .i64 0, .int .u64 2, .int .i64 1, .int .i64 0, .int .i64 0, .bool false, .string ⟨#[]⟩, .slice none 0 0] := ⟨_, rfl⟩
  have hml : ms.length = 11 := by rw [hms]; rfl
  have HMS := Lib.hid hms
  clear hms
  go_enter Try.func14, Try.ntmps14
  go_wp2_with fail
  generalize (w.alloc (.cells #[.int .i64 0, .int .i64 0, .int .i64 0, .int .i64 0, .int .u64 1, .int .i64 0, .int .i64 1, .int .i64 0, .bool false, .string ⟨#[]⟩, .slice none 0 0] 30)).alloc (.cells #[.int .i64 0, .int .i64 0, .int .i64 0, .int .i64 0, .int .u64 0, .int .i64 0, .int .i64 0, .int .i64 0, .bool false, .string ⟨#[]⟩, .slice none 0 0] 30) = wa at *
  have m4 := HM.out.cell (i := 4) rfl
  have m5 := HM.out.cell (i := 5) rfl
  go_wp2_with fail
  refine (late1 _ HA.out).mono ?_
  rintro e w1 ⟨rfl, hg1⟩
  have HA1 := Lib.hid (HA.out.gr hg1)
  have HR1 := Lib.hid (HR.out.gr hg1)
  have HG1 := Lib.hid (HG.out.trans hg1)
  clear hg1 m4 m5 HA HR HG HM
  go_wp2_with fail
  refine (refuse1 ms HMS _ HA1.out).mono ?_
  rintro e w2 ⟨rfl, hg2⟩
  have HR2 := Lib.hid (HR1.out.gr hg2)
  have HG2 := Lib.hid (HG1.out.trans hg2)
  obtain ⟨W2, hst, hat2, hfz2, hgr2⟩ := rows_store ms HR2.out (by rw [HMS.out]; rfl) (by rw [HMS.out]; intro u hu; simp only [List.mem_cons, List.not_mem_nil, or_false] at hu; rcases hu with rfl | rfl | rfl | rfl | rfl | rfl | rfl | rfl | rfl | rfl | rfl <;> rfl)
  have HFF := Lib.hid (Far.of_gr (b := b) (v := .slice none 0 0) HG2.out)
  have HGF : Hid (Gr w W2) := Lib.hid (by
    have hf : Far (w.heap.size + 1) (.slice none 0 0) w2 W2 := ⟨hgr2.os, hgr2.tape, hgr2.output, hgr2.size, fun k hk h1 _ => hgr2.block k hk (fun e => h1 (Option.some.inj e))⟩
    exact hf.gr HG2.out (Nat.le_succ _) (fun k e => by simp [Value.ownBlock] at e))
  have hat3 := hat2
  rw [HMS.out] at hat3
  have z0 : W2.cell? ⟨w.heap.size + 1, 0, none⟩ = some (.int .i64 5) := hat3 0 (by simp)
  have z1 : W2.cell? ⟨w.heap.size + 1, 1, none⟩ = some (.int .i64 0) := hat3 1 (by simp)
  have z2 : W2.cell? ⟨w.heap.size + 1, 2, none⟩ = some (.int .i64 0) := hat3 2 (by simp)
  have z3 : W2.cell? ⟨w.heap.size + 1, 3, none⟩ = some (.int .i64 0) := hat3 3 (by simp)
  have z4 : W2.cell? ⟨w.heap.size + 1, 4, none⟩ = some (.int .u64 2) := hat3 4 (by simp)
  have z5 : W2.cell? ⟨w.heap.size + 1, 5, none⟩ = some (.int .i64 1) := hat3 5 (by simp)
  have z6 : W2.cell? ⟨w.heap.size + 1, 6, none⟩ = some (.int .i64 0) := hat3 6 (by simp)
  have z7 : W2.cell? ⟨w.heap.size + 1, 7, none⟩ = some (.int .i64 0) := hat3 7 (by simp)
  have z8 : W2.cell? ⟨w.heap.size + 1, 8, none⟩ = some (.bool false) := hat3 8 (by simp)
  have z9 : W2.cell? ⟨w.heap.size + 1, 9, none⟩ = some (.string ⟨#[]⟩) := hat3 9 (by simp)
  have z10 : W2.cell? ⟨w.heap.size + 1, 10, none⟩ = some (.slice none 0 0) := hat3 10 (by simp)
  clear hat2 hat3 hfz2 hgr2 hg2
  go_wp2
  refine bodyPost_ret (v := .tuple #[.agg #[.int .i64 5, .int .i64 0, .int .i64 0, .int .i64 0, .int .u64 2, .int .i64 1, .int .i64 0, .int .i64 0, .bool false, .string ⟨#[]⟩, .slice none 0 0], .bool false]) (by simp [results, Try.results14, go_sem, z0, z1, z2, z3, z4, z5, z6, z7, z8, z9, z10]; try rfl) rfl ?_
  exact ⟨rfl, HGF.out⟩
set_option maxRecDepth 100000 in
set_option maxHeartbeats 2000000 in
theorem awake16 (w : World) : Calls Try.prog 12 #[] w fun e w' => e = .returned (.bool true) ∧ Gr w w' := by
  have HA := Lib.hid (Blk.new w #[.bool false, .int .u64 0, .int .i64 0, .int .i64 0, .slice none 0 0, .int .i64 0, .int .i64 0] 100)
  have HG := Lib.hid ((Gr.refl w).alloc (.cells #[.bool false, .int .u64 0, .int .i64 0, .int .i64 0, .slice none 0 0, .int .i64 0, .int .i64 0] 100))
  have HLO := Lib.hid (Nat.le_refl w.heap.size)
  go_enter Try.func12, Try.ntmps12
  go_wp2_with fail
  refine (accNew_any false _).mono ?_
  rintro e w1 ⟨rfl, rfl⟩
  generalize w.alloc (.cells #[.bool false, .int .u64 0, .int .i64 0, .int .i64 0, .slice none 0 0, .int .i64 0, .int .i64 0] 100) = w1 at *
  generalize hb : w.heap.size = b at *
  have HB := Lib.hid hb
  clear hb
  go_wp2_with fail
  refine (prepare0 _ HA.out).mono ?_
  rintro e w2 ⟨ra, rc, rfl, hA2, hf2⟩
  have HG2 := Lib.hid (hf2.gr HG.out (by rw [HB.out]; exact Nat.le_refl _) (fun k e => by simp [Value.ownBlock] at e))
  have HX2 := Lib.hid (Blk.new w2 #[.int .i64 2, .int .i64 0, .int .i64 0, .int .i64 0, .int .u64 2, .int .i64 1, .int .i64 0, .int .i64 0, .bool false, .string ⟨#[]⟩, .slice ra 0 rc] 30)
  have HG3 := Lib.hid (HG2.out.alloc (.cells #[.int .i64 2, .int .i64 0, .int .i64 0, .int .i64 0, .int .u64 2, .int .i64 1, .int .i64 0, .int .i64 0, .bool false, .string ⟨#[]⟩, .slice ra 0 rc] 30))
  have HA3 := Lib.hid (hA2.gr ((Gr.refl _).alloc (.cells #[.int .i64 2, .int .i64 0, .int .i64 0, .int .i64 0, .int .u64 2, .int .i64 1, .int .i64 0, .int .i64 0, .bool false, .string ⟨#[]⟩, .slice ra 0 rc] 30)))
  clear hA2 hf2 HA HG HG2
  go_wp2_with fail
  generalize w2.alloc (.cells #[.int .i64 2, .int .i64 0, .int .i64 0, .int .i64 0, .int .u64 2, .int .i64 1, .int .i64 0, .int .i64 0, .bool false, .string ⟨#[]⟩, .slice ra 0 rc] 30) = w3 at *
  refine (accept0 _ HA3.out).mono ?_
  rintro e w4 ⟨rfl, hg4⟩
  have HG5 := Lib.hid ((HG3.out.trans hg4).alloc (.cells #[.int .i64 5, .int .i64 0, .int .i64 0, .int .i64 0, .int .u64 2, .int .i64 1, .int .i64 0, .int .i64 0, .bool false, .string ⟨#[]⟩, .slice none 0 0] 30))
  have HX5 := Lib.hid ((HX2.out.gr hg4).gr ((Gr.refl _).alloc (.cells #[.int .i64 5, .int .i64 0, .int .i64 0, .int .i64 0, .int .u64 2, .int .i64 1, .int .i64 0, .int .i64 0, .bool false, .string ⟨#[]⟩, .slice none 0 0] 30)))
  have hx5 := HX5.out.cell (i := 0) rfl
  have hx4 := (HX2.out.gr hg4).cell (i := 0) rfl
  clear hg4
  go_wp2
  go_ret
  exact ⟨rfl, HG5.out⟩
end Go.Proofs.Ytkihencimbdoiaa
