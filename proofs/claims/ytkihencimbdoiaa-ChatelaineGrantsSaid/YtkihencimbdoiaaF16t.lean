import Derived.Test.YtkihencimbdoiaaF16s
import Derived.WalkKit
import Derived.ProofKit
import Derived.LoopTactic
import Derived.Outline
import Derived.WalkSpells
import Derived.WalkLawsBesides
import Derived.Lib.Hide
import Derived.Deep.LoopGhost
import Derived.Deep.QuietTactic
import Derived.BigQuiet
import Derived.ShutString
import Derived.IntWalk
import Derived.BigQuiet
import Derived.Deep.MidRow
import Derived.Deep.RegionWith
import Derived.Deep.RegionHeld3
namespace Go.Proofs.Ytkihencimbdoiaa
open Go.ChangeShapes Go.WideShapes Go.ChangeAt Go.RowKit
open Bal
set_option linter.unusedVariables false
set_option linter.unusedSimpArgs false
set_option maxRecDepth 100000 in
set_option maxHeartbeats 4000000 in
theorem accept_late {base b : Nat} {v : Value} {wit : Bool} {pc pn ba to til : Int} {L : List E} (kd frm tt sub c n slot time : Int) (ok : Bool) (text : ByteArray) (la : Option Addr) (ll lc : Nat) (w : World) (h : Blk w b #[.bool wit, .int .u64 pc, .int .i64 pn, .int .i64 ba, v, .int .i64 to, .int .i64 til] 100) (hr : w.ownsRow base 108 4 v L.length (rcells encE L)) (hl : L.length ≤ 1000) (ha : Asc L) (hb : base ≤ w.heap.size) (hlate : decide (cmpB c n pc pn < 0) = true) :
    Calls Try.prog 14 #[.pointer (some ⟨b, 0, none⟩), .agg #[.int .i64 kd, .int .i64 frm, .int .i64 tt, .int .i64 sub, .int .u64 c, .int .i64 n, .int .i64 slot, .int .i64 time, .bool ok, .string text, .slice la ll lc]] w fun e w' => e = .returned (.tuple #[.agg #[.int .i64 5, .int .i64 0, .int .i64 0, .int .i64 0, .int .u64 pc, .int .i64 pn, .int .i64 0, .int .i64 0, .bool false, .string ⟨#[]⟩, .slice none 0 0], .bool false]) ∧ Blk w' b #[.bool wit, .int .u64 pc, .int .i64 pn, .int .i64 ba, v, .int .i64 to, .int .i64 til] 100 ∧ w'.ownsRow base 108 4 v L.length (rcells encE L) ∧ Far b v w w' := by

  have HM := Lib.hid ((Blk.new w #[.int .i64 kd, .int .i64 frm, .int .i64 tt, .int .i64 sub, .int .u64 c, .int .i64 n, .int .i64 slot, .int .i64 time, .bool ok, .string text, .slice la ll lc] 30).gr ((Gr.refl _).alloc (.cells #[.int .i64 0, .int .i64 0, .int .i64 0, .int .i64 0, .int .u64 0, .int .i64 0, .int .i64 0, .int .i64 0, .bool false, .string ⟨#[]⟩, .slice none 0 0] 30)))
  have HR := Lib.hid (Blk.new (w.alloc (.cells #[.int .i64 kd, .int .i64 frm, .int .i64 tt, .int .i64 sub, .int .u64 c, .int .i64 n, .int .i64 slot, .int .i64 time, .bool ok, .string text, .slice la ll lc] 30)) #[.int .i64 0, .int .i64 0, .int .i64 0, .int .i64 0, .int .u64 0, .int .i64 0, .int .i64 0, .int .i64 0, .bool false, .string ⟨#[]⟩, .slice none 0 0] 30)
  rw [show (w.alloc (.cells #[.int .i64 kd, .int .i64 frm, .int .i64 tt, .int .i64 sub, .int .u64 c, .int .i64 n, .int .i64 slot, .int .i64 time, .bool ok, .string text, .slice la ll lc] 30)).heap.size = w.heap.size + 1 by simp] at HR
  have HG := Lib.hid (((Gr.refl w).alloc (.cells #[.int .i64 kd, .int .i64 frm, .int .i64 tt, .int .i64 sub, .int .u64 c, .int .i64 n, .int .i64 slot, .int .i64 time, .bool ok, .string text, .slice la ll lc] 30)).alloc (.cells #[.int .i64 0, .int .i64 0, .int .i64 0, .int .i64 0, .int .u64 0, .int .i64 0, .int .i64 0, .int .i64 0, .bool false, .string ⟨#[]⟩, .slice none 0 0] 30))
  have HA := Lib.hid (h.gr HG.out)
  have HO := Lib.hid (ownsRow_gr HG.out hr)
  have HF := Lib.hid (Far.of_gr (b := b) (v := v) HG.out)
  have HV := Lib.hid (From.refl v w)
  have HVB := Lib.hid (show v.ownBlock ≠ some b from row_off h hr (by decide))
  have HVP := Lib.hid (show ∀ k, v.ownBlock = some k → k < w.heap.size from fun k e => (hr.lt _ e).2)
  have hlt := h.lt
  have hbs : Hid (base ≤ ((w.alloc (.cells #[.int .i64 kd, .int .i64 frm, .int .i64 tt, .int .i64 sub, .int .u64 c, .int .i64 n, .int .i64 slot, .int .i64 time, .bool ok, .string text, .slice la ll lc] 30)).alloc (.cells #[.int .i64 0, .int .i64 0, .int .i64 0, .int .i64 0, .int .u64 0, .int .i64 0, .int .i64 0, .int .i64 0, .bool false, .string ⟨#[]⟩, .slice none 0 0] 30)).heap.size) := Lib.hid (Nat.le_trans hb HG.out.size)
  clear h hr HG
  go_enter Try.func14, Try.ntmps14
  go_wp2_with fail
  generalize (w.alloc (.cells #[.int .i64 kd, .int .i64 frm, .int .i64 tt, .int .i64 sub, .int .u64 c, .int .i64 n, .int .i64 slot, .int .i64 time, .bool ok, .string text, .slice la ll lc] 30)).alloc (.cells #[.int .i64 0, .int .i64 0, .int .i64 0, .int .i64 0, .int .u64 0, .int .i64 0, .int .i64 0, .int .i64 0, .bool false, .string ⟨#[]⟩, .slice none 0 0] 30) = wa at *
  have n1 : w.heap.size ≠ b := by omega
  have n2 : w.heap.size + 1 ≠ b := by omega
  have HL := Lib.hid hlate
  have m4 := HM.out.cell (i := 4) rfl
  have m5 := HM.out.cell (i := 5) rfl
  go_wp2_with fail
  refine (isLate_any c n _ HA.out).mono ?_
  rw [HL.out]
  rintro e w1 ⟨rfl, hg1⟩
  have HA1 := Lib.hid (HA.out.gr hg1)
  have HM1 := Lib.hid (HM.out.gr hg1)
  have HR1 := Lib.hid (HR.out.gr hg1)
  have HO1 := Lib.hid (ownsRow_gr hg1 HO.out)
  have HF1 := Lib.hid (HF.out.trans HV.out (Far.of_gr hg1))
  clear HA HM HR HO HF
  clear hg1 m4 m5
  go_wp2_with fail
  refine (refuse_any _ HA1.out).mono ?_
  rintro e w2 ⟨rfl, hg2⟩
  have HA2 := Lib.hid (HA1.out.gr hg2)
  have HM2 := Lib.hid (HM1.out.gr hg2)
  have HR2 := Lib.hid (HR1.out.gr hg2)
  have HO2 := Lib.hid (ownsRow_gr hg2 HO1.out)
  have HF2 := Lib.hid (HF1.out.trans HV.out (Far.of_gr hg2))
  clear HA1 HM1 HR1 HO1 HF1
  clear hg2
  have HN := Lib.hid (show v.ownBlock ≠ some (w.heap.size + 1) from fun e => by have := HVP.out _ e; omega)
  obtain ⟨HT0, HO0, hat, hgr⟩ := msg_put HR2.out rfl [.int .i64 5, .int .i64 0, .int .i64 0, .int .i64 0, .int .u64 pc, .int .i64 pn, .int .i64 0, .int .i64 0, .bool false, .string ⟨#[]⟩, .slice none 0 0] rfl (by intro u hu; simp only [List.mem_cons, List.not_mem_nil, or_false] at hu; rcases hu with rfl | rfl | rfl | rfl | rfl | rfl | rfl | rfl | rfl | rfl | rfl <;> rfl)
  have z0 : (w2.setCells (w.heap.size + 1) 0 [.int .i64 5, .int .i64 0, .int .i64 0, .int .i64 0, .int .u64 pc, .int .i64 pn, .int .i64 0, .int .i64 0, .bool false, .string ⟨#[]⟩, .slice none 0 0]).cell? ⟨w.heap.size + 1, 0, none⟩ = some (.int .i64 5) := hat 0 (by decide)
  have z1 : (w2.setCells (w.heap.size + 1) 0 [.int .i64 5, .int .i64 0, .int .i64 0, .int .i64 0, .int .u64 pc, .int .i64 pn, .int .i64 0, .int .i64 0, .bool false, .string ⟨#[]⟩, .slice none 0 0]).cell? ⟨w.heap.size + 1, 1, none⟩ = some (.int .i64 0) := hat 1 (by decide)
  have z2 : (w2.setCells (w.heap.size + 1) 0 [.int .i64 5, .int .i64 0, .int .i64 0, .int .i64 0, .int .u64 pc, .int .i64 pn, .int .i64 0, .int .i64 0, .bool false, .string ⟨#[]⟩, .slice none 0 0]).cell? ⟨w.heap.size + 1, 2, none⟩ = some (.int .i64 0) := hat 2 (by decide)
  have z3 : (w2.setCells (w.heap.size + 1) 0 [.int .i64 5, .int .i64 0, .int .i64 0, .int .i64 0, .int .u64 pc, .int .i64 pn, .int .i64 0, .int .i64 0, .bool false, .string ⟨#[]⟩, .slice none 0 0]).cell? ⟨w.heap.size + 1, 3, none⟩ = some (.int .i64 0) := hat 3 (by decide)
  have z4 : (w2.setCells (w.heap.size + 1) 0 [.int .i64 5, .int .i64 0, .int .i64 0, .int .i64 0, .int .u64 pc, .int .i64 pn, .int .i64 0, .int .i64 0, .bool false, .string ⟨#[]⟩, .slice none 0 0]).cell? ⟨w.heap.size + 1, 4, none⟩ = some (.int .u64 pc) := hat 4 (by decide)
  have z5 : (w2.setCells (w.heap.size + 1) 0 [.int .i64 5, .int .i64 0, .int .i64 0, .int .i64 0, .int .u64 pc, .int .i64 pn, .int .i64 0, .int .i64 0, .bool false, .string ⟨#[]⟩, .slice none 0 0]).cell? ⟨w.heap.size + 1, 5, none⟩ = some (.int .i64 pn) := hat 5 (by decide)
  have z6 : (w2.setCells (w.heap.size + 1) 0 [.int .i64 5, .int .i64 0, .int .i64 0, .int .i64 0, .int .u64 pc, .int .i64 pn, .int .i64 0, .int .i64 0, .bool false, .string ⟨#[]⟩, .slice none 0 0]).cell? ⟨w.heap.size + 1, 6, none⟩ = some (.int .i64 0) := hat 6 (by decide)
  have z7 : (w2.setCells (w.heap.size + 1) 0 [.int .i64 5, .int .i64 0, .int .i64 0, .int .i64 0, .int .u64 pc, .int .i64 pn, .int .i64 0, .int .i64 0, .bool false, .string ⟨#[]⟩, .slice none 0 0]).cell? ⟨w.heap.size + 1, 7, none⟩ = some (.int .i64 0) := hat 7 (by decide)
  have z8 : (w2.setCells (w.heap.size + 1) 0 [.int .i64 5, .int .i64 0, .int .i64 0, .int .i64 0, .int .u64 pc, .int .i64 pn, .int .i64 0, .int .i64 0, .bool false, .string ⟨#[]⟩, .slice none 0 0]).cell? ⟨w.heap.size + 1, 8, none⟩ = some (.bool false) := hat 8 (by decide)
  have z9 : (w2.setCells (w.heap.size + 1) 0 [.int .i64 5, .int .i64 0, .int .i64 0, .int .i64 0, .int .u64 pc, .int .i64 pn, .int .i64 0, .int .i64 0, .bool false, .string ⟨#[]⟩, .slice none 0 0]).cell? ⟨w.heap.size + 1, 9, none⟩ = some (.string ⟨#[]⟩) := hat 9 (by decide)
  have z10 : (w2.setCells (w.heap.size + 1) 0 [.int .i64 5, .int .i64 0, .int .i64 0, .int .i64 0, .int .u64 pc, .int .i64 pn, .int .i64 0, .int .i64 0, .bool false, .string ⟨#[]⟩, .slice none 0 0]).cell? ⟨w.heap.size + 1, 10, none⟩ = some (.slice none 0 0) := hat 10 (by decide)
  have HAF := Lib.hid (HA2.out.grown hgr n2.symm)
  have HFF := Lib.hid (Far.grownV (v1 := v) HF2.out hgr (Nat.le_succ _))
  have HOF := Lib.hid (HO2.out.kept hgr (.inr HN.out))
  clear hat hgr
  generalize hMS : ([.int .i64 5, .int .i64 0, .int .i64 0, .int .i64 0, .int .u64 pc, .int .i64 pn, .int .i64 0, .int .i64 0, .bool false, .string ⟨#[]⟩, .slice none 0 0] : List Value) = ms at *
  have HMS := Lib.hid (show Value.agg #[.int .i64 5, .int .i64 0, .int .i64 0, .int .i64 0, .int .u64 pc, .int .i64 pn, .int .i64 0, .int .i64 0, .bool false, .string ⟨#[]⟩, .slice none 0 0] = Value.agg ms.toArray by rw [← hMS])
  have hml := Lib.hid (show ms.toArray.size = 11 by rw [← hMS]; rfl)
  have HTT := Lib.hid HT0
  have HOO := Lib.hid HO0
  clear hMS HT0 HO0
  go_wp2_with (first | (refine wpList_store_mid rfl 30 (.tmp 4) (.tmp 15) rfl (w.heap.size + 1) 0 ms.toArray (by rfl) (by first | rfl | exact HMS.out) HTT.out (by rw [hml.out]; exact info_msg) HOO.out ?_))
  refine bodyPost_ret (v := .tuple #[.agg #[.int .i64 5, .int .i64 0, .int .i64 0, .int .i64 0, .int .u64 pc, .int .i64 pn, .int .i64 0, .int .i64 0, .bool false, .string ⟨#[]⟩, .slice none 0 0], .bool false]) (by simp [results, Try.results14, go_sem, z0, z1, z2, z3, z4, z5, z6, z7, z8, z9, z10]; try rfl) rfl ?_
  exact ⟨rfl, HAF.out, HOF.out, HFF.out⟩
set_option maxRecDepth 100000 in
set_option maxHeartbeats 4000000 in
theorem accept_full {base b : Nat} {v : Value} {wit : Bool} {pc pn ba to til : Int} {L : List E} (kd frm tt sub c n slot time : Int) (ok : Bool) (text : ByteArray) (la : Option Addr) (ll lc : Nat) (w : World) (h : Blk w b #[.bool wit, .int .u64 pc, .int .i64 pn, .int .i64 ba, v, .int .i64 to, .int .i64 til] 100) (hr : w.ownsRow base 108 4 v L.length (rcells encE L)) (hl : L.length ≤ 1000) (ha : Asc L) (hb : base ≤ w.heap.size) (hlate : decide (cmpB c n pc pn < 0) = false) (hsl : ba < slot) (hno : hasE L slot = false) (hful : 64 ≤ L.length) :
    Calls Try.prog 14 #[.pointer (some ⟨b, 0, none⟩), .agg #[.int .i64 kd, .int .i64 frm, .int .i64 tt, .int .i64 sub, .int .u64 c, .int .i64 n, .int .i64 slot, .int .i64 time, .bool ok, .string text, .slice la ll lc]] w fun e w' => e = .returned (.tuple #[.agg #[.int .i64 0, .int .i64 0, .int .i64 0, .int .i64 0, .int .u64 0, .int .i64 0, .int .i64 0, .int .i64 0, .bool false, .string ⟨#[]⟩, .slice none 0 0], .bool false]) ∧ Blk w' b #[.bool wit, .int .u64 pc, .int .i64 pn, .int .i64 ba, v, .int .i64 to, .int .i64 til] 100 ∧ w'.ownsRow base 108 4 v L.length (rcells encE L) ∧ Far b v w w' := by

  have HM := Lib.hid ((Blk.new w #[.int .i64 kd, .int .i64 frm, .int .i64 tt, .int .i64 sub, .int .u64 c, .int .i64 n, .int .i64 slot, .int .i64 time, .bool ok, .string text, .slice la ll lc] 30).gr ((Gr.refl _).alloc (.cells #[.int .i64 0, .int .i64 0, .int .i64 0, .int .i64 0, .int .u64 0, .int .i64 0, .int .i64 0, .int .i64 0, .bool false, .string ⟨#[]⟩, .slice none 0 0] 30)))
  have HR := Lib.hid (Blk.new (w.alloc (.cells #[.int .i64 kd, .int .i64 frm, .int .i64 tt, .int .i64 sub, .int .u64 c, .int .i64 n, .int .i64 slot, .int .i64 time, .bool ok, .string text, .slice la ll lc] 30)) #[.int .i64 0, .int .i64 0, .int .i64 0, .int .i64 0, .int .u64 0, .int .i64 0, .int .i64 0, .int .i64 0, .bool false, .string ⟨#[]⟩, .slice none 0 0] 30)
  rw [show (w.alloc (.cells #[.int .i64 kd, .int .i64 frm, .int .i64 tt, .int .i64 sub, .int .u64 c, .int .i64 n, .int .i64 slot, .int .i64 time, .bool ok, .string text, .slice la ll lc] 30)).heap.size = w.heap.size + 1 by simp] at HR
  have HG := Lib.hid (((Gr.refl w).alloc (.cells #[.int .i64 kd, .int .i64 frm, .int .i64 tt, .int .i64 sub, .int .u64 c, .int .i64 n, .int .i64 slot, .int .i64 time, .bool ok, .string text, .slice la ll lc] 30)).alloc (.cells #[.int .i64 0, .int .i64 0, .int .i64 0, .int .i64 0, .int .u64 0, .int .i64 0, .int .i64 0, .int .i64 0, .bool false, .string ⟨#[]⟩, .slice none 0 0] 30))
  have HA := Lib.hid (h.gr HG.out)
  have HO := Lib.hid (ownsRow_gr HG.out hr)
  have HF := Lib.hid (Far.of_gr (b := b) (v := v) HG.out)
  have HV := Lib.hid (From.refl v w)
  have HVB := Lib.hid (show v.ownBlock ≠ some b from row_off h hr (by decide))
  have HVP := Lib.hid (show ∀ k, v.ownBlock = some k → k < w.heap.size from fun k e => (hr.lt _ e).2)
  have hlt := h.lt
  have hbs : Hid (base ≤ ((w.alloc (.cells #[.int .i64 kd, .int .i64 frm, .int .i64 tt, .int .i64 sub, .int .u64 c, .int .i64 n, .int .i64 slot, .int .i64 time, .bool ok, .string text, .slice la ll lc] 30)).alloc (.cells #[.int .i64 0, .int .i64 0, .int .i64 0, .int .i64 0, .int .u64 0, .int .i64 0, .int .i64 0, .int .i64 0, .bool false, .string ⟨#[]⟩, .slice none 0 0] 30)).heap.size) := Lib.hid (Nat.le_trans hb HG.out.size)
  clear h hr HG
  go_enter Try.func14, Try.ntmps14
  go_wp2_with fail
  generalize (w.alloc (.cells #[.int .i64 kd, .int .i64 frm, .int .i64 tt, .int .i64 sub, .int .u64 c, .int .i64 n, .int .i64 slot, .int .i64 time, .bool ok, .string text, .slice la ll lc] 30)).alloc (.cells #[.int .i64 0, .int .i64 0, .int .i64 0, .int .i64 0, .int .u64 0, .int .i64 0, .int .i64 0, .int .i64 0, .bool false, .string ⟨#[]⟩, .slice none 0 0] 30) = wa at *
  have n1 : w.heap.size ≠ b := by omega
  have n2 : w.heap.size + 1 ≠ b := by omega
  have HL := Lib.hid hlate
  have HSL := Lib.hid hsl
  have m4 := HM.out.cell (i := 4) rfl
  have m5 := HM.out.cell (i := 5) rfl
  go_wp2_with fail
  refine (isLate_any c n _ HA.out).mono ?_
  rw [HL.out]
  rintro e w1 ⟨rfl, hg1⟩
  have HA1 := Lib.hid (HA.out.gr hg1)
  have HM1 := Lib.hid (HM.out.gr hg1)
  have HR1 := Lib.hid (HR.out.gr hg1)
  have HO1 := Lib.hid (ownsRow_gr hg1 HO.out)
  have HF1 := Lib.hid (HF.out.trans HV.out (Far.of_gr hg1))
  clear HA HM HR HO HF
  clear hg1 m4 m5
  have m6 := HM1.out.cell (i := 6) rfl
  have b3 := HA1.out.cell (i := 3) rfl
  go_wp2_with fail
  refine wp_region_held_drew (S := (fun w9 => w9.cell? ⟨w.heap.size, 6, none⟩ = some (.int .i64 slot) ∧ w9.cell? ⟨b, 3, none⟩ = some (.int .i64 ba))) (by kernel_rfl) ?invc (fun h0 => ?_)
  case invc => ((try dsimp only); (exact ⟨m6, b3⟩))
  refine wpAnyH_take (i := 0) (oi := { dst := some 16, op := Go.Op.fieldAddr 30 (Go.Operand.tmp 3) 5, type := 0, pos := "accept.go:107", after := #[], guard := none }) (v := ?vc1) rfl (by kernel_rfl) (by kernel_rfl) (by kernel_rfl) (fun _ _ _ h => h) (Or.inl ⟨by rfl, ?rc1⟩) (by assumption) ?_
  case rc1 => (intro w hSw; (try dsimp only at hSw); (go_simp <;> with_reducible rfl))
  try simp only [Act.put, List.setIfInBounds_toArray, List.set_cons_zero, List.set_cons_succ]
  refine wpAnyH_take (i := 1) (oi := { dst := some 17, op := Go.Op.load 3 (Go.Operand.tmp 16), type := 3, pos := "accept.go:107", after := #[{ on := 0, ground := Go.Ground.data }], guard := none }) (v := ?vc2) rfl (by kernel_rfl) (by kernel_rfl) (by kernel_rfl) (fun _ _ _ h => h) (Or.inl ⟨by rfl, ?rc2⟩) (by assumption) ?_
  case rc2 => (intro w hSw; (try dsimp only at hSw); (go_simp <;> with_reducible rfl))
  try simp only [Act.put, List.setIfInBounds_toArray, List.set_cons_zero, List.set_cons_succ]
  refine wpAnyH_take (i := 2) (oi := { dst := some 18, op := Go.Op.move (Go.Operand.tmp 0), type := 23, pos := "accept.go:107", after := #[], guard := none }) (v := ?vc3) rfl (by kernel_rfl) (by kernel_rfl) (by kernel_rfl) (fun _ _ _ h => h) (Or.inl ⟨by rfl, ?rc3⟩) (by assumption) ?_
  case rc3 => (intro w hSw; (try dsimp only at hSw); (go_simp <;> with_reducible rfl))
  try simp only [Act.put, List.setIfInBounds_toArray, List.set_cons_zero, List.set_cons_succ]
  refine wpAnyH_take (i := 3) (oi := { dst := some 19, op := Go.Op.nilCheck (Go.Operand.tmp 18), type := 0, pos := "accept.go:107", after := #[{ on := 2, ground := Go.Ground.data }], guard := none }) (v := ?vc4) rfl (by kernel_rfl) (by kernel_rfl) (by kernel_rfl) (fun _ _ _ h => h) (Or.inl ⟨by rfl, ?rc4⟩) (by assumption) ?_
  case rc4 => (intro w hSw; (try dsimp only at hSw); (go_simp <;> with_reducible rfl))
  try simp only [Act.put, List.setIfInBounds_toArray, List.set_cons_zero, List.set_cons_succ]
  refine wpAnyH_take (i := 4) (oi := { dst := some 20, op := Go.Op.fieldAddr 100 (Go.Operand.tmp 19) 2, type := 0, pos := "accept.go:107", after := #[{ on := 3, ground := Go.Ground.data }], guard := none }) (v := ?vc5) rfl (by kernel_rfl) (by kernel_rfl) (by kernel_rfl) (fun _ _ _ h => h) (Or.inl ⟨by rfl, ?rc5⟩) (by assumption) ?_
  case rc5 => (intro w hSw; (try dsimp only at hSw); (go_simp <;> with_reducible rfl))
  try simp only [Act.put, List.setIfInBounds_toArray, List.set_cons_zero, List.set_cons_succ]
  refine wpAnyH_take (i := 5) (oi := { dst := some 21, op := Go.Op.load 3 (Go.Operand.tmp 20), type := 3, pos := "accept.go:107", after := #[{ on := 4, ground := Go.Ground.data }], guard := none }) (v := ?vc6) rfl (by kernel_rfl) (by kernel_rfl) (by kernel_rfl) (fun _ _ _ h => h) (Or.inl ⟨by rfl, ?rc6⟩) (by assumption) ?_
  case rc6 => (intro w hSw; (try dsimp only at hSw); (go_simp <;> with_reducible rfl))
  try simp only [Act.put, List.setIfInBounds_toArray, List.set_cons_zero, List.set_cons_succ]
  refine wpAnyH_take (i := 6) (oi := { dst := some 22, op := Go.Op.binOp Go.BinOp.gtr 3 (Go.Operand.tmp 17) (Go.Operand.tmp 21) 3, type := 4, pos := "accept.go:107", after := #[{ on := 1, ground := Go.Ground.data }, { on := 5, ground := Go.Ground.data }], guard := none }) (v := (.bool true)) rfl (by kernel_rfl) (by kernel_rfl) (by kernel_rfl) (fun _ _ _ h => h) (Or.inl ⟨by rfl, ?rc7⟩) (by assumption) ?_
  case rc7 => (intro w hSw; (try dsimp only at hSw); go_simp; all_goals simp [HSL.out])
  try simp only [Act.put, List.setIfInBounds_toArray, List.set_cons_zero, List.set_cons_succ]
  refine wpAnyH_take (i := 7) (oi := { dst := some 6, op := Go.Op.assign (Go.Operand.tmp 22), type := 4, pos := "accept.go:107", after := #[{ on := 6, ground := Go.Ground.data }, { on := 0, ground := Go.Ground.phase }, { on := 1, ground := Go.Ground.phase }, { on := 2, ground := Go.Ground.phase }, { on := 3, ground := Go.Ground.phase }, { on := 4, ground := Go.Ground.phase }, { on := 5, ground := Go.Ground.phase }, { on := 6, ground := Go.Ground.phase }], guard := none }) (v := ?vc8) rfl (by kernel_rfl) (by kernel_rfl) (by kernel_rfl) (fun _ _ _ h => h) (Or.inl ⟨by rfl, ?rc8⟩) (by assumption) ?_
  case rc8 => (intro w hSw; (try dsimp only at hSw); (go_simp <;> with_reducible rfl))
  try simp only [Act.put, List.setIfInBounds_toArray, List.set_cons_zero, List.set_cons_succ]
  refine wpAnyH_done (by kernel_rfl) ?_ _
  have QP := Lib.hid h0
  clear h0 m6 b3
  have HA2 := Lib.hid (HA1.out.gr (Gr.refl w1).drew)
  have HM2 := Lib.hid (HM1.out.gr (Gr.refl w1).drew)
  have HR2 := Lib.hid (HR1.out.gr (Gr.refl w1).drew)
  have HO2 := Lib.hid (ownsRow_gr (Gr.refl w1).drew HO1.out)
  have HF2 := Lib.hid (HF1.out.trans HV.out (Far.of_gr (Gr.refl w1).drew))
  clear HA1 HM1 HR1 HO1 HF1
  have m6 := HM2.out.cell (i := 6) rfl
  go_wp2_with fail
  refine (find_any slot L _ HA2.out HO2.out hl ha).mono ?_
  rintro e w2 ⟨i, fd, rfl, hi, hcut, hfd, hg2⟩
  have HFD := Lib.hid hfd
  have HCUT := Lib.hid hcut
  have HA3 := Lib.hid (HA2.out.gr hg2)
  have HM3 := Lib.hid (HM2.out.gr hg2)
  have HR3 := Lib.hid (HR2.out.gr hg2)
  have HO3 := Lib.hid (ownsRow_gr hg2 HO2.out)
  have HF3 := Lib.hid (HF2.out.trans HV.out (Far.of_gr hg2))
  clear HA2 HM2 HR2 HO2 HF2
  clear hfd hcut hg2 m6
  obtain rfl : fd = false := by cases hq : fd with | false => rfl | true => exact absurd ((has_cut ha HCUT.out).2 (HFD.out.1 hq)) (by rw [hno]; simp)
  obtain ⟨va, vc, hv, _⟩ := ownsRow_slice HO3.out
  have b4 : w2.cell? ⟨b, 4, none⟩ = some (.slice va L.length vc) := by rw [← hv]; exact HA3.out.cell (i := 4) rfl
  clear hv
  have hge : (64 : Int) ≤ (L.length : Int) := by omega
  have HN := Lib.hid (show v.ownBlock ≠ some (w.heap.size + 1) from fun e => by have := HVP.out _ e; omega)
  obtain ⟨HT0, HO0, hat, hgr⟩ := msg_put HR3.out rfl [.int .i64 0, .int .i64 0, .int .i64 0, .int .i64 0, .int .u64 0, .int .i64 0, .int .i64 0, .int .i64 0, .bool false, .string ⟨#[]⟩, .slice none 0 0] rfl (by intro u hu; simp only [List.mem_cons, List.not_mem_nil, or_false] at hu; rcases hu with rfl | rfl | rfl | rfl | rfl | rfl | rfl | rfl | rfl | rfl | rfl <;> rfl)
  have z0 : (w2.setCells (w.heap.size + 1) 0 [.int .i64 0, .int .i64 0, .int .i64 0, .int .i64 0, .int .u64 0, .int .i64 0, .int .i64 0, .int .i64 0, .bool false, .string ⟨#[]⟩, .slice none 0 0]).cell? ⟨w.heap.size + 1, 0, none⟩ = some (.int .i64 0) := hat 0 (by decide)
  have z1 : (w2.setCells (w.heap.size + 1) 0 [.int .i64 0, .int .i64 0, .int .i64 0, .int .i64 0, .int .u64 0, .int .i64 0, .int .i64 0, .int .i64 0, .bool false, .string ⟨#[]⟩, .slice none 0 0]).cell? ⟨w.heap.size + 1, 1, none⟩ = some (.int .i64 0) := hat 1 (by decide)
  have z2 : (w2.setCells (w.heap.size + 1) 0 [.int .i64 0, .int .i64 0, .int .i64 0, .int .i64 0, .int .u64 0, .int .i64 0, .int .i64 0, .int .i64 0, .bool false, .string ⟨#[]⟩, .slice none 0 0]).cell? ⟨w.heap.size + 1, 2, none⟩ = some (.int .i64 0) := hat 2 (by decide)
  have z3 : (w2.setCells (w.heap.size + 1) 0 [.int .i64 0, .int .i64 0, .int .i64 0, .int .i64 0, .int .u64 0, .int .i64 0, .int .i64 0, .int .i64 0, .bool false, .string ⟨#[]⟩, .slice none 0 0]).cell? ⟨w.heap.size + 1, 3, none⟩ = some (.int .i64 0) := hat 3 (by decide)
  have z4 : (w2.setCells (w.heap.size + 1) 0 [.int .i64 0, .int .i64 0, .int .i64 0, .int .i64 0, .int .u64 0, .int .i64 0, .int .i64 0, .int .i64 0, .bool false, .string ⟨#[]⟩, .slice none 0 0]).cell? ⟨w.heap.size + 1, 4, none⟩ = some (.int .u64 0) := hat 4 (by decide)
  have z5 : (w2.setCells (w.heap.size + 1) 0 [.int .i64 0, .int .i64 0, .int .i64 0, .int .i64 0, .int .u64 0, .int .i64 0, .int .i64 0, .int .i64 0, .bool false, .string ⟨#[]⟩, .slice none 0 0]).cell? ⟨w.heap.size + 1, 5, none⟩ = some (.int .i64 0) := hat 5 (by decide)
  have z6 : (w2.setCells (w.heap.size + 1) 0 [.int .i64 0, .int .i64 0, .int .i64 0, .int .i64 0, .int .u64 0, .int .i64 0, .int .i64 0, .int .i64 0, .bool false, .string ⟨#[]⟩, .slice none 0 0]).cell? ⟨w.heap.size + 1, 6, none⟩ = some (.int .i64 0) := hat 6 (by decide)
  have z7 : (w2.setCells (w.heap.size + 1) 0 [.int .i64 0, .int .i64 0, .int .i64 0, .int .i64 0, .int .u64 0, .int .i64 0, .int .i64 0, .int .i64 0, .bool false, .string ⟨#[]⟩, .slice none 0 0]).cell? ⟨w.heap.size + 1, 7, none⟩ = some (.int .i64 0) := hat 7 (by decide)
  have z8 : (w2.setCells (w.heap.size + 1) 0 [.int .i64 0, .int .i64 0, .int .i64 0, .int .i64 0, .int .u64 0, .int .i64 0, .int .i64 0, .int .i64 0, .bool false, .string ⟨#[]⟩, .slice none 0 0]).cell? ⟨w.heap.size + 1, 8, none⟩ = some (.bool false) := hat 8 (by decide)
  have z9 : (w2.setCells (w.heap.size + 1) 0 [.int .i64 0, .int .i64 0, .int .i64 0, .int .i64 0, .int .u64 0, .int .i64 0, .int .i64 0, .int .i64 0, .bool false, .string ⟨#[]⟩, .slice none 0 0]).cell? ⟨w.heap.size + 1, 9, none⟩ = some (.string ⟨#[]⟩) := hat 9 (by decide)
  have z10 : (w2.setCells (w.heap.size + 1) 0 [.int .i64 0, .int .i64 0, .int .i64 0, .int .i64 0, .int .u64 0, .int .i64 0, .int .i64 0, .int .i64 0, .bool false, .string ⟨#[]⟩, .slice none 0 0]).cell? ⟨w.heap.size + 1, 10, none⟩ = some (.slice none 0 0) := hat 10 (by decide)
  have HAF := Lib.hid (HA3.out.grown hgr n2.symm)
  have HFF := Lib.hid (Far.grownV (v1 := v) HF3.out hgr (Nat.le_succ _))
  have HOF := Lib.hid (HO3.out.kept hgr (.inr HN.out))
  clear hat hgr
  generalize hMS : ([.int .i64 0, .int .i64 0, .int .i64 0, .int .i64 0, .int .u64 0, .int .i64 0, .int .i64 0, .int .i64 0, .bool false, .string ⟨#[]⟩, .slice none 0 0] : List Value) = ms at *
  have HMS := Lib.hid (show Value.agg #[.int .i64 0, .int .i64 0, .int .i64 0, .int .i64 0, .int .u64 0, .int .i64 0, .int .i64 0, .int .i64 0, .bool false, .string ⟨#[]⟩, .slice none 0 0] = Value.agg ms.toArray by rw [← hMS])
  have hml := Lib.hid (show ms.toArray.size = 11 by rw [← hMS]; rfl)
  have HTT := Lib.hid HT0
  have HOO := Lib.hid HO0
  clear hMS HT0 HO0
  go_wp2_with (first | (refine wpList_store_mid rfl 30 (.tmp 4) (.tmp 43) rfl (w.heap.size + 1) 0 ms.toArray (by rfl) (by first | rfl | exact HMS.out) HTT.out (by rw [hml.out]; exact info_msg) HOO.out ?_))
  refine bodyPost_ret (v := .tuple #[.agg #[.int .i64 0, .int .i64 0, .int .i64 0, .int .i64 0, .int .u64 0, .int .i64 0, .int .i64 0, .int .i64 0, .bool false, .string ⟨#[]⟩, .slice none 0 0], .bool false]) (by simp [results, Try.results14, go_sem, z0, z1, z2, z3, z4, z5, z6, z7, z8, z9, z10]; try rfl) rfl ?_
  exact ⟨rfl, HAF.out, HOF.out, HFF.out⟩
set_option maxRecDepth 100000 in
set_option maxHeartbeats 4000000 in
theorem accept_low {base b : Nat} {v : Value} {wit : Bool} {pc pn ba to til : Int} {L : List E} (kd frm tt sub c n slot time : Int) (ok : Bool) (text : ByteArray) (la : Option Addr) (ll lc : Nat) (w : World) (h : Blk w b #[.bool wit, .int .u64 pc, .int .i64 pn, .int .i64 ba, v, .int .i64 to, .int .i64 til] 100) (hr : w.ownsRow base 108 4 v L.length (rcells encE L)) (hl : L.length ≤ 1000) (ha : Asc L) (hb : base ≤ w.heap.size) (hlate : decide (cmpB c n pc pn < 0) = false) (hsl : ¬ ba < slot) :
    Calls Try.prog 14 #[.pointer (some ⟨b, 0, none⟩), .agg #[.int .i64 kd, .int .i64 frm, .int .i64 tt, .int .i64 sub, .int .u64 c, .int .i64 n, .int .i64 slot, .int .i64 time, .bool ok, .string text, .slice la ll lc]] w fun e w' => e = .returned (.tuple #[.agg #[.int .i64 4, .int .i64 0, .int .i64 0, .int .i64 0, .int .u64 c, .int .i64 n, .int .i64 slot, .int .i64 0, .bool false, .string ⟨#[]⟩, .slice none 0 0], .bool (decide (¬ (c = pc ∧ n = pn)))]) ∧ Blk w' b #[.bool wit, .int .u64 c, .int .i64 n, .int .i64 ba, v, .int .i64 to, .int .i64 til] 100 ∧ w'.ownsRow base 108 4 v (L).length (rcells encE (L)) ∧ Far b v w w' := by
  obtain ⟨q, hq⟩ : ∃ q, q = decide (¬ (c = pc ∧ n = pn)) := ⟨_, rfl⟩
  rw [← hq]
  have HQ := Lib.hid hq
  clear hq
  have HM := Lib.hid ((Blk.new w #[.int .i64 kd, .int .i64 frm, .int .i64 tt, .int .i64 sub, .int .u64 c, .int .i64 n, .int .i64 slot, .int .i64 time, .bool ok, .string text, .slice la ll lc] 30).gr ((Gr.refl _).alloc (.cells #[.int .i64 0, .int .i64 0, .int .i64 0, .int .i64 0, .int .u64 0, .int .i64 0, .int .i64 0, .int .i64 0, .bool false, .string ⟨#[]⟩, .slice none 0 0] 30)))
  have HR := Lib.hid (Blk.new (w.alloc (.cells #[.int .i64 kd, .int .i64 frm, .int .i64 tt, .int .i64 sub, .int .u64 c, .int .i64 n, .int .i64 slot, .int .i64 time, .bool ok, .string text, .slice la ll lc] 30)) #[.int .i64 0, .int .i64 0, .int .i64 0, .int .i64 0, .int .u64 0, .int .i64 0, .int .i64 0, .int .i64 0, .bool false, .string ⟨#[]⟩, .slice none 0 0] 30)
  rw [show (w.alloc (.cells #[.int .i64 kd, .int .i64 frm, .int .i64 tt, .int .i64 sub, .int .u64 c, .int .i64 n, .int .i64 slot, .int .i64 time, .bool ok, .string text, .slice la ll lc] 30)).heap.size = w.heap.size + 1 by simp] at HR
  have HG := Lib.hid (((Gr.refl w).alloc (.cells #[.int .i64 kd, .int .i64 frm, .int .i64 tt, .int .i64 sub, .int .u64 c, .int .i64 n, .int .i64 slot, .int .i64 time, .bool ok, .string text, .slice la ll lc] 30)).alloc (.cells #[.int .i64 0, .int .i64 0, .int .i64 0, .int .i64 0, .int .u64 0, .int .i64 0, .int .i64 0, .int .i64 0, .bool false, .string ⟨#[]⟩, .slice none 0 0] 30))
  have HA := Lib.hid (h.gr HG.out)
  have HO := Lib.hid (ownsRow_gr HG.out hr)
  have HF := Lib.hid (Far.of_gr (b := b) (v := v) HG.out)
  have HV := Lib.hid (From.refl v w)
  have HVB := Lib.hid (show v.ownBlock ≠ some b from row_off h hr (by decide))
  have HVP := Lib.hid (show ∀ k, v.ownBlock = some k → k < w.heap.size from fun k e => (hr.lt _ e).2)
  have hlt := h.lt
  have hbs : Hid (base ≤ ((w.alloc (.cells #[.int .i64 kd, .int .i64 frm, .int .i64 tt, .int .i64 sub, .int .u64 c, .int .i64 n, .int .i64 slot, .int .i64 time, .bool ok, .string text, .slice la ll lc] 30)).alloc (.cells #[.int .i64 0, .int .i64 0, .int .i64 0, .int .i64 0, .int .u64 0, .int .i64 0, .int .i64 0, .int .i64 0, .bool false, .string ⟨#[]⟩, .slice none 0 0] 30)).heap.size) := Lib.hid (Nat.le_trans hb HG.out.size)
  clear h hr HG
  go_enter Try.func14, Try.ntmps14
  go_wp2_with fail
  generalize (w.alloc (.cells #[.int .i64 kd, .int .i64 frm, .int .i64 tt, .int .i64 sub, .int .u64 c, .int .i64 n, .int .i64 slot, .int .i64 time, .bool ok, .string text, .slice la ll lc] 30)).alloc (.cells #[.int .i64 0, .int .i64 0, .int .i64 0, .int .i64 0, .int .u64 0, .int .i64 0, .int .i64 0, .int .i64 0, .bool false, .string ⟨#[]⟩, .slice none 0 0] 30) = wa at *
  have n1 : w.heap.size ≠ b := by omega
  have n2 : w.heap.size + 1 ≠ b := by omega
  have HL := Lib.hid hlate
  have HSL := Lib.hid hsl
  have m4 := HM.out.cell (i := 4) rfl
  have m5 := HM.out.cell (i := 5) rfl
  go_wp2_with fail
  refine (isLate_any c n _ HA.out).mono ?_
  rw [HL.out]
  rintro e w1 ⟨rfl, hg1⟩
  have HA1 := Lib.hid (HA.out.gr hg1)
  have HM1 := Lib.hid (HM.out.gr hg1)
  have HR1 := Lib.hid (HR.out.gr hg1)
  have HO1 := Lib.hid (ownsRow_gr hg1 HO.out)
  have HF1 := Lib.hid (HF.out.trans HV.out (Far.of_gr hg1))
  clear HA HM HR HO HF
  clear hg1 m4 m5
  have m6 := HM1.out.cell (i := 6) rfl
  have b3 := HA1.out.cell (i := 3) rfl
  go_wp2_with fail
  refine wp_region_held_drew (S := (fun w9 => w9.cell? ⟨w.heap.size, 6, none⟩ = some (.int .i64 slot) ∧ w9.cell? ⟨b, 3, none⟩ = some (.int .i64 ba))) (by kernel_rfl) ?invc (fun h0 => ?_)
  case invc => ((try dsimp only); (exact ⟨m6, b3⟩))
  refine wpAnyH_take (i := 0) (oi := { dst := some 16, op := Go.Op.fieldAddr 30 (Go.Operand.tmp 3) 5, type := 0, pos := "accept.go:107", after := #[], guard := none }) (v := ?vc1) rfl (by kernel_rfl) (by kernel_rfl) (by kernel_rfl) (fun _ _ _ h => h) (Or.inl ⟨by rfl, ?rc1⟩) (by assumption) ?_
  case rc1 => (intro w hSw; (try dsimp only at hSw); (go_simp <;> with_reducible rfl))
  try simp only [Act.put, List.setIfInBounds_toArray, List.set_cons_zero, List.set_cons_succ]
  refine wpAnyH_take (i := 1) (oi := { dst := some 17, op := Go.Op.load 3 (Go.Operand.tmp 16), type := 3, pos := "accept.go:107", after := #[{ on := 0, ground := Go.Ground.data }], guard := none }) (v := ?vc2) rfl (by kernel_rfl) (by kernel_rfl) (by kernel_rfl) (fun _ _ _ h => h) (Or.inl ⟨by rfl, ?rc2⟩) (by assumption) ?_
  case rc2 => (intro w hSw; (try dsimp only at hSw); (go_simp <;> with_reducible rfl))
  try simp only [Act.put, List.setIfInBounds_toArray, List.set_cons_zero, List.set_cons_succ]
  refine wpAnyH_take (i := 2) (oi := { dst := some 18, op := Go.Op.move (Go.Operand.tmp 0), type := 23, pos := "accept.go:107", after := #[], guard := none }) (v := ?vc3) rfl (by kernel_rfl) (by kernel_rfl) (by kernel_rfl) (fun _ _ _ h => h) (Or.inl ⟨by rfl, ?rc3⟩) (by assumption) ?_
  case rc3 => (intro w hSw; (try dsimp only at hSw); (go_simp <;> with_reducible rfl))
  try simp only [Act.put, List.setIfInBounds_toArray, List.set_cons_zero, List.set_cons_succ]
  refine wpAnyH_take (i := 3) (oi := { dst := some 19, op := Go.Op.nilCheck (Go.Operand.tmp 18), type := 0, pos := "accept.go:107", after := #[{ on := 2, ground := Go.Ground.data }], guard := none }) (v := ?vc4) rfl (by kernel_rfl) (by kernel_rfl) (by kernel_rfl) (fun _ _ _ h => h) (Or.inl ⟨by rfl, ?rc4⟩) (by assumption) ?_
  case rc4 => (intro w hSw; (try dsimp only at hSw); (go_simp <;> with_reducible rfl))
  try simp only [Act.put, List.setIfInBounds_toArray, List.set_cons_zero, List.set_cons_succ]
  refine wpAnyH_take (i := 4) (oi := { dst := some 20, op := Go.Op.fieldAddr 100 (Go.Operand.tmp 19) 2, type := 0, pos := "accept.go:107", after := #[{ on := 3, ground := Go.Ground.data }], guard := none }) (v := ?vc5) rfl (by kernel_rfl) (by kernel_rfl) (by kernel_rfl) (fun _ _ _ h => h) (Or.inl ⟨by rfl, ?rc5⟩) (by assumption) ?_
  case rc5 => (intro w hSw; (try dsimp only at hSw); (go_simp <;> with_reducible rfl))
  try simp only [Act.put, List.setIfInBounds_toArray, List.set_cons_zero, List.set_cons_succ]
  refine wpAnyH_take (i := 5) (oi := { dst := some 21, op := Go.Op.load 3 (Go.Operand.tmp 20), type := 3, pos := "accept.go:107", after := #[{ on := 4, ground := Go.Ground.data }], guard := none }) (v := ?vc6) rfl (by kernel_rfl) (by kernel_rfl) (by kernel_rfl) (fun _ _ _ h => h) (Or.inl ⟨by rfl, ?rc6⟩) (by assumption) ?_
  case rc6 => (intro w hSw; (try dsimp only at hSw); (go_simp <;> with_reducible rfl))
  try simp only [Act.put, List.setIfInBounds_toArray, List.set_cons_zero, List.set_cons_succ]
  refine wpAnyH_take (i := 6) (oi := { dst := some 22, op := Go.Op.binOp Go.BinOp.gtr 3 (Go.Operand.tmp 17) (Go.Operand.tmp 21) 3, type := 4, pos := "accept.go:107", after := #[{ on := 1, ground := Go.Ground.data }, { on := 5, ground := Go.Ground.data }], guard := none }) (v := (.bool false)) rfl (by kernel_rfl) (by kernel_rfl) (by kernel_rfl) (fun _ _ _ h => h) (Or.inl ⟨by rfl, ?rc7⟩) (by assumption) ?_
  case rc7 => (intro w hSw; (try dsimp only at hSw); go_simp; all_goals simp [HSL.out])
  try simp only [Act.put, List.setIfInBounds_toArray, List.set_cons_zero, List.set_cons_succ]
  refine wpAnyH_take (i := 7) (oi := { dst := some 6, op := Go.Op.assign (Go.Operand.tmp 22), type := 4, pos := "accept.go:107", after := #[{ on := 6, ground := Go.Ground.data }, { on := 0, ground := Go.Ground.phase }, { on := 1, ground := Go.Ground.phase }, { on := 2, ground := Go.Ground.phase }, { on := 3, ground := Go.Ground.phase }, { on := 4, ground := Go.Ground.phase }, { on := 5, ground := Go.Ground.phase }, { on := 6, ground := Go.Ground.phase }], guard := none }) (v := ?vc8) rfl (by kernel_rfl) (by kernel_rfl) (by kernel_rfl) (fun _ _ _ h => h) (Or.inl ⟨by rfl, ?rc8⟩) (by assumption) ?_
  case rc8 => (intro w hSw; (try dsimp only at hSw); (go_simp <;> with_reducible rfl))
  try simp only [Act.put, List.setIfInBounds_toArray, List.set_cons_zero, List.set_cons_succ]
  refine wpAnyH_done (by kernel_rfl) ?_ _
  have QP := Lib.hid h0
  clear h0 m6 b3
  have HA2 := Lib.hid (HA1.out.gr (Gr.refl w1).drew)
  have HM2 := Lib.hid (HM1.out.gr (Gr.refl w1).drew)
  have HR2 := Lib.hid (HR1.out.gr (Gr.refl w1).drew)
  have HO2 := Lib.hid (ownsRow_gr (Gr.refl w1).drew HO1.out)
  have HF2 := Lib.hid (HF1.out.trans HV.out (Far.of_gr (Gr.refl w1).drew))
  clear HA1 HM1 HR1 HO1 HF1
  have m6 := HM2.out.cell (i := 6) rfl
  go_wp2_with fail
  refine (find_any slot L _ HA2.out HO2.out hl ha).mono ?_
  rintro e w2 ⟨i, fd, rfl, hi, hcut, hfd, hg2⟩
  have HFD := Lib.hid hfd
  have HCUT := Lib.hid hcut
  have HA3 := Lib.hid (HA2.out.gr hg2)
  have HM3 := Lib.hid (HM2.out.gr hg2)
  have HR3 := Lib.hid (HR2.out.gr hg2)
  have HO3 := Lib.hid (ownsRow_gr hg2 HO2.out)
  have HF3 := Lib.hid (HF2.out.trans HV.out (Far.of_gr hg2))
  clear HA2 HM2 HR2 HO2 HF2
  clear hfd hcut hg2 m6
  have m4 := HM3.out.cell (i := 4) rfl
  have m5 := HM3.out.cell (i := 5) rfl
  go_wp2_with fail
  refine (promise_any c n _ HA3.out).mono ?_
  rw [← HQ.out]
  rintro e w3 ⟨rfl, hA3, hf3⟩
  have HA4 := Lib.hid hA3
  have HM4 := Lib.hid (HM3.out.far hf3 n1 (by simp [Value.ownBlock]))
  have HR4 := Lib.hid (HR3.out.far hf3 n2 (by simp [Value.ownBlock]))
  have HO4 := Lib.hid (ownsRow_far hf3 HO3.out HVB.out (fun k _ => by simp [Value.ownBlock]))
  have HF4 := Lib.hid (HF3.out.trans HV.out (Far.any hf3))
  clear HA3 HM3 HR3 HO3 HF3
  clear hA3 hf3 m4 m5
  go_wp2_with fail
  have m6 := HM4.out.cell (i := 6) rfl
  refine wp_region_held_drew (S := (fun w9 => w9.cell? ⟨w.heap.size, 6, none⟩ = some (.int .i64 slot))) (by kernel_rfl) ?invd (fun h0 => ?_)
  case invd => ((try dsimp only); (exact m6))
  refine wpAnyH_take (i := 0) (oi := { dst := some 48, op := Go.Op.move (Go.Operand.tmp 6), type := 4, pos := "accept.go:112", after := #[], guard := none }) (v := ?vd1) rfl (by kernel_rfl) (by kernel_rfl) (by kernel_rfl) (fun _ _ _ h => h) (Or.inl ⟨by rfl, ?rd1⟩) (by assumption) ?_
  case rd1 => (intro w hSw; (try dsimp only at hSw); (go_simp <;> with_reducible rfl))
  try simp only [Act.put, List.setIfInBounds_toArray, List.set_cons_zero, List.set_cons_succ]
  refine wpAnyH_take (i := 1) (oi := { dst := some 49, op := Go.Op.move (Go.Operand.tmp 48), type := 4, pos := "accept.go:112", after := #[{ on := 0, ground := Go.Ground.data }], guard := none }) (v := ?vd2) rfl (by kernel_rfl) (by kernel_rfl) (by kernel_rfl) (fun _ _ _ h => h) (Or.inl ⟨by rfl, ?rd2⟩) (by assumption) ?_
  case rd2 => (intro w hSw; (try dsimp only at hSw); (go_simp <;> with_reducible rfl))
  try simp only [Act.put, List.setIfInBounds_toArray, List.set_cons_zero, List.set_cons_succ]
  refine wpAnyH_take (i := 2) (oi := { dst := some 50, op := Go.Op.move (Go.Operand.tmp 0), type := 23, pos := "accept.go:112", after := #[{ on := 1, ground := Go.Ground.guard }], guard := some (1, true) }) (v := undef) rfl (by kernel_rfl) (by kernel_rfl) (by kernel_rfl) (fun _ _ _ h => h) (Or.inr ⟨by rfl, rfl⟩) (by assumption) ?_
  try simp only [Act.put, List.setIfInBounds_toArray, List.set_cons_zero, List.set_cons_succ]
  refine wpAnyH_take (i := 3) (oi := { dst := some 51, op := Go.Op.fieldAddr 30 (Go.Operand.tmp 3) 5, type := 0, pos := "accept.go:112", after := #[{ on := 1, ground := Go.Ground.guard }], guard := some (1, true) }) (v := undef) rfl (by kernel_rfl) (by kernel_rfl) (by kernel_rfl) (fun _ _ _ h => h) (Or.inr ⟨by rfl, rfl⟩) (by assumption) ?_
  try simp only [Act.put, List.setIfInBounds_toArray, List.set_cons_zero, List.set_cons_succ]
  refine wpAnyH_take (i := 4) (oi := { dst := some 52, op := Go.Op.load 3 (Go.Operand.tmp 51), type := 3, pos := "accept.go:112", after := #[{ on := 3, ground := Go.Ground.data }, { on := 1, ground := Go.Ground.guard }], guard := some (1, true) }) (v := undef) rfl (by kernel_rfl) (by kernel_rfl) (by kernel_rfl) (fun _ _ _ h => h) (Or.inr ⟨by rfl, rfl⟩) (by assumption) ?_
  try simp only [Act.put, List.setIfInBounds_toArray, List.set_cons_zero, List.set_cons_succ]
  refine wpAnyH_take (i := 5) (oi := { dst := some 53, op := Go.Op.fieldAddr 30 (Go.Operand.tmp 3) 4, type := 0, pos := "accept.go:112", after := #[{ on := 1, ground := Go.Ground.guard }], guard := some (1, true) }) (v := undef) rfl (by kernel_rfl) (by kernel_rfl) (by kernel_rfl) (fun _ _ _ h => h) (Or.inr ⟨by rfl, rfl⟩) (by assumption) ?_
  try simp only [Act.put, List.setIfInBounds_toArray, List.set_cons_zero, List.set_cons_succ]
  refine wpAnyH_take (i := 6) (oi := { dst := some 54, op := Go.Op.load 27 (Go.Operand.tmp 53), type := 27, pos := "accept.go:112", after := #[{ on := 5, ground := Go.Ground.data }, { on := 1, ground := Go.Ground.guard }], guard := some (1, true) }) (v := undef) rfl (by kernel_rfl) (by kernel_rfl) (by kernel_rfl) (fun _ _ _ h => h) (Or.inr ⟨by rfl, rfl⟩) (by assumption) ?_
  try simp only [Act.put, List.setIfInBounds_toArray, List.set_cons_zero, List.set_cons_succ]
  refine wpAnyH_take (i := 7) (oi := { dst := some 55, op := Go.Op.move (Go.Operand.tmp 0), type := 23, pos := "accept.go:112", after := #[{ on := 1, ground := Go.Ground.guard }], guard := some (1, true) }) (v := undef) rfl (by kernel_rfl) (by kernel_rfl) (by kernel_rfl) (fun _ _ _ h => h) (Or.inr ⟨by rfl, rfl⟩) (by assumption) ?_
  try simp only [Act.put, List.setIfInBounds_toArray, List.set_cons_zero, List.set_cons_succ]
  refine wpAnyH_take (i := 8) (oi := { dst := some 56, op := Go.Op.fieldAddr 30 (Go.Operand.tmp 3) 8, type := 0, pos := "accept.go:112", after := #[{ on := 1, ground := Go.Ground.guard }], guard := some (1, true) }) (v := undef) rfl (by kernel_rfl) (by kernel_rfl) (by kernel_rfl) (fun _ _ _ h => h) (Or.inr ⟨by rfl, rfl⟩) (by assumption) ?_
  try simp only [Act.put, List.setIfInBounds_toArray, List.set_cons_zero, List.set_cons_succ]
  refine wpAnyH_take (i := 9) (oi := { dst := some 57, op := Go.Op.load 9 (Go.Operand.tmp 56), type := 9, pos := "accept.go:112", after := #[{ on := 8, ground := Go.Ground.data }, { on := 1, ground := Go.Ground.guard }], guard := some (1, true) }) (v := undef) rfl (by kernel_rfl) (by kernel_rfl) (by kernel_rfl) (fun _ _ _ h => h) (Or.inr ⟨by rfl, rfl⟩) (by assumption) ?_
  try simp only [Act.put, List.setIfInBounds_toArray, List.set_cons_zero, List.set_cons_succ]
  refine wpAnyH_take (i := 10) (oi := { dst := some 58, op := Go.Op.call { callee := Go.Callee.value (Go.Operand.func 62), args := #[Go.Operand.tmp 55, Go.Operand.tmp 57], argTypes := #[23, 9] }, type := 9, pos := "accept.go:112", after := #[{ on := 7, ground := Go.Ground.data }, { on := 9, ground := Go.Ground.data }, { on := 1, ground := Go.Ground.chain }, { on := 1, ground := Go.Ground.guard }], guard := some (1, true) }) (v := undef) rfl (by kernel_rfl) (by kernel_rfl) (by kernel_rfl) (fun _ _ _ h => h) (Or.inr ⟨by rfl, rfl⟩) (by assumption) ?_
  try simp only [Act.put, List.setIfInBounds_toArray, List.set_cons_zero, List.set_cons_succ]
  refine wpAnyH_take (i := 11) (oi := { dst := some 59, op := Go.Op.build 108 #[(0, Go.Operand.tmp 52), (1, Go.Operand.tmp 54), (2, Go.Operand.tmp 58)], type := 108, pos := "accept.go:112", after := #[{ on := 4, ground := Go.Ground.data }, { on := 6, ground := Go.Ground.data }, { on := 10, ground := Go.Ground.data }, { on := 1, ground := Go.Ground.guard }], guard := some (1, true) }) (v := undef) rfl (by kernel_rfl) (by kernel_rfl) (by kernel_rfl) (fun _ _ _ h => h) (Or.inr ⟨by rfl, rfl⟩) (by assumption) ?_
  try simp only [Act.put, List.setIfInBounds_toArray, List.set_cons_zero, List.set_cons_succ]
  refine wpAnyH_take (i := 12) (oi := { dst := some 60, op := Go.Op.call { callee := Go.Callee.value (Go.Operand.func 61), args := #[Go.Operand.tmp 50, Go.Operand.tmp 59], argTypes := #[23, 108] }, type := 4, pos := "accept.go:112", after := #[{ on := 2, ground := Go.Ground.data }, { on := 11, ground := Go.Ground.data }, { on := 10, ground := Go.Ground.chain }, { on := 1, ground := Go.Ground.guard }], guard := some (1, true) }) (v := undef) rfl (by kernel_rfl) (by kernel_rfl) (by kernel_rfl) (fun _ _ _ h => h) (Or.inr ⟨by rfl, rfl⟩) (by assumption) ?_
  try simp only [Act.put, List.setIfInBounds_toArray, List.set_cons_zero, List.set_cons_succ]
  refine wpAnyH_take (i := 13) (oi := { dst := some 61, op := Go.Op.pick (Go.Operand.tmp 49) (Go.Operand.tmp 60) (Go.Operand.const (Go.Value.bool false)), type := 4, pos := "accept.go:112", after := #[{ on := 1, ground := Go.Ground.data }, { on := 12, ground := Go.Ground.data }], guard := none }) (v := ?vd3) rfl (by kernel_rfl) (by kernel_rfl) (by kernel_rfl) (fun _ _ _ h => h) (Or.inl ⟨by rfl, ?rd3⟩) (by assumption) ?_
  case rd3 => (intro w hSw; (try dsimp only at hSw); (go_simp <;> with_reducible rfl))
  try simp only [Act.put, List.setIfInBounds_toArray, List.set_cons_zero, List.set_cons_succ]
  refine wpAnyH_done (by kernel_rfl) ?_ _
  clear h0 m6
  have HA5 := Lib.hid (HA4.out.gr (Gr.refl w3).drew)
  have HM5 := Lib.hid (HM4.out.gr (Gr.refl w3).drew)
  have HR5 := Lib.hid (HR4.out.gr (Gr.refl w3).drew)
  have HO5 := Lib.hid (ownsRow_gr (Gr.refl w3).drew HO4.out)
  have HF5 := Lib.hid (HF4.out.trans HV.out (Far.of_gr (Gr.refl w3).drew))
  clear HA4 HM4 HR4 HO4 HF4
  have HN := Lib.hid (show v.ownBlock ≠ some (w.heap.size + 1) from fun e => by have := HVP.out _ e; omega)
  have m4 := HM5.out.cell (i := 4) rfl
  have m5 := HM5.out.cell (i := 5) rfl
  have m6 := HM5.out.cell (i := 6) rfl
  obtain ⟨HT0, HO0, hat, hgr⟩ := msg_put HR5.out rfl [.int .i64 4, .int .i64 0, .int .i64 0, .int .i64 0, .int .u64 c, .int .i64 n, .int .i64 slot, .int .i64 0, .bool false, .string ⟨#[]⟩, .slice none 0 0] rfl (by intro u hu; simp only [List.mem_cons, List.not_mem_nil, or_false] at hu; rcases hu with rfl | rfl | rfl | rfl | rfl | rfl | rfl | rfl | rfl | rfl | rfl <;> rfl)
  have z0 : (w3.drew.setCells (w.heap.size + 1) 0 [.int .i64 4, .int .i64 0, .int .i64 0, .int .i64 0, .int .u64 c, .int .i64 n, .int .i64 slot, .int .i64 0, .bool false, .string ⟨#[]⟩, .slice none 0 0]).cell? ⟨w.heap.size + 1, 0, none⟩ = some (.int .i64 4) := hat 0 (by decide)
  have z1 : (w3.drew.setCells (w.heap.size + 1) 0 [.int .i64 4, .int .i64 0, .int .i64 0, .int .i64 0, .int .u64 c, .int .i64 n, .int .i64 slot, .int .i64 0, .bool false, .string ⟨#[]⟩, .slice none 0 0]).cell? ⟨w.heap.size + 1, 1, none⟩ = some (.int .i64 0) := hat 1 (by decide)
  have z2 : (w3.drew.setCells (w.heap.size + 1) 0 [.int .i64 4, .int .i64 0, .int .i64 0, .int .i64 0, .int .u64 c, .int .i64 n, .int .i64 slot, .int .i64 0, .bool false, .string ⟨#[]⟩, .slice none 0 0]).cell? ⟨w.heap.size + 1, 2, none⟩ = some (.int .i64 0) := hat 2 (by decide)
  have z3 : (w3.drew.setCells (w.heap.size + 1) 0 [.int .i64 4, .int .i64 0, .int .i64 0, .int .i64 0, .int .u64 c, .int .i64 n, .int .i64 slot, .int .i64 0, .bool false, .string ⟨#[]⟩, .slice none 0 0]).cell? ⟨w.heap.size + 1, 3, none⟩ = some (.int .i64 0) := hat 3 (by decide)
  have z4 : (w3.drew.setCells (w.heap.size + 1) 0 [.int .i64 4, .int .i64 0, .int .i64 0, .int .i64 0, .int .u64 c, .int .i64 n, .int .i64 slot, .int .i64 0, .bool false, .string ⟨#[]⟩, .slice none 0 0]).cell? ⟨w.heap.size + 1, 4, none⟩ = some (.int .u64 c) := hat 4 (by decide)
  have z5 : (w3.drew.setCells (w.heap.size + 1) 0 [.int .i64 4, .int .i64 0, .int .i64 0, .int .i64 0, .int .u64 c, .int .i64 n, .int .i64 slot, .int .i64 0, .bool false, .string ⟨#[]⟩, .slice none 0 0]).cell? ⟨w.heap.size + 1, 5, none⟩ = some (.int .i64 n) := hat 5 (by decide)
  have z6 : (w3.drew.setCells (w.heap.size + 1) 0 [.int .i64 4, .int .i64 0, .int .i64 0, .int .i64 0, .int .u64 c, .int .i64 n, .int .i64 slot, .int .i64 0, .bool false, .string ⟨#[]⟩, .slice none 0 0]).cell? ⟨w.heap.size + 1, 6, none⟩ = some (.int .i64 slot) := hat 6 (by decide)
  have z7 : (w3.drew.setCells (w.heap.size + 1) 0 [.int .i64 4, .int .i64 0, .int .i64 0, .int .i64 0, .int .u64 c, .int .i64 n, .int .i64 slot, .int .i64 0, .bool false, .string ⟨#[]⟩, .slice none 0 0]).cell? ⟨w.heap.size + 1, 7, none⟩ = some (.int .i64 0) := hat 7 (by decide)
  have z8 : (w3.drew.setCells (w.heap.size + 1) 0 [.int .i64 4, .int .i64 0, .int .i64 0, .int .i64 0, .int .u64 c, .int .i64 n, .int .i64 slot, .int .i64 0, .bool false, .string ⟨#[]⟩, .slice none 0 0]).cell? ⟨w.heap.size + 1, 8, none⟩ = some (.bool false) := hat 8 (by decide)
  have z9 : (w3.drew.setCells (w.heap.size + 1) 0 [.int .i64 4, .int .i64 0, .int .i64 0, .int .i64 0, .int .u64 c, .int .i64 n, .int .i64 slot, .int .i64 0, .bool false, .string ⟨#[]⟩, .slice none 0 0]).cell? ⟨w.heap.size + 1, 9, none⟩ = some (.string ⟨#[]⟩) := hat 9 (by decide)
  have z10 : (w3.drew.setCells (w.heap.size + 1) 0 [.int .i64 4, .int .i64 0, .int .i64 0, .int .i64 0, .int .u64 c, .int .i64 n, .int .i64 slot, .int .i64 0, .bool false, .string ⟨#[]⟩, .slice none 0 0]).cell? ⟨w.heap.size + 1, 10, none⟩ = some (.slice none 0 0) := hat 10 (by decide)
  have HAF := Lib.hid (HA5.out.grown hgr n2.symm)
  have HFF := Lib.hid (Far.grownV (v1 := v) HF5.out hgr (Nat.le_succ _))
  have HOF := Lib.hid (HO5.out.kept hgr (.inr HN.out))
  clear hat hgr
  generalize hMS : ([.int .i64 4, .int .i64 0, .int .i64 0, .int .i64 0, .int .u64 c, .int .i64 n, .int .i64 slot, .int .i64 0, .bool false, .string ⟨#[]⟩, .slice none 0 0] : List Value) = ms at *
  have HMS := Lib.hid (show Value.agg #[.int .i64 4, .int .i64 0, .int .i64 0, .int .i64 0, .int .u64 c, .int .i64 n, .int .i64 slot, .int .i64 0, .bool false, .string ⟨#[]⟩, .slice none 0 0] = Value.agg ms.toArray by rw [← hMS])
  have hml := Lib.hid (show ms.toArray.size = 11 by rw [← hMS]; rfl)
  have HTT := Lib.hid HT0
  have HOO := Lib.hid HO0
  clear hMS HT0 HO0
  go_wp2_with (first | (refine wpList_store_mid rfl 30 (.tmp 4) (.tmp 66) rfl (w.heap.size + 1) 0 ms.toArray (by rfl) (by first | rfl | exact HMS.out) HTT.out (by rw [hml.out]; exact info_msg) HOO.out ?_))
  refine bodyPost_ret (v := .tuple #[.agg #[.int .i64 4, .int .i64 0, .int .i64 0, .int .i64 0, .int .u64 c, .int .i64 n, .int .i64 slot, .int .i64 0, .bool false, .string ⟨#[]⟩, .slice none 0 0], .bool q]) (by simp [results, Try.results14, go_sem, z0, z1, z2, z3, z4, z5, z6, z7, z8, z9, z10]; try rfl) rfl ?_
  exact ⟨rfl, HAF.out, HOF.out, HFF.out⟩
set_option maxRecDepth 100000 in
set_option maxHeartbeats 4000000 in
theorem accept_in {base b : Nat} {v : Value} {wit : Bool} {pc pn ba to til : Int} {L : List E} (kd frm tt sub c n slot time : Int) (ok : Bool) (text : ByteArray) (la : Option Addr) (ll lc : Nat) (w : World) (h : Blk w b #[.bool wit, .int .u64 pc, .int .i64 pn, .int .i64 ba, v, .int .i64 to, .int .i64 til] 100) (hr : w.ownsRow base 108 4 v L.length (rcells encE L)) (hl : L.length ≤ 1000) (ha : Asc L) (hb : base ≤ w.heap.size) (ht : text.size ≤ 1000000) (hlate : decide (cmpB c n pc pn < 0) = false) (hsl : ba < slot) (hin : hasE L slot = true) :
    Calls Try.prog 14 #[.pointer (some ⟨b, 0, none⟩), .agg #[.int .i64 kd, .int .i64 frm, .int .i64 tt, .int .i64 sub, .int .u64 c, .int .i64 n, .int .i64 slot, .int .i64 time, .bool ok, .string text, .slice la ll lc]] w fun e w' => ∃ v', e = .returned (.tuple #[.agg #[.int .i64 4, .int .i64 0, .int .i64 0, .int .i64 0, .int .u64 c, .int .i64 n, .int .i64 slot, .int .i64 0, .bool false, .string ⟨#[]⟩, .slice none 0 0], .bool (decide (¬ (c = pc ∧ n = pn)) || !(sameE (oldE L slot) ⟨slot, c, n, kept16 wit text⟩))]) ∧ Blk w' b #[.bool wit, .int .u64 c, .int .i64 n, .int .i64 ba, v', .int .i64 to, .int .i64 til] 100 ∧ w'.ownsRow base 108 4 v' (setE L ⟨slot, c, n, kept16 wit text⟩).length (rcells encE (setE L ⟨slot, c, n, kept16 wit text⟩)) ∧ Far b v w w' ∧ From v w v' := by
  obtain ⟨q, hq⟩ : ∃ q, q = decide (¬ (c = pc ∧ n = pn)) := ⟨_, rfl⟩
  rw [← hq]
  have HQ := Lib.hid hq
  clear hq
  obtain ⟨x, hx⟩ : ∃ x, x = !(sameE (oldE L slot) ⟨slot, c, n, kept16 wit text⟩) := ⟨_, rfl⟩
  rw [← hx]
  have HX := Lib.hid hx
  clear hx
  have HM := Lib.hid ((Blk.new w #[.int .i64 kd, .int .i64 frm, .int .i64 tt, .int .i64 sub, .int .u64 c, .int .i64 n, .int .i64 slot, .int .i64 time, .bool ok, .string text, .slice la ll lc] 30).gr ((Gr.refl _).alloc (.cells #[.int .i64 0, .int .i64 0, .int .i64 0, .int .i64 0, .int .u64 0, .int .i64 0, .int .i64 0, .int .i64 0, .bool false, .string ⟨#[]⟩, .slice none 0 0] 30)))
  have HR := Lib.hid (Blk.new (w.alloc (.cells #[.int .i64 kd, .int .i64 frm, .int .i64 tt, .int .i64 sub, .int .u64 c, .int .i64 n, .int .i64 slot, .int .i64 time, .bool ok, .string text, .slice la ll lc] 30)) #[.int .i64 0, .int .i64 0, .int .i64 0, .int .i64 0, .int .u64 0, .int .i64 0, .int .i64 0, .int .i64 0, .bool false, .string ⟨#[]⟩, .slice none 0 0] 30)
  rw [show (w.alloc (.cells #[.int .i64 kd, .int .i64 frm, .int .i64 tt, .int .i64 sub, .int .u64 c, .int .i64 n, .int .i64 slot, .int .i64 time, .bool ok, .string text, .slice la ll lc] 30)).heap.size = w.heap.size + 1 by simp] at HR
  have HG := Lib.hid (((Gr.refl w).alloc (.cells #[.int .i64 kd, .int .i64 frm, .int .i64 tt, .int .i64 sub, .int .u64 c, .int .i64 n, .int .i64 slot, .int .i64 time, .bool ok, .string text, .slice la ll lc] 30)).alloc (.cells #[.int .i64 0, .int .i64 0, .int .i64 0, .int .i64 0, .int .u64 0, .int .i64 0, .int .i64 0, .int .i64 0, .bool false, .string ⟨#[]⟩, .slice none 0 0] 30))
  have HA := Lib.hid (h.gr HG.out)
  have HO := Lib.hid (ownsRow_gr HG.out hr)
  have HF := Lib.hid (Far.of_gr (b := b) (v := v) HG.out)
  have HV := Lib.hid (From.refl v w)
  have HVB := Lib.hid (show v.ownBlock ≠ some b from row_off h hr (by decide))
  have HVP := Lib.hid (show ∀ k, v.ownBlock = some k → k < w.heap.size from fun k e => (hr.lt _ e).2)
  have hlt := h.lt
  have hbs : Hid (base ≤ ((w.alloc (.cells #[.int .i64 kd, .int .i64 frm, .int .i64 tt, .int .i64 sub, .int .u64 c, .int .i64 n, .int .i64 slot, .int .i64 time, .bool ok, .string text, .slice la ll lc] 30)).alloc (.cells #[.int .i64 0, .int .i64 0, .int .i64 0, .int .i64 0, .int .u64 0, .int .i64 0, .int .i64 0, .int .i64 0, .bool false, .string ⟨#[]⟩, .slice none 0 0] 30)).heap.size) := Lib.hid (Nat.le_trans hb HG.out.size)
  clear h hr HG
  go_enter Try.func14, Try.ntmps14
  go_wp2_with fail
  generalize (w.alloc (.cells #[.int .i64 kd, .int .i64 frm, .int .i64 tt, .int .i64 sub, .int .u64 c, .int .i64 n, .int .i64 slot, .int .i64 time, .bool ok, .string text, .slice la ll lc] 30)).alloc (.cells #[.int .i64 0, .int .i64 0, .int .i64 0, .int .i64 0, .int .u64 0, .int .i64 0, .int .i64 0, .int .i64 0, .bool false, .string ⟨#[]⟩, .slice none 0 0] 30) = wa at *
  have n1 : w.heap.size ≠ b := by omega
  have n2 : w.heap.size + 1 ≠ b := by omega
  have HL := Lib.hid hlate
  have HSL := Lib.hid hsl
  have m4 := HM.out.cell (i := 4) rfl
  have m5 := HM.out.cell (i := 5) rfl
  go_wp2_with fail
  refine (isLate_any c n _ HA.out).mono ?_
  rw [HL.out]
  rintro e w1 ⟨rfl, hg1⟩
  have HA1 := Lib.hid (HA.out.gr hg1)
  have HM1 := Lib.hid (HM.out.gr hg1)
  have HR1 := Lib.hid (HR.out.gr hg1)
  have HO1 := Lib.hid (ownsRow_gr hg1 HO.out)
  have HF1 := Lib.hid (HF.out.trans HV.out (Far.of_gr hg1))
  clear HA HM HR HO HF
  clear hg1 m4 m5
  have m6 := HM1.out.cell (i := 6) rfl
  have b3 := HA1.out.cell (i := 3) rfl
  go_wp2_with fail
  refine wp_region_held_drew (S := (fun w9 => w9.cell? ⟨w.heap.size, 6, none⟩ = some (.int .i64 slot) ∧ w9.cell? ⟨b, 3, none⟩ = some (.int .i64 ba))) (by kernel_rfl) ?invc (fun h0 => ?_)
  case invc => ((try dsimp only); (exact ⟨m6, b3⟩))
  refine wpAnyH_take (i := 0) (oi := { dst := some 16, op := Go.Op.fieldAddr 30 (Go.Operand.tmp 3) 5, type := 0, pos := "accept.go:107", after := #[], guard := none }) (v := ?vc1) rfl (by kernel_rfl) (by kernel_rfl) (by kernel_rfl) (fun _ _ _ h => h) (Or.inl ⟨by rfl, ?rc1⟩) (by assumption) ?_
  case rc1 => (intro w hSw; (try dsimp only at hSw); (go_simp <;> with_reducible rfl))
  try simp only [Act.put, List.setIfInBounds_toArray, List.set_cons_zero, List.set_cons_succ]
  refine wpAnyH_take (i := 1) (oi := { dst := some 17, op := Go.Op.load 3 (Go.Operand.tmp 16), type := 3, pos := "accept.go:107", after := #[{ on := 0, ground := Go.Ground.data }], guard := none }) (v := ?vc2) rfl (by kernel_rfl) (by kernel_rfl) (by kernel_rfl) (fun _ _ _ h => h) (Or.inl ⟨by rfl, ?rc2⟩) (by assumption) ?_
  case rc2 => (intro w hSw; (try dsimp only at hSw); (go_simp <;> with_reducible rfl))
  try simp only [Act.put, List.setIfInBounds_toArray, List.set_cons_zero, List.set_cons_succ]
  refine wpAnyH_take (i := 2) (oi := { dst := some 18, op := Go.Op.move (Go.Operand.tmp 0), type := 23, pos := "accept.go:107", after := #[], guard := none }) (v := ?vc3) rfl (by kernel_rfl) (by kernel_rfl) (by kernel_rfl) (fun _ _ _ h => h) (Or.inl ⟨by rfl, ?rc3⟩) (by assumption) ?_
  case rc3 => (intro w hSw; (try dsimp only at hSw); (go_simp <;> with_reducible rfl))
  try simp only [Act.put, List.setIfInBounds_toArray, List.set_cons_zero, List.set_cons_succ]
  refine wpAnyH_take (i := 3) (oi := { dst := some 19, op := Go.Op.nilCheck (Go.Operand.tmp 18), type := 0, pos := "accept.go:107", after := #[{ on := 2, ground := Go.Ground.data }], guard := none }) (v := ?vc4) rfl (by kernel_rfl) (by kernel_rfl) (by kernel_rfl) (fun _ _ _ h => h) (Or.inl ⟨by rfl, ?rc4⟩) (by assumption) ?_
  case rc4 => (intro w hSw; (try dsimp only at hSw); (go_simp <;> with_reducible rfl))
  try simp only [Act.put, List.setIfInBounds_toArray, List.set_cons_zero, List.set_cons_succ]
  refine wpAnyH_take (i := 4) (oi := { dst := some 20, op := Go.Op.fieldAddr 100 (Go.Operand.tmp 19) 2, type := 0, pos := "accept.go:107", after := #[{ on := 3, ground := Go.Ground.data }], guard := none }) (v := ?vc5) rfl (by kernel_rfl) (by kernel_rfl) (by kernel_rfl) (fun _ _ _ h => h) (Or.inl ⟨by rfl, ?rc5⟩) (by assumption) ?_
  case rc5 => (intro w hSw; (try dsimp only at hSw); (go_simp <;> with_reducible rfl))
  try simp only [Act.put, List.setIfInBounds_toArray, List.set_cons_zero, List.set_cons_succ]
  refine wpAnyH_take (i := 5) (oi := { dst := some 21, op := Go.Op.load 3 (Go.Operand.tmp 20), type := 3, pos := "accept.go:107", after := #[{ on := 4, ground := Go.Ground.data }], guard := none }) (v := ?vc6) rfl (by kernel_rfl) (by kernel_rfl) (by kernel_rfl) (fun _ _ _ h => h) (Or.inl ⟨by rfl, ?rc6⟩) (by assumption) ?_
  case rc6 => (intro w hSw; (try dsimp only at hSw); (go_simp <;> with_reducible rfl))
  try simp only [Act.put, List.setIfInBounds_toArray, List.set_cons_zero, List.set_cons_succ]
  refine wpAnyH_take (i := 6) (oi := { dst := some 22, op := Go.Op.binOp Go.BinOp.gtr 3 (Go.Operand.tmp 17) (Go.Operand.tmp 21) 3, type := 4, pos := "accept.go:107", after := #[{ on := 1, ground := Go.Ground.data }, { on := 5, ground := Go.Ground.data }], guard := none }) (v := (.bool true)) rfl (by kernel_rfl) (by kernel_rfl) (by kernel_rfl) (fun _ _ _ h => h) (Or.inl ⟨by rfl, ?rc7⟩) (by assumption) ?_
  case rc7 => (intro w hSw; (try dsimp only at hSw); go_simp; all_goals simp [HSL.out])
  try simp only [Act.put, List.setIfInBounds_toArray, List.set_cons_zero, List.set_cons_succ]
  refine wpAnyH_take (i := 7) (oi := { dst := some 6, op := Go.Op.assign (Go.Operand.tmp 22), type := 4, pos := "accept.go:107", after := #[{ on := 6, ground := Go.Ground.data }, { on := 0, ground := Go.Ground.phase }, { on := 1, ground := Go.Ground.phase }, { on := 2, ground := Go.Ground.phase }, { on := 3, ground := Go.Ground.phase }, { on := 4, ground := Go.Ground.phase }, { on := 5, ground := Go.Ground.phase }, { on := 6, ground := Go.Ground.phase }], guard := none }) (v := ?vc8) rfl (by kernel_rfl) (by kernel_rfl) (by kernel_rfl) (fun _ _ _ h => h) (Or.inl ⟨by rfl, ?rc8⟩) (by assumption) ?_
  case rc8 => (intro w hSw; (try dsimp only at hSw); (go_simp <;> with_reducible rfl))
  try simp only [Act.put, List.setIfInBounds_toArray, List.set_cons_zero, List.set_cons_succ]
  refine wpAnyH_done (by kernel_rfl) ?_ _
  have QP := Lib.hid h0
  clear h0 m6 b3
  have HA2 := Lib.hid (HA1.out.gr (Gr.refl w1).drew)
  have HM2 := Lib.hid (HM1.out.gr (Gr.refl w1).drew)
  have HR2 := Lib.hid (HR1.out.gr (Gr.refl w1).drew)
  have HO2 := Lib.hid (ownsRow_gr (Gr.refl w1).drew HO1.out)
  have HF2 := Lib.hid (HF1.out.trans HV.out (Far.of_gr (Gr.refl w1).drew))
  clear HA1 HM1 HR1 HO1 HF1
  have m6 := HM2.out.cell (i := 6) rfl
  go_wp2_with fail
  refine (find_any slot L _ HA2.out HO2.out hl ha).mono ?_
  rintro e w2 ⟨i, fd, rfl, hi, hcut, hfd, hg2⟩
  have HFD := Lib.hid hfd
  have HCUT := Lib.hid hcut
  have HA3 := Lib.hid (HA2.out.gr hg2)
  have HM3 := Lib.hid (HM2.out.gr hg2)
  have HR3 := Lib.hid (HR2.out.gr hg2)
  have HO3 := Lib.hid (ownsRow_gr hg2 HO2.out)
  have HF3 := Lib.hid (HF2.out.trans HV.out (Far.of_gr hg2))
  clear HA2 HM2 HR2 HO2 HF2
  clear hfd hcut hg2 m6
  obtain rfl : fd = true := HFD.out.2 ((has_cut ha HCUT.out).1 hin)
  have m4 := HM3.out.cell (i := 4) rfl
  have m5 := HM3.out.cell (i := 5) rfl
  go_wp2_with fail
  refine (promise_any c n _ HA3.out).mono ?_
  rw [← HQ.out]
  rintro e w3 ⟨rfl, hA3, hf3⟩
  have HA4 := Lib.hid hA3
  have HM4 := Lib.hid (HM3.out.far hf3 n1 (by simp [Value.ownBlock]))
  have HR4 := Lib.hid (HR3.out.far hf3 n2 (by simp [Value.ownBlock]))
  have HO4 := Lib.hid (ownsRow_far hf3 HO3.out HVB.out (fun k _ => by simp [Value.ownBlock]))
  have HF4 := Lib.hid (HF3.out.trans HV.out (Far.any hf3))
  clear HA3 HM3 HR3 HO3 HF3
  clear hA3 hf3 m4 m5
  go_wp2_with fail
  have m4 := HM4.out.cell (i := 4) rfl
  have m5 := HM4.out.cell (i := 5) rfl
  have m6 := HM4.out.cell (i := 6) rfl
  have m9 := HM4.out.cell (i := 9) rfl
  refine wp_region_held_drew (S := (fun w9 => w9.cell? ⟨w.heap.size, 4, none⟩ = some (.int .u64 c) ∧ w9.cell? ⟨w.heap.size, 5, none⟩ = some (.int .i64 n) ∧ w9.cell? ⟨w.heap.size, 6, none⟩ = some (.int .i64 slot) ∧ w9.cell? ⟨w.heap.size, 9, none⟩ = some (.string text))) (by kernel_rfl) ?invd (fun h0 => ?_)
  case invd => ((try dsimp only); (exact ⟨m4, m5, m6, m9⟩))
  refine wpAnyH_take (i := 0) (oi := { dst := some 48, op := Go.Op.move (Go.Operand.tmp 6), type := 4, pos := "accept.go:112", after := #[], guard := none }) (v := ?vd1) rfl (by kernel_rfl) (by kernel_rfl) (by kernel_rfl) (fun _ _ _ h => h) (Or.inl ⟨by rfl, ?rd1⟩) (by assumption) ?_
  case rd1 => (intro w hSw; (try dsimp only at hSw); (go_simp <;> with_reducible rfl))
  try simp only [Act.put, List.setIfInBounds_toArray, List.set_cons_zero, List.set_cons_succ]
  refine wpAnyH_take (i := 1) (oi := { dst := some 49, op := Go.Op.move (Go.Operand.tmp 48), type := 4, pos := "accept.go:112", after := #[{ on := 0, ground := Go.Ground.data }], guard := none }) (v := ?vd2) rfl (by kernel_rfl) (by kernel_rfl) (by kernel_rfl) (fun _ _ _ h => h) (Or.inl ⟨by rfl, ?rd2⟩) (by assumption) ?_
  case rd2 => (intro w hSw; (try dsimp only at hSw); (go_simp <;> with_reducible rfl))
  try simp only [Act.put, List.setIfInBounds_toArray, List.set_cons_zero, List.set_cons_succ]
  refine wpAnyH_take (i := 2) (oi := { dst := some 50, op := Go.Op.move (Go.Operand.tmp 0), type := 23, pos := "accept.go:112", after := #[{ on := 1, ground := Go.Ground.guard }], guard := some (1, true) }) (v := ?vd3) rfl (by kernel_rfl) (by kernel_rfl) (by kernel_rfl) (fun _ _ _ h => h) (Or.inl ⟨by rfl, ?rd3⟩) (by assumption) ?_
  case rd3 => (intro w hSw; (try dsimp only at hSw); (go_simp <;> with_reducible rfl))
  try simp only [Act.put, List.setIfInBounds_toArray, List.set_cons_zero, List.set_cons_succ]
  refine wpAnyH_take (i := 3) (oi := { dst := some 51, op := Go.Op.fieldAddr 30 (Go.Operand.tmp 3) 5, type := 0, pos := "accept.go:112", after := #[{ on := 1, ground := Go.Ground.guard }], guard := some (1, true) }) (v := ?vd4) rfl (by kernel_rfl) (by kernel_rfl) (by kernel_rfl) (fun _ _ _ h => h) (Or.inl ⟨by rfl, ?rd4⟩) (by assumption) ?_
  case rd4 => (intro w hSw; (try dsimp only at hSw); (go_simp <;> with_reducible rfl))
  try simp only [Act.put, List.setIfInBounds_toArray, List.set_cons_zero, List.set_cons_succ]
  refine wpAnyH_take (i := 4) (oi := { dst := some 52, op := Go.Op.load 3 (Go.Operand.tmp 51), type := 3, pos := "accept.go:112", after := #[{ on := 3, ground := Go.Ground.data }, { on := 1, ground := Go.Ground.guard }], guard := some (1, true) }) (v := ?vd5) rfl (by kernel_rfl) (by kernel_rfl) (by kernel_rfl) (fun _ _ _ h => h) (Or.inl ⟨by rfl, ?rd5⟩) (by assumption) ?_
  case rd5 => (intro w hSw; (try dsimp only at hSw); (go_simp <;> with_reducible rfl))
  try simp only [Act.put, List.setIfInBounds_toArray, List.set_cons_zero, List.set_cons_succ]
  refine wpAnyH_take (i := 5) (oi := { dst := some 53, op := Go.Op.fieldAddr 30 (Go.Operand.tmp 3) 4, type := 0, pos := "accept.go:112", after := #[{ on := 1, ground := Go.Ground.guard }], guard := some (1, true) }) (v := ?vd6) rfl (by kernel_rfl) (by kernel_rfl) (by kernel_rfl) (fun _ _ _ h => h) (Or.inl ⟨by rfl, ?rd6⟩) (by assumption) ?_
  case rd6 => (intro w hSw; (try dsimp only at hSw); (go_simp <;> with_reducible rfl))
  try simp only [Act.put, List.setIfInBounds_toArray, List.set_cons_zero, List.set_cons_succ]
  refine wpAnyH_take (i := 6) (oi := { dst := some 54, op := Go.Op.load 27 (Go.Operand.tmp 53), type := 27, pos := "accept.go:112", after := #[{ on := 5, ground := Go.Ground.data }, { on := 1, ground := Go.Ground.guard }], guard := some (1, true) }) (v := ?vd7) rfl (by kernel_rfl) (by kernel_rfl) (by kernel_rfl) (fun _ _ _ h => h) (Or.inl ⟨by rfl, ?rd7⟩) (by assumption) ?_
  case rd7 => (intro w hSw; (try dsimp only at hSw); (go_simp <;> with_reducible rfl))
  try simp only [Act.put, List.setIfInBounds_toArray, List.set_cons_zero, List.set_cons_succ]
  refine wpAnyH_take (i := 7) (oi := { dst := some 55, op := Go.Op.move (Go.Operand.tmp 0), type := 23, pos := "accept.go:112", after := #[{ on := 1, ground := Go.Ground.guard }], guard := some (1, true) }) (v := ?vd8) rfl (by kernel_rfl) (by kernel_rfl) (by kernel_rfl) (fun _ _ _ h => h) (Or.inl ⟨by rfl, ?rd8⟩) (by assumption) ?_
  case rd8 => (intro w hSw; (try dsimp only at hSw); (go_simp <;> with_reducible rfl))
  try simp only [Act.put, List.setIfInBounds_toArray, List.set_cons_zero, List.set_cons_succ]
  refine wpAnyH_take (i := 8) (oi := { dst := some 56, op := Go.Op.fieldAddr 30 (Go.Operand.tmp 3) 8, type := 0, pos := "accept.go:112", after := #[{ on := 1, ground := Go.Ground.guard }], guard := some (1, true) }) (v := ?vd9) rfl (by kernel_rfl) (by kernel_rfl) (by kernel_rfl) (fun _ _ _ h => h) (Or.inl ⟨by rfl, ?rd9⟩) (by assumption) ?_
  case rd9 => (intro w hSw; (try dsimp only at hSw); (go_simp <;> with_reducible rfl))
  try simp only [Act.put, List.setIfInBounds_toArray, List.set_cons_zero, List.set_cons_succ]
  refine wpAnyH_take (i := 9) (oi := { dst := some 57, op := Go.Op.load 9 (Go.Operand.tmp 56), type := 9, pos := "accept.go:112", after := #[{ on := 8, ground := Go.Ground.data }, { on := 1, ground := Go.Ground.guard }], guard := some (1, true) }) (v := ?vd10) rfl (by kernel_rfl) (by kernel_rfl) (by kernel_rfl) (fun _ _ _ h => h) (Or.inl ⟨by rfl, ?rd10⟩) (by assumption) ?_
  case rd10 => (intro w hSw; (try dsimp only at hSw); (go_simp <;> with_reducible rfl))
  try simp only [Act.put, List.setIfInBounds_toArray, List.set_cons_zero, List.set_cons_succ]
  refine wpAnyH_ready (rs := [10]) (by kernel_rfl) (by simp) ?_
  refine AllReadyH.cons (o := { dst := some 58, op := Go.Op.call { callee := Go.Callee.value (Go.Operand.func 62), args := #[Go.Operand.tmp 55, Go.Operand.tmp 57], argTypes := #[23, 9] }, type := 9, pos := "accept.go:112", after := #[{ on := 7, ground := Go.Ground.data }, { on := 9, ground := Go.Ground.data }, { on := 1, ground := Go.Ground.chain }, { on := 1, ground := Go.Ground.guard }], guard := some (1, true) }) rfl (fun K hK => ?_) AllReadyH.nil
  go_simp
  go_at_call 62
  refine (stored16_any text _ (HA4.out.gr (by first | exact Gr.refl _ | exact (Gr.refl _).drew)) ht).mono ?_
  rintro e w9 ⟨rfl, hg9⟩
  have hz9 : Gr w3 w9 := (by first | exact hg9 | exact (Gr.refl _).drew.trans hg9)
  have HA5 := Lib.hid (HA4.out.gr hz9)
  have HM5 := Lib.hid (HM4.out.gr hz9)
  have HR5 := Lib.hid (HR4.out.gr hz9)
  have HO5 := Lib.hid (ownsRow_gr hz9 HO4.out)
  have HF5 := Lib.hid (HF4.out.trans HV.out (Far.of_gr hz9))
  clear HA4 HM4 HR4 HO4 HF4
  first | refine hK.out _ _ ?sd11 (fun h11 => ?_) | (go_wp2_with fail; refine hK.out _ _ ?sd11 (fun h11 => ?_))
  case sd11 => ((try dsimp only); (exact ⟨hg9.cell h0.1, hg9.cell h0.2.1, hg9.cell h0.2.2.1, hg9.cell h0.2.2.2⟩))
  clear hK K h0
  try simp only [Act.put, List.setIfInBounds_toArray, List.set_cons_zero, List.set_cons_succ]
  refine wpAnyH_take (i := 11) (oi := { dst := some 59, op := Go.Op.build 108 #[(0, Go.Operand.tmp 52), (1, Go.Operand.tmp 54), (2, Go.Operand.tmp 58)], type := 108, pos := "accept.go:112", after := #[{ on := 4, ground := Go.Ground.data }, { on := 6, ground := Go.Ground.data }, { on := 10, ground := Go.Ground.data }, { on := 1, ground := Go.Ground.guard }], guard := some (1, true) }) (v := ?vd12) rfl (by kernel_rfl) (by kernel_rfl) (by kernel_rfl) (fun _ _ _ h => h) (Or.inl ⟨by rfl, ?rd12⟩) (by assumption) ?_
  case rd12 => (intro w hSw; (try dsimp only at hSw); (go_simp <;> with_reducible rfl))
  try simp only [Act.put, List.setIfInBounds_toArray, List.set_cons_zero, List.set_cons_succ]
  refine wpAnyH_ready (rs := [12]) (by kernel_rfl) (by simp) ?_
  refine AllReadyH.cons (o := { dst := some 60, op := Go.Op.call { callee := Go.Callee.value (Go.Operand.func 61), args := #[Go.Operand.tmp 50, Go.Operand.tmp 59], argTypes := #[23, 108] }, type := 4, pos := "accept.go:112", after := #[{ on := 2, ground := Go.Ground.data }, { on := 11, ground := Go.Ground.data }, { on := 10, ground := Go.Ground.chain }, { on := 1, ground := Go.Ground.guard }], guard := some (1, true) }) rfl (fun K hK => ?_) AllReadyH.nil
  go_simp
  go_at_call 61
  refine (set_any ⟨slot, c, n, kept16 wit text⟩ L _ HA5.out HO5.out hl ha (Nat.le_trans hb (HF5.out.size))).mono ?_
  rw [← HX.out]
  rintro e w10 ⟨v9, rfl, hA9, hO9, hF9, hV9⟩
  have HN0 := Lib.hid (show v.ownBlock ≠ some w.heap.size from fun e => by have := HVP.out _ e; omega)
  have HN1 := Lib.hid (show v.ownBlock ≠ some (w.heap.size + 1) from fun e => by have := HVP.out _ e; omega)
  have HN := Lib.hid (show v9.ownBlock ≠ some (w.heap.size + 1) from fun e => by
    rcases hV9 _ e with h1 | h1
    · exact HN1.out h1
    · have := HR5.out.lt; omega)
  have HM6 := Lib.hid (HM5.out.far hF9 n1 HN0.out)
  have HR6 := Lib.hid (HR5.out.far hF9 n2 HN1.out)
  have HA6 := Lib.hid hA9
  have HO6 := Lib.hid hO9
  have HF6 := Lib.hid (HF5.out.trans HV.out hF9)
  have HV9 := Lib.hid (HV.out.trans HF5.out.size hV9)
  first | refine hK.out _ _ ?sd13 (fun h13 => ?_) | (go_wp2_with fail; refine hK.out _ _ ?sd13 (fun h13 => ?_))
  case sd13 => ((try dsimp only); (exact ⟨hF9.cell n1 HN0.out h11.1, hF9.cell n1 HN0.out h11.2.1, hF9.cell n1 HN0.out h11.2.2.1, hF9.cell n1 HN0.out h11.2.2.2⟩))
  clear hK K h11
  try simp only [Act.put, List.setIfInBounds_toArray, List.set_cons_zero, List.set_cons_succ]
  refine wpAnyH_take (i := 13) (oi := { dst := some 61, op := Go.Op.pick (Go.Operand.tmp 49) (Go.Operand.tmp 60) (Go.Operand.const (Go.Value.bool false)), type := 4, pos := "accept.go:112", after := #[{ on := 1, ground := Go.Ground.data }, { on := 12, ground := Go.Ground.data }], guard := none }) (v := ?vd14) rfl (by kernel_rfl) (by kernel_rfl) (by kernel_rfl) (fun _ _ _ h => h) (Or.inl ⟨by rfl, ?rd14⟩) (by assumption) ?_
  case rd14 => (intro w hSw; (try dsimp only at hSw); (go_simp <;> with_reducible rfl))
  try simp only [Act.put, List.setIfInBounds_toArray, List.set_cons_zero, List.set_cons_succ]
  refine wpAnyH_done (by kernel_rfl) ?_ _
  clear h13 m4 m5 m6 m9 hA9 hO9 hF9 hV9 HM5 HR5 HA5 HO5 HF5 hz9 hg9
  cases x
  · have m4 := HM6.out.cell (i := 4) rfl
    have m5 := HM6.out.cell (i := 5) rfl
    have m6 := HM6.out.cell (i := 6) rfl
    obtain ⟨HT0, HO0, hat, hgr⟩ := msg_put HR6.out rfl [.int .i64 4, .int .i64 0, .int .i64 0, .int .i64 0, .int .u64 c, .int .i64 n, .int .i64 slot, .int .i64 0, .bool false, .string ⟨#[]⟩, .slice none 0 0] rfl (by intro u hu; simp only [List.mem_cons, List.not_mem_nil, or_false] at hu; rcases hu with rfl | rfl | rfl | rfl | rfl | rfl | rfl | rfl | rfl | rfl | rfl <;> rfl)
    have z0 : (w10.setCells (w.heap.size + 1) 0 [.int .i64 4, .int .i64 0, .int .i64 0, .int .i64 0, .int .u64 c, .int .i64 n, .int .i64 slot, .int .i64 0, .bool false, .string ⟨#[]⟩, .slice none 0 0]).cell? ⟨w.heap.size + 1, 0, none⟩ = some (.int .i64 4) := hat 0 (by decide)
    have z1 : (w10.setCells (w.heap.size + 1) 0 [.int .i64 4, .int .i64 0, .int .i64 0, .int .i64 0, .int .u64 c, .int .i64 n, .int .i64 slot, .int .i64 0, .bool false, .string ⟨#[]⟩, .slice none 0 0]).cell? ⟨w.heap.size + 1, 1, none⟩ = some (.int .i64 0) := hat 1 (by decide)
    have z2 : (w10.setCells (w.heap.size + 1) 0 [.int .i64 4, .int .i64 0, .int .i64 0, .int .i64 0, .int .u64 c, .int .i64 n, .int .i64 slot, .int .i64 0, .bool false, .string ⟨#[]⟩, .slice none 0 0]).cell? ⟨w.heap.size + 1, 2, none⟩ = some (.int .i64 0) := hat 2 (by decide)
    have z3 : (w10.setCells (w.heap.size + 1) 0 [.int .i64 4, .int .i64 0, .int .i64 0, .int .i64 0, .int .u64 c, .int .i64 n, .int .i64 slot, .int .i64 0, .bool false, .string ⟨#[]⟩, .slice none 0 0]).cell? ⟨w.heap.size + 1, 3, none⟩ = some (.int .i64 0) := hat 3 (by decide)
    have z4 : (w10.setCells (w.heap.size + 1) 0 [.int .i64 4, .int .i64 0, .int .i64 0, .int .i64 0, .int .u64 c, .int .i64 n, .int .i64 slot, .int .i64 0, .bool false, .string ⟨#[]⟩, .slice none 0 0]).cell? ⟨w.heap.size + 1, 4, none⟩ = some (.int .u64 c) := hat 4 (by decide)
    have z5 : (w10.setCells (w.heap.size + 1) 0 [.int .i64 4, .int .i64 0, .int .i64 0, .int .i64 0, .int .u64 c, .int .i64 n, .int .i64 slot, .int .i64 0, .bool false, .string ⟨#[]⟩, .slice none 0 0]).cell? ⟨w.heap.size + 1, 5, none⟩ = some (.int .i64 n) := hat 5 (by decide)
    have z6 : (w10.setCells (w.heap.size + 1) 0 [.int .i64 4, .int .i64 0, .int .i64 0, .int .i64 0, .int .u64 c, .int .i64 n, .int .i64 slot, .int .i64 0, .bool false, .string ⟨#[]⟩, .slice none 0 0]).cell? ⟨w.heap.size + 1, 6, none⟩ = some (.int .i64 slot) := hat 6 (by decide)
    have z7 : (w10.setCells (w.heap.size + 1) 0 [.int .i64 4, .int .i64 0, .int .i64 0, .int .i64 0, .int .u64 c, .int .i64 n, .int .i64 slot, .int .i64 0, .bool false, .string ⟨#[]⟩, .slice none 0 0]).cell? ⟨w.heap.size + 1, 7, none⟩ = some (.int .i64 0) := hat 7 (by decide)
    have z8 : (w10.setCells (w.heap.size + 1) 0 [.int .i64 4, .int .i64 0, .int .i64 0, .int .i64 0, .int .u64 c, .int .i64 n, .int .i64 slot, .int .i64 0, .bool false, .string ⟨#[]⟩, .slice none 0 0]).cell? ⟨w.heap.size + 1, 8, none⟩ = some (.bool false) := hat 8 (by decide)
    have z9 : (w10.setCells (w.heap.size + 1) 0 [.int .i64 4, .int .i64 0, .int .i64 0, .int .i64 0, .int .u64 c, .int .i64 n, .int .i64 slot, .int .i64 0, .bool false, .string ⟨#[]⟩, .slice none 0 0]).cell? ⟨w.heap.size + 1, 9, none⟩ = some (.string ⟨#[]⟩) := hat 9 (by decide)
    have z10 : (w10.setCells (w.heap.size + 1) 0 [.int .i64 4, .int .i64 0, .int .i64 0, .int .i64 0, .int .u64 c, .int .i64 n, .int .i64 slot, .int .i64 0, .bool false, .string ⟨#[]⟩, .slice none 0 0]).cell? ⟨w.heap.size + 1, 10, none⟩ = some (.slice none 0 0) := hat 10 (by decide)
    have HAF := Lib.hid (HA6.out.grown hgr n2.symm)
    have HFF := Lib.hid (Far.grownV (v1 := v) HF6.out hgr (Nat.le_succ _))
    have HOF := Lib.hid (HO6.out.kept hgr (.inr HN.out))
    clear hat hgr
    generalize hMS : ([.int .i64 4, .int .i64 0, .int .i64 0, .int .i64 0, .int .u64 c, .int .i64 n, .int .i64 slot, .int .i64 0, .bool false, .string ⟨#[]⟩, .slice none 0 0] : List Value) = ms at *
    have HMS := Lib.hid (show Value.agg #[.int .i64 4, .int .i64 0, .int .i64 0, .int .i64 0, .int .u64 c, .int .i64 n, .int .i64 slot, .int .i64 0, .bool false, .string ⟨#[]⟩, .slice none 0 0] = Value.agg ms.toArray by rw [← hMS])
    have hml := Lib.hid (show ms.toArray.size = 11 by rw [← hMS]; rfl)
    have HTT := Lib.hid HT0
    have HOO := Lib.hid HO0
    clear hMS HT0 HO0
    go_wp2_with (first | (refine wpList_store_mid rfl 30 (.tmp 4) (.tmp 66) rfl (w.heap.size + 1) 0 ms.toArray (by rfl) (by first | rfl | exact HMS.out) HTT.out (by rw [hml.out]; exact info_msg) HOO.out ?_))
    refine bodyPost_ret (v := .tuple #[.agg #[.int .i64 4, .int .i64 0, .int .i64 0, .int .i64 0, .int .u64 c, .int .i64 n, .int .i64 slot, .int .i64 0, .bool false, .string ⟨#[]⟩, .slice none 0 0], .bool q]) (by simp [results, Try.results14, go_sem, z0, z1, z2, z3, z4, z5, z6, z7, z8, z9, z10]; try rfl) rfl ?_
    exact ⟨v9, by rw [Bool.or_false], HAF.out, HOF.out, HFF.out, HV9.out⟩
  · have m4 := HM6.out.cell (i := 4) rfl
    have m5 := HM6.out.cell (i := 5) rfl
    have m6 := HM6.out.cell (i := 6) rfl
    obtain ⟨HT0, HO0, hat, hgr⟩ := msg_put HR6.out rfl [.int .i64 4, .int .i64 0, .int .i64 0, .int .i64 0, .int .u64 c, .int .i64 n, .int .i64 slot, .int .i64 0, .bool false, .string ⟨#[]⟩, .slice none 0 0] rfl (by intro u hu; simp only [List.mem_cons, List.not_mem_nil, or_false] at hu; rcases hu with rfl | rfl | rfl | rfl | rfl | rfl | rfl | rfl | rfl | rfl | rfl <;> rfl)
    have z0 : (w10.setCells (w.heap.size + 1) 0 [.int .i64 4, .int .i64 0, .int .i64 0, .int .i64 0, .int .u64 c, .int .i64 n, .int .i64 slot, .int .i64 0, .bool false, .string ⟨#[]⟩, .slice none 0 0]).cell? ⟨w.heap.size + 1, 0, none⟩ = some (.int .i64 4) := hat 0 (by decide)
    have z1 : (w10.setCells (w.heap.size + 1) 0 [.int .i64 4, .int .i64 0, .int .i64 0, .int .i64 0, .int .u64 c, .int .i64 n, .int .i64 slot, .int .i64 0, .bool false, .string ⟨#[]⟩, .slice none 0 0]).cell? ⟨w.heap.size + 1, 1, none⟩ = some (.int .i64 0) := hat 1 (by decide)
    have z2 : (w10.setCells (w.heap.size + 1) 0 [.int .i64 4, .int .i64 0, .int .i64 0, .int .i64 0, .int .u64 c, .int .i64 n, .int .i64 slot, .int .i64 0, .bool false, .string ⟨#[]⟩, .slice none 0 0]).cell? ⟨w.heap.size + 1, 2, none⟩ = some (.int .i64 0) := hat 2 (by decide)
    have z3 : (w10.setCells (w.heap.size + 1) 0 [.int .i64 4, .int .i64 0, .int .i64 0, .int .i64 0, .int .u64 c, .int .i64 n, .int .i64 slot, .int .i64 0, .bool false, .string ⟨#[]⟩, .slice none 0 0]).cell? ⟨w.heap.size + 1, 3, none⟩ = some (.int .i64 0) := hat 3 (by decide)
    have z4 : (w10.setCells (w.heap.size + 1) 0 [.int .i64 4, .int .i64 0, .int .i64 0, .int .i64 0, .int .u64 c, .int .i64 n, .int .i64 slot, .int .i64 0, .bool false, .string ⟨#[]⟩, .slice none 0 0]).cell? ⟨w.heap.size + 1, 4, none⟩ = some (.int .u64 c) := hat 4 (by decide)
    have z5 : (w10.setCells (w.heap.size + 1) 0 [.int .i64 4, .int .i64 0, .int .i64 0, .int .i64 0, .int .u64 c, .int .i64 n, .int .i64 slot, .int .i64 0, .bool false, .string ⟨#[]⟩, .slice none 0 0]).cell? ⟨w.heap.size + 1, 5, none⟩ = some (.int .i64 n) := hat 5 (by decide)
    have z6 : (w10.setCells (w.heap.size + 1) 0 [.int .i64 4, .int .i64 0, .int .i64 0, .int .i64 0, .int .u64 c, .int .i64 n, .int .i64 slot, .int .i64 0, .bool false, .string ⟨#[]⟩, .slice none 0 0]).cell? ⟨w.heap.size + 1, 6, none⟩ = some (.int .i64 slot) := hat 6 (by decide)
    have z7 : (w10.setCells (w.heap.size + 1) 0 [.int .i64 4, .int .i64 0, .int .i64 0, .int .i64 0, .int .u64 c, .int .i64 n, .int .i64 slot, .int .i64 0, .bool false, .string ⟨#[]⟩, .slice none 0 0]).cell? ⟨w.heap.size + 1, 7, none⟩ = some (.int .i64 0) := hat 7 (by decide)
    have z8 : (w10.setCells (w.heap.size + 1) 0 [.int .i64 4, .int .i64 0, .int .i64 0, .int .i64 0, .int .u64 c, .int .i64 n, .int .i64 slot, .int .i64 0, .bool false, .string ⟨#[]⟩, .slice none 0 0]).cell? ⟨w.heap.size + 1, 8, none⟩ = some (.bool false) := hat 8 (by decide)
    have z9 : (w10.setCells (w.heap.size + 1) 0 [.int .i64 4, .int .i64 0, .int .i64 0, .int .i64 0, .int .u64 c, .int .i64 n, .int .i64 slot, .int .i64 0, .bool false, .string ⟨#[]⟩, .slice none 0 0]).cell? ⟨w.heap.size + 1, 9, none⟩ = some (.string ⟨#[]⟩) := hat 9 (by decide)
    have z10 : (w10.setCells (w.heap.size + 1) 0 [.int .i64 4, .int .i64 0, .int .i64 0, .int .i64 0, .int .u64 c, .int .i64 n, .int .i64 slot, .int .i64 0, .bool false, .string ⟨#[]⟩, .slice none 0 0]).cell? ⟨w.heap.size + 1, 10, none⟩ = some (.slice none 0 0) := hat 10 (by decide)
    have HAF := Lib.hid (HA6.out.grown hgr n2.symm)
    have HFF := Lib.hid (Far.grownV (v1 := v) HF6.out hgr (Nat.le_succ _))
    have HOF := Lib.hid (HO6.out.kept hgr (.inr HN.out))
    clear hat hgr
    generalize hMS : ([.int .i64 4, .int .i64 0, .int .i64 0, .int .i64 0, .int .u64 c, .int .i64 n, .int .i64 slot, .int .i64 0, .bool false, .string ⟨#[]⟩, .slice none 0 0] : List Value) = ms at *
    have HMS := Lib.hid (show Value.agg #[.int .i64 4, .int .i64 0, .int .i64 0, .int .i64 0, .int .u64 c, .int .i64 n, .int .i64 slot, .int .i64 0, .bool false, .string ⟨#[]⟩, .slice none 0 0] = Value.agg ms.toArray by rw [← hMS])
    have hml := Lib.hid (show ms.toArray.size = 11 by rw [← hMS]; rfl)
    have HTT := Lib.hid HT0
    have HOO := Lib.hid HO0
    clear hMS HT0 HO0
    go_wp2_with (first | (refine wpList_store_mid rfl 30 (.tmp 4) (.tmp 66) rfl (w.heap.size + 1) 0 ms.toArray (by rfl) (by first | rfl | exact HMS.out) HTT.out (by rw [hml.out]; exact info_msg) HOO.out ?_))
    refine bodyPost_ret (v := .tuple #[.agg #[.int .i64 4, .int .i64 0, .int .i64 0, .int .i64 0, .int .u64 c, .int .i64 n, .int .i64 slot, .int .i64 0, .bool false, .string ⟨#[]⟩, .slice none 0 0], .bool true]) (by simp [results, Try.results14, go_sem, z0, z1, z2, z3, z4, z5, z6, z7, z8, z9, z10]; try rfl) rfl ?_
    exact ⟨v9, by rw [Bool.or_true], HAF.out, HOF.out, HFF.out, HV9.out⟩
set_option maxRecDepth 100000 in
set_option maxHeartbeats 4000000 in
theorem accept_new {base b : Nat} {v : Value} {wit : Bool} {pc pn ba to til : Int} {L : List E} (kd frm tt sub c n slot time : Int) (ok : Bool) (text : ByteArray) (la : Option Addr) (ll lc : Nat) (w : World) (h : Blk w b #[.bool wit, .int .u64 pc, .int .i64 pn, .int .i64 ba, v, .int .i64 to, .int .i64 til] 100) (hr : w.ownsRow base 108 4 v L.length (rcells encE L)) (hl : L.length ≤ 1000) (ha : Asc L) (hb : base ≤ w.heap.size) (ht : text.size ≤ 1000000) (hlate : decide (cmpB c n pc pn < 0) = false) (hsl : ba < slot) (hno : hasE L slot = false) (hful : L.length < 64) :
    Calls Try.prog 14 #[.pointer (some ⟨b, 0, none⟩), .agg #[.int .i64 kd, .int .i64 frm, .int .i64 tt, .int .i64 sub, .int .u64 c, .int .i64 n, .int .i64 slot, .int .i64 time, .bool ok, .string text, .slice la ll lc]] w fun e w' => ∃ v', e = .returned (.tuple #[.agg #[.int .i64 4, .int .i64 0, .int .i64 0, .int .i64 0, .int .u64 c, .int .i64 n, .int .i64 slot, .int .i64 0, .bool false, .string ⟨#[]⟩, .slice none 0 0], .bool (decide (¬ (c = pc ∧ n = pn)) || !(sameE (oldE L slot) ⟨slot, c, n, kept16 wit text⟩))]) ∧ Blk w' b #[.bool wit, .int .u64 c, .int .i64 n, .int .i64 ba, v', .int .i64 to, .int .i64 til] 100 ∧ w'.ownsRow base 108 4 v' (setE L ⟨slot, c, n, kept16 wit text⟩).length (rcells encE (setE L ⟨slot, c, n, kept16 wit text⟩)) ∧ Far b v w w' ∧ From v w v' := by
  obtain ⟨q, hq⟩ : ∃ q, q = decide (¬ (c = pc ∧ n = pn)) := ⟨_, rfl⟩
  rw [← hq]
  have HQ := Lib.hid hq
  clear hq
  obtain ⟨x, hx⟩ : ∃ x, x = !(sameE (oldE L slot) ⟨slot, c, n, kept16 wit text⟩) := ⟨_, rfl⟩
  rw [← hx]
  have HX := Lib.hid hx
  clear hx
  have HM := Lib.hid ((Blk.new w #[.int .i64 kd, .int .i64 frm, .int .i64 tt, .int .i64 sub, .int .u64 c, .int .i64 n, .int .i64 slot, .int .i64 time, .bool ok, .string text, .slice la ll lc] 30).gr ((Gr.refl _).alloc (.cells #[.int .i64 0, .int .i64 0, .int .i64 0, .int .i64 0, .int .u64 0, .int .i64 0, .int .i64 0, .int .i64 0, .bool false, .string ⟨#[]⟩, .slice none 0 0] 30)))
  have HR := Lib.hid (Blk.new (w.alloc (.cells #[.int .i64 kd, .int .i64 frm, .int .i64 tt, .int .i64 sub, .int .u64 c, .int .i64 n, .int .i64 slot, .int .i64 time, .bool ok, .string text, .slice la ll lc] 30)) #[.int .i64 0, .int .i64 0, .int .i64 0, .int .i64 0, .int .u64 0, .int .i64 0, .int .i64 0, .int .i64 0, .bool false, .string ⟨#[]⟩, .slice none 0 0] 30)
  rw [show (w.alloc (.cells #[.int .i64 kd, .int .i64 frm, .int .i64 tt, .int .i64 sub, .int .u64 c, .int .i64 n, .int .i64 slot, .int .i64 time, .bool ok, .string text, .slice la ll lc] 30)).heap.size = w.heap.size + 1 by simp] at HR
  have HG := Lib.hid (((Gr.refl w).alloc (.cells #[.int .i64 kd, .int .i64 frm, .int .i64 tt, .int .i64 sub, .int .u64 c, .int .i64 n, .int .i64 slot, .int .i64 time, .bool ok, .string text, .slice la ll lc] 30)).alloc (.cells #[.int .i64 0, .int .i64 0, .int .i64 0, .int .i64 0, .int .u64 0, .int .i64 0, .int .i64 0, .int .i64 0, .bool false, .string ⟨#[]⟩, .slice none 0 0] 30))
  have HA := Lib.hid (h.gr HG.out)
  have HO := Lib.hid (ownsRow_gr HG.out hr)
  have HF := Lib.hid (Far.of_gr (b := b) (v := v) HG.out)
  have HV := Lib.hid (From.refl v w)
  have HVB := Lib.hid (show v.ownBlock ≠ some b from row_off h hr (by decide))
  have HVP := Lib.hid (show ∀ k, v.ownBlock = some k → k < w.heap.size from fun k e => (hr.lt _ e).2)
  have hlt := h.lt
  have hbs : Hid (base ≤ ((w.alloc (.cells #[.int .i64 kd, .int .i64 frm, .int .i64 tt, .int .i64 sub, .int .u64 c, .int .i64 n, .int .i64 slot, .int .i64 time, .bool ok, .string text, .slice la ll lc] 30)).alloc (.cells #[.int .i64 0, .int .i64 0, .int .i64 0, .int .i64 0, .int .u64 0, .int .i64 0, .int .i64 0, .int .i64 0, .bool false, .string ⟨#[]⟩, .slice none 0 0] 30)).heap.size) := Lib.hid (Nat.le_trans hb HG.out.size)
  clear h hr HG
  go_enter Try.func14, Try.ntmps14
  go_wp2_with fail
  generalize (w.alloc (.cells #[.int .i64 kd, .int .i64 frm, .int .i64 tt, .int .i64 sub, .int .u64 c, .int .i64 n, .int .i64 slot, .int .i64 time, .bool ok, .string text, .slice la ll lc] 30)).alloc (.cells #[.int .i64 0, .int .i64 0, .int .i64 0, .int .i64 0, .int .u64 0, .int .i64 0, .int .i64 0, .int .i64 0, .bool false, .string ⟨#[]⟩, .slice none 0 0] 30) = wa at *
  have n1 : w.heap.size ≠ b := by omega
  have n2 : w.heap.size + 1 ≠ b := by omega
  have HL := Lib.hid hlate
  have HSL := Lib.hid hsl
  have m4 := HM.out.cell (i := 4) rfl
  have m5 := HM.out.cell (i := 5) rfl
  go_wp2_with fail
  refine (isLate_any c n _ HA.out).mono ?_
  rw [HL.out]
  rintro e w1 ⟨rfl, hg1⟩
  have HA1 := Lib.hid (HA.out.gr hg1)
  have HM1 := Lib.hid (HM.out.gr hg1)
  have HR1 := Lib.hid (HR.out.gr hg1)
  have HO1 := Lib.hid (ownsRow_gr hg1 HO.out)
  have HF1 := Lib.hid (HF.out.trans HV.out (Far.of_gr hg1))
  clear HA HM HR HO HF
  clear hg1 m4 m5
  have m6 := HM1.out.cell (i := 6) rfl
  have b3 := HA1.out.cell (i := 3) rfl
  go_wp2_with fail
  refine wp_region_held_drew (S := (fun w9 => w9.cell? ⟨w.heap.size, 6, none⟩ = some (.int .i64 slot) ∧ w9.cell? ⟨b, 3, none⟩ = some (.int .i64 ba))) (by kernel_rfl) ?invc (fun h0 => ?_)
  case invc => ((try dsimp only); (exact ⟨m6, b3⟩))
  refine wpAnyH_take (i := 0) (oi := { dst := some 16, op := Go.Op.fieldAddr 30 (Go.Operand.tmp 3) 5, type := 0, pos := "accept.go:107", after := #[], guard := none }) (v := ?vc1) rfl (by kernel_rfl) (by kernel_rfl) (by kernel_rfl) (fun _ _ _ h => h) (Or.inl ⟨by rfl, ?rc1⟩) (by assumption) ?_
  case rc1 => (intro w hSw; (try dsimp only at hSw); (go_simp <;> with_reducible rfl))
  try simp only [Act.put, List.setIfInBounds_toArray, List.set_cons_zero, List.set_cons_succ]
  refine wpAnyH_take (i := 1) (oi := { dst := some 17, op := Go.Op.load 3 (Go.Operand.tmp 16), type := 3, pos := "accept.go:107", after := #[{ on := 0, ground := Go.Ground.data }], guard := none }) (v := ?vc2) rfl (by kernel_rfl) (by kernel_rfl) (by kernel_rfl) (fun _ _ _ h => h) (Or.inl ⟨by rfl, ?rc2⟩) (by assumption) ?_
  case rc2 => (intro w hSw; (try dsimp only at hSw); (go_simp <;> with_reducible rfl))
  try simp only [Act.put, List.setIfInBounds_toArray, List.set_cons_zero, List.set_cons_succ]
  refine wpAnyH_take (i := 2) (oi := { dst := some 18, op := Go.Op.move (Go.Operand.tmp 0), type := 23, pos := "accept.go:107", after := #[], guard := none }) (v := ?vc3) rfl (by kernel_rfl) (by kernel_rfl) (by kernel_rfl) (fun _ _ _ h => h) (Or.inl ⟨by rfl, ?rc3⟩) (by assumption) ?_
  case rc3 => (intro w hSw; (try dsimp only at hSw); (go_simp <;> with_reducible rfl))
  try simp only [Act.put, List.setIfInBounds_toArray, List.set_cons_zero, List.set_cons_succ]
  refine wpAnyH_take (i := 3) (oi := { dst := some 19, op := Go.Op.nilCheck (Go.Operand.tmp 18), type := 0, pos := "accept.go:107", after := #[{ on := 2, ground := Go.Ground.data }], guard := none }) (v := ?vc4) rfl (by kernel_rfl) (by kernel_rfl) (by kernel_rfl) (fun _ _ _ h => h) (Or.inl ⟨by rfl, ?rc4⟩) (by assumption) ?_
  case rc4 => (intro w hSw; (try dsimp only at hSw); (go_simp <;> with_reducible rfl))
  try simp only [Act.put, List.setIfInBounds_toArray, List.set_cons_zero, List.set_cons_succ]
  refine wpAnyH_take (i := 4) (oi := { dst := some 20, op := Go.Op.fieldAddr 100 (Go.Operand.tmp 19) 2, type := 0, pos := "accept.go:107", after := #[{ on := 3, ground := Go.Ground.data }], guard := none }) (v := ?vc5) rfl (by kernel_rfl) (by kernel_rfl) (by kernel_rfl) (fun _ _ _ h => h) (Or.inl ⟨by rfl, ?rc5⟩) (by assumption) ?_
  case rc5 => (intro w hSw; (try dsimp only at hSw); (go_simp <;> with_reducible rfl))
  try simp only [Act.put, List.setIfInBounds_toArray, List.set_cons_zero, List.set_cons_succ]
  refine wpAnyH_take (i := 5) (oi := { dst := some 21, op := Go.Op.load 3 (Go.Operand.tmp 20), type := 3, pos := "accept.go:107", after := #[{ on := 4, ground := Go.Ground.data }], guard := none }) (v := ?vc6) rfl (by kernel_rfl) (by kernel_rfl) (by kernel_rfl) (fun _ _ _ h => h) (Or.inl ⟨by rfl, ?rc6⟩) (by assumption) ?_
  case rc6 => (intro w hSw; (try dsimp only at hSw); (go_simp <;> with_reducible rfl))
  try simp only [Act.put, List.setIfInBounds_toArray, List.set_cons_zero, List.set_cons_succ]
  refine wpAnyH_take (i := 6) (oi := { dst := some 22, op := Go.Op.binOp Go.BinOp.gtr 3 (Go.Operand.tmp 17) (Go.Operand.tmp 21) 3, type := 4, pos := "accept.go:107", after := #[{ on := 1, ground := Go.Ground.data }, { on := 5, ground := Go.Ground.data }], guard := none }) (v := (.bool true)) rfl (by kernel_rfl) (by kernel_rfl) (by kernel_rfl) (fun _ _ _ h => h) (Or.inl ⟨by rfl, ?rc7⟩) (by assumption) ?_
  case rc7 => (intro w hSw; (try dsimp only at hSw); go_simp; all_goals simp [HSL.out])
  try simp only [Act.put, List.setIfInBounds_toArray, List.set_cons_zero, List.set_cons_succ]
  refine wpAnyH_take (i := 7) (oi := { dst := some 6, op := Go.Op.assign (Go.Operand.tmp 22), type := 4, pos := "accept.go:107", after := #[{ on := 6, ground := Go.Ground.data }, { on := 0, ground := Go.Ground.phase }, { on := 1, ground := Go.Ground.phase }, { on := 2, ground := Go.Ground.phase }, { on := 3, ground := Go.Ground.phase }, { on := 4, ground := Go.Ground.phase }, { on := 5, ground := Go.Ground.phase }, { on := 6, ground := Go.Ground.phase }], guard := none }) (v := ?vc8) rfl (by kernel_rfl) (by kernel_rfl) (by kernel_rfl) (fun _ _ _ h => h) (Or.inl ⟨by rfl, ?rc8⟩) (by assumption) ?_
  case rc8 => (intro w hSw; (try dsimp only at hSw); (go_simp <;> with_reducible rfl))
  try simp only [Act.put, List.setIfInBounds_toArray, List.set_cons_zero, List.set_cons_succ]
  refine wpAnyH_done (by kernel_rfl) ?_ _
  have QP := Lib.hid h0
  clear h0 m6 b3
  have HA2 := Lib.hid (HA1.out.gr (Gr.refl w1).drew)
  have HM2 := Lib.hid (HM1.out.gr (Gr.refl w1).drew)
  have HR2 := Lib.hid (HR1.out.gr (Gr.refl w1).drew)
  have HO2 := Lib.hid (ownsRow_gr (Gr.refl w1).drew HO1.out)
  have HF2 := Lib.hid (HF1.out.trans HV.out (Far.of_gr (Gr.refl w1).drew))
  clear HA1 HM1 HR1 HO1 HF1
  have m6 := HM2.out.cell (i := 6) rfl
  go_wp2_with fail
  refine (find_any slot L _ HA2.out HO2.out hl ha).mono ?_
  rintro e w2 ⟨i, fd, rfl, hi, hcut, hfd, hg2⟩
  have HFD := Lib.hid hfd
  have HCUT := Lib.hid hcut
  have HA3 := Lib.hid (HA2.out.gr hg2)
  have HM3 := Lib.hid (HM2.out.gr hg2)
  have HR3 := Lib.hid (HR2.out.gr hg2)
  have HO3 := Lib.hid (ownsRow_gr hg2 HO2.out)
  have HF3 := Lib.hid (HF2.out.trans HV.out (Far.of_gr hg2))
  clear HA2 HM2 HR2 HO2 HF2
  clear hfd hcut hg2 m6
  obtain rfl : fd = false := by cases hq : fd with | false => rfl | true => exact absurd ((has_cut ha HCUT.out).2 (HFD.out.1 hq)) (by rw [hno]; simp)
  obtain ⟨va, vc, hv, _⟩ := ownsRow_slice HO3.out
  have b4 : w2.cell? ⟨b, 4, none⟩ = some (.slice va L.length vc) := by rw [← hv]; exact HA3.out.cell (i := 4) rfl
  clear hv
  have hge : ¬ (64 : Int) ≤ (L.length : Int) := by omega
  have m4 := HM3.out.cell (i := 4) rfl
  have m5 := HM3.out.cell (i := 5) rfl
  go_wp2_with fail
  refine (promise_any c n _ HA3.out).mono ?_
  rw [← HQ.out]
  rintro e w3 ⟨rfl, hA3, hf3⟩
  have HA4 := Lib.hid hA3
  have HM4 := Lib.hid (HM3.out.far hf3 n1 (by simp [Value.ownBlock]))
  have HR4 := Lib.hid (HR3.out.far hf3 n2 (by simp [Value.ownBlock]))
  have HO4 := Lib.hid (ownsRow_far hf3 HO3.out HVB.out (fun k _ => by simp [Value.ownBlock]))
  have HF4 := Lib.hid (HF3.out.trans HV.out (Far.any hf3))
  clear HA3 HM3 HR3 HO3 HF3
  clear hA3 hf3 m4 m5
  go_wp2_with fail
  have m4 := HM4.out.cell (i := 4) rfl
  have m5 := HM4.out.cell (i := 5) rfl
  have m6 := HM4.out.cell (i := 6) rfl
  have m9 := HM4.out.cell (i := 9) rfl
  refine wp_region_held_drew (S := (fun w9 => w9.cell? ⟨w.heap.size, 4, none⟩ = some (.int .u64 c) ∧ w9.cell? ⟨w.heap.size, 5, none⟩ = some (.int .i64 n) ∧ w9.cell? ⟨w.heap.size, 6, none⟩ = some (.int .i64 slot) ∧ w9.cell? ⟨w.heap.size, 9, none⟩ = some (.string text))) (by kernel_rfl) ?invd (fun h0 => ?_)
  case invd => ((try dsimp only); (exact ⟨m4, m5, m6, m9⟩))
  refine wpAnyH_take (i := 0) (oi := { dst := some 48, op := Go.Op.move (Go.Operand.tmp 6), type := 4, pos := "accept.go:112", after := #[], guard := none }) (v := ?vd1) rfl (by kernel_rfl) (by kernel_rfl) (by kernel_rfl) (fun _ _ _ h => h) (Or.inl ⟨by rfl, ?rd1⟩) (by assumption) ?_
  case rd1 => (intro w hSw; (try dsimp only at hSw); (go_simp <;> with_reducible rfl))
  try simp only [Act.put, List.setIfInBounds_toArray, List.set_cons_zero, List.set_cons_succ]
  refine wpAnyH_take (i := 1) (oi := { dst := some 49, op := Go.Op.move (Go.Operand.tmp 48), type := 4, pos := "accept.go:112", after := #[{ on := 0, ground := Go.Ground.data }], guard := none }) (v := ?vd2) rfl (by kernel_rfl) (by kernel_rfl) (by kernel_rfl) (fun _ _ _ h => h) (Or.inl ⟨by rfl, ?rd2⟩) (by assumption) ?_
  case rd2 => (intro w hSw; (try dsimp only at hSw); (go_simp <;> with_reducible rfl))
  try simp only [Act.put, List.setIfInBounds_toArray, List.set_cons_zero, List.set_cons_succ]
  refine wpAnyH_take (i := 2) (oi := { dst := some 50, op := Go.Op.move (Go.Operand.tmp 0), type := 23, pos := "accept.go:112", after := #[{ on := 1, ground := Go.Ground.guard }], guard := some (1, true) }) (v := ?vd3) rfl (by kernel_rfl) (by kernel_rfl) (by kernel_rfl) (fun _ _ _ h => h) (Or.inl ⟨by rfl, ?rd3⟩) (by assumption) ?_
  case rd3 => (intro w hSw; (try dsimp only at hSw); (go_simp <;> with_reducible rfl))
  try simp only [Act.put, List.setIfInBounds_toArray, List.set_cons_zero, List.set_cons_succ]
  refine wpAnyH_take (i := 3) (oi := { dst := some 51, op := Go.Op.fieldAddr 30 (Go.Operand.tmp 3) 5, type := 0, pos := "accept.go:112", after := #[{ on := 1, ground := Go.Ground.guard }], guard := some (1, true) }) (v := ?vd4) rfl (by kernel_rfl) (by kernel_rfl) (by kernel_rfl) (fun _ _ _ h => h) (Or.inl ⟨by rfl, ?rd4⟩) (by assumption) ?_
  case rd4 => (intro w hSw; (try dsimp only at hSw); (go_simp <;> with_reducible rfl))
  try simp only [Act.put, List.setIfInBounds_toArray, List.set_cons_zero, List.set_cons_succ]
  refine wpAnyH_take (i := 4) (oi := { dst := some 52, op := Go.Op.load 3 (Go.Operand.tmp 51), type := 3, pos := "accept.go:112", after := #[{ on := 3, ground := Go.Ground.data }, { on := 1, ground := Go.Ground.guard }], guard := some (1, true) }) (v := ?vd5) rfl (by kernel_rfl) (by kernel_rfl) (by kernel_rfl) (fun _ _ _ h => h) (Or.inl ⟨by rfl, ?rd5⟩) (by assumption) ?_
  case rd5 => (intro w hSw; (try dsimp only at hSw); (go_simp <;> with_reducible rfl))
  try simp only [Act.put, List.setIfInBounds_toArray, List.set_cons_zero, List.set_cons_succ]
  refine wpAnyH_take (i := 5) (oi := { dst := some 53, op := Go.Op.fieldAddr 30 (Go.Operand.tmp 3) 4, type := 0, pos := "accept.go:112", after := #[{ on := 1, ground := Go.Ground.guard }], guard := some (1, true) }) (v := ?vd6) rfl (by kernel_rfl) (by kernel_rfl) (by kernel_rfl) (fun _ _ _ h => h) (Or.inl ⟨by rfl, ?rd6⟩) (by assumption) ?_
  case rd6 => (intro w hSw; (try dsimp only at hSw); (go_simp <;> with_reducible rfl))
  try simp only [Act.put, List.setIfInBounds_toArray, List.set_cons_zero, List.set_cons_succ]
  refine wpAnyH_take (i := 6) (oi := { dst := some 54, op := Go.Op.load 27 (Go.Operand.tmp 53), type := 27, pos := "accept.go:112", after := #[{ on := 5, ground := Go.Ground.data }, { on := 1, ground := Go.Ground.guard }], guard := some (1, true) }) (v := ?vd7) rfl (by kernel_rfl) (by kernel_rfl) (by kernel_rfl) (fun _ _ _ h => h) (Or.inl ⟨by rfl, ?rd7⟩) (by assumption) ?_
  case rd7 => (intro w hSw; (try dsimp only at hSw); (go_simp <;> with_reducible rfl))
  try simp only [Act.put, List.setIfInBounds_toArray, List.set_cons_zero, List.set_cons_succ]
  refine wpAnyH_take (i := 7) (oi := { dst := some 55, op := Go.Op.move (Go.Operand.tmp 0), type := 23, pos := "accept.go:112", after := #[{ on := 1, ground := Go.Ground.guard }], guard := some (1, true) }) (v := ?vd8) rfl (by kernel_rfl) (by kernel_rfl) (by kernel_rfl) (fun _ _ _ h => h) (Or.inl ⟨by rfl, ?rd8⟩) (by assumption) ?_
  case rd8 => (intro w hSw; (try dsimp only at hSw); (go_simp <;> with_reducible rfl))
  try simp only [Act.put, List.setIfInBounds_toArray, List.set_cons_zero, List.set_cons_succ]
  refine wpAnyH_take (i := 8) (oi := { dst := some 56, op := Go.Op.fieldAddr 30 (Go.Operand.tmp 3) 8, type := 0, pos := "accept.go:112", after := #[{ on := 1, ground := Go.Ground.guard }], guard := some (1, true) }) (v := ?vd9) rfl (by kernel_rfl) (by kernel_rfl) (by kernel_rfl) (fun _ _ _ h => h) (Or.inl ⟨by rfl, ?rd9⟩) (by assumption) ?_
  case rd9 => (intro w hSw; (try dsimp only at hSw); (go_simp <;> with_reducible rfl))
  try simp only [Act.put, List.setIfInBounds_toArray, List.set_cons_zero, List.set_cons_succ]
  refine wpAnyH_take (i := 9) (oi := { dst := some 57, op := Go.Op.load 9 (Go.Operand.tmp 56), type := 9, pos := "accept.go:112", after := #[{ on := 8, ground := Go.Ground.data }, { on := 1, ground := Go.Ground.guard }], guard := some (1, true) }) (v := ?vd10) rfl (by kernel_rfl) (by kernel_rfl) (by kernel_rfl) (fun _ _ _ h => h) (Or.inl ⟨by rfl, ?rd10⟩) (by assumption) ?_
  case rd10 => (intro w hSw; (try dsimp only at hSw); (go_simp <;> with_reducible rfl))
  try simp only [Act.put, List.setIfInBounds_toArray, List.set_cons_zero, List.set_cons_succ]
  refine wpAnyH_ready (rs := [10]) (by kernel_rfl) (by simp) ?_
  refine AllReadyH.cons (o := { dst := some 58, op := Go.Op.call { callee := Go.Callee.value (Go.Operand.func 62), args := #[Go.Operand.tmp 55, Go.Operand.tmp 57], argTypes := #[23, 9] }, type := 9, pos := "accept.go:112", after := #[{ on := 7, ground := Go.Ground.data }, { on := 9, ground := Go.Ground.data }, { on := 1, ground := Go.Ground.chain }, { on := 1, ground := Go.Ground.guard }], guard := some (1, true) }) rfl (fun K hK => ?_) AllReadyH.nil
  go_simp
  go_at_call 62
  refine (stored16_any text _ (HA4.out.gr (by first | exact Gr.refl _ | exact (Gr.refl _).drew)) ht).mono ?_
  rintro e w9 ⟨rfl, hg9⟩
  have hz9 : Gr w3 w9 := (by first | exact hg9 | exact (Gr.refl _).drew.trans hg9)
  have HA5 := Lib.hid (HA4.out.gr hz9)
  have HM5 := Lib.hid (HM4.out.gr hz9)
  have HR5 := Lib.hid (HR4.out.gr hz9)
  have HO5 := Lib.hid (ownsRow_gr hz9 HO4.out)
  have HF5 := Lib.hid (HF4.out.trans HV.out (Far.of_gr hz9))
  clear HA4 HM4 HR4 HO4 HF4
  first | refine hK.out _ _ ?sd11 (fun h11 => ?_) | (go_wp2_with fail; refine hK.out _ _ ?sd11 (fun h11 => ?_))
  case sd11 => ((try dsimp only); (exact ⟨hg9.cell h0.1, hg9.cell h0.2.1, hg9.cell h0.2.2.1, hg9.cell h0.2.2.2⟩))
  clear hK K h0
  try simp only [Act.put, List.setIfInBounds_toArray, List.set_cons_zero, List.set_cons_succ]
  refine wpAnyH_take (i := 11) (oi := { dst := some 59, op := Go.Op.build 108 #[(0, Go.Operand.tmp 52), (1, Go.Operand.tmp 54), (2, Go.Operand.tmp 58)], type := 108, pos := "accept.go:112", after := #[{ on := 4, ground := Go.Ground.data }, { on := 6, ground := Go.Ground.data }, { on := 10, ground := Go.Ground.data }, { on := 1, ground := Go.Ground.guard }], guard := some (1, true) }) (v := ?vd12) rfl (by kernel_rfl) (by kernel_rfl) (by kernel_rfl) (fun _ _ _ h => h) (Or.inl ⟨by rfl, ?rd12⟩) (by assumption) ?_
  case rd12 => (intro w hSw; (try dsimp only at hSw); (go_simp <;> with_reducible rfl))
  try simp only [Act.put, List.setIfInBounds_toArray, List.set_cons_zero, List.set_cons_succ]
  refine wpAnyH_ready (rs := [12]) (by kernel_rfl) (by simp) ?_
  refine AllReadyH.cons (o := { dst := some 60, op := Go.Op.call { callee := Go.Callee.value (Go.Operand.func 61), args := #[Go.Operand.tmp 50, Go.Operand.tmp 59], argTypes := #[23, 108] }, type := 4, pos := "accept.go:112", after := #[{ on := 2, ground := Go.Ground.data }, { on := 11, ground := Go.Ground.data }, { on := 10, ground := Go.Ground.chain }, { on := 1, ground := Go.Ground.guard }], guard := some (1, true) }) rfl (fun K hK => ?_) AllReadyH.nil
  go_simp
  go_at_call 61
  refine (set_any ⟨slot, c, n, kept16 wit text⟩ L _ HA5.out HO5.out hl ha (Nat.le_trans hb (HF5.out.size))).mono ?_
  rw [← HX.out]
  rintro e w10 ⟨v9, rfl, hA9, hO9, hF9, hV9⟩
  have HN0 := Lib.hid (show v.ownBlock ≠ some w.heap.size from fun e => by have := HVP.out _ e; omega)
  have HN1 := Lib.hid (show v.ownBlock ≠ some (w.heap.size + 1) from fun e => by have := HVP.out _ e; omega)
  have HN := Lib.hid (show v9.ownBlock ≠ some (w.heap.size + 1) from fun e => by
    rcases hV9 _ e with h1 | h1
    · exact HN1.out h1
    · have := HR5.out.lt; omega)
  have HM6 := Lib.hid (HM5.out.far hF9 n1 HN0.out)
  have HR6 := Lib.hid (HR5.out.far hF9 n2 HN1.out)
  have HA6 := Lib.hid hA9
  have HO6 := Lib.hid hO9
  have HF6 := Lib.hid (HF5.out.trans HV.out hF9)
  have HV9 := Lib.hid (HV.out.trans HF5.out.size hV9)
  first | refine hK.out _ _ ?sd13 (fun h13 => ?_) | (go_wp2_with fail; refine hK.out _ _ ?sd13 (fun h13 => ?_))
  case sd13 => ((try dsimp only); (exact ⟨hF9.cell n1 HN0.out h11.1, hF9.cell n1 HN0.out h11.2.1, hF9.cell n1 HN0.out h11.2.2.1, hF9.cell n1 HN0.out h11.2.2.2⟩))
  clear hK K h11
  try simp only [Act.put, List.setIfInBounds_toArray, List.set_cons_zero, List.set_cons_succ]
  refine wpAnyH_take (i := 13) (oi := { dst := some 61, op := Go.Op.pick (Go.Operand.tmp 49) (Go.Operand.tmp 60) (Go.Operand.const (Go.Value.bool false)), type := 4, pos := "accept.go:112", after := #[{ on := 1, ground := Go.Ground.data }, { on := 12, ground := Go.Ground.data }], guard := none }) (v := ?vd14) rfl (by kernel_rfl) (by kernel_rfl) (by kernel_rfl) (fun _ _ _ h => h) (Or.inl ⟨by rfl, ?rd14⟩) (by assumption) ?_
  case rd14 => (intro w hSw; (try dsimp only at hSw); (go_simp <;> with_reducible rfl))
  try simp only [Act.put, List.setIfInBounds_toArray, List.set_cons_zero, List.set_cons_succ]
  refine wpAnyH_done (by kernel_rfl) ?_ _
  clear h13 m4 m5 m6 m9 hA9 hO9 hF9 hV9 HM5 HR5 HA5 HO5 HF5 hz9 hg9
  cases x
  · have m4 := HM6.out.cell (i := 4) rfl
    have m5 := HM6.out.cell (i := 5) rfl
    have m6 := HM6.out.cell (i := 6) rfl
    obtain ⟨HT0, HO0, hat, hgr⟩ := msg_put HR6.out rfl [.int .i64 4, .int .i64 0, .int .i64 0, .int .i64 0, .int .u64 c, .int .i64 n, .int .i64 slot, .int .i64 0, .bool false, .string ⟨#[]⟩, .slice none 0 0] rfl (by intro u hu; simp only [List.mem_cons, List.not_mem_nil, or_false] at hu; rcases hu with rfl | rfl | rfl | rfl | rfl | rfl | rfl | rfl | rfl | rfl | rfl <;> rfl)
    have z0 : (w10.setCells (w.heap.size + 1) 0 [.int .i64 4, .int .i64 0, .int .i64 0, .int .i64 0, .int .u64 c, .int .i64 n, .int .i64 slot, .int .i64 0, .bool false, .string ⟨#[]⟩, .slice none 0 0]).cell? ⟨w.heap.size + 1, 0, none⟩ = some (.int .i64 4) := hat 0 (by decide)
    have z1 : (w10.setCells (w.heap.size + 1) 0 [.int .i64 4, .int .i64 0, .int .i64 0, .int .i64 0, .int .u64 c, .int .i64 n, .int .i64 slot, .int .i64 0, .bool false, .string ⟨#[]⟩, .slice none 0 0]).cell? ⟨w.heap.size + 1, 1, none⟩ = some (.int .i64 0) := hat 1 (by decide)
    have z2 : (w10.setCells (w.heap.size + 1) 0 [.int .i64 4, .int .i64 0, .int .i64 0, .int .i64 0, .int .u64 c, .int .i64 n, .int .i64 slot, .int .i64 0, .bool false, .string ⟨#[]⟩, .slice none 0 0]).cell? ⟨w.heap.size + 1, 2, none⟩ = some (.int .i64 0) := hat 2 (by decide)
    have z3 : (w10.setCells (w.heap.size + 1) 0 [.int .i64 4, .int .i64 0, .int .i64 0, .int .i64 0, .int .u64 c, .int .i64 n, .int .i64 slot, .int .i64 0, .bool false, .string ⟨#[]⟩, .slice none 0 0]).cell? ⟨w.heap.size + 1, 3, none⟩ = some (.int .i64 0) := hat 3 (by decide)
    have z4 : (w10.setCells (w.heap.size + 1) 0 [.int .i64 4, .int .i64 0, .int .i64 0, .int .i64 0, .int .u64 c, .int .i64 n, .int .i64 slot, .int .i64 0, .bool false, .string ⟨#[]⟩, .slice none 0 0]).cell? ⟨w.heap.size + 1, 4, none⟩ = some (.int .u64 c) := hat 4 (by decide)
    have z5 : (w10.setCells (w.heap.size + 1) 0 [.int .i64 4, .int .i64 0, .int .i64 0, .int .i64 0, .int .u64 c, .int .i64 n, .int .i64 slot, .int .i64 0, .bool false, .string ⟨#[]⟩, .slice none 0 0]).cell? ⟨w.heap.size + 1, 5, none⟩ = some (.int .i64 n) := hat 5 (by decide)
    have z6 : (w10.setCells (w.heap.size + 1) 0 [.int .i64 4, .int .i64 0, .int .i64 0, .int .i64 0, .int .u64 c, .int .i64 n, .int .i64 slot, .int .i64 0, .bool false, .string ⟨#[]⟩, .slice none 0 0]).cell? ⟨w.heap.size + 1, 6, none⟩ = some (.int .i64 slot) := hat 6 (by decide)
    have z7 : (w10.setCells (w.heap.size + 1) 0 [.int .i64 4, .int .i64 0, .int .i64 0, .int .i64 0, .int .u64 c, .int .i64 n, .int .i64 slot, .int .i64 0, .bool false, .string ⟨#[]⟩, .slice none 0 0]).cell? ⟨w.heap.size + 1, 7, none⟩ = some (.int .i64 0) := hat 7 (by decide)
    have z8 : (w10.setCells (w.heap.size + 1) 0 [.int .i64 4, .int .i64 0, .int .i64 0, .int .i64 0, .int .u64 c, .int .i64 n, .int .i64 slot, .int .i64 0, .bool false, .string ⟨#[]⟩, .slice none 0 0]).cell? ⟨w.heap.size + 1, 8, none⟩ = some (.bool false) := hat 8 (by decide)
    have z9 : (w10.setCells (w.heap.size + 1) 0 [.int .i64 4, .int .i64 0, .int .i64 0, .int .i64 0, .int .u64 c, .int .i64 n, .int .i64 slot, .int .i64 0, .bool false, .string ⟨#[]⟩, .slice none 0 0]).cell? ⟨w.heap.size + 1, 9, none⟩ = some (.string ⟨#[]⟩) := hat 9 (by decide)
    have z10 : (w10.setCells (w.heap.size + 1) 0 [.int .i64 4, .int .i64 0, .int .i64 0, .int .i64 0, .int .u64 c, .int .i64 n, .int .i64 slot, .int .i64 0, .bool false, .string ⟨#[]⟩, .slice none 0 0]).cell? ⟨w.heap.size + 1, 10, none⟩ = some (.slice none 0 0) := hat 10 (by decide)
    have HAF := Lib.hid (HA6.out.grown hgr n2.symm)
    have HFF := Lib.hid (Far.grownV (v1 := v) HF6.out hgr (Nat.le_succ _))
    have HOF := Lib.hid (HO6.out.kept hgr (.inr HN.out))
    clear hat hgr
    generalize hMS : ([.int .i64 4, .int .i64 0, .int .i64 0, .int .i64 0, .int .u64 c, .int .i64 n, .int .i64 slot, .int .i64 0, .bool false, .string ⟨#[]⟩, .slice none 0 0] : List Value) = ms at *
    have HMS := Lib.hid (show Value.agg #[.int .i64 4, .int .i64 0, .int .i64 0, .int .i64 0, .int .u64 c, .int .i64 n, .int .i64 slot, .int .i64 0, .bool false, .string ⟨#[]⟩, .slice none 0 0] = Value.agg ms.toArray by rw [← hMS])
    have hml := Lib.hid (show ms.toArray.size = 11 by rw [← hMS]; rfl)
    have HTT := Lib.hid HT0
    have HOO := Lib.hid HO0
    clear hMS HT0 HO0
    go_wp2_with (first | (refine wpList_store_mid rfl 30 (.tmp 4) (.tmp 66) rfl (w.heap.size + 1) 0 ms.toArray (by rfl) (by first | rfl | exact HMS.out) HTT.out (by rw [hml.out]; exact info_msg) HOO.out ?_))
    refine bodyPost_ret (v := .tuple #[.agg #[.int .i64 4, .int .i64 0, .int .i64 0, .int .i64 0, .int .u64 c, .int .i64 n, .int .i64 slot, .int .i64 0, .bool false, .string ⟨#[]⟩, .slice none 0 0], .bool q]) (by simp [results, Try.results14, go_sem, z0, z1, z2, z3, z4, z5, z6, z7, z8, z9, z10]; try rfl) rfl ?_
    exact ⟨v9, by rw [Bool.or_false], HAF.out, HOF.out, HFF.out, HV9.out⟩
  · have m4 := HM6.out.cell (i := 4) rfl
    have m5 := HM6.out.cell (i := 5) rfl
    have m6 := HM6.out.cell (i := 6) rfl
    obtain ⟨HT0, HO0, hat, hgr⟩ := msg_put HR6.out rfl [.int .i64 4, .int .i64 0, .int .i64 0, .int .i64 0, .int .u64 c, .int .i64 n, .int .i64 slot, .int .i64 0, .bool false, .string ⟨#[]⟩, .slice none 0 0] rfl (by intro u hu; simp only [List.mem_cons, List.not_mem_nil, or_false] at hu; rcases hu with rfl | rfl | rfl | rfl | rfl | rfl | rfl | rfl | rfl | rfl | rfl <;> rfl)
    have z0 : (w10.setCells (w.heap.size + 1) 0 [.int .i64 4, .int .i64 0, .int .i64 0, .int .i64 0, .int .u64 c, .int .i64 n, .int .i64 slot, .int .i64 0, .bool false, .string ⟨#[]⟩, .slice none 0 0]).cell? ⟨w.heap.size + 1, 0, none⟩ = some (.int .i64 4) := hat 0 (by decide)
    have z1 : (w10.setCells (w.heap.size + 1) 0 [.int .i64 4, .int .i64 0, .int .i64 0, .int .i64 0, .int .u64 c, .int .i64 n, .int .i64 slot, .int .i64 0, .bool false, .string ⟨#[]⟩, .slice none 0 0]).cell? ⟨w.heap.size + 1, 1, none⟩ = some (.int .i64 0) := hat 1 (by decide)
    have z2 : (w10.setCells (w.heap.size + 1) 0 [.int .i64 4, .int .i64 0, .int .i64 0, .int .i64 0, .int .u64 c, .int .i64 n, .int .i64 slot, .int .i64 0, .bool false, .string ⟨#[]⟩, .slice none 0 0]).cell? ⟨w.heap.size + 1, 2, none⟩ = some (.int .i64 0) := hat 2 (by decide)
    have z3 : (w10.setCells (w.heap.size + 1) 0 [.int .i64 4, .int .i64 0, .int .i64 0, .int .i64 0, .int .u64 c, .int .i64 n, .int .i64 slot, .int .i64 0, .bool false, .string ⟨#[]⟩, .slice none 0 0]).cell? ⟨w.heap.size + 1, 3, none⟩ = some (.int .i64 0) := hat 3 (by decide)
    have z4 : (w10.setCells (w.heap.size + 1) 0 [.int .i64 4, .int .i64 0, .int .i64 0, .int .i64 0, .int .u64 c, .int .i64 n, .int .i64 slot, .int .i64 0, .bool false, .string ⟨#[]⟩, .slice none 0 0]).cell? ⟨w.heap.size + 1, 4, none⟩ = some (.int .u64 c) := hat 4 (by decide)
    have z5 : (w10.setCells (w.heap.size + 1) 0 [.int .i64 4, .int .i64 0, .int .i64 0, .int .i64 0, .int .u64 c, .int .i64 n, .int .i64 slot, .int .i64 0, .bool false, .string ⟨#[]⟩, .slice none 0 0]).cell? ⟨w.heap.size + 1, 5, none⟩ = some (.int .i64 n) := hat 5 (by decide)
    have z6 : (w10.setCells (w.heap.size + 1) 0 [.int .i64 4, .int .i64 0, .int .i64 0, .int .i64 0, .int .u64 c, .int .i64 n, .int .i64 slot, .int .i64 0, .bool false, .string ⟨#[]⟩, .slice none 0 0]).cell? ⟨w.heap.size + 1, 6, none⟩ = some (.int .i64 slot) := hat 6 (by decide)
    have z7 : (w10.setCells (w.heap.size + 1) 0 [.int .i64 4, .int .i64 0, .int .i64 0, .int .i64 0, .int .u64 c, .int .i64 n, .int .i64 slot, .int .i64 0, .bool false, .string ⟨#[]⟩, .slice none 0 0]).cell? ⟨w.heap.size + 1, 7, none⟩ = some (.int .i64 0) := hat 7 (by decide)
    have z8 : (w10.setCells (w.heap.size + 1) 0 [.int .i64 4, .int .i64 0, .int .i64 0, .int .i64 0, .int .u64 c, .int .i64 n, .int .i64 slot, .int .i64 0, .bool false, .string ⟨#[]⟩, .slice none 0 0]).cell? ⟨w.heap.size + 1, 8, none⟩ = some (.bool false) := hat 8 (by decide)
    have z9 : (w10.setCells (w.heap.size + 1) 0 [.int .i64 4, .int .i64 0, .int .i64 0, .int .i64 0, .int .u64 c, .int .i64 n, .int .i64 slot, .int .i64 0, .bool false, .string ⟨#[]⟩, .slice none 0 0]).cell? ⟨w.heap.size + 1, 9, none⟩ = some (.string ⟨#[]⟩) := hat 9 (by decide)
    have z10 : (w10.setCells (w.heap.size + 1) 0 [.int .i64 4, .int .i64 0, .int .i64 0, .int .i64 0, .int .u64 c, .int .i64 n, .int .i64 slot, .int .i64 0, .bool false, .string ⟨#[]⟩, .slice none 0 0]).cell? ⟨w.heap.size + 1, 10, none⟩ = some (.slice none 0 0) := hat 10 (by decide)
    have HAF := Lib.hid (HA6.out.grown hgr n2.symm)
    have HFF := Lib.hid (Far.grownV (v1 := v) HF6.out hgr (Nat.le_succ _))
    have HOF := Lib.hid (HO6.out.kept hgr (.inr HN.out))
    clear hat hgr
    generalize hMS : ([.int .i64 4, .int .i64 0, .int .i64 0, .int .i64 0, .int .u64 c, .int .i64 n, .int .i64 slot, .int .i64 0, .bool false, .string ⟨#[]⟩, .slice none 0 0] : List Value) = ms at *
    have HMS := Lib.hid (show Value.agg #[.int .i64 4, .int .i64 0, .int .i64 0, .int .i64 0, .int .u64 c, .int .i64 n, .int .i64 slot, .int .i64 0, .bool false, .string ⟨#[]⟩, .slice none 0 0] = Value.agg ms.toArray by rw [← hMS])
    have hml := Lib.hid (show ms.toArray.size = 11 by rw [← hMS]; rfl)
    have HTT := Lib.hid HT0
    have HOO := Lib.hid HO0
    clear hMS HT0 HO0
    go_wp2_with (first | (refine wpList_store_mid rfl 30 (.tmp 4) (.tmp 66) rfl (w.heap.size + 1) 0 ms.toArray (by rfl) (by first | rfl | exact HMS.out) HTT.out (by rw [hml.out]; exact info_msg) HOO.out ?_))
    refine bodyPost_ret (v := .tuple #[.agg #[.int .i64 4, .int .i64 0, .int .i64 0, .int .i64 0, .int .u64 c, .int .i64 n, .int .i64 slot, .int .i64 0, .bool false, .string ⟨#[]⟩, .slice none 0 0], .bool true]) (by simp [results, Try.results14, go_sem, z0, z1, z2, z3, z4, z5, z6, z7, z8, z9, z10]; try rfl) rfl ?_
    exact ⟨v9, by rw [Bool.or_true], HAF.out, HOF.out, HFF.out, HV9.out⟩
end Go.Proofs.Ytkihencimbdoiaa
