import Derived.Test.YtkihencimbdoiaaF16u
import Derived.Test.YtkihencimbdoiaaF04
import Derived.WalkKit
import Derived.ProofKit
import Derived.LoopTactic
import Derived.Outline
import Derived.WalkSpells
import Derived.WalkLawsBesides
import Derived.Lib.Hide
import Derived.Deep.LoopGhost
import Derived.Deep.QuietTactic
import Derived.BigQuiet
import Derived.ShutString
import Derived.IntWalk
import Derived.BigQuiet
import Derived.Lib.MinMax
import Derived.Deep.MidRow
import Derived.Deep.RegionWith
import Derived.Deep.RegionHeld3
namespace Go.Proofs.Ytkihencimbdoiaa
open Go.ChangeShapes Go.WideShapes Go.ChangeAt Go.RowKit
open Bal
open Rates
set_option linter.unusedVariables false
set_option linter.unusedSimpArgs false
/-- Until when a grant is given. -/
def untilA (now long til : Int) : Int := max (lim (lim now + lim long)) til
set_option maxRecDepth 100000 in
set_option maxHeartbeats 4000000 in
theorem ask_late {base b : Nat} {v : Value} {wit : Bool} {pc pn ba to til : Int} {L : List E} (kd frm tt sub c n slot time : Int) (ok : Bool) (text : ByteArray) (la : Option Addr) (ll lc : Nat) (w : World) (h : Blk w b #[.bool wit, .int .u64 pc, .int .i64 pn, .int .i64 ba, v, .int .i64 to, .int .i64 til] 100) (hr : w.ownsRow base 108 4 v L.length (rcells encE L)) (hl : L.length ≤ 1000) (ha : Asc L) (hb : base ≤ w.heap.size) (now long : Int) (hlate : decide (cmpB c n pc pn < 0) = true) :
    Calls Try.prog 22 #[.pointer (some ⟨b, 0, none⟩), .agg #[.int .i64 kd, .int .i64 frm, .int .i64 tt, .int .i64 sub, .int .u64 c, .int .i64 n, .int .i64 slot, .int .i64 time, .bool ok, .string text, .slice la ll lc], .int .i64 now, .int .i64 long] w fun e w' => e = .returned (.tuple #[.agg #[.int .i64 5, .int .i64 0, .int .i64 0, .int .i64 0, .int .u64 pc, .int .i64 pn, .int .i64 0, .int .i64 0, .bool false, .string ⟨#[]⟩, .slice none 0 0], .bool false]) ∧ Blk w' b #[.bool wit, .int .u64 pc, .int .i64 pn, .int .i64 ba, v, .int .i64 to, .int .i64 til] 100 ∧ w'.ownsRow base 108 4 v L.length (rcells encE L) ∧ Far b v w w' := by
  have HM := Lib.hid ((Blk.new w #[.int .i64 kd, .int .i64 frm, .int .i64 tt, .int .i64 sub, .int .u64 c, .int .i64 n, .int .i64 slot, .int .i64 time, .bool ok, .string text, .slice la ll lc] 30).gr ((Gr.refl _).alloc (.cells #[.int .i64 0, .int .i64 0, .int .i64 0, .int .i64 0, .int .u64 0, .int .i64 0, .int .i64 0, .int .i64 0, .bool false, .string ⟨#[]⟩, .slice none 0 0] 30)))
  have HR := Lib.hid (Blk.new (w.alloc (.cells #[.int .i64 kd, .int .i64 frm, .int .i64 tt, .int .i64 sub, .int .u64 c, .int .i64 n, .int .i64 slot, .int .i64 time, .bool ok, .string text, .slice la ll lc] 30)) #[.int .i64 0, .int .i64 0, .int .i64 0, .int .i64 0, .int .u64 0, .int .i64 0, .int .i64 0, .int .i64 0, .bool false, .string ⟨#[]⟩, .slice none 0 0] 30)
  rw [show (w.alloc (.cells #[.int .i64 kd, .int .i64 frm, .int .i64 tt, .int .i64 sub, .int .u64 c, .int .i64 n, .int .i64 slot, .int .i64 time, .bool ok, .string text, .slice la ll lc] 30)).heap.size = w.heap.size + 1 by simp] at HR
  have HG := Lib.hid (((Gr.refl w).alloc (.cells #[.int .i64 kd, .int .i64 frm, .int .i64 tt, .int .i64 sub, .int .u64 c, .int .i64 n, .int .i64 slot, .int .i64 time, .bool ok, .string text, .slice la ll lc] 30)).alloc (.cells #[.int .i64 0, .int .i64 0, .int .i64 0, .int .i64 0, .int .u64 0, .int .i64 0, .int .i64 0, .int .i64 0, .bool false, .string ⟨#[]⟩, .slice none 0 0] 30))
  have HA := Lib.hid (h.gr HG.out)
  have HO := Lib.hid (ownsRow_gr HG.out hr)
  have HF := Lib.hid (Far.of_gr (b := b) (v := v) HG.out)
  have HV := Lib.hid (From.refl v w)
  have HVB := Lib.hid (show v.ownBlock ≠ some b from row_off h hr (by decide))
  have HVP := Lib.hid (show ∀ k, v.ownBlock = some k → k < w.heap.size from fun k e => (hr.lt _ e).2)
  have hlt := h.lt
  have hbs : Hid (base ≤ ((w.alloc (.cells #[.int .i64 kd, .int .i64 frm, .int .i64 tt, .int .i64 sub, .int .u64 c, .int .i64 n, .int .i64 slot, .int .i64 time, .bool ok, .string text, .slice la ll lc] 30)).alloc (.cells #[.int .i64 0, .int .i64 0, .int .i64 0, .int .i64 0, .int .u64 0, .int .i64 0, .int .i64 0, .int .i64 0, .bool false, .string ⟨#[]⟩, .slice none 0 0] 30)).heap.size) := Lib.hid (Nat.le_trans hb HG.out.size)
  clear h hr HG
  go_enter Try.func22, Try.ntmps22
  go_wp2_with fail
  generalize (w.alloc (.cells #[.int .i64 kd, .int .i64 frm, .int .i64 tt, .int .i64 sub, .int .u64 c, .int .i64 n, .int .i64 slot, .int .i64 time, .bool ok, .string text, .slice la ll lc] 30)).alloc (.cells #[.int .i64 0, .int .i64 0, .int .i64 0, .int .i64 0, .int .u64 0, .int .i64 0, .int .i64 0, .int .i64 0, .bool false, .string ⟨#[]⟩, .slice none 0 0] 30) = wa at *
  have n1 : w.heap.size ≠ b := by omega
  have n2 : w.heap.size + 1 ≠ b := by omega
  have HL := Lib.hid hlate
  have m4 := HM.out.cell (i := 4) rfl
  have m5 := HM.out.cell (i := 5) rfl
  go_wp2_with fail
  refine (isLate_any c n _ HA.out).mono ?_
  rw [HL.out]
  rintro e w1 ⟨rfl, hg1⟩
  have HA1 := Lib.hid (HA.out.gr hg1)
  have HM1 := Lib.hid (HM.out.gr hg1)
  have HR1 := Lib.hid (HR.out.gr hg1)
  have HO1 := Lib.hid (ownsRow_gr hg1 HO.out)
  have HF1 := Lib.hid (HF.out.trans HV.out (Far.of_gr hg1))
  clear HA HM HR HO HF
  clear hg1 m4 m5
  go_wp2_with fail
  refine (refuse_any _ HA1.out).mono ?_
  rintro e w2 ⟨rfl, hg2⟩
  have HA2 := Lib.hid (HA1.out.gr hg2)
  have HM2 := Lib.hid (HM1.out.gr hg2)
  have HR2 := Lib.hid (HR1.out.gr hg2)
  have HO2 := Lib.hid (ownsRow_gr hg2 HO1.out)
  have HF2 := Lib.hid (HF1.out.trans HV.out (Far.of_gr hg2))
  clear HA1 HM1 HR1 HO1 HF1
  clear hg2
  have HN := Lib.hid (show v.ownBlock ≠ some (w.heap.size + 1) from fun e => by have := HVP.out _ e; omega)
  obtain ⟨HT0, HO0, hat, hgr⟩ := msg_put HR2.out rfl [.int .i64 5, .int .i64 0, .int .i64 0, .int .i64 0, .int .u64 pc, .int .i64 pn, .int .i64 0, .int .i64 0, .bool false, .string ⟨#[]⟩, .slice none 0 0] rfl (by intro u hu; simp only [List.mem_cons, List.not_mem_nil, or_false] at hu; rcases hu with rfl | rfl | rfl | rfl | rfl | rfl | rfl | rfl | rfl | rfl | rfl <;> rfl)
  have z0 : (w2.setCells (w.heap.size + 1) 0 [.int .i64 5, .int .i64 0, .int .i64 0, .int .i64 0, .int .u64 pc, .int .i64 pn, .int .i64 0, .int .i64 0, .bool false, .string ⟨#[]⟩, .slice none 0 0]).cell? ⟨w.heap.size + 1, 0, none⟩ = some (.int .i64 5) := hat 0 (by decide)
  have z1 : (w2.setCells (w.heap.size + 1) 0 [.int .i64 5, .int .i64 0, .int .i64 0, .int .i64 0, .int .u64 pc, .int .i64 pn, .int .i64 0, .int .i64 0, .bool false, .string ⟨#[]⟩, .slice none 0 0]).cell? ⟨w.heap.size + 1, 1, none⟩ = some (.int .i64 0) := hat 1 (by decide)
  have z2 : (w2.setCells (w.heap.size + 1) 0 [.int .i64 5, .int .i64 0, .int .i64 0, .int .i64 0, .int .u64 pc, .int .i64 pn, .int .i64 0, .int .i64 0, .bool false, .string ⟨#[]⟩, .slice none 0 0]).cell? ⟨w.heap.size + 1, 2, none⟩ = some (.int .i64 0) := hat 2 (by decide)
  have z3 : (w2.setCells (w.heap.size + 1) 0 [.int .i64 5, .int .i64 0, .int .i64 0, .int .i64 0, .int .u64 pc, .int .i64 pn, .int .i64 0, .int .i64 0, .bool false, .string ⟨#[]⟩, .slice none 0 0]).cell? ⟨w.heap.size + 1, 3, none⟩ = some (.int .i64 0) := hat 3 (by decide)
  have z4 : (w2.setCells (w.heap.size + 1) 0 [.int .i64 5, .int .i64 0, .int .i64 0, .int .i64 0, .int .u64 pc, .int .i64 pn, .int .i64 0, .int .i64 0, .bool false, .string ⟨#[]⟩, .slice none 0 0]).cell? ⟨w.heap.size + 1, 4, none⟩ = some (.int .u64 pc) := hat 4 (by decide)
  have z5 : (w2.setCells (w.heap.size + 1) 0 [.int .i64 5, .int .i64 0, .int .i64 0, .int .i64 0, .int .u64 pc, .int .i64 pn, .int .i64 0, .int .i64 0, .bool false, .string ⟨#[]⟩, .slice none 0 0]).cell? ⟨w.heap.size + 1, 5, none⟩ = some (.int .i64 pn) := hat 5 (by decide)
  have z6 : (w2.setCells (w.heap.size + 1) 0 [.int .i64 5, .int .i64 0, .int .i64 0, .int .i64 0, .int .u64 pc, .int .i64 pn, .int .i64 0, .int .i64 0, .bool false, .string ⟨#[]⟩, .slice none 0 0]).cell? ⟨w.heap.size + 1, 6, none⟩ = some (.int .i64 0) := hat 6 (by decide)
  have z7 : (w2.setCells (w.heap.size + 1) 0 [.int .i64 5, .int .i64 0, .int .i64 0, .int .i64 0, .int .u64 pc, .int .i64 pn, .int .i64 0, .int .i64 0, .bool false, .string ⟨#[]⟩, .slice none 0 0]).cell? ⟨w.heap.size + 1, 7, none⟩ = some (.int .i64 0) := hat 7 (by decide)
  have z8 : (w2.setCells (w.heap.size + 1) 0 [.int .i64 5, .int .i64 0, .int .i64 0, .int .i64 0, .int .u64 pc, .int .i64 pn, .int .i64 0, .int .i64 0, .bool false, .string ⟨#[]⟩, .slice none 0 0]).cell? ⟨w.heap.size + 1, 8, none⟩ = some (.bool false) := hat 8 (by decide)
  have z9 : (w2.setCells (w.heap.size + 1) 0 [.int .i64 5, .int .i64 0, .int .i64 0, .int .i64 0, .int .u64 pc, .int .i64 pn, .int .i64 0, .int .i64 0, .bool false, .string ⟨#[]⟩, .slice none 0 0]).cell? ⟨w.heap.size + 1, 9, none⟩ = some (.string ⟨#[]⟩) := hat 9 (by decide)
  have z10 : (w2.setCells (w.heap.size + 1) 0 [.int .i64 5, .int .i64 0, .int .i64 0, .int .i64 0, .int .u64 pc, .int .i64 pn, .int .i64 0, .int .i64 0, .bool false, .string ⟨#[]⟩, .slice none 0 0]).cell? ⟨w.heap.size + 1, 10, none⟩ = some (.slice none 0 0) := hat 10 (by decide)
  have HAF := Lib.hid (HA2.out.grown hgr n2.symm)
  have HFF := Lib.hid (Far.grownV (v1 := v) HF2.out hgr (Nat.le_succ _))
  have HOF := Lib.hid (HO2.out.kept hgr (.inr HN.out))
  clear hat hgr
  generalize hMS : ([.int .i64 5, .int .i64 0, .int .i64 0, .int .i64 0, .int .u64 pc, .int .i64 pn, .int .i64 0, .int .i64 0, .bool false, .string ⟨#[]⟩, .slice none 0 0] : List Value) = ms at *
  have HMS := Lib.hid (show Value.agg #[.int .i64 5, .int .i64 0, .int .i64 0, .int .i64 0, .int .u64 pc, .int .i64 pn, .int .i64 0, .int .i64 0, .bool false, .string ⟨#[]⟩, .slice none 0 0] = Value.agg ms.toArray by rw [← hMS])
  have hml := Lib.hid (show ms.toArray.size = 11 by rw [← hMS]; rfl)
  have HTT := Lib.hid HT0
  have HOO := Lib.hid HO0
  clear hMS HT0 HO0
  go_wp2_with (first | (refine wpList_store_mid rfl 30 (.tmp 8) (.tmp 18) rfl (w.heap.size + 1) 0 ms.toArray (by rfl) (by first | rfl | exact HMS.out) HTT.out (by rw [hml.out]; exact info_msg) HOO.out ?_))
  refine bodyPost_ret (v := .tuple #[.agg #[.int .i64 5, .int .i64 0, .int .i64 0, .int .i64 0, .int .u64 pc, .int .i64 pn, .int .i64 0, .int .i64 0, .bool false, .string ⟨#[]⟩, .slice none 0 0], .bool false]) (by simp [results, Try.results22, go_sem, z0, z1, z2, z3, z4, z5, z6, z7, z8, z9, z10]; try rfl) rfl ?_
  exact ⟨rfl, HAF.out, HOF.out, HFF.out⟩
set_option maxRecDepth 100000 in
set_option maxHeartbeats 4000000 in
theorem ask_bars {base b : Nat} {v : Value} {wit : Bool} {pc pn ba to til : Int} {L : List E} (kd frm tt sub c n slot time : Int) (ok : Bool) (text : ByteArray) (la : Option Addr) (ll lc : Nat) (w : World) (h : Blk w b #[.bool wit, .int .u64 pc, .int .i64 pn, .int .i64 ba, v, .int .i64 to, .int .i64 til] 100) (hr : w.ownsRow base 108 4 v L.length (rcells encE L)) (hl : L.length ≤ 1000) (ha : Asc L) (hb : base ≤ w.heap.size) (now long : Int) (hfrm : 0 ≤ frm ∧ frm ≤ 1000000) (htil : 0 ≤ til ∧ til ≤ 4000000000000) (hnow : 0 ≤ now ∧ now ≤ 4000000000000) (hbar : barsA to til frm now = true) (hlate : decide (cmpB c n pc pn < 0) = false) :
    Calls Try.prog 22 #[.pointer (some ⟨b, 0, none⟩), .agg #[.int .i64 kd, .int .i64 frm, .int .i64 tt, .int .i64 sub, .int .u64 c, .int .i64 n, .int .i64 slot, .int .i64 time, .bool ok, .string text, .slice la ll lc], .int .i64 now, .int .i64 long] w fun e w' => e = .returned (.tuple #[.agg #[.int .i64 5, .int .i64 0, .int .i64 0, .int .i64 0, .int .u64 pc, .int .i64 pn, .int .i64 0, .int .i64 (til - now), .bool false, .string ⟨#[]⟩, .slice none 0 0], .bool false]) ∧ Blk w' b #[.bool wit, .int .u64 pc, .int .i64 pn, .int .i64 ba, v, .int .i64 to, .int .i64 til] 100 ∧ w'.ownsRow base 108 4 v L.length (rcells encE L) ∧ Far b v w w' := by
  have HM := Lib.hid ((Blk.new w #[.int .i64 kd, .int .i64 frm, .int .i64 tt, .int .i64 sub, .int .u64 c, .int .i64 n, .int .i64 slot, .int .i64 time, .bool ok, .string text, .slice la ll lc] 30).gr ((Gr.refl _).alloc (.cells #[.int .i64 0, .int .i64 0, .int .i64 0, .int .i64 0, .int .u64 0, .int .i64 0, .int .i64 0, .int .i64 0, .bool false, .string ⟨#[]⟩, .slice none 0 0] 30)))
  have HR := Lib.hid (Blk.new (w.alloc (.cells #[.int .i64 kd, .int .i64 frm, .int .i64 tt, .int .i64 sub, .int .u64 c, .int .i64 n, .int .i64 slot, .int .i64 time, .bool ok, .string text, .slice la ll lc] 30)) #[.int .i64 0, .int .i64 0, .int .i64 0, .int .i64 0, .int .u64 0, .int .i64 0, .int .i64 0, .int .i64 0, .bool false, .string ⟨#[]⟩, .slice none 0 0] 30)
  rw [show (w.alloc (.cells #[.int .i64 kd, .int .i64 frm, .int .i64 tt, .int .i64 sub, .int .u64 c, .int .i64 n, .int .i64 slot, .int .i64 time, .bool ok, .string text, .slice la ll lc] 30)).heap.size = w.heap.size + 1 by simp] at HR
  have HG := Lib.hid (((Gr.refl w).alloc (.cells #[.int .i64 kd, .int .i64 frm, .int .i64 tt, .int .i64 sub, .int .u64 c, .int .i64 n, .int .i64 slot, .int .i64 time, .bool ok, .string text, .slice la ll lc] 30)).alloc (.cells #[.int .i64 0, .int .i64 0, .int .i64 0, .int .i64 0, .int .u64 0, .int .i64 0, .int .i64 0, .int .i64 0, .bool false, .string ⟨#[]⟩, .slice none 0 0] 30))
  have HA := Lib.hid (h.gr HG.out)
  have HO := Lib.hid (ownsRow_gr HG.out hr)
  have HF := Lib.hid (Far.of_gr (b := b) (v := v) HG.out)
  have HV := Lib.hid (From.refl v w)
  have HVB := Lib.hid (show v.ownBlock ≠ some b from row_off h hr (by decide))
  have HVP := Lib.hid (show ∀ k, v.ownBlock = some k → k < w.heap.size from fun k e => (hr.lt _ e).2)
  have hlt := h.lt
  have hbs : Hid (base ≤ ((w.alloc (.cells #[.int .i64 kd, .int .i64 frm, .int .i64 tt, .int .i64 sub, .int .u64 c, .int .i64 n, .int .i64 slot, .int .i64 time, .bool ok, .string text, .slice la ll lc] 30)).alloc (.cells #[.int .i64 0, .int .i64 0, .int .i64 0, .int .i64 0, .int .u64 0, .int .i64 0, .int .i64 0, .int .i64 0, .bool false, .string ⟨#[]⟩, .slice none 0 0] 30)).heap.size) := Lib.hid (Nat.le_trans hb HG.out.size)
  clear h hr HG
  go_enter Try.func22, Try.ntmps22
  go_wp2_with fail
  generalize (w.alloc (.cells #[.int .i64 kd, .int .i64 frm, .int .i64 tt, .int .i64 sub, .int .u64 c, .int .i64 n, .int .i64 slot, .int .i64 time, .bool ok, .string text, .slice la ll lc] 30)).alloc (.cells #[.int .i64 0, .int .i64 0, .int .i64 0, .int .i64 0, .int .u64 0, .int .i64 0, .int .i64 0, .int .i64 0, .bool false, .string ⟨#[]⟩, .slice none 0 0] 30) = wa at *
  have n1 : w.heap.size ≠ b := by omega
  have n2 : w.heap.size + 1 ≠ b := by omega
  have HL := Lib.hid hlate
  have m4 := HM.out.cell (i := 4) rfl
  have m5 := HM.out.cell (i := 5) rfl
  go_wp2_with fail
  refine (isLate_any c n _ HA.out).mono ?_
  rw [HL.out]
  rintro e w1 ⟨rfl, hg1⟩
  have HA1 := Lib.hid (HA.out.gr hg1)
  have HM1 := Lib.hid (HM.out.gr hg1)
  have HR1 := Lib.hid (HR.out.gr hg1)
  have HO1 := Lib.hid (ownsRow_gr hg1 HO.out)
  have HF1 := Lib.hid (HF.out.trans HV.out (Far.of_gr hg1))
  clear HA HM HR HO HF
  clear hg1 m4 m5
  have HB := Lib.hid hbar
  have b5 := HA1.out.cell (i := 5) rfl
  have b6 := HA1.out.cell (i := 6) rfl
  have m1 := HM1.out.cell (i := 1) rfl
  go_wp2_with fail
  refine wp_region_held_drew (S := (fun w9 => Gr w1 w9 ∧ w9.cell? ⟨b, 5, none⟩ = some (.int .i64 to) ∧ w9.cell? ⟨b, 6, none⟩ = some (.int .i64 til) ∧ w9.cell? ⟨w.heap.size, 1, none⟩ = some (.int .i64 frm))) (by kernel_rfl) ?inva (fun h0 => ?_)
  case inva => ((try dsimp only); (exact ⟨(by first | exact Gr.refl _ | exact (Gr.refl _).drew), b5, b6, m1⟩))
  refine wpAnyH_take (i := 0) (oi := { dst := some 20, op := Go.Op.move (Go.Operand.tmp 0), type := 23, pos := "accept.go:143", after := #[], guard := none }) (v := ?va1) rfl (by kernel_rfl) (by kernel_rfl) (by kernel_rfl) (fun _ _ _ h => h) (Or.inl ⟨by rfl, ?ra1⟩) (by assumption) ?_
  case ra1 => (intro w hSw; (try dsimp only at hSw); (go_simp <;> with_reducible rfl))
  try simp only [Act.put, List.setIfInBounds_toArray, List.set_cons_zero, List.set_cons_succ]
  refine wpAnyH_take (i := 1) (oi := { dst := some 21, op := Go.Op.nilCheck (Go.Operand.tmp 20), type := 0, pos := "accept.go:143", after := #[{ on := 0, ground := Go.Ground.data }], guard := none }) (v := ?va2) rfl (by kernel_rfl) (by kernel_rfl) (by kernel_rfl) (fun _ _ _ h => h) (Or.inl ⟨by rfl, ?ra2⟩) (by assumption) ?_
  case ra2 => (intro w hSw; (try dsimp only at hSw); (go_simp <;> with_reducible rfl))
  try simp only [Act.put, List.setIfInBounds_toArray, List.set_cons_zero, List.set_cons_succ]
  refine wpAnyH_take (i := 2) (oi := { dst := some 22, op := Go.Op.fieldAddr 100 (Go.Operand.tmp 21) 4, type := 0, pos := "accept.go:143", after := #[{ on := 1, ground := Go.Ground.data }], guard := none }) (v := ?va3) rfl (by kernel_rfl) (by kernel_rfl) (by kernel_rfl) (fun _ _ _ h => h) (Or.inl ⟨by rfl, ?ra3⟩) (by assumption) ?_
  case ra3 => (intro w hSw; (try dsimp only at hSw); (go_simp <;> with_reducible rfl))
  try simp only [Act.put, List.setIfInBounds_toArray, List.set_cons_zero, List.set_cons_succ]
  refine wpAnyH_take (i := 3) (oi := { dst := some 23, op := Go.Op.load 98 (Go.Operand.tmp 22), type := 98, pos := "accept.go:143", after := #[{ on := 2, ground := Go.Ground.data }], guard := none }) (v := ?va4) rfl (by kernel_rfl) (by kernel_rfl) (by kernel_rfl) (fun _ _ _ h => h) (Or.inl ⟨by rfl, ?ra4⟩) (by assumption) ?_
  case ra4 => (intro w hSw; (try dsimp only at hSw); (go_simp <;> with_reducible rfl))
  try simp only [Act.put, List.setIfInBounds_toArray, List.set_cons_zero, List.set_cons_succ]
  refine wpAnyH_take (i := 4) (oi := { dst := some 24, op := Go.Op.fieldAddr 30 (Go.Operand.tmp 5) 1, type := 0, pos := "accept.go:143", after := #[], guard := none }) (v := ?va5) rfl (by kernel_rfl) (by kernel_rfl) (by kernel_rfl) (fun _ _ _ h => h) (Or.inl ⟨by rfl, ?ra5⟩) (by assumption) ?_
  case ra5 => (intro w hSw; (try dsimp only at hSw); (go_simp <;> with_reducible rfl))
  try simp only [Act.put, List.setIfInBounds_toArray, List.set_cons_zero, List.set_cons_succ]
  refine wpAnyH_take (i := 5) (oi := { dst := some 25, op := Go.Op.load 3 (Go.Operand.tmp 24), type := 3, pos := "accept.go:143", after := #[{ on := 4, ground := Go.Ground.data }], guard := none }) (v := ?va6) rfl (by kernel_rfl) (by kernel_rfl) (by kernel_rfl) (fun _ _ _ h => h) (Or.inl ⟨by rfl, ?ra6⟩) (by assumption) ?_
  case ra6 => (intro w hSw; (try dsimp only at hSw); (go_simp <;> with_reducible rfl))
  try simp only [Act.put, List.setIfInBounds_toArray, List.set_cons_zero, List.set_cons_succ]
  refine wpAnyH_take (i := 6) (oi := { dst := some 26, op := Go.Op.move (Go.Operand.tmp 2), type := 3, pos := "accept.go:143", after := #[], guard := none }) (v := ?va7) rfl (by kernel_rfl) (by kernel_rfl) (by kernel_rfl) (fun _ _ _ h => h) (Or.inl ⟨by rfl, ?ra7⟩) (by assumption) ?_
  case ra7 => (intro w hSw; (try dsimp only at hSw); (go_simp <;> with_reducible rfl))
  try simp only [Act.put, List.setIfInBounds_toArray, List.set_cons_zero, List.set_cons_succ]
  refine wpAnyH_ready (rs := [7]) (by kernel_rfl) (by simp) ?_
  refine AllReadyH.cons (o := { dst := some 27, op := Go.Op.call { callee := Go.Callee.value (Go.Operand.func 67), args := #[Go.Operand.tmp 23, Go.Operand.tmp 25, Go.Operand.tmp 26], argTypes := #[98, 3, 3] }, type := 4, pos := "accept.go:143", after := #[{ on := 3, ground := Go.Ground.data }, { on := 5, ground := Go.Ground.data }, { on := 6, ground := Go.Ground.data }], guard := none }) rfl (fun K hK => ?_) AllReadyH.nil
  go_simp
  go_at_call 67
  refine (bars_any to til frm now _ hfrm).mono ?_
  rw [HB.out]
  rintro e w9 ⟨rfl, hg9⟩
  first | refine hK.out _ _ ?sa8 (fun h8 => ?_) | (go_wp2_with fail; refine hK.out _ _ ?sa8 (fun h8 => ?_))
  case sa8 => ((try dsimp only); (exact ⟨h0.1.trans hg9, hg9.cell h0.2.1, hg9.cell h0.2.2.1, hg9.cell h0.2.2.2⟩))
  clear hK K h0
  try simp only [Act.put, List.setIfInBounds_toArray, List.set_cons_zero, List.set_cons_succ]
  refine wpAnyH_take (i := 8) (oi := { dst := some 19, op := Go.Op.assign (Go.Operand.tmp 27), type := 4, pos := "accept.go:143", after := #[{ on := 7, ground := Go.Ground.data }, { on := 7, ground := Go.Ground.chain }], guard := none }) (v := ?va9) rfl (by kernel_rfl) (by kernel_rfl) (by kernel_rfl) (fun _ _ _ h => h) (Or.inl ⟨by rfl, ?ra9⟩) (by assumption) ?_
  case ra9 => (intro w hSw; (try dsimp only at hSw); (go_simp <;> with_reducible rfl))
  try simp only [Act.put, List.setIfInBounds_toArray, List.set_cons_zero, List.set_cons_succ]
  refine wpAnyH_done (by kernel_rfl) ?_ _
  have QG := h8.1
  clear h8 b5 b6 m1 hg9
  have HA2 := Lib.hid (HA1.out.gr QG)
  have HM2 := Lib.hid (HM1.out.gr QG)
  have HR2 := Lib.hid (HR1.out.gr QG)
  have HO2 := Lib.hid (ownsRow_gr QG HO1.out)
  have HF2 := Lib.hid (HF1.out.trans HV.out (Far.of_gr QG))
  clear HA1 HM1 HR1 HO1 HF1
  clear QG
  go_wp2_with fail
  refine (wait_any now _ HA2.out htil hnow).mono ?_
  rintro e w2 ⟨rfl, hg2⟩
  have HA3 := Lib.hid (HA2.out.gr hg2)
  have HM3 := Lib.hid (HM2.out.gr hg2)
  have HR3 := Lib.hid (HR2.out.gr hg2)
  have HO3 := Lib.hid (ownsRow_gr hg2 HO2.out)
  have HF3 := Lib.hid (HF2.out.trans HV.out (Far.of_gr hg2))
  clear HA2 HM2 HR2 HO2 HF2
  clear hg2
  have HN := Lib.hid (show v.ownBlock ≠ some (w.heap.size + 1) from fun e => by have := HVP.out _ e; omega)
  obtain ⟨HT0, HO0, hat, hgr⟩ := msg_put HR3.out rfl [.int .i64 5, .int .i64 0, .int .i64 0, .int .i64 0, .int .u64 pc, .int .i64 pn, .int .i64 0, .int .i64 (til - now), .bool false, .string ⟨#[]⟩, .slice none 0 0] rfl (by intro u hu; simp only [List.mem_cons, List.not_mem_nil, or_false] at hu; rcases hu with rfl | rfl | rfl | rfl | rfl | rfl | rfl | rfl | rfl | rfl | rfl <;> rfl)
  have z0 : (w2.setCells (w.heap.size + 1) 0 [.int .i64 5, .int .i64 0, .int .i64 0, .int .i64 0, .int .u64 pc, .int .i64 pn, .int .i64 0, .int .i64 (til - now), .bool false, .string ⟨#[]⟩, .slice none 0 0]).cell? ⟨w.heap.size + 1, 0, none⟩ = some (.int .i64 5) := hat 0 (by decide)
  have z1 : (w2.setCells (w.heap.size + 1) 0 [.int .i64 5, .int .i64 0, .int .i64 0, .int .i64 0, .int .u64 pc, .int .i64 pn, .int .i64 0, .int .i64 (til - now), .bool false, .string ⟨#[]⟩, .slice none 0 0]).cell? ⟨w.heap.size + 1, 1, none⟩ = some (.int .i64 0) := hat 1 (by decide)
  have z2 : (w2.setCells (w.heap.size + 1) 0 [.int .i64 5, .int .i64 0, .int .i64 0, .int .i64 0, .int .u64 pc, .int .i64 pn, .int .i64 0, .int .i64 (til - now), .bool false, .string ⟨#[]⟩, .slice none 0 0]).cell? ⟨w.heap.size + 1, 2, none⟩ = some (.int .i64 0) := hat 2 (by decide)
  have z3 : (w2.setCells (w.heap.size + 1) 0 [.int .i64 5, .int .i64 0, .int .i64 0, .int .i64 0, .int .u64 pc, .int .i64 pn, .int .i64 0, .int .i64 (til - now), .bool false, .string ⟨#[]⟩, .slice none 0 0]).cell? ⟨w.heap.size + 1, 3, none⟩ = some (.int .i64 0) := hat 3 (by decide)
  have z4 : (w2.setCells (w.heap.size + 1) 0 [.int .i64 5, .int .i64 0, .int .i64 0, .int .i64 0, .int .u64 pc, .int .i64 pn, .int .i64 0, .int .i64 (til - now), .bool false, .string ⟨#[]⟩, .slice none 0 0]).cell? ⟨w.heap.size + 1, 4, none⟩ = some (.int .u64 pc) := hat 4 (by decide)
  have z5 : (w2.setCells (w.heap.size + 1) 0 [.int .i64 5, .int .i64 0, .int .i64 0, .int .i64 0, .int .u64 pc, .int .i64 pn, .int .i64 0, .int .i64 (til - now), .bool false, .string ⟨#[]⟩, .slice none 0 0]).cell? ⟨w.heap.size + 1, 5, none⟩ = some (.int .i64 pn) := hat 5 (by decide)
  have z6 : (w2.setCells (w.heap.size + 1) 0 [.int .i64 5, .int .i64 0, .int .i64 0, .int .i64 0, .int .u64 pc, .int .i64 pn, .int .i64 0, .int .i64 (til - now), .bool false, .string ⟨#[]⟩, .slice none 0 0]).cell? ⟨w.heap.size + 1, 6, none⟩ = some (.int .i64 0) := hat 6 (by decide)
  have z7 : (w2.setCells (w.heap.size + 1) 0 [.int .i64 5, .int .i64 0, .int .i64 0, .int .i64 0, .int .u64 pc, .int .i64 pn, .int .i64 0, .int .i64 (til - now), .bool false, .string ⟨#[]⟩, .slice none 0 0]).cell? ⟨w.heap.size + 1, 7, none⟩ = some (.int .i64 (til - now)) := hat 7 (by decide)
  have z8 : (w2.setCells (w.heap.size + 1) 0 [.int .i64 5, .int .i64 0, .int .i64 0, .int .i64 0, .int .u64 pc, .int .i64 pn, .int .i64 0, .int .i64 (til - now), .bool false, .string ⟨#[]⟩, .slice none 0 0]).cell? ⟨w.heap.size + 1, 8, none⟩ = some (.bool false) := hat 8 (by decide)
  have z9 : (w2.setCells (w.heap.size + 1) 0 [.int .i64 5, .int .i64 0, .int .i64 0, .int .i64 0, .int .u64 pc, .int .i64 pn, .int .i64 0, .int .i64 (til - now), .bool false, .string ⟨#[]⟩, .slice none 0 0]).cell? ⟨w.heap.size + 1, 9, none⟩ = some (.string ⟨#[]⟩) := hat 9 (by decide)
  have z10 : (w2.setCells (w.heap.size + 1) 0 [.int .i64 5, .int .i64 0, .int .i64 0, .int .i64 0, .int .u64 pc, .int .i64 pn, .int .i64 0, .int .i64 (til - now), .bool false, .string ⟨#[]⟩, .slice none 0 0]).cell? ⟨w.heap.size + 1, 10, none⟩ = some (.slice none 0 0) := hat 10 (by decide)
  have HAF := Lib.hid (HA3.out.grown hgr n2.symm)
  have HFF := Lib.hid (Far.grownV (v1 := v) HF3.out hgr (Nat.le_succ _))
  have HOF := Lib.hid (HO3.out.kept hgr (.inr HN.out))
  clear hat hgr
  generalize hMS : ([.int .i64 5, .int .i64 0, .int .i64 0, .int .i64 0, .int .u64 pc, .int .i64 pn, .int .i64 0, .int .i64 (til - now), .bool false, .string ⟨#[]⟩, .slice none 0 0] : List Value) = ms at *
  have HMS := Lib.hid (show Value.agg #[.int .i64 5, .int .i64 0, .int .i64 0, .int .i64 0, .int .u64 pc, .int .i64 pn, .int .i64 0, .int .i64 (til - now), .bool false, .string ⟨#[]⟩, .slice none 0 0] = Value.agg ms.toArray by rw [← hMS])
  have hml := Lib.hid (show ms.toArray.size = 11 by rw [← hMS]; rfl)
  have HTT := Lib.hid HT0
  have HOO := Lib.hid HO0
  clear hMS HT0 HO0
  go_wp2_with (first | (refine wpList_store_mid rfl 30 (.tmp 8) (.tmp 30) rfl (w.heap.size + 1) 0 ms.toArray (by rfl) (by first | rfl | exact HMS.out) HTT.out (by rw [hml.out]; exact info_msg) HOO.out ?_))
  refine bodyPost_ret (v := .tuple #[.agg #[.int .i64 5, .int .i64 0, .int .i64 0, .int .i64 0, .int .u64 pc, .int .i64 pn, .int .i64 0, .int .i64 (til - now), .bool false, .string ⟨#[]⟩, .slice none 0 0], .bool false]) (by simp [results, Try.results22, go_sem, z0, z1, z2, z3, z4, z5, z6, z7, z8, z9, z10]; try rfl) rfl ?_
  exact ⟨rfl, HAF.out, HOF.out, HFF.out⟩
set_option maxRecDepth 100000 in
set_option maxHeartbeats 4000000 in
theorem ask_ok {base b : Nat} {v : Value} {wit : Bool} {pc pn ba to til : Int} {L : List E} (kd frm tt sub c n slot time : Int) (ok : Bool) (text : ByteArray) (la : Option Addr) (ll lc : Nat) (w : World) (h : Blk w b #[.bool wit, .int .u64 pc, .int .i64 pn, .int .i64 ba, v, .int .i64 to, .int .i64 til] 100) (hr : w.ownsRow base 108 4 v L.length (rcells encE L)) (hl : L.length ≤ 1000) (ha : Asc L) (hb : base ≤ w.heap.size) (now long : Int) (hfrm : 0 ≤ frm ∧ frm ≤ 1000000) (hbar : barsA to til frm now = false) (hlate : decide (cmpB c n pc pn < 0) = false) :
    Calls Try.prog 22 #[.pointer (some ⟨b, 0, none⟩), .agg #[.int .i64 kd, .int .i64 frm, .int .i64 tt, .int .i64 sub, .int .u64 c, .int .i64 n, .int .i64 slot, .int .i64 time, .bool ok, .string text, .slice la ll lc], .int .i64 now, .int .i64 long] w fun e w' => e = .returned (.tuple #[.agg #[.int .i64 11, .int .i64 0, .int .i64 0, .int .i64 0, .int .u64 c, .int .i64 n, .int .i64 0, .int .i64 time, .bool false, .string ⟨#[]⟩, .slice none 0 0], .bool (decide (¬ (c = pc ∧ n = pn)) || decide (¬ (frm + 1 = to ∧ untilA now long til = til)))]) ∧ Blk w' b #[.bool wit, .int .u64 c, .int .i64 n, .int .i64 ba, v, .int .i64 (frm + 1), .int .i64 (untilA now long til)] 100 ∧ w'.ownsRow base 108 4 v L.length (rcells encE L) ∧ Far b v w w' := by
  have HW := Lib.hid (show IntKind.i64.wrap (frm + 1) = frm + 1 from IntWalk.i64_in _ (by omega))
  obtain ⟨q, hq⟩ : ∃ q, q = decide (¬ (c = pc ∧ n = pn)) := ⟨_, rfl⟩
  rw [← hq]
  have HQ := Lib.hid hq
  clear hq
  obtain ⟨U, hU⟩ : ∃ U, U = untilA now long til := ⟨_, rfl⟩
  rw [← hU]
  have HU := Lib.hid hU
  clear hU
  obtain ⟨gq, hgq⟩ : ∃ gq, gq = decide (¬ (frm + 1 = to ∧ U = til)) := ⟨_, rfl⟩
  rw [← hgq]
  have HGQ := Lib.hid hgq
  clear hgq
  have HM := Lib.hid ((Blk.new w #[.int .i64 kd, .int .i64 frm, .int .i64 tt, .int .i64 sub, .int .u64 c, .int .i64 n, .int .i64 slot, .int .i64 time, .bool ok, .string text, .slice la ll lc] 30).gr ((Gr.refl _).alloc (.cells #[.int .i64 0, .int .i64 0, .int .i64 0, .int .i64 0, .int .u64 0, .int .i64 0, .int .i64 0, .int .i64 0, .bool false, .string ⟨#[]⟩, .slice none 0 0] 30)))
  have HR := Lib.hid (Blk.new (w.alloc (.cells #[.int .i64 kd, .int .i64 frm, .int .i64 tt, .int .i64 sub, .int .u64 c, .int .i64 n, .int .i64 slot, .int .i64 time, .bool ok, .string text, .slice la ll lc] 30)) #[.int .i64 0, .int .i64 0, .int .i64 0, .int .i64 0, .int .u64 0, .int .i64 0, .int .i64 0, .int .i64 0, .bool false, .string ⟨#[]⟩, .slice none 0 0] 30)
  rw [show (w.alloc (.cells #[.int .i64 kd, .int .i64 frm, .int .i64 tt, .int .i64 sub, .int .u64 c, .int .i64 n, .int .i64 slot, .int .i64 time, .bool ok, .string text, .slice la ll lc] 30)).heap.size = w.heap.size + 1 by simp] at HR
  have HG := Lib.hid (((Gr.refl w).alloc (.cells #[.int .i64 kd, .int .i64 frm, .int .i64 tt, .int .i64 sub, .int .u64 c, .int .i64 n, .int .i64 slot, .int .i64 time, .bool ok, .string text, .slice la ll lc] 30)).alloc (.cells #[.int .i64 0, .int .i64 0, .int .i64 0, .int .i64 0, .int .u64 0, .int .i64 0, .int .i64 0, .int .i64 0, .bool false, .string ⟨#[]⟩, .slice none 0 0] 30))
  have HA := Lib.hid (h.gr HG.out)
  have HO := Lib.hid (ownsRow_gr HG.out hr)
  have HF := Lib.hid (Far.of_gr (b := b) (v := v) HG.out)
  have HV := Lib.hid (From.refl v w)
  have HVB := Lib.hid (show v.ownBlock ≠ some b from row_off h hr (by decide))
  have HVP := Lib.hid (show ∀ k, v.ownBlock = some k → k < w.heap.size from fun k e => (hr.lt _ e).2)
  have hlt := h.lt
  have hbs : Hid (base ≤ ((w.alloc (.cells #[.int .i64 kd, .int .i64 frm, .int .i64 tt, .int .i64 sub, .int .u64 c, .int .i64 n, .int .i64 slot, .int .i64 time, .bool ok, .string text, .slice la ll lc] 30)).alloc (.cells #[.int .i64 0, .int .i64 0, .int .i64 0, .int .i64 0, .int .u64 0, .int .i64 0, .int .i64 0, .int .i64 0, .bool false, .string ⟨#[]⟩, .slice none 0 0] 30)).heap.size) := Lib.hid (Nat.le_trans hb HG.out.size)
  clear h hr HG
  go_enter Try.func22, Try.ntmps22
  go_wp2_with fail
  generalize (w.alloc (.cells #[.int .i64 kd, .int .i64 frm, .int .i64 tt, .int .i64 sub, .int .u64 c, .int .i64 n, .int .i64 slot, .int .i64 time, .bool ok, .string text, .slice la ll lc] 30)).alloc (.cells #[.int .i64 0, .int .i64 0, .int .i64 0, .int .i64 0, .int .u64 0, .int .i64 0, .int .i64 0, .int .i64 0, .bool false, .string ⟨#[]⟩, .slice none 0 0] 30) = wa at *
  have n1 : w.heap.size ≠ b := by omega
  have n2 : w.heap.size + 1 ≠ b := by omega
  have HL := Lib.hid hlate
  have m4 := HM.out.cell (i := 4) rfl
  have m5 := HM.out.cell (i := 5) rfl
  go_wp2_with fail
  refine (isLate_any c n _ HA.out).mono ?_
  rw [HL.out]
  rintro e w1 ⟨rfl, hg1⟩
  have HA1 := Lib.hid (HA.out.gr hg1)
  have HM1 := Lib.hid (HM.out.gr hg1)
  have HR1 := Lib.hid (HR.out.gr hg1)
  have HO1 := Lib.hid (ownsRow_gr hg1 HO.out)
  have HF1 := Lib.hid (HF.out.trans HV.out (Far.of_gr hg1))
  clear HA HM HR HO HF
  clear hg1 m4 m5
  have HB := Lib.hid hbar
  have b5 := HA1.out.cell (i := 5) rfl
  have b6 := HA1.out.cell (i := 6) rfl
  have m1 := HM1.out.cell (i := 1) rfl
  go_wp2_with fail
  refine wp_region_held_drew (S := (fun w9 => Gr w1 w9 ∧ w9.cell? ⟨b, 5, none⟩ = some (.int .i64 to) ∧ w9.cell? ⟨b, 6, none⟩ = some (.int .i64 til) ∧ w9.cell? ⟨w.heap.size, 1, none⟩ = some (.int .i64 frm))) (by kernel_rfl) ?inva (fun h0 => ?_)
  case inva => ((try dsimp only); (exact ⟨(by first | exact Gr.refl _ | exact (Gr.refl _).drew), b5, b6, m1⟩))
  refine wpAnyH_take (i := 0) (oi := { dst := some 20, op := Go.Op.move (Go.Operand.tmp 0), type := 23, pos := "accept.go:143", after := #[], guard := none }) (v := ?va1) rfl (by kernel_rfl) (by kernel_rfl) (by kernel_rfl) (fun _ _ _ h => h) (Or.inl ⟨by rfl, ?ra1⟩) (by assumption) ?_
  case ra1 => (intro w hSw; (try dsimp only at hSw); (go_simp <;> with_reducible rfl))
  try simp only [Act.put, List.setIfInBounds_toArray, List.set_cons_zero, List.set_cons_succ]
  refine wpAnyH_take (i := 1) (oi := { dst := some 21, op := Go.Op.nilCheck (Go.Operand.tmp 20), type := 0, pos := "accept.go:143", after := #[{ on := 0, ground := Go.Ground.data }], guard := none }) (v := ?va2) rfl (by kernel_rfl) (by kernel_rfl) (by kernel_rfl) (fun _ _ _ h => h) (Or.inl ⟨by rfl, ?ra2⟩) (by assumption) ?_
  case ra2 => (intro w hSw; (try dsimp only at hSw); (go_simp <;> with_reducible rfl))
  try simp only [Act.put, List.setIfInBounds_toArray, List.set_cons_zero, List.set_cons_succ]
  refine wpAnyH_take (i := 2) (oi := { dst := some 22, op := Go.Op.fieldAddr 100 (Go.Operand.tmp 21) 4, type := 0, pos := "accept.go:143", after := #[{ on := 1, ground := Go.Ground.data }], guard := none }) (v := ?va3) rfl (by kernel_rfl) (by kernel_rfl) (by kernel_rfl) (fun _ _ _ h => h) (Or.inl ⟨by rfl, ?ra3⟩) (by assumption) ?_
  case ra3 => (intro w hSw; (try dsimp only at hSw); (go_simp <;> with_reducible rfl))
  try simp only [Act.put, List.setIfInBounds_toArray, List.set_cons_zero, List.set_cons_succ]
  refine wpAnyH_take (i := 3) (oi := { dst := some 23, op := Go.Op.load 98 (Go.Operand.tmp 22), type := 98, pos := "accept.go:143", after := #[{ on := 2, ground := Go.Ground.data }], guard := none }) (v := ?va4) rfl (by kernel_rfl) (by kernel_rfl) (by kernel_rfl) (fun _ _ _ h => h) (Or.inl ⟨by rfl, ?ra4⟩) (by assumption) ?_
  case ra4 => (intro w hSw; (try dsimp only at hSw); (go_simp <;> with_reducible rfl))
  try simp only [Act.put, List.setIfInBounds_toArray, List.set_cons_zero, List.set_cons_succ]
  refine wpAnyH_take (i := 4) (oi := { dst := some 24, op := Go.Op.fieldAddr 30 (Go.Operand.tmp 5) 1, type := 0, pos := "accept.go:143", after := #[], guard := none }) (v := ?va5) rfl (by kernel_rfl) (by kernel_rfl) (by kernel_rfl) (fun _ _ _ h => h) (Or.inl ⟨by rfl, ?ra5⟩) (by assumption) ?_
  case ra5 => (intro w hSw; (try dsimp only at hSw); (go_simp <;> with_reducible rfl))
  try simp only [Act.put, List.setIfInBounds_toArray, List.set_cons_zero, List.set_cons_succ]
  refine wpAnyH_take (i := 5) (oi := { dst := some 25, op := Go.Op.load 3 (Go.Operand.tmp 24), type := 3, pos := "accept.go:143", after := #[{ on := 4, ground := Go.Ground.data }], guard := none }) (v := ?va6) rfl (by kernel_rfl) (by kernel_rfl) (by kernel_rfl) (fun _ _ _ h => h) (Or.inl ⟨by rfl, ?ra6⟩) (by assumption) ?_
  case ra6 => (intro w hSw; (try dsimp only at hSw); (go_simp <;> with_reducible rfl))
  try simp only [Act.put, List.setIfInBounds_toArray, List.set_cons_zero, List.set_cons_succ]
  refine wpAnyH_take (i := 6) (oi := { dst := some 26, op := Go.Op.move (Go.Operand.tmp 2), type := 3, pos := "accept.go:143", after := #[], guard := none }) (v := ?va7) rfl (by kernel_rfl) (by kernel_rfl) (by kernel_rfl) (fun _ _ _ h => h) (Or.inl ⟨by rfl, ?ra7⟩) (by assumption) ?_
  case ra7 => (intro w hSw; (try dsimp only at hSw); (go_simp <;> with_reducible rfl))
  try simp only [Act.put, List.setIfInBounds_toArray, List.set_cons_zero, List.set_cons_succ]
  refine wpAnyH_ready (rs := [7]) (by kernel_rfl) (by simp) ?_
  refine AllReadyH.cons (o := { dst := some 27, op := Go.Op.call { callee := Go.Callee.value (Go.Operand.func 67), args := #[Go.Operand.tmp 23, Go.Operand.tmp 25, Go.Operand.tmp 26], argTypes := #[98, 3, 3] }, type := 4, pos := "accept.go:143", after := #[{ on := 3, ground := Go.Ground.data }, { on := 5, ground := Go.Ground.data }, { on := 6, ground := Go.Ground.data }], guard := none }) rfl (fun K hK => ?_) AllReadyH.nil
  go_simp
  go_at_call 67
  refine (bars_any to til frm now _ hfrm).mono ?_
  rw [HB.out]
  rintro e w9 ⟨rfl, hg9⟩
  first | refine hK.out _ _ ?sa8 (fun h8 => ?_) | (go_wp2_with fail; refine hK.out _ _ ?sa8 (fun h8 => ?_))
  case sa8 => ((try dsimp only); (exact ⟨h0.1.trans hg9, hg9.cell h0.2.1, hg9.cell h0.2.2.1, hg9.cell h0.2.2.2⟩))
  clear hK K h0
  try simp only [Act.put, List.setIfInBounds_toArray, List.set_cons_zero, List.set_cons_succ]
  refine wpAnyH_take (i := 8) (oi := { dst := some 19, op := Go.Op.assign (Go.Operand.tmp 27), type := 4, pos := "accept.go:143", after := #[{ on := 7, ground := Go.Ground.data }, { on := 7, ground := Go.Ground.chain }], guard := none }) (v := ?va9) rfl (by kernel_rfl) (by kernel_rfl) (by kernel_rfl) (fun _ _ _ h => h) (Or.inl ⟨by rfl, ?ra9⟩) (by assumption) ?_
  case ra9 => (intro w hSw; (try dsimp only at hSw); (go_simp <;> with_reducible rfl))
  try simp only [Act.put, List.setIfInBounds_toArray, List.set_cons_zero, List.set_cons_succ]
  refine wpAnyH_done (by kernel_rfl) ?_ _
  have QG := h8.1
  clear h8 b5 b6 m1 hg9
  have HA2 := Lib.hid (HA1.out.gr QG)
  have HM2 := Lib.hid (HM1.out.gr QG)
  have HR2 := Lib.hid (HR1.out.gr QG)
  have HO2 := Lib.hid (ownsRow_gr QG HO1.out)
  have HF2 := Lib.hid (HF1.out.trans HV.out (Far.of_gr QG))
  clear HA1 HM1 HR1 HO1 HF1
  clear QG
  have m4 := HM2.out.cell (i := 4) rfl
  have m5 := HM2.out.cell (i := 5) rfl
  go_wp2_with fail
  refine (promise_any c n _ HA2.out).mono ?_
  rw [← HQ.out]
  rintro e w3 ⟨rfl, hA3, hf3⟩
  have HA3 := Lib.hid hA3
  have HM3 := Lib.hid (HM2.out.far hf3 n1 (by simp [Value.ownBlock]))
  have HR3 := Lib.hid (HR2.out.far hf3 n2 (by simp [Value.ownBlock]))
  have HO3 := Lib.hid (ownsRow_far hf3 HO2.out HVB.out (fun k _ => by simp [Value.ownBlock]))
  have HF3 := Lib.hid (HF2.out.trans HV.out (Far.any hf3))
  clear HA2 HM2 HR2 HO2 HF2
  clear hA3 hf3 m4 m5
  have m1 := HM3.out.cell (i := 1) rfl
  have b6 := HA3.out.cell (i := 6) rfl
  go_wp2_with fail
  have hltb := Lib.hid (show b < w3.heap.size from HA3.out.lt)
  refine wp_region_held_drew (S := (fun w9 => w9.cell? ⟨w.heap.size, 1, none⟩ = some (.int .i64 frm) ∧ w9.cell? ⟨b, 6, none⟩ = some (.int .i64 til))) (by kernel_rfl) ?invg (fun h0 => ?_)
  case invg => ((try dsimp only); (exact ⟨m1, b6⟩))
  refine wpAnyH_take (i := 0) (oi := { dst := some 35, op := Go.Op.fieldAddr 30 (Go.Operand.tmp 5) 1, type := 0, pos := "accept.go:148", after := #[], guard := none }) (v := ?vg1) rfl (by kernel_rfl) (by kernel_rfl) (by kernel_rfl) (fun _ _ _ h => h) (Or.inl ⟨by rfl, ?rg1⟩) (by assumption) ?_
  case rg1 => (intro w hSw; (try dsimp only at hSw); (go_simp <;> with_reducible rfl))
  try simp only [Act.put, List.setIfInBounds_toArray, List.set_cons_zero, List.set_cons_succ]
  refine wpAnyH_take (i := 1) (oi := { dst := some 36, op := Go.Op.load 3 (Go.Operand.tmp 35), type := 3, pos := "accept.go:148", after := #[{ on := 0, ground := Go.Ground.data }], guard := none }) (v := ?vg2) rfl (by kernel_rfl) (by kernel_rfl) (by kernel_rfl) (fun _ _ _ h => h) (Or.inl ⟨by rfl, ?rg2⟩) (by assumption) ?_
  case rg2 => (intro w hSw; (try dsimp only at hSw); (go_simp <;> with_reducible rfl))
  try simp only [Act.put, List.setIfInBounds_toArray, List.set_cons_zero, List.set_cons_succ]
  refine wpAnyH_take (i := 2) (oi := { dst := some 37, op := Go.Op.binOp Go.BinOp.add 3 (Go.Operand.tmp 36) (Go.Operand.const (Go.Value.int Go.IntKind.i64 1)) 3, type := 3, pos := "accept.go:148", after := #[{ on := 1, ground := Go.Ground.data }], guard := none }) (v := (.int .i64 (frm + 1))) rfl (by kernel_rfl) (by kernel_rfl) (by kernel_rfl) (fun _ _ _ h => h) (Or.inl ⟨by rfl, ?rg3⟩) (by assumption) ?_
  case rg3 => (intro w hSw; (try dsimp only at hSw); go_simp; all_goals (first | rw [HW.out] | simp [HW.out]))
  try simp only [Act.put, List.setIfInBounds_toArray, List.set_cons_zero, List.set_cons_succ]
  refine wpAnyH_take (i := 3) (oi := { dst := some 38, op := Go.Op.move (Go.Operand.tmp 2), type := 3, pos := "accept.go:148", after := #[], guard := none }) (v := ?vg4) rfl (by kernel_rfl) (by kernel_rfl) (by kernel_rfl) (fun _ _ _ h => h) (Or.inl ⟨by rfl, ?rg4⟩) (by assumption) ?_
  case rg4 => (intro w hSw; (try dsimp only at hSw); (go_simp <;> with_reducible rfl))
  try simp only [Act.put, List.setIfInBounds_toArray, List.set_cons_zero, List.set_cons_succ]
  refine wpAnyH_take (i := 4) (oi := { dst := some 39, op := Go.Op.move (Go.Operand.tmp 3), type := 3, pos := "accept.go:148", after := #[], guard := none }) (v := ?vg5) rfl (by kernel_rfl) (by kernel_rfl) (by kernel_rfl) (fun _ _ _ h => h) (Or.inl ⟨by rfl, ?rg5⟩) (by assumption) ?_
  case rg5 => (intro w hSw; (try dsimp only at hSw); (go_simp <;> with_reducible rfl))
  try simp only [Act.put, List.setIfInBounds_toArray, List.set_cons_zero, List.set_cons_succ]
  refine wpAnyH_take (i := 6) (oi := { dst := some 41, op := Go.Op.move (Go.Operand.tmp 0), type := 23, pos := "accept.go:148", after := #[], guard := none }) (v := ?vg6) rfl (by kernel_rfl) (by kernel_rfl) (by kernel_rfl) (fun _ _ _ h => h) (Or.inl ⟨by rfl, ?rg6⟩) (by assumption) ?_
  case rg6 => (intro w hSw; (try dsimp only at hSw); (go_simp <;> with_reducible rfl))
  try simp only [Act.put, List.setIfInBounds_toArray, List.set_cons_zero, List.set_cons_succ]
  refine wpAnyH_take (i := 7) (oi := { dst := some 42, op := Go.Op.nilCheck (Go.Operand.tmp 41), type := 0, pos := "accept.go:148", after := #[{ on := 6, ground := Go.Ground.data }], guard := none }) (v := ?vg7) rfl (by kernel_rfl) (by kernel_rfl) (by kernel_rfl) (fun _ _ _ h => h) (Or.inl ⟨by rfl, ?rg7⟩) (by assumption) ?_
  case rg7 => (intro w hSw; (try dsimp only at hSw); (go_simp <;> with_reducible rfl))
  try simp only [Act.put, List.setIfInBounds_toArray, List.set_cons_zero, List.set_cons_succ]
  refine wpAnyH_take (i := 8) (oi := { dst := some 43, op := Go.Op.fieldAddr 100 (Go.Operand.tmp 42) 4, type := 0, pos := "accept.go:148", after := #[{ on := 7, ground := Go.Ground.data }], guard := none }) (v := ?vg8) rfl (by kernel_rfl) (by kernel_rfl) (by kernel_rfl) (fun _ _ _ h => h) (Or.inl ⟨by rfl, ?rg8⟩) (by assumption) ?_
  case rg8 => (intro w hSw; (try dsimp only at hSw); (go_simp <;> with_reducible rfl))
  try simp only [Act.put, List.setIfInBounds_toArray, List.set_cons_zero, List.set_cons_succ]
  refine wpAnyH_take (i := 9) (oi := { dst := some 44, op := Go.Op.fieldAddr 98 (Go.Operand.tmp 43) 1, type := 0, pos := "accept.go:148", after := #[{ on := 8, ground := Go.Ground.data }], guard := none }) (v := ?vg9) rfl (by kernel_rfl) (by kernel_rfl) (by kernel_rfl) (fun _ _ _ h => h) (Or.inl ⟨by rfl, ?rg9⟩) (by assumption) ?_
  case rg9 => (intro w hSw; (try dsimp only at hSw); (go_simp <;> with_reducible rfl))
  try simp only [Act.put, List.setIfInBounds_toArray, List.set_cons_zero, List.set_cons_succ]
  refine wpAnyH_take (i := 10) (oi := { dst := some 45, op := Go.Op.load 3 (Go.Operand.tmp 44), type := 3, pos := "accept.go:148", after := #[{ on := 9, ground := Go.Ground.data }], guard := none }) (v := ?vg10) rfl (by kernel_rfl) (by kernel_rfl) (by kernel_rfl) (fun _ _ _ h => h) (Or.inl ⟨by rfl, ?rg10⟩) (by assumption) ?_
  case rg10 => (intro w hSw; (try dsimp only at hSw); (go_simp <;> with_reducible rfl))
  try simp only [Act.put, List.setIfInBounds_toArray, List.set_cons_zero, List.set_cons_succ]
  refine wpAnyH_ready (rs := [5, 13]) (by kernel_rfl) (by simp) ?_
  refine AllReadyH.cons (o := { dst := some 40, op := Go.Op.call { callee := Go.Callee.value (Go.Operand.func 69), args := #[Go.Operand.tmp 38, Go.Operand.tmp 39], argTypes := #[3, 3] }, type := 3, pos := "accept.go:148", after := #[{ on := 3, ground := Go.Ground.data }, { on := 4, ground := Go.Ground.data }], guard := none }) rfl (fun K hK => ?_) (AllReadyH.cons (o := { dst := some 11, op := Go.Op.alloc 98, type := 0, pos := "accept.go:148", after := #[], guard := none }) rfl (fun K hK => ?_) AllReadyH.nil)
  · skip
    go_simp
    go_at_call 69
    refine (later_any now long _).mono ?_
    rintro e w9 ⟨rfl, rfl⟩
    first | refine hK.out _ _ ?sg11 (fun h11 => ?_) | (go_wp2_with fail; refine hK.out _ _ ?sg11 (fun h11 => ?_))
    case sg11 => ((try dsimp only); (exact h0))
    clear hK K h0
    try simp only [Act.put, List.setIfInBounds_toArray, List.set_cons_zero, List.set_cons_succ]
    refine wpAnyH_take (i := 11) (oi := { dst := some 46, op := Go.Op.call { callee := Go.Callee.builtin Go.Builtin.max, args := #[Go.Operand.tmp 40, Go.Operand.tmp 45], argTypes := #[3, 3] }, type := 3, pos := "accept.go:148", after := #[{ on := 5, ground := Go.Ground.data }, { on := 10, ground := Go.Ground.data }], guard := none }) (v := (.int .i64 U)) rfl (by kernel_rfl) (by kernel_rfl) (by kernel_rfl) (fun _ _ _ h => h) (Or.inl ⟨by rfl, ?rg12⟩) (by assumption) ?_
    case rg12 => (intro w hSw; (try dsimp only at hSw); go_simp; all_goals (rw [HU.out]; rfl))
    try simp only [Act.put, List.setIfInBounds_toArray, List.set_cons_zero, List.set_cons_succ]
    refine wpAnyH_take (i := 12) (oi := { dst := some 47, op := Go.Op.build 98 #[(0, Go.Operand.tmp 37), (1, Go.Operand.tmp 46)], type := 98, pos := "accept.go:148", after := #[{ on := 2, ground := Go.Ground.data }, { on := 11, ground := Go.Ground.data }], guard := none }) (v := ?vg13) rfl (by kernel_rfl) (by kernel_rfl) (by kernel_rfl) (fun _ _ _ h => h) (Or.inl ⟨by rfl, ?rg13⟩) (by assumption) ?_
    case rg13 => (intro w hSw; (try dsimp only at hSw); (go_simp <;> with_reducible rfl))
    try simp only [Act.put, List.setIfInBounds_toArray, List.set_cons_zero, List.set_cons_succ]
    refine wpAnyH_ready (rs := [13]) (by kernel_rfl) (by simp) ?_
    refine AllReadyH.cons (o := { dst := some 11, op := Go.Op.alloc 98, type := 0, pos := "accept.go:148", after := #[], guard := none }) rfl (fun K hK => ?_) AllReadyH.nil
    go_simp
    skip
    first | refine hK.out _ _ ?sg14 (fun h14 => ?_) | (go_wp2_with fail; refine hK.out _ _ ?sg14 (fun h14 => ?_))
    case sg14 => ((try dsimp only); (exact ⟨((Gr.refl _).alloc _).cell h11.1, ((Gr.refl _).alloc _).cell h11.2⟩))
    clear hK K h11
    try simp only [Act.put, List.setIfInBounds_toArray, List.set_cons_zero, List.set_cons_succ]
    refine wpAnyH_ready (rs := [14]) (by kernel_rfl) (by simp) ?_
    refine AllReadyH.cons (o := { dst := none, op := Go.Op.store 98 (Go.Operand.tmp 11) (Go.Operand.tmp 47), type := 0, pos := "accept.go:148", after := #[{ on := 13, ground := Go.Ground.data }, { on := 12, ground := Go.Ground.data }, { on := 5, ground := Go.Ground.chain }, { on := 0, ground := Go.Ground.phase }, { on := 1, ground := Go.Ground.phase }, { on := 2, ground := Go.Ground.phase }, { on := 3, ground := Go.Ground.phase }, { on := 4, ground := Go.Ground.phase }, { on := 5, ground := Go.Ground.phase }, { on := 6, ground := Go.Ground.phase }, { on := 7, ground := Go.Ground.phase }, { on := 8, ground := Go.Ground.phase }, { on := 9, ground := Go.Ground.phase }, { on := 10, ground := Go.Ground.phase }, { on := 11, ground := Go.Ground.phase }, { on := 12, ground := Go.Ground.phase }, { on := 13, ground := Go.Ground.phase }], guard := none }) rfl (fun K hK => ?_) AllReadyH.nil
    go_simp
    skip
    first | refine hK.out _ _ ?sg15 (fun h15 => ?_) | (go_wp2_with fail; refine hK.out _ _ ?sg15 (fun h15 => ?_))
    case sg15 => ((try dsimp only); (exact ⟨(HM3.out.gr (((Gr.refl w3).alloc (.cells #[.int .i64 (frm + 1), .int .i64 U] 98)).drew)).cell rfl, (HA3.out.gr (((Gr.refl w3).alloc (.cells #[.int .i64 (frm + 1), .int .i64 U] 98)).drew)).cell rfl⟩))
    clear hK K h14
    try simp only [Act.put, List.setIfInBounds_toArray, List.set_cons_zero, List.set_cons_succ]
    refine wpAnyH_done (by kernel_rfl) ?_ _
    clear h15 m1 b6
    have HA4 := Lib.hid (HA3.out.gr (((Gr.refl w3).alloc (.cells #[.int .i64 (frm + 1), .int .i64 U] 98)).drew))
    have HM4 := Lib.hid (HM3.out.gr (((Gr.refl w3).alloc (.cells #[.int .i64 (frm + 1), .int .i64 U] 98)).drew))
    have HR4 := Lib.hid (HR3.out.gr (((Gr.refl w3).alloc (.cells #[.int .i64 (frm + 1), .int .i64 U] 98)).drew))
    have HO4 := Lib.hid (ownsRow_gr (((Gr.refl w3).alloc (.cells #[.int .i64 (frm + 1), .int .i64 U] 98)).drew) HO3.out)
    have HF4 := Lib.hid (HF3.out.trans HV.out (Far.of_gr (((Gr.refl w3).alloc (.cells #[.int .i64 (frm + 1), .int .i64 U] 98)).drew)))
    clear HA3 HM3 HR3 HO3 HF3
    have HBQ := Lib.hid ((Blk.new w3 #[.int .i64 (frm + 1), .int .i64 U] 98).gr (Gr.refl _).drew)
    have h15B := Lib.hid (show w3.heap.size ≠ b from fun e => by have := HA4.out.lt; have := hltb.out; omega)
    generalize (w3.alloc (.cells #[.int .i64 (frm + 1), .int .i64 U] 98)).drew = w4 at *
    generalize w3.heap.size = p9 at *
    have p0 := HBQ.out.cell (i := 0) rfl
    have p1 := HBQ.out.cell (i := 1) rfl
    have b5 := HA4.out.cell (i := 5) rfl
    have b6 := HA4.out.cell (i := 6) rfl
    go_wp2_with fail
    refine wp_region_held_drew (S := (fun w9 => w9.cell? ⟨p9, 0, none⟩ = some (.int .i64 (frm + 1)) ∧ w9.cell? ⟨p9, 1, none⟩ = some (.int .i64 U) ∧ w9.cell? ⟨b, 5, none⟩ = some (.int .i64 to) ∧ w9.cell? ⟨b, 6, none⟩ = some (.int .i64 til))) (by kernel_rfl) ?invx5 (fun h0 => ?_)
    case invx5 => ((try dsimp only); (exact ⟨p0, p1, b5, b6⟩))
    refine wpAnyH_take (i := 0) (oi := { dst := some 48, op := Go.Op.load 98 (Go.Operand.tmp 11), type := 98, pos := "accept.go:148", after := #[], guard := none }) (v := ?vx51) rfl (by kernel_rfl) (by kernel_rfl) (by kernel_rfl) (fun _ _ _ h => h) (Or.inl ⟨by rfl, ?rx51⟩) (by assumption) ?_
    case rx51 => (intro w hSw; (try dsimp only at hSw); (go_simp <;> with_reducible rfl))
    try simp only [Act.put, List.setIfInBounds_toArray, List.set_cons_zero, List.set_cons_succ]
    refine wpAnyH_take (i := 1) (oi := { dst := some 49, op := Go.Op.move (Go.Operand.tmp 0), type := 23, pos := "accept.go:148", after := #[], guard := none }) (v := ?vx52) rfl (by kernel_rfl) (by kernel_rfl) (by kernel_rfl) (fun _ _ _ h => h) (Or.inl ⟨by rfl, ?rx52⟩) (by assumption) ?_
    case rx52 => (intro w hSw; (try dsimp only at hSw); (go_simp <;> with_reducible rfl))
    try simp only [Act.put, List.setIfInBounds_toArray, List.set_cons_zero, List.set_cons_succ]
    refine wpAnyH_take (i := 2) (oi := { dst := some 50, op := Go.Op.nilCheck (Go.Operand.tmp 49), type := 0, pos := "accept.go:148", after := #[{ on := 1, ground := Go.Ground.data }], guard := none }) (v := ?vx53) rfl (by kernel_rfl) (by kernel_rfl) (by kernel_rfl) (fun _ _ _ h => h) (Or.inl ⟨by rfl, ?rx53⟩) (by assumption) ?_
    case rx53 => (intro w hSw; (try dsimp only at hSw); (go_simp <;> with_reducible rfl))
    try simp only [Act.put, List.setIfInBounds_toArray, List.set_cons_zero, List.set_cons_succ]
    refine wpAnyH_take (i := 3) (oi := { dst := some 51, op := Go.Op.fieldAddr 100 (Go.Operand.tmp 50) 4, type := 0, pos := "accept.go:148", after := #[{ on := 2, ground := Go.Ground.data }], guard := none }) (v := ?vx54) rfl (by kernel_rfl) (by kernel_rfl) (by kernel_rfl) (fun _ _ _ h => h) (Or.inl ⟨by rfl, ?rx54⟩) (by assumption) ?_
    case rx54 => (intro w hSw; (try dsimp only at hSw); (go_simp <;> with_reducible rfl))
    try simp only [Act.put, List.setIfInBounds_toArray, List.set_cons_zero, List.set_cons_succ]
    refine wpAnyH_take (i := 4) (oi := { dst := some 52, op := Go.Op.load 98 (Go.Operand.tmp 51), type := 98, pos := "accept.go:148", after := #[{ on := 3, ground := Go.Ground.data }], guard := none }) (v := ?vx55) rfl (by kernel_rfl) (by kernel_rfl) (by kernel_rfl) (fun _ _ _ h => h) (Or.inl ⟨by rfl, ?rx55⟩) (by assumption) ?_
    case rx55 => (intro w hSw; (try dsimp only at hSw); (go_simp <;> with_reducible rfl))
    try simp only [Act.put, List.setIfInBounds_toArray, List.set_cons_zero, List.set_cons_succ]
    refine wpAnyH_take (i := 5) (oi := { dst := some 53, op := Go.Op.binOp Go.BinOp.neq 98 (Go.Operand.tmp 48) (Go.Operand.tmp 52) 98, type := 4, pos := "accept.go:148", after := #[{ on := 0, ground := Go.Ground.data }, { on := 4, ground := Go.Ground.data }], guard := none }) (v := (.bool gq)) rfl (by kernel_rfl) (by kernel_rfl) (by kernel_rfl) (fun _ _ _ h => h) (Or.inl ⟨by rfl, ?rx56⟩) (by assumption) ?_
    case rx56 => (intro w hSw; (try dsimp only at hSw); go_simp; rw [HGQ.out]; by_cases h1 : frm + 1 = to <;> by_cases h2 : U = til <;> first | (simp [h1, h2]; done) | (simp_all; done))
    try simp only [Act.put, List.setIfInBounds_toArray, List.set_cons_zero, List.set_cons_succ]
    refine wpAnyH_done (by kernel_rfl) ?_ _
    clear h0 p0 p1 b5 b6
    have HA5 := Lib.hid (HA4.out.gr (Gr.refl w4).drew)
    have HM5 := Lib.hid (HM4.out.gr (Gr.refl w4).drew)
    have HR5 := Lib.hid (HR4.out.gr (Gr.refl w4).drew)
    have HO5 := Lib.hid (ownsRow_gr (Gr.refl w4).drew HO4.out)
    have HF5 := Lib.hid (HF4.out.trans HV.out (Far.of_gr (Gr.refl w4).drew))
    clear HA4 HM4 HR4 HO4 HF4
    have HBQ2 := Lib.hid (HBQ.out.gr (Gr.refl w4).drew)
    generalize w4.drew = w5 at *
    have HN := Lib.hid (show v.ownBlock ≠ some (w.heap.size + 1) from fun e => by have := HVP.out _ e; omega)
    cases gq
    · have HEQ := Lib.hid (show frm + 1 = to ∧ U = til from Decidable.not_not.1 (of_decide_eq_false HGQ.out.symm))
      have m4 := HM5.out.cell (i := 4) rfl
      have m5 := HM5.out.cell (i := 5) rfl
      have m7 := HM5.out.cell (i := 7) rfl
      obtain ⟨HT0, HO0, hat, hgr⟩ := msg_put HR5.out rfl [.int .i64 11, .int .i64 0, .int .i64 0, .int .i64 0, .int .u64 c, .int .i64 n, .int .i64 0, .int .i64 time, .bool false, .string ⟨#[]⟩, .slice none 0 0] rfl (by intro u hu; simp only [List.mem_cons, List.not_mem_nil, or_false] at hu; rcases hu with rfl | rfl | rfl | rfl | rfl | rfl | rfl | rfl | rfl | rfl | rfl <;> rfl)
      have z0 : (w5.setCells (w.heap.size + 1) 0 [.int .i64 11, .int .i64 0, .int .i64 0, .int .i64 0, .int .u64 c, .int .i64 n, .int .i64 0, .int .i64 time, .bool false, .string ⟨#[]⟩, .slice none 0 0]).cell? ⟨w.heap.size + 1, 0, none⟩ = some (.int .i64 11) := hat 0 (by decide)
      have z1 : (w5.setCells (w.heap.size + 1) 0 [.int .i64 11, .int .i64 0, .int .i64 0, .int .i64 0, .int .u64 c, .int .i64 n, .int .i64 0, .int .i64 time, .bool false, .string ⟨#[]⟩, .slice none 0 0]).cell? ⟨w.heap.size + 1, 1, none⟩ = some (.int .i64 0) := hat 1 (by decide)
      have z2 : (w5.setCells (w.heap.size + 1) 0 [.int .i64 11, .int .i64 0, .int .i64 0, .int .i64 0, .int .u64 c, .int .i64 n, .int .i64 0, .int .i64 time, .bool false, .string ⟨#[]⟩, .slice none 0 0]).cell? ⟨w.heap.size + 1, 2, none⟩ = some (.int .i64 0) := hat 2 (by decide)
      have z3 : (w5.setCells (w.heap.size + 1) 0 [.int .i64 11, .int .i64 0, .int .i64 0, .int .i64 0, .int .u64 c, .int .i64 n, .int .i64 0, .int .i64 time, .bool false, .string ⟨#[]⟩, .slice none 0 0]).cell? ⟨w.heap.size + 1, 3, none⟩ = some (.int .i64 0) := hat 3 (by decide)
      have z4 : (w5.setCells (w.heap.size + 1) 0 [.int .i64 11, .int .i64 0, .int .i64 0, .int .i64 0, .int .u64 c, .int .i64 n, .int .i64 0, .int .i64 time, .bool false, .string ⟨#[]⟩, .slice none 0 0]).cell? ⟨w.heap.size + 1, 4, none⟩ = some (.int .u64 c) := hat 4 (by decide)
      have z5 : (w5.setCells (w.heap.size + 1) 0 [.int .i64 11, .int .i64 0, .int .i64 0, .int .i64 0, .int .u64 c, .int .i64 n, .int .i64 0, .int .i64 time, .bool false, .string ⟨#[]⟩, .slice none 0 0]).cell? ⟨w.heap.size + 1, 5, none⟩ = some (.int .i64 n) := hat 5 (by decide)
      have z6 : (w5.setCells (w.heap.size + 1) 0 [.int .i64 11, .int .i64 0, .int .i64 0, .int .i64 0, .int .u64 c, .int .i64 n, .int .i64 0, .int .i64 time, .bool false, .string ⟨#[]⟩, .slice none 0 0]).cell? ⟨w.heap.size + 1, 6, none⟩ = some (.int .i64 0) := hat 6 (by decide)
      have z7 : (w5.setCells (w.heap.size + 1) 0 [.int .i64 11, .int .i64 0, .int .i64 0, .int .i64 0, .int .u64 c, .int .i64 n, .int .i64 0, .int .i64 time, .bool false, .string ⟨#[]⟩, .slice none 0 0]).cell? ⟨w.heap.size + 1, 7, none⟩ = some (.int .i64 time) := hat 7 (by decide)
      have z8 : (w5.setCells (w.heap.size + 1) 0 [.int .i64 11, .int .i64 0, .int .i64 0, .int .i64 0, .int .u64 c, .int .i64 n, .int .i64 0, .int .i64 time, .bool false, .string ⟨#[]⟩, .slice none 0 0]).cell? ⟨w.heap.size + 1, 8, none⟩ = some (.bool false) := hat 8 (by decide)
      have z9 : (w5.setCells (w.heap.size + 1) 0 [.int .i64 11, .int .i64 0, .int .i64 0, .int .i64 0, .int .u64 c, .int .i64 n, .int .i64 0, .int .i64 time, .bool false, .string ⟨#[]⟩, .slice none 0 0]).cell? ⟨w.heap.size + 1, 9, none⟩ = some (.string ⟨#[]⟩) := hat 9 (by decide)
      have z10 : (w5.setCells (w.heap.size + 1) 0 [.int .i64 11, .int .i64 0, .int .i64 0, .int .i64 0, .int .u64 c, .int .i64 n, .int .i64 0, .int .i64 time, .bool false, .string ⟨#[]⟩, .slice none 0 0]).cell? ⟨w.heap.size + 1, 10, none⟩ = some (.slice none 0 0) := hat 10 (by decide)
      have HAF := Lib.hid (HA5.out.grown hgr n2.symm)
      have HFF := Lib.hid (Far.grownV (v1 := v) HF5.out hgr (Nat.le_succ _))
      have HOF := Lib.hid (HO5.out.kept hgr (.inr HN.out))
      clear hat hgr
      generalize hMS : ([.int .i64 11, .int .i64 0, .int .i64 0, .int .i64 0, .int .u64 c, .int .i64 n, .int .i64 0, .int .i64 time, .bool false, .string ⟨#[]⟩, .slice none 0 0] : List Value) = ms at *
      have HMS := Lib.hid (show Value.agg #[.int .i64 11, .int .i64 0, .int .i64 0, .int .i64 0, .int .u64 c, .int .i64 n, .int .i64 0, .int .i64 time, .bool false, .string ⟨#[]⟩, .slice none 0 0] = Value.agg ms.toArray by rw [← hMS])
      have hml := Lib.hid (show ms.toArray.size = 11 by rw [← hMS]; rfl)
      have HTT := Lib.hid HT0
      have HOO := Lib.hid HO0
      clear hMS HT0 HO0
      go_wp2_with (first | (refine wpList_store_mid rfl 30 (.tmp 8) (.tmp 62) rfl (w.heap.size + 1) 0 ms.toArray (by rfl) (by first | rfl | exact HMS.out) HTT.out (by rw [hml.out]; exact info_msg) HOO.out ?_))
      refine bodyPost_ret (v := .tuple #[.agg #[.int .i64 11, .int .i64 0, .int .i64 0, .int .i64 0, .int .u64 c, .int .i64 n, .int .i64 0, .int .i64 time, .bool false, .string ⟨#[]⟩, .slice none 0 0], .bool q]) (by simp [results, Try.results22, go_sem, z0, z1, z2, z3, z4, z5, z6, z7, z8, z9, z10]; try rfl) rfl ?_
      exact ⟨by rw [Bool.or_false], by rw [HEQ.out.1, HEQ.out.2]; exact HAF.out, HOF.out, HFF.out⟩
    · have m4 := HM5.out.cell (i := 4) rfl
      have m5 := HM5.out.cell (i := 5) rfl
      have m7 := HM5.out.cell (i := 7) rfl
      have p0 := HBQ2.out.cell (i := 0) rfl
      have p1 := HBQ2.out.cell (i := 1) rfl
      have b5 := HA5.out.cell (i := 5) rfl
      have b6 := HA5.out.cell (i := 6) rfl
      have f5 := HA5.out.free 5
      have f6 := HA5.out.free 6
      have HA6 := Lib.hid ((HA5.out.set 5 (.int .i64 (frm + 1))).set 6 (.int .i64 U))
      have HM6 := Lib.hid ((HM5.out.other n1 5 (.int .i64 (frm + 1))).other n1 6 (.int .i64 U))
      have HR6 := Lib.hid ((HR5.out.other n2 5 (.int .i64 (frm + 1))).other n2 6 (.int .i64 U))
      have HO6 := Lib.hid (ownsRow_setCell_other (a := ⟨b, 6, none⟩) (ownsRow_setCell_other (a := ⟨b, 5, none⟩) HO5.out HVB.out (.int .i64 (frm + 1))) HVB.out (.int .i64 U))
      have HF6 := Lib.hid ((HF5.out.trans HV.out (Far.setCell b 5 v w5 (.int .i64 (frm + 1)))).trans HV.out (Far.setCell b 6 v _ (.int .i64 U)))
      have k4 := HM6.out.cell (i := 4) rfl
      have k5 := HM6.out.cell (i := 5) rfl
      have k7 := HM6.out.cell (i := 7) rfl
      obtain ⟨HT0, HO0, hat, hgr⟩ := msg_put HR6.out rfl [.int .i64 11, .int .i64 0, .int .i64 0, .int .i64 0, .int .u64 c, .int .i64 n, .int .i64 0, .int .i64 time, .bool false, .string ⟨#[]⟩, .slice none 0 0] rfl (by intro u hu; simp only [List.mem_cons, List.not_mem_nil, or_false] at hu; rcases hu with rfl | rfl | rfl | rfl | rfl | rfl | rfl | rfl | rfl | rfl | rfl <;> rfl)
      have z0 : (((w5.setCell ⟨b, 5, none⟩ (.int .i64 (frm + 1))).setCell ⟨b, 6, none⟩ (.int .i64 U)).setCells (w.heap.size + 1) 0 [.int .i64 11, .int .i64 0, .int .i64 0, .int .i64 0, .int .u64 c, .int .i64 n, .int .i64 0, .int .i64 time, .bool false, .string ⟨#[]⟩, .slice none 0 0]).cell? ⟨w.heap.size + 1, 0, none⟩ = some (.int .i64 11) := hat 0 (by decide)
      have z1 : (((w5.setCell ⟨b, 5, none⟩ (.int .i64 (frm + 1))).setCell ⟨b, 6, none⟩ (.int .i64 U)).setCells (w.heap.size + 1) 0 [.int .i64 11, .int .i64 0, .int .i64 0, .int .i64 0, .int .u64 c, .int .i64 n, .int .i64 0, .int .i64 time, .bool false, .string ⟨#[]⟩, .slice none 0 0]).cell? ⟨w.heap.size + 1, 1, none⟩ = some (.int .i64 0) := hat 1 (by decide)
      have z2 : (((w5.setCell ⟨b, 5, none⟩ (.int .i64 (frm + 1))).setCell ⟨b, 6, none⟩ (.int .i64 U)).setCells (w.heap.size + 1) 0 [.int .i64 11, .int .i64 0, .int .i64 0, .int .i64 0, .int .u64 c, .int .i64 n, .int .i64 0, .int .i64 time, .bool false, .string ⟨#[]⟩, .slice none 0 0]).cell? ⟨w.heap.size + 1, 2, none⟩ = some (.int .i64 0) := hat 2 (by decide)
      have z3 : (((w5.setCell ⟨b, 5, none⟩ (.int .i64 (frm + 1))).setCell ⟨b, 6, none⟩ (.int .i64 U)).setCells (w.heap.size + 1) 0 [.int .i64 11, .int .i64 0, .int .i64 0, .int .i64 0, .int .u64 c, .int .i64 n, .int .i64 0, .int .i64 time, .bool false, .string ⟨#[]⟩, .slice none 0 0]).cell? ⟨w.heap.size + 1, 3, none⟩ = some (.int .i64 0) := hat 3 (by decide)
      have z4 : (((w5.setCell ⟨b, 5, none⟩ (.int .i64 (frm + 1))).setCell ⟨b, 6, none⟩ (.int .i64 U)).setCells (w.heap.size + 1) 0 [.int .i64 11, .int .i64 0, .int .i64 0, .int .i64 0, .int .u64 c, .int .i64 n, .int .i64 0, .int .i64 time, .bool false, .string ⟨#[]⟩, .slice none 0 0]).cell? ⟨w.heap.size + 1, 4, none⟩ = some (.int .u64 c) := hat 4 (by decide)
      have z5 : (((w5.setCell ⟨b, 5, none⟩ (.int .i64 (frm + 1))).setCell ⟨b, 6, none⟩ (.int .i64 U)).setCells (w.heap.size + 1) 0 [.int .i64 11, .int .i64 0, .int .i64 0, .int .i64 0, .int .u64 c, .int .i64 n, .int .i64 0, .int .i64 time, .bool false, .string ⟨#[]⟩, .slice none 0 0]).cell? ⟨w.heap.size + 1, 5, none⟩ = some (.int .i64 n) := hat 5 (by decide)
      have z6 : (((w5.setCell ⟨b, 5, none⟩ (.int .i64 (frm + 1))).setCell ⟨b, 6, none⟩ (.int .i64 U)).setCells (w.heap.size + 1) 0 [.int .i64 11, .int .i64 0, .int .i64 0, .int .i64 0, .int .u64 c, .int .i64 n, .int .i64 0, .int .i64 time, .bool false, .string ⟨#[]⟩, .slice none 0 0]).cell? ⟨w.heap.size + 1, 6, none⟩ = some (.int .i64 0) := hat 6 (by decide)
      have z7 : (((w5.setCell ⟨b, 5, none⟩ (.int .i64 (frm + 1))).setCell ⟨b, 6, none⟩ (.int .i64 U)).setCells (w.heap.size + 1) 0 [.int .i64 11, .int .i64 0, .int .i64 0, .int .i64 0, .int .u64 c, .int .i64 n, .int .i64 0, .int .i64 time, .bool false, .string ⟨#[]⟩, .slice none 0 0]).cell? ⟨w.heap.size + 1, 7, none⟩ = some (.int .i64 time) := hat 7 (by decide)
      have z8 : (((w5.setCell ⟨b, 5, none⟩ (.int .i64 (frm + 1))).setCell ⟨b, 6, none⟩ (.int .i64 U)).setCells (w.heap.size + 1) 0 [.int .i64 11, .int .i64 0, .int .i64 0, .int .i64 0, .int .u64 c, .int .i64 n, .int .i64 0, .int .i64 time, .bool false, .string ⟨#[]⟩, .slice none 0 0]).cell? ⟨w.heap.size + 1, 8, none⟩ = some (.bool false) := hat 8 (by decide)
      have z9 : (((w5.setCell ⟨b, 5, none⟩ (.int .i64 (frm + 1))).setCell ⟨b, 6, none⟩ (.int .i64 U)).setCells (w.heap.size + 1) 0 [.int .i64 11, .int .i64 0, .int .i64 0, .int .i64 0, .int .u64 c, .int .i64 n, .int .i64 0, .int .i64 time, .bool false, .string ⟨#[]⟩, .slice none 0 0]).cell? ⟨w.heap.size + 1, 9, none⟩ = some (.string ⟨#[]⟩) := hat 9 (by decide)
      have z10 : (((w5.setCell ⟨b, 5, none⟩ (.int .i64 (frm + 1))).setCell ⟨b, 6, none⟩ (.int .i64 U)).setCells (w.heap.size + 1) 0 [.int .i64 11, .int .i64 0, .int .i64 0, .int .i64 0, .int .u64 c, .int .i64 n, .int .i64 0, .int .i64 time, .bool false, .string ⟨#[]⟩, .slice none 0 0]).cell? ⟨w.heap.size + 1, 10, none⟩ = some (.slice none 0 0) := hat 10 (by decide)
      have HAF := Lib.hid (HA6.out.grown hgr n2.symm)
      have HFF := Lib.hid (Far.grownV (v1 := v) HF6.out hgr (Nat.le_succ _))
      have HOF := Lib.hid (HO6.out.kept hgr (.inr HN.out))
      clear hat hgr
      generalize hMS : ([.int .i64 11, .int .i64 0, .int .i64 0, .int .i64 0, .int .u64 c, .int .i64 n, .int .i64 0, .int .i64 time, .bool false, .string ⟨#[]⟩, .slice none 0 0] : List Value) = ms at *
      have HMS := Lib.hid (show Value.agg #[.int .i64 11, .int .i64 0, .int .i64 0, .int .i64 0, .int .u64 c, .int .i64 n, .int .i64 0, .int .i64 time, .bool false, .string ⟨#[]⟩, .slice none 0 0] = Value.agg ms.toArray by rw [← hMS])
      have hml := Lib.hid (show ms.toArray.size = 11 by rw [← hMS]; rfl)
      have HTT := Lib.hid HT0
      have HOO := Lib.hid HO0
      clear hMS HT0 HO0
      go_wp2_with (first | (refine wpList_store_mid rfl 30 (.tmp 8) (.tmp 62) rfl (w.heap.size + 1) 0 ms.toArray (by rfl) (by first | rfl | exact HMS.out) HTT.out (by rw [hml.out]; exact info_msg) HOO.out ?_))
      refine bodyPost_ret (v := .tuple #[.agg #[.int .i64 11, .int .i64 0, .int .i64 0, .int .i64 0, .int .u64 c, .int .i64 n, .int .i64 0, .int .i64 time, .bool false, .string ⟨#[]⟩, .slice none 0 0], .bool true]) (by simp [results, Try.results22, go_sem, z0, z1, z2, z3, z4, z5, z6, z7, z8, z9, z10]; try rfl) rfl ?_
      exact ⟨by rw [Bool.or_true], HAF.out, HOF.out, HFF.out⟩
  · skip
    go_simp
    skip
    first | refine hK.out _ _ ?sg16 (fun h16 => ?_) | (go_wp2_with fail; refine hK.out _ _ ?sg16 (fun h16 => ?_))
    case sg16 => ((try dsimp only); (exact ⟨((Gr.refl _).alloc _).cell h0.1, ((Gr.refl _).alloc _).cell h0.2⟩))
    clear hK K h0
    try simp only [Act.put, List.setIfInBounds_toArray, List.set_cons_zero, List.set_cons_succ]
    refine wpAnyH_ready (rs := [5]) (by kernel_rfl) (by simp) ?_
    refine AllReadyH.cons (o := { dst := some 40, op := Go.Op.call { callee := Go.Callee.value (Go.Operand.func 69), args := #[Go.Operand.tmp 38, Go.Operand.tmp 39], argTypes := #[3, 3] }, type := 3, pos := "accept.go:148", after := #[{ on := 3, ground := Go.Ground.data }, { on := 4, ground := Go.Ground.data }], guard := none }) rfl (fun K hK => ?_) AllReadyH.nil
    go_simp
    go_at_call 69
    refine (later_any now long _).mono ?_
    rintro e w9 ⟨rfl, rfl⟩
    first | refine hK.out _ _ ?sg17 (fun h17 => ?_) | (go_wp2_with fail; refine hK.out _ _ ?sg17 (fun h17 => ?_))
    case sg17 => ((try dsimp only); (exact h16))
    clear hK K h16
    try simp only [Act.put, List.setIfInBounds_toArray, List.set_cons_zero, List.set_cons_succ]
    refine wpAnyH_take (i := 11) (oi := { dst := some 46, op := Go.Op.call { callee := Go.Callee.builtin Go.Builtin.max, args := #[Go.Operand.tmp 40, Go.Operand.tmp 45], argTypes := #[3, 3] }, type := 3, pos := "accept.go:148", after := #[{ on := 5, ground := Go.Ground.data }, { on := 10, ground := Go.Ground.data }], guard := none }) (v := (.int .i64 U)) rfl (by kernel_rfl) (by kernel_rfl) (by kernel_rfl) (fun _ _ _ h => h) (Or.inl ⟨by rfl, ?rg18⟩) (by assumption) ?_
    case rg18 => (intro w hSw; (try dsimp only at hSw); go_simp; all_goals (rw [HU.out]; rfl))
    try simp only [Act.put, List.setIfInBounds_toArray, List.set_cons_zero, List.set_cons_succ]
    refine wpAnyH_take (i := 12) (oi := { dst := some 47, op := Go.Op.build 98 #[(0, Go.Operand.tmp 37), (1, Go.Operand.tmp 46)], type := 98, pos := "accept.go:148", after := #[{ on := 2, ground := Go.Ground.data }, { on := 11, ground := Go.Ground.data }], guard := none }) (v := ?vg19) rfl (by kernel_rfl) (by kernel_rfl) (by kernel_rfl) (fun _ _ _ h => h) (Or.inl ⟨by rfl, ?rg19⟩) (by assumption) ?_
    case rg19 => (intro w hSw; (try dsimp only at hSw); (go_simp <;> with_reducible rfl))
    try simp only [Act.put, List.setIfInBounds_toArray, List.set_cons_zero, List.set_cons_succ]
    refine wpAnyH_ready (rs := [14]) (by kernel_rfl) (by simp) ?_
    refine AllReadyH.cons (o := { dst := none, op := Go.Op.store 98 (Go.Operand.tmp 11) (Go.Operand.tmp 47), type := 0, pos := "accept.go:148", after := #[{ on := 13, ground := Go.Ground.data }, { on := 12, ground := Go.Ground.data }, { on := 5, ground := Go.Ground.chain }, { on := 0, ground := Go.Ground.phase }, { on := 1, ground := Go.Ground.phase }, { on := 2, ground := Go.Ground.phase }, { on := 3, ground := Go.Ground.phase }, { on := 4, ground := Go.Ground.phase }, { on := 5, ground := Go.Ground.phase }, { on := 6, ground := Go.Ground.phase }, { on := 7, ground := Go.Ground.phase }, { on := 8, ground := Go.Ground.phase }, { on := 9, ground := Go.Ground.phase }, { on := 10, ground := Go.Ground.phase }, { on := 11, ground := Go.Ground.phase }, { on := 12, ground := Go.Ground.phase }, { on := 13, ground := Go.Ground.phase }], guard := none }) rfl (fun K hK => ?_) AllReadyH.nil
    go_simp
    skip
    first | refine hK.out _ _ ?sg20 (fun h20 => ?_) | (go_wp2_with fail; refine hK.out _ _ ?sg20 (fun h20 => ?_))
    case sg20 => ((try dsimp only); (exact ⟨(HM3.out.gr (((Gr.refl w3).alloc (.cells #[.int .i64 (frm + 1), .int .i64 U] 98)).drew)).cell rfl, (HA3.out.gr (((Gr.refl w3).alloc (.cells #[.int .i64 (frm + 1), .int .i64 U] 98)).drew)).cell rfl⟩))
    clear hK K h17
    try simp only [Act.put, List.setIfInBounds_toArray, List.set_cons_zero, List.set_cons_succ]
    refine wpAnyH_done (by kernel_rfl) ?_ _
    clear h20 m1 b6
    have HA4 := Lib.hid (HA3.out.gr (((Gr.refl w3).alloc (.cells #[.int .i64 (frm + 1), .int .i64 U] 98)).drew))
    have HM4 := Lib.hid (HM3.out.gr (((Gr.refl w3).alloc (.cells #[.int .i64 (frm + 1), .int .i64 U] 98)).drew))
    have HR4 := Lib.hid (HR3.out.gr (((Gr.refl w3).alloc (.cells #[.int .i64 (frm + 1), .int .i64 U] 98)).drew))
    have HO4 := Lib.hid (ownsRow_gr (((Gr.refl w3).alloc (.cells #[.int .i64 (frm + 1), .int .i64 U] 98)).drew) HO3.out)
    have HF4 := Lib.hid (HF3.out.trans HV.out (Far.of_gr (((Gr.refl w3).alloc (.cells #[.int .i64 (frm + 1), .int .i64 U] 98)).drew)))
    clear HA3 HM3 HR3 HO3 HF3
    have HBQ := Lib.hid ((Blk.new w3 #[.int .i64 (frm + 1), .int .i64 U] 98).gr (Gr.refl _).drew)
    have h20B := Lib.hid (show w3.heap.size ≠ b from fun e => by have := HA4.out.lt; have := hltb.out; omega)
    generalize (w3.alloc (.cells #[.int .i64 (frm + 1), .int .i64 U] 98)).drew = w4 at *
    generalize w3.heap.size = p9 at *
    have p0 := HBQ.out.cell (i := 0) rfl
    have p1 := HBQ.out.cell (i := 1) rfl
    have b5 := HA4.out.cell (i := 5) rfl
    have b6 := HA4.out.cell (i := 6) rfl
    go_wp2_with fail
    refine wp_region_held_drew (S := (fun w9 => w9.cell? ⟨p9, 0, none⟩ = some (.int .i64 (frm + 1)) ∧ w9.cell? ⟨p9, 1, none⟩ = some (.int .i64 U) ∧ w9.cell? ⟨b, 5, none⟩ = some (.int .i64 to) ∧ w9.cell? ⟨b, 6, none⟩ = some (.int .i64 til))) (by kernel_rfl) ?invx13 (fun h0 => ?_)
    case invx13 => ((try dsimp only); (exact ⟨p0, p1, b5, b6⟩))
    refine wpAnyH_take (i := 0) (oi := { dst := some 48, op := Go.Op.load 98 (Go.Operand.tmp 11), type := 98, pos := "accept.go:148", after := #[], guard := none }) (v := ?vx131) rfl (by kernel_rfl) (by kernel_rfl) (by kernel_rfl) (fun _ _ _ h => h) (Or.inl ⟨by rfl, ?rx131⟩) (by assumption) ?_
    case rx131 => (intro w hSw; (try dsimp only at hSw); (go_simp <;> with_reducible rfl))
    try simp only [Act.put, List.setIfInBounds_toArray, List.set_cons_zero, List.set_cons_succ]
    refine wpAnyH_take (i := 1) (oi := { dst := some 49, op := Go.Op.move (Go.Operand.tmp 0), type := 23, pos := "accept.go:148", after := #[], guard := none }) (v := ?vx132) rfl (by kernel_rfl) (by kernel_rfl) (by kernel_rfl) (fun _ _ _ h => h) (Or.inl ⟨by rfl, ?rx132⟩) (by assumption) ?_
    case rx132 => (intro w hSw; (try dsimp only at hSw); (go_simp <;> with_reducible rfl))
    try simp only [Act.put, List.setIfInBounds_toArray, List.set_cons_zero, List.set_cons_succ]
    refine wpAnyH_take (i := 2) (oi := { dst := some 50, op := Go.Op.nilCheck (Go.Operand.tmp 49), type := 0, pos := "accept.go:148", after := #[{ on := 1, ground := Go.Ground.data }], guard := none }) (v := ?vx133) rfl (by kernel_rfl) (by kernel_rfl) (by kernel_rfl) (fun _ _ _ h => h) (Or.inl ⟨by rfl, ?rx133⟩) (by assumption) ?_
    case rx133 => (intro w hSw; (try dsimp only at hSw); (go_simp <;> with_reducible rfl))
    try simp only [Act.put, List.setIfInBounds_toArray, List.set_cons_zero, List.set_cons_succ]
    refine wpAnyH_take (i := 3) (oi := { dst := some 51, op := Go.Op.fieldAddr 100 (Go.Operand.tmp 50) 4, type := 0, pos := "accept.go:148", after := #[{ on := 2, ground := Go.Ground.data }], guard := none }) (v := ?vx134) rfl (by kernel_rfl) (by kernel_rfl) (by kernel_rfl) (fun _ _ _ h => h) (Or.inl ⟨by rfl, ?rx134⟩) (by assumption) ?_
    case rx134 => (intro w hSw; (try dsimp only at hSw); (go_simp <;> with_reducible rfl))
    try simp only [Act.put, List.setIfInBounds_toArray, List.set_cons_zero, List.set_cons_succ]
    refine wpAnyH_take (i := 4) (oi := { dst := some 52, op := Go.Op.load 98 (Go.Operand.tmp 51), type := 98, pos := "accept.go:148", after := #[{ on := 3, ground := Go.Ground.data }], guard := none }) (v := ?vx135) rfl (by kernel_rfl) (by kernel_rfl) (by kernel_rfl) (fun _ _ _ h => h) (Or.inl ⟨by rfl, ?rx135⟩) (by assumption) ?_
    case rx135 => (intro w hSw; (try dsimp only at hSw); (go_simp <;> with_reducible rfl))
    try simp only [Act.put, List.setIfInBounds_toArray, List.set_cons_zero, List.set_cons_succ]
    refine wpAnyH_take (i := 5) (oi := { dst := some 53, op := Go.Op.binOp Go.BinOp.neq 98 (Go.Operand.tmp 48) (Go.Operand.tmp 52) 98, type := 4, pos := "accept.go:148", after := #[{ on := 0, ground := Go.Ground.data }, { on := 4, ground := Go.Ground.data }], guard := none }) (v := (.bool gq)) rfl (by kernel_rfl) (by kernel_rfl) (by kernel_rfl) (fun _ _ _ h => h) (Or.inl ⟨by rfl, ?rx136⟩) (by assumption) ?_
    case rx136 => (intro w hSw; (try dsimp only at hSw); go_simp; rw [HGQ.out]; by_cases h1 : frm + 1 = to <;> by_cases h2 : U = til <;> first | (simp [h1, h2]; done) | (simp_all; done))
    try simp only [Act.put, List.setIfInBounds_toArray, List.set_cons_zero, List.set_cons_succ]
    refine wpAnyH_done (by kernel_rfl) ?_ _
    clear h0 p0 p1 b5 b6
    have HA5 := Lib.hid (HA4.out.gr (Gr.refl w4).drew)
    have HM5 := Lib.hid (HM4.out.gr (Gr.refl w4).drew)
    have HR5 := Lib.hid (HR4.out.gr (Gr.refl w4).drew)
    have HO5 := Lib.hid (ownsRow_gr (Gr.refl w4).drew HO4.out)
    have HF5 := Lib.hid (HF4.out.trans HV.out (Far.of_gr (Gr.refl w4).drew))
    clear HA4 HM4 HR4 HO4 HF4
    have HBQ2 := Lib.hid (HBQ.out.gr (Gr.refl w4).drew)
    generalize w4.drew = w5 at *
    have HN := Lib.hid (show v.ownBlock ≠ some (w.heap.size + 1) from fun e => by have := HVP.out _ e; omega)
    cases gq
    · have HEQ := Lib.hid (show frm + 1 = to ∧ U = til from Decidable.not_not.1 (of_decide_eq_false HGQ.out.symm))
      have m4 := HM5.out.cell (i := 4) rfl
      have m5 := HM5.out.cell (i := 5) rfl
      have m7 := HM5.out.cell (i := 7) rfl
      obtain ⟨HT0, HO0, hat, hgr⟩ := msg_put HR5.out rfl [.int .i64 11, .int .i64 0, .int .i64 0, .int .i64 0, .int .u64 c, .int .i64 n, .int .i64 0, .int .i64 time, .bool false, .string ⟨#[]⟩, .slice none 0 0] rfl (by intro u hu; simp only [List.mem_cons, List.not_mem_nil, or_false] at hu; rcases hu with rfl | rfl | rfl | rfl | rfl | rfl | rfl | rfl | rfl | rfl | rfl <;> rfl)
      have z0 : (w5.setCells (w.heap.size + 1) 0 [.int .i64 11, .int .i64 0, .int .i64 0, .int .i64 0, .int .u64 c, .int .i64 n, .int .i64 0, .int .i64 time, .bool false, .string ⟨#[]⟩, .slice none 0 0]).cell? ⟨w.heap.size + 1, 0, none⟩ = some (.int .i64 11) := hat 0 (by decide)
      have z1 : (w5.setCells (w.heap.size + 1) 0 [.int .i64 11, .int .i64 0, .int .i64 0, .int .i64 0, .int .u64 c, .int .i64 n, .int .i64 0, .int .i64 time, .bool false, .string ⟨#[]⟩, .slice none 0 0]).cell? ⟨w.heap.size + 1, 1, none⟩ = some (.int .i64 0) := hat 1 (by decide)
      have z2 : (w5.setCells (w.heap.size + 1) 0 [.int .i64 11, .int .i64 0, .int .i64 0, .int .i64 0, .int .u64 c, .int .i64 n, .int .i64 0, .int .i64 time, .bool false, .string ⟨#[]⟩, .slice none 0 0]).cell? ⟨w.heap.size + 1, 2, none⟩ = some (.int .i64 0) := hat 2 (by decide)
      have z3 : (w5.setCells (w.heap.size + 1) 0 [.int .i64 11, .int .i64 0, .int .i64 0, .int .i64 0, .int .u64 c, .int .i64 n, .int .i64 0, .int .i64 time, .bool false, .string ⟨#[]⟩, .slice none 0 0]).cell? ⟨w.heap.size + 1, 3, none⟩ = some (.int .i64 0) := hat 3 (by decide)
      have z4 : (w5.setCells (w.heap.size + 1) 0 [.int .i64 11, .int .i64 0, .int .i64 0, .int .i64 0, .int .u64 c, .int .i64 n, .int .i64 0, .int .i64 time, .bool false, .string ⟨#[]⟩, .slice none 0 0]).cell? ⟨w.heap.size + 1, 4, none⟩ = some (.int .u64 c) := hat 4 (by decide)
      have z5 : (w5.setCells (w.heap.size + 1) 0 [.int .i64 11, .int .i64 0, .int .i64 0, .int .i64 0, .int .u64 c, .int .i64 n, .int .i64 0, .int .i64 time, .bool false, .string ⟨#[]⟩, .slice none 0 0]).cell? ⟨w.heap.size + 1, 5, none⟩ = some (.int .i64 n) := hat 5 (by decide)
      have z6 : (w5.setCells (w.heap.size + 1) 0 [.int .i64 11, .int .i64 0, .int .i64 0, .int .i64 0, .int .u64 c, .int .i64 n, .int .i64 0, .int .i64 time, .bool false, .string ⟨#[]⟩, .slice none 0 0]).cell? ⟨w.heap.size + 1, 6, none⟩ = some (.int .i64 0) := hat 6 (by decide)
      have z7 : (w5.setCells (w.heap.size + 1) 0 [.int .i64 11, .int .i64 0, .int .i64 0, .int .i64 0, .int .u64 c, .int .i64 n, .int .i64 0, .int .i64 time, .bool false, .string ⟨#[]⟩, .slice none 0 0]).cell? ⟨w.heap.size + 1, 7, none⟩ = some (.int .i64 time) := hat 7 (by decide)
      have z8 : (w5.setCells (w.heap.size + 1) 0 [.int .i64 11, .int .i64 0, .int .i64 0, .int .i64 0, .int .u64 c, .int .i64 n, .int .i64 0, .int .i64 time, .bool false, .string ⟨#[]⟩, .slice none 0 0]).cell? ⟨w.heap.size + 1, 8, none⟩ = some (.bool false) := hat 8 (by decide)
      have z9 : (w5.setCells (w.heap.size + 1) 0 [.int .i64 11, .int .i64 0, .int .i64 0, .int .i64 0, .int .u64 c, .int .i64 n, .int .i64 0, .int .i64 time, .bool false, .string ⟨#[]⟩, .slice none 0 0]).cell? ⟨w.heap.size + 1, 9, none⟩ = some (.string ⟨#[]⟩) := hat 9 (by decide)
      have z10 : (w5.setCells (w.heap.size + 1) 0 [.int .i64 11, .int .i64 0, .int .i64 0, .int .i64 0, .int .u64 c, .int .i64 n, .int .i64 0, .int .i64 time, .bool false, .string ⟨#[]⟩, .slice none 0 0]).cell? ⟨w.heap.size + 1, 10, none⟩ = some (.slice none 0 0) := hat 10 (by decide)
      have HAF := Lib.hid (HA5.out.grown hgr n2.symm)
      have HFF := Lib.hid (Far.grownV (v1 := v) HF5.out hgr (Nat.le_succ _))
      have HOF := Lib.hid (HO5.out.kept hgr (.inr HN.out))
      clear hat hgr
      generalize hMS : ([.int .i64 11, .int .i64 0, .int .i64 0, .int .i64 0, .int .u64 c, .int .i64 n, .int .i64 0, .int .i64 time, .bool false, .string ⟨#[]⟩, .slice none 0 0] : List Value) = ms at *
      have HMS := Lib.hid (show Value.agg #[.int .i64 11, .int .i64 0, .int .i64 0, .int .i64 0, .int .u64 c, .int .i64 n, .int .i64 0, .int .i64 time, .bool false, .string ⟨#[]⟩, .slice none 0 0] = Value.agg ms.toArray by rw [← hMS])
      have hml := Lib.hid (show ms.toArray.size = 11 by rw [← hMS]; rfl)
      have HTT := Lib.hid HT0
      have HOO := Lib.hid HO0
      clear hMS HT0 HO0
      go_wp2_with (first | (refine wpList_store_mid rfl 30 (.tmp 8) (.tmp 62) rfl (w.heap.size + 1) 0 ms.toArray (by rfl) (by first | rfl | exact HMS.out) HTT.out (by rw [hml.out]; exact info_msg) HOO.out ?_))
      refine bodyPost_ret (v := .tuple #[.agg #[.int .i64 11, .int .i64 0, .int .i64 0, .int .i64 0, .int .u64 c, .int .i64 n, .int .i64 0, .int .i64 time, .bool false, .string ⟨#[]⟩, .slice none 0 0], .bool q]) (by simp [results, Try.results22, go_sem, z0, z1, z2, z3, z4, z5, z6, z7, z8, z9, z10]; try rfl) rfl ?_
      exact ⟨by rw [Bool.or_false], by rw [HEQ.out.1, HEQ.out.2]; exact HAF.out, HOF.out, HFF.out⟩
    · have m4 := HM5.out.cell (i := 4) rfl
      have m5 := HM5.out.cell (i := 5) rfl
      have m7 := HM5.out.cell (i := 7) rfl
      have p0 := HBQ2.out.cell (i := 0) rfl
      have p1 := HBQ2.out.cell (i := 1) rfl
      have b5 := HA5.out.cell (i := 5) rfl
      have b6 := HA5.out.cell (i := 6) rfl
      have f5 := HA5.out.free 5
      have f6 := HA5.out.free 6
      have HA6 := Lib.hid ((HA5.out.set 5 (.int .i64 (frm + 1))).set 6 (.int .i64 U))
      have HM6 := Lib.hid ((HM5.out.other n1 5 (.int .i64 (frm + 1))).other n1 6 (.int .i64 U))
      have HR6 := Lib.hid ((HR5.out.other n2 5 (.int .i64 (frm + 1))).other n2 6 (.int .i64 U))
      have HO6 := Lib.hid (ownsRow_setCell_other (a := ⟨b, 6, none⟩) (ownsRow_setCell_other (a := ⟨b, 5, none⟩) HO5.out HVB.out (.int .i64 (frm + 1))) HVB.out (.int .i64 U))
      have HF6 := Lib.hid ((HF5.out.trans HV.out (Far.setCell b 5 v w5 (.int .i64 (frm + 1)))).trans HV.out (Far.setCell b 6 v _ (.int .i64 U)))
      have k4 := HM6.out.cell (i := 4) rfl
      have k5 := HM6.out.cell (i := 5) rfl
      have k7 := HM6.out.cell (i := 7) rfl
      obtain ⟨HT0, HO0, hat, hgr⟩ := msg_put HR6.out rfl [.int .i64 11, .int .i64 0, .int .i64 0, .int .i64 0, .int .u64 c, .int .i64 n, .int .i64 0, .int .i64 time, .bool false, .string ⟨#[]⟩, .slice none 0 0] rfl (by intro u hu; simp only [List.mem_cons, List.not_mem_nil, or_false] at hu; rcases hu with rfl | rfl | rfl | rfl | rfl | rfl | rfl | rfl | rfl | rfl | rfl <;> rfl)
      have z0 : (((w5.setCell ⟨b, 5, none⟩ (.int .i64 (frm + 1))).setCell ⟨b, 6, none⟩ (.int .i64 U)).setCells (w.heap.size + 1) 0 [.int .i64 11, .int .i64 0, .int .i64 0, .int .i64 0, .int .u64 c, .int .i64 n, .int .i64 0, .int .i64 time, .bool false, .string ⟨#[]⟩, .slice none 0 0]).cell? ⟨w.heap.size + 1, 0, none⟩ = some (.int .i64 11) := hat 0 (by decide)
      have z1 : (((w5.setCell ⟨b, 5, none⟩ (.int .i64 (frm + 1))).setCell ⟨b, 6, none⟩ (.int .i64 U)).setCells (w.heap.size + 1) 0 [.int .i64 11, .int .i64 0, .int .i64 0, .int .i64 0, .int .u64 c, .int .i64 n, .int .i64 0, .int .i64 time, .bool false, .string ⟨#[]⟩, .slice none 0 0]).cell? ⟨w.heap.size + 1, 1, none⟩ = some (.int .i64 0) := hat 1 (by decide)
      have z2 : (((w5.setCell ⟨b, 5, none⟩ (.int .i64 (frm + 1))).setCell ⟨b, 6, none⟩ (.int .i64 U)).setCells (w.heap.size + 1) 0 [.int .i64 11, .int .i64 0, .int .i64 0, .int .i64 0, .int .u64 c, .int .i64 n, .int .i64 0, .int .i64 time, .bool false, .string ⟨#[]⟩, .slice none 0 0]).cell? ⟨w.heap.size + 1, 2, none⟩ = some (.int .i64 0) := hat 2 (by decide)
      have z3 : (((w5.setCell ⟨b, 5, none⟩ (.int .i64 (frm + 1))).setCell ⟨b, 6, none⟩ (.int .i64 U)).setCells (w.heap.size + 1) 0 [.int .i64 11, .int .i64 0, .int .i64 0, .int .i64 0, .int .u64 c, .int .i64 n, .int .i64 0, .int .i64 time, .bool false, .string ⟨#[]⟩, .slice none 0 0]).cell? ⟨w.heap.size + 1, 3, none⟩ = some (.int .i64 0) := hat 3 (by decide)
      have z4 : (((w5.setCell ⟨b, 5, none⟩ (.int .i64 (frm + 1))).setCell ⟨b, 6, none⟩ (.int .i64 U)).setCells (w.heap.size + 1) 0 [.int .i64 11, .int .i64 0, .int .i64 0, .int .i64 0, .int .u64 c, .int .i64 n, .int .i64 0, .int .i64 time, .bool false, .string ⟨#[]⟩, .slice none 0 0]).cell? ⟨w.heap.size + 1, 4, none⟩ = some (.int .u64 c) := hat 4 (by decide)
      have z5 : (((w5.setCell ⟨b, 5, none⟩ (.int .i64 (frm + 1))).setCell ⟨b, 6, none⟩ (.int .i64 U)).setCells (w.heap.size + 1) 0 [.int .i64 11, .int .i64 0, .int .i64 0, .int .i64 0, .int .u64 c, .int .i64 n, .int .i64 0, .int .i64 time, .bool false, .string ⟨#[]⟩, .slice none 0 0]).cell? ⟨w.heap.size + 1, 5, none⟩ = some (.int .i64 n) := hat 5 (by decide)
      have z6 : (((w5.setCell ⟨b, 5, none⟩ (.int .i64 (frm + 1))).setCell ⟨b, 6, none⟩ (.int .i64 U)).setCells (w.heap.size + 1) 0 [.int .i64 11, .int .i64 0, .int .i64 0, .int .i64 0, .int .u64 c, .int .i64 n, .int .i64 0, .int .i64 time, .bool false, .string ⟨#[]⟩, .slice none 0 0]).cell? ⟨w.heap.size + 1, 6, none⟩ = some (.int .i64 0) := hat 6 (by decide)
      have z7 : (((w5.setCell ⟨b, 5, none⟩ (.int .i64 (frm + 1))).setCell ⟨b, 6, none⟩ (.int .i64 U)).setCells (w.heap.size + 1) 0 [.int .i64 11, .int .i64 0, .int .i64 0, .int .i64 0, .int .u64 c, .int .i64 n, .int .i64 0, .int .i64 time, .bool false, .string ⟨#[]⟩, .slice none 0 0]).cell? ⟨w.heap.size + 1, 7, none⟩ = some (.int .i64 time) := hat 7 (by decide)
      have z8 : (((w5.setCell ⟨b, 5, none⟩ (.int .i64 (frm + 1))).setCell ⟨b, 6, none⟩ (.int .i64 U)).setCells (w.heap.size + 1) 0 [.int .i64 11, .int .i64 0, .int .i64 0, .int .i64 0, .int .u64 c, .int .i64 n, .int .i64 0, .int .i64 time, .bool false, .string ⟨#[]⟩, .slice none 0 0]).cell? ⟨w.heap.size + 1, 8, none⟩ = some (.bool false) := hat 8 (by decide)
      have z9 : (((w5.setCell ⟨b, 5, none⟩ (.int .i64 (frm + 1))).setCell ⟨b, 6, none⟩ (.int .i64 U)).setCells (w.heap.size + 1) 0 [.int .i64 11, .int .i64 0, .int .i64 0, .int .i64 0, .int .u64 c, .int .i64 n, .int .i64 0, .int .i64 time, .bool false, .string ⟨#[]⟩, .slice none 0 0]).cell? ⟨w.heap.size + 1, 9, none⟩ = some (.string ⟨#[]⟩) := hat 9 (by decide)
      have z10 : (((w5.setCell ⟨b, 5, none⟩ (.int .i64 (frm + 1))).setCell ⟨b, 6, none⟩ (.int .i64 U)).setCells (w.heap.size + 1) 0 [.int .i64 11, .int .i64 0, .int .i64 0, .int .i64 0, .int .u64 c, .int .i64 n, .int .i64 0, .int .i64 time, .bool false, .string ⟨#[]⟩, .slice none 0 0]).cell? ⟨w.heap.size + 1, 10, none⟩ = some (.slice none 0 0) := hat 10 (by decide)
      have HAF := Lib.hid (HA6.out.grown hgr n2.symm)
      have HFF := Lib.hid (Far.grownV (v1 := v) HF6.out hgr (Nat.le_succ _))
      have HOF := Lib.hid (HO6.out.kept hgr (.inr HN.out))
      clear hat hgr
      generalize hMS : ([.int .i64 11, .int .i64 0, .int .i64 0, .int .i64 0, .int .u64 c, .int .i64 n, .int .i64 0, .int .i64 time, .bool false, .string ⟨#[]⟩, .slice none 0 0] : List Value) = ms at *
      have HMS := Lib.hid (show Value.agg #[.int .i64 11, .int .i64 0, .int .i64 0, .int .i64 0, .int .u64 c, .int .i64 n, .int .i64 0, .int .i64 time, .bool false, .string ⟨#[]⟩, .slice none 0 0] = Value.agg ms.toArray by rw [← hMS])
      have hml := Lib.hid (show ms.toArray.size = 11 by rw [← hMS]; rfl)
      have HTT := Lib.hid HT0
      have HOO := Lib.hid HO0
      clear hMS HT0 HO0
      go_wp2_with (first | (refine wpList_store_mid rfl 30 (.tmp 8) (.tmp 62) rfl (w.heap.size + 1) 0 ms.toArray (by rfl) (by first | rfl | exact HMS.out) HTT.out (by rw [hml.out]; exact info_msg) HOO.out ?_))
      refine bodyPost_ret (v := .tuple #[.agg #[.int .i64 11, .int .i64 0, .int .i64 0, .int .i64 0, .int .u64 c, .int .i64 n, .int .i64 0, .int .i64 time, .bool false, .string ⟨#[]⟩, .slice none 0 0], .bool true]) (by simp [results, Try.results22, go_sem, z0, z1, z2, z3, z4, z5, z6, z7, z8, z9, z10]; try rfl) rfl ?_
      exact ⟨by rw [Bool.or_true], HAF.out, HOF.out, HFF.out⟩
end Go.Proofs.Ytkihencimbdoiaa
