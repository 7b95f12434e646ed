import Derived.Test.YtfcfbecfamemlaaF12b
import Derived.WalkKit
import Derived.ProofKit
import Derived.LoopTactic
import Derived.Outline
import Derived.WalkSpells
import Derived.WalkLawsBesides
import Derived.Lib.Hide
import Derived.Deep.LoopGhost
import Derived.Deep.QuietTactic
import Derived.BigQuiet
import Derived.ShutString
import Derived.IntWalk
import Derived.Deep.RegionWith
import Derived.Deep.RegionHeld3
namespace Go.Proofs.Ytfcfbecfamemlaa
open Go.ChangeShapes Go.WideShapes Go.ChangeAt Go.RowKit
open Dk
set_option linter.unusedVariables false
set_option linter.unusedSimpArgs false
/-- A cell of two files lies in block c. -/
structure ClIs (w : World) (c d f v : Nat) : Prop where
  k0 : w.cell? ⟨c, 0, none⟩ = some (.pointer (some ⟨d, 0, none⟩))
  k1 : w.cell? ⟨c, 1, none⟩ = some (.int .i64 (f : Nat))
  k2 : w.cell? ⟨c, 2, none⟩ = some (.int .u64 (v : Nat))
  fr : w.frozen? ⟨c, 2, none⟩ = false
  ne : c ≠ d
theorem ClIs.gr {w w' : World} {c d f v : Nat} (h : ClIs w c d f v) (hg : Gr w w') : ClIs w' c d f v := ⟨hg.cell h.k0, hg.cell h.k1, hg.cell h.k2, (hg.frozen (cell_lt h.k2)).trans h.fr, h.ne⟩
theorem ClIs.sole {w w' : World} {c d f v p : Nat} (h : ClIs w c d f v) (hg : Sole p w w') (hp : c ≠ p) : ClIs w' c d f v := ⟨hg.cell hp h.k0, hg.cell hp h.k1, hg.cell hp h.k2, (hg.frozen hp (cell_lt h.k2)).trans h.fr, h.ne⟩
def ReadIs12 (s : ByteArray) (w : World) (e : Ending) (w' : World) : Prop := ParseIs s w e w'
set_option maxRecDepth 100000 in
set_option maxHeartbeats 300000 in
theorem cread_any {c d f v : Nat} {Q : D} (i k : Nat) (w : World) (h : DkIs w d Q) (hc : ClIs w c d f v) (hfk : f + i = k) (hk : k < 4) (hz : (Q.fs k).now.size ≤ 600000) :
    Calls Try.prog 54 #[.pointer (some ⟨c, 0, none⟩), .int .i64 (i : Nat)] w (ReadIs12 (Q.fs k).now w) := by
  have RD := Lib.hid (fun w' (hg : Gr w w') => read_in k hk w' (h.gr hg))
  have x1 : (f : Int) + (i : Int) = (k : Int) := by omega
  have xk : IntKind.i64.wrap (k : Int) = (k : Int) := IntWalk.i64_in _ (by omega)
  clear hfk hk
  obtain ⟨k0, k1, -, -, -⟩ := hc
  clear h
  generalize (Q.fs k).now = s at *
  have PA := Lib.hid (fun w => parse_any s w hz)
  have hlc := cell_lt k0
  go_enter Try.func54, Try.ntmps54
  go_wp2
  have gz := (Gr.refl w).alloc (.cells #[.int .u64 0, .string ⟨#[]⟩] 106)
  have q0 : (w.alloc (.cells #[.int .u64 0, .string ⟨#[]⟩] 106)).cell? ⟨w.heap.size, 0, none⟩ = some (.int .u64 0) := new_cell rfl rfl
  have q1 : (w.alloc (.cells #[.int .u64 0, .string ⟨#[]⟩] 106)).cell? ⟨w.heap.size, 1, none⟩ = some (.string ⟨#[]⟩) := new_cell rfl rfl
  have y0 := new_free (w := w) (c := #[.int .u64 0, .string ⟨#[]⟩]) (t := 106) (n := w.heap.size) (i := 0) rfl
  have y1 := new_free (w := w) (c := #[.int .u64 0, .string ⟨#[]⟩]) (t := 106) (n := w.heap.size) (i := 1) rfl
  replace k0 := gz.cell k0
  replace k1 := gz.cell k1
  have HGZ := Lib.hid gz
  have hlt := cell_lt q0
  generalize w.alloc (.cells #[.int .u64 0, .string ⟨#[]⟩] 106) = wz at *
  generalize hrb : w.heap.size = rb at *
  have HRB := Lib.hid hrb
  clear hrb gz
  go_region_with (go_at_call 18; go_loud (refine (RD.out _ (by first | exact HGZ.out.drew | exact HGZ.out)).mono ?_; rintro e w3 ⟨rfl, hg3⟩; have hg3 : Gr wz w3 := (by first | exact hg3.of_drew | exact hg3)))
  all_goals
    replace q0 := hg3.cell q0
    replace q1 := hg3.cell q1
    replace y0 := (hg3.frozen hlt).trans y0
    replace y1 := (hg3.frozen hlt).trans y1
    have HG3 := Lib.hid (HGZ.out.trans hg3)
    have hlt3 := cell_lt q0
    clear hg3 k0 k1 x1 xk
    go_wp2_with fail
    refine (PA.out _).mono ?_
    rintro e w4 ⟨rfl, hg4⟩
    replace q0 := hg4.cell q0
    replace q1 := hg4.cell q1
    replace y0 := (hg4.frozen hlt3).trans y0
    replace y1 := (hg4.frozen hlt3).trans y1
    have HG4 := Lib.hid (HG3.out.trans hg4)
    obtain ⟨v', t', b', hp⟩ : ∃ v' t' b', parseB s = (v', t', b') := ⟨_, _, _, rfl⟩
    rw [hp]
    have HP := Lib.hid hp
    clear hg4 hp
    simp only
    go_wp2
    obtain ⟨c0, c1, cf⟩ := two_set (.int .u64 (v' : Nat)) (.string t') q0 q1
    have g7 := gr_two HG4.out HRB.out (.int .u64 (v' : Nat)) (.string t')
    generalize (w4.setCell ⟨rb, 0, none⟩ (.int .u64 (v' : Nat))).setCell ⟨rb, 1, none⟩ (.string t') = w7 at *
    refine bodyPost_ret (v := .tuple #[.agg #[.int .u64 (v' : Nat), .string t'], .bool b']) (by simp [results, Try.results54, go_sem, c0, c1]; try rfl) rfl ?_
    exact parseIs_mk HP g7
/-- A half is put into file k, and synced. -/
def cput (Q : D) (k : Nat) (s : ByteArray) : D × Nat := if (act Q k (gPut s)).2 = 0 then act (act Q k (gPut s)).1 k gKeep else act Q k (gPut s)
theorem cput_ok {Q : D} (h : Q.Ok) (k : Nat) (s : ByteArray) : (cput Q k s).1.Ok := by
  unfold cput
  split
  · exact act_ok (act_ok h _ _ fun f _ => gPut_ok s f) _ _ fun f _ => gKeep_ok f
  · exact act_ok h _ _ fun f _ => gPut_ok s f
theorem cput_no {Q D1 : D} {k q : Nat} {s : ByteArray} (h : act Q k (gPut s) = (D1, q)) (hq : q ≠ 0) : cput Q k s = (D1, q) := by unfold cput; rw [h, if_neg hq]
theorem cput_yes {Q D1 : D} {k : Nat} {s : ByteArray} (h : act Q k (gPut s) = (D1, 0)) : cput Q k s = act D1 k gKeep := by unfold cput; rw [h, if_pos rfl]
def CputIs (d : Nat) (Q : D) (k : Nat) (s : ByteArray) (w : World) (e : Ending) (w' : World) : Prop := e = .returned (.int .i64 ((cput Q k s).2 : Nat)) ∧ DkIs w' d (cput Q k s).1 ∧ Sole d w w'
set_option maxRecDepth 100000 in
set_option maxHeartbeats 500000 in
theorem cput_any {c d f v : Nat} {Q : D} (i k u : Nat) (t : ByteArray) (w : World) (h : DkIs w d Q) (hc : ClIs w c d f v) (hfk : f + i = k) (hk : k < 4) (hu : u < 18446744073709551616) (ht : t.size ≤ 600000) :
    Calls Try.prog 61 #[.pointer (some ⟨c, 0, none⟩), .int .i64 (i : Nat), .agg #[.int .u64 (u : Nat), .string t]] w (CputIs d Q k (spell u t) w) := by
  have BY := Lib.hid (fun w => bytes_any u t w hu (by omega))
  have hsz : (spell u t).size ≤ 1099511627776 := by unfold spell; rw [rframe_size]; have := inner_le u t; omega
  have PT := Lib.hid (fun w (h : DkIs w d Q) => put_any11 (k : Int) (spell u t) hsz w h)
  have x1 : (f : Int) + (i : Int) = (k : Int) := by omega
  have xk : IntKind.i64.wrap (k : Int) = (k : Int) := IntWalk.i64_in _ (by omega)
  clear hfk hk
  have HC := Lib.hid hc
  obtain ⟨k0, k1, -, -, hcd⟩ := hc
  have HD := Lib.hid h
  have hdl := cell_lt h.room
  have hcl := cell_lt k0
  clear h hsz
  generalize spell u t = s at *
  obtain ⟨D1, q, hq⟩ : ∃ D1 q, act Q (k : Int) (gPut s) = (D1, q) := ⟨_, _, rfl⟩
  have HQ := Lib.hid hq
  have PT : Hid (∀ w, DkIs w d Q → Calls Try.prog 26 #[.pointer (some ⟨d, 0, none⟩), .int .i64 (k : Int), .string s] w fun e w' => e = .returned (.int .i64 (q : Nat)) ∧ DkIs w' d D1 ∧ Sole d w w') := Lib.hid fun w hw => by
    have h9 := PT.out w hw
    unfold ActIs at h9
    rw [hq] at h9
    exact h9
  clear hq
  go_enter Try.func61, Try.ntmps61
  go_wp2
  have gz := (Gr.refl w).alloc (.cells #[.int .u64 (u : Nat), .string t] 106)
  have q0 : (w.alloc (.cells #[.int .u64 (u : Nat), .string t] 106)).cell? ⟨w.heap.size, 0, none⟩ = some (.int .u64 (u : Nat)) := new_cell rfl rfl
  have q1 : (w.alloc (.cells #[.int .u64 (u : Nat), .string t] 106)).cell? ⟨w.heap.size, 1, none⟩ = some (.string t) := new_cell rfl rfl
  replace k0 := gz.cell k0
  replace k1 := gz.cell k1
  have HGZ := Lib.hid gz
  have HDN := Lib.hid (HD.out.gr gz)
  have HCD := Lib.hid hcd
  have HHD := Lib.hid (show w.heap.size ≠ d from (Nat.ne_of_lt hdl).symm)
  clear gz
  generalize w.alloc (.cells #[.int .u64 (u : Nat), .string t] 106) = wn at *
  generalize w.heap.size = hb at *
  have HX : Hid (∀ w0 w9 : World, Sole d w0 w9 → (fun w9 => Hid (Sole d wn w9) ∧ w9.cell? ⟨c, 0, none⟩ = some (.pointer (some ⟨d, 0, none⟩)) ∧ w9.cell? ⟨c, 1, none⟩ = some (.int .i64 (f : Nat)) ∧ w9.cell? ⟨hb, 0, none⟩ = some (.int .u64 (u : Nat)) ∧ w9.cell? ⟨hb, 1, none⟩ = some (.string t)) w0 → (fun w9 => Hid (Sole d wn w9) ∧ w9.cell? ⟨c, 0, none⟩ = some (.pointer (some ⟨d, 0, none⟩)) ∧ w9.cell? ⟨c, 1, none⟩ = some (.int .i64 (f : Nat)) ∧ w9.cell? ⟨hb, 0, none⟩ = some (.int .u64 (u : Nat)) ∧ w9.cell? ⟨hb, 1, none⟩ = some (.string t)) w9) := Lib.hid fun w0 w9 hg ⟨h, q0, q1, q2, q3⟩ => ⟨Lib.hid (h.out.trans hg), hg.cell HCD.out q0, hg.cell HCD.out q1, hg.cell HHD.out q2, hg.cell HHD.out q3⟩
  have HS0 : (fun w9 => Hid (Sole d wn w9) ∧ w9.cell? ⟨c, 0, none⟩ = some (.pointer (some ⟨d, 0, none⟩)) ∧ w9.cell? ⟨c, 1, none⟩ = some (.int .i64 (f : Nat)) ∧ w9.cell? ⟨hb, 0, none⟩ = some (.int .u64 (u : Nat)) ∧ w9.cell? ⟨hb, 1, none⟩ = some (.string t)) wn := ⟨Lib.hid (Sole.refl _ _), k0, k1, q0, q1⟩
  clear k0 k1 q0 q1
  refine wp_region_held_drew (S := (fun w9 => Hid (Sole d wn w9) ∧ w9.cell? ⟨c, 0, none⟩ = some (.pointer (some ⟨d, 0, none⟩)) ∧ w9.cell? ⟨c, 1, none⟩ = some (.int .i64 (f : Nat)) ∧ w9.cell? ⟨hb, 0, none⟩ = some (.int .u64 (u : Nat)) ∧ w9.cell? ⟨hb, 1, none⟩ = some (.string t))) (by kernel_rfl) ?inva (fun h0 => ?_)
  case inva => ((try dsimp only); ((try dsimp only); exact HX.out _ _ (Sole.of_gr ((Gr.refl _).drew)) HS0))
  refine wpAnyH_take (i := 0) (oi := { dst := some 8, op := Go.Op.move (Go.Operand.tmp 0), type := 48, pos := "twin.go:107", after := #[], guard := none }) (v := ?va1) rfl (by kernel_rfl) (by kernel_rfl) (by kernel_rfl) (fun _ _ _ h => h) (Or.inl ⟨by rfl, ?ra1⟩) (by assumption) ?_
  case ra1 => (intro w hSw; (try dsimp only at hSw); (go_simp <;> with_reducible rfl))
  try simp only [Act.put, List.setIfInBounds_toArray, List.set_cons_zero, List.set_cons_succ]
  refine wpAnyH_take (i := 1) (oi := { dst := some 9, op := Go.Op.nilCheck (Go.Operand.tmp 8), type := 0, pos := "twin.go:107", after := #[{ on := 0, ground := Go.Ground.data }], guard := none }) (v := ?va2) rfl (by kernel_rfl) (by kernel_rfl) (by kernel_rfl) (fun _ _ _ h => h) (Or.inl ⟨by rfl, ?ra2⟩) (by assumption) ?_
  case ra2 => (intro w hSw; (try dsimp only at hSw); (go_simp <;> with_reducible rfl))
  try simp only [Act.put, List.setIfInBounds_toArray, List.set_cons_zero, List.set_cons_succ]
  refine wpAnyH_take (i := 2) (oi := { dst := some 10, op := Go.Op.fieldAddr 104 (Go.Operand.tmp 9) 0, type := 0, pos := "twin.go:107", after := #[{ on := 1, ground := Go.Ground.data }], guard := none }) (v := ?va3) rfl (by kernel_rfl) (by kernel_rfl) (by kernel_rfl) (fun _ _ _ h => h) (Or.inl ⟨by rfl, ?ra3⟩) (by assumption) ?_
  case ra3 => (intro w hSw; (try dsimp only at hSw); (go_simp <;> with_reducible rfl))
  try simp only [Act.put, List.setIfInBounds_toArray, List.set_cons_zero, List.set_cons_succ]
  refine wpAnyH_take (i := 3) (oi := { dst := some 11, op := Go.Op.load 24 (Go.Operand.tmp 10), type := 24, pos := "twin.go:107", after := #[{ on := 2, ground := Go.Ground.data }], guard := none }) (v := ?va4) rfl (by kernel_rfl) (by kernel_rfl) (by kernel_rfl) (fun _ _ _ h => h) (Or.inl ⟨by rfl, ?ra4⟩) (by assumption) ?_
  case ra4 => (intro w hSw; (try dsimp only at hSw); (go_simp <;> with_reducible rfl))
  try simp only [Act.put, List.setIfInBounds_toArray, List.set_cons_zero, List.set_cons_succ]
  refine wpAnyH_take (i := 4) (oi := { dst := some 12, op := Go.Op.move (Go.Operand.tmp 0), type := 48, pos := "twin.go:107", after := #[], guard := none }) (v := ?va5) rfl (by kernel_rfl) (by kernel_rfl) (by kernel_rfl) (fun _ _ _ h => h) (Or.inl ⟨by rfl, ?ra5⟩) (by assumption) ?_
  case ra5 => (intro w hSw; (try dsimp only at hSw); (go_simp <;> with_reducible rfl))
  try simp only [Act.put, List.setIfInBounds_toArray, List.set_cons_zero, List.set_cons_succ]
  refine wpAnyH_take (i := 5) (oi := { dst := some 13, op := Go.Op.nilCheck (Go.Operand.tmp 12), type := 0, pos := "twin.go:107", after := #[{ on := 4, ground := Go.Ground.data }], guard := none }) (v := ?va6) rfl (by kernel_rfl) (by kernel_rfl) (by kernel_rfl) (fun _ _ _ h => h) (Or.inl ⟨by rfl, ?ra6⟩) (by assumption) ?_
  case ra6 => (intro w hSw; (try dsimp only at hSw); (go_simp <;> with_reducible rfl))
  try simp only [Act.put, List.setIfInBounds_toArray, List.set_cons_zero, List.set_cons_succ]
  refine wpAnyH_take (i := 6) (oi := { dst := some 14, op := Go.Op.fieldAddr 104 (Go.Operand.tmp 13) 1, type := 0, pos := "twin.go:107", after := #[{ on := 5, ground := Go.Ground.data }], guard := none }) (v := ?va7) rfl (by kernel_rfl) (by kernel_rfl) (by kernel_rfl) (fun _ _ _ h => h) (Or.inl ⟨by rfl, ?ra7⟩) (by assumption) ?_
  case ra7 => (intro w hSw; (try dsimp only at hSw); (go_simp <;> with_reducible rfl))
  try simp only [Act.put, List.setIfInBounds_toArray, List.set_cons_zero, List.set_cons_succ]
  refine wpAnyH_take (i := 7) (oi := { dst := some 15, op := Go.Op.load 3 (Go.Operand.tmp 14), type := 3, pos := "twin.go:107", after := #[{ on := 6, ground := Go.Ground.data }], guard := none }) (v := ?va8) rfl (by kernel_rfl) (by kernel_rfl) (by kernel_rfl) (fun _ _ _ h => h) (Or.inl ⟨by rfl, ?ra8⟩) (by assumption) ?_
  case ra8 => (intro w hSw; (try dsimp only at hSw); (go_simp <;> with_reducible rfl))
  try simp only [Act.put, List.setIfInBounds_toArray, List.set_cons_zero, List.set_cons_succ]
  refine wpAnyH_take (i := 8) (oi := { dst := some 16, op := Go.Op.move (Go.Operand.tmp 1), type := 3, pos := "twin.go:107", after := #[], guard := none }) (v := ?va9) rfl (by kernel_rfl) (by kernel_rfl) (by kernel_rfl) (fun _ _ _ h => h) (Or.inl ⟨by rfl, ?ra9⟩) (by assumption) ?_
  case ra9 => (intro w hSw; (try dsimp only at hSw); (go_simp <;> with_reducible rfl))
  try simp only [Act.put, List.setIfInBounds_toArray, List.set_cons_zero, List.set_cons_succ]
  refine wpAnyH_take (i := 9) (oi := { dst := some 17, op := Go.Op.binOp Go.BinOp.add 3 (Go.Operand.tmp 15) (Go.Operand.tmp 16) 3, type := 3, pos := "twin.go:107", after := #[{ on := 7, ground := Go.Ground.data }, { on := 8, ground := Go.Ground.data }], guard := none }) (v := (.int .i64 (k : Int))) rfl (by kernel_rfl) (by kernel_rfl) (by kernel_rfl) (fun _ _ _ h => h) (Or.inl ⟨by rfl, ?ra10⟩) (by assumption) ?_
  case ra10 => (intro w hSw; (try dsimp only at hSw); go_simp; all_goals first | exact xk | (rw [x1, xk]; done) | (rw [xk]; done))
  try simp only [Act.put, List.setIfInBounds_toArray, List.set_cons_zero, List.set_cons_succ]
  refine wpAnyH_take (i := 10) (oi := { dst := some 18, op := Go.Op.load 106 (Go.Operand.tmp 5), type := 106, pos := "twin.go:107", after := #[], guard := none }) (v := ?va11) rfl (by kernel_rfl) (by kernel_rfl) (by kernel_rfl) (fun _ _ _ h => h) (Or.inl ⟨by rfl, ?ra11⟩) (by assumption) ?_
  case ra11 => (intro w hSw; (try dsimp only at hSw); (go_simp <;> with_reducible rfl))
  try simp only [Act.put, List.setIfInBounds_toArray, List.set_cons_zero, List.set_cons_succ]
  refine wpAnyH_ready (rs := [11]) (by kernel_rfl) (by simp) ?_
  refine AllReadyH.cons (o := { dst := some 19, op := Go.Op.call { callee := Go.Callee.value (Go.Operand.func 81), args := #[Go.Operand.tmp 18], argTypes := #[106] }, type := 9, pos := "twin.go:107", after := #[{ on := 10, ground := Go.Ground.data }], guard := none }) rfl (fun K hK => ?_) AllReadyH.nil
  go_simp
  (go_at_call 81; refine (BY.out _).mono ?_; rintro e w9 ⟨rfl, hgN⟩; have HDB := Lib.hid ((HDN.out.gr (Gr.refl _).drew).gr hgN); have hsN := Sole.of_gr (p := d) hgN)
  first | refine hK.out _ _ ?sa12 (fun h12 => ?_) | (go_wp2_with fail; refine hK.out _ _ ?sa12 (fun h12 => ?_))
  case sa12 => ((try dsimp only); exact HX.out _ _ hsN h0)
  clear hK K h0
  try simp only [Act.put, List.setIfInBounds_toArray, List.set_cons_zero, List.set_cons_succ]
  refine wpAnyH_ready (rs := [12]) (by kernel_rfl) (by simp) ?_
  refine AllReadyH.cons (o := { dst := some 20, op := Go.Op.call { callee := Go.Callee.value (Go.Operand.func 26), args := #[Go.Operand.tmp 11, Go.Operand.tmp 17, Go.Operand.tmp 19], argTypes := #[24, 3, 9] }, type := 36, pos := "twin.go:107", after := #[{ on := 3, ground := Go.Ground.data }, { on := 9, ground := Go.Ground.data }, { on := 11, ground := Go.Ground.data }, { on := 11, ground := Go.Ground.chain }], guard := none }) rfl (fun K hK => ?_) AllReadyH.nil
  go_simp
  (go_at_call 26; refine (PT.out _ HDB.out).mono ?_; rintro e w9 ⟨rfl, hdN, hsN⟩; have HDP := Lib.hid hdN; clear hdN)
  first | refine hK.out _ _ ?sa13 (fun h13 => ?_) | (go_wp2_with fail; refine hK.out _ _ ?sa13 (fun h13 => ?_))
  case sa13 => ((try dsimp only); exact HX.out _ _ hsN h12)
  clear hK K h12
  try simp only [Act.put, List.setIfInBounds_toArray, List.set_cons_zero, List.set_cons_succ]
  refine wpAnyH_take (i := 13) (oi := { dst := some 7, op := Go.Op.assign (Go.Operand.tmp 20), type := 36, pos := "twin.go:107", after := #[{ on := 12, ground := Go.Ground.data }, { on := 12, ground := Go.Ground.chain }, { on := 0, ground := Go.Ground.phase }, { on := 1, ground := Go.Ground.phase }, { on := 2, ground := Go.Ground.phase }, { on := 3, ground := Go.Ground.phase }, { on := 4, ground := Go.Ground.phase }, { on := 5, ground := Go.Ground.phase }, { on := 6, ground := Go.Ground.phase }, { on := 7, ground := Go.Ground.phase }, { on := 8, ground := Go.Ground.phase }, { on := 9, ground := Go.Ground.phase }, { on := 10, ground := Go.Ground.phase }, { on := 11, ground := Go.Ground.phase }, { on := 12, ground := Go.Ground.phase }], guard := none }) (v := ?va14) rfl (by kernel_rfl) (by kernel_rfl) (by kernel_rfl) (fun _ _ _ h => h) (Or.inl ⟨by rfl, ?ra14⟩) (by assumption) ?_
  case ra14 => (intro w hSw; (try dsimp only at hSw); (go_simp <;> with_reducible rfl))
  try simp only [Act.put, List.setIfInBounds_toArray, List.set_cons_zero, List.set_cons_succ]
  refine wpAnyH_done (by kernel_rfl) ?_ _
  have HSW := Lib.hid ((Sole.of_gr (p := d) HGZ.out).trans (h13).1.out)
  have k0 := (h13).2.1
  have k1 := (h13).2.2.1
  clear h13 HS0 HX PT BY
  by_cases hq0 : q = 0
  · subst hq0
    have SY := Lib.hid (fun w (h : DkIs w d D1) => sync_any11 (k : Int) w h)
    have HE := Lib.hid (cput_yes HQ.out)
    rename_i w3
    go_wp2
    go_region_with (go_at_call 17; go_loud (refine (SY.out _ (by first | exact HDP.out | exact HDP.out.gr (Gr.refl _).drew)).mono ?_; rintro e w5 ⟨rfl, hd5, hs5⟩))
    all_goals
      have HD5 := Lib.hid hd5
      have HS5 := Lib.hid hs5
      clear hd5 hs5 k0 k1 x1 xk
      go_wp2
      go_ret
      exact ⟨by rw [HE.out]; try rfl, by rw [HE.out]; exact HD5.out, by first | exact HSW.out.trans HS5.out | exact (HSW.out.trans (Sole.of_gr (Gr.refl _).drew)).trans HS5.out⟩
  · have t0 : ((q : Int) != 0) = true := by simp [hq0]
    have HE := Lib.hid (cput_no HQ.out hq0)
    clear hq0
    go_wp2
    go_ret
    exact ⟨by rw [HE.out]; try rfl, by rw [HE.out]; exact HDP.out, HSW.out⟩
end Go.Proofs.Ytfcfbecfamemlaa
