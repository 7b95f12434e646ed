import Derived.Test.YtmgpnpmdmelnkaaGreatDoorF22d
import Derived.Test.YtmgpnpmdmelnkaaGreatDoorF05h
import Derived.Test.YtmgpnpmdmelnkaaGreatDoorF05j
import Derived.Test.YtmgpnpmdmelnkaaGreatDoorF05i
import Derived.Test.YtmgpnpmdmelnkaaGreatDoorC17
import Derived.WalkKit
import Derived.ProofKit
import Derived.LoopTactic
import Derived.Outline
import Derived.WalkSpells
import Derived.WalkLawsBesides
import Derived.Lib.Hide
import Derived.Deep.LoopGhost
import Derived.Deep.QuietTactic
import Derived.BigQuiet
import Derived.ShutString
import Derived.Deep.RegionWith
import Derived.Deep.RegionHeld3
namespace Go.Proofs.YtmgpnpmdmelnkaaGreatDoor
open Go.ChangeShapes Go.WideShapes Go.ChangeAt Go.RowKit
set_option linter.unusedVariables false
set_option linter.unusedSimpArgs false
def cmpI (a b : Int) : Int := if a < b then -1 else if b < a then 1 else 0
theorem isNaNI_any (a : Int) (w : World) : Calls Tryz.prog 90 #[.int .i64 a] w fun e w' => e = .returned (.bool false) ∧ w = w' := by
  go_enter Tryz.func90, Tryz.ntmps90
  go_wp2
  go_ret
  exact ⟨by simp, rfl⟩
set_option maxRecDepth 100000 in
theorem cmpI_any (a b : Int) (w : World) : Calls Tryz.prog 77 #[.int .i64 a, .int .i64 b] w fun e w' => e = .returned (.int .i64 (cmpI a b)) ∧ w = w' := by
  by_cases h1 : a < b
  · have hr : cmpI a b = -1 := by unfold cmpI; rw [if_pos h1]
    rw [hr]
    go_enter Tryz.func77, Tryz.ntmps77
    go_wp2_with fail
    refine (isNaNI_any _ _).mono ?_
    rintro e w2 ⟨rfl, rfl⟩
    go_wp2_with fail
    refine (isNaNI_any _ _).mono ?_
    rintro e w2 ⟨rfl, rfl⟩
    go_wp2
    go_ret
    exact ⟨rfl, rfl⟩
  · by_cases h2 : b < a
    · have hr : cmpI a b = 1 := by unfold cmpI; rw [if_neg h1, if_pos h2]
      rw [hr]
      go_enter Tryz.func77, Tryz.ntmps77
      go_wp2_with fail
      refine (isNaNI_any _ _).mono ?_
      rintro e w2 ⟨rfl, rfl⟩
      go_wp2_with fail
      refine (isNaNI_any _ _).mono ?_
      rintro e w2 ⟨rfl, rfl⟩
      go_wp2
      go_ret
      exact ⟨rfl, rfl⟩
    · have hr : cmpI a b = 0 := by unfold cmpI; rw [if_neg h1, if_neg h2]
      rw [hr]
      go_enter Tryz.func77, Tryz.ntmps77
      go_wp2_with fail
      refine (isNaNI_any _ _).mono ?_
      rintro e w2 ⟨rfl, rfl⟩
      go_wp2_with fail
      refine (isNaNI_any _ _).mono ?_
      rintro e w2 ⟨rfl, rfl⟩
      go_wp2
      go_ret
      exact ⟨rfl, rfl⟩
set_option maxRecDepth 100000 in
set_option maxHeartbeats 1000000 in
theorem or2_any (a b : Int) (p : Nat) (w : World) (h : Blk w p #[.int .i64 a, .int .i64 b] 3) : Calls Tryz.prog 76 #[.slice (some ⟨p, 0, none⟩) 2 2] w fun e w' => e = .returned (.int .i64 (if a ≠ 0 then a else b)) ∧ w = w' := by
  have c0 := h.cell (i := 0) rfl
  have c1 := h.cell (i := 1) rfl
  clear h
  go_enter Tryz.func76, Tryz.ntmps76
  go_wp2
  go_loopw [8] (fun i wr => ∃ k : Nat, k ≤ 2 ∧ i = .int .i64 k ∧ (1 ≤ k → a = 0) ∧ (2 ≤ k → b = 0) ∧ w = wr) (fun i _ => 2 - (intOf i).toNat)
  case atStart => exact ⟨0, by omega, rfl, by omega, by omega, rfl⟩
  case round =>
    obtain ⟨k, hk, rfl, ha, hb, rfl⟩ := hrel
    by_cases h0 : k = 0
    · subst h0
      by_cases hz : a = 0
      · subst hz
        go_wp2
        go_roundw
        case rel => exact ⟨1, by omega, by go_num, by simp, by omega, by simp⟩
        case measure => simp [intOf]
      · go_wp2
        go_ret
        exact ⟨rfl, rfl⟩
    · by_cases h1 : k = 1
      · subst h1
        have hz := ha (by omega)
        subst hz
        by_cases hz : b = 0
        · subst hz
          go_wp2
          go_roundw
          case rel => exact ⟨2, by omega, by go_num, by simp, by simp, by simp⟩
          case measure => simp [intOf]
        · go_wp2
          go_ret
          exact ⟨rfl, rfl⟩
      · have h2 : k = 2 := by omega
        subst h2
        have hz := ha (by omega)
        have hz2 := hb (by omega)
        subst hz hz2
        go_wp2
        go_ret
        exact ⟨rfl, rfl⟩
/-- A text that is a path's, and its parts. -/
def IsPath (t : ByteArray) : Prop := ∃ l, okParts l = true ∧ t = ptext l
open Classical in
noncomputable def pof (t : ByteArray) : List ByteArray := if h : IsPath t then Classical.choose h else []
theorem pof_ok {t : ByteArray} (h : IsPath t) : okParts (pof t) = true ∧ ptext (pof t) = t := by
  unfold pof
  rw [dif_pos h]
  exact ⟨(Classical.choose_spec h).1, (Classical.choose_spec h).2.symm⟩
def lineP (l m : List ByteArray) : Bool := overP l m || overP m l
def sameB (x y : Lok) : Bool := decide (x.ses = y.ses) && decide (x.txt = y.txt)
noncomputable def cflB (x y : Lok) : Bool := decide (x.ses ≠ y.ses) && (x.ex || y.ex) && lineP (pof x.txt) (pof y.txt)
noncomputable def cmpK (x y : Lok) : Int := if cmpP (pof x.txt) (pof y.txt) ≠ 0 then cmpP (pof x.txt) (pof y.txt) else cmpI x.ses y.ses
set_option maxRecDepth 100000 in
theorem lsame_any (x y : Lok) (w : World) : Calls Tryz.prog 33 #[.agg #[.int .i64 x.ses, .string x.txt, .bool x.ex, .int .u64 x.tok], .agg #[.int .i64 y.ses, .string y.txt, .bool y.ex, .int .u64 y.tok]] w fun e w' => e = .returned (.bool (sameB x y)) ∧ Gr w w' := by
  have HG := Lib.hid (((Gr.refl w).alloc (.cells #[.int .i64 x.ses, .string x.txt, .bool x.ex, .int .u64 x.tok] 42)).alloc (.cells #[.int .i64 y.ses, .string y.txt, .bool y.ex, .int .u64 y.tok] 42))
  have BX := Lib.hid ((Blk.new w #[.int .i64 x.ses, .string x.txt, .bool x.ex, .int .u64 x.tok] 42).gr ((Gr.refl _).alloc (.cells #[.int .i64 y.ses, .string y.txt, .bool y.ex, .int .u64 y.tok] 42)))
  have BY := Lib.hid (Blk.new (w.alloc (.cells #[.int .i64 x.ses, .string x.txt, .bool x.ex, .int .u64 x.tok] 42)) #[.int .i64 y.ses, .string y.txt, .bool y.ex, .int .u64 y.tok] 42)
  have hsz : (w.alloc (.cells #[.int .i64 x.ses, .string x.txt, .bool x.ex, .int .u64 x.tok] 42)).heap.size = w.heap.size + 1 := by simp
  rw [hsz] at BY
  clear hsz
  obtain ⟨xs, xt, xe, xk⟩ := x
  obtain ⟨ys, yt, ye, yk⟩ := y
  unfold sameB
  simp only at HG ⊢
  by_cases h1 : xs = ys
  · subst h1
    by_cases h2 : xt = yt
    · subst h2
      go_enter Tryz.func33, Tryz.ntmps33
      go_wp2
      go_ret
      exact ⟨by simp, HG.out⟩
    · have e2 : (xt.toList == yt.toList) = false := by
        rw [str_ne]; exact decide_eq_false h2
      have HD := Lib.hid (decide_eq_false h2)
      clear h2
      go_enter Tryz.func33, Tryz.ntmps33
      go_wp2
      go_ret
      exact ⟨by rw [HD.out]; simp, HG.out⟩
  · have e1 : (xs == ys) = false := by simpa using h1
    have HD := Lib.hid (decide_eq_false h1)
    clear h1
    go_enter Tryz.func33, Tryz.ntmps33
    go_wp2
    go_ret
    exact ⟨by rw [HD.out]; simp, HG.out⟩
set_option maxRecDepth 100000 in
theorem ltoken_any (x y : Lok) (w : World) : Calls Tryz.prog 58 #[.agg #[.int .i64 x.ses, .string x.txt, .bool x.ex, .int .u64 x.tok], .agg #[.int .i64 y.ses, .string y.txt, .bool y.ex, .int .u64 y.tok]] w fun e w' => e = .returned (.bool (x.tok == y.tok)) ∧ Gr w w' := by
  have HG := Lib.hid (((Gr.refl w).alloc (.cells #[.int .i64 x.ses, .string x.txt, .bool x.ex, .int .u64 x.tok] 42)).alloc (.cells #[.int .i64 y.ses, .string y.txt, .bool y.ex, .int .u64 y.tok] 42))
  have BX := Lib.hid ((Blk.new w #[.int .i64 x.ses, .string x.txt, .bool x.ex, .int .u64 x.tok] 42).gr ((Gr.refl _).alloc (.cells #[.int .i64 y.ses, .string y.txt, .bool y.ex, .int .u64 y.tok] 42)))
  have BY := Lib.hid (Blk.new (w.alloc (.cells #[.int .i64 x.ses, .string x.txt, .bool x.ex, .int .u64 x.tok] 42)) #[.int .i64 y.ses, .string y.txt, .bool y.ex, .int .u64 y.tok] 42)
  have hsz : (w.alloc (.cells #[.int .i64 x.ses, .string x.txt, .bool x.ex, .int .u64 x.tok] 42)).heap.size = w.heap.size + 1 := by simp
  rw [hsz] at BY
  clear hsz
  obtain ⟨xs, xt, xe, xk⟩ := x
  obtain ⟨ys, yt, ye, yk⟩ := y
  simp only at HG ⊢
  go_enter Tryz.func58, Tryz.ntmps58
  go_wp2
  go_ret
  exact ⟨by simp, HG.out⟩
set_option maxRecDepth 100000 in
theorem ldrop_any (x : Lok) (s : Int) (p : Nat) (w : World) (h : w.cell? ⟨p, 0, none⟩ = some (.int .i64 s)) : Calls Tryz.prog 41 #[.agg #[.int .i64 x.ses, .string x.txt, .bool x.ex, .int .u64 x.tok], .pointer (some ⟨p, 0, none⟩)] w fun e w' => e = .returned (.bool (x.ses == s)) ∧ Gr w w' := by
  have h2 := ((Gr.refl w).alloc (.cells #[.int .i64 x.ses, .string x.txt, .bool x.ex, .int .u64 x.tok] 42)).cell h
  have HG := Lib.hid ((Gr.refl w).alloc (.cells #[.int .i64 x.ses, .string x.txt, .bool x.ex, .int .u64 x.tok] 42))
  obtain ⟨xs, xt, xe, xk⟩ := x
  simp only at HG h2 ⊢
  go_enter Tryz.func41, Tryz.ntmps41
  go_wp2
  go_ret
  exact ⟨by simp, HG.out⟩
set_option maxRecDepth 100000 in
set_option maxHeartbeats 1000000 in
theorem lconf_any (x y : Lok) (w : World) (hx : IsPath x.txt) (hy : IsPath y.txt) : Calls Tryz.prog 59 #[.agg #[.int .i64 x.ses, .string x.txt, .bool x.ex, .int .u64 x.tok], .agg #[.int .i64 y.ses, .string y.txt, .bool y.ex, .int .u64 y.tok]] w fun e w' => e = .returned (.bool (cflB x y)) ∧ Gr w w' := by
  have HG := Lib.hid (((Gr.refl w).alloc (.cells #[.int .i64 x.ses, .string x.txt, .bool x.ex, .int .u64 x.tok] 42)).alloc (.cells #[.int .i64 y.ses, .string y.txt, .bool y.ex, .int .u64 y.tok] 42))
  have BX := Lib.hid ((Blk.new w #[.int .i64 x.ses, .string x.txt, .bool x.ex, .int .u64 x.tok] 42).gr ((Gr.refl _).alloc (.cells #[.int .i64 y.ses, .string y.txt, .bool y.ex, .int .u64 y.tok] 42)))
  have BY := Lib.hid (Blk.new (w.alloc (.cells #[.int .i64 x.ses, .string x.txt, .bool x.ex, .int .u64 x.tok] 42)) #[.int .i64 y.ses, .string y.txt, .bool y.ex, .int .u64 y.tok] 42)
  have hsz : (w.alloc (.cells #[.int .i64 x.ses, .string x.txt, .bool x.ex, .int .u64 x.tok] 42)).heap.size = w.heap.size + 1 := by simp
  rw [hsz] at BY
  clear hsz
  have px := pof_ok hx
  have py := pof_ok hy
  have HI := Lib.hid (fun w => inLine_any (pof x.txt) (pof y.txt) w px.1 py.1)
  rw [px.2, py.2] at HI
  have HE : Hid (cflB x y = (decide (x.ses ≠ y.ses) && (x.ex || y.ex) && (overP (pof x.txt) (pof y.txt) || overP (pof y.txt) (pof x.txt)))) := Lib.hid rfl
  generalize cflB x y = r at *
  generalize (overP (pof x.txt) (pof y.txt) || overP (pof y.txt) (pof x.txt)) = ov at *
  clear px py hx hy
  obtain ⟨xs, xt, xe, xk⟩ := x
  obtain ⟨ys, yt, ye, yk⟩ := y
  simp only at HG HI HE ⊢
  by_cases h1 : xs = ys
  · subst h1
    have HR : Hid (r = false) := Lib.hid (by rw [HE.out]; simp)
    rw [HR.out]
    clear HE
    go_enter Tryz.func59, Tryz.ntmps59
    go_wp2
    go_ret
    exact ⟨by simp, HG.out⟩
  · have e1 : (xs != ys) = true := by simpa using h1
    rw [decide_eq_true h1] at HE
    clear h1
    cases xe
    · cases ye
      · have HR : Hid (r = false) := Lib.hid (by rw [HE.out]; rfl)
        rw [HR.out]
        clear HE
        go_enter Tryz.func59, Tryz.ntmps59
        go_wp2
        go_ret
        exact ⟨rfl, HG.out⟩
      · have HR : Hid (r = ov) := Lib.hid (by rw [HE.out]; simp)
        rw [HR.out]
        clear HE
        go_enter Tryz.func59, Tryz.ntmps59
        go_wp2_with fail
        refine (HI.out _).mono ?_
        rintro e w2 ⟨rfl, hg⟩
        have HG2 := Lib.hid (HG.out.trans hg)
        clear hg
        go_wp2
        go_ret
        exact ⟨rfl, HG2.out⟩
    · have HR : Hid (r = ov) := Lib.hid (by rw [HE.out]; simp)
      rw [HR.out]
      clear HE
      go_enter Tryz.func59, Tryz.ntmps59
      go_wp2_with fail
      refine (HI.out _).mono ?_
      rintro e w2 ⟨rfl, hg⟩
      have HG2 := Lib.hid (HG.out.trans hg)
      clear hg
      go_wp2
      go_ret
      exact ⟨rfl, HG2.out⟩
set_option maxRecDepth 100000 in
set_option maxHeartbeats 1000000 in
theorem lcmp_any (x y : Lok) (w : World) (hx : IsPath x.txt) (hy : IsPath y.txt) (hM : ML w) : Calls Tryz.prog 55 #[.agg #[.int .i64 x.ses, .string x.txt, .bool x.ex, .int .u64 x.tok], .agg #[.int .i64 y.ses, .string y.txt, .bool y.ex, .int .u64 y.tok]] w fun e w' => e = .returned (.int .i64 (cmpK x y)) ∧ Gr w w' := by
  have HG := Lib.hid (((Gr.refl w).alloc (.cells #[.int .i64 x.ses, .string x.txt, .bool x.ex, .int .u64 x.tok] 42)).alloc (.cells #[.int .i64 y.ses, .string y.txt, .bool y.ex, .int .u64 y.tok] 42))
  have BX := Lib.hid ((Blk.new w #[.int .i64 x.ses, .string x.txt, .bool x.ex, .int .u64 x.tok] 42).gr ((Gr.refl _).alloc (.cells #[.int .i64 y.ses, .string y.txt, .bool y.ex, .int .u64 y.tok] 42)))
  have BY := Lib.hid (Blk.new (w.alloc (.cells #[.int .i64 x.ses, .string x.txt, .bool x.ex, .int .u64 x.tok] 42)) #[.int .i64 y.ses, .string y.txt, .bool y.ex, .int .u64 y.tok] 42)
  have hsz : (w.alloc (.cells #[.int .i64 x.ses, .string x.txt, .bool x.ex, .int .u64 x.tok] 42)).heap.size = w.heap.size + 1 := by simp
  rw [hsz] at BY
  clear hsz
  have px := pof_ok hx
  have py := pof_ok hy
  have HI := Lib.hid (fun w hm => compare_any (pof x.txt) (pof y.txt) w px.1 py.1 hm)
  rw [px.2, py.2] at HI
  have HM := Lib.hid (hM.gr HG.out)
  unfold cmpK
  generalize cmpP (pof x.txt) (pof y.txt) = cp at *
  clear px py hx hy hM
  obtain ⟨xs, xt, xe, xk⟩ := x
  obtain ⟨ys, yt, ye, yk⟩ := y
  simp only at HG HI HM BX BY ⊢
  have OC := Lib.hid fun p w h => or2_any cp (cmpI xs ys) p w h
  generalize (if cp ≠ 0 then cp else cmpI xs ys) = r at *
  go_enter Tryz.func55, Tryz.ntmps55
  go_wp2_with fail
  generalize (w.alloc (.cells #[.int .i64 xs, .string xt, .bool xe, .int .u64 xk] 42)).alloc (.cells #[.int .i64 ys, .string yt, .bool ye, .int .u64 yk] 42) = w2 at *
  have HX : Hid (∀ w0 w9 : World, Gr w0 w9 → (fun w9 => Gr w2 w9 ∧ w9.cell? ⟨w.heap.size, 0, none⟩ = some (.int .i64 xs) ∧ w9.cell? ⟨w.heap.size, 1, none⟩ = some (.string xt) ∧ w9.cell? ⟨w.heap.size + 1, 0, none⟩ = some (.int .i64 ys) ∧ w9.cell? ⟨w.heap.size + 1, 1, none⟩ = some (.string yt)) w0 → (fun w9 => Gr w2 w9 ∧ w9.cell? ⟨w.heap.size, 0, none⟩ = some (.int .i64 xs) ∧ w9.cell? ⟨w.heap.size, 1, none⟩ = some (.string xt) ∧ w9.cell? ⟨w.heap.size + 1, 0, none⟩ = some (.int .i64 ys) ∧ w9.cell? ⟨w.heap.size + 1, 1, none⟩ = some (.string yt)) w9) := Lib.hid fun w0 w9 hg ⟨h, q0, q1, q2, q3⟩ => ⟨h.trans hg, hg.cell q0, hg.cell q1, hg.cell q2, hg.cell q3⟩
  refine wp_region_held_drew (S := (fun w9 => Gr w2 w9 ∧ w9.cell? ⟨w.heap.size, 0, none⟩ = some (.int .i64 xs) ∧ w9.cell? ⟨w.heap.size, 1, none⟩ = some (.string xt) ∧ w9.cell? ⟨w.heap.size + 1, 0, none⟩ = some (.int .i64 ys) ∧ w9.cell? ⟨w.heap.size + 1, 1, none⟩ = some (.string yt))) (by kernel_rfl) ?inva (fun h0 => ?_)
  case inva => ((try dsimp only); (exact HX.out _ _ ((Gr.refl _).drew) ⟨Gr.refl _, BX.out.cell (i := 0) rfl, BX.out.cell (i := 1) rfl, BY.out.cell (i := 0) rfl, BY.out.cell (i := 1) rfl⟩))
  refine wpAnyH_take (i := 0) (oi := { dst := some 5, op := Go.Op.fieldAddr 42 (Go.Operand.tmp 2) 1, type := 0, pos := "lock.go:19", after := #[], guard := none }) (v := ?va1) rfl (by kernel_rfl) (by kernel_rfl) (by kernel_rfl) (fun _ _ _ h => h) (Or.inl ⟨by rfl, ?ra1⟩) (by assumption) ?_
  case ra1 => (intro w hSw; (try dsimp only at hSw); (go_simp <;> with_reducible rfl))
  try simp only [Act.put, List.setIfInBounds_toArray, List.set_cons_zero, List.set_cons_succ]
  refine wpAnyH_take (i := 1) (oi := { dst := some 6, op := Go.Op.load 40 (Go.Operand.tmp 5), type := 40, pos := "lock.go:19", after := #[⟨0, .data⟩], guard := none }) (v := ?va2) rfl (by kernel_rfl) (by kernel_rfl) (by kernel_rfl) (fun _ _ _ h => h) (Or.inl ⟨by rfl, ?ra2⟩) (by assumption) ?_
  case ra2 => (intro w hSw; (try dsimp only at hSw); (go_simp <;> with_reducible rfl))
  try simp only [Act.put, List.setIfInBounds_toArray, List.set_cons_zero, List.set_cons_succ]
  refine wpAnyH_take (i := 2) (oi := { dst := some 7, op := Go.Op.fieldAddr 42 (Go.Operand.tmp 3) 1, type := 0, pos := "lock.go:19", after := #[], guard := none }) (v := ?va3) rfl (by kernel_rfl) (by kernel_rfl) (by kernel_rfl) (fun _ _ _ h => h) (Or.inl ⟨by rfl, ?ra3⟩) (by assumption) ?_
  case ra3 => (intro w hSw; (try dsimp only at hSw); (go_simp <;> with_reducible rfl))
  try simp only [Act.put, List.setIfInBounds_toArray, List.set_cons_zero, List.set_cons_succ]
  refine wpAnyH_take (i := 3) (oi := { dst := some 8, op := Go.Op.load 40 (Go.Operand.tmp 7), type := 40, pos := "lock.go:19", after := #[⟨2, .data⟩], guard := none }) (v := ?va4) rfl (by kernel_rfl) (by kernel_rfl) (by kernel_rfl) (fun _ _ _ h => h) (Or.inl ⟨by rfl, ?ra4⟩) (by assumption) ?_
  case ra4 => (intro w hSw; (try dsimp only at hSw); (go_simp <;> with_reducible rfl))
  try simp only [Act.put, List.setIfInBounds_toArray, List.set_cons_zero, List.set_cons_succ]
  refine wpAnyH_take (i := 5) (oi := { dst := some 10, op := Go.Op.fieldAddr 42 (Go.Operand.tmp 2) 0, type := 0, pos := "lock.go:19", after := #[], guard := none }) (v := ?va5) rfl (by kernel_rfl) (by kernel_rfl) (by kernel_rfl) (fun _ _ _ h => h) (Or.inl ⟨by rfl, ?ra5⟩) (by assumption) ?_
  case ra5 => (intro w hSw; (try dsimp only at hSw); (go_simp <;> with_reducible rfl))
  try simp only [Act.put, List.setIfInBounds_toArray, List.set_cons_zero, List.set_cons_succ]
  refine wpAnyH_take (i := 6) (oi := { dst := some 11, op := Go.Op.load 3 (Go.Operand.tmp 10), type := 3, pos := "lock.go:19", after := #[⟨5, .data⟩], guard := none }) (v := ?va6) rfl (by kernel_rfl) (by kernel_rfl) (by kernel_rfl) (fun _ _ _ h => h) (Or.inl ⟨by rfl, ?ra6⟩) (by assumption) ?_
  case ra6 => (intro w hSw; (try dsimp only at hSw); (go_simp <;> with_reducible rfl))
  try simp only [Act.put, List.setIfInBounds_toArray, List.set_cons_zero, List.set_cons_succ]
  refine wpAnyH_take (i := 7) (oi := { dst := some 12, op := Go.Op.fieldAddr 42 (Go.Operand.tmp 3) 0, type := 0, pos := "lock.go:19", after := #[], guard := none }) (v := ?va7) rfl (by kernel_rfl) (by kernel_rfl) (by kernel_rfl) (fun _ _ _ h => h) (Or.inl ⟨by rfl, ?ra7⟩) (by assumption) ?_
  case ra7 => (intro w hSw; (try dsimp only at hSw); (go_simp <;> with_reducible rfl))
  try simp only [Act.put, List.setIfInBounds_toArray, List.set_cons_zero, List.set_cons_succ]
  refine wpAnyH_take (i := 8) (oi := { dst := some 13, op := Go.Op.load 3 (Go.Operand.tmp 12), type := 3, pos := "lock.go:19", after := #[⟨7, .data⟩], guard := none }) (v := ?va8) rfl (by kernel_rfl) (by kernel_rfl) (by kernel_rfl) (fun _ _ _ h => h) (Or.inl ⟨by rfl, ?ra8⟩) (by assumption) ?_
  case ra8 => (intro w hSw; (try dsimp only at hSw); (go_simp <;> with_reducible rfl))
  try simp only [Act.put, List.setIfInBounds_toArray, List.set_cons_zero, List.set_cons_succ]
  refine wpAnyH_ready (rs := [4]) (by kernel_rfl) (by simp) ?_
  refine AllReadyH.cons (o := { dst := some 9, op := Go.Op.call { callee := Go.Callee.value (Go.Operand.func 29), args := #[Go.Operand.tmp 6, Go.Operand.tmp 8], argTypes := #[40, 40] }, type := 3, pos := "lock.go:19", after := #[⟨1, .data⟩, ⟨3, .data⟩], guard := none }) rfl (fun K hK => ?_) AllReadyH.nil
  go_simp
  go_at_call 29
  refine (HI.out _ (HM.out.gr h0.1)).mono ?_
  rintro e w9 ⟨rfl, hgN⟩
  first | refine hK.out _ _ ?sa9 (fun h9 => ?_) | (go_wp2_with fail; refine hK.out _ _ ?sa9 (fun h9 => ?_))
  case sa9 => ((try dsimp only); (exact HX.out _ _ hgN h0))
  clear hK K h0
  try simp only [Act.put, List.setIfInBounds_toArray, List.set_cons_zero, List.set_cons_succ]
  refine wpAnyH_ready (rs := [9]) (by kernel_rfl) (by simp) ?_
  refine AllReadyH.cons (o := { dst := some 14, op := Go.Op.call { callee := Go.Callee.value (Go.Operand.func 77), args := #[Go.Operand.tmp 11, Go.Operand.tmp 13], argTypes := #[3, 3] }, type := 3, pos := "lock.go:19", after := #[⟨6, .data⟩, ⟨8, .data⟩, ⟨4, .chain⟩], guard := none }) rfl (fun K hK => ?_) AllReadyH.nil
  go_simp
  go_at_call 77
  refine (cmpI_any _ _ _).mono ?_
  rintro e w9 ⟨rfl, rfl⟩
  first | refine hK.out _ _ ?sa10 (fun h10 => ?_) | (go_wp2_with fail; refine hK.out _ _ ?sa10 (fun h10 => ?_))
  case sa10 => ((try dsimp only); (exact h9))
  clear hK K h9
  try simp only [Act.put, List.setIfInBounds_toArray, List.set_cons_zero, List.set_cons_succ]
  refine wpAnyH_ready (rs := [10]) (by kernel_rfl) (by simp) ?_
  refine AllReadyH.cons (o := { dst := some 15, op := Go.Op.buildSlice 56 2 #[(0, Go.Operand.tmp 9), (1, Go.Operand.tmp 14)], type := 56, pos := "lock.go:19", after := #[⟨4, .data⟩, ⟨9, .data⟩], guard := none }) rfl (fun K hK => ?_) AllReadyH.nil
  go_simp
  skip
  first | refine hK.out _ _ ?sa11 (fun h11 => ?_) | (go_wp2_with fail; refine hK.out _ _ ?sa11 (fun h11 => ?_))
  case sa11 => ((try dsimp only); (exact HX.out _ _ ((Gr.refl _).alloc _) h10))
  clear hK K h10
  try simp only [Act.put, List.setIfInBounds_toArray, List.set_cons_zero, List.set_cons_succ]
  refine wpAnyH_ready (rs := [11]) (by kernel_rfl) (by simp) ?_
  refine AllReadyH.cons (o := { dst := some 16, op := Go.Op.call { callee := Go.Callee.value (Go.Operand.func 76), args := #[Go.Operand.tmp 15], argTypes := #[56] }, type := 3, pos := "lock.go:19", after := #[⟨10, .data⟩, ⟨9, .chain⟩], guard := none }) rfl (fun K hK => ?_) AllReadyH.nil
  go_simp
  go_at_call 76
  refine (OC.out _ _ (Blk.new _ _ _)).mono ?_
  rintro e w9 ⟨rfl, rfl⟩
  first | refine hK.out _ _ ?sa12 (fun h12 => ?_) | (go_wp2_with fail; refine hK.out _ _ ?sa12 (fun h12 => ?_))
  case sa12 => ((try dsimp only); (exact h11))
  clear hK K h11
  try simp only [Act.put, List.setIfInBounds_toArray, List.set_cons_zero, List.set_cons_succ]
  refine wpAnyH_take (i := 12) (oi := { dst := some 4, op := Go.Op.assign (Go.Operand.tmp 16), type := 3, pos := "lock.go:19", after := #[⟨11, .data⟩, ⟨11, .chain⟩, ⟨0, .phase⟩, ⟨1, .phase⟩, ⟨2, .phase⟩, ⟨3, .phase⟩, ⟨4, .phase⟩, ⟨5, .phase⟩, ⟨6, .phase⟩, ⟨7, .phase⟩, ⟨8, .phase⟩, ⟨9, .phase⟩, ⟨10, .phase⟩, ⟨11, .phase⟩], guard := none }) (v := ?va13) rfl (by kernel_rfl) (by kernel_rfl) (by kernel_rfl) (fun _ _ _ h => h) (Or.inl ⟨by rfl, ?ra13⟩) (by assumption) ?_
  case ra13 => (intro w hSw; (try dsimp only at hSw); (go_simp <;> with_reducible rfl))
  try simp only [Act.put, List.setIfInBounds_toArray, List.set_cons_zero, List.set_cons_succ]
  refine wpAnyH_done (by kernel_rfl) ?_ _
  go_wp2
  go_ret
  exact ⟨rfl, HG.out.trans h12.1⟩
end Go.Proofs.YtmgpnpmdmelnkaaGreatDoor
