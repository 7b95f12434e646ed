import Derived.Test.YtnanclgnjchpeaaF16u
import Derived.Test.YtnanclgnjchpeaaF16v
import Derived.WalkKit
import Derived.ProofKit
import Derived.LoopTactic
import Derived.Outline
import Derived.WalkSpells
import Derived.WalkLawsBesides
import Derived.Lib.Hide
import Derived.Deep.LoopGhost
import Derived.Deep.QuietTactic
import Derived.BigQuiet
import Derived.ShutString
import Derived.IntWalk
import Derived.BigQuiet
import Derived.Deep.MidRow
import Derived.Deep.Onto
import Derived.Deep.RegionWith
import Derived.Deep.RegionHeld3
namespace Go.Proofs.Ytnanclgnjchpeaa
open Go.ChangeShapes Go.WideShapes Go.ChangeAt Go.RowKit
open Bal
set_option linter.unusedVariables false
set_option linter.unusedSimpArgs false
/-- The entries from a slot on. -/
def fromE (L : List E) (x : Int) : List E := L.filter fun e => decide (x ≤ e.slot)
theorem from_cut {L : List E} {x : Int} {i : Nat} (h : Cut16 L x i i) (hi : i ≤ L.length) : fromE L x = L.drop i := by
  unfold fromE
  conv => lhs; rw [← List.take_append_drop i L]
  rw [List.filter_append]
  have h1 : (L.take i).filter (fun e => decide (x ≤ e.slot)) = [] := by
    rw [List.filter_eq_nil_iff]
    intro y hy
    obtain ⟨j, hj, rfl⟩ := List.getElem_of_mem hy
    rw [List.length_take] at hj
    rw [List.getElem_take]
    have := h.lo j (by omega) (by omega)
    simp only [decide_eq_true_eq]
    omega
  have h2 : (L.drop i).filter (fun e => decide (x ≤ e.slot)) = L.drop i := by
    rw [List.filter_eq_self]
    intro y hy
    obtain ⟨j, hj, rfl⟩ := List.getElem_of_mem hy
    rw [List.length_drop] at hj
    rw [List.getElem_drop]
    have := h.hi (i + j) (by omega) (by omega)
    exact decide_eq_true (by omega)
  rw [h1, h2, List.nil_append]
theorem rcells_dropAt {L : List E} {i : Nat} (hi : i ≤ L.length) (j : Nat) : (rcells encE (L.drop i))[j]? = (rcells encE L)[i * 4 + j]? := by
  rw [← rcells_drop encE_len L i hi, List.getElem?_drop]
theorem copied_from {base i : Nat} {v : Value} {L : List E} {w : World} {va : Option Addr} {vc : Nat} (hv : v = .slice va L.length vc) (hr : w.ownsRow base 44 4 v L.length (rcells encE L)) (hi : i ≤ L.length) (hl : L.length ≤ 1000) (ht : ∀ x ∈ L, x.text.size ≤ 1000000) {w2 : World} (hg : Gr w w2) :
    Calls Try.prog 75 #[.slice (if vc = i then va else Option.map (fun x => x.add (i * 4)) va) (L.length - i) (vc - i)] w2 fun e w' => ∃ v', e = .returned v' ∧ w'.ownsRow w2.heap.size 44 4 v' (L.drop i).length (rcells encE (L.drop i)) ∧ Gr w2 w' := by
  have hr2 := ownsRow_gr hg hr
  have htd : ∀ x ∈ L.drop i, x.text.size ≤ 1000000 := fun x hx => ht x (List.mem_of_mem_drop hx)
  have hld : (L.drop i).length = L.length - i := List.length_drop
  rcases hr.2 with ⟨h1, h2⟩ | ⟨g, cap, cur, h1, _, _, hcap, _⟩
  · rw [hv] at h1
    simp only [Value.slice.injEq] at h1
    obtain ⟨rfl, _, rfl⟩ := h1
    obtain rfl := List.length_eq_zero_iff.1 h2
    obtain rfl : i = 0 := by simpa using hi
    exact copied_any (base := 0) [] w2 (World.ownsRow_nil _ _ _ _) (by simp) (by simp)
  · rw [hv] at h1
    simp only [Value.slice.injEq, Option.some.injEq, true_and] at h1
    obtain ⟨rfl, rfl⟩ := h1
    by_cases hc : vc = i
    · rw [if_pos hc, show L.length - i = 0 by omega, show vc - i = 0 by omega]
      have h0 : L.drop i = [] := List.drop_eq_nil_of_le (by omega)
      rw [h0]
      exact copiedL_any (c0 := 0) [] w2 (fun j u hj => by simp [rcells] at hj) (by simp) (by simp)
    · rw [if_neg hc, Option.map_some, addr_add, Nat.zero_add, ← hld]
      refine copiedL_any (L.drop i) w2 (fun j u hj => ?_) (by omega) htd
      rw [rcells_dropAt hi] at hj
      rw [hv] at hr2
      have := hr2.cells (g := g) rfl _ u hj
      rwa [addr_add, Nat.zero_add] at this
set_option maxRecDepth 100000 in
set_option maxHeartbeats 4000000 in
theorem prepare_bars {base b : Nat} {v : Value} {wit : Bool} {pc pn ba to til : Int} {L : List E} (kd frm tt sub c n slot time : Int) (ok : Bool) (text : ByteArray) (la : Option Addr) (ll lc : Nat) (w : World) (h : Blk w b #[.bool wit, .int .u64 pc, .int .i64 pn, .int .i64 ba, v, .int .i64 to, .int .i64 til] 135) (hr : w.ownsRow base 44 4 v L.length (rcells encE L)) (hl : L.length ≤ 1000) (ha : Asc L) (hb : base ≤ w.heap.size) (now : Int) (hfrm : 0 ≤ frm ∧ frm ≤ 1000000) (htil : 0 ≤ til ∧ til ≤ 4000000000000) (hnow : 0 ≤ now ∧ now ≤ 4000000000000) (hbar : barsA to til frm now = true) :
    Calls Try.prog 73 #[.pointer (some ⟨b, 0, none⟩), .agg #[.int .i64 kd, .int .i64 frm, .int .i64 tt, .int .i64 sub, .int .u64 c, .int .i64 n, .int .i64 slot, .int .i64 time, .bool ok, .string text, .slice la ll lc], .int .i64 now] w fun e w' => e = .returned (.tuple #[.agg #[.int .i64 5, .int .i64 0, .int .i64 0, .int .i64 0, .int .u64 pc, .int .i64 pn, .int .i64 0, .int .i64 (til - now), .bool false, .string ⟨#[]⟩, .slice none 0 0], .bool false]) ∧ Blk w' b #[.bool wit, .int .u64 pc, .int .i64 pn, .int .i64 ba, v, .int .i64 to, .int .i64 til] 135 ∧ w'.ownsRow base 44 4 v L.length (rcells encE L) ∧ Far b v w w' := by
  have HM := Lib.hid ((Blk.new w #[.int .i64 kd, .int .i64 frm, .int .i64 tt, .int .i64 sub, .int .u64 c, .int .i64 n, .int .i64 slot, .int .i64 time, .bool ok, .string text, .slice la ll lc] 97).gr ((Gr.refl _).alloc (.cells #[.int .i64 0, .int .i64 0, .int .i64 0, .int .i64 0, .int .u64 0, .int .i64 0, .int .i64 0, .int .i64 0, .bool false, .string ⟨#[]⟩, .slice none 0 0] 97)))
  have HR := Lib.hid (Blk.new (w.alloc (.cells #[.int .i64 kd, .int .i64 frm, .int .i64 tt, .int .i64 sub, .int .u64 c, .int .i64 n, .int .i64 slot, .int .i64 time, .bool ok, .string text, .slice la ll lc] 97)) #[.int .i64 0, .int .i64 0, .int .i64 0, .int .i64 0, .int .u64 0, .int .i64 0, .int .i64 0, .int .i64 0, .bool false, .string ⟨#[]⟩, .slice none 0 0] 97)
  rw [show (w.alloc (.cells #[.int .i64 kd, .int .i64 frm, .int .i64 tt, .int .i64 sub, .int .u64 c, .int .i64 n, .int .i64 slot, .int .i64 time, .bool ok, .string text, .slice la ll lc] 97)).heap.size = w.heap.size + 1 by simp] at HR
  have HG := Lib.hid (((Gr.refl w).alloc (.cells #[.int .i64 kd, .int .i64 frm, .int .i64 tt, .int .i64 sub, .int .u64 c, .int .i64 n, .int .i64 slot, .int .i64 time, .bool ok, .string text, .slice la ll lc] 97)).alloc (.cells #[.int .i64 0, .int .i64 0, .int .i64 0, .int .i64 0, .int .u64 0, .int .i64 0, .int .i64 0, .int .i64 0, .bool false, .string ⟨#[]⟩, .slice none 0 0] 97))
  have HA := Lib.hid (h.gr HG.out)
  have HO := Lib.hid (ownsRow_gr HG.out hr)
  have HF := Lib.hid (Far.of_gr (b := b) (v := v) HG.out)
  have HV := Lib.hid (From.refl v w)
  have HVB := Lib.hid (show v.ownBlock ≠ some b from row_off h hr (by decide))
  have HVP := Lib.hid (show ∀ k, v.ownBlock = some k → k < w.heap.size from fun k e => (hr.lt _ e).2)
  have hlt := h.lt
  have hbs : Hid (base ≤ ((w.alloc (.cells #[.int .i64 kd, .int .i64 frm, .int .i64 tt, .int .i64 sub, .int .u64 c, .int .i64 n, .int .i64 slot, .int .i64 time, .bool ok, .string text, .slice la ll lc] 97)).alloc (.cells #[.int .i64 0, .int .i64 0, .int .i64 0, .int .i64 0, .int .u64 0, .int .i64 0, .int .i64 0, .int .i64 0, .bool false, .string ⟨#[]⟩, .slice none 0 0] 97)).heap.size) := Lib.hid (Nat.le_trans hb HG.out.size)
  clear h hr HG
  go_enter Try.func73, Try.ntmps73
  go_wp2_with fail
  generalize (w.alloc (.cells #[.int .i64 kd, .int .i64 frm, .int .i64 tt, .int .i64 sub, .int .u64 c, .int .i64 n, .int .i64 slot, .int .i64 time, .bool ok, .string text, .slice la ll lc] 97)).alloc (.cells #[.int .i64 0, .int .i64 0, .int .i64 0, .int .i64 0, .int .u64 0, .int .i64 0, .int .i64 0, .int .i64 0, .bool false, .string ⟨#[]⟩, .slice none 0 0] 97) = wa at *
  have n1 : w.heap.size ≠ b := by omega
  have n2 : w.heap.size + 1 ≠ b := by omega
  have HB := Lib.hid hbar
  have b5 := HA.out.cell (i := 5) rfl
  have b6 := HA.out.cell (i := 6) rfl
  have m1 := HM.out.cell (i := 1) rfl
  refine wp_region_held_drew (S := (fun w9 => Gr wa w9 ∧ w9.cell? ⟨b, 5, none⟩ = some (.int .i64 to) ∧ w9.cell? ⟨b, 6, none⟩ = some (.int .i64 til) ∧ w9.cell? ⟨w.heap.size, 1, none⟩ = some (.int .i64 frm))) (by kernel_rfl) ?inva (fun h0 => ?_)
  case inva => ((try dsimp only); (exact ⟨(by first | exact Gr.refl _ | exact (Gr.refl _).drew), b5, b6, m1⟩))
  refine wpAnyH_take (i := 0) (oi := { dst := some 12, op := Go.Op.move (Go.Operand.tmp 0), type := 66, pos := "accept.go:92", after := #[], guard := none }) (v := ?va1) rfl (by kernel_rfl) (by kernel_rfl) (by kernel_rfl) (fun _ _ _ h => h) (Or.inl ⟨by rfl, ?ra1⟩) (by assumption) ?_
  case ra1 => (intro w hSw; (try dsimp only at hSw); (go_simp <;> with_reducible rfl))
  try simp only [Act.put, List.setIfInBounds_toArray, List.set_cons_zero, List.set_cons_succ]
  refine wpAnyH_take (i := 1) (oi := { dst := some 13, op := Go.Op.nilCheck (Go.Operand.tmp 12), type := 0, pos := "accept.go:92", after := #[{ on := 0, ground := Go.Ground.data }], guard := none }) (v := ?va2) rfl (by kernel_rfl) (by kernel_rfl) (by kernel_rfl) (fun _ _ _ h => h) (Or.inl ⟨by rfl, ?ra2⟩) (by assumption) ?_
  case ra2 => (intro w hSw; (try dsimp only at hSw); (go_simp <;> with_reducible rfl))
  try simp only [Act.put, List.setIfInBounds_toArray, List.set_cons_zero, List.set_cons_succ]
  refine wpAnyH_take (i := 2) (oi := { dst := some 14, op := Go.Op.fieldAddr 135 (Go.Operand.tmp 13) 4, type := 0, pos := "accept.go:92", after := #[{ on := 1, ground := Go.Ground.data }], guard := none }) (v := ?va3) rfl (by kernel_rfl) (by kernel_rfl) (by kernel_rfl) (fun _ _ _ h => h) (Or.inl ⟨by rfl, ?ra3⟩) (by assumption) ?_
  case ra3 => (intro w hSw; (try dsimp only at hSw); (go_simp <;> with_reducible rfl))
  try simp only [Act.put, List.setIfInBounds_toArray, List.set_cons_zero, List.set_cons_succ]
  refine wpAnyH_take (i := 3) (oi := { dst := some 15, op := Go.Op.load 133 (Go.Operand.tmp 14), type := 133, pos := "accept.go:92", after := #[{ on := 2, ground := Go.Ground.data }], guard := none }) (v := ?va4) rfl (by kernel_rfl) (by kernel_rfl) (by kernel_rfl) (fun _ _ _ h => h) (Or.inl ⟨by rfl, ?ra4⟩) (by assumption) ?_
  case ra4 => (intro w hSw; (try dsimp only at hSw); (go_simp <;> with_reducible rfl))
  try simp only [Act.put, List.setIfInBounds_toArray, List.set_cons_zero, List.set_cons_succ]
  refine wpAnyH_take (i := 4) (oi := { dst := some 16, op := Go.Op.fieldAddr 97 (Go.Operand.tmp 4) 1, type := 0, pos := "accept.go:92", after := #[], guard := none }) (v := ?va5) rfl (by kernel_rfl) (by kernel_rfl) (by kernel_rfl) (fun _ _ _ h => h) (Or.inl ⟨by rfl, ?ra5⟩) (by assumption) ?_
  case ra5 => (intro w hSw; (try dsimp only at hSw); (go_simp <;> with_reducible rfl))
  try simp only [Act.put, List.setIfInBounds_toArray, List.set_cons_zero, List.set_cons_succ]
  refine wpAnyH_take (i := 5) (oi := { dst := some 17, op := Go.Op.load 3 (Go.Operand.tmp 16), type := 3, pos := "accept.go:92", after := #[{ on := 4, ground := Go.Ground.data }], guard := none }) (v := ?va6) rfl (by kernel_rfl) (by kernel_rfl) (by kernel_rfl) (fun _ _ _ h => h) (Or.inl ⟨by rfl, ?ra6⟩) (by assumption) ?_
  case ra6 => (intro w hSw; (try dsimp only at hSw); (go_simp <;> with_reducible rfl))
  try simp only [Act.put, List.setIfInBounds_toArray, List.set_cons_zero, List.set_cons_succ]
  refine wpAnyH_take (i := 6) (oi := { dst := some 18, op := Go.Op.move (Go.Operand.tmp 2), type := 3, pos := "accept.go:92", after := #[], guard := none }) (v := ?va7) rfl (by kernel_rfl) (by kernel_rfl) (by kernel_rfl) (fun _ _ _ h => h) (Or.inl ⟨by rfl, ?ra7⟩) (by assumption) ?_
  case ra7 => (intro w hSw; (try dsimp only at hSw); (go_simp <;> with_reducible rfl))
  try simp only [Act.put, List.setIfInBounds_toArray, List.set_cons_zero, List.set_cons_succ]
  refine wpAnyH_ready (rs := [7]) (by kernel_rfl) (by simp) ?_
  refine AllReadyH.cons (o := { dst := some 19, op := Go.Op.call { callee := Go.Callee.value (Go.Operand.func 133), args := #[Go.Operand.tmp 15, Go.Operand.tmp 17, Go.Operand.tmp 18], argTypes := #[133, 3, 3] }, type := 4, pos := "accept.go:92", after := #[{ on := 3, ground := Go.Ground.data }, { on := 5, ground := Go.Ground.data }, { on := 6, ground := Go.Ground.data }], guard := none }) rfl (fun K hK => ?_) AllReadyH.nil
  go_simp
  go_at_call 133
  refine (bars_any to til frm now _ hfrm).mono ?_
  rw [HB.out]
  rintro e w9 ⟨rfl, hg9⟩
  first | refine hK.out _ _ ?sa8 (fun h8 => ?_) | (go_wp2_with fail; refine hK.out _ _ ?sa8 (fun h8 => ?_))
  case sa8 => ((try dsimp only); (exact ⟨h0.1.trans hg9, hg9.cell h0.2.1, hg9.cell h0.2.2.1, hg9.cell h0.2.2.2⟩))
  clear hK K h0
  try simp only [Act.put, List.setIfInBounds_toArray, List.set_cons_zero, List.set_cons_succ]
  refine wpAnyH_take (i := 8) (oi := { dst := some 11, op := Go.Op.assign (Go.Operand.tmp 19), type := 4, pos := "accept.go:92", after := #[{ on := 7, ground := Go.Ground.data }, { on := 7, ground := Go.Ground.chain }], guard := none }) (v := ?va9) rfl (by kernel_rfl) (by kernel_rfl) (by kernel_rfl) (fun _ _ _ h => h) (Or.inl ⟨by rfl, ?ra9⟩) (by assumption) ?_
  case ra9 => (intro w hSw; (try dsimp only at hSw); (go_simp <;> with_reducible rfl))
  try simp only [Act.put, List.setIfInBounds_toArray, List.set_cons_zero, List.set_cons_succ]
  refine wpAnyH_done (by kernel_rfl) ?_ _
  have QG := h8.1
  clear h8 b5 b6 m1 hg9
  have HA1 := Lib.hid (HA.out.gr QG)
  have HM1 := Lib.hid (HM.out.gr QG)
  have HR1 := Lib.hid (HR.out.gr QG)
  have HO1 := Lib.hid (ownsRow_gr QG HO.out)
  have HF1 := Lib.hid (HF.out.trans HV.out (Far.of_gr QG))
  clear HA HM HR HO HF
  clear QG
  go_wp2_with fail
  refine (wait_any now _ HA1.out htil hnow).mono ?_
  rintro e w2 ⟨rfl, hg2⟩
  have HA2 := Lib.hid (HA1.out.gr hg2)
  have HM2 := Lib.hid (HM1.out.gr hg2)
  have HR2 := Lib.hid (HR1.out.gr hg2)
  have HO2 := Lib.hid (ownsRow_gr hg2 HO1.out)
  have HF2 := Lib.hid (HF1.out.trans HV.out (Far.of_gr hg2))
  clear HA1 HM1 HR1 HO1 HF1
  clear hg2
  have HN := Lib.hid (show v.ownBlock ≠ some (w.heap.size + 1) from fun e => by have := HVP.out _ e; omega)
  obtain ⟨HT0, HO0, hat, hgr⟩ := msg_put HR2.out rfl [.int .i64 5, .int .i64 0, .int .i64 0, .int .i64 0, .int .u64 pc, .int .i64 pn, .int .i64 0, .int .i64 (til - now), .bool false, .string ⟨#[]⟩, .slice none 0 0] rfl (by intro u hu; simp only [List.mem_cons, List.not_mem_nil, or_false] at hu; rcases hu with rfl | rfl | rfl | rfl | rfl | rfl | rfl | rfl | rfl | rfl | rfl <;> rfl)
  have z0 : (w2.setCells (w.heap.size + 1) 0 [.int .i64 5, .int .i64 0, .int .i64 0, .int .i64 0, .int .u64 pc, .int .i64 pn, .int .i64 0, .int .i64 (til - now), .bool false, .string ⟨#[]⟩, .slice none 0 0]).cell? ⟨w.heap.size + 1, 0, none⟩ = some (.int .i64 5) := hat 0 (by decide)
  have z1 : (w2.setCells (w.heap.size + 1) 0 [.int .i64 5, .int .i64 0, .int .i64 0, .int .i64 0, .int .u64 pc, .int .i64 pn, .int .i64 0, .int .i64 (til - now), .bool false, .string ⟨#[]⟩, .slice none 0 0]).cell? ⟨w.heap.size + 1, 1, none⟩ = some (.int .i64 0) := hat 1 (by decide)
  have z2 : (w2.setCells (w.heap.size + 1) 0 [.int .i64 5, .int .i64 0, .int .i64 0, .int .i64 0, .int .u64 pc, .int .i64 pn, .int .i64 0, .int .i64 (til - now), .bool false, .string ⟨#[]⟩, .slice none 0 0]).cell? ⟨w.heap.size + 1, 2, none⟩ = some (.int .i64 0) := hat 2 (by decide)
  have z3 : (w2.setCells (w.heap.size + 1) 0 [.int .i64 5, .int .i64 0, .int .i64 0, .int .i64 0, .int .u64 pc, .int .i64 pn, .int .i64 0, .int .i64 (til - now), .bool false, .string ⟨#[]⟩, .slice none 0 0]).cell? ⟨w.heap.size + 1, 3, none⟩ = some (.int .i64 0) := hat 3 (by decide)
  have z4 : (w2.setCells (w.heap.size + 1) 0 [.int .i64 5, .int .i64 0, .int .i64 0, .int .i64 0, .int .u64 pc, .int .i64 pn, .int .i64 0, .int .i64 (til - now), .bool false, .string ⟨#[]⟩, .slice none 0 0]).cell? ⟨w.heap.size + 1, 4, none⟩ = some (.int .u64 pc) := hat 4 (by decide)
  have z5 : (w2.setCells (w.heap.size + 1) 0 [.int .i64 5, .int .i64 0, .int .i64 0, .int .i64 0, .int .u64 pc, .int .i64 pn, .int .i64 0, .int .i64 (til - now), .bool false, .string ⟨#[]⟩, .slice none 0 0]).cell? ⟨w.heap.size + 1, 5, none⟩ = some (.int .i64 pn) := hat 5 (by decide)
  have z6 : (w2.setCells (w.heap.size + 1) 0 [.int .i64 5, .int .i64 0, .int .i64 0, .int .i64 0, .int .u64 pc, .int .i64 pn, .int .i64 0, .int .i64 (til - now), .bool false, .string ⟨#[]⟩, .slice none 0 0]).cell? ⟨w.heap.size + 1, 6, none⟩ = some (.int .i64 0) := hat 6 (by decide)
  have z7 : (w2.setCells (w.heap.size + 1) 0 [.int .i64 5, .int .i64 0, .int .i64 0, .int .i64 0, .int .u64 pc, .int .i64 pn, .int .i64 0, .int .i64 (til - now), .bool false, .string ⟨#[]⟩, .slice none 0 0]).cell? ⟨w.heap.size + 1, 7, none⟩ = some (.int .i64 (til - now)) := hat 7 (by decide)
  have z8 : (w2.setCells (w.heap.size + 1) 0 [.int .i64 5, .int .i64 0, .int .i64 0, .int .i64 0, .int .u64 pc, .int .i64 pn, .int .i64 0, .int .i64 (til - now), .bool false, .string ⟨#[]⟩, .slice none 0 0]).cell? ⟨w.heap.size + 1, 8, none⟩ = some (.bool false) := hat 8 (by decide)
  have z9 : (w2.setCells (w.heap.size + 1) 0 [.int .i64 5, .int .i64 0, .int .i64 0, .int .i64 0, .int .u64 pc, .int .i64 pn, .int .i64 0, .int .i64 (til - now), .bool false, .string ⟨#[]⟩, .slice none 0 0]).cell? ⟨w.heap.size + 1, 9, none⟩ = some (.string ⟨#[]⟩) := hat 9 (by decide)
  have z10 : (w2.setCells (w.heap.size + 1) 0 [.int .i64 5, .int .i64 0, .int .i64 0, .int .i64 0, .int .u64 pc, .int .i64 pn, .int .i64 0, .int .i64 (til - now), .bool false, .string ⟨#[]⟩, .slice none 0 0]).cell? ⟨w.heap.size + 1, 10, none⟩ = some (.slice none 0 0) := hat 10 (by decide)
  have HAF := Lib.hid (HA2.out.grown hgr n2.symm)
  have HFF := Lib.hid (Far.grownV (v1 := v) HF2.out hgr (Nat.le_succ _))
  have HOF := Lib.hid (HO2.out.kept hgr (.inr HN.out))
  clear hat hgr
  generalize hMS : ([.int .i64 5, .int .i64 0, .int .i64 0, .int .i64 0, .int .u64 pc, .int .i64 pn, .int .i64 0, .int .i64 (til - now), .bool false, .string ⟨#[]⟩, .slice none 0 0] : List Value) = ms at *
  have HMS := Lib.hid (show Value.agg #[.int .i64 5, .int .i64 0, .int .i64 0, .int .i64 0, .int .u64 pc, .int .i64 pn, .int .i64 0, .int .i64 (til - now), .bool false, .string ⟨#[]⟩, .slice none 0 0] = Value.agg ms.toArray by rw [← hMS])
  have hml := Lib.hid (show ms.toArray.size = 11 by rw [← hMS]; rfl)
  have HTT := Lib.hid HT0
  have HOO := Lib.hid HO0
  clear hMS HT0 HO0
  go_wp2_with (first | (refine wpList_store_mid rfl 97 (.tmp 6) (.tmp 22) rfl (w.heap.size + 1) 0 ms.toArray (by rfl) (by first | rfl | exact HMS.out) HTT.out (by rw [hml.out]; exact info_msg) HOO.out ?_))
  refine bodyPost_ret (v := .tuple #[.agg #[.int .i64 5, .int .i64 0, .int .i64 0, .int .i64 0, .int .u64 pc, .int .i64 pn, .int .i64 0, .int .i64 (til - now), .bool false, .string ⟨#[]⟩, .slice none 0 0], .bool false]) (by simp [results, Try.results73, go_sem, z0, z1, z2, z3, z4, z5, z6, z7, z8, z9, z10]; try rfl) rfl ?_
  exact ⟨rfl, HAF.out, HOF.out, HFF.out⟩
set_option maxRecDepth 100000 in
set_option maxHeartbeats 4000000 in
theorem prepare_late {base b : Nat} {v : Value} {wit : Bool} {pc pn ba to til : Int} {L : List E} (kd frm tt sub c n slot time : Int) (ok : Bool) (text : ByteArray) (la : Option Addr) (ll lc : Nat) (w : World) (h : Blk w b #[.bool wit, .int .u64 pc, .int .i64 pn, .int .i64 ba, v, .int .i64 to, .int .i64 til] 135) (hr : w.ownsRow base 44 4 v L.length (rcells encE L)) (hl : L.length ≤ 1000) (ha : Asc L) (hb : base ≤ w.heap.size) (now : Int) (hfrm : 0 ≤ frm ∧ frm ≤ 1000000) (hbar : barsA to til frm now = false) (hlate : decide (cmpB c n pc pn < 0) = true) :
    Calls Try.prog 73 #[.pointer (some ⟨b, 0, none⟩), .agg #[.int .i64 kd, .int .i64 frm, .int .i64 tt, .int .i64 sub, .int .u64 c, .int .i64 n, .int .i64 slot, .int .i64 time, .bool ok, .string text, .slice la ll lc], .int .i64 now] w fun e w' => e = .returned (.tuple #[.agg #[.int .i64 5, .int .i64 0, .int .i64 0, .int .i64 0, .int .u64 pc, .int .i64 pn, .int .i64 0, .int .i64 0, .bool false, .string ⟨#[]⟩, .slice none 0 0], .bool false]) ∧ Blk w' b #[.bool wit, .int .u64 pc, .int .i64 pn, .int .i64 ba, v, .int .i64 to, .int .i64 til] 135 ∧ w'.ownsRow base 44 4 v L.length (rcells encE L) ∧ Far b v w w' := by
  have HM := Lib.hid ((Blk.new w #[.int .i64 kd, .int .i64 frm, .int .i64 tt, .int .i64 sub, .int .u64 c, .int .i64 n, .int .i64 slot, .int .i64 time, .bool ok, .string text, .slice la ll lc] 97).gr ((Gr.refl _).alloc (.cells #[.int .i64 0, .int .i64 0, .int .i64 0, .int .i64 0, .int .u64 0, .int .i64 0, .int .i64 0, .int .i64 0, .bool false, .string ⟨#[]⟩, .slice none 0 0] 97)))
  have HR := Lib.hid (Blk.new (w.alloc (.cells #[.int .i64 kd, .int .i64 frm, .int .i64 tt, .int .i64 sub, .int .u64 c, .int .i64 n, .int .i64 slot, .int .i64 time, .bool ok, .string text, .slice la ll lc] 97)) #[.int .i64 0, .int .i64 0, .int .i64 0, .int .i64 0, .int .u64 0, .int .i64 0, .int .i64 0, .int .i64 0, .bool false, .string ⟨#[]⟩, .slice none 0 0] 97)
  rw [show (w.alloc (.cells #[.int .i64 kd, .int .i64 frm, .int .i64 tt, .int .i64 sub, .int .u64 c, .int .i64 n, .int .i64 slot, .int .i64 time, .bool ok, .string text, .slice la ll lc] 97)).heap.size = w.heap.size + 1 by simp] at HR
  have HG := Lib.hid (((Gr.refl w).alloc (.cells #[.int .i64 kd, .int .i64 frm, .int .i64 tt, .int .i64 sub, .int .u64 c, .int .i64 n, .int .i64 slot, .int .i64 time, .bool ok, .string text, .slice la ll lc] 97)).alloc (.cells #[.int .i64 0, .int .i64 0, .int .i64 0, .int .i64 0, .int .u64 0, .int .i64 0, .int .i64 0, .int .i64 0, .bool false, .string ⟨#[]⟩, .slice none 0 0] 97))
  have HA := Lib.hid (h.gr HG.out)
  have HO := Lib.hid (ownsRow_gr HG.out hr)
  have HF := Lib.hid (Far.of_gr (b := b) (v := v) HG.out)
  have HV := Lib.hid (From.refl v w)
  have HVB := Lib.hid (show v.ownBlock ≠ some b from row_off h hr (by decide))
  have HVP := Lib.hid (show ∀ k, v.ownBlock = some k → k < w.heap.size from fun k e => (hr.lt _ e).2)
  have hlt := h.lt
  have hbs : Hid (base ≤ ((w.alloc (.cells #[.int .i64 kd, .int .i64 frm, .int .i64 tt, .int .i64 sub, .int .u64 c, .int .i64 n, .int .i64 slot, .int .i64 time, .bool ok, .string text, .slice la ll lc] 97)).alloc (.cells #[.int .i64 0, .int .i64 0, .int .i64 0, .int .i64 0, .int .u64 0, .int .i64 0, .int .i64 0, .int .i64 0, .bool false, .string ⟨#[]⟩, .slice none 0 0] 97)).heap.size) := Lib.hid (Nat.le_trans hb HG.out.size)
  clear h hr HG
  go_enter Try.func73, Try.ntmps73
  go_wp2_with fail
  generalize (w.alloc (.cells #[.int .i64 kd, .int .i64 frm, .int .i64 tt, .int .i64 sub, .int .u64 c, .int .i64 n, .int .i64 slot, .int .i64 time, .bool ok, .string text, .slice la ll lc] 97)).alloc (.cells #[.int .i64 0, .int .i64 0, .int .i64 0, .int .i64 0, .int .u64 0, .int .i64 0, .int .i64 0, .int .i64 0, .bool false, .string ⟨#[]⟩, .slice none 0 0] 97) = wa at *
  have n1 : w.heap.size ≠ b := by omega
  have n2 : w.heap.size + 1 ≠ b := by omega
  have HL := Lib.hid hlate
  have HB := Lib.hid hbar
  have b5 := HA.out.cell (i := 5) rfl
  have b6 := HA.out.cell (i := 6) rfl
  have m1 := HM.out.cell (i := 1) rfl
  refine wp_region_held_drew (S := (fun w9 => Gr wa w9 ∧ w9.cell? ⟨b, 5, none⟩ = some (.int .i64 to) ∧ w9.cell? ⟨b, 6, none⟩ = some (.int .i64 til) ∧ w9.cell? ⟨w.heap.size, 1, none⟩ = some (.int .i64 frm))) (by kernel_rfl) ?inva (fun h0 => ?_)
  case inva => ((try dsimp only); (exact ⟨(by first | exact Gr.refl _ | exact (Gr.refl _).drew), b5, b6, m1⟩))
  refine wpAnyH_take (i := 0) (oi := { dst := some 12, op := Go.Op.move (Go.Operand.tmp 0), type := 66, pos := "accept.go:92", after := #[], guard := none }) (v := ?va1) rfl (by kernel_rfl) (by kernel_rfl) (by kernel_rfl) (fun _ _ _ h => h) (Or.inl ⟨by rfl, ?ra1⟩) (by assumption) ?_
  case ra1 => (intro w hSw; (try dsimp only at hSw); (go_simp <;> with_reducible rfl))
  try simp only [Act.put, List.setIfInBounds_toArray, List.set_cons_zero, List.set_cons_succ]
  refine wpAnyH_take (i := 1) (oi := { dst := some 13, op := Go.Op.nilCheck (Go.Operand.tmp 12), type := 0, pos := "accept.go:92", after := #[{ on := 0, ground := Go.Ground.data }], guard := none }) (v := ?va2) rfl (by kernel_rfl) (by kernel_rfl) (by kernel_rfl) (fun _ _ _ h => h) (Or.inl ⟨by rfl, ?ra2⟩) (by assumption) ?_
  case ra2 => (intro w hSw; (try dsimp only at hSw); (go_simp <;> with_reducible rfl))
  try simp only [Act.put, List.setIfInBounds_toArray, List.set_cons_zero, List.set_cons_succ]
  refine wpAnyH_take (i := 2) (oi := { dst := some 14, op := Go.Op.fieldAddr 135 (Go.Operand.tmp 13) 4, type := 0, pos := "accept.go:92", after := #[{ on := 1, ground := Go.Ground.data }], guard := none }) (v := ?va3) rfl (by kernel_rfl) (by kernel_rfl) (by kernel_rfl) (fun _ _ _ h => h) (Or.inl ⟨by rfl, ?ra3⟩) (by assumption) ?_
  case ra3 => (intro w hSw; (try dsimp only at hSw); (go_simp <;> with_reducible rfl))
  try simp only [Act.put, List.setIfInBounds_toArray, List.set_cons_zero, List.set_cons_succ]
  refine wpAnyH_take (i := 3) (oi := { dst := some 15, op := Go.Op.load 133 (Go.Operand.tmp 14), type := 133, pos := "accept.go:92", after := #[{ on := 2, ground := Go.Ground.data }], guard := none }) (v := ?va4) rfl (by kernel_rfl) (by kernel_rfl) (by kernel_rfl) (fun _ _ _ h => h) (Or.inl ⟨by rfl, ?ra4⟩) (by assumption) ?_
  case ra4 => (intro w hSw; (try dsimp only at hSw); (go_simp <;> with_reducible rfl))
  try simp only [Act.put, List.setIfInBounds_toArray, List.set_cons_zero, List.set_cons_succ]
  refine wpAnyH_take (i := 4) (oi := { dst := some 16, op := Go.Op.fieldAddr 97 (Go.Operand.tmp 4) 1, type := 0, pos := "accept.go:92", after := #[], guard := none }) (v := ?va5) rfl (by kernel_rfl) (by kernel_rfl) (by kernel_rfl) (fun _ _ _ h => h) (Or.inl ⟨by rfl, ?ra5⟩) (by assumption) ?_
  case ra5 => (intro w hSw; (try dsimp only at hSw); (go_simp <;> with_reducible rfl))
  try simp only [Act.put, List.setIfInBounds_toArray, List.set_cons_zero, List.set_cons_succ]
  refine wpAnyH_take (i := 5) (oi := { dst := some 17, op := Go.Op.load 3 (Go.Operand.tmp 16), type := 3, pos := "accept.go:92", after := #[{ on := 4, ground := Go.Ground.data }], guard := none }) (v := ?va6) rfl (by kernel_rfl) (by kernel_rfl) (by kernel_rfl) (fun _ _ _ h => h) (Or.inl ⟨by rfl, ?ra6⟩) (by assumption) ?_
  case ra6 => (intro w hSw; (try dsimp only at hSw); (go_simp <;> with_reducible rfl))
  try simp only [Act.put, List.setIfInBounds_toArray, List.set_cons_zero, List.set_cons_succ]
  refine wpAnyH_take (i := 6) (oi := { dst := some 18, op := Go.Op.move (Go.Operand.tmp 2), type := 3, pos := "accept.go:92", after := #[], guard := none }) (v := ?va7) rfl (by kernel_rfl) (by kernel_rfl) (by kernel_rfl) (fun _ _ _ h => h) (Or.inl ⟨by rfl, ?ra7⟩) (by assumption) ?_
  case ra7 => (intro w hSw; (try dsimp only at hSw); (go_simp <;> with_reducible rfl))
  try simp only [Act.put, List.setIfInBounds_toArray, List.set_cons_zero, List.set_cons_succ]
  refine wpAnyH_ready (rs := [7]) (by kernel_rfl) (by simp) ?_
  refine AllReadyH.cons (o := { dst := some 19, op := Go.Op.call { callee := Go.Callee.value (Go.Operand.func 133), args := #[Go.Operand.tmp 15, Go.Operand.tmp 17, Go.Operand.tmp 18], argTypes := #[133, 3, 3] }, type := 4, pos := "accept.go:92", after := #[{ on := 3, ground := Go.Ground.data }, { on := 5, ground := Go.Ground.data }, { on := 6, ground := Go.Ground.data }], guard := none }) rfl (fun K hK => ?_) AllReadyH.nil
  go_simp
  go_at_call 133
  refine (bars_any to til frm now _ hfrm).mono ?_
  rw [HB.out]
  rintro e w9 ⟨rfl, hg9⟩
  first | refine hK.out _ _ ?sa8 (fun h8 => ?_) | (go_wp2_with fail; refine hK.out _ _ ?sa8 (fun h8 => ?_))
  case sa8 => ((try dsimp only); (exact ⟨h0.1.trans hg9, hg9.cell h0.2.1, hg9.cell h0.2.2.1, hg9.cell h0.2.2.2⟩))
  clear hK K h0
  try simp only [Act.put, List.setIfInBounds_toArray, List.set_cons_zero, List.set_cons_succ]
  refine wpAnyH_take (i := 8) (oi := { dst := some 11, op := Go.Op.assign (Go.Operand.tmp 19), type := 4, pos := "accept.go:92", after := #[{ on := 7, ground := Go.Ground.data }, { on := 7, ground := Go.Ground.chain }], guard := none }) (v := ?va9) rfl (by kernel_rfl) (by kernel_rfl) (by kernel_rfl) (fun _ _ _ h => h) (Or.inl ⟨by rfl, ?ra9⟩) (by assumption) ?_
  case ra9 => (intro w hSw; (try dsimp only at hSw); (go_simp <;> with_reducible rfl))
  try simp only [Act.put, List.setIfInBounds_toArray, List.set_cons_zero, List.set_cons_succ]
  refine wpAnyH_done (by kernel_rfl) ?_ _
  have QG := h8.1
  clear h8 b5 b6 m1 hg9
  have HA1 := Lib.hid (HA.out.gr QG)
  have HM1 := Lib.hid (HM.out.gr QG)
  have HR1 := Lib.hid (HR.out.gr QG)
  have HO1 := Lib.hid (ownsRow_gr QG HO.out)
  have HF1 := Lib.hid (HF.out.trans HV.out (Far.of_gr QG))
  clear HA HM HR HO HF
  clear QG
  have m4 := HM1.out.cell (i := 4) rfl
  have m5 := HM1.out.cell (i := 5) rfl
  go_wp2_with fail
  refine (isLate_any c n _ HA1.out).mono ?_
  rw [HL.out]
  rintro e w1 ⟨rfl, hg1⟩
  have HA2 := Lib.hid (HA1.out.gr hg1)
  have HM2 := Lib.hid (HM1.out.gr hg1)
  have HR2 := Lib.hid (HR1.out.gr hg1)
  have HO2 := Lib.hid (ownsRow_gr hg1 HO1.out)
  have HF2 := Lib.hid (HF1.out.trans HV.out (Far.of_gr hg1))
  clear HA1 HM1 HR1 HO1 HF1
  clear hg1 m4 m5
  go_wp2_with fail
  refine (refuse_any _ HA2.out).mono ?_
  rintro e w2 ⟨rfl, hg2⟩
  have HA3 := Lib.hid (HA2.out.gr hg2)
  have HM3 := Lib.hid (HM2.out.gr hg2)
  have HR3 := Lib.hid (HR2.out.gr hg2)
  have HO3 := Lib.hid (ownsRow_gr hg2 HO2.out)
  have HF3 := Lib.hid (HF2.out.trans HV.out (Far.of_gr hg2))
  clear HA2 HM2 HR2 HO2 HF2
  clear hg2
  have HN := Lib.hid (show v.ownBlock ≠ some (w.heap.size + 1) from fun e => by have := HVP.out _ e; omega)
  obtain ⟨HT0, HO0, hat, hgr⟩ := msg_put HR3.out rfl [.int .i64 5, .int .i64 0, .int .i64 0, .int .i64 0, .int .u64 pc, .int .i64 pn, .int .i64 0, .int .i64 0, .bool false, .string ⟨#[]⟩, .slice none 0 0] rfl (by intro u hu; simp only [List.mem_cons, List.not_mem_nil, or_false] at hu; rcases hu with rfl | rfl | rfl | rfl | rfl | rfl | rfl | rfl | rfl | rfl | rfl <;> rfl)
  have z0 : (w2.setCells (w.heap.size + 1) 0 [.int .i64 5, .int .i64 0, .int .i64 0, .int .i64 0, .int .u64 pc, .int .i64 pn, .int .i64 0, .int .i64 0, .bool false, .string ⟨#[]⟩, .slice none 0 0]).cell? ⟨w.heap.size + 1, 0, none⟩ = some (.int .i64 5) := hat 0 (by decide)
  have z1 : (w2.setCells (w.heap.size + 1) 0 [.int .i64 5, .int .i64 0, .int .i64 0, .int .i64 0, .int .u64 pc, .int .i64 pn, .int .i64 0, .int .i64 0, .bool false, .string ⟨#[]⟩, .slice none 0 0]).cell? ⟨w.heap.size + 1, 1, none⟩ = some (.int .i64 0) := hat 1 (by decide)
  have z2 : (w2.setCells (w.heap.size + 1) 0 [.int .i64 5, .int .i64 0, .int .i64 0, .int .i64 0, .int .u64 pc, .int .i64 pn, .int .i64 0, .int .i64 0, .bool false, .string ⟨#[]⟩, .slice none 0 0]).cell? ⟨w.heap.size + 1, 2, none⟩ = some (.int .i64 0) := hat 2 (by decide)
  have z3 : (w2.setCells (w.heap.size + 1) 0 [.int .i64 5, .int .i64 0, .int .i64 0, .int .i64 0, .int .u64 pc, .int .i64 pn, .int .i64 0, .int .i64 0, .bool false, .string ⟨#[]⟩, .slice none 0 0]).cell? ⟨w.heap.size + 1, 3, none⟩ = some (.int .i64 0) := hat 3 (by decide)
  have z4 : (w2.setCells (w.heap.size + 1) 0 [.int .i64 5, .int .i64 0, .int .i64 0, .int .i64 0, .int .u64 pc, .int .i64 pn, .int .i64 0, .int .i64 0, .bool false, .string ⟨#[]⟩, .slice none 0 0]).cell? ⟨w.heap.size + 1, 4, none⟩ = some (.int .u64 pc) := hat 4 (by decide)
  have z5 : (w2.setCells (w.heap.size + 1) 0 [.int .i64 5, .int .i64 0, .int .i64 0, .int .i64 0, .int .u64 pc, .int .i64 pn, .int .i64 0, .int .i64 0, .bool false, .string ⟨#[]⟩, .slice none 0 0]).cell? ⟨w.heap.size + 1, 5, none⟩ = some (.int .i64 pn) := hat 5 (by decide)
  have z6 : (w2.setCells (w.heap.size + 1) 0 [.int .i64 5, .int .i64 0, .int .i64 0, .int .i64 0, .int .u64 pc, .int .i64 pn, .int .i64 0, .int .i64 0, .bool false, .string ⟨#[]⟩, .slice none 0 0]).cell? ⟨w.heap.size + 1, 6, none⟩ = some (.int .i64 0) := hat 6 (by decide)
  have z7 : (w2.setCells (w.heap.size + 1) 0 [.int .i64 5, .int .i64 0, .int .i64 0, .int .i64 0, .int .u64 pc, .int .i64 pn, .int .i64 0, .int .i64 0, .bool false, .string ⟨#[]⟩, .slice none 0 0]).cell? ⟨w.heap.size + 1, 7, none⟩ = some (.int .i64 0) := hat 7 (by decide)
  have z8 : (w2.setCells (w.heap.size + 1) 0 [.int .i64 5, .int .i64 0, .int .i64 0, .int .i64 0, .int .u64 pc, .int .i64 pn, .int .i64 0, .int .i64 0, .bool false, .string ⟨#[]⟩, .slice none 0 0]).cell? ⟨w.heap.size + 1, 8, none⟩ = some (.bool false) := hat 8 (by decide)
  have z9 : (w2.setCells (w.heap.size + 1) 0 [.int .i64 5, .int .i64 0, .int .i64 0, .int .i64 0, .int .u64 pc, .int .i64 pn, .int .i64 0, .int .i64 0, .bool false, .string ⟨#[]⟩, .slice none 0 0]).cell? ⟨w.heap.size + 1, 9, none⟩ = some (.string ⟨#[]⟩) := hat 9 (by decide)
  have z10 : (w2.setCells (w.heap.size + 1) 0 [.int .i64 5, .int .i64 0, .int .i64 0, .int .i64 0, .int .u64 pc, .int .i64 pn, .int .i64 0, .int .i64 0, .bool false, .string ⟨#[]⟩, .slice none 0 0]).cell? ⟨w.heap.size + 1, 10, none⟩ = some (.slice none 0 0) := hat 10 (by decide)
  have HAF := Lib.hid (HA3.out.grown hgr n2.symm)
  have HFF := Lib.hid (Far.grownV (v1 := v) HF3.out hgr (Nat.le_succ _))
  have HOF := Lib.hid (HO3.out.kept hgr (.inr HN.out))
  clear hat hgr
  generalize hMS : ([.int .i64 5, .int .i64 0, .int .i64 0, .int .i64 0, .int .u64 pc, .int .i64 pn, .int .i64 0, .int .i64 0, .bool false, .string ⟨#[]⟩, .slice none 0 0] : List Value) = ms at *
  have HMS := Lib.hid (show Value.agg #[.int .i64 5, .int .i64 0, .int .i64 0, .int .i64 0, .int .u64 pc, .int .i64 pn, .int .i64 0, .int .i64 0, .bool false, .string ⟨#[]⟩, .slice none 0 0] = Value.agg ms.toArray by rw [← hMS])
  have hml := Lib.hid (show ms.toArray.size = 11 by rw [← hMS]; rfl)
  have HTT := Lib.hid HT0
  have HOO := Lib.hid HO0
  clear hMS HT0 HO0
  go_wp2_with (first | (refine wpList_store_mid rfl 97 (.tmp 6) (.tmp 29) rfl (w.heap.size + 1) 0 ms.toArray (by rfl) (by first | rfl | exact HMS.out) HTT.out (by rw [hml.out]; exact info_msg) HOO.out ?_))
  refine bodyPost_ret (v := .tuple #[.agg #[.int .i64 5, .int .i64 0, .int .i64 0, .int .i64 0, .int .u64 pc, .int .i64 pn, .int .i64 0, .int .i64 0, .bool false, .string ⟨#[]⟩, .slice none 0 0], .bool false]) (by simp [results, Try.results73, go_sem, z0, z1, z2, z3, z4, z5, z6, z7, z8, z9, z10]; try rfl) rfl ?_
  exact ⟨rfl, HAF.out, HOF.out, HFF.out⟩
set_option maxRecDepth 100000 in
set_option maxHeartbeats 4000000 in
theorem prepare_ok {base b : Nat} {v : Value} {wit : Bool} {pc pn ba to til : Int} {L : List E} (kd frm tt sub c n slot time : Int) (ok : Bool) (text : ByteArray) (la : Option Addr) (ll lc : Nat) (w : World) (h : Blk w b #[.bool wit, .int .u64 pc, .int .i64 pn, .int .i64 ba, v, .int .i64 to, .int .i64 til] 135) (hr : w.ownsRow base 44 4 v L.length (rcells encE L)) (hl : L.length ≤ 1000) (ha : Asc L) (hb : base ≤ w.heap.size) (now : Int) (hfrm : 0 ≤ frm ∧ frm ≤ 1000000) (htx : ∀ x ∈ L, x.text.size ≤ 1000000) (hbar : barsA to til frm now = false) (hlate : decide (cmpB c n pc pn < 0) = false) :
    Calls Try.prog 73 #[.pointer (some ⟨b, 0, none⟩), .agg #[.int .i64 kd, .int .i64 frm, .int .i64 tt, .int .i64 sub, .int .u64 c, .int .i64 n, .int .i64 slot, .int .i64 time, .bool ok, .string text, .slice la ll lc], .int .i64 now] w fun e w' => ∃ lv, e = .returned (.tuple #[.agg #[.int .i64 2, .int .i64 0, .int .i64 0, .int .i64 0, .int .u64 c, .int .i64 n, .int .i64 ba, .int .i64 0, .bool false, .string ⟨#[]⟩, lv], .bool (decide (¬ (c = pc ∧ n = pn)))]) ∧ w'.ownsRow w.heap.size 44 4 lv (fromE L slot).length (rcells encE (fromE L slot)) ∧ Blk w' b #[.bool wit, .int .u64 c, .int .i64 n, .int .i64 ba, v, .int .i64 to, .int .i64 til] 135 ∧ w'.ownsRow base 44 4 v L.length (rcells encE L) ∧ Far b v w w' := by
  obtain ⟨q, hq⟩ : ∃ q, q = decide (¬ (c = pc ∧ n = pn)) := ⟨_, rfl⟩
  rw [← hq]
  have HQ := Lib.hid hq
  clear hq
  have HM := Lib.hid ((Blk.new w #[.int .i64 kd, .int .i64 frm, .int .i64 tt, .int .i64 sub, .int .u64 c, .int .i64 n, .int .i64 slot, .int .i64 time, .bool ok, .string text, .slice la ll lc] 97).gr ((Gr.refl _).alloc (.cells #[.int .i64 0, .int .i64 0, .int .i64 0, .int .i64 0, .int .u64 0, .int .i64 0, .int .i64 0, .int .i64 0, .bool false, .string ⟨#[]⟩, .slice none 0 0] 97)))
  have HR := Lib.hid (Blk.new (w.alloc (.cells #[.int .i64 kd, .int .i64 frm, .int .i64 tt, .int .i64 sub, .int .u64 c, .int .i64 n, .int .i64 slot, .int .i64 time, .bool ok, .string text, .slice la ll lc] 97)) #[.int .i64 0, .int .i64 0, .int .i64 0, .int .i64 0, .int .u64 0, .int .i64 0, .int .i64 0, .int .i64 0, .bool false, .string ⟨#[]⟩, .slice none 0 0] 97)
  rw [show (w.alloc (.cells #[.int .i64 kd, .int .i64 frm, .int .i64 tt, .int .i64 sub, .int .u64 c, .int .i64 n, .int .i64 slot, .int .i64 time, .bool ok, .string text, .slice la ll lc] 97)).heap.size = w.heap.size + 1 by simp] at HR
  have HG := Lib.hid (((Gr.refl w).alloc (.cells #[.int .i64 kd, .int .i64 frm, .int .i64 tt, .int .i64 sub, .int .u64 c, .int .i64 n, .int .i64 slot, .int .i64 time, .bool ok, .string text, .slice la ll lc] 97)).alloc (.cells #[.int .i64 0, .int .i64 0, .int .i64 0, .int .i64 0, .int .u64 0, .int .i64 0, .int .i64 0, .int .i64 0, .bool false, .string ⟨#[]⟩, .slice none 0 0] 97))
  have HA := Lib.hid (h.gr HG.out)
  have HO := Lib.hid (ownsRow_gr HG.out hr)
  have HF := Lib.hid (Far.of_gr (b := b) (v := v) HG.out)
  have HV := Lib.hid (From.refl v w)
  have HVB := Lib.hid (show v.ownBlock ≠ some b from row_off h hr (by decide))
  have HVP := Lib.hid (show ∀ k, v.ownBlock = some k → k < w.heap.size from fun k e => (hr.lt _ e).2)
  have hlt := h.lt
  have hbs : Hid (base ≤ ((w.alloc (.cells #[.int .i64 kd, .int .i64 frm, .int .i64 tt, .int .i64 sub, .int .u64 c, .int .i64 n, .int .i64 slot, .int .i64 time, .bool ok, .string text, .slice la ll lc] 97)).alloc (.cells #[.int .i64 0, .int .i64 0, .int .i64 0, .int .i64 0, .int .u64 0, .int .i64 0, .int .i64 0, .int .i64 0, .bool false, .string ⟨#[]⟩, .slice none 0 0] 97)).heap.size) := Lib.hid (Nat.le_trans hb HG.out.size)
  clear h hr HG
  go_enter Try.func73, Try.ntmps73
  go_wp2_with fail
  generalize (w.alloc (.cells #[.int .i64 kd, .int .i64 frm, .int .i64 tt, .int .i64 sub, .int .u64 c, .int .i64 n, .int .i64 slot, .int .i64 time, .bool ok, .string text, .slice la ll lc] 97)).alloc (.cells #[.int .i64 0, .int .i64 0, .int .i64 0, .int .i64 0, .int .u64 0, .int .i64 0, .int .i64 0, .int .i64 0, .bool false, .string ⟨#[]⟩, .slice none 0 0] 97) = wa at *
  have n1 : w.heap.size ≠ b := by omega
  have n2 : w.heap.size + 1 ≠ b := by omega
  have HL := Lib.hid hlate
  have HB := Lib.hid hbar
  have b5 := HA.out.cell (i := 5) rfl
  have b6 := HA.out.cell (i := 6) rfl
  have m1 := HM.out.cell (i := 1) rfl
  refine wp_region_held_drew (S := (fun w9 => Gr wa w9 ∧ w9.cell? ⟨b, 5, none⟩ = some (.int .i64 to) ∧ w9.cell? ⟨b, 6, none⟩ = some (.int .i64 til) ∧ w9.cell? ⟨w.heap.size, 1, none⟩ = some (.int .i64 frm))) (by kernel_rfl) ?inva (fun h0 => ?_)
  case inva => ((try dsimp only); (exact ⟨(by first | exact Gr.refl _ | exact (Gr.refl _).drew), b5, b6, m1⟩))
  refine wpAnyH_take (i := 0) (oi := { dst := some 12, op := Go.Op.move (Go.Operand.tmp 0), type := 66, pos := "accept.go:92", after := #[], guard := none }) (v := ?va1) rfl (by kernel_rfl) (by kernel_rfl) (by kernel_rfl) (fun _ _ _ h => h) (Or.inl ⟨by rfl, ?ra1⟩) (by assumption) ?_
  case ra1 => (intro w hSw; (try dsimp only at hSw); (go_simp <;> with_reducible rfl))
  try simp only [Act.put, List.setIfInBounds_toArray, List.set_cons_zero, List.set_cons_succ]
  refine wpAnyH_take (i := 1) (oi := { dst := some 13, op := Go.Op.nilCheck (Go.Operand.tmp 12), type := 0, pos := "accept.go:92", after := #[{ on := 0, ground := Go.Ground.data }], guard := none }) (v := ?va2) rfl (by kernel_rfl) (by kernel_rfl) (by kernel_rfl) (fun _ _ _ h => h) (Or.inl ⟨by rfl, ?ra2⟩) (by assumption) ?_
  case ra2 => (intro w hSw; (try dsimp only at hSw); (go_simp <;> with_reducible rfl))
  try simp only [Act.put, List.setIfInBounds_toArray, List.set_cons_zero, List.set_cons_succ]
  refine wpAnyH_take (i := 2) (oi := { dst := some 14, op := Go.Op.fieldAddr 135 (Go.Operand.tmp 13) 4, type := 0, pos := "accept.go:92", after := #[{ on := 1, ground := Go.Ground.data }], guard := none }) (v := ?va3) rfl (by kernel_rfl) (by kernel_rfl) (by kernel_rfl) (fun _ _ _ h => h) (Or.inl ⟨by rfl, ?ra3⟩) (by assumption) ?_
  case ra3 => (intro w hSw; (try dsimp only at hSw); (go_simp <;> with_reducible rfl))
  try simp only [Act.put, List.setIfInBounds_toArray, List.set_cons_zero, List.set_cons_succ]
  refine wpAnyH_take (i := 3) (oi := { dst := some 15, op := Go.Op.load 133 (Go.Operand.tmp 14), type := 133, pos := "accept.go:92", after := #[{ on := 2, ground := Go.Ground.data }], guard := none }) (v := ?va4) rfl (by kernel_rfl) (by kernel_rfl) (by kernel_rfl) (fun _ _ _ h => h) (Or.inl ⟨by rfl, ?ra4⟩) (by assumption) ?_
  case ra4 => (intro w hSw; (try dsimp only at hSw); (go_simp <;> with_reducible rfl))
  try simp only [Act.put, List.setIfInBounds_toArray, List.set_cons_zero, List.set_cons_succ]
  refine wpAnyH_take (i := 4) (oi := { dst := some 16, op := Go.Op.fieldAddr 97 (Go.Operand.tmp 4) 1, type := 0, pos := "accept.go:92", after := #[], guard := none }) (v := ?va5) rfl (by kernel_rfl) (by kernel_rfl) (by kernel_rfl) (fun _ _ _ h => h) (Or.inl ⟨by rfl, ?ra5⟩) (by assumption) ?_
  case ra5 => (intro w hSw; (try dsimp only at hSw); (go_simp <;> with_reducible rfl))
  try simp only [Act.put, List.setIfInBounds_toArray, List.set_cons_zero, List.set_cons_succ]
  refine wpAnyH_take (i := 5) (oi := { dst := some 17, op := Go.Op.load 3 (Go.Operand.tmp 16), type := 3, pos := "accept.go:92", after := #[{ on := 4, ground := Go.Ground.data }], guard := none }) (v := ?va6) rfl (by kernel_rfl) (by kernel_rfl) (by kernel_rfl) (fun _ _ _ h => h) (Or.inl ⟨by rfl, ?ra6⟩) (by assumption) ?_
  case ra6 => (intro w hSw; (try dsimp only at hSw); (go_simp <;> with_reducible rfl))
  try simp only [Act.put, List.setIfInBounds_toArray, List.set_cons_zero, List.set_cons_succ]
  refine wpAnyH_take (i := 6) (oi := { dst := some 18, op := Go.Op.move (Go.Operand.tmp 2), type := 3, pos := "accept.go:92", after := #[], guard := none }) (v := ?va7) rfl (by kernel_rfl) (by kernel_rfl) (by kernel_rfl) (fun _ _ _ h => h) (Or.inl ⟨by rfl, ?ra7⟩) (by assumption) ?_
  case ra7 => (intro w hSw; (try dsimp only at hSw); (go_simp <;> with_reducible rfl))
  try simp only [Act.put, List.setIfInBounds_toArray, List.set_cons_zero, List.set_cons_succ]
  refine wpAnyH_ready (rs := [7]) (by kernel_rfl) (by simp) ?_
  refine AllReadyH.cons (o := { dst := some 19, op := Go.Op.call { callee := Go.Callee.value (Go.Operand.func 133), args := #[Go.Operand.tmp 15, Go.Operand.tmp 17, Go.Operand.tmp 18], argTypes := #[133, 3, 3] }, type := 4, pos := "accept.go:92", after := #[{ on := 3, ground := Go.Ground.data }, { on := 5, ground := Go.Ground.data }, { on := 6, ground := Go.Ground.data }], guard := none }) rfl (fun K hK => ?_) AllReadyH.nil
  go_simp
  go_at_call 133
  refine (bars_any to til frm now _ hfrm).mono ?_
  rw [HB.out]
  rintro e w9 ⟨rfl, hg9⟩
  first | refine hK.out _ _ ?sa8 (fun h8 => ?_) | (go_wp2_with fail; refine hK.out _ _ ?sa8 (fun h8 => ?_))
  case sa8 => ((try dsimp only); (exact ⟨h0.1.trans hg9, hg9.cell h0.2.1, hg9.cell h0.2.2.1, hg9.cell h0.2.2.2⟩))
  clear hK K h0
  try simp only [Act.put, List.setIfInBounds_toArray, List.set_cons_zero, List.set_cons_succ]
  refine wpAnyH_take (i := 8) (oi := { dst := some 11, op := Go.Op.assign (Go.Operand.tmp 19), type := 4, pos := "accept.go:92", after := #[{ on := 7, ground := Go.Ground.data }, { on := 7, ground := Go.Ground.chain }], guard := none }) (v := ?va9) rfl (by kernel_rfl) (by kernel_rfl) (by kernel_rfl) (fun _ _ _ h => h) (Or.inl ⟨by rfl, ?ra9⟩) (by assumption) ?_
  case ra9 => (intro w hSw; (try dsimp only at hSw); (go_simp <;> with_reducible rfl))
  try simp only [Act.put, List.setIfInBounds_toArray, List.set_cons_zero, List.set_cons_succ]
  refine wpAnyH_done (by kernel_rfl) ?_ _
  have QG := h8.1
  clear h8 b5 b6 m1 hg9
  have HA1 := Lib.hid (HA.out.gr QG)
  have HM1 := Lib.hid (HM.out.gr QG)
  have HR1 := Lib.hid (HR.out.gr QG)
  have HO1 := Lib.hid (ownsRow_gr QG HO.out)
  have HF1 := Lib.hid (HF.out.trans HV.out (Far.of_gr QG))
  clear HA HM HR HO HF
  clear QG
  have m4 := HM1.out.cell (i := 4) rfl
  have m5 := HM1.out.cell (i := 5) rfl
  go_wp2_with fail
  refine (isLate_any c n _ HA1.out).mono ?_
  rw [HL.out]
  rintro e w1 ⟨rfl, hg1⟩
  have HA2 := Lib.hid (HA1.out.gr hg1)
  have HM2 := Lib.hid (HM1.out.gr hg1)
  have HR2 := Lib.hid (HR1.out.gr hg1)
  have HO2 := Lib.hid (ownsRow_gr hg1 HO1.out)
  have HF2 := Lib.hid (HF1.out.trans HV.out (Far.of_gr hg1))
  clear HA1 HM1 HR1 HO1 HF1
  clear hg1 m4 m5
  have m4 := HM2.out.cell (i := 4) rfl
  have m5 := HM2.out.cell (i := 5) rfl
  go_wp2_with fail
  refine (promise_any c n _ HA2.out).mono ?_
  rw [← HQ.out]
  rintro e w3 ⟨rfl, hA3, hf3⟩
  have HA3 := Lib.hid hA3
  have HM3 := Lib.hid (HM2.out.far hf3 n1 (by simp [Value.ownBlock]))
  have HR3 := Lib.hid (HR2.out.far hf3 n2 (by simp [Value.ownBlock]))
  have HO3 := Lib.hid (ownsRow_far hf3 HO2.out HVB.out (fun k _ => by simp [Value.ownBlock]))
  have HF3 := Lib.hid (HF2.out.trans HV.out (Far.any hf3))
  clear HA2 HM2 HR2 HO2 HF2
  clear hA3 hf3 m4 m5
  have m6 := HM3.out.cell (i := 6) rfl
  go_wp2_with fail
  refine (find_any slot L _ HA3.out HO3.out hl ha).mono ?_
  rintro e w4 ⟨i, fd, rfl, hi, hcut, hfd, hg2⟩
  have HE := Lib.hid (from_cut hcut hi)
  have HA4 := Lib.hid (HA3.out.gr hg2)
  have HM4 := Lib.hid (HM3.out.gr hg2)
  have HR4 := Lib.hid (HR3.out.gr hg2)
  have HO4 := Lib.hid (ownsRow_gr hg2 HO3.out)
  have HF4 := Lib.hid (HF3.out.trans HV.out (Far.of_gr hg2))
  clear HA3 HM3 HR3 HO3 HF3
  clear hfd hcut hg2 m6
  go_wp2_with fail
  obtain ⟨va, vc, hv, _⟩ := ownsRow_slice HO4.out
  have b4 : w4.cell? ⟨b, 4, none⟩ = some (.slice va L.length vc) := by rw [← hv]; exact HA4.out.cell (i := 4) rfl
  have b3 := HA4.out.cell (i := 3) rfl
  have m4 := HM4.out.cell (i := 4) rfl
  have m5 := HM4.out.cell (i := 5) rfl
  have HCC := Lib.hid (fun w2 hg => copied_from hv HO4.out hi hl htx (w2 := w2) hg)
  rw [← HE.out] at HCC
  obtain ⟨sa, hsa⟩ : ∃ sa, sa = (if vc = i then va else Option.map (fun x => x.add (i * 4)) va) := ⟨_, rfl⟩
  rw [← hsa] at HCC
  have HSA := Lib.hid hsa
  have HVV := Lib.hid hv
  clear hsa
  clear hv
  have hsz9 := Lib.hid (show w.heap.size + 1 < w4.heap.size from HR4.out.lt)
  refine wp_region_held_drew (S := (fun w9 => w9.cell? ⟨w.heap.size, 4, none⟩ = some (.int .u64 c) ∧ w9.cell? ⟨w.heap.size, 5, none⟩ = some (.int .i64 n) ∧ w9.cell? ⟨b, 3, none⟩ = some (.int .i64 ba) ∧ w9.cell? ⟨b, 4, none⟩ = some (.slice va L.length vc))) (by kernel_rfl) ?invg (fun h0 => ?_)
  case invg => ((try dsimp only); (exact ⟨m4, m5, b3, b4⟩))
  refine wpAnyH_take (i := 0) (oi := { dst := some 41, op := Go.Op.fieldAddr 97 (Go.Operand.tmp 4) 4, type := 0, pos := "accept.go:99", after := #[], guard := none }) (v := ?vg1) rfl (by kernel_rfl) (by kernel_rfl) (by kernel_rfl) (fun _ _ _ h => h) (Or.inl ⟨by rfl, ?rg1⟩) (by assumption) ?_
  case rg1 => (intro w hSw; (try dsimp only at hSw); (go_simp <;> with_reducible rfl))
  try simp only [Act.put, List.setIfInBounds_toArray, List.set_cons_zero, List.set_cons_succ]
  refine wpAnyH_take (i := 1) (oi := { dst := some 42, op := Go.Op.load 42 (Go.Operand.tmp 41), type := 42, pos := "accept.go:99", after := #[{ on := 0, ground := Go.Ground.data }], guard := none }) (v := ?vg2) rfl (by kernel_rfl) (by kernel_rfl) (by kernel_rfl) (fun _ _ _ h => h) (Or.inl ⟨by rfl, ?rg2⟩) (by assumption) ?_
  case rg2 => (intro w hSw; (try dsimp only at hSw); (go_simp <;> with_reducible rfl))
  try simp only [Act.put, List.setIfInBounds_toArray, List.set_cons_zero, List.set_cons_succ]
  refine wpAnyH_take (i := 2) (oi := { dst := some 43, op := Go.Op.move (Go.Operand.tmp 0), type := 66, pos := "accept.go:99", after := #[], guard := none }) (v := ?vg3) rfl (by kernel_rfl) (by kernel_rfl) (by kernel_rfl) (fun _ _ _ h => h) (Or.inl ⟨by rfl, ?rg3⟩) (by assumption) ?_
  case rg3 => (intro w hSw; (try dsimp only at hSw); (go_simp <;> with_reducible rfl))
  try simp only [Act.put, List.setIfInBounds_toArray, List.set_cons_zero, List.set_cons_succ]
  refine wpAnyH_take (i := 3) (oi := { dst := some 44, op := Go.Op.nilCheck (Go.Operand.tmp 43), type := 0, pos := "accept.go:99", after := #[{ on := 2, ground := Go.Ground.data }], guard := none }) (v := ?vg4) rfl (by kernel_rfl) (by kernel_rfl) (by kernel_rfl) (fun _ _ _ h => h) (Or.inl ⟨by rfl, ?rg4⟩) (by assumption) ?_
  case rg4 => (intro w hSw; (try dsimp only at hSw); (go_simp <;> with_reducible rfl))
  try simp only [Act.put, List.setIfInBounds_toArray, List.set_cons_zero, List.set_cons_succ]
  refine wpAnyH_take (i := 4) (oi := { dst := some 45, op := Go.Op.fieldAddr 135 (Go.Operand.tmp 44) 2, type := 0, pos := "accept.go:99", after := #[{ on := 3, ground := Go.Ground.data }], guard := none }) (v := ?vg5) rfl (by kernel_rfl) (by kernel_rfl) (by kernel_rfl) (fun _ _ _ h => h) (Or.inl ⟨by rfl, ?rg5⟩) (by assumption) ?_
  case rg5 => (intro w hSw; (try dsimp only at hSw); (go_simp <;> with_reducible rfl))
  try simp only [Act.put, List.setIfInBounds_toArray, List.set_cons_zero, List.set_cons_succ]
  refine wpAnyH_take (i := 5) (oi := { dst := some 46, op := Go.Op.load 3 (Go.Operand.tmp 45), type := 3, pos := "accept.go:99", after := #[{ on := 4, ground := Go.Ground.data }], guard := none }) (v := ?vg6) rfl (by kernel_rfl) (by kernel_rfl) (by kernel_rfl) (fun _ _ _ h => h) (Or.inl ⟨by rfl, ?rg6⟩) (by assumption) ?_
  case rg6 => (intro w hSw; (try dsimp only at hSw); (go_simp <;> with_reducible rfl))
  try simp only [Act.put, List.setIfInBounds_toArray, List.set_cons_zero, List.set_cons_succ]
  refine wpAnyH_take (i := 6) (oi := { dst := some 47, op := Go.Op.move (Go.Operand.tmp 0), type := 66, pos := "accept.go:99", after := #[], guard := none }) (v := ?vg7) rfl (by kernel_rfl) (by kernel_rfl) (by kernel_rfl) (fun _ _ _ h => h) (Or.inl ⟨by rfl, ?rg7⟩) (by assumption) ?_
  case rg7 => (intro w hSw; (try dsimp only at hSw); (go_simp <;> with_reducible rfl))
  try simp only [Act.put, List.setIfInBounds_toArray, List.set_cons_zero, List.set_cons_succ]
  refine wpAnyH_take (i := 7) (oi := { dst := some 48, op := Go.Op.nilCheck (Go.Operand.tmp 47), type := 0, pos := "accept.go:99", after := #[{ on := 6, ground := Go.Ground.data }], guard := none }) (v := ?vg8) rfl (by kernel_rfl) (by kernel_rfl) (by kernel_rfl) (fun _ _ _ h => h) (Or.inl ⟨by rfl, ?rg8⟩) (by assumption) ?_
  case rg8 => (intro w hSw; (try dsimp only at hSw); (go_simp <;> with_reducible rfl))
  try simp only [Act.put, List.setIfInBounds_toArray, List.set_cons_zero, List.set_cons_succ]
  refine wpAnyH_take (i := 8) (oi := { dst := some 49, op := Go.Op.fieldAddr 135 (Go.Operand.tmp 48) 3, type := 0, pos := "accept.go:99", after := #[{ on := 7, ground := Go.Ground.data }], guard := none }) (v := ?vg9) rfl (by kernel_rfl) (by kernel_rfl) (by kernel_rfl) (fun _ _ _ h => h) (Or.inl ⟨by rfl, ?rg9⟩) (by assumption) ?_
  case rg9 => (intro w hSw; (try dsimp only at hSw); (go_simp <;> with_reducible rfl))
  try simp only [Act.put, List.setIfInBounds_toArray, List.set_cons_zero, List.set_cons_succ]
  refine wpAnyH_take (i := 9) (oi := { dst := some 50, op := Go.Op.load 59 (Go.Operand.tmp 49), type := 59, pos := "accept.go:99", after := #[{ on := 8, ground := Go.Ground.data }], guard := none }) (v := ?vg10) rfl (by kernel_rfl) (by kernel_rfl) (by kernel_rfl) (fun _ _ _ h => h) (Or.inl ⟨by rfl, ?rg10⟩) (by assumption) ?_
  case rg10 => (intro w hSw; (try dsimp only at hSw); (go_simp <;> with_reducible rfl))
  try simp only [Act.put, List.setIfInBounds_toArray, List.set_cons_zero, List.set_cons_succ]
  refine wpAnyH_take (i := 10) (oi := { dst := some 51, op := Go.Op.move (Go.Operand.tmp 9), type := 3, pos := "accept.go:99", after := #[], guard := none }) (v := ?vg11) rfl (by kernel_rfl) (by kernel_rfl) (by kernel_rfl) (fun _ _ _ h => h) (Or.inl ⟨by rfl, ?rg11⟩) (by assumption) ?_
  case rg11 => (intro w hSw; (try dsimp only at hSw); (go_simp <;> with_reducible rfl))
  try simp only [Act.put, List.setIfInBounds_toArray, List.set_cons_zero, List.set_cons_succ]
  refine wpAnyH_take (i := 11) (oi := { dst := some 52, op := Go.Op.slice 59 (Go.Operand.tmp 50) (some (Go.Operand.tmp 51)) none none, type := 59, pos := "accept.go:99", after := #[{ on := 9, ground := Go.Ground.data }, { on := 10, ground := Go.Ground.data }], guard := none }) (v := (.slice sa (L.length - i) (vc - i))) rfl (by kernel_rfl) (by kernel_rfl) (by kernel_rfl) (fun _ _ _ h => h) (Or.inl ⟨by rfl, ?rg12⟩) (by assumption) ?_
  case rg12 => (intro w hSw; (try dsimp only at hSw); go_simp; all_goals (first | exact HSA.out.symm | (rw [← HSA.out])))
  try simp only [Act.put, List.setIfInBounds_toArray, List.set_cons_zero, List.set_cons_succ]
  refine wpAnyH_take (i := 14) (oi := { dst := some 55, op := Go.Op.move (Go.Operand.tmp 8), type := 4, pos := "accept.go:99", after := #[{ on := 15, ground := Go.Ground.gcOnly Go.Departure.lateStores }], guard := none }) (v := ?vg13) rfl (by kernel_rfl) (by kernel_rfl) (by kernel_rfl) (fun _ _ _ h => h) (Or.inl ⟨by rfl, ?rg13⟩) (by assumption) ?_
  case rg13 => (intro w hSw; (try dsimp only at hSw); (go_simp <;> with_reducible rfl))
  try simp only [Act.put, List.setIfInBounds_toArray, List.set_cons_zero, List.set_cons_succ]
  refine wpAnyH_ready (rs := [12]) (by kernel_rfl) (by simp) ?_
  refine AllReadyH.cons (o := { dst := some 53, op := Go.Op.call { callee := Go.Callee.value (Go.Operand.func 75), args := #[Go.Operand.tmp 52], argTypes := #[59] }, type := 59, pos := "accept.go:99", after := #[{ on := 11, ground := Go.Ground.data }], guard := none }) rfl (fun K hK => ?_) AllReadyH.nil
  go_simp
  go_at_call 75
  refine (HCC.out _ (by first | exact Gr.refl _ | exact (Gr.refl _).drew)).mono ?_
  rintro e w9 ⟨lv, rfl, ho9, hg9⟩
  have hz9 : Gr w4 w9 := (by first | exact hg9 | exact (Gr.refl _).drew.trans hg9)
  obtain ⟨ra, rl, rc, rfl⟩ : ∃ ra rl rc, lv = .slice ra rl rc := by obtain ⟨a1, c1, h1, _⟩ := ownsRow_slice ho9; exact ⟨_, _, _, h1⟩
  have HA5 := Lib.hid (HA4.out.gr hz9)
  have HM5 := Lib.hid (HM4.out.gr hz9)
  have HR5 := Lib.hid (HR4.out.gr hz9)
  have HO5 := Lib.hid (ownsRow_gr hz9 HO4.out)
  have HF5 := Lib.hid (HF4.out.trans HV.out (Far.of_gr hz9))
  clear HA4 HM4 HR4 HO4 HF4
  have HO9 := Lib.hid ho9
  clear ho9
  obtain ⟨W2, hst, hat2, hfz2, hgr2⟩ := rows_store [.int .i64 2, .int .i64 0, .int .i64 0, .int .i64 0, .int .u64 c, .int .i64 n, .int .i64 ba, .int .i64 0, .bool false, .string ⟨#[]⟩, .slice ra rl rc] HR5.out rfl (by intro u hu; simp only [List.mem_cons, List.not_mem_nil, or_false] at hu; rcases hu with rfl | rfl | rfl | rfl | rfl | rfl | rfl | rfl | rfl | rfl | rfl <;> rfl)
  have HAF := Lib.hid (HA5.out.grown hgr2 n2.symm)
  have HMF := Lib.hid (HM5.out.grown hgr2 (by omega))
  have HFF := Lib.hid (Far.grownV (v1 := v) HF5.out hgr2 (Nat.le_succ _))
  have HOF := Lib.hid (HO5.out.kept hgr2 (.inr (show v.ownBlock ≠ some (w.heap.size + 1) from fun e => by have := HVP.out _ e; omega)))
  have b4F := Lib.hid (show W2.cell? ⟨b, 4, none⟩ = some (.slice va L.length vc) from by rw [← HVV.out]; exact HAF.out.cell (i := 4) rfl)
  have HLF := Lib.hid (HO9.out.kept hgr2 (.inr (fun e => by have := (HO9.out.lt _ e).1; have := hsz9.out; simp only [World.size_drew] at *; omega)))
  have z0 : W2.cell? ⟨w.heap.size + 1, 0, none⟩ = some (.int .i64 2) := hat2 0 (by simp)
  have z1 : W2.cell? ⟨w.heap.size + 1, 1, none⟩ = some (.int .i64 0) := hat2 1 (by simp)
  have z2 : W2.cell? ⟨w.heap.size + 1, 2, none⟩ = some (.int .i64 0) := hat2 2 (by simp)
  have z3 : W2.cell? ⟨w.heap.size + 1, 3, none⟩ = some (.int .i64 0) := hat2 3 (by simp)
  have z4 : W2.cell? ⟨w.heap.size + 1, 4, none⟩ = some (.int .u64 c) := hat2 4 (by simp)
  have z5 : W2.cell? ⟨w.heap.size + 1, 5, none⟩ = some (.int .i64 n) := hat2 5 (by simp)
  have z6 : W2.cell? ⟨w.heap.size + 1, 6, none⟩ = some (.int .i64 ba) := hat2 6 (by simp)
  have z7 : W2.cell? ⟨w.heap.size + 1, 7, none⟩ = some (.int .i64 0) := hat2 7 (by simp)
  have z8 : W2.cell? ⟨w.heap.size + 1, 8, none⟩ = some (.bool false) := hat2 8 (by simp)
  have z9 : W2.cell? ⟨w.heap.size + 1, 9, none⟩ = some (.string ⟨#[]⟩) := hat2 9 (by simp)
  have z10 : W2.cell? ⟨w.heap.size + 1, 10, none⟩ = some (.slice ra rl rc) := hat2 10 (by simp)
  have HZZ := Lib.hid (And.intro z0 (And.intro z1 (And.intro z2 (And.intro z3 (And.intro z4 (And.intro z5 (And.intro z6 (And.intro z7 (And.intro z8 (And.intro z9 (z10)))))))))))
  clear z0 z1 z2 z3 z4 z5 z6 z7 z8 z9 z10 hat2 hfz2 hgr2
  generalize hMS : ([.int .i64 2, .int .i64 0, .int .i64 0, .int .i64 0, .int .u64 c, .int .i64 n, .int .i64 ba, .int .i64 0, .bool false, .string ⟨#[]⟩, .slice ra rl rc] : List Value) = ms at *
  have HMS := Lib.hid hMS
  have hml : ms.length = 11 := by rw [← HMS.out]; rfl
  clear hMS hz9
  first | refine hK.out _ _ ?sg14 (fun h14 => ?_) | (go_wp2_with fail; refine hK.out _ _ ?sg14 (fun h14 => ?_))
  case sg14 => ((try dsimp only); (first | exact ⟨hg9.cell h0.1, hg9.cell h0.2.1, hg9.cell h0.2.2.1, hg9.cell h0.2.2.2⟩ | exact ⟨HMF.out.cell rfl, HMF.out.cell rfl, HAF.out.cell rfl, b4F.out⟩))
  clear hK K h0
  try simp only [Act.put, List.setIfInBounds_toArray, List.set_cons_zero, List.set_cons_succ]
  refine wpAnyH_take (i := 13) (oi := { dst := some 54, op := Go.Op.build 97 #[(0, Go.Operand.const (Go.Value.int Go.IntKind.i64 2)), (4, Go.Operand.tmp 42), (5, Go.Operand.tmp 46), (9, Go.Operand.tmp 53)], type := 97, pos := "accept.go:99", after := #[{ on := 1, ground := Go.Ground.data }, { on := 5, ground := Go.Ground.data }, { on := 12, ground := Go.Ground.data }], guard := none }) (v := (.agg ms.toArray)) rfl (by kernel_rfl) (by kernel_rfl) (by kernel_rfl) (fun _ _ _ h => h) (Or.inl ⟨by rfl, ?rg15⟩) (by assumption) ?_
  case rg15 => (intro w hSw; (try dsimp only at hSw); go_simp; all_goals (rw [← HMS.out]))
  try simp only [Act.put, List.setIfInBounds_toArray, List.set_cons_zero, List.set_cons_succ]
  refine wpAnyH_ready (rs := [15]) (by kernel_rfl) (by simp) ?_
  refine AllReadyH.cons (o := { dst := none, op := Go.Op.store 97 (Go.Operand.tmp 6) (Go.Operand.tmp 54), type := 0, pos := "accept.go:99", after := #[{ on := 13, ground := Go.Ground.data }, { on := 12, ground := Go.Ground.chain }, { on := 0, ground := Go.Ground.phase }, { on := 1, ground := Go.Ground.phase }, { on := 2, ground := Go.Ground.phase }, { on := 3, ground := Go.Ground.phase }, { on := 4, ground := Go.Ground.phase }, { on := 5, ground := Go.Ground.phase }, { on := 6, ground := Go.Ground.phase }, { on := 7, ground := Go.Ground.phase }, { on := 8, ground := Go.Ground.phase }, { on := 9, ground := Go.Ground.phase }, { on := 10, ground := Go.Ground.phase }, { on := 11, ground := Go.Ground.phase }, { on := 12, ground := Go.Ground.phase }, { on := 13, ground := Go.Ground.phase }, { on := 14, ground := Go.Ground.textOnly Go.Departure.lateStores }], guard := none }) rfl (fun K hK => ?_) AllReadyH.nil
  go_simp
  skip
  first | refine hK.out _ _ ?sg16 (fun h16 => ?_) | (go_wp2_with fail; refine hK.out _ _ ?sg16 (fun h16 => ?_))
  case sg16 => ((try dsimp only); (first | exact ⟨hg9.cell h14.1, hg9.cell h14.2.1, hg9.cell h14.2.2.1, hg9.cell h14.2.2.2⟩ | exact ⟨HMF.out.cell rfl, HMF.out.cell rfl, HAF.out.cell rfl, b4F.out⟩))
  clear hK K h14
  try simp only [Act.put, List.setIfInBounds_toArray, List.set_cons_zero, List.set_cons_succ]
  refine wpAnyH_take (i := 16) (oi := { dst := some 7, op := Go.Op.assign (Go.Operand.tmp 55), type := 4, pos := "accept.go:99", after := #[{ on := 14, ground := Go.Ground.data }, { on := 15, ground := Go.Ground.chain }, { on := 0, ground := Go.Ground.phase }, { on := 1, ground := Go.Ground.phase }, { on := 2, ground := Go.Ground.phase }, { on := 3, ground := Go.Ground.phase }, { on := 4, ground := Go.Ground.phase }, { on := 5, ground := Go.Ground.phase }, { on := 6, ground := Go.Ground.phase }, { on := 7, ground := Go.Ground.phase }, { on := 8, ground := Go.Ground.phase }, { on := 9, ground := Go.Ground.phase }, { on := 10, ground := Go.Ground.phase }, { on := 11, ground := Go.Ground.phase }, { on := 12, ground := Go.Ground.phase }, { on := 13, ground := Go.Ground.phase }, { on := 14, ground := Go.Ground.phase }, { on := 15, ground := Go.Ground.phase }], guard := none }) (v := ?vg17) rfl (by kernel_rfl) (by kernel_rfl) (by kernel_rfl) (fun _ _ _ h => h) (Or.inl ⟨by rfl, ?rg17⟩) (by assumption) ?_
  case rg17 => (intro w hSw; (try dsimp only at hSw); (go_simp <;> with_reducible rfl))
  try simp only [Act.put, List.setIfInBounds_toArray, List.set_cons_zero, List.set_cons_succ]
  refine wpAnyH_done (by kernel_rfl) ?_ _
  clear h16
  obtain ⟨z0, z1, z2, z3, z4, z5, z6, z7, z8, z9, z10⟩ := HZZ.out
  go_wp2
  refine bodyPost_ret (v := .tuple #[.agg #[.int .i64 2, .int .i64 0, .int .i64 0, .int .i64 0, .int .u64 c, .int .i64 n, .int .i64 ba, .int .i64 0, .bool false, .string ⟨#[]⟩, .slice ra rl rc], .bool q]) (by simp [results, Try.results73, go_sem, z0, z1, z2, z3, z4, z5, z6, z7, z8, z9, z10]; try rfl) rfl ?_
  exact ⟨_, rfl, World.ownsRow.mono HLF.out (by have := hsz9.out; show w.heap.size ≤ w4.heap.size; omega), HAF.out, HOF.out, HFF.out⟩
end Go.Proofs.Ytnanclgnjchpeaa
