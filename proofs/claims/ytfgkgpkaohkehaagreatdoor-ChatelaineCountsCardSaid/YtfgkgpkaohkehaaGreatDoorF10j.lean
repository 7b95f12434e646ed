import Derived.Test.YtfgkgpkaohkehaaGreatDoorK21
import Derived.Test.YtfgkgpkaohkehaaGreatDoorK20
import Derived.WalkKit
import Derived.ProofKit
import Derived.LoopTactic
import Derived.Outline
import Derived.WalkSpells
import Derived.WalkLawsBesides
import Derived.Lib.Hide
import Derived.Deep.LoopGhost
import Derived.Deep.QuietTactic
import Derived.BigQuiet
import Derived.ShutString
import Derived.IntWalk
import Derived.Deep.RegionHeld3
namespace Go.Proofs.YtfgkgpkaohkehaaGreatDoor
open Go.ChangeShapes Go.WideShapes Go.ChangeAt Go.RowKit
open Enc Bal
set_option linter.unusedVariables false
set_option linter.unusedSimpArgs false
theorem upB_iff {n m : Int} : upB n m = true ↔ 0 ≤ n ∧ n ≤ m := by simp [upB]
structure CheckOk (kd frm tt sub c n slot time : Int) (text : ByteArray) (L : List E) : Prop where
  kd : 1 ≤ kd ∧ kd ≤ 13
  frm : 0 ≤ frm ∧ frm ≤ 11
  tt : 0 ≤ tt ∧ tt ≤ 11
  sub : 0 ≤ sub ∧ sub ≤ 3
  n : 0 ≤ n ∧ n ≤ 11
  slot : 0 ≤ slot ∧ slot ≤ 1099511627776
  time : 0 ≤ time ∧ time ≤ 1099511627776
  text : text.size ≤ 131072
  len : L.length ≤ 64
  ent : ∀ y ∈ L, 0 ≤ y.slot ∧ y.slot ≤ 1099511627776 ∧ 0 ≤ y.n ∧ y.n ≤ 11 ∧ y.text.size ≤ 400
theorem checkOk {kd frm tt sub c n slot time : Int} {text : ByteArray} {L : List E} (h : checkM kd frm tt sub c n slot time text L = 0) : CheckOk kd frm tt sub c n slot time text L := by
  unfold checkM at h
  by_cases h1 : kindB kd = true
  case neg => rw [if_neg h1] at h; simp at h
  rw [if_pos h1] at h
  by_cases h2 : rangeB frm tt sub c n slot time L = true
  case neg => rw [if_neg h2] at h; simp at h
  rw [if_pos h2] at h
  by_cases h3 : shortB text L = true
  case neg => rw [if_neg h3] at h; simp at h
  clear h
  simp only [kindB, rangeB, shortB, Bool.and_eq_true, decide_eq_true_eq, upB_iff, balB, Bool.not_eq_true', List.any_eq_false] at h1 h2 h3
  obtain ⟨a1, a2, a3, a4, a5, a6, a7⟩ := h2
  obtain ⟨b1, b2, b3⟩ := h3
  refine ⟨h1, a1, a2, a3, a4.1, a5, a6, b1, b2, fun y hy => ?_⟩
  have e1 := a7 y hy
  have e2 := b3 y hy
  simp only [badE, bigE, balB, Bool.or_eq_true, Bool.not_eq_true', decide_eq_true_eq, not_or, Bool.not_eq_false, Bool.and_eq_true, upB_iff] at e1 e2
  exact ⟨e1.1.1, e1.1.2, e1.2.1.1, e1.2.1.2, by omega⟩
set_option maxRecDepth 100000 in
set_option maxHeartbeats 4000000 in
theorem bytes_any {base : Nat} {a : Option Addr} {q : Nat} (kd frm tt sub : Int) (c n : Nat) (slot time : Int) (ok : Bool) (text : ByteArray) (L : List E) (w : World) (h : w.ownsRow base 74 4 (.slice a L.length q) L.length (rcells encE L)) (hl : L.length ≤ 1000)
    (hcs : ∀ y ∈ L, 0 ≤ y.c) :
    Calls Tryz.prog 12 #[.agg #[.int .i64 kd, .int .i64 frm, .int .i64 tt, .int .i64 sub, .int .u64 (c : Nat), .int .i64 (n : Nat), .int .i64 slot, .int .i64 time, .bool ok, .string text, .slice a L.length q]] w fun e w' => e = .returned (.string (if checkM kd frm tt sub c n slot time text L = 0 then frameB kd.toNat (ofL (inHead frm tt sub c n slot time ok text L.length ++ L.flatMap insE)) else ⟨#[]⟩)) ∧ Gr w w' := by
  have HC := Lib.hid fun w9 (hg : Gr w w9) => Check_any kd frm tt sub c n slot time ok text L w9 (ownsRow_gr hg h) hl
  have HA := Lib.hid ((Gr.refl w).alloc (.cells #[.int .i64 kd, .int .i64 frm, .int .i64 tt, .int .i64 sub, .int .u64 (c : Nat), .int .i64 (n : Nat), .int .i64 slot, .int .i64 time, .bool ok, .string text, .slice a L.length q] 41))
  have HO := Lib.hid ((Gr.refl (w.alloc (.cells #[.int .i64 kd, .int .i64 frm, .int .i64 tt, .int .i64 sub, .int .u64 (c : Nat), .int .i64 (n : Nat), .int .i64 slot, .int .i64 time, .bool ok, .string text, .slice a L.length q] 41))).own)
  have HR := Lib.hid fun w9 (hg : Gr w w9) k hk => erow_T (ownsRow_gr hg h) k hk
  have HCS := Lib.hid hcs
  clear h hcs
  obtain ⟨K, hK⟩ : ∃ K, K = checkM kd frm tt sub c n slot time text L := ⟨_, rfl⟩
  rw [← hK] at HC ⊢
  by_cases hk0 : K = 0
  case neg =>
    rw [if_neg hk0]
    have t0 : (K != 0) = true := by simp [hk0]
    clear hK hk0
    go_enter Tryz.func12, Tryz.ntmps12
    have k0 := HO.out.1 0 _ rfl
    have k1 := HO.out.1 1 _ rfl
    have k2 := HO.out.1 2 _ rfl
    have k3 := HO.out.1 3 _ rfl
    have k4 := HO.out.1 4 _ rfl
    have k5 := HO.out.1 5 _ rfl
    have k6 := HO.out.1 6 _ rfl
    have k7 := HO.out.1 7 _ rfl
    have k8 := HO.out.1 8 _ rfl
    have k9 := HO.out.1 9 _ rfl
    have k10 := HO.out.1 10 _ rfl
    go_wp2_with fail
    refine (HC.out _ (HA.out)).mono ?_
    rintro e w1 ⟨rfl, hg1⟩
    have HG := Lib.hid (HA.out.trans hg1)
    clear hg1
    go_wp2
    go_ret
    exact ⟨rfl, HG.out⟩
  case pos =>
    rw [if_pos hk0]
    subst hk0
    have HK := Lib.hid (checkOk hK.symm)
    obtain ⟨i1, i2, i3, i4, i5, i6, i7, i8, i9, i10⟩ := HK.out
    have hn : n ≤ 11 := by omega
    have HE := Lib.hid i10
    obtain ⟨kn, rfl⟩ := Int.eq_ofNat_of_zero_le (show 0 ≤ kd by omega)
    have HWR := Lib.hid (show IntKind.u8.wrap (kn : Int) = kn by simp [IntKind.wrap, IntKind.bits, IntKind.signed]; omega)
    have HFR := Lib.hid fun s w (hs : ByteArray.size s ≤ 1048576) => frame_any kn s w (by omega) (by omega) hs
    rw [show ((kn : Int)).toNat = kn by omega]
    clear hK i10
    go_enter Tryz.func12, Tryz.ntmps12
    have k0 := HO.out.1 0 _ rfl
    have k1 := HO.out.1 1 _ rfl
    have k2 := HO.out.1 2 _ rfl
    have k3 := HO.out.1 3 _ rfl
    have k4 := HO.out.1 4 _ rfl
    have k5 := HO.out.1 5 _ rfl
    have k6 := HO.out.1 6 _ rfl
    have k7 := HO.out.1 7 _ rfl
    have k8 := HO.out.1 8 _ rfl
    have k9 := HO.out.1 9 _ rfl
    have k10 := HO.out.1 10 _ rfl
    go_wp2_with fail
    refine (HC.out _ (HA.out)).mono ?_
    rintro e w1 ⟨rfl, hg1⟩
    have HG := Lib.hid (HA.out.trans hg1)
    have hbl : w.heap.size < w1.heap.size := by have := hg1.size; simp at this; omega
    have HBC := Lib.hid (show ∀ i v, ([.int .i64 (kn : Nat), .int .i64 frm, .int .i64 tt, .int .i64 sub, .int .u64 (c : Nat), .int .i64 (n : Nat), .int .i64 slot, .int .i64 time, .bool ok, .string text, .slice a L.length q] : List Value)[i]? = some v → w1.cell? ⟨w.heap.size, i, none⟩ = some v from fun i v hv => hg1.cell (HO.out.1 i v (by simpa using hv)))
    clear hg1 k0 k1 k2 k3 k4 k5 k6 k7 k8 k9 k10
    go_wp2
    have HBP := Lib.hid (show w.heap.size ≤ w1.heap.size from Nat.le_of_lt hbl)
    generalize hbw : w.heap.size = b at hbl HBC ⊢
    have HBW := Lib.hid hbw
    clear hbw
    have HSB := Lib.hid (Sl.old (new_writer w1) hbl (fun i v hv => ((Gr.refl w1).alloc _).cell (HBC.out i v hv)))
    have HS1 := Lib.hid (St.start (new_writer w1))
    have HS2 := HS1
    have HGZ := Lib.hid (HG.out.alloc (.cells #[.slice none 0 0] 80))
    generalize w1.heap.size = p at *
    generalize w1.alloc (.cells #[.slice none 0 0] 80) = wz at *
    refine wp_region_held_drew (S := (fun w9 => w9.cell? ⟨b, 0, none⟩ = some (.int .i64 (kn : Nat)) ∧ w9.cell? ⟨b, 1, none⟩ = some (.int .i64 frm) ∧ w9.cell? ⟨b, 2, none⟩ = some (.int .i64 tt) ∧ w9.cell? ⟨b, 3, none⟩ = some (.int .i64 sub) ∧ w9.cell? ⟨b, 4, none⟩ = some (.int .u64 (c : Nat)) ∧ w9.cell? ⟨b, 5, none⟩ = some (.int .i64 (n : Nat)) ∧ w9.cell? ⟨b, 6, none⟩ = some (.int .i64 slot) ∧ w9.cell? ⟨b, 7, none⟩ = some (.int .i64 time) ∧ w9.cell? ⟨b, 8, none⟩ = some (.bool ok) ∧ w9.cell? ⟨b, 9, none⟩ = some (.string text) ∧ w9.cell? ⟨b, 10, none⟩ = some (.slice a L.length q))) (by kernel_rfl) ?invd (fun h0 => ?_)
    case invd => ((try dsimp only); exact ⟨HSB.out.2.2.2 0 _ rfl, HSB.out.2.2.2 1 _ rfl, HSB.out.2.2.2 2 _ rfl, HSB.out.2.2.2 3 _ rfl, HSB.out.2.2.2 4 _ rfl, HSB.out.2.2.2 5 _ rfl, HSB.out.2.2.2 6 _ rfl, HSB.out.2.2.2 7 _ rfl, HSB.out.2.2.2 8 _ rfl, HSB.out.2.2.2 9 _ rfl, HSB.out.2.2.2 10 _ rfl⟩)
    have HSt := Lib.hid (St.start (HS1.out.gr (Gr.refl wz).drew).1)
    replace HS1 := Lib.hid (HS1.out.gr (Gr.refl wz).drew)
    have HSl_b := Lib.hid (Sl.gr HS2.out HSB.out (Gr.refl wz).drew)
    clear HS2 HSB
    generalize wz.drew = wd at *
    refine wpAnyH_take (i := 0) (oi := { dst := some 9, op := Go.Op.fieldAddr 41 (Go.Operand.tmp 1) 4, type := 0, pos := "msg.go:110", after := #[], guard := none }) (v := ?vd0) rfl (by kernel_rfl) (by kernel_rfl) (by kernel_rfl) (fun _ _ _ h => h) (Or.inl ⟨by rfl, ?rd0⟩) (by assumption) ?_
    case rd0 => (intro w hSw; (try dsimp only at hSw); (go_simp <;> with_reducible rfl))
    try simp only [Act.put, List.setIfInBounds_toArray, List.set_cons_zero, List.set_cons_succ]
    refine wpAnyH_take (i := 1) (oi := { dst := some 10, op := Go.Op.load 38 (Go.Operand.tmp 9), type := 38, pos := "msg.go:110", after := #[{ on := 0, ground := Go.Ground.data }], guard := none }) (v := ?vd1) rfl (by kernel_rfl) (by kernel_rfl) (by kernel_rfl) (fun _ _ _ h => h) (Or.inl ⟨by rfl, ?rd1⟩) (by assumption) ?_
    case rd1 => (intro w hSw; (try dsimp only at hSw); (go_simp <;> with_reducible rfl))
    try simp only [Act.put, List.setIfInBounds_toArray, List.set_cons_zero, List.set_cons_succ]
    refine wpAnyH_take (i := 2) (oi := { dst := some 11, op := Go.Op.fieldAddr 41 (Go.Operand.tmp 1) 1, type := 0, pos := "msg.go:110", after := #[], guard := none }) (v := ?vd2) rfl (by kernel_rfl) (by kernel_rfl) (by kernel_rfl) (fun _ _ _ h => h) (Or.inl ⟨by rfl, ?rd2⟩) (by assumption) ?_
    case rd2 => (intro w hSw; (try dsimp only at hSw); (go_simp <;> with_reducible rfl))
    try simp only [Act.put, List.setIfInBounds_toArray, List.set_cons_zero, List.set_cons_succ]
    refine wpAnyH_take (i := 3) (oi := { dst := some 12, op := Go.Op.load 3 (Go.Operand.tmp 11), type := 3, pos := "msg.go:110", after := #[{ on := 2, ground := Go.Ground.data }], guard := none }) (v := ?vd3) rfl (by kernel_rfl) (by kernel_rfl) (by kernel_rfl) (fun _ _ _ h => h) (Or.inl ⟨by rfl, ?rd3⟩) (by assumption) ?_
    case rd3 => (intro w hSw; (try dsimp only at hSw); (go_simp <;> with_reducible rfl))
    try simp only [Act.put, List.setIfInBounds_toArray, List.set_cons_zero, List.set_cons_succ]
    refine wpAnyH_take (i := 4) (oi := { dst := some 13, op := Go.Op.fieldAddr 41 (Go.Operand.tmp 1) 2, type := 0, pos := "msg.go:110", after := #[], guard := none }) (v := ?vd4) rfl (by kernel_rfl) (by kernel_rfl) (by kernel_rfl) (fun _ _ _ h => h) (Or.inl ⟨by rfl, ?rd4⟩) (by assumption) ?_
    case rd4 => (intro w hSw; (try dsimp only at hSw); (go_simp <;> with_reducible rfl))
    try simp only [Act.put, List.setIfInBounds_toArray, List.set_cons_zero, List.set_cons_succ]
    refine wpAnyH_take (i := 5) (oi := { dst := some 14, op := Go.Op.load 3 (Go.Operand.tmp 13), type := 3, pos := "msg.go:110", after := #[{ on := 4, ground := Go.Ground.data }], guard := none }) (v := ?vd5) rfl (by kernel_rfl) (by kernel_rfl) (by kernel_rfl) (fun _ _ _ h => h) (Or.inl ⟨by rfl, ?rd5⟩) (by assumption) ?_
    case rd5 => (intro w hSw; (try dsimp only at hSw); (go_simp <;> with_reducible rfl))
    try simp only [Act.put, List.setIfInBounds_toArray, List.set_cons_zero, List.set_cons_succ]
    refine wpAnyH_take (i := 6) (oi := { dst := some 15, op := Go.Op.fieldAddr 41 (Go.Operand.tmp 1) 3, type := 0, pos := "msg.go:110", after := #[], guard := none }) (v := ?vd6) rfl (by kernel_rfl) (by kernel_rfl) (by kernel_rfl) (fun _ _ _ h => h) (Or.inl ⟨by rfl, ?rd6⟩) (by assumption) ?_
    case rd6 => (intro w hSw; (try dsimp only at hSw); (go_simp <;> with_reducible rfl))
    try simp only [Act.put, List.setIfInBounds_toArray, List.set_cons_zero, List.set_cons_succ]
    refine wpAnyH_take (i := 7) (oi := { dst := some 16, op := Go.Op.load 3 (Go.Operand.tmp 15), type := 3, pos := "msg.go:110", after := #[{ on := 6, ground := Go.Ground.data }], guard := none }) (v := ?vd7) rfl (by kernel_rfl) (by kernel_rfl) (by kernel_rfl) (fun _ _ _ h => h) (Or.inl ⟨by rfl, ?rd7⟩) (by assumption) ?_
    case rd7 => (intro w hSw; (try dsimp only at hSw); (go_simp <;> with_reducible rfl))
    try simp only [Act.put, List.setIfInBounds_toArray, List.set_cons_zero, List.set_cons_succ]
    apply cutZ1 (fun s8 w9 => Hid (St p wd ((([] ++ (encN frm ++ (encN tt ++ encN sub))) ++ (encU c ++ encN (n : Int)))) w9) ∧ Hid (Sl p w9 b [.int .i64 (kn : Nat), .int .i64 frm, .int .i64 tt, .int .i64 sub, .int .u64 (c : Nat), .int .i64 (n : Nat), .int .i64 slot, .int .i64 time, .bool ok, .string text, .slice a L.length q]))
    intro HLd3
    apply cutZ1 (fun s8 w9 => Hid (St p wd (([] ++ (encN frm ++ (encN tt ++ encN sub)))) w9) ∧ Hid (Sl p w9 b [.int .i64 (kn : Nat), .int .i64 frm, .int .i64 tt, .int .i64 sub, .int .u64 (c : Nat), .int .i64 (n : Nat), .int .i64 slot, .int .i64 time, .bool ok, .string text, .slice a L.length q]))
    intro HLd2
    apply cutZ1 (fun s8 w9 => Hid (St p wd ([]) w9) ∧ Hid (Sl p w9 b [.int .i64 (kn : Nat), .int .i64 frm, .int .i64 tt, .int .i64 sub, .int .u64 (c : Nat), .int .i64 (n : Nat), .int .i64 slot, .int .i64 time, .bool ok, .string text, .slice a L.length q]) ∧ Hid (Sl p w9 s8 [.int .i64 frm, .int .i64 tt, .int .i64 sub]))
    intro HLd1
    · skip
      refine wpAnyH_ready (rs := [8]) (by kernel_rfl) (by simp) ?_
      refine AllReadyH.cons (o := { dst := some 17, op := Go.Op.buildSlice 61 3 #[(0, Go.Operand.tmp 12), (1, Go.Operand.tmp 14), (2, Go.Operand.tmp 16)], type := 61, pos := "msg.go:110", after := #[{ on := 3, ground := Go.Ground.data }, { on := 5, ground := Go.Ground.data }, { on := 7, ground := Go.Ground.data }], guard := none }) rfl (fun K hK => ?_) AllReadyH.nil
      go_simp
      obtain ⟨s8, hsx⟩ : ∃ s, s = wd.heap.size := ⟨_, rfl⟩
      rw [← hsx]
      obtain ⟨wn, hwx⟩ : ∃ wn, wn = wd.alloc (.cells #[.int .i64 frm, .int .i64 tt, .int .i64 sub] 3) := ⟨_, rfl⟩
      rw [← hwx]
      have gx : Gr wd wn := by rw [hwx]; exact (Gr.refl _).alloc _
      have HSl8 := Lib.hid (show Sl p wn s8 [.int .i64 frm, .int .i64 tt, .int .i64 sub] from by rw [hwx, hsx]; exact Sl.new HSt.out _ _)
      replace HSl_b := Lib.hid (Sl.gr HSt.out HSl_b.out gx)
      replace HSt := Lib.hid (HSt.out.gr gx)
      clear gx hwx hsx
      first | refine hK.out _ _ ?sd0_8 (fun hp => ?_) | (go_wp2_with fail; refine hK.out _ _ ?sd0_8 (fun hp => ?_))
      case sd0_8 => ((try dsimp only); exact ⟨HSl_b.out.2.2.2 0 _ rfl, HSl_b.out.2.2.2 1 _ rfl, HSl_b.out.2.2.2 2 _ rfl, HSl_b.out.2.2.2 3 _ rfl, HSl_b.out.2.2.2 4 _ rfl, HSl_b.out.2.2.2 5 _ rfl, HSl_b.out.2.2.2 6 _ rfl, HSl_b.out.2.2.2 7 _ rfl, HSl_b.out.2.2.2 8 _ rfl, HSl_b.out.2.2.2 9 _ rfl, HSl_b.out.2.2.2 10 _ rfl⟩)
      clear hK K hp
      try simp only [Act.put, List.setIfInBounds_toArray, List.set_cons_zero, List.set_cons_succ]
      exact HLd1 s8 wn ⟨HSt, HSl_b, HSl8⟩
    · intro s8 wy hSt
      obtain ⟨HSt, HSl_b, HSl8⟩ := hSt
      refine wpAnyH_ready (rs := [9]) (by kernel_rfl) (by simp) ?_
      refine AllReadyH.cons (o := { dst := some 18, op := Go.Op.call { callee := Go.Callee.value (Go.Operand.func 34), args := #[Go.Operand.tmp 3, Go.Operand.tmp 17], argTypes := #[80, 61] }, type := 82, pos := "msg.go:110", after := #[{ on := 8, ground := Go.Ground.data }], guard := none }) rfl (fun K hK => ?_) AllReadyH.nil
      go_simp
      go_at_call 34
      refine (stN3 frm tt sub HSt.out HSl8.out (by simp) (by omega) (by omega) (by omega)).mono ?_
      rintro e wn ⟨rfl, hSt2, hK2⟩
      replace HSl_b := Lib.hid (Sl.keeps HSl_b.out hK2)
      replace HSt := Lib.hid hSt2
      clear hSt2 hK2
      clear HSl8
      first | refine hK.out _ _ ?sd1_9 (fun hp => ?_) | (go_wp2_with fail; refine hK.out _ _ ?sd1_9 (fun hp => ?_))
      case sd1_9 => ((try dsimp only); exact ⟨HSl_b.out.2.2.2 0 _ rfl, HSl_b.out.2.2.2 1 _ rfl, HSl_b.out.2.2.2 2 _ rfl, HSl_b.out.2.2.2 3 _ rfl, HSl_b.out.2.2.2 4 _ rfl, HSl_b.out.2.2.2 5 _ rfl, HSl_b.out.2.2.2 6 _ rfl, HSl_b.out.2.2.2 7 _ rfl, HSl_b.out.2.2.2 8 _ rfl, HSl_b.out.2.2.2 9 _ rfl, HSl_b.out.2.2.2 10 _ rfl⟩)
      clear hK K hp
      try simp only [Act.put, List.setIfInBounds_toArray, List.set_cons_zero, List.set_cons_succ]
      exact HLd2 s8 wn ⟨HSt, HSl_b⟩
    · intro s8 wy hSt
      obtain ⟨HSt, HSl_b⟩ := hSt
      refine wpAnyH_ready (rs := [10]) (by kernel_rfl) (by simp) ?_
      refine AllReadyH.cons (o := { dst := some 19, op := Go.Op.call { callee := Go.Callee.value (Go.Operand.func 33), args := #[Go.Operand.tmp 10, Go.Operand.tmp 18], argTypes := #[38, 82] }, type := 0, pos := "msg.go:110", after := #[{ on := 1, ground := Go.Ground.data }, { on := 9, ground := Go.Ground.data }, { on := 9, ground := Go.Ground.chain }], guard := none }) rfl (fun K hK => ?_) AllReadyH.nil
      go_simp
      go_at_call 33
      refine (stPut c n HSt.out (by simp only [List.length_append, List.length_nil]; have := encN_le9 frm; have := encN_le9 tt; have := encN_le9 sub; have := encU_le c; have := encN_le9 (n : Int); omega) hn).mono ?_
      rintro e wn ⟨rfl, hSt2, hK2⟩
      replace HSl_b := Lib.hid (Sl.keeps HSl_b.out hK2)
      replace HSt := Lib.hid hSt2
      clear hSt2 hK2
      first | refine hK.out _ _ ?sd2_10 (fun hp => ?_) | (go_wp2_with fail; refine hK.out _ _ ?sd2_10 (fun hp => ?_))
      case sd2_10 => ((try dsimp only); exact ⟨HSl_b.out.2.2.2 0 _ rfl, HSl_b.out.2.2.2 1 _ rfl, HSl_b.out.2.2.2 2 _ rfl, HSl_b.out.2.2.2 3 _ rfl, HSl_b.out.2.2.2 4 _ rfl, HSl_b.out.2.2.2 5 _ rfl, HSl_b.out.2.2.2 6 _ rfl, HSl_b.out.2.2.2 7 _ rfl, HSl_b.out.2.2.2 8 _ rfl, HSl_b.out.2.2.2 9 _ rfl, HSl_b.out.2.2.2 10 _ rfl⟩)
      clear hK K hp
      try simp only [Act.put, List.setIfInBounds_toArray, List.set_cons_zero, List.set_cons_succ]
      exact HLd3 s8 wn ⟨HSt, HSl_b⟩
    · intro s8 wy hSt
      obtain ⟨HSt, HSl_b⟩ := hSt
      refine wpAnyH_done (by kernel_rfl) ?_ _
      replace HS1 := Lib.hid (HSt.out.sub HS1.out)
      have HSB := HSl_b
      have HS2 := HS1
      clear HSt HSl_b
      have hal : ((([] ++ (encN frm ++ (encN tt ++ encN sub))) ++ (encU c ++ encN (n : Int)))).length ≤ 100 := by simp only [List.length_append, List.length_nil]; have := encN_le9 frm; have := encN_le9 tt; have := encN_le9 sub; have := encU_le c; have := encN_le9 (n : Int); omega
      obtain ⟨acc, hacc⟩ : ∃ l, l = (([] ++ (encN frm ++ (encN tt ++ encN sub))) ++ (encU c ++ encN (n : Int))) := ⟨_, rfl⟩
      rw [← hacc] at HS1 HS2 hal
      have HACC := Lib.hid hacc
      clear hacc
      go_wp2
      refine wp_region_held_drew (S := (fun w9 => w9.cell? ⟨b, 0, none⟩ = some (.int .i64 (kn : Nat)) ∧ w9.cell? ⟨b, 1, none⟩ = some (.int .i64 frm) ∧ w9.cell? ⟨b, 2, none⟩ = some (.int .i64 tt) ∧ w9.cell? ⟨b, 3, none⟩ = some (.int .i64 sub) ∧ w9.cell? ⟨b, 4, none⟩ = some (.int .u64 (c : Nat)) ∧ w9.cell? ⟨b, 5, none⟩ = some (.int .i64 (n : Nat)) ∧ w9.cell? ⟨b, 6, none⟩ = some (.int .i64 slot) ∧ w9.cell? ⟨b, 7, none⟩ = some (.int .i64 time) ∧ w9.cell? ⟨b, 8, none⟩ = some (.bool ok) ∧ w9.cell? ⟨b, 9, none⟩ = some (.string text) ∧ w9.cell? ⟨b, 10, none⟩ = some (.slice a L.length q))) (by kernel_rfl) ?invg (fun h0 => ?_)
      case invg => ((try dsimp only); exact ⟨HSB.out.2.2.2 0 _ rfl, HSB.out.2.2.2 1 _ rfl, HSB.out.2.2.2 2 _ rfl, HSB.out.2.2.2 3 _ rfl, HSB.out.2.2.2 4 _ rfl, HSB.out.2.2.2 5 _ rfl, HSB.out.2.2.2 6 _ rfl, HSB.out.2.2.2 7 _ rfl, HSB.out.2.2.2 8 _ rfl, HSB.out.2.2.2 9 _ rfl, HSB.out.2.2.2 10 _ rfl⟩)
      have HSt := Lib.hid (St.start (HS1.out.gr (Gr.refl wy).drew).1)
      replace HS1 := Lib.hid (HS1.out.gr (Gr.refl wy).drew)
      have HSl_b := Lib.hid (Sl.gr HS2.out HSB.out (Gr.refl wy).drew)
      clear HS2 HSB
      generalize wy.drew = wd at *
      refine wpAnyH_take (i := 0) (oi := { dst := some 20, op := Go.Op.fieldAddr 41 (Go.Operand.tmp 1) 5, type := 0, pos := "msg.go:111", after := #[], guard := none }) (v := ?vg0) rfl (by kernel_rfl) (by kernel_rfl) (by kernel_rfl) (fun _ _ _ h => h) (Or.inl ⟨by rfl, ?rg0⟩) (by assumption) ?_
      case rg0 => (intro w hSw; (try dsimp only at hSw); (go_simp <;> with_reducible rfl))
      try simp only [Act.put, List.setIfInBounds_toArray, List.set_cons_zero, List.set_cons_succ]
      refine wpAnyH_take (i := 1) (oi := { dst := some 21, op := Go.Op.load 3 (Go.Operand.tmp 20), type := 3, pos := "msg.go:111", after := #[{ on := 0, ground := Go.Ground.data }], guard := none }) (v := ?vg1) rfl (by kernel_rfl) (by kernel_rfl) (by kernel_rfl) (fun _ _ _ h => h) (Or.inl ⟨by rfl, ?rg1⟩) (by assumption) ?_
      case rg1 => (intro w hSw; (try dsimp only at hSw); (go_simp <;> with_reducible rfl))
      try simp only [Act.put, List.setIfInBounds_toArray, List.set_cons_zero, List.set_cons_succ]
      refine wpAnyH_take (i := 2) (oi := { dst := some 22, op := Go.Op.fieldAddr 41 (Go.Operand.tmp 1) 6, type := 0, pos := "msg.go:111", after := #[], guard := none }) (v := ?vg2) rfl (by kernel_rfl) (by kernel_rfl) (by kernel_rfl) (fun _ _ _ h => h) (Or.inl ⟨by rfl, ?rg2⟩) (by assumption) ?_
      case rg2 => (intro w hSw; (try dsimp only at hSw); (go_simp <;> with_reducible rfl))
      try simp only [Act.put, List.setIfInBounds_toArray, List.set_cons_zero, List.set_cons_succ]
      refine wpAnyH_take (i := 3) (oi := { dst := some 23, op := Go.Op.load 3 (Go.Operand.tmp 22), type := 3, pos := "msg.go:111", after := #[{ on := 2, ground := Go.Ground.data }], guard := none }) (v := ?vg3) rfl (by kernel_rfl) (by kernel_rfl) (by kernel_rfl) (fun _ _ _ h => h) (Or.inl ⟨by rfl, ?rg3⟩) (by assumption) ?_
      case rg3 => (intro w hSw; (try dsimp only at hSw); (go_simp <;> with_reducible rfl))
      try simp only [Act.put, List.setIfInBounds_toArray, List.set_cons_zero, List.set_cons_succ]
      refine wpAnyH_take (i := 6) (oi := { dst := some 26, op := Go.Op.fieldAddr 41 (Go.Operand.tmp 1) 7, type := 0, pos := "msg.go:111", after := #[], guard := none }) (v := ?vg6) rfl (by kernel_rfl) (by kernel_rfl) (by kernel_rfl) (fun _ _ _ h => h) (Or.inl ⟨by rfl, ?rg6⟩) (by assumption) ?_
      case rg6 => (intro w hSw; (try dsimp only at hSw); (go_simp <;> with_reducible rfl))
      try simp only [Act.put, List.setIfInBounds_toArray, List.set_cons_zero, List.set_cons_succ]
      refine wpAnyH_take (i := 7) (oi := { dst := some 27, op := Go.Op.load 4 (Go.Operand.tmp 26), type := 4, pos := "msg.go:111", after := #[{ on := 6, ground := Go.Ground.data }], guard := none }) (v := ?vg7) rfl (by kernel_rfl) (by kernel_rfl) (by kernel_rfl) (fun _ _ _ h => h) (Or.inl ⟨by rfl, ?rg7⟩) (by assumption) ?_
      case rg7 => (intro w hSw; (try dsimp only at hSw); (go_simp <;> with_reducible rfl))
      try simp only [Act.put, List.setIfInBounds_toArray, List.set_cons_zero, List.set_cons_succ]
      refine wpAnyH_take (i := 10) (oi := { dst := some 30, op := Go.Op.fieldAddr 41 (Go.Operand.tmp 1) 8, type := 0, pos := "msg.go:111", after := #[], guard := none }) (v := ?vg10) rfl (by kernel_rfl) (by kernel_rfl) (by kernel_rfl) (fun _ _ _ h => h) (Or.inl ⟨by rfl, ?rg10⟩) (by assumption) ?_
      case rg10 => (intro w hSw; (try dsimp only at hSw); (go_simp <;> with_reducible rfl))
      try simp only [Act.put, List.setIfInBounds_toArray, List.set_cons_zero, List.set_cons_succ]
      refine wpAnyH_take (i := 11) (oi := { dst := some 31, op := Go.Op.load 9 (Go.Operand.tmp 30), type := 9, pos := "msg.go:111", after := #[{ on := 10, ground := Go.Ground.data }], guard := none }) (v := ?vg11) rfl (by kernel_rfl) (by kernel_rfl) (by kernel_rfl) (fun _ _ _ h => h) (Or.inl ⟨by rfl, ?rg11⟩) (by assumption) ?_
      case rg11 => (intro w hSw; (try dsimp only at hSw); (go_simp <;> with_reducible rfl))
      try simp only [Act.put, List.setIfInBounds_toArray, List.set_cons_zero, List.set_cons_succ]
      refine wpAnyH_take (i := 14) (oi := { dst := some 34, op := Go.Op.fieldAddr 41 (Go.Operand.tmp 1) 9, type := 0, pos := "msg.go:111", after := #[], guard := none }) (v := ?vg14) rfl (by kernel_rfl) (by kernel_rfl) (by kernel_rfl) (fun _ _ _ h => h) (Or.inl ⟨by rfl, ?rg14⟩) (by assumption) ?_
      case rg14 => (intro w hSw; (try dsimp only at hSw); (go_simp <;> with_reducible rfl))
      try simp only [Act.put, List.setIfInBounds_toArray, List.set_cons_zero, List.set_cons_succ]
      refine wpAnyH_take (i := 15) (oi := { dst := some 35, op := Go.Op.load 39 (Go.Operand.tmp 34), type := 39, pos := "msg.go:111", after := #[{ on := 14, ground := Go.Ground.data }], guard := none }) (v := ?vg15) rfl (by kernel_rfl) (by kernel_rfl) (by kernel_rfl) (fun _ _ _ h => h) (Or.inl ⟨by rfl, ?rg15⟩) (by assumption) ?_
      case rg15 => (intro w hSw; (try dsimp only at hSw); (go_simp <;> with_reducible rfl))
      try simp only [Act.put, List.setIfInBounds_toArray, List.set_cons_zero, List.set_cons_succ]
      refine wpAnyH_take (i := 16) (oi := { dst := some 36, op := Go.Op.call { callee := Go.Callee.builtin Go.Builtin.len, args := #[Go.Operand.tmp 35], argTypes := #[39] }, type := 3, pos := "msg.go:111", after := #[{ on := 15, ground := Go.Ground.data }], guard := none }) (v := ?vg16) rfl (by kernel_rfl) (by kernel_rfl) (by kernel_rfl) (fun _ _ _ h => h) (Or.inl ⟨by rfl, ?rg16⟩) (by assumption) ?_
      case rg16 => (intro w hSw; (try dsimp only at hSw); (go_simp <;> with_reducible rfl))
      try simp only [Act.put, List.setIfInBounds_toArray, List.set_cons_zero, List.set_cons_succ]
      apply cutZ4 (fun s4 s8 s12 s17 w9 => Hid (St p wd (acc ++ (encN slot ++ encN time) ++ encB ok ++ Enc.encS (bytesOf text) ++ encN (L.length : Int)) w9) ∧ Hid (Sl p w9 b [.int .i64 (kn : Nat), .int .i64 frm, .int .i64 tt, .int .i64 sub, .int .u64 (c : Nat), .int .i64 (n : Nat), .int .i64 slot, .int .i64 time, .bool ok, .string text, .slice a L.length q]))
      intro HLg30
      apply cutZ4 (fun s4 s8 s12 s17 w9 => Hid (St p wd (acc ++ (encN slot ++ encN time) ++ encB ok ++ Enc.encS (bytesOf text)) w9) ∧ Hid (Sl p w9 b [.int .i64 (kn : Nat), .int .i64 frm, .int .i64 tt, .int .i64 sub, .int .u64 (c : Nat), .int .i64 (n : Nat), .int .i64 slot, .int .i64 time, .bool ok, .string text, .slice a L.length q]) ∧ Hid (Sl p w9 s17 [.int .i64 (L.length : Nat)]))
      intro HLg29
      apply cutZ4 (fun s4 s8 s12 s17 w9 => Hid (St p wd (acc ++ (encN slot ++ encN time) ++ encB ok) w9) ∧ Hid (Sl p w9 b [.int .i64 (kn : Nat), .int .i64 frm, .int .i64 tt, .int .i64 sub, .int .u64 (c : Nat), .int .i64 (n : Nat), .int .i64 slot, .int .i64 time, .bool ok, .string text, .slice a L.length q]) ∧ Hid (Sl p w9 s12 [.string text]) ∧ Hid (Sl p w9 s17 [.int .i64 (L.length : Nat)]))
      intro HLg28
      apply cutZ3 (fun s4 s8 s12 w9 => Hid (St p wd (acc ++ (encN slot ++ encN time) ++ encB ok ++ Enc.encS (bytesOf text)) w9) ∧ Hid (Sl p w9 b [.int .i64 (kn : Nat), .int .i64 frm, .int .i64 tt, .int .i64 sub, .int .u64 (c : Nat), .int .i64 (n : Nat), .int .i64 slot, .int .i64 time, .bool ok, .string text, .slice a L.length q]))
      intro HLg27
      apply cutZ4 (fun s4 s8 s12 s17 w9 => Hid (St p wd (acc ++ (encN slot ++ encN time)) w9) ∧ Hid (Sl p w9 b [.int .i64 (kn : Nat), .int .i64 frm, .int .i64 tt, .int .i64 sub, .int .u64 (c : Nat), .int .i64 (n : Nat), .int .i64 slot, .int .i64 time, .bool ok, .string text, .slice a L.length q]) ∧ Hid (Sl p w9 s8 [.bool ok]) ∧ Hid (Sl p w9 s12 [.string text]) ∧ Hid (Sl p w9 s17 [.int .i64 (L.length : Nat)]))
      intro HLg26
      apply cutZ3 (fun s4 s8 s17 w9 => Hid (St p wd (acc ++ (encN slot ++ encN time) ++ encB ok) w9) ∧ Hid (Sl p w9 b [.int .i64 (kn : Nat), .int .i64 frm, .int .i64 tt, .int .i64 sub, .int .u64 (c : Nat), .int .i64 (n : Nat), .int .i64 slot, .int .i64 time, .bool ok, .string text, .slice a L.length q]) ∧ Hid (Sl p w9 s17 [.int .i64 (L.length : Nat)]))
      intro HLg25
      apply cutZ3 (fun s4 s8 s12 w9 => Hid (St p wd (acc ++ (encN slot ++ encN time) ++ encB ok) w9) ∧ Hid (Sl p w9 b [.int .i64 (kn : Nat), .int .i64 frm, .int .i64 tt, .int .i64 sub, .int .u64 (c : Nat), .int .i64 (n : Nat), .int .i64 slot, .int .i64 time, .bool ok, .string text, .slice a L.length q]) ∧ Hid (Sl p w9 s12 [.string text]))
      intro HLg24
      apply cutZ4 (fun s4 s8 s12 s17 w9 => Hid (St p wd (acc) w9) ∧ Hid (Sl p w9 b [.int .i64 (kn : Nat), .int .i64 frm, .int .i64 tt, .int .i64 sub, .int .u64 (c : Nat), .int .i64 (n : Nat), .int .i64 slot, .int .i64 time, .bool ok, .string text, .slice a L.length q]) ∧ Hid (Sl p w9 s4 [.int .i64 slot, .int .i64 time]) ∧ Hid (Sl p w9 s8 [.bool ok]) ∧ Hid (Sl p w9 s12 [.string text]) ∧ Hid (Sl p w9 s17 [.int .i64 (L.length : Nat)]))
      intro HLg23
      apply cutZ3 (fun s4 s12 s17 w9 => Hid (St p wd (acc ++ (encN slot ++ encN time)) w9) ∧ Hid (Sl p w9 b [.int .i64 (kn : Nat), .int .i64 frm, .int .i64 tt, .int .i64 sub, .int .u64 (c : Nat), .int .i64 (n : Nat), .int .i64 slot, .int .i64 time, .bool ok, .string text, .slice a L.length q]) ∧ Hid (Sl p w9 s12 [.string text]) ∧ Hid (Sl p w9 s17 [.int .i64 (L.length : Nat)]))
      intro HLg22
      apply cutZ3 (fun s4 s8 s17 w9 => Hid (St p wd (acc ++ (encN slot ++ encN time)) w9) ∧ Hid (Sl p w9 b [.int .i64 (kn : Nat), .int .i64 frm, .int .i64 tt, .int .i64 sub, .int .u64 (c : Nat), .int .i64 (n : Nat), .int .i64 slot, .int .i64 time, .bool ok, .string text, .slice a L.length q]) ∧ Hid (Sl p w9 s8 [.bool ok]) ∧ Hid (Sl p w9 s17 [.int .i64 (L.length : Nat)]))
      intro HLg21
      apply cutZ3 (fun s4 s8 s12 w9 => Hid (St p wd (acc ++ (encN slot ++ encN time)) w9) ∧ Hid (Sl p w9 b [.int .i64 (kn : Nat), .int .i64 frm, .int .i64 tt, .int .i64 sub, .int .u64 (c : Nat), .int .i64 (n : Nat), .int .i64 slot, .int .i64 time, .bool ok, .string text, .slice a L.length q]) ∧ Hid (Sl p w9 s8 [.bool ok]) ∧ Hid (Sl p w9 s12 [.string text]))
      intro HLg20
      apply cutZ2 (fun s4 s8 w9 => Hid (St p wd (acc ++ (encN slot ++ encN time) ++ encB ok) w9) ∧ Hid (Sl p w9 b [.int .i64 (kn : Nat), .int .i64 frm, .int .i64 tt, .int .i64 sub, .int .u64 (c : Nat), .int .i64 (n : Nat), .int .i64 slot, .int .i64 time, .bool ok, .string text, .slice a L.length q]))
      intro HLg19
      apply cutZ3 (fun s8 s12 s17 w9 => Hid (St p wd (acc) w9) ∧ Hid (Sl p w9 b [.int .i64 (kn : Nat), .int .i64 frm, .int .i64 tt, .int .i64 sub, .int .u64 (c : Nat), .int .i64 (n : Nat), .int .i64 slot, .int .i64 time, .bool ok, .string text, .slice a L.length q]) ∧ Hid (Sl p w9 s8 [.bool ok]) ∧ Hid (Sl p w9 s12 [.string text]) ∧ Hid (Sl p w9 s17 [.int .i64 (L.length : Nat)]))
      intro HLg18
      apply cutZ3 (fun s4 s12 s17 w9 => Hid (St p wd (acc) w9) ∧ Hid (Sl p w9 b [.int .i64 (kn : Nat), .int .i64 frm, .int .i64 tt, .int .i64 sub, .int .u64 (c : Nat), .int .i64 (n : Nat), .int .i64 slot, .int .i64 time, .bool ok, .string text, .slice a L.length q]) ∧ Hid (Sl p w9 s4 [.int .i64 slot, .int .i64 time]) ∧ Hid (Sl p w9 s12 [.string text]) ∧ Hid (Sl p w9 s17 [.int .i64 (L.length : Nat)]))
      intro HLg17
      apply cutZ3 (fun s4 s8 s17 w9 => Hid (St p wd (acc) w9) ∧ Hid (Sl p w9 b [.int .i64 (kn : Nat), .int .i64 frm, .int .i64 tt, .int .i64 sub, .int .u64 (c : Nat), .int .i64 (n : Nat), .int .i64 slot, .int .i64 time, .bool ok, .string text, .slice a L.length q]) ∧ Hid (Sl p w9 s4 [.int .i64 slot, .int .i64 time]) ∧ Hid (Sl p w9 s8 [.bool ok]) ∧ Hid (Sl p w9 s17 [.int .i64 (L.length : Nat)]))
      intro HLg16
      apply cutZ3 (fun s4 s8 s12 w9 => Hid (St p wd (acc) w9) ∧ Hid (Sl p w9 b [.int .i64 (kn : Nat), .int .i64 frm, .int .i64 tt, .int .i64 sub, .int .u64 (c : Nat), .int .i64 (n : Nat), .int .i64 slot, .int .i64 time, .bool ok, .string text, .slice a L.length q]) ∧ Hid (Sl p w9 s4 [.int .i64 slot, .int .i64 time]) ∧ Hid (Sl p w9 s8 [.bool ok]) ∧ Hid (Sl p w9 s12 [.string text]))
      intro HLg15
      apply cutZ2 (fun s4 s17 w9 => Hid (St p wd (acc ++ (encN slot ++ encN time)) w9) ∧ Hid (Sl p w9 b [.int .i64 (kn : Nat), .int .i64 frm, .int .i64 tt, .int .i64 sub, .int .u64 (c : Nat), .int .i64 (n : Nat), .int .i64 slot, .int .i64 time, .bool ok, .string text, .slice a L.length q]) ∧ Hid (Sl p w9 s17 [.int .i64 (L.length : Nat)]))
      intro HLg14
      apply cutZ2 (fun s4 s12 w9 => Hid (St p wd (acc ++ (encN slot ++ encN time)) w9) ∧ Hid (Sl p w9 b [.int .i64 (kn : Nat), .int .i64 frm, .int .i64 tt, .int .i64 sub, .int .u64 (c : Nat), .int .i64 (n : Nat), .int .i64 slot, .int .i64 time, .bool ok, .string text, .slice a L.length q]) ∧ Hid (Sl p w9 s12 [.string text]))
      intro HLg13
      apply cutZ2 (fun s4 s8 w9 => Hid (St p wd (acc ++ (encN slot ++ encN time)) w9) ∧ Hid (Sl p w9 b [.int .i64 (kn : Nat), .int .i64 frm, .int .i64 tt, .int .i64 sub, .int .u64 (c : Nat), .int .i64 (n : Nat), .int .i64 slot, .int .i64 time, .bool ok, .string text, .slice a L.length q]) ∧ Hid (Sl p w9 s8 [.bool ok]))
      intro HLg12
      apply cutZ2 (fun s12 s17 w9 => Hid (St p wd (acc) w9) ∧ Hid (Sl p w9 b [.int .i64 (kn : Nat), .int .i64 frm, .int .i64 tt, .int .i64 sub, .int .u64 (c : Nat), .int .i64 (n : Nat), .int .i64 slot, .int .i64 time, .bool ok, .string text, .slice a L.length q]) ∧ Hid (Sl p w9 s12 [.string text]) ∧ Hid (Sl p w9 s17 [.int .i64 (L.length : Nat)]))
      intro HLg11
      apply cutZ2 (fun s8 s17 w9 => Hid (St p wd (acc) w9) ∧ Hid (Sl p w9 b [.int .i64 (kn : Nat), .int .i64 frm, .int .i64 tt, .int .i64 sub, .int .u64 (c : Nat), .int .i64 (n : Nat), .int .i64 slot, .int .i64 time, .bool ok, .string text, .slice a L.length q]) ∧ Hid (Sl p w9 s8 [.bool ok]) ∧ Hid (Sl p w9 s17 [.int .i64 (L.length : Nat)]))
      intro HLg10
      apply cutZ2 (fun s8 s12 w9 => Hid (St p wd (acc) w9) ∧ Hid (Sl p w9 b [.int .i64 (kn : Nat), .int .i64 frm, .int .i64 tt, .int .i64 sub, .int .u64 (c : Nat), .int .i64 (n : Nat), .int .i64 slot, .int .i64 time, .bool ok, .string text, .slice a L.length q]) ∧ Hid (Sl p w9 s8 [.bool ok]) ∧ Hid (Sl p w9 s12 [.string text]))
      intro HLg9
      apply cutZ2 (fun s4 s17 w9 => Hid (St p wd (acc) w9) ∧ Hid (Sl p w9 b [.int .i64 (kn : Nat), .int .i64 frm, .int .i64 tt, .int .i64 sub, .int .u64 (c : Nat), .int .i64 (n : Nat), .int .i64 slot, .int .i64 time, .bool ok, .string text, .slice a L.length q]) ∧ Hid (Sl p w9 s4 [.int .i64 slot, .int .i64 time]) ∧ Hid (Sl p w9 s17 [.int .i64 (L.length : Nat)]))
      intro HLg8
      apply cutZ2 (fun s4 s12 w9 => Hid (St p wd (acc) w9) ∧ Hid (Sl p w9 b [.int .i64 (kn : Nat), .int .i64 frm, .int .i64 tt, .int .i64 sub, .int .u64 (c : Nat), .int .i64 (n : Nat), .int .i64 slot, .int .i64 time, .bool ok, .string text, .slice a L.length q]) ∧ Hid (Sl p w9 s4 [.int .i64 slot, .int .i64 time]) ∧ Hid (Sl p w9 s12 [.string text]))
      intro HLg7
      apply cutZ2 (fun s4 s8 w9 => Hid (St p wd (acc) w9) ∧ Hid (Sl p w9 b [.int .i64 (kn : Nat), .int .i64 frm, .int .i64 tt, .int .i64 sub, .int .u64 (c : Nat), .int .i64 (n : Nat), .int .i64 slot, .int .i64 time, .bool ok, .string text, .slice a L.length q]) ∧ Hid (Sl p w9 s4 [.int .i64 slot, .int .i64 time]) ∧ Hid (Sl p w9 s8 [.bool ok]))
      intro HLg6
      apply cutZ1 (fun s4 w9 => Hid (St p wd (acc ++ (encN slot ++ encN time)) w9) ∧ Hid (Sl p w9 b [.int .i64 (kn : Nat), .int .i64 frm, .int .i64 tt, .int .i64 sub, .int .u64 (c : Nat), .int .i64 (n : Nat), .int .i64 slot, .int .i64 time, .bool ok, .string text, .slice a L.length q]))
      intro HLg5
      apply cutZ1 (fun s17 w9 => Hid (St p wd (acc) w9) ∧ Hid (Sl p w9 b [.int .i64 (kn : Nat), .int .i64 frm, .int .i64 tt, .int .i64 sub, .int .u64 (c : Nat), .int .i64 (n : Nat), .int .i64 slot, .int .i64 time, .bool ok, .string text, .slice a L.length q]) ∧ Hid (Sl p w9 s17 [.int .i64 (L.length : Nat)]))
      intro HLg4
      apply cutZ1 (fun s12 w9 => Hid (St p wd (acc) w9) ∧ Hid (Sl p w9 b [.int .i64 (kn : Nat), .int .i64 frm, .int .i64 tt, .int .i64 sub, .int .u64 (c : Nat), .int .i64 (n : Nat), .int .i64 slot, .int .i64 time, .bool ok, .string text, .slice a L.length q]) ∧ Hid (Sl p w9 s12 [.string text]))
      intro HLg3
      apply cutZ1 (fun s8 w9 => Hid (St p wd (acc) w9) ∧ Hid (Sl p w9 b [.int .i64 (kn : Nat), .int .i64 frm, .int .i64 tt, .int .i64 sub, .int .u64 (c : Nat), .int .i64 (n : Nat), .int .i64 slot, .int .i64 time, .bool ok, .string text, .slice a L.length q]) ∧ Hid (Sl p w9 s8 [.bool ok]))
      intro HLg2
      apply cutZ1 (fun s4 w9 => Hid (St p wd (acc) w9) ∧ Hid (Sl p w9 b [.int .i64 (kn : Nat), .int .i64 frm, .int .i64 tt, .int .i64 sub, .int .u64 (c : Nat), .int .i64 (n : Nat), .int .i64 slot, .int .i64 time, .bool ok, .string text, .slice a L.length q]) ∧ Hid (Sl p w9 s4 [.int .i64 slot, .int .i64 time]))
      intro HLg1
      · skip
        refine wpAnyH_ready (rs := [4, 8, 12, 17]) (by kernel_rfl) (by simp) ?_
        refine AllReadyH.cons (o := { dst := some 24, op := Go.Op.buildSlice 61 2 #[(0, Go.Operand.tmp 21), (1, Go.Operand.tmp 23)], type := 61, pos := "msg.go:111", after := #[{ on := 1, ground := Go.Ground.data }, { on := 3, ground := Go.Ground.data }], guard := none }) rfl (fun K hK => ?_) (AllReadyH.cons (o := { dst := some 28, op := Go.Op.buildSlice 109 1 #[(0, Go.Operand.tmp 27)], type := 109, pos := "msg.go:111", after := #[{ on := 7, ground := Go.Ground.data }], guard := none }) rfl (fun K hK => ?_) (AllReadyH.cons (o := { dst := some 32, op := Go.Op.buildSlice 110 1 #[(0, Go.Operand.tmp 31)], type := 110, pos := "msg.go:111", after := #[{ on := 11, ground := Go.Ground.data }], guard := none }) rfl (fun K hK => ?_) (AllReadyH.cons (o := { dst := some 37, op := Go.Op.buildSlice 61 1 #[(0, Go.Operand.tmp 36)], type := 61, pos := "msg.go:111", after := #[{ on := 16, ground := Go.Ground.data }], guard := none }) rfl (fun K hK => ?_) AllReadyH.nil)))
        · skip
          go_simp
          obtain ⟨s4, hsx⟩ : ∃ s, s = wd.heap.size := ⟨_, rfl⟩
          rw [← hsx]
          obtain ⟨wn, hwx⟩ : ∃ wn, wn = wd.alloc (.cells #[.int .i64 slot, .int .i64 time] 3) := ⟨_, rfl⟩
          rw [← hwx]
          have gx : Gr wd wn := by rw [hwx]; exact (Gr.refl _).alloc _
          have HSl4 := Lib.hid (show Sl p wn s4 [.int .i64 slot, .int .i64 time] from by rw [hwx, hsx]; exact Sl.new HSt.out _ _)
          replace HSl_b := Lib.hid (Sl.gr HSt.out HSl_b.out gx)
          replace HSt := Lib.hid (HSt.out.gr gx)
          clear gx hwx hsx
          first | refine hK.out _ _ ?sg0_4 (fun hp => ?_) | (go_wp2_with fail; refine hK.out _ _ ?sg0_4 (fun hp => ?_))
          case sg0_4 => ((try dsimp only); exact ⟨HSl_b.out.2.2.2 0 _ rfl, HSl_b.out.2.2.2 1 _ rfl, HSl_b.out.2.2.2 2 _ rfl, HSl_b.out.2.2.2 3 _ rfl, HSl_b.out.2.2.2 4 _ rfl, HSl_b.out.2.2.2 5 _ rfl, HSl_b.out.2.2.2 6 _ rfl, HSl_b.out.2.2.2 7 _ rfl, HSl_b.out.2.2.2 8 _ rfl, HSl_b.out.2.2.2 9 _ rfl, HSl_b.out.2.2.2 10 _ rfl⟩)
          clear hK K hp
          try simp only [Act.put, List.setIfInBounds_toArray, List.set_cons_zero, List.set_cons_succ]
          exact HLg1 s4 wn ⟨HSt, HSl_b, HSl4⟩
        · skip
          go_simp
          obtain ⟨s8, hsx⟩ : ∃ s, s = wd.heap.size := ⟨_, rfl⟩
          rw [← hsx]
          obtain ⟨wn, hwx⟩ : ∃ wn, wn = wd.alloc (.cells #[.bool ok] 4) := ⟨_, rfl⟩
          rw [← hwx]
          have gx : Gr wd wn := by rw [hwx]; exact (Gr.refl _).alloc _
          have HSl8 := Lib.hid (show Sl p wn s8 [.bool ok] from by rw [hwx, hsx]; exact Sl.new HSt.out _ _)
          replace HSl_b := Lib.hid (Sl.gr HSt.out HSl_b.out gx)
          replace HSt := Lib.hid (HSt.out.gr gx)
          clear gx hwx hsx
          first | refine hK.out _ _ ?sg0_8 (fun hp => ?_) | (go_wp2_with fail; refine hK.out _ _ ?sg0_8 (fun hp => ?_))
          case sg0_8 => ((try dsimp only); exact ⟨HSl_b.out.2.2.2 0 _ rfl, HSl_b.out.2.2.2 1 _ rfl, HSl_b.out.2.2.2 2 _ rfl, HSl_b.out.2.2.2 3 _ rfl, HSl_b.out.2.2.2 4 _ rfl, HSl_b.out.2.2.2 5 _ rfl, HSl_b.out.2.2.2 6 _ rfl, HSl_b.out.2.2.2 7 _ rfl, HSl_b.out.2.2.2 8 _ rfl, HSl_b.out.2.2.2 9 _ rfl, HSl_b.out.2.2.2 10 _ rfl⟩)
          clear hK K hp
          try simp only [Act.put, List.setIfInBounds_toArray, List.set_cons_zero, List.set_cons_succ]
          exact HLg2 s8 wn ⟨HSt, HSl_b, HSl8⟩
        · skip
          go_simp
          obtain ⟨s12, hsx⟩ : ∃ s, s = wd.heap.size := ⟨_, rfl⟩
          rw [← hsx]
          obtain ⟨wn, hwx⟩ : ∃ wn, wn = wd.alloc (.cells #[.string text] 9) := ⟨_, rfl⟩
          rw [← hwx]
          have gx : Gr wd wn := by rw [hwx]; exact (Gr.refl _).alloc _
          have HSl12 := Lib.hid (show Sl p wn s12 [.string text] from by rw [hwx, hsx]; exact Sl.new HSt.out _ _)
          replace HSl_b := Lib.hid (Sl.gr HSt.out HSl_b.out gx)
          replace HSt := Lib.hid (HSt.out.gr gx)
          clear gx hwx hsx
          first | refine hK.out _ _ ?sg0_12 (fun hp => ?_) | (go_wp2_with fail; refine hK.out _ _ ?sg0_12 (fun hp => ?_))
          case sg0_12 => ((try dsimp only); exact ⟨HSl_b.out.2.2.2 0 _ rfl, HSl_b.out.2.2.2 1 _ rfl, HSl_b.out.2.2.2 2 _ rfl, HSl_b.out.2.2.2 3 _ rfl, HSl_b.out.2.2.2 4 _ rfl, HSl_b.out.2.2.2 5 _ rfl, HSl_b.out.2.2.2 6 _ rfl, HSl_b.out.2.2.2 7 _ rfl, HSl_b.out.2.2.2 8 _ rfl, HSl_b.out.2.2.2 9 _ rfl, HSl_b.out.2.2.2 10 _ rfl⟩)
          clear hK K hp
          try simp only [Act.put, List.setIfInBounds_toArray, List.set_cons_zero, List.set_cons_succ]
          exact HLg3 s12 wn ⟨HSt, HSl_b, HSl12⟩
        · skip
          go_simp
          obtain ⟨s17, hsx⟩ : ∃ s, s = wd.heap.size := ⟨_, rfl⟩
          rw [← hsx]
          obtain ⟨wn, hwx⟩ : ∃ wn, wn = wd.alloc (.cells #[.int .i64 (L.length : Nat)] 3) := ⟨_, rfl⟩
          rw [← hwx]
          have gx : Gr wd wn := by rw [hwx]; exact (Gr.refl _).alloc _
          have HSl17 := Lib.hid (show Sl p wn s17 [.int .i64 (L.length : Nat)] from by rw [hwx, hsx]; exact Sl.new HSt.out _ _)
          replace HSl_b := Lib.hid (Sl.gr HSt.out HSl_b.out gx)
          replace HSt := Lib.hid (HSt.out.gr gx)
          clear gx hwx hsx
          first | refine hK.out _ _ ?sg0_17 (fun hp => ?_) | (go_wp2_with fail; refine hK.out _ _ ?sg0_17 (fun hp => ?_))
          case sg0_17 => ((try dsimp only); exact ⟨HSl_b.out.2.2.2 0 _ rfl, HSl_b.out.2.2.2 1 _ rfl, HSl_b.out.2.2.2 2 _ rfl, HSl_b.out.2.2.2 3 _ rfl, HSl_b.out.2.2.2 4 _ rfl, HSl_b.out.2.2.2 5 _ rfl, HSl_b.out.2.2.2 6 _ rfl, HSl_b.out.2.2.2 7 _ rfl, HSl_b.out.2.2.2 8 _ rfl, HSl_b.out.2.2.2 9 _ rfl, HSl_b.out.2.2.2 10 _ rfl⟩)
          clear hK K hp
          try simp only [Act.put, List.setIfInBounds_toArray, List.set_cons_zero, List.set_cons_succ]
          exact HLg4 s17 wn ⟨HSt, HSl_b, HSl17⟩
      · intro s4 wy hSt
        obtain ⟨HSt, HSl_b, HSl4⟩ := hSt
        refine wpAnyH_ready (rs := [5, 8, 12, 17]) (by kernel_rfl) (by simp) ?_
        refine AllReadyH.cons (o := { dst := some 25, op := Go.Op.call { callee := Go.Callee.value (Go.Operand.func 34), args := #[Go.Operand.tmp 3, Go.Operand.tmp 24], argTypes := #[80, 61] }, type := 82, pos := "msg.go:111", after := #[{ on := 4, ground := Go.Ground.data }], guard := none }) rfl (fun K hK => ?_) (AllReadyH.cons (o := { dst := some 28, op := Go.Op.buildSlice 109 1 #[(0, Go.Operand.tmp 27)], type := 109, pos := "msg.go:111", after := #[{ on := 7, ground := Go.Ground.data }], guard := none }) rfl (fun K hK => ?_) (AllReadyH.cons (o := { dst := some 32, op := Go.Op.buildSlice 110 1 #[(0, Go.Operand.tmp 31)], type := 110, pos := "msg.go:111", after := #[{ on := 11, ground := Go.Ground.data }], guard := none }) rfl (fun K hK => ?_) (AllReadyH.cons (o := { dst := some 37, op := Go.Op.buildSlice 61 1 #[(0, Go.Operand.tmp 36)], type := 61, pos := "msg.go:111", after := #[{ on := 16, ground := Go.Ground.data }], guard := none }) rfl (fun K hK => ?_) AllReadyH.nil)))
        · skip
          go_simp
          go_at_call 34
          refine (stN2 slot time HSt.out HSl4.out (by omega) (by omega) (by omega)).mono ?_
          rintro e wn ⟨rfl, hSt2, hK2⟩
          replace HSl_b := Lib.hid (Sl.keeps HSl_b.out hK2)
          replace HSt := Lib.hid hSt2
          clear hSt2 hK2
          clear HSl4
          first | refine hK.out _ _ ?sg1_5 (fun hp => ?_) | (go_wp2_with fail; refine hK.out _ _ ?sg1_5 (fun hp => ?_))
          case sg1_5 => ((try dsimp only); exact ⟨HSl_b.out.2.2.2 0 _ rfl, HSl_b.out.2.2.2 1 _ rfl, HSl_b.out.2.2.2 2 _ rfl, HSl_b.out.2.2.2 3 _ rfl, HSl_b.out.2.2.2 4 _ rfl, HSl_b.out.2.2.2 5 _ rfl, HSl_b.out.2.2.2 6 _ rfl, HSl_b.out.2.2.2 7 _ rfl, HSl_b.out.2.2.2 8 _ rfl, HSl_b.out.2.2.2 9 _ rfl, HSl_b.out.2.2.2 10 _ rfl⟩)
          clear hK K hp
          try simp only [Act.put, List.setIfInBounds_toArray, List.set_cons_zero, List.set_cons_succ]
          exact HLg5 s4 wn ⟨HSt, HSl_b⟩
        · skip
          go_simp
          obtain ⟨s8, hsx⟩ : ∃ s, s = wy.heap.size := ⟨_, rfl⟩
          rw [← hsx]
          obtain ⟨wn, hwx⟩ : ∃ wn, wn = wy.alloc (.cells #[.bool ok] 4) := ⟨_, rfl⟩
          rw [← hwx]
          have gx : Gr wy wn := by rw [hwx]; exact (Gr.refl _).alloc _
          have HSl8 := Lib.hid (show Sl p wn s8 [.bool ok] from by rw [hwx, hsx]; exact Sl.new HSt.out _ _)
          replace HSl_b := Lib.hid (Sl.gr HSt.out HSl_b.out gx)
          replace HSl4 := Lib.hid (Sl.gr HSt.out HSl4.out gx)
          replace HSt := Lib.hid (HSt.out.gr gx)
          clear gx hwx hsx
          first | refine hK.out _ _ ?sg1_8 (fun hp => ?_) | (go_wp2_with fail; refine hK.out _ _ ?sg1_8 (fun hp => ?_))
          case sg1_8 => ((try dsimp only); exact ⟨HSl_b.out.2.2.2 0 _ rfl, HSl_b.out.2.2.2 1 _ rfl, HSl_b.out.2.2.2 2 _ rfl, HSl_b.out.2.2.2 3 _ rfl, HSl_b.out.2.2.2 4 _ rfl, HSl_b.out.2.2.2 5 _ rfl, HSl_b.out.2.2.2 6 _ rfl, HSl_b.out.2.2.2 7 _ rfl, HSl_b.out.2.2.2 8 _ rfl, HSl_b.out.2.2.2 9 _ rfl, HSl_b.out.2.2.2 10 _ rfl⟩)
          clear hK K hp
          try simp only [Act.put, List.setIfInBounds_toArray, List.set_cons_zero, List.set_cons_succ]
          exact HLg6 s4 s8 wn ⟨HSt, HSl_b, HSl4, HSl8⟩
        · skip
          go_simp
          obtain ⟨s12, hsx⟩ : ∃ s, s = wy.heap.size := ⟨_, rfl⟩
          rw [← hsx]
          obtain ⟨wn, hwx⟩ : ∃ wn, wn = wy.alloc (.cells #[.string text] 9) := ⟨_, rfl⟩
          rw [← hwx]
          have gx : Gr wy wn := by rw [hwx]; exact (Gr.refl _).alloc _
          have HSl12 := Lib.hid (show Sl p wn s12 [.string text] from by rw [hwx, hsx]; exact Sl.new HSt.out _ _)
          replace HSl_b := Lib.hid (Sl.gr HSt.out HSl_b.out gx)
          replace HSl4 := Lib.hid (Sl.gr HSt.out HSl4.out gx)
          replace HSt := Lib.hid (HSt.out.gr gx)
          clear gx hwx hsx
          first | refine hK.out _ _ ?sg1_12 (fun hp => ?_) | (go_wp2_with fail; refine hK.out _ _ ?sg1_12 (fun hp => ?_))
          case sg1_12 => ((try dsimp only); exact ⟨HSl_b.out.2.2.2 0 _ rfl, HSl_b.out.2.2.2 1 _ rfl, HSl_b.out.2.2.2 2 _ rfl, HSl_b.out.2.2.2 3 _ rfl, HSl_b.out.2.2.2 4 _ rfl, HSl_b.out.2.2.2 5 _ rfl, HSl_b.out.2.2.2 6 _ rfl, HSl_b.out.2.2.2 7 _ rfl, HSl_b.out.2.2.2 8 _ rfl, HSl_b.out.2.2.2 9 _ rfl, HSl_b.out.2.2.2 10 _ rfl⟩)
          clear hK K hp
          try simp only [Act.put, List.setIfInBounds_toArray, List.set_cons_zero, List.set_cons_succ]
          exact HLg7 s4 s12 wn ⟨HSt, HSl_b, HSl4, HSl12⟩
        · skip
          go_simp
          obtain ⟨s17, hsx⟩ : ∃ s, s = wy.heap.size := ⟨_, rfl⟩
          rw [← hsx]
          obtain ⟨wn, hwx⟩ : ∃ wn, wn = wy.alloc (.cells #[.int .i64 (L.length : Nat)] 3) := ⟨_, rfl⟩
          rw [← hwx]
          have gx : Gr wy wn := by rw [hwx]; exact (Gr.refl _).alloc _
          have HSl17 := Lib.hid (show Sl p wn s17 [.int .i64 (L.length : Nat)] from by rw [hwx, hsx]; exact Sl.new HSt.out _ _)
          replace HSl_b := Lib.hid (Sl.gr HSt.out HSl_b.out gx)
          replace HSl4 := Lib.hid (Sl.gr HSt.out HSl4.out gx)
          replace HSt := Lib.hid (HSt.out.gr gx)
          clear gx hwx hsx
          first | refine hK.out _ _ ?sg1_17 (fun hp => ?_) | (go_wp2_with fail; refine hK.out _ _ ?sg1_17 (fun hp => ?_))
          case sg1_17 => ((try dsimp only); exact ⟨HSl_b.out.2.2.2 0 _ rfl, HSl_b.out.2.2.2 1 _ rfl, HSl_b.out.2.2.2 2 _ rfl, HSl_b.out.2.2.2 3 _ rfl, HSl_b.out.2.2.2 4 _ rfl, HSl_b.out.2.2.2 5 _ rfl, HSl_b.out.2.2.2 6 _ rfl, HSl_b.out.2.2.2 7 _ rfl, HSl_b.out.2.2.2 8 _ rfl, HSl_b.out.2.2.2 9 _ rfl, HSl_b.out.2.2.2 10 _ rfl⟩)
          clear hK K hp
          try simp only [Act.put, List.setIfInBounds_toArray, List.set_cons_zero, List.set_cons_succ]
          exact HLg8 s4 s17 wn ⟨HSt, HSl_b, HSl4, HSl17⟩
      · intro s8 wy hSt
        obtain ⟨HSt, HSl_b, HSl8⟩ := hSt
        refine wpAnyH_ready (rs := [4, 12, 17]) (by kernel_rfl) (by simp) ?_
        refine AllReadyH.cons (o := { dst := some 24, op := Go.Op.buildSlice 61 2 #[(0, Go.Operand.tmp 21), (1, Go.Operand.tmp 23)], type := 61, pos := "msg.go:111", after := #[{ on := 1, ground := Go.Ground.data }, { on := 3, ground := Go.Ground.data }], guard := none }) rfl (fun K hK => ?_) (AllReadyH.cons (o := { dst := some 32, op := Go.Op.buildSlice 110 1 #[(0, Go.Operand.tmp 31)], type := 110, pos := "msg.go:111", after := #[{ on := 11, ground := Go.Ground.data }], guard := none }) rfl (fun K hK => ?_) (AllReadyH.cons (o := { dst := some 37, op := Go.Op.buildSlice 61 1 #[(0, Go.Operand.tmp 36)], type := 61, pos := "msg.go:111", after := #[{ on := 16, ground := Go.Ground.data }], guard := none }) rfl (fun K hK => ?_) AllReadyH.nil))
        · skip
          go_simp
          obtain ⟨s4, hsx⟩ : ∃ s, s = wy.heap.size := ⟨_, rfl⟩
          rw [← hsx]
          obtain ⟨wn, hwx⟩ : ∃ wn, wn = wy.alloc (.cells #[.int .i64 slot, .int .i64 time] 3) := ⟨_, rfl⟩
          rw [← hwx]
          have gx : Gr wy wn := by rw [hwx]; exact (Gr.refl _).alloc _
          have HSl4 := Lib.hid (show Sl p wn s4 [.int .i64 slot, .int .i64 time] from by rw [hwx, hsx]; exact Sl.new HSt.out _ _)
          replace HSl_b := Lib.hid (Sl.gr HSt.out HSl_b.out gx)
          replace HSl8 := Lib.hid (Sl.gr HSt.out HSl8.out gx)
          replace HSt := Lib.hid (HSt.out.gr gx)
          clear gx hwx hsx
          first | refine hK.out _ _ ?sg2_4 (fun hp => ?_) | (go_wp2_with fail; refine hK.out _ _ ?sg2_4 (fun hp => ?_))
          case sg2_4 => ((try dsimp only); exact ⟨HSl_b.out.2.2.2 0 _ rfl, HSl_b.out.2.2.2 1 _ rfl, HSl_b.out.2.2.2 2 _ rfl, HSl_b.out.2.2.2 3 _ rfl, HSl_b.out.2.2.2 4 _ rfl, HSl_b.out.2.2.2 5 _ rfl, HSl_b.out.2.2.2 6 _ rfl, HSl_b.out.2.2.2 7 _ rfl, HSl_b.out.2.2.2 8 _ rfl, HSl_b.out.2.2.2 9 _ rfl, HSl_b.out.2.2.2 10 _ rfl⟩)
          clear hK K hp
          try simp only [Act.put, List.setIfInBounds_toArray, List.set_cons_zero, List.set_cons_succ]
          exact HLg6 s4 s8 wn ⟨HSt, HSl_b, HSl4, HSl8⟩
        · skip
          go_simp
          obtain ⟨s12, hsx⟩ : ∃ s, s = wy.heap.size := ⟨_, rfl⟩
          rw [← hsx]
          obtain ⟨wn, hwx⟩ : ∃ wn, wn = wy.alloc (.cells #[.string text] 9) := ⟨_, rfl⟩
          rw [← hwx]
          have gx : Gr wy wn := by rw [hwx]; exact (Gr.refl _).alloc _
          have HSl12 := Lib.hid (show Sl p wn s12 [.string text] from by rw [hwx, hsx]; exact Sl.new HSt.out _ _)
          replace HSl_b := Lib.hid (Sl.gr HSt.out HSl_b.out gx)
          replace HSl8 := Lib.hid (Sl.gr HSt.out HSl8.out gx)
          replace HSt := Lib.hid (HSt.out.gr gx)
          clear gx hwx hsx
          first | refine hK.out _ _ ?sg2_12 (fun hp => ?_) | (go_wp2_with fail; refine hK.out _ _ ?sg2_12 (fun hp => ?_))
          case sg2_12 => ((try dsimp only); exact ⟨HSl_b.out.2.2.2 0 _ rfl, HSl_b.out.2.2.2 1 _ rfl, HSl_b.out.2.2.2 2 _ rfl, HSl_b.out.2.2.2 3 _ rfl, HSl_b.out.2.2.2 4 _ rfl, HSl_b.out.2.2.2 5 _ rfl, HSl_b.out.2.2.2 6 _ rfl, HSl_b.out.2.2.2 7 _ rfl, HSl_b.out.2.2.2 8 _ rfl, HSl_b.out.2.2.2 9 _ rfl, HSl_b.out.2.2.2 10 _ rfl⟩)
          clear hK K hp
          try simp only [Act.put, List.setIfInBounds_toArray, List.set_cons_zero, List.set_cons_succ]
          exact HLg9 s8 s12 wn ⟨HSt, HSl_b, HSl8, HSl12⟩
        · skip
          go_simp
          obtain ⟨s17, hsx⟩ : ∃ s, s = wy.heap.size := ⟨_, rfl⟩
          rw [← hsx]
          obtain ⟨wn, hwx⟩ : ∃ wn, wn = wy.alloc (.cells #[.int .i64 (L.length : Nat)] 3) := ⟨_, rfl⟩
          rw [← hwx]
          have gx : Gr wy wn := by rw [hwx]; exact (Gr.refl _).alloc _
          have HSl17 := Lib.hid (show Sl p wn s17 [.int .i64 (L.length : Nat)] from by rw [hwx, hsx]; exact Sl.new HSt.out _ _)
          replace HSl_b := Lib.hid (Sl.gr HSt.out HSl_b.out gx)
          replace HSl8 := Lib.hid (Sl.gr HSt.out HSl8.out gx)
          replace HSt := Lib.hid (HSt.out.gr gx)
          clear gx hwx hsx
          first | refine hK.out _ _ ?sg2_17 (fun hp => ?_) | (go_wp2_with fail; refine hK.out _ _ ?sg2_17 (fun hp => ?_))
          case sg2_17 => ((try dsimp only); exact ⟨HSl_b.out.2.2.2 0 _ rfl, HSl_b.out.2.2.2 1 _ rfl, HSl_b.out.2.2.2 2 _ rfl, HSl_b.out.2.2.2 3 _ rfl, HSl_b.out.2.2.2 4 _ rfl, HSl_b.out.2.2.2 5 _ rfl, HSl_b.out.2.2.2 6 _ rfl, HSl_b.out.2.2.2 7 _ rfl, HSl_b.out.2.2.2 8 _ rfl, HSl_b.out.2.2.2 9 _ rfl, HSl_b.out.2.2.2 10 _ rfl⟩)
          clear hK K hp
          try simp only [Act.put, List.setIfInBounds_toArray, List.set_cons_zero, List.set_cons_succ]
          exact HLg10 s8 s17 wn ⟨HSt, HSl_b, HSl8, HSl17⟩
      · intro s12 wy hSt
        obtain ⟨HSt, HSl_b, HSl12⟩ := hSt
        refine wpAnyH_ready (rs := [4, 8, 17]) (by kernel_rfl) (by simp) ?_
        refine AllReadyH.cons (o := { dst := some 24, op := Go.Op.buildSlice 61 2 #[(0, Go.Operand.tmp 21), (1, Go.Operand.tmp 23)], type := 61, pos := "msg.go:111", after := #[{ on := 1, ground := Go.Ground.data }, { on := 3, ground := Go.Ground.data }], guard := none }) rfl (fun K hK => ?_) (AllReadyH.cons (o := { dst := some 28, op := Go.Op.buildSlice 109 1 #[(0, Go.Operand.tmp 27)], type := 109, pos := "msg.go:111", after := #[{ on := 7, ground := Go.Ground.data }], guard := none }) rfl (fun K hK => ?_) (AllReadyH.cons (o := { dst := some 37, op := Go.Op.buildSlice 61 1 #[(0, Go.Operand.tmp 36)], type := 61, pos := "msg.go:111", after := #[{ on := 16, ground := Go.Ground.data }], guard := none }) rfl (fun K hK => ?_) AllReadyH.nil))
        · skip
          go_simp
          obtain ⟨s4, hsx⟩ : ∃ s, s = wy.heap.size := ⟨_, rfl⟩
          rw [← hsx]
          obtain ⟨wn, hwx⟩ : ∃ wn, wn = wy.alloc (.cells #[.int .i64 slot, .int .i64 time] 3) := ⟨_, rfl⟩
          rw [← hwx]
          have gx : Gr wy wn := by rw [hwx]; exact (Gr.refl _).alloc _
          have HSl4 := Lib.hid (show Sl p wn s4 [.int .i64 slot, .int .i64 time] from by rw [hwx, hsx]; exact Sl.new HSt.out _ _)
          replace HSl_b := Lib.hid (Sl.gr HSt.out HSl_b.out gx)
          replace HSl12 := Lib.hid (Sl.gr HSt.out HSl12.out gx)
          replace HSt := Lib.hid (HSt.out.gr gx)
          clear gx hwx hsx
          first | refine hK.out _ _ ?sg3_4 (fun hp => ?_) | (go_wp2_with fail; refine hK.out _ _ ?sg3_4 (fun hp => ?_))
          case sg3_4 => ((try dsimp only); exact ⟨HSl_b.out.2.2.2 0 _ rfl, HSl_b.out.2.2.2 1 _ rfl, HSl_b.out.2.2.2 2 _ rfl, HSl_b.out.2.2.2 3 _ rfl, HSl_b.out.2.2.2 4 _ rfl, HSl_b.out.2.2.2 5 _ rfl, HSl_b.out.2.2.2 6 _ rfl, HSl_b.out.2.2.2 7 _ rfl, HSl_b.out.2.2.2 8 _ rfl, HSl_b.out.2.2.2 9 _ rfl, HSl_b.out.2.2.2 10 _ rfl⟩)
          clear hK K hp
          try simp only [Act.put, List.setIfInBounds_toArray, List.set_cons_zero, List.set_cons_succ]
          exact HLg7 s4 s12 wn ⟨HSt, HSl_b, HSl4, HSl12⟩
        · skip
          go_simp
          obtain ⟨s8, hsx⟩ : ∃ s, s = wy.heap.size := ⟨_, rfl⟩
          rw [← hsx]
          obtain ⟨wn, hwx⟩ : ∃ wn, wn = wy.alloc (.cells #[.bool ok] 4) := ⟨_, rfl⟩
          rw [← hwx]
          have gx : Gr wy wn := by rw [hwx]; exact (Gr.refl _).alloc _
          have HSl8 := Lib.hid (show Sl p wn s8 [.bool ok] from by rw [hwx, hsx]; exact Sl.new HSt.out _ _)
          replace HSl_b := Lib.hid (Sl.gr HSt.out HSl_b.out gx)
          replace HSl12 := Lib.hid (Sl.gr HSt.out HSl12.out gx)
          replace HSt := Lib.hid (HSt.out.gr gx)
          clear gx hwx hsx
          first | refine hK.out _ _ ?sg3_8 (fun hp => ?_) | (go_wp2_with fail; refine hK.out _ _ ?sg3_8 (fun hp => ?_))
          case sg3_8 => ((try dsimp only); exact ⟨HSl_b.out.2.2.2 0 _ rfl, HSl_b.out.2.2.2 1 _ rfl, HSl_b.out.2.2.2 2 _ rfl, HSl_b.out.2.2.2 3 _ rfl, HSl_b.out.2.2.2 4 _ rfl, HSl_b.out.2.2.2 5 _ rfl, HSl_b.out.2.2.2 6 _ rfl, HSl_b.out.2.2.2 7 _ rfl, HSl_b.out.2.2.2 8 _ rfl, HSl_b.out.2.2.2 9 _ rfl, HSl_b.out.2.2.2 10 _ rfl⟩)
          clear hK K hp
          try simp only [Act.put, List.setIfInBounds_toArray, List.set_cons_zero, List.set_cons_succ]
          exact HLg9 s8 s12 wn ⟨HSt, HSl_b, HSl8, HSl12⟩
        · skip
          go_simp
          obtain ⟨s17, hsx⟩ : ∃ s, s = wy.heap.size := ⟨_, rfl⟩
          rw [← hsx]
          obtain ⟨wn, hwx⟩ : ∃ wn, wn = wy.alloc (.cells #[.int .i64 (L.length : Nat)] 3) := ⟨_, rfl⟩
          rw [← hwx]
          have gx : Gr wy wn := by rw [hwx]; exact (Gr.refl _).alloc _
          have HSl17 := Lib.hid (show Sl p wn s17 [.int .i64 (L.length : Nat)] from by rw [hwx, hsx]; exact Sl.new HSt.out _ _)
          replace HSl_b := Lib.hid (Sl.gr HSt.out HSl_b.out gx)
          replace HSl12 := Lib.hid (Sl.gr HSt.out HSl12.out gx)
          replace HSt := Lib.hid (HSt.out.gr gx)
          clear gx hwx hsx
          first | refine hK.out _ _ ?sg3_17 (fun hp => ?_) | (go_wp2_with fail; refine hK.out _ _ ?sg3_17 (fun hp => ?_))
          case sg3_17 => ((try dsimp only); exact ⟨HSl_b.out.2.2.2 0 _ rfl, HSl_b.out.2.2.2 1 _ rfl, HSl_b.out.2.2.2 2 _ rfl, HSl_b.out.2.2.2 3 _ rfl, HSl_b.out.2.2.2 4 _ rfl, HSl_b.out.2.2.2 5 _ rfl, HSl_b.out.2.2.2 6 _ rfl, HSl_b.out.2.2.2 7 _ rfl, HSl_b.out.2.2.2 8 _ rfl, HSl_b.out.2.2.2 9 _ rfl, HSl_b.out.2.2.2 10 _ rfl⟩)
          clear hK K hp
          try simp only [Act.put, List.setIfInBounds_toArray, List.set_cons_zero, List.set_cons_succ]
          exact HLg11 s12 s17 wn ⟨HSt, HSl_b, HSl12, HSl17⟩
      · intro s17 wy hSt
        obtain ⟨HSt, HSl_b, HSl17⟩ := hSt
        refine wpAnyH_ready (rs := [4, 8, 12]) (by kernel_rfl) (by simp) ?_
        refine AllReadyH.cons (o := { dst := some 24, op := Go.Op.buildSlice 61 2 #[(0, Go.Operand.tmp 21), (1, Go.Operand.tmp 23)], type := 61, pos := "msg.go:111", after := #[{ on := 1, ground := Go.Ground.data }, { on := 3, ground := Go.Ground.data }], guard := none }) rfl (fun K hK => ?_) (AllReadyH.cons (o := { dst := some 28, op := Go.Op.buildSlice 109 1 #[(0, Go.Operand.tmp 27)], type := 109, pos := "msg.go:111", after := #[{ on := 7, ground := Go.Ground.data }], guard := none }) rfl (fun K hK => ?_) (AllReadyH.cons (o := { dst := some 32, op := Go.Op.buildSlice 110 1 #[(0, Go.Operand.tmp 31)], type := 110, pos := "msg.go:111", after := #[{ on := 11, ground := Go.Ground.data }], guard := none }) rfl (fun K hK => ?_) AllReadyH.nil))
        · skip
          go_simp
          obtain ⟨s4, hsx⟩ : ∃ s, s = wy.heap.size := ⟨_, rfl⟩
          rw [← hsx]
          obtain ⟨wn, hwx⟩ : ∃ wn, wn = wy.alloc (.cells #[.int .i64 slot, .int .i64 time] 3) := ⟨_, rfl⟩
          rw [← hwx]
          have gx : Gr wy wn := by rw [hwx]; exact (Gr.refl _).alloc _
          have HSl4 := Lib.hid (show Sl p wn s4 [.int .i64 slot, .int .i64 time] from by rw [hwx, hsx]; exact Sl.new HSt.out _ _)
          replace HSl_b := Lib.hid (Sl.gr HSt.out HSl_b.out gx)
          replace HSl17 := Lib.hid (Sl.gr HSt.out HSl17.out gx)
          replace HSt := Lib.hid (HSt.out.gr gx)
          clear gx hwx hsx
          first | refine hK.out _ _ ?sg4_4 (fun hp => ?_) | (go_wp2_with fail; refine hK.out _ _ ?sg4_4 (fun hp => ?_))
          case sg4_4 => ((try dsimp only); exact ⟨HSl_b.out.2.2.2 0 _ rfl, HSl_b.out.2.2.2 1 _ rfl, HSl_b.out.2.2.2 2 _ rfl, HSl_b.out.2.2.2 3 _ rfl, HSl_b.out.2.2.2 4 _ rfl, HSl_b.out.2.2.2 5 _ rfl, HSl_b.out.2.2.2 6 _ rfl, HSl_b.out.2.2.2 7 _ rfl, HSl_b.out.2.2.2 8 _ rfl, HSl_b.out.2.2.2 9 _ rfl, HSl_b.out.2.2.2 10 _ rfl⟩)
          clear hK K hp
          try simp only [Act.put, List.setIfInBounds_toArray, List.set_cons_zero, List.set_cons_succ]
          exact HLg8 s4 s17 wn ⟨HSt, HSl_b, HSl4, HSl17⟩
        · skip
          go_simp
          obtain ⟨s8, hsx⟩ : ∃ s, s = wy.heap.size := ⟨_, rfl⟩
          rw [← hsx]
          obtain ⟨wn, hwx⟩ : ∃ wn, wn = wy.alloc (.cells #[.bool ok] 4) := ⟨_, rfl⟩
          rw [← hwx]
          have gx : Gr wy wn := by rw [hwx]; exact (Gr.refl _).alloc _
          have HSl8 := Lib.hid (show Sl p wn s8 [.bool ok] from by rw [hwx, hsx]; exact Sl.new HSt.out _ _)
          replace HSl_b := Lib.hid (Sl.gr HSt.out HSl_b.out gx)
          replace HSl17 := Lib.hid (Sl.gr HSt.out HSl17.out gx)
          replace HSt := Lib.hid (HSt.out.gr gx)
          clear gx hwx hsx
          first | refine hK.out _ _ ?sg4_8 (fun hp => ?_) | (go_wp2_with fail; refine hK.out _ _ ?sg4_8 (fun hp => ?_))
          case sg4_8 => ((try dsimp only); exact ⟨HSl_b.out.2.2.2 0 _ rfl, HSl_b.out.2.2.2 1 _ rfl, HSl_b.out.2.2.2 2 _ rfl, HSl_b.out.2.2.2 3 _ rfl, HSl_b.out.2.2.2 4 _ rfl, HSl_b.out.2.2.2 5 _ rfl, HSl_b.out.2.2.2 6 _ rfl, HSl_b.out.2.2.2 7 _ rfl, HSl_b.out.2.2.2 8 _ rfl, HSl_b.out.2.2.2 9 _ rfl, HSl_b.out.2.2.2 10 _ rfl⟩)
          clear hK K hp
          try simp only [Act.put, List.setIfInBounds_toArray, List.set_cons_zero, List.set_cons_succ]
          exact HLg10 s8 s17 wn ⟨HSt, HSl_b, HSl8, HSl17⟩
        · skip
          go_simp
          obtain ⟨s12, hsx⟩ : ∃ s, s = wy.heap.size := ⟨_, rfl⟩
          rw [← hsx]
          obtain ⟨wn, hwx⟩ : ∃ wn, wn = wy.alloc (.cells #[.string text] 9) := ⟨_, rfl⟩
          rw [← hwx]
          have gx : Gr wy wn := by rw [hwx]; exact (Gr.refl _).alloc _
          have HSl12 := Lib.hid (show Sl p wn s12 [.string text] from by rw [hwx, hsx]; exact Sl.new HSt.out _ _)
          replace HSl_b := Lib.hid (Sl.gr HSt.out HSl_b.out gx)
          replace HSl17 := Lib.hid (Sl.gr HSt.out HSl17.out gx)
          replace HSt := Lib.hid (HSt.out.gr gx)
          clear gx hwx hsx
          first | refine hK.out _ _ ?sg4_12 (fun hp => ?_) | (go_wp2_with fail; refine hK.out _ _ ?sg4_12 (fun hp => ?_))
          case sg4_12 => ((try dsimp only); exact ⟨HSl_b.out.2.2.2 0 _ rfl, HSl_b.out.2.2.2 1 _ rfl, HSl_b.out.2.2.2 2 _ rfl, HSl_b.out.2.2.2 3 _ rfl, HSl_b.out.2.2.2 4 _ rfl, HSl_b.out.2.2.2 5 _ rfl, HSl_b.out.2.2.2 6 _ rfl, HSl_b.out.2.2.2 7 _ rfl, HSl_b.out.2.2.2 8 _ rfl, HSl_b.out.2.2.2 9 _ rfl, HSl_b.out.2.2.2 10 _ rfl⟩)
          clear hK K hp
          try simp only [Act.put, List.setIfInBounds_toArray, List.set_cons_zero, List.set_cons_succ]
          exact HLg11 s12 s17 wn ⟨HSt, HSl_b, HSl12, HSl17⟩
      · intro s4 wy hSt
        obtain ⟨HSt, HSl_b⟩ := hSt
        refine wpAnyH_ready (rs := [8, 12, 17]) (by kernel_rfl) (by simp) ?_
        refine AllReadyH.cons (o := { dst := some 28, op := Go.Op.buildSlice 109 1 #[(0, Go.Operand.tmp 27)], type := 109, pos := "msg.go:111", after := #[{ on := 7, ground := Go.Ground.data }], guard := none }) rfl (fun K hK => ?_) (AllReadyH.cons (o := { dst := some 32, op := Go.Op.buildSlice 110 1 #[(0, Go.Operand.tmp 31)], type := 110, pos := "msg.go:111", after := #[{ on := 11, ground := Go.Ground.data }], guard := none }) rfl (fun K hK => ?_) (AllReadyH.cons (o := { dst := some 37, op := Go.Op.buildSlice 61 1 #[(0, Go.Operand.tmp 36)], type := 61, pos := "msg.go:111", after := #[{ on := 16, ground := Go.Ground.data }], guard := none }) rfl (fun K hK => ?_) AllReadyH.nil))
        · skip
          go_simp
          obtain ⟨s8, hsx⟩ : ∃ s, s = wy.heap.size := ⟨_, rfl⟩
          rw [← hsx]
          obtain ⟨wn, hwx⟩ : ∃ wn, wn = wy.alloc (.cells #[.bool ok] 4) := ⟨_, rfl⟩
          rw [← hwx]
          have gx : Gr wy wn := by rw [hwx]; exact (Gr.refl _).alloc _
          have HSl8 := Lib.hid (show Sl p wn s8 [.bool ok] from by rw [hwx, hsx]; exact Sl.new HSt.out _ _)
          replace HSl_b := Lib.hid (Sl.gr HSt.out HSl_b.out gx)
          replace HSt := Lib.hid (HSt.out.gr gx)
          clear gx hwx hsx
          first | refine hK.out _ _ ?sg5_8 (fun hp => ?_) | (go_wp2_with fail; refine hK.out _ _ ?sg5_8 (fun hp => ?_))
          case sg5_8 => ((try dsimp only); exact ⟨HSl_b.out.2.2.2 0 _ rfl, HSl_b.out.2.2.2 1 _ rfl, HSl_b.out.2.2.2 2 _ rfl, HSl_b.out.2.2.2 3 _ rfl, HSl_b.out.2.2.2 4 _ rfl, HSl_b.out.2.2.2 5 _ rfl, HSl_b.out.2.2.2 6 _ rfl, HSl_b.out.2.2.2 7 _ rfl, HSl_b.out.2.2.2 8 _ rfl, HSl_b.out.2.2.2 9 _ rfl, HSl_b.out.2.2.2 10 _ rfl⟩)
          clear hK K hp
          try simp only [Act.put, List.setIfInBounds_toArray, List.set_cons_zero, List.set_cons_succ]
          exact HLg12 s4 s8 wn ⟨HSt, HSl_b, HSl8⟩
        · skip
          go_simp
          obtain ⟨s12, hsx⟩ : ∃ s, s = wy.heap.size := ⟨_, rfl⟩
          rw [← hsx]
          obtain ⟨wn, hwx⟩ : ∃ wn, wn = wy.alloc (.cells #[.string text] 9) := ⟨_, rfl⟩
          rw [← hwx]
          have gx : Gr wy wn := by rw [hwx]; exact (Gr.refl _).alloc _
          have HSl12 := Lib.hid (show Sl p wn s12 [.string text] from by rw [hwx, hsx]; exact Sl.new HSt.out _ _)
          replace HSl_b := Lib.hid (Sl.gr HSt.out HSl_b.out gx)
          replace HSt := Lib.hid (HSt.out.gr gx)
          clear gx hwx hsx
          first | refine hK.out _ _ ?sg5_12 (fun hp => ?_) | (go_wp2_with fail; refine hK.out _ _ ?sg5_12 (fun hp => ?_))
          case sg5_12 => ((try dsimp only); exact ⟨HSl_b.out.2.2.2 0 _ rfl, HSl_b.out.2.2.2 1 _ rfl, HSl_b.out.2.2.2 2 _ rfl, HSl_b.out.2.2.2 3 _ rfl, HSl_b.out.2.2.2 4 _ rfl, HSl_b.out.2.2.2 5 _ rfl, HSl_b.out.2.2.2 6 _ rfl, HSl_b.out.2.2.2 7 _ rfl, HSl_b.out.2.2.2 8 _ rfl, HSl_b.out.2.2.2 9 _ rfl, HSl_b.out.2.2.2 10 _ rfl⟩)
          clear hK K hp
          try simp only [Act.put, List.setIfInBounds_toArray, List.set_cons_zero, List.set_cons_succ]
          exact HLg13 s4 s12 wn ⟨HSt, HSl_b, HSl12⟩
        · skip
          go_simp
          obtain ⟨s17, hsx⟩ : ∃ s, s = wy.heap.size := ⟨_, rfl⟩
          rw [← hsx]
          obtain ⟨wn, hwx⟩ : ∃ wn, wn = wy.alloc (.cells #[.int .i64 (L.length : Nat)] 3) := ⟨_, rfl⟩
          rw [← hwx]
          have gx : Gr wy wn := by rw [hwx]; exact (Gr.refl _).alloc _
          have HSl17 := Lib.hid (show Sl p wn s17 [.int .i64 (L.length : Nat)] from by rw [hwx, hsx]; exact Sl.new HSt.out _ _)
          replace HSl_b := Lib.hid (Sl.gr HSt.out HSl_b.out gx)
          replace HSt := Lib.hid (HSt.out.gr gx)
          clear gx hwx hsx
          first | refine hK.out _ _ ?sg5_17 (fun hp => ?_) | (go_wp2_with fail; refine hK.out _ _ ?sg5_17 (fun hp => ?_))
          case sg5_17 => ((try dsimp only); exact ⟨HSl_b.out.2.2.2 0 _ rfl, HSl_b.out.2.2.2 1 _ rfl, HSl_b.out.2.2.2 2 _ rfl, HSl_b.out.2.2.2 3 _ rfl, HSl_b.out.2.2.2 4 _ rfl, HSl_b.out.2.2.2 5 _ rfl, HSl_b.out.2.2.2 6 _ rfl, HSl_b.out.2.2.2 7 _ rfl, HSl_b.out.2.2.2 8 _ rfl, HSl_b.out.2.2.2 9 _ rfl, HSl_b.out.2.2.2 10 _ rfl⟩)
          clear hK K hp
          try simp only [Act.put, List.setIfInBounds_toArray, List.set_cons_zero, List.set_cons_succ]
          exact HLg14 s4 s17 wn ⟨HSt, HSl_b, HSl17⟩
      · intro s4 s8 wy hSt
        obtain ⟨HSt, HSl_b, HSl4, HSl8⟩ := hSt
        refine wpAnyH_ready (rs := [5, 12, 17]) (by kernel_rfl) (by simp) ?_
        refine AllReadyH.cons (o := { dst := some 25, op := Go.Op.call { callee := Go.Callee.value (Go.Operand.func 34), args := #[Go.Operand.tmp 3, Go.Operand.tmp 24], argTypes := #[80, 61] }, type := 82, pos := "msg.go:111", after := #[{ on := 4, ground := Go.Ground.data }], guard := none }) rfl (fun K hK => ?_) (AllReadyH.cons (o := { dst := some 32, op := Go.Op.buildSlice 110 1 #[(0, Go.Operand.tmp 31)], type := 110, pos := "msg.go:111", after := #[{ on := 11, ground := Go.Ground.data }], guard := none }) rfl (fun K hK => ?_) (AllReadyH.cons (o := { dst := some 37, op := Go.Op.buildSlice 61 1 #[(0, Go.Operand.tmp 36)], type := 61, pos := "msg.go:111", after := #[{ on := 16, ground := Go.Ground.data }], guard := none }) rfl (fun K hK => ?_) AllReadyH.nil))
        · skip
          go_simp
          go_at_call 34
          refine (stN2 slot time HSt.out HSl4.out (by omega) (by omega) (by omega)).mono ?_
          rintro e wn ⟨rfl, hSt2, hK2⟩
          replace HSl_b := Lib.hid (Sl.keeps HSl_b.out hK2)
          replace HSl8 := Lib.hid (Sl.keeps HSl8.out hK2)
          replace HSt := Lib.hid hSt2
          clear hSt2 hK2
          clear HSl4
          first | refine hK.out _ _ ?sg6_5 (fun hp => ?_) | (go_wp2_with fail; refine hK.out _ _ ?sg6_5 (fun hp => ?_))
          case sg6_5 => ((try dsimp only); exact ⟨HSl_b.out.2.2.2 0 _ rfl, HSl_b.out.2.2.2 1 _ rfl, HSl_b.out.2.2.2 2 _ rfl, HSl_b.out.2.2.2 3 _ rfl, HSl_b.out.2.2.2 4 _ rfl, HSl_b.out.2.2.2 5 _ rfl, HSl_b.out.2.2.2 6 _ rfl, HSl_b.out.2.2.2 7 _ rfl, HSl_b.out.2.2.2 8 _ rfl, HSl_b.out.2.2.2 9 _ rfl, HSl_b.out.2.2.2 10 _ rfl⟩)
          clear hK K hp
          try simp only [Act.put, List.setIfInBounds_toArray, List.set_cons_zero, List.set_cons_succ]
          exact HLg12 s4 s8 wn ⟨HSt, HSl_b, HSl8⟩
        · skip
          go_simp
          obtain ⟨s12, hsx⟩ : ∃ s, s = wy.heap.size := ⟨_, rfl⟩
          rw [← hsx]
          obtain ⟨wn, hwx⟩ : ∃ wn, wn = wy.alloc (.cells #[.string text] 9) := ⟨_, rfl⟩
          rw [← hwx]
          have gx : Gr wy wn := by rw [hwx]; exact (Gr.refl _).alloc _
          have HSl12 := Lib.hid (show Sl p wn s12 [.string text] from by rw [hwx, hsx]; exact Sl.new HSt.out _ _)
          replace HSl_b := Lib.hid (Sl.gr HSt.out HSl_b.out gx)
          replace HSl4 := Lib.hid (Sl.gr HSt.out HSl4.out gx)
          replace HSl8 := Lib.hid (Sl.gr HSt.out HSl8.out gx)
          replace HSt := Lib.hid (HSt.out.gr gx)
          clear gx hwx hsx
          first | refine hK.out _ _ ?sg6_12 (fun hp => ?_) | (go_wp2_with fail; refine hK.out _ _ ?sg6_12 (fun hp => ?_))
          case sg6_12 => ((try dsimp only); exact ⟨HSl_b.out.2.2.2 0 _ rfl, HSl_b.out.2.2.2 1 _ rfl, HSl_b.out.2.2.2 2 _ rfl, HSl_b.out.2.2.2 3 _ rfl, HSl_b.out.2.2.2 4 _ rfl, HSl_b.out.2.2.2 5 _ rfl, HSl_b.out.2.2.2 6 _ rfl, HSl_b.out.2.2.2 7 _ rfl, HSl_b.out.2.2.2 8 _ rfl, HSl_b.out.2.2.2 9 _ rfl, HSl_b.out.2.2.2 10 _ rfl⟩)
          clear hK K hp
          try simp only [Act.put, List.setIfInBounds_toArray, List.set_cons_zero, List.set_cons_succ]
          exact HLg15 s4 s8 s12 wn ⟨HSt, HSl_b, HSl4, HSl8, HSl12⟩
        · skip
          go_simp
          obtain ⟨s17, hsx⟩ : ∃ s, s = wy.heap.size := ⟨_, rfl⟩
          rw [← hsx]
          obtain ⟨wn, hwx⟩ : ∃ wn, wn = wy.alloc (.cells #[.int .i64 (L.length : Nat)] 3) := ⟨_, rfl⟩
          rw [← hwx]
          have gx : Gr wy wn := by rw [hwx]; exact (Gr.refl _).alloc _
          have HSl17 := Lib.hid (show Sl p wn s17 [.int .i64 (L.length : Nat)] from by rw [hwx, hsx]; exact Sl.new HSt.out _ _)
          replace HSl_b := Lib.hid (Sl.gr HSt.out HSl_b.out gx)
          replace HSl4 := Lib.hid (Sl.gr HSt.out HSl4.out gx)
          replace HSl8 := Lib.hid (Sl.gr HSt.out HSl8.out gx)
          replace HSt := Lib.hid (HSt.out.gr gx)
          clear gx hwx hsx
          first | refine hK.out _ _ ?sg6_17 (fun hp => ?_) | (go_wp2_with fail; refine hK.out _ _ ?sg6_17 (fun hp => ?_))
          case sg6_17 => ((try dsimp only); exact ⟨HSl_b.out.2.2.2 0 _ rfl, HSl_b.out.2.2.2 1 _ rfl, HSl_b.out.2.2.2 2 _ rfl, HSl_b.out.2.2.2 3 _ rfl, HSl_b.out.2.2.2 4 _ rfl, HSl_b.out.2.2.2 5 _ rfl, HSl_b.out.2.2.2 6 _ rfl, HSl_b.out.2.2.2 7 _ rfl, HSl_b.out.2.2.2 8 _ rfl, HSl_b.out.2.2.2 9 _ rfl, HSl_b.out.2.2.2 10 _ rfl⟩)
          clear hK K hp
          try simp only [Act.put, List.setIfInBounds_toArray, List.set_cons_zero, List.set_cons_succ]
          exact HLg16 s4 s8 s17 wn ⟨HSt, HSl_b, HSl4, HSl8, HSl17⟩
      · intro s4 s12 wy hSt
        obtain ⟨HSt, HSl_b, HSl4, HSl12⟩ := hSt
        refine wpAnyH_ready (rs := [5, 8, 17]) (by kernel_rfl) (by simp) ?_
        refine AllReadyH.cons (o := { dst := some 25, op := Go.Op.call { callee := Go.Callee.value (Go.Operand.func 34), args := #[Go.Operand.tmp 3, Go.Operand.tmp 24], argTypes := #[80, 61] }, type := 82, pos := "msg.go:111", after := #[{ on := 4, ground := Go.Ground.data }], guard := none }) rfl (fun K hK => ?_) (AllReadyH.cons (o := { dst := some 28, op := Go.Op.buildSlice 109 1 #[(0, Go.Operand.tmp 27)], type := 109, pos := "msg.go:111", after := #[{ on := 7, ground := Go.Ground.data }], guard := none }) rfl (fun K hK => ?_) (AllReadyH.cons (o := { dst := some 37, op := Go.Op.buildSlice 61 1 #[(0, Go.Operand.tmp 36)], type := 61, pos := "msg.go:111", after := #[{ on := 16, ground := Go.Ground.data }], guard := none }) rfl (fun K hK => ?_) AllReadyH.nil))
        · skip
          go_simp
          go_at_call 34
          refine (stN2 slot time HSt.out HSl4.out (by omega) (by omega) (by omega)).mono ?_
          rintro e wn ⟨rfl, hSt2, hK2⟩
          replace HSl_b := Lib.hid (Sl.keeps HSl_b.out hK2)
          replace HSl12 := Lib.hid (Sl.keeps HSl12.out hK2)
          replace HSt := Lib.hid hSt2
          clear hSt2 hK2
          clear HSl4
          first | refine hK.out _ _ ?sg7_5 (fun hp => ?_) | (go_wp2_with fail; refine hK.out _ _ ?sg7_5 (fun hp => ?_))
          case sg7_5 => ((try dsimp only); exact ⟨HSl_b.out.2.2.2 0 _ rfl, HSl_b.out.2.2.2 1 _ rfl, HSl_b.out.2.2.2 2 _ rfl, HSl_b.out.2.2.2 3 _ rfl, HSl_b.out.2.2.2 4 _ rfl, HSl_b.out.2.2.2 5 _ rfl, HSl_b.out.2.2.2 6 _ rfl, HSl_b.out.2.2.2 7 _ rfl, HSl_b.out.2.2.2 8 _ rfl, HSl_b.out.2.2.2 9 _ rfl, HSl_b.out.2.2.2 10 _ rfl⟩)
          clear hK K hp
          try simp only [Act.put, List.setIfInBounds_toArray, List.set_cons_zero, List.set_cons_succ]
          exact HLg13 s4 s12 wn ⟨HSt, HSl_b, HSl12⟩
        · skip
          go_simp
          obtain ⟨s8, hsx⟩ : ∃ s, s = wy.heap.size := ⟨_, rfl⟩
          rw [← hsx]
          obtain ⟨wn, hwx⟩ : ∃ wn, wn = wy.alloc (.cells #[.bool ok] 4) := ⟨_, rfl⟩
          rw [← hwx]
          have gx : Gr wy wn := by rw [hwx]; exact (Gr.refl _).alloc _
          have HSl8 := Lib.hid (show Sl p wn s8 [.bool ok] from by rw [hwx, hsx]; exact Sl.new HSt.out _ _)
          replace HSl_b := Lib.hid (Sl.gr HSt.out HSl_b.out gx)
          replace HSl4 := Lib.hid (Sl.gr HSt.out HSl4.out gx)
          replace HSl12 := Lib.hid (Sl.gr HSt.out HSl12.out gx)
          replace HSt := Lib.hid (HSt.out.gr gx)
          clear gx hwx hsx
          first | refine hK.out _ _ ?sg7_8 (fun hp => ?_) | (go_wp2_with fail; refine hK.out _ _ ?sg7_8 (fun hp => ?_))
          case sg7_8 => ((try dsimp only); exact ⟨HSl_b.out.2.2.2 0 _ rfl, HSl_b.out.2.2.2 1 _ rfl, HSl_b.out.2.2.2 2 _ rfl, HSl_b.out.2.2.2 3 _ rfl, HSl_b.out.2.2.2 4 _ rfl, HSl_b.out.2.2.2 5 _ rfl, HSl_b.out.2.2.2 6 _ rfl, HSl_b.out.2.2.2 7 _ rfl, HSl_b.out.2.2.2 8 _ rfl, HSl_b.out.2.2.2 9 _ rfl, HSl_b.out.2.2.2 10 _ rfl⟩)
          clear hK K hp
          try simp only [Act.put, List.setIfInBounds_toArray, List.set_cons_zero, List.set_cons_succ]
          exact HLg15 s4 s8 s12 wn ⟨HSt, HSl_b, HSl4, HSl8, HSl12⟩
        · skip
          go_simp
          obtain ⟨s17, hsx⟩ : ∃ s, s = wy.heap.size := ⟨_, rfl⟩
          rw [← hsx]
          obtain ⟨wn, hwx⟩ : ∃ wn, wn = wy.alloc (.cells #[.int .i64 (L.length : Nat)] 3) := ⟨_, rfl⟩
          rw [← hwx]
          have gx : Gr wy wn := by rw [hwx]; exact (Gr.refl _).alloc _
          have HSl17 := Lib.hid (show Sl p wn s17 [.int .i64 (L.length : Nat)] from by rw [hwx, hsx]; exact Sl.new HSt.out _ _)
          replace HSl_b := Lib.hid (Sl.gr HSt.out HSl_b.out gx)
          replace HSl4 := Lib.hid (Sl.gr HSt.out HSl4.out gx)
          replace HSl12 := Lib.hid (Sl.gr HSt.out HSl12.out gx)
          replace HSt := Lib.hid (HSt.out.gr gx)
          clear gx hwx hsx
          first | refine hK.out _ _ ?sg7_17 (fun hp => ?_) | (go_wp2_with fail; refine hK.out _ _ ?sg7_17 (fun hp => ?_))
          case sg7_17 => ((try dsimp only); exact ⟨HSl_b.out.2.2.2 0 _ rfl, HSl_b.out.2.2.2 1 _ rfl, HSl_b.out.2.2.2 2 _ rfl, HSl_b.out.2.2.2 3 _ rfl, HSl_b.out.2.2.2 4 _ rfl, HSl_b.out.2.2.2 5 _ rfl, HSl_b.out.2.2.2 6 _ rfl, HSl_b.out.2.2.2 7 _ rfl, HSl_b.out.2.2.2 8 _ rfl, HSl_b.out.2.2.2 9 _ rfl, HSl_b.out.2.2.2 10 _ rfl⟩)
          clear hK K hp
          try simp only [Act.put, List.setIfInBounds_toArray, List.set_cons_zero, List.set_cons_succ]
          exact HLg17 s4 s12 s17 wn ⟨HSt, HSl_b, HSl4, HSl12, HSl17⟩
      · intro s4 s17 wy hSt
        obtain ⟨HSt, HSl_b, HSl4, HSl17⟩ := hSt
        refine wpAnyH_ready (rs := [5, 8, 12]) (by kernel_rfl) (by simp) ?_
        refine AllReadyH.cons (o := { dst := some 25, op := Go.Op.call { callee := Go.Callee.value (Go.Operand.func 34), args := #[Go.Operand.tmp 3, Go.Operand.tmp 24], argTypes := #[80, 61] }, type := 82, pos := "msg.go:111", after := #[{ on := 4, ground := Go.Ground.data }], guard := none }) rfl (fun K hK => ?_) (AllReadyH.cons (o := { dst := some 28, op := Go.Op.buildSlice 109 1 #[(0, Go.Operand.tmp 27)], type := 109, pos := "msg.go:111", after := #[{ on := 7, ground := Go.Ground.data }], guard := none }) rfl (fun K hK => ?_) (AllReadyH.cons (o := { dst := some 32, op := Go.Op.buildSlice 110 1 #[(0, Go.Operand.tmp 31)], type := 110, pos := "msg.go:111", after := #[{ on := 11, ground := Go.Ground.data }], guard := none }) rfl (fun K hK => ?_) AllReadyH.nil))
        · skip
          go_simp
          go_at_call 34
          refine (stN2 slot time HSt.out HSl4.out (by omega) (by omega) (by omega)).mono ?_
          rintro e wn ⟨rfl, hSt2, hK2⟩
          replace HSl_b := Lib.hid (Sl.keeps HSl_b.out hK2)
          replace HSl17 := Lib.hid (Sl.keeps HSl17.out hK2)
          replace HSt := Lib.hid hSt2
          clear hSt2 hK2
          clear HSl4
          first | refine hK.out _ _ ?sg8_5 (fun hp => ?_) | (go_wp2_with fail; refine hK.out _ _ ?sg8_5 (fun hp => ?_))
          case sg8_5 => ((try dsimp only); exact ⟨HSl_b.out.2.2.2 0 _ rfl, HSl_b.out.2.2.2 1 _ rfl, HSl_b.out.2.2.2 2 _ rfl, HSl_b.out.2.2.2 3 _ rfl, HSl_b.out.2.2.2 4 _ rfl, HSl_b.out.2.2.2 5 _ rfl, HSl_b.out.2.2.2 6 _ rfl, HSl_b.out.2.2.2 7 _ rfl, HSl_b.out.2.2.2 8 _ rfl, HSl_b.out.2.2.2 9 _ rfl, HSl_b.out.2.2.2 10 _ rfl⟩)
          clear hK K hp
          try simp only [Act.put, List.setIfInBounds_toArray, List.set_cons_zero, List.set_cons_succ]
          exact HLg14 s4 s17 wn ⟨HSt, HSl_b, HSl17⟩
        · skip
          go_simp
          obtain ⟨s8, hsx⟩ : ∃ s, s = wy.heap.size := ⟨_, rfl⟩
          rw [← hsx]
          obtain ⟨wn, hwx⟩ : ∃ wn, wn = wy.alloc (.cells #[.bool ok] 4) := ⟨_, rfl⟩
          rw [← hwx]
          have gx : Gr wy wn := by rw [hwx]; exact (Gr.refl _).alloc _
          have HSl8 := Lib.hid (show Sl p wn s8 [.bool ok] from by rw [hwx, hsx]; exact Sl.new HSt.out _ _)
          replace HSl_b := Lib.hid (Sl.gr HSt.out HSl_b.out gx)
          replace HSl4 := Lib.hid (Sl.gr HSt.out HSl4.out gx)
          replace HSl17 := Lib.hid (Sl.gr HSt.out HSl17.out gx)
          replace HSt := Lib.hid (HSt.out.gr gx)
          clear gx hwx hsx
          first | refine hK.out _ _ ?sg8_8 (fun hp => ?_) | (go_wp2_with fail; refine hK.out _ _ ?sg8_8 (fun hp => ?_))
          case sg8_8 => ((try dsimp only); exact ⟨HSl_b.out.2.2.2 0 _ rfl, HSl_b.out.2.2.2 1 _ rfl, HSl_b.out.2.2.2 2 _ rfl, HSl_b.out.2.2.2 3 _ rfl, HSl_b.out.2.2.2 4 _ rfl, HSl_b.out.2.2.2 5 _ rfl, HSl_b.out.2.2.2 6 _ rfl, HSl_b.out.2.2.2 7 _ rfl, HSl_b.out.2.2.2 8 _ rfl, HSl_b.out.2.2.2 9 _ rfl, HSl_b.out.2.2.2 10 _ rfl⟩)
          clear hK K hp
          try simp only [Act.put, List.setIfInBounds_toArray, List.set_cons_zero, List.set_cons_succ]
          exact HLg16 s4 s8 s17 wn ⟨HSt, HSl_b, HSl4, HSl8, HSl17⟩
        · skip
          go_simp
          obtain ⟨s12, hsx⟩ : ∃ s, s = wy.heap.size := ⟨_, rfl⟩
          rw [← hsx]
          obtain ⟨wn, hwx⟩ : ∃ wn, wn = wy.alloc (.cells #[.string text] 9) := ⟨_, rfl⟩
          rw [← hwx]
          have gx : Gr wy wn := by rw [hwx]; exact (Gr.refl _).alloc _
          have HSl12 := Lib.hid (show Sl p wn s12 [.string text] from by rw [hwx, hsx]; exact Sl.new HSt.out _ _)
          replace HSl_b := Lib.hid (Sl.gr HSt.out HSl_b.out gx)
          replace HSl4 := Lib.hid (Sl.gr HSt.out HSl4.out gx)
          replace HSl17 := Lib.hid (Sl.gr HSt.out HSl17.out gx)
          replace HSt := Lib.hid (HSt.out.gr gx)
          clear gx hwx hsx
          first | refine hK.out _ _ ?sg8_12 (fun hp => ?_) | (go_wp2_with fail; refine hK.out _ _ ?sg8_12 (fun hp => ?_))
          case sg8_12 => ((try dsimp only); exact ⟨HSl_b.out.2.2.2 0 _ rfl, HSl_b.out.2.2.2 1 _ rfl, HSl_b.out.2.2.2 2 _ rfl, HSl_b.out.2.2.2 3 _ rfl, HSl_b.out.2.2.2 4 _ rfl, HSl_b.out.2.2.2 5 _ rfl, HSl_b.out.2.2.2 6 _ rfl, HSl_b.out.2.2.2 7 _ rfl, HSl_b.out.2.2.2 8 _ rfl, HSl_b.out.2.2.2 9 _ rfl, HSl_b.out.2.2.2 10 _ rfl⟩)
          clear hK K hp
          try simp only [Act.put, List.setIfInBounds_toArray, List.set_cons_zero, List.set_cons_succ]
          exact HLg17 s4 s12 s17 wn ⟨HSt, HSl_b, HSl4, HSl12, HSl17⟩
      · intro s8 s12 wy hSt
        obtain ⟨HSt, HSl_b, HSl8, HSl12⟩ := hSt
        refine wpAnyH_ready (rs := [4, 17]) (by kernel_rfl) (by simp) ?_
        refine AllReadyH.cons (o := { dst := some 24, op := Go.Op.buildSlice 61 2 #[(0, Go.Operand.tmp 21), (1, Go.Operand.tmp 23)], type := 61, pos := "msg.go:111", after := #[{ on := 1, ground := Go.Ground.data }, { on := 3, ground := Go.Ground.data }], guard := none }) rfl (fun K hK => ?_) (AllReadyH.cons (o := { dst := some 37, op := Go.Op.buildSlice 61 1 #[(0, Go.Operand.tmp 36)], type := 61, pos := "msg.go:111", after := #[{ on := 16, ground := Go.Ground.data }], guard := none }) rfl (fun K hK => ?_) AllReadyH.nil)
        · skip
          go_simp
          obtain ⟨s4, hsx⟩ : ∃ s, s = wy.heap.size := ⟨_, rfl⟩
          rw [← hsx]
          obtain ⟨wn, hwx⟩ : ∃ wn, wn = wy.alloc (.cells #[.int .i64 slot, .int .i64 time] 3) := ⟨_, rfl⟩
          rw [← hwx]
          have gx : Gr wy wn := by rw [hwx]; exact (Gr.refl _).alloc _
          have HSl4 := Lib.hid (show Sl p wn s4 [.int .i64 slot, .int .i64 time] from by rw [hwx, hsx]; exact Sl.new HSt.out _ _)
          replace HSl_b := Lib.hid (Sl.gr HSt.out HSl_b.out gx)
          replace HSl8 := Lib.hid (Sl.gr HSt.out HSl8.out gx)
          replace HSl12 := Lib.hid (Sl.gr HSt.out HSl12.out gx)
          replace HSt := Lib.hid (HSt.out.gr gx)
          clear gx hwx hsx
          first | refine hK.out _ _ ?sg9_4 (fun hp => ?_) | (go_wp2_with fail; refine hK.out _ _ ?sg9_4 (fun hp => ?_))
          case sg9_4 => ((try dsimp only); exact ⟨HSl_b.out.2.2.2 0 _ rfl, HSl_b.out.2.2.2 1 _ rfl, HSl_b.out.2.2.2 2 _ rfl, HSl_b.out.2.2.2 3 _ rfl, HSl_b.out.2.2.2 4 _ rfl, HSl_b.out.2.2.2 5 _ rfl, HSl_b.out.2.2.2 6 _ rfl, HSl_b.out.2.2.2 7 _ rfl, HSl_b.out.2.2.2 8 _ rfl, HSl_b.out.2.2.2 9 _ rfl, HSl_b.out.2.2.2 10 _ rfl⟩)
          clear hK K hp
          try simp only [Act.put, List.setIfInBounds_toArray, List.set_cons_zero, List.set_cons_succ]
          exact HLg15 s4 s8 s12 wn ⟨HSt, HSl_b, HSl4, HSl8, HSl12⟩
        · skip
          go_simp
          obtain ⟨s17, hsx⟩ : ∃ s, s = wy.heap.size := ⟨_, rfl⟩
          rw [← hsx]
          obtain ⟨wn, hwx⟩ : ∃ wn, wn = wy.alloc (.cells #[.int .i64 (L.length : Nat)] 3) := ⟨_, rfl⟩
          rw [← hwx]
          have gx : Gr wy wn := by rw [hwx]; exact (Gr.refl _).alloc _
          have HSl17 := Lib.hid (show Sl p wn s17 [.int .i64 (L.length : Nat)] from by rw [hwx, hsx]; exact Sl.new HSt.out _ _)
          replace HSl_b := Lib.hid (Sl.gr HSt.out HSl_b.out gx)
          replace HSl8 := Lib.hid (Sl.gr HSt.out HSl8.out gx)
          replace HSl12 := Lib.hid (Sl.gr HSt.out HSl12.out gx)
          replace HSt := Lib.hid (HSt.out.gr gx)
          clear gx hwx hsx
          first | refine hK.out _ _ ?sg9_17 (fun hp => ?_) | (go_wp2_with fail; refine hK.out _ _ ?sg9_17 (fun hp => ?_))
          case sg9_17 => ((try dsimp only); exact ⟨HSl_b.out.2.2.2 0 _ rfl, HSl_b.out.2.2.2 1 _ rfl, HSl_b.out.2.2.2 2 _ rfl, HSl_b.out.2.2.2 3 _ rfl, HSl_b.out.2.2.2 4 _ rfl, HSl_b.out.2.2.2 5 _ rfl, HSl_b.out.2.2.2 6 _ rfl, HSl_b.out.2.2.2 7 _ rfl, HSl_b.out.2.2.2 8 _ rfl, HSl_b.out.2.2.2 9 _ rfl, HSl_b.out.2.2.2 10 _ rfl⟩)
          clear hK K hp
          try simp only [Act.put, List.setIfInBounds_toArray, List.set_cons_zero, List.set_cons_succ]
          exact HLg18 s8 s12 s17 wn ⟨HSt, HSl_b, HSl8, HSl12, HSl17⟩
      · intro s8 s17 wy hSt
        obtain ⟨HSt, HSl_b, HSl8, HSl17⟩ := hSt
        refine wpAnyH_ready (rs := [4, 12]) (by kernel_rfl) (by simp) ?_
        refine AllReadyH.cons (o := { dst := some 24, op := Go.Op.buildSlice 61 2 #[(0, Go.Operand.tmp 21), (1, Go.Operand.tmp 23)], type := 61, pos := "msg.go:111", after := #[{ on := 1, ground := Go.Ground.data }, { on := 3, ground := Go.Ground.data }], guard := none }) rfl (fun K hK => ?_) (AllReadyH.cons (o := { dst := some 32, op := Go.Op.buildSlice 110 1 #[(0, Go.Operand.tmp 31)], type := 110, pos := "msg.go:111", after := #[{ on := 11, ground := Go.Ground.data }], guard := none }) rfl (fun K hK => ?_) AllReadyH.nil)
        · skip
          go_simp
          obtain ⟨s4, hsx⟩ : ∃ s, s = wy.heap.size := ⟨_, rfl⟩
          rw [← hsx]
          obtain ⟨wn, hwx⟩ : ∃ wn, wn = wy.alloc (.cells #[.int .i64 slot, .int .i64 time] 3) := ⟨_, rfl⟩
          rw [← hwx]
          have gx : Gr wy wn := by rw [hwx]; exact (Gr.refl _).alloc _
          have HSl4 := Lib.hid (show Sl p wn s4 [.int .i64 slot, .int .i64 time] from by rw [hwx, hsx]; exact Sl.new HSt.out _ _)
          replace HSl_b := Lib.hid (Sl.gr HSt.out HSl_b.out gx)
          replace HSl8 := Lib.hid (Sl.gr HSt.out HSl8.out gx)
          replace HSl17 := Lib.hid (Sl.gr HSt.out HSl17.out gx)
          replace HSt := Lib.hid (HSt.out.gr gx)
          clear gx hwx hsx
          first | refine hK.out _ _ ?sg10_4 (fun hp => ?_) | (go_wp2_with fail; refine hK.out _ _ ?sg10_4 (fun hp => ?_))
          case sg10_4 => ((try dsimp only); exact ⟨HSl_b.out.2.2.2 0 _ rfl, HSl_b.out.2.2.2 1 _ rfl, HSl_b.out.2.2.2 2 _ rfl, HSl_b.out.2.2.2 3 _ rfl, HSl_b.out.2.2.2 4 _ rfl, HSl_b.out.2.2.2 5 _ rfl, HSl_b.out.2.2.2 6 _ rfl, HSl_b.out.2.2.2 7 _ rfl, HSl_b.out.2.2.2 8 _ rfl, HSl_b.out.2.2.2 9 _ rfl, HSl_b.out.2.2.2 10 _ rfl⟩)
          clear hK K hp
          try simp only [Act.put, List.setIfInBounds_toArray, List.set_cons_zero, List.set_cons_succ]
          exact HLg16 s4 s8 s17 wn ⟨HSt, HSl_b, HSl4, HSl8, HSl17⟩
        · skip
          go_simp
          obtain ⟨s12, hsx⟩ : ∃ s, s = wy.heap.size := ⟨_, rfl⟩
          rw [← hsx]
          obtain ⟨wn, hwx⟩ : ∃ wn, wn = wy.alloc (.cells #[.string text] 9) := ⟨_, rfl⟩
          rw [← hwx]
          have gx : Gr wy wn := by rw [hwx]; exact (Gr.refl _).alloc _
          have HSl12 := Lib.hid (show Sl p wn s12 [.string text] from by rw [hwx, hsx]; exact Sl.new HSt.out _ _)
          replace HSl_b := Lib.hid (Sl.gr HSt.out HSl_b.out gx)
          replace HSl8 := Lib.hid (Sl.gr HSt.out HSl8.out gx)
          replace HSl17 := Lib.hid (Sl.gr HSt.out HSl17.out gx)
          replace HSt := Lib.hid (HSt.out.gr gx)
          clear gx hwx hsx
          first | refine hK.out _ _ ?sg10_12 (fun hp => ?_) | (go_wp2_with fail; refine hK.out _ _ ?sg10_12 (fun hp => ?_))
          case sg10_12 => ((try dsimp only); exact ⟨HSl_b.out.2.2.2 0 _ rfl, HSl_b.out.2.2.2 1 _ rfl, HSl_b.out.2.2.2 2 _ rfl, HSl_b.out.2.2.2 3 _ rfl, HSl_b.out.2.2.2 4 _ rfl, HSl_b.out.2.2.2 5 _ rfl, HSl_b.out.2.2.2 6 _ rfl, HSl_b.out.2.2.2 7 _ rfl, HSl_b.out.2.2.2 8 _ rfl, HSl_b.out.2.2.2 9 _ rfl, HSl_b.out.2.2.2 10 _ rfl⟩)
          clear hK K hp
          try simp only [Act.put, List.setIfInBounds_toArray, List.set_cons_zero, List.set_cons_succ]
          exact HLg18 s8 s12 s17 wn ⟨HSt, HSl_b, HSl8, HSl12, HSl17⟩
      · intro s12 s17 wy hSt
        obtain ⟨HSt, HSl_b, HSl12, HSl17⟩ := hSt
        refine wpAnyH_ready (rs := [4, 8]) (by kernel_rfl) (by simp) ?_
        refine AllReadyH.cons (o := { dst := some 24, op := Go.Op.buildSlice 61 2 #[(0, Go.Operand.tmp 21), (1, Go.Operand.tmp 23)], type := 61, pos := "msg.go:111", after := #[{ on := 1, ground := Go.Ground.data }, { on := 3, ground := Go.Ground.data }], guard := none }) rfl (fun K hK => ?_) (AllReadyH.cons (o := { dst := some 28, op := Go.Op.buildSlice 109 1 #[(0, Go.Operand.tmp 27)], type := 109, pos := "msg.go:111", after := #[{ on := 7, ground := Go.Ground.data }], guard := none }) rfl (fun K hK => ?_) AllReadyH.nil)
        · skip
          go_simp
          obtain ⟨s4, hsx⟩ : ∃ s, s = wy.heap.size := ⟨_, rfl⟩
          rw [← hsx]
          obtain ⟨wn, hwx⟩ : ∃ wn, wn = wy.alloc (.cells #[.int .i64 slot, .int .i64 time] 3) := ⟨_, rfl⟩
          rw [← hwx]
          have gx : Gr wy wn := by rw [hwx]; exact (Gr.refl _).alloc _
          have HSl4 := Lib.hid (show Sl p wn s4 [.int .i64 slot, .int .i64 time] from by rw [hwx, hsx]; exact Sl.new HSt.out _ _)
          replace HSl_b := Lib.hid (Sl.gr HSt.out HSl_b.out gx)
          replace HSl12 := Lib.hid (Sl.gr HSt.out HSl12.out gx)
          replace HSl17 := Lib.hid (Sl.gr HSt.out HSl17.out gx)
          replace HSt := Lib.hid (HSt.out.gr gx)
          clear gx hwx hsx
          first | refine hK.out _ _ ?sg11_4 (fun hp => ?_) | (go_wp2_with fail; refine hK.out _ _ ?sg11_4 (fun hp => ?_))
          case sg11_4 => ((try dsimp only); exact ⟨HSl_b.out.2.2.2 0 _ rfl, HSl_b.out.2.2.2 1 _ rfl, HSl_b.out.2.2.2 2 _ rfl, HSl_b.out.2.2.2 3 _ rfl, HSl_b.out.2.2.2 4 _ rfl, HSl_b.out.2.2.2 5 _ rfl, HSl_b.out.2.2.2 6 _ rfl, HSl_b.out.2.2.2 7 _ rfl, HSl_b.out.2.2.2 8 _ rfl, HSl_b.out.2.2.2 9 _ rfl, HSl_b.out.2.2.2 10 _ rfl⟩)
          clear hK K hp
          try simp only [Act.put, List.setIfInBounds_toArray, List.set_cons_zero, List.set_cons_succ]
          exact HLg17 s4 s12 s17 wn ⟨HSt, HSl_b, HSl4, HSl12, HSl17⟩
        · skip
          go_simp
          obtain ⟨s8, hsx⟩ : ∃ s, s = wy.heap.size := ⟨_, rfl⟩
          rw [← hsx]
          obtain ⟨wn, hwx⟩ : ∃ wn, wn = wy.alloc (.cells #[.bool ok] 4) := ⟨_, rfl⟩
          rw [← hwx]
          have gx : Gr wy wn := by rw [hwx]; exact (Gr.refl _).alloc _
          have HSl8 := Lib.hid (show Sl p wn s8 [.bool ok] from by rw [hwx, hsx]; exact Sl.new HSt.out _ _)
          replace HSl_b := Lib.hid (Sl.gr HSt.out HSl_b.out gx)
          replace HSl12 := Lib.hid (Sl.gr HSt.out HSl12.out gx)
          replace HSl17 := Lib.hid (Sl.gr HSt.out HSl17.out gx)
          replace HSt := Lib.hid (HSt.out.gr gx)
          clear gx hwx hsx
          first | refine hK.out _ _ ?sg11_8 (fun hp => ?_) | (go_wp2_with fail; refine hK.out _ _ ?sg11_8 (fun hp => ?_))
          case sg11_8 => ((try dsimp only); exact ⟨HSl_b.out.2.2.2 0 _ rfl, HSl_b.out.2.2.2 1 _ rfl, HSl_b.out.2.2.2 2 _ rfl, HSl_b.out.2.2.2 3 _ rfl, HSl_b.out.2.2.2 4 _ rfl, HSl_b.out.2.2.2 5 _ rfl, HSl_b.out.2.2.2 6 _ rfl, HSl_b.out.2.2.2 7 _ rfl, HSl_b.out.2.2.2 8 _ rfl, HSl_b.out.2.2.2 9 _ rfl, HSl_b.out.2.2.2 10 _ rfl⟩)
          clear hK K hp
          try simp only [Act.put, List.setIfInBounds_toArray, List.set_cons_zero, List.set_cons_succ]
          exact HLg18 s8 s12 s17 wn ⟨HSt, HSl_b, HSl8, HSl12, HSl17⟩
      · intro s4 s8 wy hSt
        obtain ⟨HSt, HSl_b, HSl8⟩ := hSt
        refine wpAnyH_ready (rs := [9, 12, 17]) (by kernel_rfl) (by simp) ?_
        refine AllReadyH.cons (o := { dst := some 29, op := Go.Op.call { callee := Go.Callee.value (Go.Operand.func 35), args := #[Go.Operand.tmp 25, Go.Operand.tmp 28], argTypes := #[82, 109] }, type := 82, pos := "msg.go:111", after := #[{ on := 5, ground := Go.Ground.data }, { on := 8, ground := Go.Ground.data }, { on := 5, ground := Go.Ground.chain }], guard := none }) rfl (fun K hK => ?_) (AllReadyH.cons (o := { dst := some 32, op := Go.Op.buildSlice 110 1 #[(0, Go.Operand.tmp 31)], type := 110, pos := "msg.go:111", after := #[{ on := 11, ground := Go.Ground.data }], guard := none }) rfl (fun K hK => ?_) (AllReadyH.cons (o := { dst := some 37, op := Go.Op.buildSlice 61 1 #[(0, Go.Operand.tmp 36)], type := 61, pos := "msg.go:111", after := #[{ on := 16, ground := Go.Ground.data }], guard := none }) rfl (fun K hK => ?_) AllReadyH.nil))
        · skip
          go_simp
          go_at_call 35
          refine (stB ok HSt.out HSl8.out (by simp only [List.length_append]; have := encN_le9 slot; have := encN_le9 time; have := encS_le9 text; have : (encB ok).length = 1 := rfl; omega)).mono ?_
          rintro e wn ⟨rfl, hSt2, hK2⟩
          replace HSl_b := Lib.hid (Sl.keeps HSl_b.out hK2)
          replace HSt := Lib.hid hSt2
          clear hSt2 hK2
          clear HSl8
          first | refine hK.out _ _ ?sg12_9 (fun hp => ?_) | (go_wp2_with fail; refine hK.out _ _ ?sg12_9 (fun hp => ?_))
          case sg12_9 => ((try dsimp only); exact ⟨HSl_b.out.2.2.2 0 _ rfl, HSl_b.out.2.2.2 1 _ rfl, HSl_b.out.2.2.2 2 _ rfl, HSl_b.out.2.2.2 3 _ rfl, HSl_b.out.2.2.2 4 _ rfl, HSl_b.out.2.2.2 5 _ rfl, HSl_b.out.2.2.2 6 _ rfl, HSl_b.out.2.2.2 7 _ rfl, HSl_b.out.2.2.2 8 _ rfl, HSl_b.out.2.2.2 9 _ rfl, HSl_b.out.2.2.2 10 _ rfl⟩)
          clear hK K hp
          try simp only [Act.put, List.setIfInBounds_toArray, List.set_cons_zero, List.set_cons_succ]
          exact HLg19 s4 s8 wn ⟨HSt, HSl_b⟩
        · skip
          go_simp
          obtain ⟨s12, hsx⟩ : ∃ s, s = wy.heap.size := ⟨_, rfl⟩
          rw [← hsx]
          obtain ⟨wn, hwx⟩ : ∃ wn, wn = wy.alloc (.cells #[.string text] 9) := ⟨_, rfl⟩
          rw [← hwx]
          have gx : Gr wy wn := by rw [hwx]; exact (Gr.refl _).alloc _
          have HSl12 := Lib.hid (show Sl p wn s12 [.string text] from by rw [hwx, hsx]; exact Sl.new HSt.out _ _)
          replace HSl_b := Lib.hid (Sl.gr HSt.out HSl_b.out gx)
          replace HSl8 := Lib.hid (Sl.gr HSt.out HSl8.out gx)
          replace HSt := Lib.hid (HSt.out.gr gx)
          clear gx hwx hsx
          first | refine hK.out _ _ ?sg12_12 (fun hp => ?_) | (go_wp2_with fail; refine hK.out _ _ ?sg12_12 (fun hp => ?_))
          case sg12_12 => ((try dsimp only); exact ⟨HSl_b.out.2.2.2 0 _ rfl, HSl_b.out.2.2.2 1 _ rfl, HSl_b.out.2.2.2 2 _ rfl, HSl_b.out.2.2.2 3 _ rfl, HSl_b.out.2.2.2 4 _ rfl, HSl_b.out.2.2.2 5 _ rfl, HSl_b.out.2.2.2 6 _ rfl, HSl_b.out.2.2.2 7 _ rfl, HSl_b.out.2.2.2 8 _ rfl, HSl_b.out.2.2.2 9 _ rfl, HSl_b.out.2.2.2 10 _ rfl⟩)
          clear hK K hp
          try simp only [Act.put, List.setIfInBounds_toArray, List.set_cons_zero, List.set_cons_succ]
          exact HLg20 s4 s8 s12 wn ⟨HSt, HSl_b, HSl8, HSl12⟩
        · skip
          go_simp
          obtain ⟨s17, hsx⟩ : ∃ s, s = wy.heap.size := ⟨_, rfl⟩
          rw [← hsx]
          obtain ⟨wn, hwx⟩ : ∃ wn, wn = wy.alloc (.cells #[.int .i64 (L.length : Nat)] 3) := ⟨_, rfl⟩
          rw [← hwx]
          have gx : Gr wy wn := by rw [hwx]; exact (Gr.refl _).alloc _
          have HSl17 := Lib.hid (show Sl p wn s17 [.int .i64 (L.length : Nat)] from by rw [hwx, hsx]; exact Sl.new HSt.out _ _)
          replace HSl_b := Lib.hid (Sl.gr HSt.out HSl_b.out gx)
          replace HSl8 := Lib.hid (Sl.gr HSt.out HSl8.out gx)
          replace HSt := Lib.hid (HSt.out.gr gx)
          clear gx hwx hsx
          first | refine hK.out _ _ ?sg12_17 (fun hp => ?_) | (go_wp2_with fail; refine hK.out _ _ ?sg12_17 (fun hp => ?_))
          case sg12_17 => ((try dsimp only); exact ⟨HSl_b.out.2.2.2 0 _ rfl, HSl_b.out.2.2.2 1 _ rfl, HSl_b.out.2.2.2 2 _ rfl, HSl_b.out.2.2.2 3 _ rfl, HSl_b.out.2.2.2 4 _ rfl, HSl_b.out.2.2.2 5 _ rfl, HSl_b.out.2.2.2 6 _ rfl, HSl_b.out.2.2.2 7 _ rfl, HSl_b.out.2.2.2 8 _ rfl, HSl_b.out.2.2.2 9 _ rfl, HSl_b.out.2.2.2 10 _ rfl⟩)
          clear hK K hp
          try simp only [Act.put, List.setIfInBounds_toArray, List.set_cons_zero, List.set_cons_succ]
          exact HLg21 s4 s8 s17 wn ⟨HSt, HSl_b, HSl8, HSl17⟩
      · intro s4 s12 wy hSt
        obtain ⟨HSt, HSl_b, HSl12⟩ := hSt
        refine wpAnyH_ready (rs := [8, 17]) (by kernel_rfl) (by simp) ?_
        refine AllReadyH.cons (o := { dst := some 28, op := Go.Op.buildSlice 109 1 #[(0, Go.Operand.tmp 27)], type := 109, pos := "msg.go:111", after := #[{ on := 7, ground := Go.Ground.data }], guard := none }) rfl (fun K hK => ?_) (AllReadyH.cons (o := { dst := some 37, op := Go.Op.buildSlice 61 1 #[(0, Go.Operand.tmp 36)], type := 61, pos := "msg.go:111", after := #[{ on := 16, ground := Go.Ground.data }], guard := none }) rfl (fun K hK => ?_) AllReadyH.nil)
        · skip
          go_simp
          obtain ⟨s8, hsx⟩ : ∃ s, s = wy.heap.size := ⟨_, rfl⟩
          rw [← hsx]
          obtain ⟨wn, hwx⟩ : ∃ wn, wn = wy.alloc (.cells #[.bool ok] 4) := ⟨_, rfl⟩
          rw [← hwx]
          have gx : Gr wy wn := by rw [hwx]; exact (Gr.refl _).alloc _
          have HSl8 := Lib.hid (show Sl p wn s8 [.bool ok] from by rw [hwx, hsx]; exact Sl.new HSt.out _ _)
          replace HSl_b := Lib.hid (Sl.gr HSt.out HSl_b.out gx)
          replace HSl12 := Lib.hid (Sl.gr HSt.out HSl12.out gx)
          replace HSt := Lib.hid (HSt.out.gr gx)
          clear gx hwx hsx
          first | refine hK.out _ _ ?sg13_8 (fun hp => ?_) | (go_wp2_with fail; refine hK.out _ _ ?sg13_8 (fun hp => ?_))
          case sg13_8 => ((try dsimp only); exact ⟨HSl_b.out.2.2.2 0 _ rfl, HSl_b.out.2.2.2 1 _ rfl, HSl_b.out.2.2.2 2 _ rfl, HSl_b.out.2.2.2 3 _ rfl, HSl_b.out.2.2.2 4 _ rfl, HSl_b.out.2.2.2 5 _ rfl, HSl_b.out.2.2.2 6 _ rfl, HSl_b.out.2.2.2 7 _ rfl, HSl_b.out.2.2.2 8 _ rfl, HSl_b.out.2.2.2 9 _ rfl, HSl_b.out.2.2.2 10 _ rfl⟩)
          clear hK K hp
          try simp only [Act.put, List.setIfInBounds_toArray, List.set_cons_zero, List.set_cons_succ]
          exact HLg20 s4 s8 s12 wn ⟨HSt, HSl_b, HSl8, HSl12⟩
        · skip
          go_simp
          obtain ⟨s17, hsx⟩ : ∃ s, s = wy.heap.size := ⟨_, rfl⟩
          rw [← hsx]
          obtain ⟨wn, hwx⟩ : ∃ wn, wn = wy.alloc (.cells #[.int .i64 (L.length : Nat)] 3) := ⟨_, rfl⟩
          rw [← hwx]
          have gx : Gr wy wn := by rw [hwx]; exact (Gr.refl _).alloc _
          have HSl17 := Lib.hid (show Sl p wn s17 [.int .i64 (L.length : Nat)] from by rw [hwx, hsx]; exact Sl.new HSt.out _ _)
          replace HSl_b := Lib.hid (Sl.gr HSt.out HSl_b.out gx)
          replace HSl12 := Lib.hid (Sl.gr HSt.out HSl12.out gx)
          replace HSt := Lib.hid (HSt.out.gr gx)
          clear gx hwx hsx
          first | refine hK.out _ _ ?sg13_17 (fun hp => ?_) | (go_wp2_with fail; refine hK.out _ _ ?sg13_17 (fun hp => ?_))
          case sg13_17 => ((try dsimp only); exact ⟨HSl_b.out.2.2.2 0 _ rfl, HSl_b.out.2.2.2 1 _ rfl, HSl_b.out.2.2.2 2 _ rfl, HSl_b.out.2.2.2 3 _ rfl, HSl_b.out.2.2.2 4 _ rfl, HSl_b.out.2.2.2 5 _ rfl, HSl_b.out.2.2.2 6 _ rfl, HSl_b.out.2.2.2 7 _ rfl, HSl_b.out.2.2.2 8 _ rfl, HSl_b.out.2.2.2 9 _ rfl, HSl_b.out.2.2.2 10 _ rfl⟩)
          clear hK K hp
          try simp only [Act.put, List.setIfInBounds_toArray, List.set_cons_zero, List.set_cons_succ]
          exact HLg22 s4 s12 s17 wn ⟨HSt, HSl_b, HSl12, HSl17⟩
      · intro s4 s17 wy hSt
        obtain ⟨HSt, HSl_b, HSl17⟩ := hSt
        refine wpAnyH_ready (rs := [8, 12]) (by kernel_rfl) (by simp) ?_
        refine AllReadyH.cons (o := { dst := some 28, op := Go.Op.buildSlice 109 1 #[(0, Go.Operand.tmp 27)], type := 109, pos := "msg.go:111", after := #[{ on := 7, ground := Go.Ground.data }], guard := none }) rfl (fun K hK => ?_) (AllReadyH.cons (o := { dst := some 32, op := Go.Op.buildSlice 110 1 #[(0, Go.Operand.tmp 31)], type := 110, pos := "msg.go:111", after := #[{ on := 11, ground := Go.Ground.data }], guard := none }) rfl (fun K hK => ?_) AllReadyH.nil)
        · skip
          go_simp
          obtain ⟨s8, hsx⟩ : ∃ s, s = wy.heap.size := ⟨_, rfl⟩
          rw [← hsx]
          obtain ⟨wn, hwx⟩ : ∃ wn, wn = wy.alloc (.cells #[.bool ok] 4) := ⟨_, rfl⟩
          rw [← hwx]
          have gx : Gr wy wn := by rw [hwx]; exact (Gr.refl _).alloc _
          have HSl8 := Lib.hid (show Sl p wn s8 [.bool ok] from by rw [hwx, hsx]; exact Sl.new HSt.out _ _)
          replace HSl_b := Lib.hid (Sl.gr HSt.out HSl_b.out gx)
          replace HSl17 := Lib.hid (Sl.gr HSt.out HSl17.out gx)
          replace HSt := Lib.hid (HSt.out.gr gx)
          clear gx hwx hsx
          first | refine hK.out _ _ ?sg14_8 (fun hp => ?_) | (go_wp2_with fail; refine hK.out _ _ ?sg14_8 (fun hp => ?_))
          case sg14_8 => ((try dsimp only); exact ⟨HSl_b.out.2.2.2 0 _ rfl, HSl_b.out.2.2.2 1 _ rfl, HSl_b.out.2.2.2 2 _ rfl, HSl_b.out.2.2.2 3 _ rfl, HSl_b.out.2.2.2 4 _ rfl, HSl_b.out.2.2.2 5 _ rfl, HSl_b.out.2.2.2 6 _ rfl, HSl_b.out.2.2.2 7 _ rfl, HSl_b.out.2.2.2 8 _ rfl, HSl_b.out.2.2.2 9 _ rfl, HSl_b.out.2.2.2 10 _ rfl⟩)
          clear hK K hp
          try simp only [Act.put, List.setIfInBounds_toArray, List.set_cons_zero, List.set_cons_succ]
          exact HLg21 s4 s8 s17 wn ⟨HSt, HSl_b, HSl8, HSl17⟩
        · skip
          go_simp
          obtain ⟨s12, hsx⟩ : ∃ s, s = wy.heap.size := ⟨_, rfl⟩
          rw [← hsx]
          obtain ⟨wn, hwx⟩ : ∃ wn, wn = wy.alloc (.cells #[.string text] 9) := ⟨_, rfl⟩
          rw [← hwx]
          have gx : Gr wy wn := by rw [hwx]; exact (Gr.refl _).alloc _
          have HSl12 := Lib.hid (show Sl p wn s12 [.string text] from by rw [hwx, hsx]; exact Sl.new HSt.out _ _)
          replace HSl_b := Lib.hid (Sl.gr HSt.out HSl_b.out gx)
          replace HSl17 := Lib.hid (Sl.gr HSt.out HSl17.out gx)
          replace HSt := Lib.hid (HSt.out.gr gx)
          clear gx hwx hsx
          first | refine hK.out _ _ ?sg14_12 (fun hp => ?_) | (go_wp2_with fail; refine hK.out _ _ ?sg14_12 (fun hp => ?_))
          case sg14_12 => ((try dsimp only); exact ⟨HSl_b.out.2.2.2 0 _ rfl, HSl_b.out.2.2.2 1 _ rfl, HSl_b.out.2.2.2 2 _ rfl, HSl_b.out.2.2.2 3 _ rfl, HSl_b.out.2.2.2 4 _ rfl, HSl_b.out.2.2.2 5 _ rfl, HSl_b.out.2.2.2 6 _ rfl, HSl_b.out.2.2.2 7 _ rfl, HSl_b.out.2.2.2 8 _ rfl, HSl_b.out.2.2.2 9 _ rfl, HSl_b.out.2.2.2 10 _ rfl⟩)
          clear hK K hp
          try simp only [Act.put, List.setIfInBounds_toArray, List.set_cons_zero, List.set_cons_succ]
          exact HLg22 s4 s12 s17 wn ⟨HSt, HSl_b, HSl12, HSl17⟩
      · intro s4 s8 s12 wy hSt
        obtain ⟨HSt, HSl_b, HSl4, HSl8, HSl12⟩ := hSt
        refine wpAnyH_ready (rs := [5, 17]) (by kernel_rfl) (by simp) ?_
        refine AllReadyH.cons (o := { dst := some 25, op := Go.Op.call { callee := Go.Callee.value (Go.Operand.func 34), args := #[Go.Operand.tmp 3, Go.Operand.tmp 24], argTypes := #[80, 61] }, type := 82, pos := "msg.go:111", after := #[{ on := 4, ground := Go.Ground.data }], guard := none }) rfl (fun K hK => ?_) (AllReadyH.cons (o := { dst := some 37, op := Go.Op.buildSlice 61 1 #[(0, Go.Operand.tmp 36)], type := 61, pos := "msg.go:111", after := #[{ on := 16, ground := Go.Ground.data }], guard := none }) rfl (fun K hK => ?_) AllReadyH.nil)
        · skip
          go_simp
          go_at_call 34
          refine (stN2 slot time HSt.out HSl4.out (by omega) (by omega) (by omega)).mono ?_
          rintro e wn ⟨rfl, hSt2, hK2⟩
          replace HSl_b := Lib.hid (Sl.keeps HSl_b.out hK2)
          replace HSl8 := Lib.hid (Sl.keeps HSl8.out hK2)
          replace HSl12 := Lib.hid (Sl.keeps HSl12.out hK2)
          replace HSt := Lib.hid hSt2
          clear hSt2 hK2
          clear HSl4
          first | refine hK.out _ _ ?sg15_5 (fun hp => ?_) | (go_wp2_with fail; refine hK.out _ _ ?sg15_5 (fun hp => ?_))
          case sg15_5 => ((try dsimp only); exact ⟨HSl_b.out.2.2.2 0 _ rfl, HSl_b.out.2.2.2 1 _ rfl, HSl_b.out.2.2.2 2 _ rfl, HSl_b.out.2.2.2 3 _ rfl, HSl_b.out.2.2.2 4 _ rfl, HSl_b.out.2.2.2 5 _ rfl, HSl_b.out.2.2.2 6 _ rfl, HSl_b.out.2.2.2 7 _ rfl, HSl_b.out.2.2.2 8 _ rfl, HSl_b.out.2.2.2 9 _ rfl, HSl_b.out.2.2.2 10 _ rfl⟩)
          clear hK K hp
          try simp only [Act.put, List.setIfInBounds_toArray, List.set_cons_zero, List.set_cons_succ]
          exact HLg20 s4 s8 s12 wn ⟨HSt, HSl_b, HSl8, HSl12⟩
        · skip
          go_simp
          obtain ⟨s17, hsx⟩ : ∃ s, s = wy.heap.size := ⟨_, rfl⟩
          rw [← hsx]
          obtain ⟨wn, hwx⟩ : ∃ wn, wn = wy.alloc (.cells #[.int .i64 (L.length : Nat)] 3) := ⟨_, rfl⟩
          rw [← hwx]
          have gx : Gr wy wn := by rw [hwx]; exact (Gr.refl _).alloc _
          have HSl17 := Lib.hid (show Sl p wn s17 [.int .i64 (L.length : Nat)] from by rw [hwx, hsx]; exact Sl.new HSt.out _ _)
          replace HSl_b := Lib.hid (Sl.gr HSt.out HSl_b.out gx)
          replace HSl4 := Lib.hid (Sl.gr HSt.out HSl4.out gx)
          replace HSl8 := Lib.hid (Sl.gr HSt.out HSl8.out gx)
          replace HSl12 := Lib.hid (Sl.gr HSt.out HSl12.out gx)
          replace HSt := Lib.hid (HSt.out.gr gx)
          clear gx hwx hsx
          first | refine hK.out _ _ ?sg15_17 (fun hp => ?_) | (go_wp2_with fail; refine hK.out _ _ ?sg15_17 (fun hp => ?_))
          case sg15_17 => ((try dsimp only); exact ⟨HSl_b.out.2.2.2 0 _ rfl, HSl_b.out.2.2.2 1 _ rfl, HSl_b.out.2.2.2 2 _ rfl, HSl_b.out.2.2.2 3 _ rfl, HSl_b.out.2.2.2 4 _ rfl, HSl_b.out.2.2.2 5 _ rfl, HSl_b.out.2.2.2 6 _ rfl, HSl_b.out.2.2.2 7 _ rfl, HSl_b.out.2.2.2 8 _ rfl, HSl_b.out.2.2.2 9 _ rfl, HSl_b.out.2.2.2 10 _ rfl⟩)
          clear hK K hp
          try simp only [Act.put, List.setIfInBounds_toArray, List.set_cons_zero, List.set_cons_succ]
          exact HLg23 s4 s8 s12 s17 wn ⟨HSt, HSl_b, HSl4, HSl8, HSl12, HSl17⟩
      · intro s4 s8 s17 wy hSt
        obtain ⟨HSt, HSl_b, HSl4, HSl8, HSl17⟩ := hSt
        refine wpAnyH_ready (rs := [5, 12]) (by kernel_rfl) (by simp) ?_
        refine AllReadyH.cons (o := { dst := some 25, op := Go.Op.call { callee := Go.Callee.value (Go.Operand.func 34), args := #[Go.Operand.tmp 3, Go.Operand.tmp 24], argTypes := #[80, 61] }, type := 82, pos := "msg.go:111", after := #[{ on := 4, ground := Go.Ground.data }], guard := none }) rfl (fun K hK => ?_) (AllReadyH.cons (o := { dst := some 32, op := Go.Op.buildSlice 110 1 #[(0, Go.Operand.tmp 31)], type := 110, pos := "msg.go:111", after := #[{ on := 11, ground := Go.Ground.data }], guard := none }) rfl (fun K hK => ?_) AllReadyH.nil)
        · skip
          go_simp
          go_at_call 34
          refine (stN2 slot time HSt.out HSl4.out (by omega) (by omega) (by omega)).mono ?_
          rintro e wn ⟨rfl, hSt2, hK2⟩
          replace HSl_b := Lib.hid (Sl.keeps HSl_b.out hK2)
          replace HSl8 := Lib.hid (Sl.keeps HSl8.out hK2)
          replace HSl17 := Lib.hid (Sl.keeps HSl17.out hK2)
          replace HSt := Lib.hid hSt2
          clear hSt2 hK2
          clear HSl4
          first | refine hK.out _ _ ?sg16_5 (fun hp => ?_) | (go_wp2_with fail; refine hK.out _ _ ?sg16_5 (fun hp => ?_))
          case sg16_5 => ((try dsimp only); exact ⟨HSl_b.out.2.2.2 0 _ rfl, HSl_b.out.2.2.2 1 _ rfl, HSl_b.out.2.2.2 2 _ rfl, HSl_b.out.2.2.2 3 _ rfl, HSl_b.out.2.2.2 4 _ rfl, HSl_b.out.2.2.2 5 _ rfl, HSl_b.out.2.2.2 6 _ rfl, HSl_b.out.2.2.2 7 _ rfl, HSl_b.out.2.2.2 8 _ rfl, HSl_b.out.2.2.2 9 _ rfl, HSl_b.out.2.2.2 10 _ rfl⟩)
          clear hK K hp
          try simp only [Act.put, List.setIfInBounds_toArray, List.set_cons_zero, List.set_cons_succ]
          exact HLg21 s4 s8 s17 wn ⟨HSt, HSl_b, HSl8, HSl17⟩
        · skip
          go_simp
          obtain ⟨s12, hsx⟩ : ∃ s, s = wy.heap.size := ⟨_, rfl⟩
          rw [← hsx]
          obtain ⟨wn, hwx⟩ : ∃ wn, wn = wy.alloc (.cells #[.string text] 9) := ⟨_, rfl⟩
          rw [← hwx]
          have gx : Gr wy wn := by rw [hwx]; exact (Gr.refl _).alloc _
          have HSl12 := Lib.hid (show Sl p wn s12 [.string text] from by rw [hwx, hsx]; exact Sl.new HSt.out _ _)
          replace HSl_b := Lib.hid (Sl.gr HSt.out HSl_b.out gx)
          replace HSl4 := Lib.hid (Sl.gr HSt.out HSl4.out gx)
          replace HSl8 := Lib.hid (Sl.gr HSt.out HSl8.out gx)
          replace HSl17 := Lib.hid (Sl.gr HSt.out HSl17.out gx)
          replace HSt := Lib.hid (HSt.out.gr gx)
          clear gx hwx hsx
          first | refine hK.out _ _ ?sg16_12 (fun hp => ?_) | (go_wp2_with fail; refine hK.out _ _ ?sg16_12 (fun hp => ?_))
          case sg16_12 => ((try dsimp only); exact ⟨HSl_b.out.2.2.2 0 _ rfl, HSl_b.out.2.2.2 1 _ rfl, HSl_b.out.2.2.2 2 _ rfl, HSl_b.out.2.2.2 3 _ rfl, HSl_b.out.2.2.2 4 _ rfl, HSl_b.out.2.2.2 5 _ rfl, HSl_b.out.2.2.2 6 _ rfl, HSl_b.out.2.2.2 7 _ rfl, HSl_b.out.2.2.2 8 _ rfl, HSl_b.out.2.2.2 9 _ rfl, HSl_b.out.2.2.2 10 _ rfl⟩)
          clear hK K hp
          try simp only [Act.put, List.setIfInBounds_toArray, List.set_cons_zero, List.set_cons_succ]
          exact HLg23 s4 s8 s12 s17 wn ⟨HSt, HSl_b, HSl4, HSl8, HSl12, HSl17⟩
      · intro s4 s12 s17 wy hSt
        obtain ⟨HSt, HSl_b, HSl4, HSl12, HSl17⟩ := hSt
        refine wpAnyH_ready (rs := [5, 8]) (by kernel_rfl) (by simp) ?_
        refine AllReadyH.cons (o := { dst := some 25, op := Go.Op.call { callee := Go.Callee.value (Go.Operand.func 34), args := #[Go.Operand.tmp 3, Go.Operand.tmp 24], argTypes := #[80, 61] }, type := 82, pos := "msg.go:111", after := #[{ on := 4, ground := Go.Ground.data }], guard := none }) rfl (fun K hK => ?_) (AllReadyH.cons (o := { dst := some 28, op := Go.Op.buildSlice 109 1 #[(0, Go.Operand.tmp 27)], type := 109, pos := "msg.go:111", after := #[{ on := 7, ground := Go.Ground.data }], guard := none }) rfl (fun K hK => ?_) AllReadyH.nil)
        · skip
          go_simp
          go_at_call 34
          refine (stN2 slot time HSt.out HSl4.out (by omega) (by omega) (by omega)).mono ?_
          rintro e wn ⟨rfl, hSt2, hK2⟩
          replace HSl_b := Lib.hid (Sl.keeps HSl_b.out hK2)
          replace HSl12 := Lib.hid (Sl.keeps HSl12.out hK2)
          replace HSl17 := Lib.hid (Sl.keeps HSl17.out hK2)
          replace HSt := Lib.hid hSt2
          clear hSt2 hK2
          clear HSl4
          first | refine hK.out _ _ ?sg17_5 (fun hp => ?_) | (go_wp2_with fail; refine hK.out _ _ ?sg17_5 (fun hp => ?_))
          case sg17_5 => ((try dsimp only); exact ⟨HSl_b.out.2.2.2 0 _ rfl, HSl_b.out.2.2.2 1 _ rfl, HSl_b.out.2.2.2 2 _ rfl, HSl_b.out.2.2.2 3 _ rfl, HSl_b.out.2.2.2 4 _ rfl, HSl_b.out.2.2.2 5 _ rfl, HSl_b.out.2.2.2 6 _ rfl, HSl_b.out.2.2.2 7 _ rfl, HSl_b.out.2.2.2 8 _ rfl, HSl_b.out.2.2.2 9 _ rfl, HSl_b.out.2.2.2 10 _ rfl⟩)
          clear hK K hp
          try simp only [Act.put, List.setIfInBounds_toArray, List.set_cons_zero, List.set_cons_succ]
          exact HLg22 s4 s12 s17 wn ⟨HSt, HSl_b, HSl12, HSl17⟩
        · skip
          go_simp
          obtain ⟨s8, hsx⟩ : ∃ s, s = wy.heap.size := ⟨_, rfl⟩
          rw [← hsx]
          obtain ⟨wn, hwx⟩ : ∃ wn, wn = wy.alloc (.cells #[.bool ok] 4) := ⟨_, rfl⟩
          rw [← hwx]
          have gx : Gr wy wn := by rw [hwx]; exact (Gr.refl _).alloc _
          have HSl8 := Lib.hid (show Sl p wn s8 [.bool ok] from by rw [hwx, hsx]; exact Sl.new HSt.out _ _)
          replace HSl_b := Lib.hid (Sl.gr HSt.out HSl_b.out gx)
          replace HSl4 := Lib.hid (Sl.gr HSt.out HSl4.out gx)
          replace HSl12 := Lib.hid (Sl.gr HSt.out HSl12.out gx)
          replace HSl17 := Lib.hid (Sl.gr HSt.out HSl17.out gx)
          replace HSt := Lib.hid (HSt.out.gr gx)
          clear gx hwx hsx
          first | refine hK.out _ _ ?sg17_8 (fun hp => ?_) | (go_wp2_with fail; refine hK.out _ _ ?sg17_8 (fun hp => ?_))
          case sg17_8 => ((try dsimp only); exact ⟨HSl_b.out.2.2.2 0 _ rfl, HSl_b.out.2.2.2 1 _ rfl, HSl_b.out.2.2.2 2 _ rfl, HSl_b.out.2.2.2 3 _ rfl, HSl_b.out.2.2.2 4 _ rfl, HSl_b.out.2.2.2 5 _ rfl, HSl_b.out.2.2.2 6 _ rfl, HSl_b.out.2.2.2 7 _ rfl, HSl_b.out.2.2.2 8 _ rfl, HSl_b.out.2.2.2 9 _ rfl, HSl_b.out.2.2.2 10 _ rfl⟩)
          clear hK K hp
          try simp only [Act.put, List.setIfInBounds_toArray, List.set_cons_zero, List.set_cons_succ]
          exact HLg23 s4 s8 s12 s17 wn ⟨HSt, HSl_b, HSl4, HSl8, HSl12, HSl17⟩
      · intro s8 s12 s17 wy hSt
        obtain ⟨HSt, HSl_b, HSl8, HSl12, HSl17⟩ := hSt
        refine wpAnyH_ready (rs := [4]) (by kernel_rfl) (by simp) ?_
        refine AllReadyH.cons (o := { dst := some 24, op := Go.Op.buildSlice 61 2 #[(0, Go.Operand.tmp 21), (1, Go.Operand.tmp 23)], type := 61, pos := "msg.go:111", after := #[{ on := 1, ground := Go.Ground.data }, { on := 3, ground := Go.Ground.data }], guard := none }) rfl (fun K hK => ?_) AllReadyH.nil
        go_simp
        obtain ⟨s4, hsx⟩ : ∃ s, s = wy.heap.size := ⟨_, rfl⟩
        rw [← hsx]
        obtain ⟨wn, hwx⟩ : ∃ wn, wn = wy.alloc (.cells #[.int .i64 slot, .int .i64 time] 3) := ⟨_, rfl⟩
        rw [← hwx]
        have gx : Gr wy wn := by rw [hwx]; exact (Gr.refl _).alloc _
        have HSl4 := Lib.hid (show Sl p wn s4 [.int .i64 slot, .int .i64 time] from by rw [hwx, hsx]; exact Sl.new HSt.out _ _)
        replace HSl_b := Lib.hid (Sl.gr HSt.out HSl_b.out gx)
        replace HSl8 := Lib.hid (Sl.gr HSt.out HSl8.out gx)
        replace HSl12 := Lib.hid (Sl.gr HSt.out HSl12.out gx)
        replace HSl17 := Lib.hid (Sl.gr HSt.out HSl17.out gx)
        replace HSt := Lib.hid (HSt.out.gr gx)
        clear gx hwx hsx
        first | refine hK.out _ _ ?sg18_4 (fun hp => ?_) | (go_wp2_with fail; refine hK.out _ _ ?sg18_4 (fun hp => ?_))
        case sg18_4 => ((try dsimp only); exact ⟨HSl_b.out.2.2.2 0 _ rfl, HSl_b.out.2.2.2 1 _ rfl, HSl_b.out.2.2.2 2 _ rfl, HSl_b.out.2.2.2 3 _ rfl, HSl_b.out.2.2.2 4 _ rfl, HSl_b.out.2.2.2 5 _ rfl, HSl_b.out.2.2.2 6 _ rfl, HSl_b.out.2.2.2 7 _ rfl, HSl_b.out.2.2.2 8 _ rfl, HSl_b.out.2.2.2 9 _ rfl, HSl_b.out.2.2.2 10 _ rfl⟩)
        clear hK K hp
        try simp only [Act.put, List.setIfInBounds_toArray, List.set_cons_zero, List.set_cons_succ]
        exact HLg23 s4 s8 s12 s17 wn ⟨HSt, HSl_b, HSl4, HSl8, HSl12, HSl17⟩
      · intro s4 s8 wy hSt
        obtain ⟨HSt, HSl_b⟩ := hSt
        refine wpAnyH_ready (rs := [12, 17]) (by kernel_rfl) (by simp) ?_
        refine AllReadyH.cons (o := { dst := some 32, op := Go.Op.buildSlice 110 1 #[(0, Go.Operand.tmp 31)], type := 110, pos := "msg.go:111", after := #[{ on := 11, ground := Go.Ground.data }], guard := none }) rfl (fun K hK => ?_) (AllReadyH.cons (o := { dst := some 37, op := Go.Op.buildSlice 61 1 #[(0, Go.Operand.tmp 36)], type := 61, pos := "msg.go:111", after := #[{ on := 16, ground := Go.Ground.data }], guard := none }) rfl (fun K hK => ?_) AllReadyH.nil)
        · skip
          go_simp
          obtain ⟨s12, hsx⟩ : ∃ s, s = wy.heap.size := ⟨_, rfl⟩
          rw [← hsx]
          obtain ⟨wn, hwx⟩ : ∃ wn, wn = wy.alloc (.cells #[.string text] 9) := ⟨_, rfl⟩
          rw [← hwx]
          have gx : Gr wy wn := by rw [hwx]; exact (Gr.refl _).alloc _
          have HSl12 := Lib.hid (show Sl p wn s12 [.string text] from by rw [hwx, hsx]; exact Sl.new HSt.out _ _)
          replace HSl_b := Lib.hid (Sl.gr HSt.out HSl_b.out gx)
          replace HSt := Lib.hid (HSt.out.gr gx)
          clear gx hwx hsx
          first | refine hK.out _ _ ?sg19_12 (fun hp => ?_) | (go_wp2_with fail; refine hK.out _ _ ?sg19_12 (fun hp => ?_))
          case sg19_12 => ((try dsimp only); exact ⟨HSl_b.out.2.2.2 0 _ rfl, HSl_b.out.2.2.2 1 _ rfl, HSl_b.out.2.2.2 2 _ rfl, HSl_b.out.2.2.2 3 _ rfl, HSl_b.out.2.2.2 4 _ rfl, HSl_b.out.2.2.2 5 _ rfl, HSl_b.out.2.2.2 6 _ rfl, HSl_b.out.2.2.2 7 _ rfl, HSl_b.out.2.2.2 8 _ rfl, HSl_b.out.2.2.2 9 _ rfl, HSl_b.out.2.2.2 10 _ rfl⟩)
          clear hK K hp
          try simp only [Act.put, List.setIfInBounds_toArray, List.set_cons_zero, List.set_cons_succ]
          exact HLg24 s4 s8 s12 wn ⟨HSt, HSl_b, HSl12⟩
        · skip
          go_simp
          obtain ⟨s17, hsx⟩ : ∃ s, s = wy.heap.size := ⟨_, rfl⟩
          rw [← hsx]
          obtain ⟨wn, hwx⟩ : ∃ wn, wn = wy.alloc (.cells #[.int .i64 (L.length : Nat)] 3) := ⟨_, rfl⟩
          rw [← hwx]
          have gx : Gr wy wn := by rw [hwx]; exact (Gr.refl _).alloc _
          have HSl17 := Lib.hid (show Sl p wn s17 [.int .i64 (L.length : Nat)] from by rw [hwx, hsx]; exact Sl.new HSt.out _ _)
          replace HSl_b := Lib.hid (Sl.gr HSt.out HSl_b.out gx)
          replace HSt := Lib.hid (HSt.out.gr gx)
          clear gx hwx hsx
          first | refine hK.out _ _ ?sg19_17 (fun hp => ?_) | (go_wp2_with fail; refine hK.out _ _ ?sg19_17 (fun hp => ?_))
          case sg19_17 => ((try dsimp only); exact ⟨HSl_b.out.2.2.2 0 _ rfl, HSl_b.out.2.2.2 1 _ rfl, HSl_b.out.2.2.2 2 _ rfl, HSl_b.out.2.2.2 3 _ rfl, HSl_b.out.2.2.2 4 _ rfl, HSl_b.out.2.2.2 5 _ rfl, HSl_b.out.2.2.2 6 _ rfl, HSl_b.out.2.2.2 7 _ rfl, HSl_b.out.2.2.2 8 _ rfl, HSl_b.out.2.2.2 9 _ rfl, HSl_b.out.2.2.2 10 _ rfl⟩)
          clear hK K hp
          try simp only [Act.put, List.setIfInBounds_toArray, List.set_cons_zero, List.set_cons_succ]
          exact HLg25 s4 s8 s17 wn ⟨HSt, HSl_b, HSl17⟩
      · intro s4 s8 s12 wy hSt
        obtain ⟨HSt, HSl_b, HSl8, HSl12⟩ := hSt
        refine wpAnyH_ready (rs := [9, 17]) (by kernel_rfl) (by simp) ?_
        refine AllReadyH.cons (o := { dst := some 29, op := Go.Op.call { callee := Go.Callee.value (Go.Operand.func 35), args := #[Go.Operand.tmp 25, Go.Operand.tmp 28], argTypes := #[82, 109] }, type := 82, pos := "msg.go:111", after := #[{ on := 5, ground := Go.Ground.data }, { on := 8, ground := Go.Ground.data }, { on := 5, ground := Go.Ground.chain }], guard := none }) rfl (fun K hK => ?_) (AllReadyH.cons (o := { dst := some 37, op := Go.Op.buildSlice 61 1 #[(0, Go.Operand.tmp 36)], type := 61, pos := "msg.go:111", after := #[{ on := 16, ground := Go.Ground.data }], guard := none }) rfl (fun K hK => ?_) AllReadyH.nil)
        · skip
          go_simp
          go_at_call 35
          refine (stB ok HSt.out HSl8.out (by simp only [List.length_append]; have := encN_le9 slot; have := encN_le9 time; have := encS_le9 text; have : (encB ok).length = 1 := rfl; omega)).mono ?_
          rintro e wn ⟨rfl, hSt2, hK2⟩
          replace HSl_b := Lib.hid (Sl.keeps HSl_b.out hK2)
          replace HSl12 := Lib.hid (Sl.keeps HSl12.out hK2)
          replace HSt := Lib.hid hSt2
          clear hSt2 hK2
          clear HSl8
          first | refine hK.out _ _ ?sg20_9 (fun hp => ?_) | (go_wp2_with fail; refine hK.out _ _ ?sg20_9 (fun hp => ?_))
          case sg20_9 => ((try dsimp only); exact ⟨HSl_b.out.2.2.2 0 _ rfl, HSl_b.out.2.2.2 1 _ rfl, HSl_b.out.2.2.2 2 _ rfl, HSl_b.out.2.2.2 3 _ rfl, HSl_b.out.2.2.2 4 _ rfl, HSl_b.out.2.2.2 5 _ rfl, HSl_b.out.2.2.2 6 _ rfl, HSl_b.out.2.2.2 7 _ rfl, HSl_b.out.2.2.2 8 _ rfl, HSl_b.out.2.2.2 9 _ rfl, HSl_b.out.2.2.2 10 _ rfl⟩)
          clear hK K hp
          try simp only [Act.put, List.setIfInBounds_toArray, List.set_cons_zero, List.set_cons_succ]
          exact HLg24 s4 s8 s12 wn ⟨HSt, HSl_b, HSl12⟩
        · skip
          go_simp
          obtain ⟨s17, hsx⟩ : ∃ s, s = wy.heap.size := ⟨_, rfl⟩
          rw [← hsx]
          obtain ⟨wn, hwx⟩ : ∃ wn, wn = wy.alloc (.cells #[.int .i64 (L.length : Nat)] 3) := ⟨_, rfl⟩
          rw [← hwx]
          have gx : Gr wy wn := by rw [hwx]; exact (Gr.refl _).alloc _
          have HSl17 := Lib.hid (show Sl p wn s17 [.int .i64 (L.length : Nat)] from by rw [hwx, hsx]; exact Sl.new HSt.out _ _)
          replace HSl_b := Lib.hid (Sl.gr HSt.out HSl_b.out gx)
          replace HSl8 := Lib.hid (Sl.gr HSt.out HSl8.out gx)
          replace HSl12 := Lib.hid (Sl.gr HSt.out HSl12.out gx)
          replace HSt := Lib.hid (HSt.out.gr gx)
          clear gx hwx hsx
          first | refine hK.out _ _ ?sg20_17 (fun hp => ?_) | (go_wp2_with fail; refine hK.out _ _ ?sg20_17 (fun hp => ?_))
          case sg20_17 => ((try dsimp only); exact ⟨HSl_b.out.2.2.2 0 _ rfl, HSl_b.out.2.2.2 1 _ rfl, HSl_b.out.2.2.2 2 _ rfl, HSl_b.out.2.2.2 3 _ rfl, HSl_b.out.2.2.2 4 _ rfl, HSl_b.out.2.2.2 5 _ rfl, HSl_b.out.2.2.2 6 _ rfl, HSl_b.out.2.2.2 7 _ rfl, HSl_b.out.2.2.2 8 _ rfl, HSl_b.out.2.2.2 9 _ rfl, HSl_b.out.2.2.2 10 _ rfl⟩)
          clear hK K hp
          try simp only [Act.put, List.setIfInBounds_toArray, List.set_cons_zero, List.set_cons_succ]
          exact HLg26 s4 s8 s12 s17 wn ⟨HSt, HSl_b, HSl8, HSl12, HSl17⟩
      · intro s4 s8 s17 wy hSt
        obtain ⟨HSt, HSl_b, HSl8, HSl17⟩ := hSt
        refine wpAnyH_ready (rs := [9, 12]) (by kernel_rfl) (by simp) ?_
        refine AllReadyH.cons (o := { dst := some 29, op := Go.Op.call { callee := Go.Callee.value (Go.Operand.func 35), args := #[Go.Operand.tmp 25, Go.Operand.tmp 28], argTypes := #[82, 109] }, type := 82, pos := "msg.go:111", after := #[{ on := 5, ground := Go.Ground.data }, { on := 8, ground := Go.Ground.data }, { on := 5, ground := Go.Ground.chain }], guard := none }) rfl (fun K hK => ?_) (AllReadyH.cons (o := { dst := some 32, op := Go.Op.buildSlice 110 1 #[(0, Go.Operand.tmp 31)], type := 110, pos := "msg.go:111", after := #[{ on := 11, ground := Go.Ground.data }], guard := none }) rfl (fun K hK => ?_) AllReadyH.nil)
        · skip
          go_simp
          go_at_call 35
          refine (stB ok HSt.out HSl8.out (by simp only [List.length_append]; have := encN_le9 slot; have := encN_le9 time; have := encS_le9 text; have : (encB ok).length = 1 := rfl; omega)).mono ?_
          rintro e wn ⟨rfl, hSt2, hK2⟩
          replace HSl_b := Lib.hid (Sl.keeps HSl_b.out hK2)
          replace HSl17 := Lib.hid (Sl.keeps HSl17.out hK2)
          replace HSt := Lib.hid hSt2
          clear hSt2 hK2
          clear HSl8
          first | refine hK.out _ _ ?sg21_9 (fun hp => ?_) | (go_wp2_with fail; refine hK.out _ _ ?sg21_9 (fun hp => ?_))
          case sg21_9 => ((try dsimp only); exact ⟨HSl_b.out.2.2.2 0 _ rfl, HSl_b.out.2.2.2 1 _ rfl, HSl_b.out.2.2.2 2 _ rfl, HSl_b.out.2.2.2 3 _ rfl, HSl_b.out.2.2.2 4 _ rfl, HSl_b.out.2.2.2 5 _ rfl, HSl_b.out.2.2.2 6 _ rfl, HSl_b.out.2.2.2 7 _ rfl, HSl_b.out.2.2.2 8 _ rfl, HSl_b.out.2.2.2 9 _ rfl, HSl_b.out.2.2.2 10 _ rfl⟩)
          clear hK K hp
          try simp only [Act.put, List.setIfInBounds_toArray, List.set_cons_zero, List.set_cons_succ]
          exact HLg25 s4 s8 s17 wn ⟨HSt, HSl_b, HSl17⟩
        · skip
          go_simp
          obtain ⟨s12, hsx⟩ : ∃ s, s = wy.heap.size := ⟨_, rfl⟩
          rw [← hsx]
          obtain ⟨wn, hwx⟩ : ∃ wn, wn = wy.alloc (.cells #[.string text] 9) := ⟨_, rfl⟩
          rw [← hwx]
          have gx : Gr wy wn := by rw [hwx]; exact (Gr.refl _).alloc _
          have HSl12 := Lib.hid (show Sl p wn s12 [.string text] from by rw [hwx, hsx]; exact Sl.new HSt.out _ _)
          replace HSl_b := Lib.hid (Sl.gr HSt.out HSl_b.out gx)
          replace HSl8 := Lib.hid (Sl.gr HSt.out HSl8.out gx)
          replace HSl17 := Lib.hid (Sl.gr HSt.out HSl17.out gx)
          replace HSt := Lib.hid (HSt.out.gr gx)
          clear gx hwx hsx
          first | refine hK.out _ _ ?sg21_12 (fun hp => ?_) | (go_wp2_with fail; refine hK.out _ _ ?sg21_12 (fun hp => ?_))
          case sg21_12 => ((try dsimp only); exact ⟨HSl_b.out.2.2.2 0 _ rfl, HSl_b.out.2.2.2 1 _ rfl, HSl_b.out.2.2.2 2 _ rfl, HSl_b.out.2.2.2 3 _ rfl, HSl_b.out.2.2.2 4 _ rfl, HSl_b.out.2.2.2 5 _ rfl, HSl_b.out.2.2.2 6 _ rfl, HSl_b.out.2.2.2 7 _ rfl, HSl_b.out.2.2.2 8 _ rfl, HSl_b.out.2.2.2 9 _ rfl, HSl_b.out.2.2.2 10 _ rfl⟩)
          clear hK K hp
          try simp only [Act.put, List.setIfInBounds_toArray, List.set_cons_zero, List.set_cons_succ]
          exact HLg26 s4 s8 s12 s17 wn ⟨HSt, HSl_b, HSl8, HSl12, HSl17⟩
      · intro s4 s12 s17 wy hSt
        obtain ⟨HSt, HSl_b, HSl12, HSl17⟩ := hSt
        refine wpAnyH_ready (rs := [8]) (by kernel_rfl) (by simp) ?_
        refine AllReadyH.cons (o := { dst := some 28, op := Go.Op.buildSlice 109 1 #[(0, Go.Operand.tmp 27)], type := 109, pos := "msg.go:111", after := #[{ on := 7, ground := Go.Ground.data }], guard := none }) rfl (fun K hK => ?_) AllReadyH.nil
        go_simp
        obtain ⟨s8, hsx⟩ : ∃ s, s = wy.heap.size := ⟨_, rfl⟩
        rw [← hsx]
        obtain ⟨wn, hwx⟩ : ∃ wn, wn = wy.alloc (.cells #[.bool ok] 4) := ⟨_, rfl⟩
        rw [← hwx]
        have gx : Gr wy wn := by rw [hwx]; exact (Gr.refl _).alloc _
        have HSl8 := Lib.hid (show Sl p wn s8 [.bool ok] from by rw [hwx, hsx]; exact Sl.new HSt.out _ _)
        replace HSl_b := Lib.hid (Sl.gr HSt.out HSl_b.out gx)
        replace HSl12 := Lib.hid (Sl.gr HSt.out HSl12.out gx)
        replace HSl17 := Lib.hid (Sl.gr HSt.out HSl17.out gx)
        replace HSt := Lib.hid (HSt.out.gr gx)
        clear gx hwx hsx
        first | refine hK.out _ _ ?sg22_8 (fun hp => ?_) | (go_wp2_with fail; refine hK.out _ _ ?sg22_8 (fun hp => ?_))
        case sg22_8 => ((try dsimp only); exact ⟨HSl_b.out.2.2.2 0 _ rfl, HSl_b.out.2.2.2 1 _ rfl, HSl_b.out.2.2.2 2 _ rfl, HSl_b.out.2.2.2 3 _ rfl, HSl_b.out.2.2.2 4 _ rfl, HSl_b.out.2.2.2 5 _ rfl, HSl_b.out.2.2.2 6 _ rfl, HSl_b.out.2.2.2 7 _ rfl, HSl_b.out.2.2.2 8 _ rfl, HSl_b.out.2.2.2 9 _ rfl, HSl_b.out.2.2.2 10 _ rfl⟩)
        clear hK K hp
        try simp only [Act.put, List.setIfInBounds_toArray, List.set_cons_zero, List.set_cons_succ]
        exact HLg26 s4 s8 s12 s17 wn ⟨HSt, HSl_b, HSl8, HSl12, HSl17⟩
      · intro s4 s8 s12 s17 wy hSt
        obtain ⟨HSt, HSl_b, HSl4, HSl8, HSl12, HSl17⟩ := hSt
        refine wpAnyH_ready (rs := [5]) (by kernel_rfl) (by simp) ?_
        refine AllReadyH.cons (o := { dst := some 25, op := Go.Op.call { callee := Go.Callee.value (Go.Operand.func 34), args := #[Go.Operand.tmp 3, Go.Operand.tmp 24], argTypes := #[80, 61] }, type := 82, pos := "msg.go:111", after := #[{ on := 4, ground := Go.Ground.data }], guard := none }) rfl (fun K hK => ?_) AllReadyH.nil
        go_simp
        go_at_call 34
        refine (stN2 slot time HSt.out HSl4.out (by omega) (by omega) (by omega)).mono ?_
        rintro e wn ⟨rfl, hSt2, hK2⟩
        replace HSl_b := Lib.hid (Sl.keeps HSl_b.out hK2)
        replace HSl8 := Lib.hid (Sl.keeps HSl8.out hK2)
        replace HSl12 := Lib.hid (Sl.keeps HSl12.out hK2)
        replace HSl17 := Lib.hid (Sl.keeps HSl17.out hK2)
        replace HSt := Lib.hid hSt2
        clear hSt2 hK2
        clear HSl4
        first | refine hK.out _ _ ?sg23_5 (fun hp => ?_) | (go_wp2_with fail; refine hK.out _ _ ?sg23_5 (fun hp => ?_))
        case sg23_5 => ((try dsimp only); exact ⟨HSl_b.out.2.2.2 0 _ rfl, HSl_b.out.2.2.2 1 _ rfl, HSl_b.out.2.2.2 2 _ rfl, HSl_b.out.2.2.2 3 _ rfl, HSl_b.out.2.2.2 4 _ rfl, HSl_b.out.2.2.2 5 _ rfl, HSl_b.out.2.2.2 6 _ rfl, HSl_b.out.2.2.2 7 _ rfl, HSl_b.out.2.2.2 8 _ rfl, HSl_b.out.2.2.2 9 _ rfl, HSl_b.out.2.2.2 10 _ rfl⟩)
        clear hK K hp
        try simp only [Act.put, List.setIfInBounds_toArray, List.set_cons_zero, List.set_cons_succ]
        exact HLg26 s4 s8 s12 s17 wn ⟨HSt, HSl_b, HSl8, HSl12, HSl17⟩
      · intro s4 s8 s12 wy hSt
        obtain ⟨HSt, HSl_b, HSl12⟩ := hSt
        refine wpAnyH_ready (rs := [13, 17]) (by kernel_rfl) (by simp) ?_
        refine AllReadyH.cons (o := { dst := some 33, op := Go.Op.call { callee := Go.Callee.value (Go.Operand.func 36), args := #[Go.Operand.tmp 29, Go.Operand.tmp 32], argTypes := #[82, 110] }, type := 82, pos := "msg.go:111", after := #[{ on := 9, ground := Go.Ground.data }, { on := 12, ground := Go.Ground.data }, { on := 9, ground := Go.Ground.chain }], guard := none }) rfl (fun K hK => ?_) (AllReadyH.cons (o := { dst := some 37, op := Go.Op.buildSlice 61 1 #[(0, Go.Operand.tmp 36)], type := 61, pos := "msg.go:111", after := #[{ on := 16, ground := Go.Ground.data }], guard := none }) rfl (fun K hK => ?_) AllReadyH.nil)
        · skip
          go_simp
          go_at_call 36
          refine (stS text HSt.out HSl12.out (by simp only [List.length_append]; have := encN_le9 slot; have := encN_le9 time; have := encS_le9 text; have : (encB ok).length = 1 := rfl; omega) (by omega)).mono ?_
          rintro e wn ⟨rfl, hSt2, hK2⟩
          replace HSl_b := Lib.hid (Sl.keeps HSl_b.out hK2)
          replace HSt := Lib.hid hSt2
          clear hSt2 hK2
          clear HSl12
          first | refine hK.out _ _ ?sg24_13 (fun hp => ?_) | (go_wp2_with fail; refine hK.out _ _ ?sg24_13 (fun hp => ?_))
          case sg24_13 => ((try dsimp only); exact ⟨HSl_b.out.2.2.2 0 _ rfl, HSl_b.out.2.2.2 1 _ rfl, HSl_b.out.2.2.2 2 _ rfl, HSl_b.out.2.2.2 3 _ rfl, HSl_b.out.2.2.2 4 _ rfl, HSl_b.out.2.2.2 5 _ rfl, HSl_b.out.2.2.2 6 _ rfl, HSl_b.out.2.2.2 7 _ rfl, HSl_b.out.2.2.2 8 _ rfl, HSl_b.out.2.2.2 9 _ rfl, HSl_b.out.2.2.2 10 _ rfl⟩)
          clear hK K hp
          try simp only [Act.put, List.setIfInBounds_toArray, List.set_cons_zero, List.set_cons_succ]
          exact HLg27 s4 s8 s12 wn ⟨HSt, HSl_b⟩
        · skip
          go_simp
          obtain ⟨s17, hsx⟩ : ∃ s, s = wy.heap.size := ⟨_, rfl⟩
          rw [← hsx]
          obtain ⟨wn, hwx⟩ : ∃ wn, wn = wy.alloc (.cells #[.int .i64 (L.length : Nat)] 3) := ⟨_, rfl⟩
          rw [← hwx]
          have gx : Gr wy wn := by rw [hwx]; exact (Gr.refl _).alloc _
          have HSl17 := Lib.hid (show Sl p wn s17 [.int .i64 (L.length : Nat)] from by rw [hwx, hsx]; exact Sl.new HSt.out _ _)
          replace HSl_b := Lib.hid (Sl.gr HSt.out HSl_b.out gx)
          replace HSl12 := Lib.hid (Sl.gr HSt.out HSl12.out gx)
          replace HSt := Lib.hid (HSt.out.gr gx)
          clear gx hwx hsx
          first | refine hK.out _ _ ?sg24_17 (fun hp => ?_) | (go_wp2_with fail; refine hK.out _ _ ?sg24_17 (fun hp => ?_))
          case sg24_17 => ((try dsimp only); exact ⟨HSl_b.out.2.2.2 0 _ rfl, HSl_b.out.2.2.2 1 _ rfl, HSl_b.out.2.2.2 2 _ rfl, HSl_b.out.2.2.2 3 _ rfl, HSl_b.out.2.2.2 4 _ rfl, HSl_b.out.2.2.2 5 _ rfl, HSl_b.out.2.2.2 6 _ rfl, HSl_b.out.2.2.2 7 _ rfl, HSl_b.out.2.2.2 8 _ rfl, HSl_b.out.2.2.2 9 _ rfl, HSl_b.out.2.2.2 10 _ rfl⟩)
          clear hK K hp
          try simp only [Act.put, List.setIfInBounds_toArray, List.set_cons_zero, List.set_cons_succ]
          exact HLg28 s4 s8 s12 s17 wn ⟨HSt, HSl_b, HSl12, HSl17⟩
      · intro s4 s8 s17 wy hSt
        obtain ⟨HSt, HSl_b, HSl17⟩ := hSt
        refine wpAnyH_ready (rs := [12]) (by kernel_rfl) (by simp) ?_
        refine AllReadyH.cons (o := { dst := some 32, op := Go.Op.buildSlice 110 1 #[(0, Go.Operand.tmp 31)], type := 110, pos := "msg.go:111", after := #[{ on := 11, ground := Go.Ground.data }], guard := none }) rfl (fun K hK => ?_) AllReadyH.nil
        go_simp
        obtain ⟨s12, hsx⟩ : ∃ s, s = wy.heap.size := ⟨_, rfl⟩
        rw [← hsx]
        obtain ⟨wn, hwx⟩ : ∃ wn, wn = wy.alloc (.cells #[.string text] 9) := ⟨_, rfl⟩
        rw [← hwx]
        have gx : Gr wy wn := by rw [hwx]; exact (Gr.refl _).alloc _
        have HSl12 := Lib.hid (show Sl p wn s12 [.string text] from by rw [hwx, hsx]; exact Sl.new HSt.out _ _)
        replace HSl_b := Lib.hid (Sl.gr HSt.out HSl_b.out gx)
        replace HSl17 := Lib.hid (Sl.gr HSt.out HSl17.out gx)
        replace HSt := Lib.hid (HSt.out.gr gx)
        clear gx hwx hsx
        first | refine hK.out _ _ ?sg25_12 (fun hp => ?_) | (go_wp2_with fail; refine hK.out _ _ ?sg25_12 (fun hp => ?_))
        case sg25_12 => ((try dsimp only); exact ⟨HSl_b.out.2.2.2 0 _ rfl, HSl_b.out.2.2.2 1 _ rfl, HSl_b.out.2.2.2 2 _ rfl, HSl_b.out.2.2.2 3 _ rfl, HSl_b.out.2.2.2 4 _ rfl, HSl_b.out.2.2.2 5 _ rfl, HSl_b.out.2.2.2 6 _ rfl, HSl_b.out.2.2.2 7 _ rfl, HSl_b.out.2.2.2 8 _ rfl, HSl_b.out.2.2.2 9 _ rfl, HSl_b.out.2.2.2 10 _ rfl⟩)
        clear hK K hp
        try simp only [Act.put, List.setIfInBounds_toArray, List.set_cons_zero, List.set_cons_succ]
        exact HLg28 s4 s8 s12 s17 wn ⟨HSt, HSl_b, HSl12, HSl17⟩
      · intro s4 s8 s12 s17 wy hSt
        obtain ⟨HSt, HSl_b, HSl8, HSl12, HSl17⟩ := hSt
        refine wpAnyH_ready (rs := [9]) (by kernel_rfl) (by simp) ?_
        refine AllReadyH.cons (o := { dst := some 29, op := Go.Op.call { callee := Go.Callee.value (Go.Operand.func 35), args := #[Go.Operand.tmp 25, Go.Operand.tmp 28], argTypes := #[82, 109] }, type := 82, pos := "msg.go:111", after := #[{ on := 5, ground := Go.Ground.data }, { on := 8, ground := Go.Ground.data }, { on := 5, ground := Go.Ground.chain }], guard := none }) rfl (fun K hK => ?_) AllReadyH.nil
        go_simp
        go_at_call 35
        refine (stB ok HSt.out HSl8.out (by simp only [List.length_append]; have := encN_le9 slot; have := encN_le9 time; have := encS_le9 text; have : (encB ok).length = 1 := rfl; omega)).mono ?_
        rintro e wn ⟨rfl, hSt2, hK2⟩
        replace HSl_b := Lib.hid (Sl.keeps HSl_b.out hK2)
        replace HSl12 := Lib.hid (Sl.keeps HSl12.out hK2)
        replace HSl17 := Lib.hid (Sl.keeps HSl17.out hK2)
        replace HSt := Lib.hid hSt2
        clear hSt2 hK2
        clear HSl8
        first | refine hK.out _ _ ?sg26_9 (fun hp => ?_) | (go_wp2_with fail; refine hK.out _ _ ?sg26_9 (fun hp => ?_))
        case sg26_9 => ((try dsimp only); exact ⟨HSl_b.out.2.2.2 0 _ rfl, HSl_b.out.2.2.2 1 _ rfl, HSl_b.out.2.2.2 2 _ rfl, HSl_b.out.2.2.2 3 _ rfl, HSl_b.out.2.2.2 4 _ rfl, HSl_b.out.2.2.2 5 _ rfl, HSl_b.out.2.2.2 6 _ rfl, HSl_b.out.2.2.2 7 _ rfl, HSl_b.out.2.2.2 8 _ rfl, HSl_b.out.2.2.2 9 _ rfl, HSl_b.out.2.2.2 10 _ rfl⟩)
        clear hK K hp
        try simp only [Act.put, List.setIfInBounds_toArray, List.set_cons_zero, List.set_cons_succ]
        exact HLg28 s4 s8 s12 s17 wn ⟨HSt, HSl_b, HSl12, HSl17⟩
      · intro s4 s8 s12 wy hSt
        obtain ⟨HSt, HSl_b⟩ := hSt
        refine wpAnyH_ready (rs := [17]) (by kernel_rfl) (by simp) ?_
        refine AllReadyH.cons (o := { dst := some 37, op := Go.Op.buildSlice 61 1 #[(0, Go.Operand.tmp 36)], type := 61, pos := "msg.go:111", after := #[{ on := 16, ground := Go.Ground.data }], guard := none }) rfl (fun K hK => ?_) AllReadyH.nil
        go_simp
        obtain ⟨s17, hsx⟩ : ∃ s, s = wy.heap.size := ⟨_, rfl⟩
        rw [← hsx]
        obtain ⟨wn, hwx⟩ : ∃ wn, wn = wy.alloc (.cells #[.int .i64 (L.length : Nat)] 3) := ⟨_, rfl⟩
        rw [← hwx]
        have gx : Gr wy wn := by rw [hwx]; exact (Gr.refl _).alloc _
        have HSl17 := Lib.hid (show Sl p wn s17 [.int .i64 (L.length : Nat)] from by rw [hwx, hsx]; exact Sl.new HSt.out _ _)
        replace HSl_b := Lib.hid (Sl.gr HSt.out HSl_b.out gx)
        replace HSt := Lib.hid (HSt.out.gr gx)
        clear gx hwx hsx
        first | refine hK.out _ _ ?sg27_17 (fun hp => ?_) | (go_wp2_with fail; refine hK.out _ _ ?sg27_17 (fun hp => ?_))
        case sg27_17 => ((try dsimp only); exact ⟨HSl_b.out.2.2.2 0 _ rfl, HSl_b.out.2.2.2 1 _ rfl, HSl_b.out.2.2.2 2 _ rfl, HSl_b.out.2.2.2 3 _ rfl, HSl_b.out.2.2.2 4 _ rfl, HSl_b.out.2.2.2 5 _ rfl, HSl_b.out.2.2.2 6 _ rfl, HSl_b.out.2.2.2 7 _ rfl, HSl_b.out.2.2.2 8 _ rfl, HSl_b.out.2.2.2 9 _ rfl, HSl_b.out.2.2.2 10 _ rfl⟩)
        clear hK K hp
        try simp only [Act.put, List.setIfInBounds_toArray, List.set_cons_zero, List.set_cons_succ]
        exact HLg29 s4 s8 s12 s17 wn ⟨HSt, HSl_b, HSl17⟩
      · intro s4 s8 s12 s17 wy hSt
        obtain ⟨HSt, HSl_b, HSl12, HSl17⟩ := hSt
        refine wpAnyH_ready (rs := [13]) (by kernel_rfl) (by simp) ?_
        refine AllReadyH.cons (o := { dst := some 33, op := Go.Op.call { callee := Go.Callee.value (Go.Operand.func 36), args := #[Go.Operand.tmp 29, Go.Operand.tmp 32], argTypes := #[82, 110] }, type := 82, pos := "msg.go:111", after := #[{ on := 9, ground := Go.Ground.data }, { on := 12, ground := Go.Ground.data }, { on := 9, ground := Go.Ground.chain }], guard := none }) rfl (fun K hK => ?_) AllReadyH.nil
        go_simp
        go_at_call 36
        refine (stS text HSt.out HSl12.out (by simp only [List.length_append]; have := encN_le9 slot; have := encN_le9 time; have := encS_le9 text; have : (encB ok).length = 1 := rfl; omega) (by omega)).mono ?_
        rintro e wn ⟨rfl, hSt2, hK2⟩
        replace HSl_b := Lib.hid (Sl.keeps HSl_b.out hK2)
        replace HSl17 := Lib.hid (Sl.keeps HSl17.out hK2)
        replace HSt := Lib.hid hSt2
        clear hSt2 hK2
        clear HSl12
        first | refine hK.out _ _ ?sg28_13 (fun hp => ?_) | (go_wp2_with fail; refine hK.out _ _ ?sg28_13 (fun hp => ?_))
        case sg28_13 => ((try dsimp only); exact ⟨HSl_b.out.2.2.2 0 _ rfl, HSl_b.out.2.2.2 1 _ rfl, HSl_b.out.2.2.2 2 _ rfl, HSl_b.out.2.2.2 3 _ rfl, HSl_b.out.2.2.2 4 _ rfl, HSl_b.out.2.2.2 5 _ rfl, HSl_b.out.2.2.2 6 _ rfl, HSl_b.out.2.2.2 7 _ rfl, HSl_b.out.2.2.2 8 _ rfl, HSl_b.out.2.2.2 9 _ rfl, HSl_b.out.2.2.2 10 _ rfl⟩)
        clear hK K hp
        try simp only [Act.put, List.setIfInBounds_toArray, List.set_cons_zero, List.set_cons_succ]
        exact HLg29 s4 s8 s12 s17 wn ⟨HSt, HSl_b, HSl17⟩
      · intro s4 s8 s12 s17 wy hSt
        obtain ⟨HSt, HSl_b, HSl17⟩ := hSt
        refine wpAnyH_ready (rs := [18]) (by kernel_rfl) (by simp) ?_
        refine AllReadyH.cons (o := { dst := some 38, op := Go.Op.call { callee := Go.Callee.value (Go.Operand.func 34), args := #[Go.Operand.tmp 33, Go.Operand.tmp 37], argTypes := #[82, 61] }, type := 82, pos := "msg.go:111", after := #[{ on := 13, ground := Go.Ground.data }, { on := 17, ground := Go.Ground.data }, { on := 13, ground := Go.Ground.chain }], guard := none }) rfl (fun K hK => ?_) AllReadyH.nil
        go_simp
        go_at_call 34
        refine (stN1 (L.length : Int) HSt.out HSl17.out (by simp only [List.length_append]; have := encN_le9 slot; have := encN_le9 time; have := encS_le9 text; have : (encB ok).length = 1 := rfl; omega) (by omega)).mono ?_
        rintro e wn ⟨rfl, hSt2, hK2⟩
        replace HSl_b := Lib.hid (Sl.keeps HSl_b.out hK2)
        replace HSt := Lib.hid hSt2
        clear hSt2 hK2
        clear HSl17
        first | refine hK.out _ _ ?sg29_18 (fun hp => ?_) | (go_wp2_with fail; refine hK.out _ _ ?sg29_18 (fun hp => ?_))
        case sg29_18 => ((try dsimp only); exact ⟨HSl_b.out.2.2.2 0 _ rfl, HSl_b.out.2.2.2 1 _ rfl, HSl_b.out.2.2.2 2 _ rfl, HSl_b.out.2.2.2 3 _ rfl, HSl_b.out.2.2.2 4 _ rfl, HSl_b.out.2.2.2 5 _ rfl, HSl_b.out.2.2.2 6 _ rfl, HSl_b.out.2.2.2 7 _ rfl, HSl_b.out.2.2.2 8 _ rfl, HSl_b.out.2.2.2 9 _ rfl, HSl_b.out.2.2.2 10 _ rfl⟩)
        clear hK K hp
        try simp only [Act.put, List.setIfInBounds_toArray, List.set_cons_zero, List.set_cons_succ]
        exact HLg30 s4 s8 s12 s17 wn ⟨HSt, HSl_b⟩
      · intro s4 s8 s12 s17 wy hSt
        obtain ⟨HSt, HSl_b⟩ := hSt
        refine wpAnyH_done (by kernel_rfl) ?_ _
        replace HS1 := Lib.hid (HSt.out.sub HS1.out)
        have HSB := HSl_b
        have HS2 := HS1
        clear HSt HSl_b
        have hal2 : (acc ++ (encN slot ++ encN time) ++ encB ok ++ Enc.encS (bytesOf text) ++ encN (L.length : Int)).length ≤ 132000 := by simp only [List.length_append]; have := encN_le9 slot; have := encN_le9 time; have := encS_le9 text; have := encN_le9 (L.length : Int); have : (encB ok).length = 1 := rfl; omega
        obtain ⟨acc2, hacc⟩ : ∃ l, l = acc ++ (encN slot ++ encN time) ++ encB ok ++ Enc.encS (bytesOf text) ++ encN (L.length : Int) := ⟨_, rfl⟩
        rw [← hacc] at HS1 hal2
        have HACC2 := Lib.hid hacc
        clear hacc HS2 hal
        have k10 := HSB.out.2.2.2 10 _ rfl
        go_wp2
        clear k10
        go_loopw [42] (fun u42 wr => ∃ k : Nat, k ≤ L.length ∧ u42 = .int .i64 (k : Nat) ∧ Hid (St p wz (acc2 ++ (L.take k).flatMap insE) wr) ∧ Hid (Sl p wr b [.int .i64 (kn : Nat), .int .i64 frm, .int .i64 tt, .int .i64 sub, .int .u64 (c : Nat), .int .i64 (n : Nat), .int .i64 slot, .int .i64 time, .bool ok, .string text, .slice a L.length q])) (fun u42 _ => L.length - (intOf u42).toNat)
        case atStart => exact ⟨0, by omega, rfl, Lib.hid (by simpa using HS1.out), HSB⟩
        case round =>
          clear HS1 HSB
          obtain ⟨k, hk, rfl, HS1, HSB⟩ := hrel
          have HGF := Lib.hid (gr_below HGZ.out HBP.out HS1.out.2.2)
          by_cases hlt : k < L.length
          · have hk4 : (k : Int) < (L.length : Int) := by omega
            obtain ⟨g, cap, hv, d0, d1, d2, d3⟩ := HR.out _ HGF.out k hlt
            simp only [Value.slice.injEq, true_and] at hv
            obtain ⟨rfl, rfl⟩ := hv
            have hE := HE.out L[k] (List.getElem_mem hlt)
            have hEc := HCS.out L[k] (List.getElem_mem hlt)
            have hle := insL_le (L.take k) fun y hy => by have := HE.out y (List.mem_of_mem_take hy); omega
            have hm : min k L.length * 1100 ≤ 64 * 1100 := Nat.mul_le_mul_right _ (by omega)
            rw [List.length_take] at hle
            have hle2 : (acc2 ++ (L.take k).flatMap insE).length ≤ 300000 := by rw [List.length_append]; omega
            clear hm
            have HTK := Lib.hid (show acc2 ++ (L.take (k + 1)).flatMap insE = (acc2 ++ (L.take k).flatMap insE) ++ insE L[k] by rw [List.take_succ_eq_append_getElem hlt, List.flatMap_append, List.flatMap_cons, List.flatMap_nil, List.append_nil, List.append_assoc])
            clear hle
            generalize L[k] = y at *
            obtain ⟨sl, cc, nn, tx⟩ := y
            simp only at hE hEc d0 d1 d2 d3
            obtain ⟨yc, rfl⟩ := Int.eq_ofNat_of_zero_le hEc
            obtain ⟨yn, rfl⟩ := Int.eq_ofNat_of_zero_le hE.2.2.1
            obtain ⟨acc3, hacc⟩ : ∃ l, l = acc2 ++ (L.take k).flatMap insE := ⟨_, rfl⟩
            rw [← hacc] at HS1 HTK hle2
            clear hacc hEc
            have k10 := HSB.out.2.2.2 10 _ rfl
            go_wp2
            clear k10 d0 d1 d2 d3
            have HSE := Lib.hid (Sl.new HS1.out [.int .i64 sl, .int .u64 (yc : Nat), .int .i64 (yn : Nat), .string tx] 74)
            replace HSB := Lib.hid (Sl.gr HS1.out HSB.out ((Gr.refl wr).alloc (.cells #[.int .i64 sl, .int .u64 (yc : Nat), .int .i64 (yn : Nat), .string tx] 74)))
            replace HS1 := Lib.hid (HS1.out.gr ((Gr.refl wr).alloc (.cells #[.int .i64 sl, .int .u64 (yc : Nat), .int .i64 (yn : Nat), .string tx] 74)))
            have HS2 := HS1
            generalize wr.heap.size = be at *
            generalize wr.alloc (.cells #[.int .i64 sl, .int .u64 (yc : Nat), .int .i64 (yn : Nat), .string tx] 74) = wz2 at *
            refine wp_region_held_drew (S := (fun w9 => w9.cell? ⟨be, 0, none⟩ = some (.int .i64 sl) ∧ w9.cell? ⟨be, 1, none⟩ = some (.int .u64 (yc : Nat)) ∧ w9.cell? ⟨be, 2, none⟩ = some (.int .i64 (yn : Nat)) ∧ w9.cell? ⟨be, 3, none⟩ = some (.string tx))) (by kernel_rfl) ?inve (fun h0 => ?_)
            case inve => ((try dsimp only); exact ⟨HSE.out.2.2.2 0 _ rfl, HSE.out.2.2.2 1 _ rfl, HSE.out.2.2.2 2 _ rfl, HSE.out.2.2.2 3 _ rfl⟩)
            have HSt := Lib.hid (St.start (HS1.out.gr (Gr.refl wz2).drew).1)
            replace HS1 := Lib.hid (HS1.out.gr (Gr.refl wz2).drew)
            have HSl_b := Lib.hid (Sl.gr HS2.out HSB.out (Gr.refl wz2).drew)
            have HSl_be := Lib.hid (Sl.gr HS2.out HSE.out (Gr.refl wz2).drew)
            clear HS2 HSB HSE
            generalize wz2.drew = wd at *
            refine wpAnyH_take (i := 0) (oi := { dst := some 46, op := Go.Op.fieldAddr 74 (Go.Operand.tmp 5) 1, type := 0, pos := "msg.go:113", after := #[], guard := none }) (v := ?ve0) rfl (by kernel_rfl) (by kernel_rfl) (by kernel_rfl) (fun _ _ _ h => h) (Or.inl ⟨by rfl, ?re0⟩) (by assumption) ?_
            case re0 => (intro w hSw; (try dsimp only at hSw); (go_simp <;> with_reducible rfl))
            try simp only [Act.put, List.setIfInBounds_toArray, List.set_cons_zero, List.set_cons_succ]
            refine wpAnyH_take (i := 1) (oi := { dst := some 47, op := Go.Op.load 38 (Go.Operand.tmp 46), type := 38, pos := "msg.go:113", after := #[{ on := 0, ground := Go.Ground.data }], guard := none }) (v := ?ve1) rfl (by kernel_rfl) (by kernel_rfl) (by kernel_rfl) (fun _ _ _ h => h) (Or.inl ⟨by rfl, ?re1⟩) (by assumption) ?_
            case re1 => (intro w hSw; (try dsimp only at hSw); (go_simp <;> with_reducible rfl))
            try simp only [Act.put, List.setIfInBounds_toArray, List.set_cons_zero, List.set_cons_succ]
            refine wpAnyH_take (i := 2) (oi := { dst := some 48, op := Go.Op.fieldAddr 74 (Go.Operand.tmp 5) 0, type := 0, pos := "msg.go:113", after := #[], guard := none }) (v := ?ve2) rfl (by kernel_rfl) (by kernel_rfl) (by kernel_rfl) (fun _ _ _ h => h) (Or.inl ⟨by rfl, ?re2⟩) (by assumption) ?_
            case re2 => (intro w hSw; (try dsimp only at hSw); (go_simp <;> with_reducible rfl))
            try simp only [Act.put, List.setIfInBounds_toArray, List.set_cons_zero, List.set_cons_succ]
            refine wpAnyH_take (i := 3) (oi := { dst := some 49, op := Go.Op.load 3 (Go.Operand.tmp 48), type := 3, pos := "msg.go:113", after := #[{ on := 2, ground := Go.Ground.data }], guard := none }) (v := ?ve3) rfl (by kernel_rfl) (by kernel_rfl) (by kernel_rfl) (fun _ _ _ h => h) (Or.inl ⟨by rfl, ?re3⟩) (by assumption) ?_
            case re3 => (intro w hSw; (try dsimp only at hSw); (go_simp <;> with_reducible rfl))
            try simp only [Act.put, List.setIfInBounds_toArray, List.set_cons_zero, List.set_cons_succ]
            apply cutZ1 (fun s4 w9 => Hid (St p wd (acc3 ++ encN sl ++ (encU yc ++ encN (yn : Int))) w9) ∧ Hid (Sl p w9 b [.int .i64 (kn : Nat), .int .i64 frm, .int .i64 tt, .int .i64 sub, .int .u64 (c : Nat), .int .i64 (n : Nat), .int .i64 slot, .int .i64 time, .bool ok, .string text, .slice (some ⟨g, 0, none⟩) L.length q]) ∧ Hid (Sl p w9 be [.int .i64 sl, .int .u64 (yc : Nat), .int .i64 (yn : Nat), .string tx]))
            intro HLe3
            apply cutZ1 (fun s4 w9 => Hid (St p wd (acc3 ++ encN sl) w9) ∧ Hid (Sl p w9 b [.int .i64 (kn : Nat), .int .i64 frm, .int .i64 tt, .int .i64 sub, .int .u64 (c : Nat), .int .i64 (n : Nat), .int .i64 slot, .int .i64 time, .bool ok, .string text, .slice (some ⟨g, 0, none⟩) L.length q]) ∧ Hid (Sl p w9 be [.int .i64 sl, .int .u64 (yc : Nat), .int .i64 (yn : Nat), .string tx]))
            intro HLe2
            apply cutZ1 (fun s4 w9 => Hid (St p wd (acc3) w9) ∧ Hid (Sl p w9 b [.int .i64 (kn : Nat), .int .i64 frm, .int .i64 tt, .int .i64 sub, .int .u64 (c : Nat), .int .i64 (n : Nat), .int .i64 slot, .int .i64 time, .bool ok, .string text, .slice (some ⟨g, 0, none⟩) L.length q]) ∧ Hid (Sl p w9 be [.int .i64 sl, .int .u64 (yc : Nat), .int .i64 (yn : Nat), .string tx]) ∧ Hid (Sl p w9 s4 [.int .i64 sl]))
            intro HLe1
            · skip
              refine wpAnyH_ready (rs := [4]) (by kernel_rfl) (by simp) ?_
              refine AllReadyH.cons (o := { dst := some 50, op := Go.Op.buildSlice 61 1 #[(0, Go.Operand.tmp 49)], type := 61, pos := "msg.go:113", after := #[{ on := 3, ground := Go.Ground.data }], guard := none }) rfl (fun K hK => ?_) AllReadyH.nil
              go_simp
              obtain ⟨s4, hsx⟩ : ∃ s, s = wd.heap.size := ⟨_, rfl⟩
              rw [← hsx]
              obtain ⟨wn, hwx⟩ : ∃ wn, wn = wd.alloc (.cells #[.int .i64 sl] 3) := ⟨_, rfl⟩
              rw [← hwx]
              have gx : Gr wd wn := by rw [hwx]; exact (Gr.refl _).alloc _
              have HSl4 := Lib.hid (show Sl p wn s4 [.int .i64 sl] from by rw [hwx, hsx]; exact Sl.new HSt.out _ _)
              replace HSl_b := Lib.hid (Sl.gr HSt.out HSl_b.out gx)
              replace HSl_be := Lib.hid (Sl.gr HSt.out HSl_be.out gx)
              replace HSt := Lib.hid (HSt.out.gr gx)
              clear gx hwx hsx
              first | refine hK.out _ _ ?se0_4 (fun hp => ?_) | (go_wp2_with fail; refine hK.out _ _ ?se0_4 (fun hp => ?_))
              case se0_4 => ((try dsimp only); exact ⟨HSl_be.out.2.2.2 0 _ rfl, HSl_be.out.2.2.2 1 _ rfl, HSl_be.out.2.2.2 2 _ rfl, HSl_be.out.2.2.2 3 _ rfl⟩)
              clear hK K hp
              try simp only [Act.put, List.setIfInBounds_toArray, List.set_cons_zero, List.set_cons_succ]
              exact HLe1 s4 wn ⟨HSt, HSl_b, HSl_be, HSl4⟩
            · intro s4 wy hSt
              obtain ⟨HSt, HSl_b, HSl_be, HSl4⟩ := hSt
              refine wpAnyH_ready (rs := [5]) (by kernel_rfl) (by simp) ?_
              refine AllReadyH.cons (o := { dst := some 51, op := Go.Op.call { callee := Go.Callee.value (Go.Operand.func 34), args := #[Go.Operand.tmp 3, Go.Operand.tmp 50], argTypes := #[80, 61] }, type := 82, pos := "msg.go:113", after := #[{ on := 4, ground := Go.Ground.data }], guard := none }) rfl (fun K hK => ?_) AllReadyH.nil
              go_simp
              go_at_call 34
              refine (stN1 sl HSt.out HSl4.out (by omega) (by omega)).mono ?_
              rintro e wn ⟨rfl, hSt2, hK2⟩
              replace HSl_b := Lib.hid (Sl.keeps HSl_b.out hK2)
              replace HSl_be := Lib.hid (Sl.keeps HSl_be.out hK2)
              replace HSt := Lib.hid hSt2
              clear hSt2 hK2
              clear HSl4
              first | refine hK.out _ _ ?se1_5 (fun hp => ?_) | (go_wp2_with fail; refine hK.out _ _ ?se1_5 (fun hp => ?_))
              case se1_5 => ((try dsimp only); exact ⟨HSl_be.out.2.2.2 0 _ rfl, HSl_be.out.2.2.2 1 _ rfl, HSl_be.out.2.2.2 2 _ rfl, HSl_be.out.2.2.2 3 _ rfl⟩)
              clear hK K hp
              try simp only [Act.put, List.setIfInBounds_toArray, List.set_cons_zero, List.set_cons_succ]
              exact HLe2 s4 wn ⟨HSt, HSl_b, HSl_be⟩
            · intro s4 wy hSt
              obtain ⟨HSt, HSl_b, HSl_be⟩ := hSt
              refine wpAnyH_ready (rs := [6]) (by kernel_rfl) (by simp) ?_
              refine AllReadyH.cons (o := { dst := some 52, op := Go.Op.call { callee := Go.Callee.value (Go.Operand.func 33), args := #[Go.Operand.tmp 47, Go.Operand.tmp 51], argTypes := #[38, 82] }, type := 0, pos := "msg.go:113", after := #[{ on := 1, ground := Go.Ground.data }, { on := 5, ground := Go.Ground.data }, { on := 5, ground := Go.Ground.chain }], guard := none }) rfl (fun K hK => ?_) AllReadyH.nil
              go_simp
              go_at_call 33
              refine (stPut yc yn HSt.out (by simp only [List.length_append] at *; have := encN_le9 sl; omega) (by omega)).mono ?_
              rintro e wn ⟨rfl, hSt2, hK2⟩
              replace HSl_b := Lib.hid (Sl.keeps HSl_b.out hK2)
              replace HSl_be := Lib.hid (Sl.keeps HSl_be.out hK2)
              replace HSt := Lib.hid hSt2
              clear hSt2 hK2
              first | refine hK.out _ _ ?se2_6 (fun hp => ?_) | (go_wp2_with fail; refine hK.out _ _ ?se2_6 (fun hp => ?_))
              case se2_6 => ((try dsimp only); exact ⟨HSl_be.out.2.2.2 0 _ rfl, HSl_be.out.2.2.2 1 _ rfl, HSl_be.out.2.2.2 2 _ rfl, HSl_be.out.2.2.2 3 _ rfl⟩)
              clear hK K hp
              try simp only [Act.put, List.setIfInBounds_toArray, List.set_cons_zero, List.set_cons_succ]
              exact HLe3 s4 wn ⟨HSt, HSl_b, HSl_be⟩
            · intro s4 wy hSt
              obtain ⟨HSt, HSl_b, HSl_be⟩ := hSt
              refine wpAnyH_done (by kernel_rfl) ?_ _
              replace HS1 := Lib.hid (HSt.out.sub HS1.out)
              clear HSt
              have HG5 := HSl_be.out.2.2.2 3 _ rfl
              go_wp2_with fail
              refine (stS tx (HS1.out.gr ((Gr.refl _).alloc _)) (Sl.new HS1.out [.string tx] _) (by simp only [List.length_append]; have := encN_le9 sl; have := encU_le yc; have := encN_le9 (yn : Int); omega) (by omega)).mono ?_
              rintro e w5 ⟨rfl, hS5, hK5⟩
              have HSB5 := Lib.hid ((Sl.gr HS1.out HSl_b.out ((Gr.refl _).alloc (.cells #[.string tx] 9))).keeps hK5)
              have HS5 := Lib.hid (show St p wz (acc2 ++ (L.take (k + 1)).flatMap insE) w5 from by
                rw [HTK.out]
                simpa only [insE, List.append_assoc, Int.toNat_natCast] using hS5)
              clear hS5 hK5 HS1 HSl_b HSl_be HG5
              go_wp2
              go_roundw
              case rel => exact ⟨k + 1, by omega, by go_num, HS5, HSB5⟩
              case measure => simp [intOf]; omega
          · have hk5 : ¬ (k : Int) < (L.length : Int) := by omega
            obtain rfl : k = L.length := by omega
            rw [List.take_length] at HS1
            have hle := insL_le L fun y hy => by have := HE.out y hy; omega
            have hm : L.length * 1100 ≤ 64 * 1100 := Nat.mul_le_mul_right _ (by omega)
            have hle2 : (acc2 ++ L.flatMap insE).length ≤ 1048576 := by rw [List.length_append]; omega
            clear hm
            have HVAL := Lib.hid (show acc2 ++ L.flatMap insE = inHead frm tt sub c n slot time ok text L.length ++ L.flatMap insE by rw [HACC2.out, HACC.out]; simp only [inHead, List.append_assoc, List.nil_append])
            obtain ⟨T, hT⟩ : ∃ T, T = ofL (acc2 ++ L.flatMap insE) := ⟨_, rfl⟩
            have HT := Lib.hid hT
            have HTL := Lib.hid hle2
            clear hle hle2 hal2
            have TX := Lib.hid (fun w9 (h : WrIs w9 p (acc2 ++ L.flatMap insE)) => show Calls Tryz.prog 38 #[.pointer (some ⟨p, 0, none⟩)] w9 fun e w' => e = .returned (.string T) ∧ Gr w9 w' from (wText_any p _ w9 h).mono (by rintro e w' ⟨rfl, rfl⟩; exact ⟨by rw [hT]; rfl, Gr.refl _⟩))
            clear hT
            have HWd := Lib.hid (HS1.out.1.gr (Gr.refl wr).drew)
            have k0 := HSB.out.2.2.2 0 _ rfl
            go_wp2
            have HX : Hid (∀ w0 w9 : World, Gr w0 w9 → (fun w9 => Gr wr w9 ∧ w9.cell? ⟨b, 0, none⟩ = some (.int .i64 (kn : Nat))) w0 → (fun w9 => Gr wr w9 ∧ w9.cell? ⟨b, 0, none⟩ = some (.int .i64 (kn : Nat))) w9) := Lib.hid fun w0 w9 hg ⟨h, q0⟩ => ⟨h.trans hg, hg.cell q0⟩
            have HS0 := And.intro (Gr.refl wr) k0
            clear k0
            refine wp_region_held_drew (S := (fun w9 => Gr wr w9 ∧ w9.cell? ⟨b, 0, none⟩ = some (.int .i64 (kn : Nat)))) (by kernel_rfl) ?invz (fun h0 => ?_)
            case invz => ((try dsimp only); (first | exact HS0 | exact HX.out _ _ ((Gr.refl _).drew) HS0))
            refine wpAnyH_take (i := 0) (oi := { dst := some 58, op := Go.Op.fieldAddr 41 (Go.Operand.tmp 1) 0, type := 0, pos := "msg.go:116", after := #[], guard := none }) (v := ?vz1) rfl (by kernel_rfl) (by kernel_rfl) (by kernel_rfl) (fun _ _ _ h => h) (Or.inl ⟨by rfl, ?rz1⟩) (by assumption) ?_
            case rz1 => (intro w hSw; (try dsimp only at hSw); (go_simp <;> with_reducible rfl))
            try simp only [Act.put, List.setIfInBounds_toArray, List.set_cons_zero, List.set_cons_succ]
            refine wpAnyH_take (i := 1) (oi := { dst := some 59, op := Go.Op.load 3 (Go.Operand.tmp 58), type := 3, pos := "msg.go:116", after := #[{ on := 0, ground := Go.Ground.data }], guard := none }) (v := ?vz2) rfl (by kernel_rfl) (by kernel_rfl) (by kernel_rfl) (fun _ _ _ h => h) (Or.inl ⟨by rfl, ?rz2⟩) (by assumption) ?_
            case rz2 => (intro w hSw; (try dsimp only at hSw); (go_simp <;> with_reducible rfl))
            try simp only [Act.put, List.setIfInBounds_toArray, List.set_cons_zero, List.set_cons_succ]
            refine wpAnyH_take (i := 2) (oi := { dst := some 60, op := Go.Op.convert 3 5 (Go.Operand.tmp 59), type := 5, pos := "msg.go:116", after := #[{ on := 1, ground := Go.Ground.data }], guard := none }) (v := (.int .u8 (kn : Nat))) rfl (by kernel_rfl) (by kernel_rfl) (by kernel_rfl) (fun _ _ _ h => h) (Or.inl ⟨by rfl, ?rz3⟩) (by assumption) ?_
            case rz3 => (intro w hSw; (try dsimp only at hSw); go_simp; first | (rw [HWR.out]; done) | (simp only [HWR.out]; done) | (rw [HWR.out]; rfl))
            try simp only [Act.put, List.setIfInBounds_toArray, List.set_cons_zero, List.set_cons_succ]
            refine wpAnyH_ready (rs := [3]) (by kernel_rfl) (by simp) ?_
            refine AllReadyH.cons (o := { dst := some 61, op := Go.Op.call { callee := Go.Callee.value (Go.Operand.func 38), args := #[Go.Operand.tmp 3], argTypes := #[80] }, type := 9, pos := "msg.go:116", after := #[], guard := none }) rfl (fun K hK => ?_) AllReadyH.nil
            go_simp
            (go_at_call 38; refine (TX.out _ HWd.out).mono ?_; rintro e w9 ⟨rfl, hgN⟩)
            first | refine hK.out _ _ ?sz4 (fun h4 => ?_) | (go_wp2_with fail; refine hK.out _ _ ?sz4 (fun h4 => ?_))
            case sz4 => ((try dsimp only); exact HX.out _ _ hgN h0)
            clear hK K h0
            try simp only [Act.put, List.setIfInBounds_toArray, List.set_cons_zero, List.set_cons_succ]
            refine wpAnyH_ready (rs := [4]) (by kernel_rfl) (by simp) ?_
            refine AllReadyH.cons (o := { dst := some 62, op := Go.Op.call { callee := Go.Callee.value (Go.Operand.func 37), args := #[Go.Operand.tmp 60, Go.Operand.tmp 61], argTypes := #[5, 9] }, type := 9, pos := "msg.go:116", after := #[{ on := 2, ground := Go.Ground.data }, { on := 3, ground := Go.Ground.data }, { on := 3, ground := Go.Ground.chain }], guard := none }) rfl (fun K hK => ?_) AllReadyH.nil
            go_simp
            (go_at_call 37; refine (HFR.out _ _ (by rw [HT.out, ofL_size]; exact HTL.out)).mono ?_; rintro e w9 ⟨rfl, hgN⟩)
            first | refine hK.out _ _ ?sz5 (fun h5 => ?_) | (go_wp2_with fail; refine hK.out _ _ ?sz5 (fun h5 => ?_))
            case sz5 => ((try dsimp only); exact HX.out _ _ hgN h4)
            clear hK K h4
            try simp only [Act.put, List.setIfInBounds_toArray, List.set_cons_zero, List.set_cons_succ]
            refine wpAnyH_take (i := 5) (oi := { dst := some 2, op := Go.Op.assign (Go.Operand.tmp 62), type := 9, pos := "msg.go:116", after := #[{ on := 4, ground := Go.Ground.data }, { on := 4, ground := Go.Ground.chain }, { on := 0, ground := Go.Ground.phase }, { on := 1, ground := Go.Ground.phase }, { on := 2, ground := Go.Ground.phase }, { on := 3, ground := Go.Ground.phase }, { on := 4, ground := Go.Ground.phase }], guard := none }) (v := ?vz6) rfl (by kernel_rfl) (by kernel_rfl) (by kernel_rfl) (fun _ _ _ h => h) (Or.inl ⟨by rfl, ?rz6⟩) (by assumption) ?_
            case rz6 => (intro w hSw; (try dsimp only at hSw); (go_simp <;> with_reducible rfl))
            try simp only [Act.put, List.setIfInBounds_toArray, List.set_cons_zero, List.set_cons_succ]
            refine wpAnyH_done (by kernel_rfl) ?_ _
            have G9 := Lib.hid (h5).1
            clear h5
            go_wp2
            go_ret
            exact ⟨by rw [HT.out, HVAL.out]; rfl, HGF.out.trans G9.out⟩
end Go.Proofs.YtfgkgpkaohkehaaGreatDoor
