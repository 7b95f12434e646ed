import Derived.Test.YtmgpnpmdmelnkaaGreatDoorK7
import Derived.Test.YtmgpnpmdmelnkaaGreatDoorK14
import Derived.WalkKit
import Derived.ProofKit
import Derived.LoopTactic
import Derived.Outline
import Derived.WalkSpells
import Derived.WalkLawsBesides
import Derived.Lib.Hide
import Derived.Deep.LoopGhost
import Derived.Deep.QuietTactic
import Derived.BigQuiet
import Derived.ShutString
import Derived.IntWalk
import Derived.Lib.MinMax
import Derived.Deep.RegionWith
import Derived.Deep.RegionHeld3
import Derived.Test.YtmgpnpmdmelnkaaGreatDoorF22m
namespace Go.Proofs.YtmgpnpmdmelnkaaGreatDoor
open Go.ChangeShapes Go.WideShapes Go.ChangeAt Go.RowKit
set_option linter.unusedVariables false
set_option linter.unusedSimpArgs false
theorem RRow22.low {w : World} {base : Nat} {v : Value} {L : List RL} (h : RRow22 w base v L) : RRow22 w 0 v L := ⟨ownsRow_lower h.1 (Nat.zero_le _), h.2⟩
theorem Doc22.past {w0 w w' : World} {b n : Nat} {v1 v2 u1 u2 vH vW : Value} {t0 : Int} {B : Bk} {H W : List RL} (h : Doc22 w0 w b v1 v2 t0 n B vH vW H W) (hF : Far2 b v1 v2 w w') (f1 : From v1 w u1) (f2 : From v2 w u2) : RRow22 w' 0 vH H ∧ RRow22 w' 0 vW W ∧ (∀ x : RL, x.lies w → offX w b v1 v2 x → x.lies w' ∧ offX w' b u1 u2 x) ∧ ∀ x ∈ H ++ W, offX w' b u1 u2 x := by
  have row : ∀ {v : Value} {L : List RL}, RRow22 w 0 v L → (∀ x ∈ L, offX w b v1 v2 x) → RRow22 w' 0 v L := fun {v L} hr ho =>
    ⟨row_far22 hF hr.1 (row_offL h.bk.blk hr.1 (by decide)) (rows_apart hr.1 h.bk.r1 (by decide)) (rows_apart hr.1 h.bk.r2 (by decide)), fun x hx => lies_far22 hF (hr.2 x hx) (ho x hx)⟩
  exact ⟨row h.rH (fun x hx => h.off x (List.mem_append.2 (.inl hx))), row h.rW (fun x hx => h.off x (List.mem_append.2 (.inr hx))), fun x hl ho => ⟨lies_far22 hF hl ho, off_far ho hF f1 f2⟩, fun x hx => off_far (h.off x hx) hF f1 f2⟩
/-- The document's Release: the book, what was granted, the error's number. -/
def relRes (H W : List RL) (last s : Int) (p : List ByteArray) : (List RL × Int × List RL × List RL) × Int := if (findR H W s p).2 < 0 then ((H, last, [], W), 20) else (pumpF (H.filter (keepR s false p)) last (W.filter (keepR s false p)), 0)
theorem refRelease_any {bH bW : Nat} {vH vW : Value} {last : Int} (H W : List RL) (s : Int) (p : List ByteArray) (pa : Option Addr) (pc : Nat) (w : World) (hH : RRow22 w bH vH H) (hW : RRow22 w bW vW W) (hl : H.length + W.length ≤ 400) (ht : 0 ≤ last ∧ last ≤ 18446744073709551615) (hp : Strs w pa p) :
    Calls Tryz.prog 26 #[.agg #[vH, vW, .int .u64 last], .int .i64 s, .slice pa p.length pc] w fun e w' => ∃ v1 v2 v3, e = .returned (.tuple #[.agg #[v1, v2, .int .u64 (relRes H W last s p).1.2.1], v3, .int .i64 (relRes H W last s p).2]) ∧ PumpIs w' 0 v1 v2 v3 (relRes H W last s p).1 ∧ Gr w w' := by
  by_cases hi : (findR H W s p).2 < 0
  · unfold relRes
    rw [if_pos hi]
    refine (refRelease_none p pa pc H W s w hH hW hl ht hp hi).mono ?_
    rintro e w' ⟨rfl, hg⟩
    exact ⟨_, _, _, rfl, ⟨(hH.gr hg).low, (hW.gr hg).low, World.ownsRow_nil _ _ _ _, fun x hx => by simp at hx⟩, hg⟩
  · unfold relRes
    rw [if_neg hi]
    refine (refRelease_some p pa pc H W s w hH hW hl ht hp hi).mono ?_
    rintro e w' ⟨v1, v2, v3, rfl, hp', hg⟩
    exact ⟨_, _, _, rfl, ⟨hp'.h, hp'.w.low, hp'.o.low⟩, hg⟩
theorem rel_rel2 {t0 : Int} {n : Nat} {B : Bk} {H W : List RL} (h : Rel22 t0 n B H W) (s : Int) {t : ByteArray} (ht : IsPath t) : (relB B s t).2.2 = (relRes H W B.last s (pof t)).2 ∧ RemRel t0 n ((relB B s t).1, (relB B s t).2.1) (relRes H W B.last s (pof t)).1 := by
  obtain ⟨h1, h2⟩ := rel_rel h s ht
  unfold relRes
  by_cases hi : (findR H W s (pof t)).2 < 0
  · rw [if_pos hi, h1 hi]
    exact ⟨rfl, h, rfl, rfl, fun x hx => by simp at hx, by simp⟩
  · rw [if_neg hi]
    exact h2 hi
theorem relR_all {P : RL → Prop} (hP : ∀ x t, P x → P (x.tokd t)) {H W : List RL} {last s : Int} {p : List ByteArray} (hH : ∀ x ∈ H, P x) (hW : ∀ x ∈ W, P x) : (∀ x ∈ (relRes H W last s p).1.1, P x) ∧ ∀ x ∈ (relRes H W last s p).1.2.2.2, P x := by
  unfold relRes
  split
  · exact ⟨hH, hW⟩
  · exact pump_all hP (fun x hx => hH x (List.mem_filter.1 hx).1) (fun x hx => hW x (List.mem_filter.1 hx).1)
/-- A path that was made behind the book lies off it. -/
theorem off_new {wv : World} {b lo : Nat} {v1 v2 : Value} {x : RL} (h : x.lies wv) (hb : b < lo) (h1 : ∀ k, v1.ownBlock = some k → k < lo) (h2 : ∀ k, v2.ownBlock = some k → k < lo) (hn : ∀ g o s, x.a = some ⟨g, o, s⟩ → lo ≤ g) : offX wv b v1 v2 x := by
  obtain ⟨q1, q2, q3⟩ := (h : Strs wv x.a x.l)
  rcases q3 with q3 | ⟨g, off, ha, hc⟩
  · exact .inl q3
  · rcases Nat.eq_zero_or_pos x.l.length with hz | hz
    · exact .inl (List.eq_nil_of_length_eq_zero hz)
    · refine .inr fun g' o s e => ?_
      have hl := hn g' o s e
      rw [ha] at e
      simp only [Option.some.injEq, Addr.mk.injEq] at e
      obtain ⟨rfl, _, _⟩ := e
      exact ⟨cell_lt (hc 0 hz), by omega, fun e => by have := h1 _ e; omega, fun e => by have := h2 _ e; omega⟩
set_option maxRecDepth 100000 in
set_option maxHeartbeats 8000000 in
theorem do2_any {w0 : World} {b n : Nat} {v1 v2 vH vW : Value} {t0 : Int} {B : Bk} (H W : List RL) (S : Int) (Q : List ByteArray) (pa : Option Addr) (pc : Nat) (X Wt : Bool) (w : World) (hd : Doc22 w0 w b v1 v2 t0 n B vH vW H W) (hq : Strs w pa Q) (hn : n ≤ 200) (hM : ML w0) (hE : ET w0) :
    Calls Tryz.prog 10 #[.pointer (some ⟨b, 0, none⟩), .agg #[vH, vW, .int .u64 B.last], .agg #[.int .i64 2, .int .i64 S, .slice pa Q.length pc, .bool X, .bool Wt]] w (DoIs w0 w b v1 v2 t0 (n) ((dropB B (sesOf S)).1)) := by
  have HD := Lib.hid hd
  have HQS := Lib.hid hq
  obtain ⟨s, hs⟩ : ∃ s, sesOf S = s := ⟨_, rfl⟩
  obtain ⟨hs1, hs9⟩ := sesOf_in S
  rw [hs] at hs1 hs9 ⊢
  have hs2 : wrap64 (1 + (bits .and .i64 S 255).tmod 9) = s := hs
  have HV1 := Lib.hid (show ∀ k, v1.ownBlock = some k → k < w.heap.size from fun k e => (hd.bk.r1.lt k e).2)
  have HV2 := Lib.hid (show ∀ k, v2.ownBlock = some k → k < w.heap.size from fun k e => (hd.bk.r2.lt k e).2)
  have hbw : b < w.heap.size := hd.bk.blk.lt
  obtain ⟨aH, cH, rfl, _⟩ := ownsRow_slice hd.rH.1
  obtain ⟨aW, cW, rfl, _⟩ := ownsRow_slice hd.rW.1
  have HMM := Lib.hid hM
  have HEE := Lib.hid (hE.gr hd.bk.grown)
  have HMW := Lib.hid (hM.gr hd.bk.grown)
  have HLE := Lib.hid (show B.H.length + B.W.length ≤ n ∧ H.length = B.H.length ∧ W.length = B.W.length from ⟨hd.rel.len, hd.rel.lenH.symm, hd.rel.lenW.symm⟩)
  have z1 : ∀ (w : World) (o : Obj), (w.alloc o).heap.size = w.heap.size + 1 := fun w o => by simp
  have QBa := Lib.hid (((Blk.new w #[.slice aH H.length cH, .slice aW W.length cW, .int .u64 B.last] 29).gr ((Gr.refl _).alloc (.cells #[.int .i64 2, .int .i64 S, .slice pa Q.length pc, .bool X, .bool Wt] 35))).gr ((Gr.refl _).alloc (.cells #[.slice none 0 0, .slice none 0 0, .int .u64 0] 29)))
  have QAa := Lib.hid ((Blk.new (w.alloc (.cells #[.slice aH H.length cH, .slice aW W.length cW, .int .u64 B.last] 29)) #[.int .i64 2, .int .i64 S, .slice pa Q.length pc, .bool X, .bool Wt] 35).gr ((Gr.refl _).alloc (.cells #[.slice none 0 0, .slice none 0 0, .int .u64 0] 29)))
  have QRa := Lib.hid (Blk.new ((w.alloc (.cells #[.slice aH H.length cH, .slice aW W.length cW, .int .u64 B.last] 29)).alloc (.cells #[.int .i64 2, .int .i64 S, .slice pa Q.length pc, .bool X, .bool Wt] 35)) #[.slice none 0 0, .slice none 0 0, .int .u64 0] 29)
  have QGa := Lib.hid ((((Gr.refl w).alloc (.cells #[.slice aH H.length cH, .slice aW W.length cW, .int .u64 B.last] 29)).alloc (.cells #[.int .i64 2, .int .i64 S, .slice pa Q.length pc, .bool X, .bool Wt] 35)).alloc (.cells #[.slice none 0 0, .slice none 0 0, .int .u64 0] 29))
  simp only [z1] at QAa QRa
  clear z1 hd hq hM hE hs
  go_enter Tryz.func10, Tryz.ntmps10
  go_upto_region 1 with fail
  generalize ((w.alloc (.cells #[.slice aH H.length cH, .slice aW W.length cW, .int .u64 B.last] 29)).alloc (.cells #[.int .i64 2, .int .i64 S, .slice pa Q.length pc, .bool X, .bool Wt] 35)).alloc (.cells #[.slice none 0 0, .slice none 0 0, .int .u64 0] 29) = w1 at *
  have d2 := QAa.out.cell (i := 2) rfl
  go_wp2_with fail
  refine (lawMadeNew_any pa Q pc w1 (HQS.out.gr QGa.out) (HEE.out.gr QGa.out)).mono ?_
  rintro e w5 ⟨ma, mc, rfl, hms, hg5, hmn⟩
  have hsz1 : w.heap.size + 1 + 1 < w1.heap.size := QRa.out.lt
  have hg6 := hg5.trans ((Gr.refl w5).alloc (.cells #[.string (ptext (madeL Q))] 40))
  have QB := Lib.hid (QBa.out.gr hg6)
  have QA := Lib.hid (QAa.out.gr hg6)
  have QR := Lib.hid (QRa.out.gr hg6)
  have QG := Lib.hid (QGa.out.trans hg6)
  have QP := Lib.hid (Blk.new w5 #[.string (ptext (madeL Q))] 40)
  have HMS := Lib.hid (hms.gr ((Gr.refl w5).alloc (.cells #[.string (ptext (madeL Q))] 40)))
  have HMN := Lib.hid (show ∀ g o s, ma = some ⟨g, o, s⟩ → w.heap.size + 1 + 1 < g from fun g o s e => by have := hmn g o s e; omega)
  have HPQ := Lib.hid (made_path22 Q)
  have HPO := Lib.hid (pof_made Q)
  have hcp : w.heap.size + 1 + 1 < w5.heap.size := by have := hg5.size; omega
  clear hms hg5 hmn hg6 QBa QAa QRa QGa d2 HQS HEE
  go_upto_region 2 with fail
  generalize w5.alloc (.cells #[.string (ptext (madeL Q))] 40) = w6 at *
  generalize w5.heap.size = cp at *
  generalize ptext (madeL Q) = P at *
  generalize madeL Q = MQ at *
  have d1 := QA.out.cell (i := 1) rfl
  go_upto_region 3 with fail
  rw [hs2]
  clear d1 hs2
  have HD6 := Lib.hid (HD.out.gr QG.out)
  have d0 := QA.out.cell (i := 0) rfl
  go_upto_region 15 with fail
  clear d0
  go_wp2_with fail
  refine (bdrop_any s w6 HD6.out.bk (by have := HLE.out; omega) HD6.out.rel.last HMM.out HD6.out.rel.pre.srt HD6.out.rel.pathH HD6.out.rel.pathW).mono ?_
  rintro e w7 ⟨v3, rfl, hr3, ht⟩
  obtain ⟨a3, c3, rfl, _⟩ := ownsRow_slice hr3
  obtain ⟨u1, u2, hk, hF, f1, f2⟩ := ht
  have hpast := HD6.out.past hF f1 f2
  have HKB := Lib.hid hk
  have HFF := Lib.hid (And.intro hF (And.intro f1 f2))
  have HPS := Lib.hid hpast
  have B7 := Lib.hid (QB.out.far22 hF (by omega) (fun e => by have := HV1.out _ e; omega) (fun e => by have := HV2.out _ e; omega))
  have A7 := Lib.hid (QA.out.far22 hF (by omega) (fun e => by have := HV1.out _ e; omega) (fun e => by have := HV2.out _ e; omega))
  have R7 := Lib.hid (QR.out.far22 hF (by omega) (fun e => by have := HV1.out _ e; omega) (fun e => by have := HV2.out _ e; omega))
  have P7 := Lib.hid (QP.out.far22 hF (by omega) (fun e => by have := HV1.out _ e; omega) (fun e => by have := HV2.out _ e; omega))
  have hmw7 := Lib.hid (HMM.out.gr hk.grown)
  clear hk hF f1 f2 hpast
  have HR3 := Lib.hid hr3
  have hre := rel_drop HD6.out.rel s
  have HOF0 := pump_all (P := offX w7 b u1 u2) (fun x t h => offX_tokd x t h) (H := H.filter (keepR s true [])) (W := W.filter (keepR s true [])) (last := B.last) (fun x hx => HPS.out.2.2.2 x (List.mem_append.2 (.inl (List.mem_filter.1 hx).1))) (fun x hx => HPS.out.2.2.2 x (List.mem_append.2 (.inr (List.mem_filter.1 hx).1)))
  obtain ⟨r, hr⟩ : ∃ r, pumpF (H.filter (keepR s true [])) B.last (W.filter (keepR s true [])) = r := ⟨_, rfl⟩
  rw [hr] at hre HOF0
  have HRE := Lib.hid hre
  have HRR := Lib.hid hr
  have HOF := Lib.hid (show ∀ x ∈ r.1 ++ r.2.2.2, offX w7 b u1 u2 x from fun x hx => by
    rcases List.mem_append.1 hx with hx | hx
    · exact HOF0.1 x hx
    · exact HOF0.2 x hx)
  clear hr3 hre hr HOF0
  have b0 := B7.out.cell (i := 0) rfl
  have b1 := B7.out.cell (i := 1) rfl
  have b2 := B7.out.cell (i := 2) rfl
  go_upto_region 16 with fail
  go_wp2_with fail
  refine (refDrop_any H W s w7 HPS.out.1 HPS.out.2.1 (by have := HLE.out; omega) HD6.out.rel.last).mono ?_
  rw [HRR.out]
  rintro e w8 ⟨z1, z2, z3, rfl, hp8, hg8⟩
  obtain ⟨a6, c6, rfl, _⟩ := ownsRow_slice hp8.h.1
  obtain ⟨a7, c7, rfl, _⟩ := ownsRow_slice hp8.w.1
  obtain ⟨a8, c8, rfl, _⟩ := ownsRow_slice hp8.o.1
  have hg9 := (Gr.refl w8).alloc (.cells #[.slice a6 r.1.length c6, .slice a7 r.2.2.2.length c7, .int .u64 r.2.1] 29)
  have P9 := Lib.hid (hp8.gr hg9)
  have HG79 := Lib.hid (hg8.trans hg9)
  have N9 := Lib.hid (Blk.new w8 #[.slice a6 r.1.length c6, .slice a7 r.2.2.2.length c7, .int .u64 r.2.1] 29)
  have R9 := Lib.hid (R7.out.gr HG79.out)
  have HR39 := Lib.hid (ownsRow_gr HG79.out HR3.out)
  have hc9 : w.heap.size + 1 + 1 < w8.heap.size := by have := R7.out.lt; have := hg8.size; omega
  have HAL : Hid (∀ w', Gr (w8.alloc (.cells #[.slice a6 r.1.length c6, .slice a7 r.2.2.2.length c7, .int .u64 r.2.1] 29)) w' → Calls Tryz.prog 27 #[.slice a3 (dropB B s).2.length c3, .slice a8 r.2.2.1.length c8] w' fun e w'' => e = .returned (.bool true) ∧ Gr w' w'') := Lib.hid fun w' hg => allX_any (dropB B s).2 r.2.2.1 w' (ownsRow_gr hg HR39.out) (P9.out.o.gr hg) HRE.out.out HRE.out.path (hmw7.out.gr (HG79.out.trans hg)) (Nat.le_trans HRE.out.len (by omega))
  clear hp8 hg8 hg9 b0 b1 b2 HR3
  go_upto_region 17 with fail
  generalize w8.alloc (.cells #[.slice a6 r.1.length c6, .slice a7 r.2.2.2.length c7, .int .u64 r.2.1] 29) = w9 at *
  generalize w8.heap.size = c9 at *
  have n0 := N9.out.cell (i := 0) rfl
  have n1 := N9.out.cell (i := 1) rfl
  have n2 := N9.out.cell (i := 2) rfl
  go_wp2_with fail
  refine wp_region_held_drew (S := (fun w0 => w0.cell? ⟨c9, 0, none⟩ = some (.slice a6 r.1.length c6) ∧ w0.cell? ⟨c9, 1, none⟩ = some (.slice a7 r.2.2.2.length c7) ∧ w0.cell? ⟨c9, 2, none⟩ = some (.int .u64 r.2.1))) (by kernel_rfl) ?invd (fun h0 => ?_)
  case invd => ((try dsimp only); (exact ⟨n0, n1, n2⟩))
  refine wpAnyH_take (i := 0) (oi := { dst := some 133, op := Go.Op.load 29 (Go.Operand.tmp 24), type := 29, pos := "law.go:106", after := #[], guard := none }) (v := ?vd1) rfl (by kernel_rfl) (by kernel_rfl) (by kernel_rfl) (fun _ _ _ h => h) (Or.inl ⟨by rfl, ?rd1⟩) (by assumption) ?_
  case rd1 => (intro w hSw; (try dsimp only at hSw); (go_simp <;> with_reducible rfl))
  try simp only [Act.put, List.setIfInBounds_toArray, List.set_cons_zero, List.set_cons_succ]
  refine wpAnyH_take (i := 1) (oi := { dst := some 134, op := Go.Op.move (Go.Operand.tmp 23), type := 37, pos := "law.go:106", after := #[], guard := none }) (v := ?vd2) rfl (by kernel_rfl) (by kernel_rfl) (by kernel_rfl) (fun _ _ _ h => h) (Or.inl ⟨by rfl, ?rd2⟩) (by assumption) ?_
  case rd2 => (intro w hSw; (try dsimp only at hSw); (go_simp <;> with_reducible rfl))
  try simp only [Act.put, List.setIfInBounds_toArray, List.set_cons_zero, List.set_cons_succ]
  refine wpAnyH_take (i := 2) (oi := { dst := some 135, op := Go.Op.move (Go.Operand.tmp 25), type := 27, pos := "law.go:106", after := #[], guard := none }) (v := ?vd3) rfl (by kernel_rfl) (by kernel_rfl) (by kernel_rfl) (fun _ _ _ h => h) (Or.inl ⟨by rfl, ?rd3⟩) (by assumption) ?_
  case rd3 => (intro w hSw; (try dsimp only at hSw); (go_simp <;> with_reducible rfl))
  try simp only [Act.put, List.setIfInBounds_toArray, List.set_cons_zero, List.set_cons_succ]
  refine wpAnyH_ready (rs := [3]) (by kernel_rfl) (by simp) ?_
  refine AllReadyH.cons (o := { dst := some 136, op := Go.Op.call { callee := Go.Callee.value (Go.Operand.func 27), args := #[Go.Operand.tmp 134, Go.Operand.tmp 135], argTypes := #[37, 27] }, type := 4, pos := "law.go:106", after := #[⟨1, .data⟩, ⟨2, .data⟩], guard := none }) rfl (fun K hK => ?_) AllReadyH.nil
  go_simp
  go_at_call 27
  refine (HAL.out _ (by first | exact Gr.refl _ | exact (Gr.refl _).drew)).mono ?_
  rintro e wa ⟨rfl, hga⟩
  have HGA := Lib.hid (show Gr w9 wa from by first | exact hga | exact (Gr.refl _).drew.trans hga)
  have RA := Lib.hid (R9.out.gr HGA.out)
  have q0 := RA.out.cell (i := 0) rfl
  have q1 := RA.out.cell (i := 1) rfl
  have q2 := RA.out.cell (i := 2) rfl
  have k0 := RA.out.free 0
  have k1 := RA.out.free 1
  have k2 := RA.out.free 2
  have K9 := Lib.hid (N9.out.gr HGA.out)
  have K0 := Lib.hid (((K9.out.other (c := w.heap.size + 1 + 1) (by omega) 0 (.slice a6 r.1.length c6)).other (c := w.heap.size + 1 + 1) (by omega) 1 (.slice a7 r.2.2.2.length c7)).other (c := w.heap.size + 1 + 1) (by omega) 2 (.int .u64 r.2.1))
  first | refine hK.out _ _ ?sd4 (fun h4 => ?_) | (go_wp2_with fail; refine hK.out _ _ ?sd4 (fun h4 => ?_))
  case sd4 => ((try dsimp only); (exact ⟨K9.out.cell (i := 0) rfl, K9.out.cell (i := 1) rfl, K9.out.cell (i := 2) rfl⟩))
  clear hK K h0
  try simp only [Act.put, List.setIfInBounds_toArray, List.set_cons_zero, List.set_cons_succ]
  refine wpAnyH_ready (rs := [4]) (by kernel_rfl) (by simp) ?_
  refine AllReadyH.cons (o := { dst := none, op := Go.Op.store 29 (Go.Operand.tmp 6) (Go.Operand.tmp 133), type := 0, pos := "law.go:106", after := #[⟨0, .data⟩, ⟨3, .chain⟩, ⟨0, .phase⟩, ⟨1, .textOnly .lateStores⟩, ⟨2, .textOnly .lateStores⟩, ⟨3, .textOnly .lateStoresUnsure⟩], guard := none }) rfl (fun K hK => ?_) AllReadyH.nil
  go_simp
  skip
  first | refine hK.out _ _ ?sd5 (fun h5 => ?_) | (go_wp2_with fail; refine hK.out _ _ ?sd5 (fun h5 => ?_))
  case sd5 => ((try dsimp only); (exact ⟨K0.out.cell (i := 0) rfl, K0.out.cell (i := 1) rfl, K0.out.cell (i := 2) rfl⟩))
  clear hK K h4
  try simp only [Act.put, List.setIfInBounds_toArray, List.set_cons_zero, List.set_cons_succ]
  refine wpAnyH_take (i := 5) (oi := { dst := some 7, op := Go.Op.assign (Go.Operand.tmp 136), type := 4, pos := "law.go:106", after := #[⟨3, .data⟩, ⟨4, .chain⟩, ⟨0, .phase⟩, ⟨1, .phase⟩, ⟨2, .phase⟩, ⟨3, .phase⟩, ⟨4, .phase⟩], guard := none }) (v := ?vd6) rfl (by kernel_rfl) (by kernel_rfl) (by kernel_rfl) (fun _ _ _ h => h) (Or.inl ⟨by rfl, ?rd6⟩) (by assumption) ?_
  case rd6 => (intro w hSw; (try dsimp only at hSw); (go_simp <;> with_reducible rfl))
  try simp only [Act.put, List.setIfInBounds_toArray, List.set_cons_zero, List.set_cons_succ]
  refine wpAnyH_done (by kernel_rfl) ?_ _
  go_wp2
  refine bodyPost_ret (v := .tuple #[.agg #[.slice a6 r.1.length c6, .slice a7 r.2.2.2.length c7, .int .u64 r.2.1], .bool true]) (by simp [results, Tryz.results10, go_sem, q0, q1, q2, k0, k1, k2]; try rfl) rfl ?_
  have hE := do_end HD6.out QG.out HV1.out HV2.out hbw HFF.out.1 HFF.out.2.1 HFF.out.2.2 HKB.out HRE.out.rel (HG79.out.trans HGA.out) (t := r.2.1) (P9.out.h.gr HGA.out) (RRow22.low (P9.out.w.gr HGA.out)) (fun x hx => HOF.out x hx) RA.out (by omega) (by have := QR.out.lt; omega)
  exact ⟨_, _, _, _, _, _, by rw [HRE.out.last], hE⟩

set_option maxRecDepth 100000 in
set_option maxHeartbeats 8000000 in
theorem do1_any {w0 : World} {b n : Nat} {v1 v2 vH vW : Value} {t0 : Int} {B : Bk} (H W : List RL) (S : Int) (Q : List ByteArray) (pa : Option Addr) (pc : Nat) (X Wt : Bool) (w : World) (hd : Doc22 w0 w b v1 v2 t0 n B vH vW H W) (hq : Strs w pa Q) (hn : n ≤ 200) (hM : ML w0) (hE : ET w0) :
    Calls Tryz.prog 10 #[.pointer (some ⟨b, 0, none⟩), .agg #[vH, vW, .int .u64 B.last], .agg #[.int .i64 1, .int .i64 S, .slice pa Q.length pc, .bool X, .bool Wt]] w (DoIs w0 w b v1 v2 t0 (n) ((relB B (sesOf S) (ptext (madeL Q))).1)) := by
  have HD := Lib.hid hd
  have HQS := Lib.hid hq
  obtain ⟨s, hs⟩ : ∃ s, sesOf S = s := ⟨_, rfl⟩
  obtain ⟨hs1, hs9⟩ := sesOf_in S
  rw [hs] at hs1 hs9 ⊢
  have hs2 : wrap64 (1 + (bits .and .i64 S 255).tmod 9) = s := hs
  have HV1 := Lib.hid (show ∀ k, v1.ownBlock = some k → k < w.heap.size from fun k e => (hd.bk.r1.lt k e).2)
  have HV2 := Lib.hid (show ∀ k, v2.ownBlock = some k → k < w.heap.size from fun k e => (hd.bk.r2.lt k e).2)
  have hbw : b < w.heap.size := hd.bk.blk.lt
  obtain ⟨aH, cH, rfl, _⟩ := ownsRow_slice hd.rH.1
  obtain ⟨aW, cW, rfl, _⟩ := ownsRow_slice hd.rW.1
  have HMM := Lib.hid hM
  have HEE := Lib.hid (hE.gr hd.bk.grown)
  have HMW := Lib.hid (hM.gr hd.bk.grown)
  have HLE := Lib.hid (show B.H.length + B.W.length ≤ n ∧ H.length = B.H.length ∧ W.length = B.W.length from ⟨hd.rel.len, hd.rel.lenH.symm, hd.rel.lenW.symm⟩)
  have z1 : ∀ (w : World) (o : Obj), (w.alloc o).heap.size = w.heap.size + 1 := fun w o => by simp
  have QBa := Lib.hid (((Blk.new w #[.slice aH H.length cH, .slice aW W.length cW, .int .u64 B.last] 29).gr ((Gr.refl _).alloc (.cells #[.int .i64 1, .int .i64 S, .slice pa Q.length pc, .bool X, .bool Wt] 35))).gr ((Gr.refl _).alloc (.cells #[.slice none 0 0, .slice none 0 0, .int .u64 0] 29)))
  have QAa := Lib.hid ((Blk.new (w.alloc (.cells #[.slice aH H.length cH, .slice aW W.length cW, .int .u64 B.last] 29)) #[.int .i64 1, .int .i64 S, .slice pa Q.length pc, .bool X, .bool Wt] 35).gr ((Gr.refl _).alloc (.cells #[.slice none 0 0, .slice none 0 0, .int .u64 0] 29)))
  have QRa := Lib.hid (Blk.new ((w.alloc (.cells #[.slice aH H.length cH, .slice aW W.length cW, .int .u64 B.last] 29)).alloc (.cells #[.int .i64 1, .int .i64 S, .slice pa Q.length pc, .bool X, .bool Wt] 35)) #[.slice none 0 0, .slice none 0 0, .int .u64 0] 29)
  have QGa := Lib.hid ((((Gr.refl w).alloc (.cells #[.slice aH H.length cH, .slice aW W.length cW, .int .u64 B.last] 29)).alloc (.cells #[.int .i64 1, .int .i64 S, .slice pa Q.length pc, .bool X, .bool Wt] 35)).alloc (.cells #[.slice none 0 0, .slice none 0 0, .int .u64 0] 29))
  simp only [z1] at QAa QRa
  clear z1 hd hq hM hE hs
  go_enter Tryz.func10, Tryz.ntmps10
  go_upto_region 1 with fail
  generalize ((w.alloc (.cells #[.slice aH H.length cH, .slice aW W.length cW, .int .u64 B.last] 29)).alloc (.cells #[.int .i64 1, .int .i64 S, .slice pa Q.length pc, .bool X, .bool Wt] 35)).alloc (.cells #[.slice none 0 0, .slice none 0 0, .int .u64 0] 29) = w1 at *
  have d2 := QAa.out.cell (i := 2) rfl
  go_wp2_with fail
  refine (lawMadeNew_any pa Q pc w1 (HQS.out.gr QGa.out) (HEE.out.gr QGa.out)).mono ?_
  rintro e w5 ⟨ma, mc, rfl, hms, hg5, hmn⟩
  have hsz1 : w.heap.size + 1 + 1 < w1.heap.size := QRa.out.lt
  have hg6 := hg5.trans ((Gr.refl w5).alloc (.cells #[.string (ptext (madeL Q))] 40))
  have QB := Lib.hid (QBa.out.gr hg6)
  have QA := Lib.hid (QAa.out.gr hg6)
  have QR := Lib.hid (QRa.out.gr hg6)
  have QG := Lib.hid (QGa.out.trans hg6)
  have QP := Lib.hid (Blk.new w5 #[.string (ptext (madeL Q))] 40)
  have HMS := Lib.hid (hms.gr ((Gr.refl w5).alloc (.cells #[.string (ptext (madeL Q))] 40)))
  have HMN := Lib.hid (show ∀ g o s, ma = some ⟨g, o, s⟩ → w.heap.size + 1 + 1 < g from fun g o s e => by have := hmn g o s e; omega)
  have HPQ := Lib.hid (made_path22 Q)
  have HPO := Lib.hid (pof_made Q)
  have hcp : w.heap.size + 1 + 1 < w5.heap.size := by have := hg5.size; omega
  clear hms hg5 hmn hg6 QBa QAa QRa QGa d2 HQS HEE
  go_upto_region 2 with fail
  generalize w5.alloc (.cells #[.string (ptext (madeL Q))] 40) = w6 at *
  generalize w5.heap.size = cp at *
  generalize ptext (madeL Q) = P at *
  generalize madeL Q = MQ at *
  have d1 := QA.out.cell (i := 1) rfl
  go_upto_region 3 with fail
  rw [hs2]
  clear d1 hs2
  have HD6 := Lib.hid (HD.out.gr QG.out)
  have d0 := QA.out.cell (i := 0) rfl
  go_upto_region 11 with fail
  clear d0
  have p0 := QP.out.cell (i := 0) rfl
  go_wp2_with fail
  refine (brel_any s P w6 HD6.out.bk (by have := HLE.out; omega) HD6.out.rel.last HMM.out HD6.out.rel.pre.srt HD6.out.rel.pathH HD6.out.rel.pathW).mono ?_
  rintro e w7 ⟨v3, rfl, hr3, ht⟩
  obtain ⟨a3, c3, rfl, _⟩ := ownsRow_slice hr3
  obtain ⟨u1, u2, hk, hF, f1, f2⟩ := ht
  have hpast := HD6.out.past hF f1 f2
  have HKB := Lib.hid hk
  have HFF := Lib.hid (And.intro hF (And.intro f1 f2))
  have HPS := Lib.hid hpast
  have B7 := Lib.hid (QB.out.far22 hF (by omega) (fun e => by have := HV1.out _ e; omega) (fun e => by have := HV2.out _ e; omega))
  have A7 := Lib.hid (QA.out.far22 hF (by omega) (fun e => by have := HV1.out _ e; omega) (fun e => by have := HV2.out _ e; omega))
  have R7 := Lib.hid (QR.out.far22 hF (by omega) (fun e => by have := HV1.out _ e; omega) (fun e => by have := HV2.out _ e; omega))
  have P7 := Lib.hid (QP.out.far22 hF (by omega) (fun e => by have := HV1.out _ e; omega) (fun e => by have := HV2.out _ e; omega))
  have hmw7 := Lib.hid (HMM.out.gr hk.grown)
  clear hk hF f1 f2 hpast
  have HR3 := Lib.hid hr3
  have hre := rel_rel2 HD6.out.rel s HPQ.out
  rw [HPO.out] at hre
  have HOF0 := relR_all (P := offX w7 b u1 u2) (fun x t h => offX_tokd x t h) (H := H) (W := W) (last := B.last) (s := s) (p := MQ) (fun x hx => HPS.out.2.2.2 x (List.mem_append.2 (.inl hx))) (fun x hx => HPS.out.2.2.2 x (List.mem_append.2 (.inr hx)))
  have hms := (HPS.out.2.2.1 ⟨0, MQ, ma, mc, false, 0⟩ HMS.out (off_new HMS.out hbw HV1.out HV2.out (fun g o s9 e9 => by have := HMN.out g o s9 e9; omega))).1
  obtain ⟨rq, hr⟩ : ∃ r, relRes H W B.last s MQ = r := ⟨_, rfl⟩
  rw [hr] at hre HOF0
  obtain ⟨r, code⟩ := rq
  simp only at hre HOF0
  have HRE := Lib.hid hre.2
  have HCO := Lib.hid hre.1
  have HRR := Lib.hid hr
  have HMS7 := Lib.hid (hms : Strs w7 ma MQ)
  have HOF := Lib.hid (show ∀ x ∈ r.1 ++ r.2.2.2, offX w7 b u1 u2 x from fun x hx => by
    rcases List.mem_append.1 hx with hx | hx
    · exact HOF0.1 x hx
    · exact HOF0.2 x hx)
  rw [HCO.out]
  clear hr3 hre hr HOF0 p0 hms
  have b0 := B7.out.cell (i := 0) rfl
  have b1 := B7.out.cell (i := 1) rfl
  have b2 := B7.out.cell (i := 2) rfl
  go_upto_region 12 with fail
  go_wp2_with fail
  refine (refRelease_any H W s MQ ma mc w7 HPS.out.1 HPS.out.2.1 (by have := HLE.out; omega) HD6.out.rel.last HMS7.out).mono ?_
  rw [HRR.out]
  rintro e w8 ⟨z1, z2, z3, rfl, hp8, hg8⟩
  obtain ⟨a6, c6, rfl, _⟩ := ownsRow_slice hp8.h.1
  obtain ⟨a7, c7, rfl, _⟩ := ownsRow_slice hp8.w.1
  obtain ⟨a8, c8, rfl, _⟩ := ownsRow_slice hp8.o.1
  have hg9 := (Gr.refl w8).alloc (.cells #[.slice a6 r.1.length c6, .slice a7 r.2.2.2.length c7, .int .u64 r.2.1] 29)
  have P9 := Lib.hid (hp8.gr hg9)
  have HG79 := Lib.hid (hg8.trans hg9)
  have N9 := Lib.hid (Blk.new w8 #[.slice a6 r.1.length c6, .slice a7 r.2.2.2.length c7, .int .u64 r.2.1] 29)
  have R9 := Lib.hid (R7.out.gr HG79.out)
  have HR39 := Lib.hid (ownsRow_gr HG79.out HR3.out)
  have hc9 : w.heap.size + 1 + 1 < w8.heap.size := by have := R7.out.lt; have := hg8.size; omega
  have HAL : Hid (∀ w', Gr (w8.alloc (.cells #[.slice a6 r.1.length c6, .slice a7 r.2.2.2.length c7, .int .u64 r.2.1] 29)) w' → Calls Tryz.prog 27 #[.slice a3 (relB B s P).2.1.length c3, .slice a8 r.2.2.1.length c8] w' fun e w'' => e = .returned (.bool true) ∧ Gr w' w'') := Lib.hid fun w' hg => allX_any (relB B s P).2.1 r.2.2.1 w' (ownsRow_gr hg HR39.out) (P9.out.o.gr hg) HRE.out.out HRE.out.path (hmw7.out.gr (HG79.out.trans hg)) (Nat.le_trans HRE.out.len (by omega))
  clear hp8 hg8 hg9 b0 b1 b2 HR3
  go_upto_region 13 with fail
  generalize w8.alloc (.cells #[.slice a6 r.1.length c6, .slice a7 r.2.2.2.length c7, .int .u64 r.2.1] 29) = w9 at *
  generalize w8.heap.size = c9 at *
  have n0 := N9.out.cell (i := 0) rfl
  have n1 := N9.out.cell (i := 1) rfl
  have n2 := N9.out.cell (i := 2) rfl
  go_wp2_with fail
  refine wp_region_held_drew (S := (fun w0 => w0.cell? ⟨c9, 0, none⟩ = some (.slice a6 r.1.length c6) ∧ w0.cell? ⟨c9, 1, none⟩ = some (.slice a7 r.2.2.2.length c7) ∧ w0.cell? ⟨c9, 2, none⟩ = some (.int .u64 r.2.1))) (by kernel_rfl) ?invr (fun h0 => ?_)
  case invr => ((try dsimp only); (exact ⟨n0, n1, n2⟩))
  refine wpAnyH_take (i := 0) (oi := { dst := some 113, op := Go.Op.load 29 (Go.Operand.tmp 20), type := 29, pos := "law.go:102", after := #[], guard := none }) (v := ?vr1) rfl (by kernel_rfl) (by kernel_rfl) (by kernel_rfl) (fun _ _ _ h => h) (Or.inl ⟨by rfl, ?rr1⟩) (by assumption) ?_
  case rr1 => (intro w hSw; (try dsimp only at hSw); (go_simp <;> with_reducible rfl))
  try simp only [Act.put, List.setIfInBounds_toArray, List.set_cons_zero, List.set_cons_succ]
  refine wpAnyH_take (i := 1) (oi := { dst := some 114, op := Go.Op.move (Go.Operand.tmp 19), type := 49, pos := "law.go:102", after := #[], guard := none }) (v := ?vr2) rfl (by kernel_rfl) (by kernel_rfl) (by kernel_rfl) (fun _ _ _ h => h) (Or.inl ⟨by rfl, ?rr2⟩) (by assumption) ?_
  case rr2 => (intro w hSw; (try dsimp only at hSw); (go_simp <;> with_reducible rfl))
  try simp only [Act.put, List.setIfInBounds_toArray, List.set_cons_zero, List.set_cons_succ]
  refine wpAnyH_take (i := 2) (oi := { dst := some 115, op := Go.Op.move (Go.Operand.tmp 22), type := 3, pos := "law.go:102", after := #[], guard := none }) (v := ?vr3) rfl (by kernel_rfl) (by kernel_rfl) (by kernel_rfl) (fun _ _ _ h => h) (Or.inl ⟨by rfl, ?rr3⟩) (by assumption) ?_
  case rr3 => (intro w hSw; (try dsimp only at hSw); (go_simp <;> with_reducible rfl))
  try simp only [Act.put, List.setIfInBounds_toArray, List.set_cons_zero, List.set_cons_succ]
  refine wpAnyH_take (i := 3) (oi := { dst := some 116, op := Go.Op.binOp Go.BinOp.eql 3 (Go.Operand.tmp 114) (Go.Operand.tmp 115) 3, type := 4, pos := "law.go:102", after := #[⟨1, .data⟩, ⟨2, .data⟩], guard := none }) (v := ?vr4) rfl (by kernel_rfl) (by kernel_rfl) (by kernel_rfl) (fun _ _ _ h => h) (Or.inl ⟨by rfl, ?rr4⟩) (by assumption) ?_
  case rr4 => (intro w hSw; (try dsimp only at hSw); (go_simp <;> with_reducible rfl))
  try simp only [Act.put, List.setIfInBounds_toArray, List.set_cons_zero, List.set_cons_succ]
  refine wpAnyH_take (i := 4) (oi := { dst := some 117, op := Go.Op.move (Go.Operand.tmp 116), type := 4, pos := "law.go:102", after := #[⟨3, .data⟩], guard := none }) (v := ?vr5) rfl (by kernel_rfl) (by kernel_rfl) (by kernel_rfl) (fun _ _ _ h => h) (Or.inl ⟨by rfl, ?rr5⟩) (by assumption) ?_
  case rr5 => (intro w hSw; (try dsimp only at hSw); (go_simp <;> with_reducible rfl))
  try simp only [Act.put, List.setIfInBounds_toArray, List.set_cons_zero, List.set_cons_succ]
  refine wpAnyH_take (i := 5) (oi := { dst := some 118, op := Go.Op.move (Go.Operand.tmp 18), type := 37, pos := "law.go:102", after := #[⟨4, .guard⟩], guard := some (4, true) }) (v := ?vr6) rfl (by kernel_rfl) (by kernel_rfl) (by kernel_rfl) (fun _ _ _ h => h) (Or.inl ⟨by rfl, ?rr6⟩) (by assumption) ?_
  case rr6 => (intro w hSw; (try dsimp only at hSw); (go_simp <;> with_reducible rfl))
  try simp only [Act.put, List.setIfInBounds_toArray, List.set_cons_zero, List.set_cons_succ]
  refine wpAnyH_take (i := 6) (oi := { dst := some 119, op := Go.Op.move (Go.Operand.tmp 21), type := 27, pos := "law.go:102", after := #[⟨4, .guard⟩], guard := some (4, true) }) (v := ?vr7) rfl (by kernel_rfl) (by kernel_rfl) (by kernel_rfl) (fun _ _ _ h => h) (Or.inl ⟨by rfl, ?rr7⟩) (by assumption) ?_
  case rr7 => (intro w hSw; (try dsimp only at hSw); (go_simp <;> with_reducible rfl))
  try simp only [Act.put, List.setIfInBounds_toArray, List.set_cons_zero, List.set_cons_succ]
  refine wpAnyH_ready (rs := [7]) (by kernel_rfl) (by simp) ?_
  refine AllReadyH.cons (o := { dst := some 120, op := Go.Op.call { callee := Go.Callee.value (Go.Operand.func 27), args := #[Go.Operand.tmp 118, Go.Operand.tmp 119], argTypes := #[37, 27] }, type := 4, pos := "law.go:102", after := #[⟨5, .data⟩, ⟨6, .data⟩, ⟨4, .chain⟩, ⟨4, .guard⟩], guard := some (4, true) }) rfl (fun K hK => ?_) AllReadyH.nil
  go_simp
  go_at_call 27
  refine (HAL.out _ (by first | exact Gr.refl _ | exact (Gr.refl _).drew)).mono ?_
  rintro e wa ⟨rfl, hga⟩
  have HGA := Lib.hid (show Gr w9 wa from by first | exact hga | exact (Gr.refl _).drew.trans hga)
  have RA := Lib.hid (R9.out.gr HGA.out)
  have q0 := RA.out.cell (i := 0) rfl
  have q1 := RA.out.cell (i := 1) rfl
  have q2 := RA.out.cell (i := 2) rfl
  have k0 := RA.out.free 0
  have k1 := RA.out.free 1
  have k2 := RA.out.free 2
  have K9 := Lib.hid (N9.out.gr HGA.out)
  have K0 := Lib.hid (((K9.out.other (c := w.heap.size + 1 + 1) (by omega) 0 (.slice a6 r.1.length c6)).other (c := w.heap.size + 1 + 1) (by omega) 1 (.slice a7 r.2.2.2.length c7)).other (c := w.heap.size + 1 + 1) (by omega) 2 (.int .u64 r.2.1))
  first | refine hK.out _ _ ?sr8 (fun h8 => ?_) | (go_wp2_with fail; refine hK.out _ _ ?sr8 (fun h8 => ?_))
  case sr8 => ((try dsimp only); (exact ⟨K9.out.cell (i := 0) rfl, K9.out.cell (i := 1) rfl, K9.out.cell (i := 2) rfl⟩))
  clear hK K h0
  try simp only [Act.put, List.setIfInBounds_toArray, List.set_cons_zero, List.set_cons_succ]
  refine wpAnyH_take (i := 8) (oi := { dst := some 121, op := Go.Op.pick (Go.Operand.tmp 117) (Go.Operand.tmp 120) (Go.Operand.const (Go.Value.bool false)), type := 4, pos := "law.go:102", after := #[⟨4, .data⟩, ⟨7, .data⟩, ⟨9, .gcOnly .lateStores⟩], guard := none }) (v := ?vr9) rfl (by kernel_rfl) (by kernel_rfl) (by kernel_rfl) (fun _ _ _ h => h) (Or.inl ⟨by rfl, ?rr9⟩) (by assumption) ?_
  case rr9 => (intro w hSw; (try dsimp only at hSw); (go_simp <;> with_reducible rfl))
  try simp only [Act.put, List.setIfInBounds_toArray, List.set_cons_zero, List.set_cons_succ]
  refine wpAnyH_ready (rs := [9]) (by kernel_rfl) (by simp) ?_
  refine AllReadyH.cons (o := { dst := none, op := Go.Op.store 29 (Go.Operand.tmp 6) (Go.Operand.tmp 113), type := 0, pos := "law.go:102", after := #[⟨0, .data⟩, ⟨7, .chain⟩, ⟨0, .phase⟩, ⟨1, .textOnly .lateStores⟩, ⟨2, .textOnly .lateStores⟩, ⟨3, .textOnly .lateStores⟩, ⟨4, .textOnly .lateStores⟩, ⟨5, .textOnly .lateStores⟩, ⟨6, .textOnly .lateStores⟩, ⟨7, .textOnly .lateStoresUnsure⟩, ⟨8, .textOnly .lateStores⟩], guard := none }) rfl (fun K hK => ?_) AllReadyH.nil
  go_simp
  skip
  first | refine hK.out _ _ ?sr10 (fun h10 => ?_) | (go_wp2_with fail; refine hK.out _ _ ?sr10 (fun h10 => ?_))
  case sr10 => ((try dsimp only); (exact ⟨K0.out.cell (i := 0) rfl, K0.out.cell (i := 1) rfl, K0.out.cell (i := 2) rfl⟩))
  clear hK K h8
  try simp only [Act.put, List.setIfInBounds_toArray, List.set_cons_zero, List.set_cons_succ]
  refine wpAnyH_take (i := 10) (oi := { dst := some 7, op := Go.Op.assign (Go.Operand.tmp 121), type := 4, pos := "law.go:102", after := #[⟨8, .data⟩, ⟨9, .chain⟩, ⟨0, .phase⟩, ⟨1, .phase⟩, ⟨2, .phase⟩, ⟨3, .phase⟩, ⟨4, .phase⟩, ⟨5, .phase⟩, ⟨6, .phase⟩, ⟨7, .phase⟩, ⟨8, .phase⟩, ⟨9, .phase⟩], guard := none }) (v := ?vr11) rfl (by kernel_rfl) (by kernel_rfl) (by kernel_rfl) (fun _ _ _ h => h) (Or.inl ⟨by rfl, ?rr11⟩) (by assumption) ?_
  case rr11 => (intro w hSw; (try dsimp only at hSw); (go_simp <;> with_reducible rfl))
  try simp only [Act.put, List.setIfInBounds_toArray, List.set_cons_zero, List.set_cons_succ]
  refine wpAnyH_done (by kernel_rfl) ?_ _
  go_wp2
  refine bodyPost_ret (v := .tuple #[.agg #[.slice a6 r.1.length c6, .slice a7 r.2.2.2.length c7, .int .u64 r.2.1], .bool true]) (by simp [results, Tryz.results10, go_sem, q0, q1, q2, k0, k1, k2]; try rfl) rfl ?_
  have hE := do_end HD6.out QG.out HV1.out HV2.out hbw HFF.out.1 HFF.out.2.1 HFF.out.2.2 HKB.out HRE.out.rel (HG79.out.trans HGA.out) (t := r.2.1) (P9.out.h.gr HGA.out) (RRow22.low (P9.out.w.gr HGA.out)) (fun x hx => HOF.out x hx) RA.out (by omega) (by have := QR.out.lt; omega)
  exact ⟨_, _, _, _, _, _, by rw [HRE.out.last], hE⟩

end Go.Proofs.YtmgpnpmdmelnkaaGreatDoor
namespace Go.Proofs.YtmgpnpmdmelnkaaGreatDoor
open Go.ChangeShapes Go.WideShapes Go.ChangeAt Go.RowKit
set_option linter.unusedVariables false
set_option linter.unusedSimpArgs false
set_option maxRecDepth 100000 in
set_option maxHeartbeats 8000000 in
theorem doN_any {w0 : World} {b n : Nat} {v1 v2 vH vW : Value} {t0 : Int} {B : Bk} (H W : List RL) (S : Int) (Q : List ByteArray) (pa : Option Addr) (pc : Nat) (X Wt : Bool) (w : World) (hd : Doc22 w0 w b v1 v2 t0 n B vH vW H W) (hq : Strs w pa Q) (hn : n ≤ 200) (hM : ML w0) (hE : ET w0) (K : Int) (h0 : K ≠ 0) (h1 : K ≠ 1) (h2 : K ≠ 2) :
    Calls Tryz.prog 10 #[.pointer (some ⟨b, 0, none⟩), .agg #[vH, vW, .int .u64 B.last], .agg #[.int .i64 K, .int .i64 S, .slice pa Q.length pc, .bool X, .bool Wt]] w (DoIs w0 w b v1 v2 t0 (n) (B)) := by
  have HD := Lib.hid hd
  have HQS := Lib.hid hq
  obtain ⟨s, hs⟩ : ∃ s, sesOf S = s := ⟨_, rfl⟩
  obtain ⟨hs1, hs9⟩ := sesOf_in S
  rw [hs] at hs1 hs9
  try rw [hs]
  have hs2 : wrap64 (1 + (bits .and .i64 S 255).tmod 9) = s := hs
  have HV1 := Lib.hid (show ∀ k, v1.ownBlock = some k → k < w.heap.size from fun k e => (hd.bk.r1.lt k e).2)
  have HV2 := Lib.hid (show ∀ k, v2.ownBlock = some k → k < w.heap.size from fun k e => (hd.bk.r2.lt k e).2)
  have hbw : b < w.heap.size := hd.bk.blk.lt
  obtain ⟨aH, cH, rfl, _⟩ := ownsRow_slice hd.rH.1
  obtain ⟨aW, cW, rfl, _⟩ := ownsRow_slice hd.rW.1
  have HMM := Lib.hid hM
  have HEE := Lib.hid (hE.gr hd.bk.grown)
  have HMW := Lib.hid (hM.gr hd.bk.grown)
  have HLE := Lib.hid (show B.H.length + B.W.length ≤ n ∧ H.length = B.H.length ∧ W.length = B.W.length from ⟨hd.rel.len, hd.rel.lenH.symm, hd.rel.lenW.symm⟩)
  have z1 : ∀ (w : World) (o : Obj), (w.alloc o).heap.size = w.heap.size + 1 := fun w o => by simp
  have QBa := Lib.hid (((Blk.new w #[.slice aH H.length cH, .slice aW W.length cW, .int .u64 B.last] 29).gr ((Gr.refl _).alloc (.cells #[.int .i64 K, .int .i64 S, .slice pa Q.length pc, .bool X, .bool Wt] 35))).gr ((Gr.refl _).alloc (.cells #[.slice none 0 0, .slice none 0 0, .int .u64 0] 29)))
  have QAa := Lib.hid ((Blk.new (w.alloc (.cells #[.slice aH H.length cH, .slice aW W.length cW, .int .u64 B.last] 29)) #[.int .i64 K, .int .i64 S, .slice pa Q.length pc, .bool X, .bool Wt] 35).gr ((Gr.refl _).alloc (.cells #[.slice none 0 0, .slice none 0 0, .int .u64 0] 29)))
  have QRa := Lib.hid (Blk.new ((w.alloc (.cells #[.slice aH H.length cH, .slice aW W.length cW, .int .u64 B.last] 29)).alloc (.cells #[.int .i64 K, .int .i64 S, .slice pa Q.length pc, .bool X, .bool Wt] 35)) #[.slice none 0 0, .slice none 0 0, .int .u64 0] 29)
  have QGa := Lib.hid ((((Gr.refl w).alloc (.cells #[.slice aH H.length cH, .slice aW W.length cW, .int .u64 B.last] 29)).alloc (.cells #[.int .i64 K, .int .i64 S, .slice pa Q.length pc, .bool X, .bool Wt] 35)).alloc (.cells #[.slice none 0 0, .slice none 0 0, .int .u64 0] 29))
  simp only [z1] at QAa QRa
  clear z1 hd hq hM hE hs
  go_enter Tryz.func10, Tryz.ntmps10
  go_upto_region 1 with fail
  generalize ((w.alloc (.cells #[.slice aH H.length cH, .slice aW W.length cW, .int .u64 B.last] 29)).alloc (.cells #[.int .i64 K, .int .i64 S, .slice pa Q.length pc, .bool X, .bool Wt] 35)).alloc (.cells #[.slice none 0 0, .slice none 0 0, .int .u64 0] 29) = w1 at *
  have d2 := QAa.out.cell (i := 2) rfl
  go_wp2_with fail
  refine (lawMadeNew_any pa Q pc w1 (HQS.out.gr QGa.out) (HEE.out.gr QGa.out)).mono ?_
  rintro e w5 ⟨ma, mc, rfl, hms, hg5, hmn⟩
  have hsz1 : w.heap.size + 1 + 1 < w1.heap.size := QRa.out.lt
  have hg6 := hg5.trans ((Gr.refl w5).alloc (.cells #[.string (ptext (madeL Q))] 40))
  have QB := Lib.hid (QBa.out.gr hg6)
  have QA := Lib.hid (QAa.out.gr hg6)
  have QR := Lib.hid (QRa.out.gr hg6)
  have QG := Lib.hid (QGa.out.trans hg6)
  have QP := Lib.hid (Blk.new w5 #[.string (ptext (madeL Q))] 40)
  have HMS := Lib.hid (hms.gr ((Gr.refl w5).alloc (.cells #[.string (ptext (madeL Q))] 40)))
  have HMN := Lib.hid (show ∀ g o s, ma = some ⟨g, o, s⟩ → w.heap.size + 1 + 1 < g from fun g o s e => by have := hmn g o s e; omega)
  have HPQ := Lib.hid (made_path22 Q)
  have HPO := Lib.hid (pof_made Q)
  have hcp : w.heap.size + 1 + 1 < w5.heap.size := by have := hg5.size; omega
  clear hms hg5 hmn hg6 QBa QAa QRa QGa d2 HQS HEE
  go_upto_region 2 with fail
  generalize w5.alloc (.cells #[.string (ptext (madeL Q))] 40) = w6 at *
  generalize w5.heap.size = cp at *
  generalize ptext (madeL Q) = P at *
  generalize madeL Q = MQ at *
  have d1 := QA.out.cell (i := 1) rfl
  go_upto_region 3 with fail
  rw [hs2]
  clear d1 hs2
  have HD6 := Lib.hid (HD.out.gr QG.out)
  have d0 := QA.out.cell (i := 0) rfl
  have e0 : (K == 0) = false := by simpa using h0
  have e1 : (K == 1) = false := by simpa using h1
  have e2 : (K == 2) = false := by simpa using h2
  clear h0 h1 h2
  have b0 := QB.out.cell (i := 0) rfl
  have b1 := QB.out.cell (i := 1) rfl
  have b2 := QB.out.cell (i := 2) rfl
  have q0 := QR.out.cell (i := 0) rfl
  have q1 := QR.out.cell (i := 1) rfl
  have q2 := QR.out.cell (i := 2) rfl
  have k0 := QR.out.free 0
  have k1 := QR.out.free 1
  have k2 := QR.out.free 2
  go_wp2
  refine bodyPost_ret (v := .tuple #[.agg #[.slice aH H.length cH, .slice aW W.length cW, .int .u64 B.last], .bool true]) (by simp [results, Tryz.results10, go_sem, q0, q1, q2, k0, k1, k2]; try rfl) rfl ?_
  have hE := do_end HD6.out QG.out HV1.out HV2.out hbw (Far2.refl _ _ _ _) (From.refl _ _) (From.refl _ _) HD6.out.bk HD6.out.rel (Gr.refl _) (t := B.last) HD6.out.rH HD6.out.rW HD6.out.off QR.out (by omega) QR.out.lt
  exact ⟨_, _, _, _, _, _, rfl, hE⟩
set_option maxRecDepth 100000 in
set_option maxHeartbeats 8000000 in
theorem do0_any {w0 : World} {b n : Nat} {v1 v2 vH vW : Value} {t0 : Int} {B : Bk} (H W : List RL) (S : Int) (Q : List ByteArray) (pa : Option Addr) (pc : Nat) (X Wt : Bool) (w : World) (hd : Doc22 w0 w b v1 v2 t0 n B vH vW H W) (hq : Strs w pa Q) (hn : n ≤ 200) (hM : ML w0) (hE : ET w0) :
    Calls Tryz.prog 10 #[.pointer (some ⟨b, 0, none⟩), .agg #[vH, vW, .int .u64 B.last], .agg #[.int .i64 0, .int .i64 S, .slice pa Q.length pc, .bool X, .bool Wt]] w (DoIs w0 w b v1 v2 t0 (n + 1) ((acqB B (clr ⟨sesOf S, ptext (madeL Q), X, 7⟩) Wt).1)) := by
  have HD := Lib.hid hd
  have HQS := Lib.hid hq
  obtain ⟨s, hs⟩ : ∃ s, sesOf S = s := ⟨_, rfl⟩
  obtain ⟨hs1, hs9⟩ := sesOf_in S
  rw [hs] at hs1 hs9
  try rw [hs]
  have hs2 : wrap64 (1 + (bits .and .i64 S 255).tmod 9) = s := hs
  have HV1 := Lib.hid (show ∀ k, v1.ownBlock = some k → k < w.heap.size from fun k e => (hd.bk.r1.lt k e).2)
  have HV2 := Lib.hid (show ∀ k, v2.ownBlock = some k → k < w.heap.size from fun k e => (hd.bk.r2.lt k e).2)
  have hbw : b < w.heap.size := hd.bk.blk.lt
  obtain ⟨aH, cH, rfl, _⟩ := ownsRow_slice hd.rH.1
  obtain ⟨aW, cW, rfl, _⟩ := ownsRow_slice hd.rW.1
  have HMM := Lib.hid hM
  have HEE := Lib.hid (hE.gr hd.bk.grown)
  have HMW := Lib.hid (hM.gr hd.bk.grown)
  have HLE := Lib.hid (show B.H.length + B.W.length ≤ n ∧ H.length = B.H.length ∧ W.length = B.W.length from ⟨hd.rel.len, hd.rel.lenH.symm, hd.rel.lenW.symm⟩)
  have z1 : ∀ (w : World) (o : Obj), (w.alloc o).heap.size = w.heap.size + 1 := fun w o => by simp
  have QBa := Lib.hid (((Blk.new w #[.slice aH H.length cH, .slice aW W.length cW, .int .u64 B.last] 29).gr ((Gr.refl _).alloc (.cells #[.int .i64 0, .int .i64 S, .slice pa Q.length pc, .bool X, .bool Wt] 35))).gr ((Gr.refl _).alloc (.cells #[.slice none 0 0, .slice none 0 0, .int .u64 0] 29)))
  have QAa := Lib.hid ((Blk.new (w.alloc (.cells #[.slice aH H.length cH, .slice aW W.length cW, .int .u64 B.last] 29)) #[.int .i64 0, .int .i64 S, .slice pa Q.length pc, .bool X, .bool Wt] 35).gr ((Gr.refl _).alloc (.cells #[.slice none 0 0, .slice none 0 0, .int .u64 0] 29)))
  have QRa := Lib.hid (Blk.new ((w.alloc (.cells #[.slice aH H.length cH, .slice aW W.length cW, .int .u64 B.last] 29)).alloc (.cells #[.int .i64 0, .int .i64 S, .slice pa Q.length pc, .bool X, .bool Wt] 35)) #[.slice none 0 0, .slice none 0 0, .int .u64 0] 29)
  have QGa := Lib.hid ((((Gr.refl w).alloc (.cells #[.slice aH H.length cH, .slice aW W.length cW, .int .u64 B.last] 29)).alloc (.cells #[.int .i64 0, .int .i64 S, .slice pa Q.length pc, .bool X, .bool Wt] 35)).alloc (.cells #[.slice none 0 0, .slice none 0 0, .int .u64 0] 29))
  simp only [z1] at QAa QRa
  clear z1 hd hq hM hE hs
  go_enter Tryz.func10, Tryz.ntmps10
  go_upto_region 1 with fail
  generalize ((w.alloc (.cells #[.slice aH H.length cH, .slice aW W.length cW, .int .u64 B.last] 29)).alloc (.cells #[.int .i64 0, .int .i64 S, .slice pa Q.length pc, .bool X, .bool Wt] 35)).alloc (.cells #[.slice none 0 0, .slice none 0 0, .int .u64 0] 29) = w1 at *
  have d2 := QAa.out.cell (i := 2) rfl
  go_wp2_with fail
  refine (lawMadeNew_any pa Q pc w1 (HQS.out.gr QGa.out) (HEE.out.gr QGa.out)).mono ?_
  rintro e w5 ⟨ma, mc, rfl, hms, hg5, hmn⟩
  have hsz1 : w.heap.size + 1 + 1 < w1.heap.size := QRa.out.lt
  have hg6 := hg5.trans ((Gr.refl w5).alloc (.cells #[.string (ptext (madeL Q))] 40))
  have QB := Lib.hid (QBa.out.gr hg6)
  have QA := Lib.hid (QAa.out.gr hg6)
  have QR := Lib.hid (QRa.out.gr hg6)
  have QG := Lib.hid (QGa.out.trans hg6)
  have QP := Lib.hid (Blk.new w5 #[.string (ptext (madeL Q))] 40)
  have HMS := Lib.hid (hms.gr ((Gr.refl w5).alloc (.cells #[.string (ptext (madeL Q))] 40)))
  have HMN := Lib.hid (show ∀ g o s, ma = some ⟨g, o, s⟩ → w.heap.size + 1 + 1 < g from fun g o s e => by have := hmn g o s e; omega)
  have HPQ := Lib.hid (made_path22 Q)
  have HPO := Lib.hid (pof_made Q)
  have hcp : w.heap.size + 1 + 1 < w5.heap.size := by have := hg5.size; omega
  clear hms hg5 hmn hg6 QBa QAa QRa QGa d2 HQS HEE
  go_upto_region 2 with fail
  generalize w5.alloc (.cells #[.string (ptext (madeL Q))] 40) = w6 at *
  generalize w5.heap.size = cp at *
  generalize ptext (madeL Q) = P at *
  generalize madeL Q = MQ at *
  have d1 := QA.out.cell (i := 1) rfl
  go_upto_region 3 with fail
  rw [hs2]
  clear d1 hs2
  have HD6 := Lib.hid (HD.out.gr QG.out)
  have d0 := QA.out.cell (i := 0) rfl
  have hre := rel_acq HD6.out.rel (x := ⟨s, P, X, 7⟩) (y := ⟨s, MQ, ma, mc, X, 0⟩) HPQ.out ⟨hs1, hs9⟩ rfl HPO.out.symm rfl Wt
  have hA : ∃ a, acqB B (clr ⟨s, P, X, 7⟩) Wt = a := ⟨_, rfl⟩
  obtain ⟨a, ha⟩ := hA
  obtain ⟨rr, hr⟩ : ∃ r, acqR H W B.last ⟨s, MQ, ma, mc, X, 0⟩ Wt = r := ⟨_, rfl⟩
  rw [ha, hr] at hre
  obtain ⟨B2, y, pl, er⟩ := a
  obtain ⟨H2, W2, lt, z, pk, fn⟩ := rr
  obtain rfl : fn = er := hre.err.symm
  have HRE := Lib.hid hre
  have HA := Lib.hid ha
  have HRR := Lib.hid hr
  clear hre ha hr
  have p0 := QP.out.cell (i := 0) rfl
  have x3 := QA.out.cell (i := 3) rfl
  have x4 := QA.out.cell (i := 4) rfl
  go_upto_region 5 with fail
  clear d0
  go_wp2_with fail
  refine (bacq_any ⟨s, P, X, 7⟩ Wt w6 HD6.out.bk (by have := HLE.out; omega) HD6.out.rel.last HMM.out HD6.out.rel.pre.srt HPQ.out HD6.out.rel.pathH HD6.out.rel.pathW).mono ?_
  rw [HA.out]
  rintro e w7 ⟨rfl, ht⟩
  obtain ⟨u1, u2, hk, hF, f1, f2⟩ := ht
  have hpast := HD6.out.past hF f1 f2
  have HKB := Lib.hid hk
  have HFF := Lib.hid (And.intro hF (And.intro f1 f2))
  have HPS := Lib.hid hpast
  have B7 := Lib.hid (QB.out.far22 hF (by omega) (fun e => by have := HV1.out _ e; omega) (fun e => by have := HV2.out _ e; omega))
  have A7 := Lib.hid (QA.out.far22 hF (by omega) (fun e => by have := HV1.out _ e; omega) (fun e => by have := HV2.out _ e; omega))
  have R7 := Lib.hid (QR.out.far22 hF (by omega) (fun e => by have := HV1.out _ e; omega) (fun e => by have := HV2.out _ e; omega))
  have P7 := Lib.hid (QP.out.far22 hF (by omega) (fun e => by have := HV1.out _ e; omega) (fun e => by have := HV2.out _ e; omega))
  have hmw7 := Lib.hid (HMM.out.gr hk.grown)
  clear hk hF f1 f2 hpast
  have HFO := Lib.hid (HPS.out.2.2.1 ⟨s, MQ, ma, mc, X, 0⟩ HMS.out (off_new HMS.out hbw HV1.out HV2.out (fun g o s9 e9 => by have := HMN.out g o s9 e9; omega)))
  have HOF0 := acq_all (P := offX w7 b u1 u2) (fun x t h => offX_tokd x t h) (H := H) (W := W) (last := B.last) (x := ⟨s, MQ, ma, mc, X, 0⟩) (wait := Wt) (fun x hx => HPS.out.2.2.2 x (List.mem_append.2 (.inl hx))) (fun x hx => HPS.out.2.2.2 x (List.mem_append.2 (.inr hx))) HFO.out.2
  have HZ0 := acq_lies (w := w7) (last := B.last) (wait := Wt) HPS.out.1.2 HPS.out.2.1.2 HFO.out.1
  rw [HRR.out] at HOF0 HZ0
  have HZL := Lib.hid HZ0
  have HOF := Lib.hid (show ∀ x ∈ H2 ++ W2, offX w7 b u1 u2 x from fun x hx => by
    rcases List.mem_append.1 hx with hx | hx
    · exact HOF0.1 x hx
    · exact HOF0.2 x hx)
  clear HOF0 HZ0 p0 x3 x4
  have hg8 := (Gr.refl w7).alloc (.cells #[.int .i64 y.ses, .string y.txt, .bool y.ex, .int .u64 y.tok] 42)
  have L8 := Lib.hid (Blk.new w7 #[.int .i64 y.ses, .string y.txt, .bool y.ex, .int .u64 y.tok] 42)
  have B8 := Lib.hid (B7.out.gr hg8)
  have A8 := Lib.hid (A7.out.gr hg8)
  have R8 := Lib.hid (R7.out.gr hg8)
  have HG78 := Lib.hid hg8
  have hc8 : w.heap.size + 1 + 1 < w7.heap.size := R7.out.lt
  clear hg8
  go_upto_region 6 with fail
  generalize w7.alloc (.cells #[.int .i64 y.ses, .string y.txt, .bool y.ex, .int .u64 y.tok] 42) = w8 at *
  generalize w7.heap.size = c8 at *
  have b0 := B8.out.cell (i := 0) rfl
  have b1 := B8.out.cell (i := 1) rfl
  have b2 := B8.out.cell (i := 2) rfl
  have x3 := A8.out.cell (i := 3) rfl
  have x4 := A8.out.cell (i := 4) rfl
  go_wp2_with fail
  refine (refAcquire_any H W ⟨s, MQ, ma, mc, X, 0⟩ Wt w8 (HPS.out.1.gr HG78.out) (HPS.out.2.1.gr HG78.out) (HFO.out.1.gr HG78.out : Strs w8 ma MQ) (by have := HLE.out; omega) HD6.out.rel.last).mono ?_
  rw [HRR.out]
  rintro e wx ⟨z1, z2, rfl, hrh, hrw, hgx⟩
  obtain ⟨a6, c6, rfl, _⟩ := ownsRow_slice hrh.1
  obtain ⟨a7, c7, rfl, _⟩ := ownsRow_slice hrw.1
  have hs1' : ∀ (w : World) (o : Obj), (w.alloc o).heap.size = w.heap.size + 1 := fun w o => by simp
  have hg9 := ((Gr.refl wx).alloc (.cells #[.slice a6 H2.length c6, .slice a7 W2.length c7, .int .u64 lt] 29)).alloc (.cells #[.int .i64 z.ses, .slice z.a z.l.length z.c, .bool z.ex, .int .u64 z.tok] 71)
  have RH9 := Lib.hid (hrh.gr hg9)
  have RW9 := Lib.hid (hrw.gr hg9)
  have HG79 := Lib.hid (HG78.out.trans (hgx.trans hg9))
  have NB := Lib.hid ((Blk.new wx #[.slice a6 H2.length c6, .slice a7 W2.length c7, .int .u64 lt] 29).gr ((Gr.refl _).alloc (.cells #[.int .i64 z.ses, .slice z.a z.l.length z.c, .bool z.ex, .int .u64 z.tok] 71)))
  have Z9 := Lib.hid (Blk.new (wx.alloc (.cells #[.slice a6 H2.length c6, .slice a7 W2.length c7, .int .u64 lt] 29)) #[.int .i64 z.ses, .slice z.a z.l.length z.c, .bool z.ex, .int .u64 z.tok] 71)
  rw [hs1'] at Z9
  have L9 := Lib.hid (L8.out.gr (hgx.trans hg9))
  have R9 := Lib.hid (R8.out.gr (hgx.trans hg9))
  have hc9 : c8 < wx.heap.size := by have := L8.out.lt; have := hgx.size; omega
  clear hrh hrw hgx hg9 hs1' b0 b1 b2 x3 x4
  go_upto_region 7 with fail
  generalize (wx.alloc (.cells #[.slice a6 H2.length c6, .slice a7 W2.length c7, .int .u64 lt] 29)).alloc (.cells #[.int .i64 z.ses, .slice z.a z.l.length z.c, .bool z.ex, .int .u64 z.tok] 71) = w9 at *
  generalize wx.heap.size = c9 at *
  by_cases hf : fn = 0
  · skip
    subst hf
    have hy := HRE.out.yes rfl
    simp only at hy
    obtain ⟨hky, hpl, hpy⟩ := hy
    subst hpl
    have HSM : Hid (∀ w', Gr w9 w' → Calls Tryz.prog 25 #[.agg #[.int .i64 y.ses, .string y.txt, .bool y.ex, .int .u64 y.tok], .agg #[.int .i64 z.ses, .slice z.a z.l.length z.c, .bool z.ex, .int .u64 z.tok]] w' fun e w'' => e = .returned (.bool true) ∧ Gr w' w'') := Lib.hid fun w' hg => by
      have h9 := sameX_any y z w' hpy (HZL.out.gr (HG79.out.trans hg)) (hmw7.out.gr (HG79.out.trans hg))
      rwa [sameX_true hky] at h9
    clear hky hpy
    have HSS : Hid ((fun w0 => w0.cell? ⟨c9, 0, none⟩ = some (.slice a6 H2.length c6) ∧ w0.cell? ⟨c9, 1, none⟩ = some (.slice a7 W2.length c7) ∧ w0.cell? ⟨c9, 2, none⟩ = some (.int .u64 lt) ∧ w0.cell? ⟨c8, 0, none⟩ = some (.int .i64 y.ses) ∧ w0.cell? ⟨c8, 1, none⟩ = some (.string y.txt) ∧ w0.cell? ⟨c8, 2, none⟩ = some (.bool y.ex) ∧ w0.cell? ⟨c8, 3, none⟩ = some (.int .u64 y.tok) ∧ w0.cell? ⟨(c9 + 1), 0, none⟩ = some (.int .i64 z.ses) ∧ w0.cell? ⟨(c9 + 1), 1, none⟩ = some (.slice z.a z.l.length z.c) ∧ w0.cell? ⟨(c9 + 1), 2, none⟩ = some (.bool z.ex) ∧ w0.cell? ⟨(c9 + 1), 3, none⟩ = some (.int .u64 z.tok)) w9) := Lib.hid (by exact ⟨NB.out.cell (i := 0) rfl, NB.out.cell (i := 1) rfl, NB.out.cell (i := 2) rfl, L9.out.cell (i := 0) rfl, L9.out.cell (i := 1) rfl, L9.out.cell (i := 2) rfl, L9.out.cell (i := 3) rfl, Z9.out.cell (i := 0) rfl, Z9.out.cell (i := 1) rfl, Z9.out.cell (i := 2) rfl, Z9.out.cell (i := 3) rfl⟩)
    go_upto_region 9 with fail
    go_wp2_with fail
    refine wp_region_held_drew (S := (fun w0 => w0.cell? ⟨c9, 0, none⟩ = some (.slice a6 H2.length c6) ∧ w0.cell? ⟨c9, 1, none⟩ = some (.slice a7 W2.length c7) ∧ w0.cell? ⟨c9, 2, none⟩ = some (.int .u64 lt) ∧ w0.cell? ⟨c8, 0, none⟩ = some (.int .i64 y.ses) ∧ w0.cell? ⟨c8, 1, none⟩ = some (.string y.txt) ∧ w0.cell? ⟨c8, 2, none⟩ = some (.bool y.ex) ∧ w0.cell? ⟨c8, 3, none⟩ = some (.int .u64 y.tok) ∧ w0.cell? ⟨(c9 + 1), 0, none⟩ = some (.int .i64 z.ses) ∧ w0.cell? ⟨(c9 + 1), 1, none⟩ = some (.slice z.a z.l.length z.c) ∧ w0.cell? ⟨(c9 + 1), 2, none⟩ = some (.bool z.ex) ∧ w0.cell? ⟨(c9 + 1), 3, none⟩ = some (.int .u64 z.tok))) (by kernel_rfl) ?invo (fun h0 => ?_)
    case invo => ((try dsimp only); (exact HSS.out))
    refine wpAnyH_take (i := 0) (oi := { dst := some 83, op := Go.Op.load 29 (Go.Operand.tmp 14), type := 29, pos := "law.go:98", after := #[], guard := none }) (v := ?vo1) rfl (by kernel_rfl) (by kernel_rfl) (by kernel_rfl) (fun _ _ _ h => h) (Or.inl ⟨by rfl, ?ro1⟩) (by assumption) ?_
    case ro1 => (intro w hSw; (try dsimp only at hSw); (go_simp <;> with_reducible rfl))
    try simp only [Act.put, List.setIfInBounds_toArray, List.set_cons_zero, List.set_cons_succ]
    refine wpAnyH_take (i := 1) (oi := { dst := some 84, op := Go.Op.move (Go.Operand.tmp 13), type := 49, pos := "law.go:98", after := #[], guard := none }) (v := ?vo2) rfl (by kernel_rfl) (by kernel_rfl) (by kernel_rfl) (fun _ _ _ h => h) (Or.inl ⟨by rfl, ?ro2⟩) (by assumption) ?_
    case ro2 => (intro w hSw; (try dsimp only at hSw); (go_simp <;> with_reducible rfl))
    try simp only [Act.put, List.setIfInBounds_toArray, List.set_cons_zero, List.set_cons_succ]
    refine wpAnyH_take (i := 2) (oi := { dst := some 85, op := Go.Op.binOp Go.BinOp.eql 49 (Go.Operand.tmp 84) (Go.Operand.const (Go.Value.int Go.IntKind.i64 0)) 49, type := 4, pos := "law.go:98", after := #[⟨1, .data⟩], guard := none }) (v := ?vo3) rfl (by kernel_rfl) (by kernel_rfl) (by kernel_rfl) (fun _ _ _ h => h) (Or.inl ⟨by rfl, ?ro3⟩) (by assumption) ?_
    case ro3 => (intro w hSw; (try dsimp only at hSw); (go_simp <;> with_reducible rfl))
    try simp only [Act.put, List.setIfInBounds_toArray, List.set_cons_zero, List.set_cons_succ]
    refine wpAnyH_take (i := 3) (oi := { dst := some 86, op := Go.Op.move (Go.Operand.tmp 85), type := 4, pos := "law.go:98", after := #[⟨2, .data⟩], guard := none }) (v := ?vo4) rfl (by kernel_rfl) (by kernel_rfl) (by kernel_rfl) (fun _ _ _ h => h) (Or.inl ⟨by rfl, ?ro4⟩) (by assumption) ?_
    case ro4 => (intro w hSw; (try dsimp only at hSw); (go_simp <;> with_reducible rfl))
    try simp only [Act.put, List.setIfInBounds_toArray, List.set_cons_zero, List.set_cons_succ]
    refine wpAnyH_take (i := 4) (oi := { dst := some 87, op := Go.Op.move (Go.Operand.tmp 12), type := 3, pos := "law.go:98", after := #[⟨3, .guard⟩], guard := some (3, true) }) (v := ?vo5) rfl (by kernel_rfl) (by kernel_rfl) (by kernel_rfl) (fun _ _ _ h => h) (Or.inl ⟨by rfl, ?ro5⟩) (by assumption) ?_
    case ro5 => (intro w hSw; (try dsimp only at hSw); (go_simp <;> with_reducible rfl))
    try simp only [Act.put, List.setIfInBounds_toArray, List.set_cons_zero, List.set_cons_succ]
    refine wpAnyH_take (i := 5) (oi := { dst := some 88, op := Go.Op.move (Go.Operand.tmp 16), type := 3, pos := "law.go:98", after := #[⟨3, .guard⟩], guard := some (3, true) }) (v := ?vo6) rfl (by kernel_rfl) (by kernel_rfl) (by kernel_rfl) (fun _ _ _ h => h) (Or.inl ⟨by rfl, ?ro6⟩) (by assumption) ?_
    case ro6 => (intro w hSw; (try dsimp only at hSw); (go_simp <;> with_reducible rfl))
    try simp only [Act.put, List.setIfInBounds_toArray, List.set_cons_zero, List.set_cons_succ]
    refine wpAnyH_take (i := 6) (oi := { dst := some 89, op := Go.Op.binOp Go.BinOp.eql 3 (Go.Operand.tmp 87) (Go.Operand.tmp 88) 3, type := 4, pos := "law.go:98", after := #[⟨4, .data⟩, ⟨5, .data⟩, ⟨3, .guard⟩], guard := some (3, true) }) (v := ?vo7) rfl (by kernel_rfl) (by kernel_rfl) (by kernel_rfl) (fun _ _ _ h => h) (Or.inl ⟨by rfl, ?ro7⟩) (by assumption) ?_
    case ro7 => (intro w hSw; (try dsimp only at hSw); (go_simp <;> with_reducible rfl))
    try simp only [Act.put, List.setIfInBounds_toArray, List.set_cons_zero, List.set_cons_succ]
    refine wpAnyH_take (i := 7) (oi := { dst := some 90, op := Go.Op.pick (Go.Operand.tmp 86) (Go.Operand.tmp 89) (Go.Operand.const (Go.Value.bool false)), type := 4, pos := "law.go:98", after := #[⟨3, .data⟩, ⟨6, .data⟩], guard := none }) (v := ?vo8) rfl (by kernel_rfl) (by kernel_rfl) (by kernel_rfl) (fun _ _ _ h => h) (Or.inl ⟨by rfl, ?ro8⟩) (by assumption) ?_
    case ro8 => (intro w hSw; (try dsimp only at hSw); (go_simp <;> with_reducible rfl))
    try simp only [Act.put, List.setIfInBounds_toArray, List.set_cons_zero, List.set_cons_succ]
    refine wpAnyH_take (i := 8) (oi := { dst := some 91, op := Go.Op.move (Go.Operand.tmp 90), type := 4, pos := "law.go:98", after := #[⟨7, .data⟩, ⟨3, .chain⟩], guard := none }) (v := ?vo9) rfl (by kernel_rfl) (by kernel_rfl) (by kernel_rfl) (fun _ _ _ h => h) (Or.inl ⟨by rfl, ?ro9⟩) (by assumption) ?_
    case ro9 => (intro w hSw; (try dsimp only at hSw); (go_simp <;> with_reducible rfl))
    try simp only [Act.put, List.setIfInBounds_toArray, List.set_cons_zero, List.set_cons_succ]
    refine wpAnyH_take (i := 9) (oi := { dst := some 92, op := Go.Op.load 42 (Go.Operand.tmp 11), type := 42, pos := "law.go:98", after := #[⟨8, .guard⟩], guard := some (8, true) }) (v := ?vo10) rfl (by kernel_rfl) (by kernel_rfl) (by kernel_rfl) (fun _ _ _ h => h) (Or.inl ⟨by rfl, ?ro10⟩) (by assumption) ?_
    case ro10 => (intro w hSw; (try dsimp only at hSw); (go_simp <;> with_reducible rfl))
    try simp only [Act.put, List.setIfInBounds_toArray, List.set_cons_zero, List.set_cons_succ]
    refine wpAnyH_take (i := 10) (oi := { dst := some 93, op := Go.Op.load 71 (Go.Operand.tmp 15), type := 71, pos := "law.go:98", after := #[⟨8, .guard⟩], guard := some (8, true) }) (v := ?vo11) rfl (by kernel_rfl) (by kernel_rfl) (by kernel_rfl) (fun _ _ _ h => h) (Or.inl ⟨by rfl, ?ro11⟩) (by assumption) ?_
    case ro11 => (intro w hSw; (try dsimp only at hSw); (go_simp <;> with_reducible rfl))
    try simp only [Act.put, List.setIfInBounds_toArray, List.set_cons_zero, List.set_cons_succ]
    refine wpAnyH_ready (rs := [11]) (by kernel_rfl) (by simp) ?_
    refine AllReadyH.cons (o := { dst := some 94, op := Go.Op.call { callee := Go.Callee.value (Go.Operand.func 25), args := #[Go.Operand.tmp 92, Go.Operand.tmp 93], argTypes := #[42, 71] }, type := 4, pos := "law.go:98", after := #[⟨9, .data⟩, ⟨10, .data⟩, ⟨8, .chain⟩, ⟨8, .guard⟩], guard := some (8, true) }) rfl (fun K hK => ?_) AllReadyH.nil
    go_simp
    go_at_call 25
    refine (HSM.out _ (by first | exact Gr.refl _ | exact (Gr.refl _).drew)).mono ?_
    rintro e wa ⟨rfl, hga⟩
    have HGA := Lib.hid (show Gr w9 wa from by first | exact hga | exact (Gr.refl _).drew.trans hga)
    have RA := Lib.hid (R9.out.gr HGA.out)
    have q0 := RA.out.cell (i := 0) rfl
    have q1 := RA.out.cell (i := 1) rfl
    have q2 := RA.out.cell (i := 2) rfl
    have k0 := RA.out.free 0
    have k1 := RA.out.free 1
    have k2 := RA.out.free 2
    have J0 := Lib.hid (NB.out.gr HGA.out)
    have J1 := Lib.hid (L9.out.gr HGA.out)
    have J2 := Lib.hid (Z9.out.gr HGA.out)
    have K0 := Lib.hid (((J0.out.other (c := w.heap.size + 1 + 1) (by omega) 0 (.slice a6 H2.length c6)).other (c := w.heap.size + 1 + 1) (by omega) 1 (.slice a7 W2.length c7)).other (c := w.heap.size + 1 + 1) (by omega) 2 (.int .u64 lt))
    have K1 := Lib.hid (((J1.out.other (c := w.heap.size + 1 + 1) (by omega) 0 (.slice a6 H2.length c6)).other (c := w.heap.size + 1 + 1) (by omega) 1 (.slice a7 W2.length c7)).other (c := w.heap.size + 1 + 1) (by omega) 2 (.int .u64 lt))
    have K2 := Lib.hid (((J2.out.other (c := w.heap.size + 1 + 1) (by omega) 0 (.slice a6 H2.length c6)).other (c := w.heap.size + 1 + 1) (by omega) 1 (.slice a7 W2.length c7)).other (c := w.heap.size + 1 + 1) (by omega) 2 (.int .u64 lt))
    first | refine hK.out _ _ ?so12 (fun h12 => ?_) | (go_wp2_with fail; refine hK.out _ _ ?so12 (fun h12 => ?_))
    case so12 => ((try dsimp only); (exact ⟨J0.out.cell (i := 0) rfl, J0.out.cell (i := 1) rfl, J0.out.cell (i := 2) rfl, J1.out.cell (i := 0) rfl, J1.out.cell (i := 1) rfl, J1.out.cell (i := 2) rfl, J1.out.cell (i := 3) rfl, J2.out.cell (i := 0) rfl, J2.out.cell (i := 1) rfl, J2.out.cell (i := 2) rfl, J2.out.cell (i := 3) rfl⟩))
    clear hK K h0
    try simp only [Act.put, List.setIfInBounds_toArray, List.set_cons_zero, List.set_cons_succ]
    refine wpAnyH_take (i := 12) (oi := { dst := some 95, op := Go.Op.pick (Go.Operand.tmp 91) (Go.Operand.tmp 94) (Go.Operand.const (Go.Value.bool false)), type := 4, pos := "law.go:98", after := #[⟨8, .data⟩, ⟨11, .data⟩, ⟨13, .gcOnly .lateStores⟩], guard := none }) (v := ?vo13) rfl (by kernel_rfl) (by kernel_rfl) (by kernel_rfl) (fun _ _ _ h => h) (Or.inl ⟨by rfl, ?ro13⟩) (by assumption) ?_
    case ro13 => (intro w hSw; (try dsimp only at hSw); (go_simp <;> with_reducible rfl))
    try simp only [Act.put, List.setIfInBounds_toArray, List.set_cons_zero, List.set_cons_succ]
    refine wpAnyH_ready (rs := [13]) (by kernel_rfl) (by simp) ?_
    refine AllReadyH.cons (o := { dst := none, op := Go.Op.store 29 (Go.Operand.tmp 6) (Go.Operand.tmp 83), type := 0, pos := "law.go:98", after := #[⟨0, .data⟩, ⟨11, .chain⟩, ⟨0, .phase⟩, ⟨1, .textOnly .lateStores⟩, ⟨2, .textOnly .lateStores⟩, ⟨3, .textOnly .lateStores⟩, ⟨4, .textOnly .lateStores⟩, ⟨5, .textOnly .lateStores⟩, ⟨6, .textOnly .lateStores⟩, ⟨7, .textOnly .lateStores⟩, ⟨8, .textOnly .lateStores⟩, ⟨9, .textOnly .lateStores⟩, ⟨10, .textOnly .lateStores⟩, ⟨11, .textOnly .lateStoresUnsure⟩, ⟨12, .textOnly .lateStores⟩], guard := none }) rfl (fun K hK => ?_) AllReadyH.nil
    go_simp
    skip
    first | refine hK.out _ _ ?so14 (fun h14 => ?_) | (go_wp2_with fail; refine hK.out _ _ ?so14 (fun h14 => ?_))
    case so14 => ((try dsimp only); (exact ⟨K0.out.cell (i := 0) rfl, K0.out.cell (i := 1) rfl, K0.out.cell (i := 2) rfl, K1.out.cell (i := 0) rfl, K1.out.cell (i := 1) rfl, K1.out.cell (i := 2) rfl, K1.out.cell (i := 3) rfl, K2.out.cell (i := 0) rfl, K2.out.cell (i := 1) rfl, K2.out.cell (i := 2) rfl, K2.out.cell (i := 3) rfl⟩))
    clear hK K h12
    try simp only [Act.put, List.setIfInBounds_toArray, List.set_cons_zero, List.set_cons_succ]
    refine wpAnyH_take (i := 14) (oi := { dst := some 7, op := Go.Op.assign (Go.Operand.tmp 95), type := 4, pos := "law.go:98", after := #[⟨12, .data⟩, ⟨13, .chain⟩, ⟨0, .phase⟩, ⟨1, .phase⟩, ⟨2, .phase⟩, ⟨3, .phase⟩, ⟨4, .phase⟩, ⟨5, .phase⟩, ⟨6, .phase⟩, ⟨7, .phase⟩, ⟨8, .phase⟩, ⟨9, .phase⟩, ⟨10, .phase⟩, ⟨11, .phase⟩, ⟨12, .phase⟩, ⟨13, .phase⟩], guard := none }) (v := ?vo15) rfl (by kernel_rfl) (by kernel_rfl) (by kernel_rfl) (fun _ _ _ h => h) (Or.inl ⟨by rfl, ?ro15⟩) (by assumption) ?_
    case ro15 => (intro w hSw; (try dsimp only at hSw); (go_simp <;> with_reducible rfl))
    try simp only [Act.put, List.setIfInBounds_toArray, List.set_cons_zero, List.set_cons_succ]
    refine wpAnyH_done (by kernel_rfl) ?_ _
    go_wp2
    refine bodyPost_ret (v := .tuple #[.agg #[.slice a6 H2.length c6, .slice a7 W2.length c7, .int .u64 lt], .bool true]) (by simp [results, Tryz.results10, go_sem, q0, q1, q2, k0, k1, k2]; try rfl) rfl ?_
    have hE := do_end HD6.out QG.out HV1.out HV2.out hbw HFF.out.1 HFF.out.2.1 HFF.out.2.2 HKB.out HRE.out.rel (HG79.out.trans HGA.out) (t := lt) (RH9.out.gr HGA.out) (RW9.out.gr HGA.out) (fun x hx => HOF.out x hx) RA.out (by omega) (by have := QR.out.lt; omega)
    rw [HA.out]
    exact ⟨_, _, _, _, _, _, by rw [show B2.last = lt from HRE.out.last], hE⟩
  · skip
    obtain ⟨hy, hp⟩ := HRE.out.no hf
    simp only at hy hp
    subst hy
    subst hp
    have e1 : (fn == 0) = false := by simpa using hf
    clear hf
    have NB := Lib.hid (NB.out.gr (Gr.refl w9).drew)
    have L9 : Hid (Blk w9.drew c8 #[.int .i64 0, .string ⟨#[]⟩, .bool false, .int .u64 0] 42) := Lib.hid (L9.out.gr (Gr.refl w9).drew)
    have RA := Lib.hid (R9.out.gr (Gr.refl w9).drew)
    have HGA := Lib.hid (show Gr w9 w9.drew from (Gr.refl w9).drew)
    have HSS : Hid ((fun w0 => w0.cell? ⟨c9, 0, none⟩ = some (.slice a6 H2.length c6) ∧ w0.cell? ⟨c9, 1, none⟩ = some (.slice a7 W2.length c7) ∧ w0.cell? ⟨c9, 2, none⟩ = some (.int .u64 lt) ∧ w0.cell? ⟨c8, 0, none⟩ = some (.int .i64 0) ∧ w0.cell? ⟨c8, 1, none⟩ = some (.string ⟨#[]⟩) ∧ w0.cell? ⟨c8, 2, none⟩ = some (.bool false) ∧ w0.cell? ⟨c8, 3, none⟩ = some (.int .u64 0)) w9.drew) := Lib.hid (by exact ⟨NB.out.cell (i := 0) rfl, NB.out.cell (i := 1) rfl, NB.out.cell (i := 2) rfl, L9.out.cell (i := 0) rfl, L9.out.cell (i := 1) rfl, L9.out.cell (i := 2) rfl, L9.out.cell (i := 3) rfl⟩)
    go_upto_region 8 with fail
    go_wp2_with fail
    refine wp_region_held_drew (S := (fun w0 => w0.cell? ⟨c9, 0, none⟩ = some (.slice a6 H2.length c6) ∧ w0.cell? ⟨c9, 1, none⟩ = some (.slice a7 W2.length c7) ∧ w0.cell? ⟨c9, 2, none⟩ = some (.int .u64 lt) ∧ w0.cell? ⟨c8, 0, none⟩ = some (.int .i64 0) ∧ w0.cell? ⟨c8, 1, none⟩ = some (.string ⟨#[]⟩) ∧ w0.cell? ⟨c8, 2, none⟩ = some (.bool false) ∧ w0.cell? ⟨c8, 3, none⟩ = some (.int .u64 0))) (by kernel_rfl) ?inve (fun h0 => ?_)
    case inve => ((try dsimp only); (exact HSS.out))
    generalize hwd : w9.drew = wd at *
    have q0 := RA.out.cell (i := 0) rfl
    have q1 := RA.out.cell (i := 1) rfl
    have q2 := RA.out.cell (i := 2) rfl
    have k0 := RA.out.free 0
    have k1 := RA.out.free 1
    have k2 := RA.out.free 2
    have K0 := Lib.hid (((NB.out.other (c := w.heap.size + 1 + 1) (by omega) 0 (.slice a6 H2.length c6)).other (c := w.heap.size + 1 + 1) (by omega) 1 (.slice a7 W2.length c7)).other (c := w.heap.size + 1 + 1) (by omega) 2 (.int .u64 lt))
    have K1 := Lib.hid (((L9.out.other (c := w.heap.size + 1 + 1) (by omega) 0 (.slice a6 H2.length c6)).other (c := w.heap.size + 1 + 1) (by omega) 1 (.slice a7 W2.length c7)).other (c := w.heap.size + 1 + 1) (by omega) 2 (.int .u64 lt))
    refine wpAnyH_take (i := 0) (oi := { dst := some 70, op := Go.Op.load 29 (Go.Operand.tmp 14), type := 29, pos := "law.go:96", after := #[], guard := none }) (v := ?ve1) rfl (by kernel_rfl) (by kernel_rfl) (by kernel_rfl) (fun _ _ _ h => h) (Or.inl ⟨by rfl, ?re1⟩) (by assumption) ?_
    case re1 => (intro w hSw; (try dsimp only at hSw); (go_simp <;> with_reducible rfl))
    try simp only [Act.put, List.setIfInBounds_toArray, List.set_cons_zero, List.set_cons_succ]
    refine wpAnyH_take (i := 1) (oi := { dst := some 71, op := Go.Op.move (Go.Operand.tmp 13), type := 49, pos := "law.go:96", after := #[], guard := none }) (v := ?ve2) rfl (by kernel_rfl) (by kernel_rfl) (by kernel_rfl) (fun _ _ _ h => h) (Or.inl ⟨by rfl, ?re2⟩) (by assumption) ?_
    case re2 => (intro w hSw; (try dsimp only at hSw); (go_simp <;> with_reducible rfl))
    try simp only [Act.put, List.setIfInBounds_toArray, List.set_cons_zero, List.set_cons_succ]
    refine wpAnyH_take (i := 2) (oi := { dst := some 72, op := Go.Op.move (Go.Operand.tmp 17), type := 3, pos := "law.go:96", after := #[], guard := none }) (v := ?ve3) rfl (by kernel_rfl) (by kernel_rfl) (by kernel_rfl) (fun _ _ _ h => h) (Or.inl ⟨by rfl, ?re3⟩) (by assumption) ?_
    case re3 => (intro w hSw; (try dsimp only at hSw); (go_simp <;> with_reducible rfl))
    try simp only [Act.put, List.setIfInBounds_toArray, List.set_cons_zero, List.set_cons_succ]
    refine wpAnyH_take (i := 3) (oi := { dst := some 73, op := Go.Op.binOp Go.BinOp.eql 3 (Go.Operand.tmp 71) (Go.Operand.tmp 72) 3, type := 4, pos := "law.go:96", after := #[⟨1, .data⟩, ⟨2, .data⟩], guard := none }) (v := ?ve4) rfl (by kernel_rfl) (by kernel_rfl) (by kernel_rfl) (fun _ _ _ h => h) (Or.inl ⟨by rfl, ?re4⟩) (by assumption) ?_
    case re4 => (intro w hSw; (try dsimp only at hSw); (go_simp <;> with_reducible rfl))
    try simp only [Act.put, List.setIfInBounds_toArray, List.set_cons_zero, List.set_cons_succ]
    refine wpAnyH_take (i := 4) (oi := { dst := some 74, op := Go.Op.move (Go.Operand.tmp 73), type := 4, pos := "law.go:96", after := #[⟨3, .data⟩], guard := none }) (v := ?ve5) rfl (by kernel_rfl) (by kernel_rfl) (by kernel_rfl) (fun _ _ _ h => h) (Or.inl ⟨by rfl, ?re5⟩) (by assumption) ?_
    case re5 => (intro w hSw; (try dsimp only at hSw); (go_simp <;> with_reducible rfl))
    try simp only [Act.put, List.setIfInBounds_toArray, List.set_cons_zero, List.set_cons_succ]
    refine wpAnyH_take (i := 5) (oi := { dst := some 75, op := Go.Op.load 42 (Go.Operand.tmp 11), type := 42, pos := "law.go:96", after := #[⟨4, .guard⟩], guard := some (4, true) }) (v := ?ve6) rfl (by kernel_rfl) (by kernel_rfl) (by kernel_rfl) (fun _ _ _ h => h) (Or.inl ⟨by rfl, ?re6⟩) (by assumption) ?_
    case re6 => (intro w hSw; (try dsimp only at hSw); (go_simp <;> with_reducible rfl))
    try simp only [Act.put, List.setIfInBounds_toArray, List.set_cons_zero, List.set_cons_succ]
    refine wpAnyH_take (i := 6) (oi := { dst := some 76, op := Go.Op.build 42 #[], type := 42, pos := "law.go:96", after := #[⟨4, .guard⟩], guard := some (4, true) }) (v := ?ve7) rfl (by kernel_rfl) (by kernel_rfl) (by kernel_rfl) (fun _ _ _ h => h) (Or.inl ⟨by rfl, ?re7⟩) (by assumption) ?_
    case re7 => (intro w hSw; (try dsimp only at hSw); (go_simp <;> with_reducible rfl))
    try simp only [Act.put, List.setIfInBounds_toArray, List.set_cons_zero, List.set_cons_succ]
    refine wpAnyH_take (i := 7) (oi := { dst := some 77, op := Go.Op.binOp Go.BinOp.eql 42 (Go.Operand.tmp 75) (Go.Operand.tmp 76) 42, type := 4, pos := "law.go:96", after := #[⟨5, .data⟩, ⟨6, .data⟩, ⟨4, .guard⟩], guard := some (4, true) }) (v := ?ve8) rfl (by kernel_rfl) (by kernel_rfl) (by kernel_rfl) (fun _ _ _ h => h) (Or.inl ⟨by rfl, ?re8⟩) (by assumption) ?_
    case re8 => (intro w hSw; (try dsimp only at hSw); (go_simp <;> with_reducible rfl))
    try simp only [Act.put, List.setIfInBounds_toArray, List.set_cons_zero, List.set_cons_succ]
    refine wpAnyH_take (i := 8) (oi := { dst := some 78, op := Go.Op.pick (Go.Operand.tmp 74) (Go.Operand.tmp 77) (Go.Operand.const (Go.Value.bool false)), type := 4, pos := "law.go:96", after := #[⟨4, .data⟩, ⟨7, .data⟩], guard := none }) (v := ?ve9) rfl (by kernel_rfl) (by kernel_rfl) (by kernel_rfl) (fun _ _ _ h => h) (Or.inl ⟨by rfl, ?re9⟩) (by assumption) ?_
    case re9 => (intro w hSw; (try dsimp only at hSw); (go_simp <;> with_reducible rfl))
    try simp only [Act.put, List.setIfInBounds_toArray, List.set_cons_zero, List.set_cons_succ]
    refine wpAnyH_take (i := 9) (oi := { dst := some 79, op := Go.Op.move (Go.Operand.tmp 78), type := 4, pos := "law.go:96", after := #[⟨8, .data⟩, ⟨4, .chain⟩], guard := none }) (v := ?ve10) rfl (by kernel_rfl) (by kernel_rfl) (by kernel_rfl) (fun _ _ _ h => h) (Or.inl ⟨by rfl, ?re10⟩) (by assumption) ?_
    case re10 => (intro w hSw; (try dsimp only at hSw); (go_simp <;> with_reducible rfl))
    try simp only [Act.put, List.setIfInBounds_toArray, List.set_cons_zero, List.set_cons_succ]
    refine wpAnyH_take (i := 10) (oi := { dst := some 80, op := Go.Op.move (Go.Operand.tmp 12), type := 3, pos := "law.go:96", after := #[⟨9, .guard⟩, ⟨13, .gcOnly .lateStores⟩], guard := some (9, true) }) (v := ?ve11) rfl (by kernel_rfl) (by kernel_rfl) (by kernel_rfl) (fun _ _ _ h => h) (Or.inl ⟨by rfl, ?re11⟩) (by assumption) ?_
    case re11 => (intro w hSw; (try dsimp only at hSw); (go_simp <;> with_reducible rfl))
    try simp only [Act.put, List.setIfInBounds_toArray, List.set_cons_zero, List.set_cons_succ]
    refine wpAnyH_take (i := 11) (oi := { dst := some 81, op := Go.Op.binOp Go.BinOp.eql 3 (Go.Operand.tmp 80) (Go.Operand.const (Go.Value.int Go.IntKind.i64 0)) 3, type := 4, pos := "law.go:96", after := #[⟨10, .data⟩, ⟨9, .guard⟩, ⟨13, .gcOnly .lateStores⟩], guard := some (9, true) }) (v := ?ve12) rfl (by kernel_rfl) (by kernel_rfl) (by kernel_rfl) (fun _ _ _ h => h) (Or.inl ⟨by rfl, ?re12⟩) (by assumption) ?_
    case re12 => (intro w hSw; (try dsimp only at hSw); (go_simp <;> with_reducible rfl))
    try simp only [Act.put, List.setIfInBounds_toArray, List.set_cons_zero, List.set_cons_succ]
    refine wpAnyH_take (i := 12) (oi := { dst := some 82, op := Go.Op.pick (Go.Operand.tmp 79) (Go.Operand.tmp 81) (Go.Operand.const (Go.Value.bool false)), type := 4, pos := "law.go:96", after := #[⟨9, .data⟩, ⟨11, .data⟩, ⟨13, .gcOnly .lateStores⟩], guard := none }) (v := ?ve13) rfl (by kernel_rfl) (by kernel_rfl) (by kernel_rfl) (fun _ _ _ h => h) (Or.inl ⟨by rfl, ?re13⟩) (by assumption) ?_
    case re13 => (intro w hSw; (try dsimp only at hSw); (go_simp <;> with_reducible rfl))
    try simp only [Act.put, List.setIfInBounds_toArray, List.set_cons_zero, List.set_cons_succ]
    refine wpAnyH_ready (rs := [13]) (by kernel_rfl) (by simp) ?_
    refine AllReadyH.cons (o := { dst := none, op := Go.Op.store 29 (Go.Operand.tmp 6) (Go.Operand.tmp 70), type := 0, pos := "law.go:96", after := #[⟨0, .data⟩, ⟨9, .chain⟩, ⟨0, .phase⟩, ⟨1, .textOnly .lateStores⟩, ⟨2, .textOnly .lateStores⟩, ⟨3, .textOnly .lateStores⟩, ⟨4, .textOnly .lateStores⟩, ⟨5, .textOnly .lateStores⟩, ⟨6, .textOnly .lateStores⟩, ⟨7, .textOnly .lateStores⟩, ⟨8, .textOnly .lateStores⟩, ⟨9, .textOnly .lateStores⟩, ⟨10, .textOnly .lateStores⟩, ⟨11, .textOnly .lateStores⟩, ⟨12, .textOnly .lateStores⟩], guard := none }) rfl (fun K hK => ?_) AllReadyH.nil
    go_simp
    skip
    first | refine hK.out _ _ ?se14 (fun h14 => ?_) | (go_wp2_with fail; refine hK.out _ _ ?se14 (fun h14 => ?_))
    case se14 => ((try dsimp only); (exact ⟨K0.out.cell (i := 0) rfl, K0.out.cell (i := 1) rfl, K0.out.cell (i := 2) rfl, K1.out.cell (i := 0) rfl, K1.out.cell (i := 1) rfl, K1.out.cell (i := 2) rfl, K1.out.cell (i := 3) rfl⟩))
    clear hK K h0
    try simp only [Act.put, List.setIfInBounds_toArray, List.set_cons_zero, List.set_cons_succ]
    refine wpAnyH_take (i := 14) (oi := { dst := some 7, op := Go.Op.assign (Go.Operand.tmp 82), type := 4, pos := "law.go:96", after := #[⟨12, .data⟩, ⟨13, .chain⟩, ⟨0, .phase⟩, ⟨1, .phase⟩, ⟨2, .phase⟩, ⟨3, .phase⟩, ⟨4, .phase⟩, ⟨5, .phase⟩, ⟨6, .phase⟩, ⟨7, .phase⟩, ⟨8, .phase⟩, ⟨9, .phase⟩, ⟨10, .phase⟩, ⟨11, .phase⟩, ⟨12, .phase⟩, ⟨13, .phase⟩], guard := none }) (v := ?ve15) rfl (by kernel_rfl) (by kernel_rfl) (by kernel_rfl) (fun _ _ _ h => h) (Or.inl ⟨by rfl, ?re15⟩) (by assumption) ?_
    case re15 => (intro w hSw; (try dsimp only at hSw); (go_simp <;> with_reducible rfl))
    try simp only [Act.put, List.setIfInBounds_toArray, List.set_cons_zero, List.set_cons_succ]
    refine wpAnyH_done (by kernel_rfl) ?_ _
    go_wp2
    refine bodyPost_ret (v := .tuple #[.agg #[.slice a6 H2.length c6, .slice a7 W2.length c7, .int .u64 lt], .bool true]) (by simp [results, Tryz.results10, go_sem, q0, q1, q2, k0, k1, k2]; try rfl) rfl ?_
    have hE := do_end HD6.out QG.out HV1.out HV2.out hbw HFF.out.1 HFF.out.2.1 HFF.out.2.2 HKB.out HRE.out.rel (HG79.out.trans HGA.out) (t := lt) (RH9.out.gr HGA.out) (RW9.out.gr HGA.out) (fun x hx => HOF.out x hx) RA.out (by omega) (by have := QR.out.lt; omega)
    rw [HA.out]
    exact ⟨_, _, _, _, _, _, by rw [show B2.last = lt from HRE.out.last], hE⟩

end Go.Proofs.YtmgpnpmdmelnkaaGreatDoor
