import Derived.Test.YtihhfdkcggnjpaaK3
import Derived.Test.YtihhfdkcggnjpaaF01k
import Derived.WalkKit
import Derived.ProofKit
import Derived.LoopTactic
import Derived.Outline
import Derived.WalkSpells
import Derived.WalkLawsBesides
import Derived.Lib.Hide
import Derived.Deep.LoopGhost
import Derived.Deep.QuietTactic
import Derived.BigQuiet
import Derived.ShutString
import Derived.IntWalk
import Derived.Deep.RegionHeld3
namespace Go.Proofs.Ytihhfdkcggnjpaa
open Go.ChangeShapes Go.WideShapes Go.ChangeAt Go.RowKit
open Enc Bal
set_option linter.unusedVariables false
set_option linter.unusedSimpArgs false
theorem cutZ0 {G : World → Prop} {Q : Prop} (S : World → Prop) (main : (∀ w, S w → G w) → Q) (rest : ∀ w, S w → G w) : Q := main rest
theorem cutZ1 {G : Nat → World → Prop} {Q : Prop} (S : Nat → World → Prop) (main : (∀ p w, S p w → G p w) → Q) (rest : ∀ p w, S p w → G p w) : Q := main rest
theorem cutZ2 {G : Nat → Nat → World → Prop} {Q : Prop} (S : Nat → Nat → World → Prop) (main : (∀ p q w, S p q w → G p q w) → Q) (rest : ∀ p q w, S p q w → G p q w) : Q := main rest
theorem cutZ3 {G : Nat → Nat → Nat → World → Prop} {Q : Prop} (S : Nat → Nat → Nat → World → Prop) (main : (∀ p q r w, S p q r w → G p q r w) → Q) (rest : ∀ p q r w, S p q r w → G p q r w) : Q := main rest
theorem cutZ4 {G : Nat → Nat → Nat → Nat → World → Prop} {Q : Prop} (S : Nat → Nat → Nat → Nat → World → Prop) (main : (∀ p q r s w, S p q r s w → G p q r s w) → Q) (rest : ∀ p q r s w, S p q r s w → G p q r s w) : Q := main rest
theorem keeps_gr {p : Nat} {w w' : World} (hp : p < w.heap.size) (hg : Gr w w') : Keeps p w w' := ⟨hg.size, fun b hb _ hf => ⟨hg.below.block b hb, hf.gr hp hg⟩⟩
/-- A Writer in block p that holds these bytes, and what has turned since a world. -/
def St (p : Nat) (wd : World) (l : List UInt8) (w : World) : Prop := WrIs w p l ∧ Keeps p wd w ∧ Below p wd w
/-- A block beside the Writer, with these cells. -/
def Sl (p : Nat) (w : World) (s : Nat) (vs : List Value) : Prop := s ≠ p ∧ Free w p s ∧ s < w.heap.size ∧ ∀ i v, vs[i]? = some v → w.cell? ⟨s, i, none⟩ = some v
theorem St.start {p : Nat} {w : World} {l : List UInt8} (h : WrIs w p l) : St p w l w := ⟨h, Keeps.refl _ _, Below.refl _ _⟩
theorem St.gr {p : Nat} {wd w w' : World} {l : List UInt8} (h : St p wd l w) (hg : Gr w w') : St p wd l w' :=
  ⟨h.1.gr hg, h.2.1.trans (keeps_gr (wrLt h.1) hg), h.2.2.trans (hg.below.mono (Nat.le_of_lt (wrLt h.1)))⟩
theorem St.call {p : Nat} {wd w w' : World} {l l' : List UInt8} (h : St p wd l w) (hW : WrIs w' p l') (hB : Below p w w') (hK : Keeps p w w') : St p wd l' w' := ⟨hW, h.2.1.trans hK, h.2.2.trans hB⟩
theorem St.sub {p : Nat} {w0 wd w : World} {l l' : List UInt8} (h : St p wd l w) (h0 : St p w0 l' wd) : St p w0 l w := ⟨h.1, h0.2.1.trans h.2.1, h0.2.2.trans h.2.2⟩
theorem Sl.gr {p : Nat} {wd w w' : World} {l : List UInt8} {s : Nat} {vs : List Value} (hS : St p wd l w) (h : Sl p w s vs) (hg : Gr w w') : Sl p w' s vs :=
  ⟨h.1, h.2.1.gr (wrLt hS.1) hg, Nat.lt_of_lt_of_le h.2.2.1 hg.size, fun i v hv => hg.cell (h.2.2.2 i v hv)⟩
theorem Sl.keeps {p : Nat} {w w' : World} {s : Nat} {vs : List Value} (h : Sl p w s vs) (hk : Keeps p w w') : Sl p w' s vs :=
  ⟨h.1, (hk.2 s h.2.2.1 h.1 h.2.1).2, Nat.lt_of_lt_of_le h.2.2.1 hk.1, fun i v hv => hk.cell h.1 h.2.1 (h.2.2.2 i v hv)⟩
theorem Sl.new {p : Nat} {wd w : World} {l : List UInt8} (hS : St p wd l w) (cs : List Value) (t : TypeId) : Sl p (w.alloc (.cells cs.toArray t)) w.heap.size cs :=
  ⟨by have := wrLt hS.1; omega, free_new hS.1 _, by simp, fun i v hv => new_cell rfl (by simpa using hv)⟩
theorem Sl.old {p : Nat} {w : World} {l : List UInt8} {s : Nat} {vs : List Value} (hW : WrIs w p l) (hb : s < p) (hc : ∀ i v, vs[i]? = some v → w.cell? ⟨s, i, none⟩ = some v) : Sl p w s vs := by
  have hp := wrLt hW
  obtain ⟨a, cap, hc', _, _, hown⟩ := hW
  refine ⟨by omega, ?_, by omega, hc⟩
  intro v hv
  rw [hc'] at hv
  cases hv
  intro e
  have := hown.lt s e
  omega
theorem stN1 {p s : Nat} {wd w : World} {l : List UInt8} (x : Int) (hS : St p wd l w) (hs : Sl p w s [.int .i64 x]) (hl : l.length ≤ 1000000) (hx : x ≤ 9223372036854775807) :
    Calls Try.prog 109 #[.pointer (some ⟨p, 0, none⟩), .slice (some ⟨s, 0, none⟩) 1 1] w fun e w' => e = .returned (.pointer (some ⟨p, 0, none⟩)) ∧ St p wd (l ++ encN x) w' ∧ Keeps p w w' := by
  refine (wN_any p s 0 [x] l w hS.1 hs.1 hs.2.1 (fun i hi => ?_) hl (by simp) (by intro v hv; simp at hv; omega)).mono ?_
  · match i, hi with
    | 0, _ => exact hs.2.2.2 0 _ rfl
  · rintro e w' ⟨rfl, hW, hB, hK⟩
    exact ⟨rfl, hS.call (by simpa [encNs] using hW) hB hK, hK⟩
theorem stN2 {p s : Nat} {wd w : World} {l : List UInt8} (x y : Int) (hS : St p wd l w) (hs : Sl p w s [.int .i64 x, .int .i64 y]) (hl : l.length ≤ 1000000) (hx : x ≤ 9223372036854775807) (hy : y ≤ 9223372036854775807) :
    Calls Try.prog 109 #[.pointer (some ⟨p, 0, none⟩), .slice (some ⟨s, 0, none⟩) 2 2] w fun e w' => e = .returned (.pointer (some ⟨p, 0, none⟩)) ∧ St p wd (l ++ (encN x ++ encN y)) w' ∧ Keeps p w w' := by
  refine (wN_any p s 0 [x, y] l w hS.1 hs.1 hs.2.1 (fun i hi => ?_) hl (by simp) (by intro v hv; simp at hv; omega)).mono ?_
  · match i, hi with
    | 0, _ => exact hs.2.2.2 0 _ rfl
    | 1, _ => exact hs.2.2.2 1 _ rfl
  · rintro e w' ⟨rfl, hW, hB, hK⟩
    exact ⟨rfl, hS.call (by simpa [encNs] using hW) hB hK, hK⟩
theorem stN3 {p s : Nat} {wd w : World} {l : List UInt8} (x y z : Int) (hS : St p wd l w) (hs : Sl p w s [.int .i64 x, .int .i64 y, .int .i64 z]) (hl : l.length ≤ 1000000) (hx : x ≤ 9223372036854775807) (hy : y ≤ 9223372036854775807) (hz : z ≤ 9223372036854775807) :
    Calls Try.prog 109 #[.pointer (some ⟨p, 0, none⟩), .slice (some ⟨s, 0, none⟩) 3 3] w fun e w' => e = .returned (.pointer (some ⟨p, 0, none⟩)) ∧ St p wd (l ++ (encN x ++ (encN y ++ encN z))) w' ∧ Keeps p w w' := by
  refine (wN_any p s 0 [x, y, z] l w hS.1 hs.1 hs.2.1 (fun i hi => ?_) hl (by simp) (by intro v hv; simp at hv; omega)).mono ?_
  · match i, hi with
    | 0, _ => exact hs.2.2.2 0 _ rfl
    | 1, _ => exact hs.2.2.2 1 _ rfl
    | 2, _ => exact hs.2.2.2 2 _ rfl
  · rintro e w' ⟨rfl, hW, hB, hK⟩
    exact ⟨rfl, hS.call (by simpa [encNs] using hW) hB hK, hK⟩
theorem stU1 {p s : Nat} {wd w : World} {l : List UInt8} (x : Nat) (hS : St p wd l w) (hs : Sl p w s [.int .u64 (x : Nat)]) (hl : l.length ≤ 1000000) :
    Calls Try.prog 169 #[.pointer (some ⟨p, 0, none⟩), .slice (some ⟨s, 0, none⟩) 1 1] w fun e w' => e = .returned (.pointer (some ⟨p, 0, none⟩)) ∧ St p wd (l ++ encU x) w' ∧ Keeps p w w' := by
  refine (wU_1 p x s l w hS.1 hs.1 hs.2.1 hs.2.2.1 (hs.2.2.2 0 _ rfl) hl).mono ?_
  rintro e w' ⟨rfl, hW, hB, hK⟩
  exact ⟨rfl, hS.call hW hB hK, hK⟩
theorem stB {p s : Nat} {wd w : World} {l : List UInt8} (x : Bool) (hS : St p wd l w) (hs : Sl p w s [.bool x]) (hl : l.length ≤ 1000000) :
    Calls Try.prog 110 #[.pointer (some ⟨p, 0, none⟩), .slice (some ⟨s, 0, none⟩) 1 1] w fun e w' => e = .returned (.pointer (some ⟨p, 0, none⟩)) ∧ St p wd (l ++ encB x) w' ∧ Keeps p w w' := by
  refine (wB_one p s 0 x l w hS.1 (hs.2.2.2 0 _ rfl) (by omega)).mono ?_
  rintro e w' ⟨rfl, hW, hB, hK⟩
  exact ⟨rfl, hS.call hW hB hK, hK⟩
theorem stS {p s : Nat} {wd w : World} {l : List UInt8} (x : ByteArray) (hS : St p wd l w) (hs : Sl p w s [.string x]) (hl : l.length ≤ 1000000) (hx : x.size ≤ 1000000) :
    Calls Try.prog 111 #[.pointer (some ⟨p, 0, none⟩), .slice (some ⟨s, 0, none⟩) 1 1] w fun e w' => e = .returned (.pointer (some ⟨p, 0, none⟩)) ∧ St p wd (l ++ encS (bytesOf x)) w' ∧ Keeps p w w' := by
  refine (wS_keeps p s 0 x l w hS.1 (hs.2.2.2 0 _ rfl) (by omega) (by omega)).mono ?_
  rintro e w' ⟨rfl, hW, hB, hK⟩
  exact ⟨rfl, hS.call hW hB hK, hK⟩
set_option maxRecDepth 100000 in
set_option maxHeartbeats 2000000 in
theorem bPutK_any (p c n : Nat) (l : List UInt8) (w : World) (h : WrIs w p l) (hl : l.length ≤ 900000) (hn : n ≤ 11) :
    Calls Try.prog 108 #[.agg #[.int .u64 c, .int .i64 n], .pointer (some ⟨p, 0, none⟩)] w fun e w' => e = .returned (.tuple #[]) ∧ WrIs w' p (l ++ encU c ++ encN n) ∧ Below p w w' ∧ Keeps p w w' := by
  have hul := encU_le c
  have hp := wrLt h
  go_enter Try.func108, Try.ntmps108
  go_wp2
  have HSB := Lib.hid (Sl.new (St.start h) [.int .u64 (c : Nat), .int .i64 (n : Nat)] 50)
  have HS1 := Lib.hid ((St.start h).gr ((Gr.refl w).alloc (.cells #[.int .u64 (c : Nat), .int .i64 (n : Nat)] 50)))
  have k0 := HSB.out.2.2.2 0 _ rfl
  have k1 := HSB.out.2.2.2 1 _ rfl
  have HS2 := HS1
  clear h
  generalize w.heap.size = b at *
  generalize w.alloc (.cells #[.int .u64 (c : Nat), .int .i64 (n : Nat)] 50) = wz at *
  refine wp_region_held_drew (S := (fun w9 => w9.cell? ⟨b, 0, none⟩ = some (.int .u64 (c : Nat)) ∧ w9.cell? ⟨b, 1, none⟩ = some (.int .i64 (n : Nat)))) (by kernel_rfl) ?invd (fun h0 => ?_)
  case invd => ((try dsimp only); exact ⟨k0, k1⟩)
  have HSt := Lib.hid (St.start (HS1.out.gr (Gr.refl wz).drew).1)
  replace HS1 := Lib.hid (HS1.out.gr (Gr.refl wz).drew)
  have HSl_b := Lib.hid (Sl.gr HS2.out HSB.out (Gr.refl wz).drew)
  clear HS2 HSB
  generalize wz.drew = wd at *
  refine wpAnyH_take (i := 0) (oi := { dst := some 4, op := Go.Op.move (Go.Operand.tmp 1), type := 113, pos := "ballot.go:54", after := #[], guard := none }) (v := ?vd0) rfl (by kernel_rfl) (by kernel_rfl) (by kernel_rfl) (fun _ _ _ h => h) (Or.inl ⟨by rfl, ?rd0⟩) (by assumption) ?_
  case rd0 => (intro w hSw; (try dsimp only at hSw); (go_simp <;> with_reducible rfl))
  try simp only [Act.put, List.setIfInBounds_toArray, List.set_cons_zero, List.set_cons_succ]
  refine wpAnyH_take (i := 1) (oi := { dst := some 5, op := Go.Op.fieldAddr 50 (Go.Operand.tmp 2) 0, type := 0, pos := "ballot.go:54", after := #[], guard := none }) (v := ?vd1) rfl (by kernel_rfl) (by kernel_rfl) (by kernel_rfl) (fun _ _ _ h => h) (Or.inl ⟨by rfl, ?rd1⟩) (by assumption) ?_
  case rd1 => (intro w hSw; (try dsimp only at hSw); (go_simp <;> with_reducible rfl))
  try simp only [Act.put, List.setIfInBounds_toArray, List.set_cons_zero, List.set_cons_succ]
  refine wpAnyH_take (i := 2) (oi := { dst := some 6, op := Go.Op.load 48 (Go.Operand.tmp 5), type := 48, pos := "ballot.go:54", after := #[{ on := 1, ground := Go.Ground.data }], guard := none }) (v := ?vd2) rfl (by kernel_rfl) (by kernel_rfl) (by kernel_rfl) (fun _ _ _ h => h) (Or.inl ⟨by rfl, ?rd2⟩) (by assumption) ?_
  case rd2 => (intro w hSw; (try dsimp only at hSw); (go_simp <;> with_reducible rfl))
  try simp only [Act.put, List.setIfInBounds_toArray, List.set_cons_zero, List.set_cons_succ]
  refine wpAnyH_take (i := 5) (oi := { dst := some 9, op := Go.Op.fieldAddr 50 (Go.Operand.tmp 2) 1, type := 0, pos := "ballot.go:54", after := #[], guard := none }) (v := ?vd5) rfl (by kernel_rfl) (by kernel_rfl) (by kernel_rfl) (fun _ _ _ h => h) (Or.inl ⟨by rfl, ?rd5⟩) (by assumption) ?_
  case rd5 => (intro w hSw; (try dsimp only at hSw); (go_simp <;> with_reducible rfl))
  try simp only [Act.put, List.setIfInBounds_toArray, List.set_cons_zero, List.set_cons_succ]
  refine wpAnyH_take (i := 6) (oi := { dst := some 10, op := Go.Op.load 3 (Go.Operand.tmp 9), type := 3, pos := "ballot.go:54", after := #[{ on := 5, ground := Go.Ground.data }], guard := none }) (v := ?vd6) rfl (by kernel_rfl) (by kernel_rfl) (by kernel_rfl) (fun _ _ _ h => h) (Or.inl ⟨by rfl, ?rd6⟩) (by assumption) ?_
  case rd6 => (intro w hSw; (try dsimp only at hSw); (go_simp <;> with_reducible rfl))
  try simp only [Act.put, List.setIfInBounds_toArray, List.set_cons_zero, List.set_cons_succ]
  apply cutZ2 (fun s3 s7 w9 => Hid (St p wd (l ++ encU c ++ encN (n : Int)) w9) ∧ Hid (Sl p w9 b [.int .u64 (c : Nat), .int .i64 (n : Nat)]))
  intro HLd6
  apply cutZ2 (fun s3 s7 w9 => Hid (St p wd (l ++ encU c) w9) ∧ Hid (Sl p w9 b [.int .u64 (c : Nat), .int .i64 (n : Nat)]) ∧ Hid (Sl p w9 s7 [.int .i64 (n : Nat)]))
  intro HLd5
  apply cutZ2 (fun s3 s7 w9 => Hid (St p wd (l) w9) ∧ Hid (Sl p w9 b [.int .u64 (c : Nat), .int .i64 (n : Nat)]) ∧ Hid (Sl p w9 s3 [.int .u64 (c : Nat)]) ∧ Hid (Sl p w9 s7 [.int .i64 (n : Nat)]))
  intro HLd4
  apply cutZ1 (fun s3 w9 => Hid (St p wd (l ++ encU c) w9) ∧ Hid (Sl p w9 b [.int .u64 (c : Nat), .int .i64 (n : Nat)]))
  intro HLd3
  apply cutZ1 (fun s7 w9 => Hid (St p wd (l) w9) ∧ Hid (Sl p w9 b [.int .u64 (c : Nat), .int .i64 (n : Nat)]) ∧ Hid (Sl p w9 s7 [.int .i64 (n : Nat)]))
  intro HLd2
  apply cutZ1 (fun s3 w9 => Hid (St p wd (l) w9) ∧ Hid (Sl p w9 b [.int .u64 (c : Nat), .int .i64 (n : Nat)]) ∧ Hid (Sl p w9 s3 [.int .u64 (c : Nat)]))
  intro HLd1
  · skip
    refine wpAnyH_ready (rs := [3, 7]) (by kernel_rfl) (by simp) ?_
    refine AllReadyH.cons (o := { dst := some 7, op := Go.Op.buildSlice 252 1 #[(0, Go.Operand.tmp 6)], type := 252, pos := "ballot.go:54", after := #[{ on := 2, ground := Go.Ground.data }], guard := none }) rfl (fun K hK => ?_) (AllReadyH.cons (o := { dst := some 11, op := Go.Op.buildSlice 135 1 #[(0, Go.Operand.tmp 10)], type := 135, pos := "ballot.go:54", after := #[{ on := 6, ground := Go.Ground.data }], guard := none }) rfl (fun K hK => ?_) AllReadyH.nil)
    · skip
      go_simp
      obtain ⟨s3, hsx⟩ : ∃ s, s = wd.heap.size := ⟨_, rfl⟩
      rw [← hsx]
      obtain ⟨wn, hwx⟩ : ∃ wn, wn = wd.alloc (.cells #[.int .u64 (c : Nat)] 48) := ⟨_, rfl⟩
      rw [← hwx]
      have gx : Gr wd wn := by rw [hwx]; exact (Gr.refl _).alloc _
      have HSl3 := Lib.hid (show Sl p wn s3 [.int .u64 (c : Nat)] from by rw [hwx, hsx]; exact Sl.new HSt.out _ _)
      replace HSl_b := Lib.hid (Sl.gr HSt.out HSl_b.out gx)
      replace HSt := Lib.hid (HSt.out.gr gx)
      clear gx hwx hsx
      first | refine hK.out _ _ ?sd0_3 (fun hp => ?_) | (go_wp2_with fail; refine hK.out _ _ ?sd0_3 (fun hp => ?_))
      case sd0_3 => ((try dsimp only); exact ⟨HSl_b.out.2.2.2 0 _ rfl, HSl_b.out.2.2.2 1 _ rfl⟩)
      clear hK K hp
      try simp only [Act.put, List.setIfInBounds_toArray, List.set_cons_zero, List.set_cons_succ]
      exact HLd1 s3 wn ⟨HSt, HSl_b, HSl3⟩
    · skip
      go_simp
      obtain ⟨s7, hsx⟩ : ∃ s, s = wd.heap.size := ⟨_, rfl⟩
      rw [← hsx]
      obtain ⟨wn, hwx⟩ : ∃ wn, wn = wd.alloc (.cells #[.int .i64 (n : Nat)] 3) := ⟨_, rfl⟩
      rw [← hwx]
      have gx : Gr wd wn := by rw [hwx]; exact (Gr.refl _).alloc _
      have HSl7 := Lib.hid (show Sl p wn s7 [.int .i64 (n : Nat)] from by rw [hwx, hsx]; exact Sl.new HSt.out _ _)
      replace HSl_b := Lib.hid (Sl.gr HSt.out HSl_b.out gx)
      replace HSt := Lib.hid (HSt.out.gr gx)
      clear gx hwx hsx
      first | refine hK.out _ _ ?sd0_7 (fun hp => ?_) | (go_wp2_with fail; refine hK.out _ _ ?sd0_7 (fun hp => ?_))
      case sd0_7 => ((try dsimp only); exact ⟨HSl_b.out.2.2.2 0 _ rfl, HSl_b.out.2.2.2 1 _ rfl⟩)
      clear hK K hp
      try simp only [Act.put, List.setIfInBounds_toArray, List.set_cons_zero, List.set_cons_succ]
      exact HLd2 s7 wn ⟨HSt, HSl_b, HSl7⟩
  · intro s3 wy hSt
    obtain ⟨HSt, HSl_b, HSl3⟩ := hSt
    refine wpAnyH_ready (rs := [4, 7]) (by kernel_rfl) (by simp) ?_
    refine AllReadyH.cons (o := { dst := some 8, op := Go.Op.call { callee := Go.Callee.value (Go.Operand.func 169), args := #[Go.Operand.tmp 4, Go.Operand.tmp 7], argTypes := #[113, 252] }, type := 113, pos := "ballot.go:54", after := #[{ on := 0, ground := Go.Ground.data }, { on := 3, ground := Go.Ground.data }], guard := none }) rfl (fun K hK => ?_) (AllReadyH.cons (o := { dst := some 11, op := Go.Op.buildSlice 135 1 #[(0, Go.Operand.tmp 10)], type := 135, pos := "ballot.go:54", after := #[{ on := 6, ground := Go.Ground.data }], guard := none }) rfl (fun K hK => ?_) AllReadyH.nil)
    · skip
      go_simp
      go_at_call 169
      refine (stU1 c HSt.out HSl3.out (by omega)).mono ?_
      rintro e wn ⟨rfl, hSt2, hK2⟩
      replace HSl_b := Lib.hid (Sl.keeps HSl_b.out hK2)
      replace HSt := Lib.hid hSt2
      clear hSt2 hK2
      clear HSl3
      first | refine hK.out _ _ ?sd1_4 (fun hp => ?_) | (go_wp2_with fail; refine hK.out _ _ ?sd1_4 (fun hp => ?_))
      case sd1_4 => ((try dsimp only); exact ⟨HSl_b.out.2.2.2 0 _ rfl, HSl_b.out.2.2.2 1 _ rfl⟩)
      clear hK K hp
      try simp only [Act.put, List.setIfInBounds_toArray, List.set_cons_zero, List.set_cons_succ]
      exact HLd3 s3 wn ⟨HSt, HSl_b⟩
    · skip
      go_simp
      obtain ⟨s7, hsx⟩ : ∃ s, s = wy.heap.size := ⟨_, rfl⟩
      rw [← hsx]
      obtain ⟨wn, hwx⟩ : ∃ wn, wn = wy.alloc (.cells #[.int .i64 (n : Nat)] 3) := ⟨_, rfl⟩
      rw [← hwx]
      have gx : Gr wy wn := by rw [hwx]; exact (Gr.refl _).alloc _
      have HSl7 := Lib.hid (show Sl p wn s7 [.int .i64 (n : Nat)] from by rw [hwx, hsx]; exact Sl.new HSt.out _ _)
      replace HSl_b := Lib.hid (Sl.gr HSt.out HSl_b.out gx)
      replace HSl3 := Lib.hid (Sl.gr HSt.out HSl3.out gx)
      replace HSt := Lib.hid (HSt.out.gr gx)
      clear gx hwx hsx
      first | refine hK.out _ _ ?sd1_7 (fun hp => ?_) | (go_wp2_with fail; refine hK.out _ _ ?sd1_7 (fun hp => ?_))
      case sd1_7 => ((try dsimp only); exact ⟨HSl_b.out.2.2.2 0 _ rfl, HSl_b.out.2.2.2 1 _ rfl⟩)
      clear hK K hp
      try simp only [Act.put, List.setIfInBounds_toArray, List.set_cons_zero, List.set_cons_succ]
      exact HLd4 s3 s7 wn ⟨HSt, HSl_b, HSl3, HSl7⟩
  · intro s7 wy hSt
    obtain ⟨HSt, HSl_b, HSl7⟩ := hSt
    refine wpAnyH_ready (rs := [3]) (by kernel_rfl) (by simp) ?_
    refine AllReadyH.cons (o := { dst := some 7, op := Go.Op.buildSlice 252 1 #[(0, Go.Operand.tmp 6)], type := 252, pos := "ballot.go:54", after := #[{ on := 2, ground := Go.Ground.data }], guard := none }) rfl (fun K hK => ?_) AllReadyH.nil
    go_simp
    obtain ⟨s3, hsx⟩ : ∃ s, s = wy.heap.size := ⟨_, rfl⟩
    rw [← hsx]
    obtain ⟨wn, hwx⟩ : ∃ wn, wn = wy.alloc (.cells #[.int .u64 (c : Nat)] 48) := ⟨_, rfl⟩
    rw [← hwx]
    have gx : Gr wy wn := by rw [hwx]; exact (Gr.refl _).alloc _
    have HSl3 := Lib.hid (show Sl p wn s3 [.int .u64 (c : Nat)] from by rw [hwx, hsx]; exact Sl.new HSt.out _ _)
    replace HSl_b := Lib.hid (Sl.gr HSt.out HSl_b.out gx)
    replace HSl7 := Lib.hid (Sl.gr HSt.out HSl7.out gx)
    replace HSt := Lib.hid (HSt.out.gr gx)
    clear gx hwx hsx
    first | refine hK.out _ _ ?sd2_3 (fun hp => ?_) | (go_wp2_with fail; refine hK.out _ _ ?sd2_3 (fun hp => ?_))
    case sd2_3 => ((try dsimp only); exact ⟨HSl_b.out.2.2.2 0 _ rfl, HSl_b.out.2.2.2 1 _ rfl⟩)
    clear hK K hp
    try simp only [Act.put, List.setIfInBounds_toArray, List.set_cons_zero, List.set_cons_succ]
    exact HLd4 s3 s7 wn ⟨HSt, HSl_b, HSl3, HSl7⟩
  · intro s3 wy hSt
    obtain ⟨HSt, HSl_b⟩ := hSt
    refine wpAnyH_ready (rs := [7]) (by kernel_rfl) (by simp) ?_
    refine AllReadyH.cons (o := { dst := some 11, op := Go.Op.buildSlice 135 1 #[(0, Go.Operand.tmp 10)], type := 135, pos := "ballot.go:54", after := #[{ on := 6, ground := Go.Ground.data }], guard := none }) rfl (fun K hK => ?_) AllReadyH.nil
    go_simp
    obtain ⟨s7, hsx⟩ : ∃ s, s = wy.heap.size := ⟨_, rfl⟩
    rw [← hsx]
    obtain ⟨wn, hwx⟩ : ∃ wn, wn = wy.alloc (.cells #[.int .i64 (n : Nat)] 3) := ⟨_, rfl⟩
    rw [← hwx]
    have gx : Gr wy wn := by rw [hwx]; exact (Gr.refl _).alloc _
    have HSl7 := Lib.hid (show Sl p wn s7 [.int .i64 (n : Nat)] from by rw [hwx, hsx]; exact Sl.new HSt.out _ _)
    replace HSl_b := Lib.hid (Sl.gr HSt.out HSl_b.out gx)
    replace HSt := Lib.hid (HSt.out.gr gx)
    clear gx hwx hsx
    first | refine hK.out _ _ ?sd3_7 (fun hp => ?_) | (go_wp2_with fail; refine hK.out _ _ ?sd3_7 (fun hp => ?_))
    case sd3_7 => ((try dsimp only); exact ⟨HSl_b.out.2.2.2 0 _ rfl, HSl_b.out.2.2.2 1 _ rfl⟩)
    clear hK K hp
    try simp only [Act.put, List.setIfInBounds_toArray, List.set_cons_zero, List.set_cons_succ]
    exact HLd5 s3 s7 wn ⟨HSt, HSl_b, HSl7⟩
  · intro s3 s7 wy hSt
    obtain ⟨HSt, HSl_b, HSl3, HSl7⟩ := hSt
    refine wpAnyH_ready (rs := [4]) (by kernel_rfl) (by simp) ?_
    refine AllReadyH.cons (o := { dst := some 8, op := Go.Op.call { callee := Go.Callee.value (Go.Operand.func 169), args := #[Go.Operand.tmp 4, Go.Operand.tmp 7], argTypes := #[113, 252] }, type := 113, pos := "ballot.go:54", after := #[{ on := 0, ground := Go.Ground.data }, { on := 3, ground := Go.Ground.data }], guard := none }) rfl (fun K hK => ?_) AllReadyH.nil
    go_simp
    go_at_call 169
    refine (stU1 c HSt.out HSl3.out (by omega)).mono ?_
    rintro e wn ⟨rfl, hSt2, hK2⟩
    replace HSl_b := Lib.hid (Sl.keeps HSl_b.out hK2)
    replace HSl7 := Lib.hid (Sl.keeps HSl7.out hK2)
    replace HSt := Lib.hid hSt2
    clear hSt2 hK2
    clear HSl3
    first | refine hK.out _ _ ?sd4_4 (fun hp => ?_) | (go_wp2_with fail; refine hK.out _ _ ?sd4_4 (fun hp => ?_))
    case sd4_4 => ((try dsimp only); exact ⟨HSl_b.out.2.2.2 0 _ rfl, HSl_b.out.2.2.2 1 _ rfl⟩)
    clear hK K hp
    try simp only [Act.put, List.setIfInBounds_toArray, List.set_cons_zero, List.set_cons_succ]
    exact HLd5 s3 s7 wn ⟨HSt, HSl_b, HSl7⟩
  · intro s3 s7 wy hSt
    obtain ⟨HSt, HSl_b, HSl7⟩ := hSt
    refine wpAnyH_ready (rs := [8]) (by kernel_rfl) (by simp) ?_
    refine AllReadyH.cons (o := { dst := some 12, op := Go.Op.call { callee := Go.Callee.value (Go.Operand.func 109), args := #[Go.Operand.tmp 8, Go.Operand.tmp 11], argTypes := #[113, 135] }, type := 113, pos := "ballot.go:54", after := #[{ on := 4, ground := Go.Ground.data }, { on := 7, ground := Go.Ground.data }, { on := 4, ground := Go.Ground.chain }], guard := none }) rfl (fun K hK => ?_) AllReadyH.nil
    go_simp
    go_at_call 109
    refine (stN1 (n : Int) HSt.out HSl7.out (by rw [List.length_append]; omega) (by omega)).mono ?_
    rintro e wn ⟨rfl, hSt2, hK2⟩
    replace HSl_b := Lib.hid (Sl.keeps HSl_b.out hK2)
    replace HSt := Lib.hid hSt2
    clear hSt2 hK2
    clear HSl7
    first | refine hK.out _ _ ?sd5_8 (fun hp => ?_) | (go_wp2_with fail; refine hK.out _ _ ?sd5_8 (fun hp => ?_))
    case sd5_8 => ((try dsimp only); exact ⟨HSl_b.out.2.2.2 0 _ rfl, HSl_b.out.2.2.2 1 _ rfl⟩)
    clear hK K hp
    try simp only [Act.put, List.setIfInBounds_toArray, List.set_cons_zero, List.set_cons_succ]
    exact HLd6 s3 s7 wn ⟨HSt, HSl_b⟩
  · intro s3 s7 wy hSt
    obtain ⟨HSt, HSl_b⟩ := hSt
    refine wpAnyH_done (by kernel_rfl) ?_ _
    have H9 := Lib.hid (HSt.out.sub HS1.out)
    clear HSt HSl_b
    go_wp2
    first | go_end0 | go_ret
    exact ⟨rfl, H9.out.1, H9.out.2.2, H9.out.2.1⟩
theorem stPut {p : Nat} {wd w : World} {l : List UInt8} (c n : Nat) (hS : St p wd l w) (hl : l.length ≤ 900000) (hn : n ≤ 11) :
    Calls Try.prog 108 #[.agg #[.int .u64 c, .int .i64 n], .pointer (some ⟨p, 0, none⟩)] w fun e w' => e = .returned (.tuple #[]) ∧ St p wd (l ++ (encU c ++ encN n)) w' ∧ Keeps p w w' := by
  refine (bPutK_any p c n l w hS.1 hl hn).mono ?_
  rintro e w' ⟨rfl, hW, hB, hK⟩
  exact ⟨rfl, hS.call (by rw [← List.append_assoc]; exact hW) hB hK, hK⟩
end Go.Proofs.Ytihhfdkcggnjpaa
