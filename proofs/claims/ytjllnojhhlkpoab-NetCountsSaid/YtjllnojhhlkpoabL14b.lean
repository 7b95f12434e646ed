import Derived.Test.YtjllnojhhlkpoabL14
import Derived.Test.YtjllnojhhlkpoabC02
import Derived.WalkKit
import Derived.ProofKit
import Derived.LoopTactic
import Derived.Outline
import Derived.WalkSpells
import Derived.WalkLawsBesides
import Derived.Lib.Hide
import Derived.Deep.LoopGhost
import Derived.Deep.QuietTactic
import Derived.BigQuiet
import Derived.ShutString
import Derived.IntWalk
import Derived.Lib.MinMax
import Derived.Deep.AppendLies
import Derived.Deep.RegionWith
import Derived.Deep.RegionHeld3
namespace Go.Proofs.Ytjllnojhhlkpoab
open Go.ChangeShapes Go.WideShapes Go.ChangeAt Go.RowKit
set_option linter.unusedVariables false
set_option linter.unusedSimpArgs false
open Nt
theorem beq14 (s t : ByteArray) : (s.toList == t.toList) = decide (s = t) := by
  rw [Bool.eq_iff_iff]
  simp only [beq_iff_eq, decide_eq_true_eq]
  constructor
  · intro h
    rw [Lib.toList_data, Lib.toList_data] at h
    exact ByteArray.ext (Array.toList_inj.1 h)
  · intro h; rw [h]
/-- A row of texts of the call's own, apart from a net. -/
structure TextsIs (w0 w : World) (tv : Value) (b : Nat) (v : Value) (T : List ByteArray) : Prop where
  row : w.ownsRow w0.heap.size 9 1 tv T.length (strCells T)
  off : ∀ k, tv.ownBlock = some k → k ≠ b ∧ v.ownBlock ≠ some k
theorem TextsIs.gr {w0 w w' : World} {sv v : Value} {b : Nat} {L : List ByteArray} (h : TextsIs w0 w sv b v L) (hg : Gr w w') : TextsIs w0 w' sv b v L := ⟨ownsRow_gr hg h.row, h.off⟩
theorem TextsIs.far {w0 w w' : World} {sv v v' : Value} {b : Nat} {L : List ByteArray} (h : TextsIs w0 w sv b v L) (hf : Far b v w w') (hv : From v w v') : TextsIs w0 w' sv b v' L :=
  ⟨ownsRow_far hf h.row (fun e => (h.off b e).1 rfl) (fun k e => (h.off k e).2), fun k e => ⟨(h.off k e).1, fun e2 => by
    rcases hv k e2 with h1 | h1
    · exact (h.off k e).2 h1
    · have := (h.row.lt k e).2; omega⟩⟩
/-- What is on its way was sent, and is counted. -/
structure Cn (x : N) (T : List ByteArray) (s g : Nat) : Prop where
  n : x.L.length + g = s
  t : ∀ p ∈ x.L, p.s ∈ T
theorem cn_send {x y : N} {p : P} {q : Bool} {T : List ByteArray} {s g : Nat} (h : Cn x T s g) (hs : Nt.send x p = (y, q)) : if q then Cn y (T ++ [p.s]) (s + 1) g else Cn y T s g := by
  unfold Nt.send Nt.add at hs
  split at hs
  · split at hs
    · simp only [Prod.mk.injEq] at hs; obtain ⟨rfl, rfl⟩ := hs
      rw [if_pos rfl]
      refine ⟨by have := h.n; show (x.L ++ [p]).length + g = _; simp; omega, fun r hr => ?_⟩
      rcases List.mem_append.1 hr with h1 | h1
      · exact List.mem_append_left _ (h.t r h1)
      · simp at h1; subst h1; simp
    · simp only [Prod.mk.injEq] at hs; obtain ⟨rfl, rfl⟩ := hs; exact h
  · simp only [Prod.mk.injEq] at hs; obtain ⟨rfl, rfl⟩ := hs; exact h
theorem cn_drop {x : N} {T : List ByteArray} {s g : Nat} (h : Cn x T s g) (k : Int) : ∃ dl, x.L.length = (Nt.drop x k).L.length + dl ∧ dl ≤ 1 ∧ Cn (Nt.drop x k) T s (g + dl) := by
  unfold Nt.drop
  cases hb : Nt.hasB x k
  · exact ⟨0, rfl, by omega, h⟩
  · have h1 := of_decide_eq_true hb
    have hl : (x.L.eraseIdx k.toNat).length = x.L.length - 1 := by rw [List.length_eraseIdx]; split <;> omega
    refine ⟨1, ?_, by omega, ?_, fun p hp => h.t p (List.mem_of_mem_eraseIdx hp)⟩
    · show x.L.length = (x.L.eraseIdx k.toNat).length + 1; omega
    · show (x.L.eraseIdx k.toNat).length + _ = _; have := h.n; omega
theorem look_mem {x : N} {k : Int} (hb : Nt.hasB x k = true) : (Nt.look x k).1 ∈ x.L := by
  obtain ⟨n, rfl, hn⟩ := hasB_nat hb
  unfold Nt.look
  rw [if_pos hb]
  show x.L.getD (n : Int).toNat pzero ∈ _
  rw [show (n : Int).toNat = n by omega, List.getD_eq_getElem?_getD, List.getElem?_eq_getElem hn]
  exact List.getElem_mem hn
theorem cn_again {x y : N} {k : Int} {q : Bool} {T : List ByteArray} {s g : Nat} (h : Cn x T s g) (hs : Nt.again x k = (y, q)) : if q then Cn y T (s + 1) g else Cn y T s g := by
  unfold Nt.again Nt.add at hs
  split at hs
  · rename_i hb
    split at hs
    · simp only [Prod.mk.injEq] at hs; obtain ⟨rfl, rfl⟩ := hs
      rw [if_pos rfl]
      refine ⟨by have := h.n; show (x.L ++ [_]).length + g = _; simp; omega, fun r hr => ?_⟩
      rcases List.mem_append.1 hr with h1 | h1
      · exact h.t r h1
      · simp at h1; subst h1; exact h.t _ (look_mem hb)
    · simp only [Prod.mk.injEq] at hs; obtain ⟨rfl, rfl⟩ := hs; exact h
  · simp only [Prod.mk.injEq] at hs; obtain ⟨rfl, rfl⟩ := hs; exact h
theorem cn_last {x : N} (hok : x.Ok) {k : Int} {T : List ByteArray} {s g : Nat} (h : Cn x T s g) : Cn (Nt.last x k).1 T s g := by
  unfold Nt.last
  cases hb : Nt.hasB x k
  · exact h
  · rw [if_pos rfl]
    have h1 := of_decide_eq_true hb
    have hd : Nt.drop x k = put x (x.L.eraseIdx k.toNat) := by unfold Nt.drop; rw [hb]; rfl
    have hl : (x.L.eraseIdx k.toNat).length = x.L.length - 1 := by rw [List.length_eraseIdx]; split <;> omega
    have hl2 : (Nt.drop x k).L.length < 4000 := by rw [hd]; show (x.L.eraseIdx k.toNat).length < _; have := hok.l; omega
    unfold Nt.add
    rw [if_pos hl2]
    refine ⟨?_, fun r hr => ?_⟩
    · show ((Nt.drop x k).L ++ [_]).length + g = s
      rw [hd]
      show (x.L.eraseIdx k.toNat ++ [_]).length + g = s
      rw [List.length_append]
      have := h.n
      simp; omega
    · have hr2 : r ∈ (Nt.drop x k).L ++ [(Nt.look x k).1] := hr
      rw [hd] at hr2
      rcases List.mem_append.1 hr2 with h2 | h2
      · exact h.t r (List.mem_of_mem_eraseIdx h2)
      · simp at h2; subst h2; exact h.t _ (look_mem hb)
theorem cn_cut {x : N} {T : List ByteArray} {s g : Nat} (h : Cn x T s g) (a c : Int) (q : Bool) : Cn (Nt.setCut x a c q) T s g := by
  unfold Nt.setCut; split
  · exact ⟨h.n, h.t⟩
  · exact h
theorem cn_take {x : N} {T : List ByteArray} {s g : Nat} (h : Cn x T s g) {k : Int} {p : P} {is : Bool} (ht : Nt.take x k = (p, is)) : is = true → p.s ∈ T := by
  intro hi
  unfold Nt.take at ht
  split at ht
  · rename_i hb
    simp only [Prod.mk.injEq] at ht
    obtain ⟨rfl, rfl⟩ := ht
    simp only [Bool.and_eq_true] at hb
    exact h.t _ (look_mem hb.1)
  · simp only [Prod.mk.injEq] at ht
    obtain ⟨rfl, rfl⟩ := ht
    cases hi
theorem info_str14 : (Try.prog.info? 9).map (fun i => (i.zero, i.size, i.bytes)) = some (some (.string ⟨#[]⟩), 1, 16) := by kernel_rfl
set_option maxRecDepth 100000 in
set_option maxHeartbeats 4000000 in
theorem counts_walk14 (n : Int) (L : List ActN) (a : Option Addr) (cap : Nat) (w : World) (hL : ActNRow w a L) :
    Calls Try.prog 4 #[.int .i64 n, .slice a L.length cap] w fun e w' => e = .returned (.bool true) ∧ Gr w w' := by
  obtain ⟨i0, hi, hz0, hz1, hz2⟩ := info_parts info_str14
  have HL := Lib.hid hL
  have hll := hL.1
  clear hL
  go_enter Try.func4, Try.ntmps4
  go_wp2_with fail
  refine (awake14 _).mono ?_
  rintro e w1 ⟨rfl, hg1⟩
  have HG1 := Lib.hid hg1
  clear hg1
  go_wp2_with fail
  refine (nnew_any n _).mono ?_
  rintro e w2 ⟨b, rfl, hb, h2, hg2⟩
  have H2 := Lib.hid (NtOwn.mk h2 (HG1.out.trans hg2) (by have := HG1.out.size; omega))
  clear hb h2 hg2
  go_wp2
  go_loopw [6, 7, 8, 9] (fun us ug tv i wr => ∃ (k s g : Nat) (v : Value) (x : N) (T : List ByteArray), k ≤ L.length ∧ k ≤ 40 ∧ us = .int .i64 (s : Nat) ∧ ug = .int .i64 (g : Nat) ∧ i = .int .i64 (k : Nat) ∧ s ≤ k ∧ T.length ≤ k ∧ Hid (NtOwn w wr b v x) ∧ Hid (TextsIs w wr tv b v T) ∧ Hid (Cn x T s g)) (fun _ _ _ i _ => L.length - (intOf i).toNat)
  case atStart => exact ⟨0, 0, 0, _, Nt.new n, [], by omega, by omega, rfl, rfl, rfl, by omega, by simp, H2, Lib.hid ⟨World.ownsRow_nil _ _ _ _, fun k e => by simp [Value.ownBlock] at e⟩, Lib.hid ⟨rfl, fun p hp => by simp [Nt.new] at hp⟩⟩
  case round =>
    clear H2 HG1
    obtain ⟨k, s, g, v, x, T, hk, hk40, rfl, rfl, rfl, hsk, hTk, H, HT, HC⟩ := hrel
    by_cases hlt : k < L.length
    · by_cases h40 : k < 40
      · obtain ⟨bb, oo, rfl, hbb, hat, hok⟩ := HL.out.at k hlt
        obtain ⟨c0, c1, c2, c3⟩ := hat.gr H.out.gr
        generalize L[k] = p at *
        have hS := hok.2.2.2
        have CU := Lib.hid (fun w => cut_any p.S 30 w hS (by decide))
        have hcs := cutB_le p.S 30
        generalize hct : cutB p.S 30 = ps at *
        clear hct hok hat hS
        obtain ⟨pK, pA, pB, pS⟩ := p
        simp only at c0 c1 c2 c3 CU
        have hk4 : (k : Int) < (L.length : Int) := by omega
        have hgs : g ≤ s := by have := HC.out.n; omega
        have hlx : x.L.length ≤ 40 := by have := HC.out.n; omega
        have HB5 := Lib.hid (Blk.new wr #[.int .i64 pK, .int .i64 pA, .int .i64 pB, .string pS] 34)
        have HG5 := Lib.hid ((Gr.refl wr).alloc (.cells #[.int .i64 pK, .int .i64 pA, .int .i64 pB, .string pS] 34))
        have H5 := Lib.hid (H.out.more HG5.out)
        have HT5 := Lib.hid (HT.out.gr HG5.out)
        have HA5 := Lib.hid (H.out.is.aside (Nat.le_refl _))
        go_wp2_with fail
        refine (nlen_any _ H5.out.is).mono ?_
        rintro e w5 ⟨rfl, rfl⟩
        generalize (wr.alloc (.cells #[.int .i64 pK, .int .i64 pA, .int .i64 pB, .string pS] 34)) = w5 at *
        generalize wr.heap.size = nb at *
        clear c0 c1 c2 c3 H HT HG5
        have c0 := HB5.out.cell (i := 0) rfl
        have c1 := HB5.out.cell (i := 1) rfl
        have c2 := HB5.out.cell (i := 2) rfl
        have c3 := HB5.out.cell (i := 3) rfl
        by_cases k0 : pK = 0
        · subst k0
          obtain ⟨y, q, hsend⟩ : ∃ y q, Nt.send x ⟨pA, pB, ps⟩ = (y, q) := ⟨_, _, rfl⟩
          have hcsn := cn_send HC.out hsend
          have HSE := Lib.hid hsend
          clear hsend
          go_wp2_with fail
          clear c0 c1 c2 c3
          refine wp_region_held_drew (S := (fun w9 => w9.cell? ⟨nb, 1, none⟩ = some (.int .i64 pA) ∧ w9.cell? ⟨nb, 2, none⟩ = some (.int .i64 pB) ∧ w9.cell? ⟨nb, 3, none⟩ = some (.string pS))) (by kernel_rfl) ?inva (fun h0 => ?_)
          case inva => ((try dsimp only); (exact ⟨HB5.out.cell rfl, HB5.out.cell rfl, HB5.out.cell rfl⟩))
          refine wpAnyH_take (i := 0) (oi := { dst := some 52, op := Go.Op.move (Go.Operand.tmp 5), type := 24, pos := "law.go:130", after := #[], guard := none }) (v := ?va1) rfl (by kernel_rfl) (by kernel_rfl) (by kernel_rfl) (fun _ _ _ h => h) (Or.inl ⟨by rfl, ?ra1⟩) (by assumption) ?_
          case ra1 => (intro w hSw; (try dsimp only at hSw); (go_simp <;> with_reducible rfl))
          try simp only [Act.put, List.setIfInBounds_toArray, List.set_cons_zero, List.set_cons_succ]
          refine wpAnyH_take (i := 1) (oi := { dst := some 53, op := Go.Op.fieldAddr 34 (Go.Operand.tmp 10) 1, type := 0, pos := "law.go:130", after := #[], guard := none }) (v := ?va2) rfl (by kernel_rfl) (by kernel_rfl) (by kernel_rfl) (fun _ _ _ h => h) (Or.inl ⟨by rfl, ?ra2⟩) (by assumption) ?_
          case ra2 => (intro w hSw; (try dsimp only at hSw); (go_simp <;> with_reducible rfl))
          try simp only [Act.put, List.setIfInBounds_toArray, List.set_cons_zero, List.set_cons_succ]
          refine wpAnyH_take (i := 2) (oi := { dst := some 54, op := Go.Op.load 3 (Go.Operand.tmp 53), type := 3, pos := "law.go:130", after := #[{ on := 1, ground := Go.Ground.data }], guard := none }) (v := ?va3) rfl (by kernel_rfl) (by kernel_rfl) (by kernel_rfl) (fun _ _ _ h => h) (Or.inl ⟨by rfl, ?ra3⟩) (by assumption) ?_
          case ra3 => (intro w hSw; (try dsimp only at hSw); (go_simp <;> with_reducible rfl))
          try simp only [Act.put, List.setIfInBounds_toArray, List.set_cons_zero, List.set_cons_succ]
          refine wpAnyH_take (i := 3) (oi := { dst := some 55, op := Go.Op.fieldAddr 34 (Go.Operand.tmp 10) 2, type := 0, pos := "law.go:130", after := #[], guard := none }) (v := ?va4) rfl (by kernel_rfl) (by kernel_rfl) (by kernel_rfl) (fun _ _ _ h => h) (Or.inl ⟨by rfl, ?ra4⟩) (by assumption) ?_
          case ra4 => (intro w hSw; (try dsimp only at hSw); (go_simp <;> with_reducible rfl))
          try simp only [Act.put, List.setIfInBounds_toArray, List.set_cons_zero, List.set_cons_succ]
          refine wpAnyH_take (i := 4) (oi := { dst := some 56, op := Go.Op.load 3 (Go.Operand.tmp 55), type := 3, pos := "law.go:130", after := #[{ on := 3, ground := Go.Ground.data }], guard := none }) (v := ?va5) rfl (by kernel_rfl) (by kernel_rfl) (by kernel_rfl) (fun _ _ _ h => h) (Or.inl ⟨by rfl, ?ra5⟩) (by assumption) ?_
          case ra5 => (intro w hSw; (try dsimp only at hSw); (go_simp <;> with_reducible rfl))
          try simp only [Act.put, List.setIfInBounds_toArray, List.set_cons_zero, List.set_cons_succ]
          refine wpAnyH_take (i := 5) (oi := { dst := some 57, op := Go.Op.fieldAddr 34 (Go.Operand.tmp 10) 3, type := 0, pos := "law.go:130", after := #[], guard := none }) (v := ?va6) rfl (by kernel_rfl) (by kernel_rfl) (by kernel_rfl) (fun _ _ _ h => h) (Or.inl ⟨by rfl, ?ra6⟩) (by assumption) ?_
          case ra6 => (intro w hSw; (try dsimp only at hSw); (go_simp <;> with_reducible rfl))
          try simp only [Act.put, List.setIfInBounds_toArray, List.set_cons_zero, List.set_cons_succ]
          refine wpAnyH_take (i := 6) (oi := { dst := some 58, op := Go.Op.load 9 (Go.Operand.tmp 57), type := 9, pos := "law.go:130", after := #[{ on := 5, ground := Go.Ground.data }], guard := none }) (v := ?va7) rfl (by kernel_rfl) (by kernel_rfl) (by kernel_rfl) (fun _ _ _ h => h) (Or.inl ⟨by rfl, ?ra7⟩) (by assumption) ?_
          case ra7 => (intro w hSw; (try dsimp only at hSw); (go_simp <;> with_reducible rfl))
          try simp only [Act.put, List.setIfInBounds_toArray, List.set_cons_zero, List.set_cons_succ]
          refine wpAnyH_ready (rs := [7]) (by kernel_rfl) (by simp) ?_
          refine AllReadyH.cons (o := { dst := some 59, op := Go.Op.call { callee := Go.Callee.value (Go.Operand.func 18), args := #[Go.Operand.tmp 58, Go.Operand.const (Go.Value.int Go.IntKind.i64 30)], argTypes := #[9, 3] }, type := 9, pos := "law.go:130", after := #[{ on := 6, ground := Go.Ground.data }], guard := none }) rfl (fun K hK => ?_) AllReadyH.nil
          go_simp
          (go_at_call 18; refine (CU.out _).mono ?_; rintro e w9 ⟨rfl, rfl⟩)
          first | refine hK.out _ _ ?sa8 (fun h8 => ?_) | (go_wp2_with fail; refine hK.out _ _ ?sa8 (fun h8 => ?_))
          case sa8 => ((try dsimp only); (first | exact h0 | exact ⟨HB6.out.cell rfl, HB6.out.cell rfl, HB6.out.cell rfl⟩))
          clear hK K h0
          try simp only [Act.put, List.setIfInBounds_toArray, List.set_cons_zero, List.set_cons_succ]
          refine wpAnyH_take (i := 8) (oi := { dst := some 60, op := Go.Op.build 42 #[(0, Go.Operand.tmp 54), (1, Go.Operand.tmp 56), (2, Go.Operand.tmp 59)], type := 42, pos := "law.go:130", after := #[{ on := 2, ground := Go.Ground.data }, { on := 4, ground := Go.Ground.data }, { on := 7, ground := Go.Ground.data }], guard := none }) (v := ?va9) rfl (by kernel_rfl) (by kernel_rfl) (by kernel_rfl) (fun _ _ _ h => h) (Or.inl ⟨by rfl, ?ra9⟩) (by assumption) ?_
          case ra9 => (intro w hSw; (try dsimp only at hSw); (go_simp <;> with_reducible rfl))
          try simp only [Act.put, List.setIfInBounds_toArray, List.set_cons_zero, List.set_cons_succ]
          refine wpAnyH_ready (rs := [9]) (by kernel_rfl) (by simp) ?_
          refine AllReadyH.cons (o := { dst := some 61, op := Go.Op.call { callee := Go.Callee.value (Go.Operand.func 17), args := #[Go.Operand.tmp 52, Go.Operand.tmp 60], argTypes := #[24, 42] }, type := 4, pos := "law.go:130", after := #[{ on := 0, ground := Go.Ground.data }, { on := 8, ground := Go.Ground.data }, { on := 7, ground := Go.Ground.chain }], guard := none }) rfl (fun K hK => ?_) AllReadyH.nil
          go_simp
          (go_at_call 17; refine (nsend_any ⟨pA, pB, ps⟩ _ (H5.out.more (Gr.refl _).drew).is (by show ps.size ≤ 1000000; omega)).mono ?_; rintro e w6 ⟨rfl, v6, h6, hf6, hv6⟩; rw [HSE.out] at h6 ⊢; have H6 := Lib.hid ((H5.out.more (Gr.refl _).drew).far h6 hf6); have HT6 := Lib.hid ((HT5.out.gr (Gr.refl _).drew).far hf6 hv6); have HB6 := Lib.hid ((HB5.out.gr (Gr.refl _).drew).far hf6 HA5.out.1 HA5.out.2); clear h6 hf6 hv6)
          first | refine hK.out _ _ ?sa10 (fun h10 => ?_) | (go_wp2_with fail; refine hK.out _ _ ?sa10 (fun h10 => ?_))
          case sa10 => ((try dsimp only); (first | exact h8 | exact ⟨HB6.out.cell rfl, HB6.out.cell rfl, HB6.out.cell rfl⟩))
          clear hK K h8
          try simp only [Act.put, List.setIfInBounds_toArray, List.set_cons_zero, List.set_cons_succ]
          refine wpAnyH_done (by kernel_rfl) ?_ _
          have c3 := HB6.out.cell (i := 3) rfl
          cases q
          · have HC6 := Lib.hid (show Cn y T s g from hcsn)
            clear hcsn c3
            have hcn := HC6.out.n
            have hne : (((y.L.length : Nat) : Int) != (((s : Nat) : Int) - ((g : Nat) : Int))) = false := by simp; omega
            have hws : IntKind.i64.wrap (((s : Nat) : Int) - ((g : Nat) : Int)) = ((s : Nat) : Int) - ((g : Nat) : Int) := IntWalk.i64_in _ (by omega)
            go_wp2_with fail
            refine (nlen_any _ H6.out.is).mono ?_
            rintro e w9 ⟨rfl, rfl⟩
            generalize y.L.length = ly at *
            clear hcn
            go_wp2
            go_roundw
            case rel => exact ⟨k + 1, s, g, v6, y, T, by omega, by omega, by go_num, by go_num, by go_num, by omega, by omega, H6, HT6, HC6⟩
            case measure => simp [intOf]; omega
          · have HC6 := Lib.hid (show Cn y (T ++ [ps]) (s + 1) g from hcsn)
            clear hcsn
            have hrow := HT6.out.row
            have HTL := Lib.hid (show (T ++ [ps]).length = T.length + 1 by simp)
            have HTC := Lib.hid (show strCells (T ++ [ps]) = strCells T ++ [.string ps] by simp [strCells])
            go_wp2_with fail
            refine (CU.out _).mono ?_
            rintro e w7 ⟨rfl, rfl⟩
            go_wp2_with (at_builtin; go_loud (refine wpList_append_lies _ rfl (.tmp 64) (.tmp 68) 37 rfl w.heap.size 9 i0 (.string ⟨#[]⟩) 1 16 Try.underlying37 hi hz0 hz1 hz2 rfl (by decide) _ _ _ rfl (hrow.alloc _) ⟨w6.heap.size, 0, none⟩ 1 1 [.string ps] rfl rfl ?c1 ?c2 Nat.one_pos ?c3 ?c4 ?c5 _ rfl ?_))
            case c1 => exact World.news_of_block (cs := #[.string ps]) (t := 9) (fr := (0, 0)) (heap_alloc_new w6 _)
            case c2 => intro u hu; simp at hu; subst hu; rfl
            case c3 => unfold maxLen; omega
            case c4 => omega
            case c5 => have := H6.out.gr.size; simp; omega
            intro g7 cap7 w7 hown7 hgrow7 hat7 hlt7
            have H7 := Lib.hid ((H6.out.more ((Gr.refl w6).alloc _)).grown (HT6.out.row.alloc _) hgrow7 HT6.out.off)
            have HT7 := Lib.hid (TextsIs.mk (b := b) (v := v6) (show w7.ownsRow w.heap.size 9 1 (.slice (some ⟨g7, 0, none⟩) (T.length + 1) cap7) (T ++ [ps]).length (strCells (T ++ [ps])) by rw [HTL.out, HTC.out]; exact hown7) (fun j e => by
              simp only [Value.ownBlock, Option.some.injEq] at e
              subst e
              rcases hat7 with h1 | h1
              · exact HT6.out.off _ h1
              · have hsz : (w6.alloc (.cells #[.string ps] 9)).heap.size = w6.heap.size + 1 := by simp
                exact ⟨by have := cell_lt H6.out.is.nodes; omega, fun e2 => by have := H6.out.is.away _ e2; omega⟩))
            clear hown7 hgrow7 hat7 hlt7 hrow c3
            have hcn := HC6.out.n
            have hne : (((y.L.length : Nat) : Int) != (((s : Int) + 1) - ((g : Nat) : Int))) = false := by simp; omega
            have hws : IntKind.i64.wrap (((s : Int) + 1) - ((g : Nat) : Int)) = ((s : Int) + 1) - ((g : Nat) : Int) := IntWalk.i64_in _ (by omega)
            go_wp2_with fail
            refine (nlen_any _ H7.out.is).mono ?_
            rintro e w9 ⟨rfl, rfl⟩
            generalize y.L.length = ly at *
            clear hcn
            go_wp2
            go_roundw
            case rel => exact ⟨k + 1, (s + 1), g, v6, y, (T ++ [ps]), by omega, by omega, by go_num, by go_num, by go_num, by omega, (by rw [HTL.out]; omega), H7, HT7, HC6⟩
            case measure => simp [intOf]; omega
        have e0 : (pK == 0) = false := by simp [k0]
        by_cases k1 : pK = 1
        · subst k1
          clear CU
          obtain ⟨ta, tc, rfl, htc⟩ := ownsRow_slice HT5.out.row
          clear htc
          obtain ⟨pp, is, htk⟩ : ∃ pp is, Nt.take x pA = (pp, is) := ⟨_, _, rfl⟩
          have HCT := Lib.hid (cn_take HC.out htk)
          have HTK := Lib.hid htk
          have HDR := Lib.hid (fun (w : World) (h : NtIs w b v x) => take_any14 pA w h)
          clear htk
          obtain ⟨dl, hd1, hd2, hd3⟩ := cn_drop HC.out pA
          have HC6 := Lib.hid hd3
          obtain ⟨g2, hg2⟩ : ∃ g2, g2 = g + dl := ⟨_, rfl⟩
          rw [← hg2] at HC6
          have HG2 := Lib.hid hg2
          clear hg2
          generalize Nt.drop x pA = y at *
          have HD1 := Lib.hid hd1
          clear hd3 hd1
          go_wp2_with fail
          refine (HDR.out _ H5.out.is).mono ?_
          rintro e w6 ⟨rfl, v6, h6, hf6, hv6⟩
          rw [HTK.out]
          have H6 := Lib.hid (H5.out.far h6 hf6)
          have HT6 := Lib.hid (HT5.out.far hf6 hv6)
          have HB6 := Lib.hid (HB5.out.far hf6 HA5.out.1 HA5.out.2)
          have HA6 := Lib.hid (HA5.out.from HB5.out.lt hv6)
          clear h6 hf6 hv6
          obtain ⟨qa, qb, qs⟩ := pp
          simp only [P.val]
          simp only at HCT
          have HG7 := Lib.hid ((Gr.refl w6).alloc (.cells #[.int .i64 qa, .int .i64 qb, .string qs] 42))
          have HB7 := Lib.hid (Blk.new w6 #[.int .i64 qa, .int .i64 qb, .string qs] 42)
          have H7 := Lib.hid (H6.out.more HG7.out)
          have HT7 := Lib.hid (HT6.out.gr HG7.out)
          generalize hTl : T.length = tl at *
          have HTL := Lib.hid hTl
          clear hTl
          go_wp2
          generalize w6.alloc (.cells #[.int .i64 qa, .int .i64 qb, .string qs] 42) = w7 at *
          generalize w6.heap.size = nc at *
          have p2 := HB7.out.cell (i := 2) rfl
          go_loopw [14, 83] (fun kn j wz => ∃ (jj : Nat) (q : Bool), jj ≤ tl ∧ kn = .bool q ∧ j = .int .i64 (jj : Nat) ∧ wz = w7 ∧ Hid ((q = true) ↔ (is = false ∨ qs ∈ T.take jj))) (fun _ j _ => tl - (intOf j).toNat)
          case atStart => exact ⟨0, !is, by omega, rfl, rfl, rfl, Lib.hid (by cases is <;> simp)⟩
          case round =>
            obtain ⟨jj, q, hjj, rfl, rfl, rfl, HQQ⟩ := hrel
            by_cases hjl : jj < tl
            · have hjT : jj < T.length := by rw [HTL.out]; exact hjl
              obtain ⟨ta2, tc2, hsv, hsc⟩ := ownsRow_slice HT7.out.row
              simp only [Value.slice.injEq] at hsv
              obtain ⟨rfl, -, rfl⟩ := hsv
              rcases hsc with ⟨-, h0⟩ | ⟨gt, rfl, hgl, hsc⟩
              · rw [HTL.out] at h0; omega
              have k0c := hsc jj (.string T[jj]) (by simp [strCells, hjT])
              have hmem : (qs ∈ T.take (jj + 1)) ↔ (qs ∈ T.take jj ∨ T[jj] = qs) := by rw [List.take_succ_eq_append_getElem hjT, List.mem_append, List.mem_singleton]; exact or_congr_right eq_comm
              have HMM := Lib.hid hmem
              clear hsc hmem
              generalize T[jj] = tj at *
              have hjj4 : (jj : Int) < (tl : Int) := by omega
              obtain ⟨z, hz⟩ : ∃ z, (tj.toList == qs.toList) = z := ⟨_, rfl⟩
              have HZ := Lib.hid (show z = decide (tj = qs) by rw [← hz]; exact beq14 _ _)
              have HNX := Lib.hid (show ((q || z) = true) ↔ (is = false ∨ qs ∈ T.take (jj + 1)) by
                rw [Bool.or_eq_true, HQQ.out, HMM.out, or_assoc, HZ.out, decide_eq_true_iff])
              clear HMM HZ
              cases q
              · go_wp2
                go_roundw
                case rel => exact ⟨jj + 1, z, by omega, rfl, by go_num, trivial, Lib.hid (by have := HNX.out; simpa using this)⟩
                case measure => simp [intOf]; omega
              · clear hz
                go_wp2
                go_roundw
                case rel => exact ⟨jj + 1, true, by omega, rfl, by go_num, trivial, Lib.hid (by have := HNX.out; simpa using this)⟩
                case measure => simp [intOf]; omega
            · obtain rfl : jj = tl := by omega
              obtain rfl : q = true := by
                refine HQQ.out.2 ?_
                rw [← HTL.out, List.take_length]
                cases is
                · exact .inl rfl
                · exact .inr (HCT.out rfl)
              clear p2
              go_wp2_with fail
              refine (nlen_any _ H7.out.is).mono ?_
              rintro e w8 ⟨rfl, rfl⟩
              have hw1 : IntKind.i64.wrap ((x.L.length : Int) - (y.L.length : Int)) = (x.L.length : Int) - (y.L.length : Int) := IntWalk.i64_in _ (by have := HD1.out; omega)
              have hw2 : IntKind.i64.wrap ((g : Int) + ((x.L.length : Int) - (y.L.length : Int))) = (g2 : Int) := by rw [IntWalk.i64_in _ (by have := HD1.out; omega)]; have := HD1.out; have := HG2.out; omega
              have hg40 : g2 ≤ 40 := by have := HC6.out.n; omega
              go_wp2_with fail
              have hgv : (g : Int) + ((x.L.length : Int) - (y.L.length : Int)) = (g2 : Int) := by have := HD1.out; have := HG2.out; omega
              try simp only [hgv]
              clear hw1 hw2 hd2 hgv
              have hcn := HC6.out.n
              have hne : (((y.L.length : Nat) : Int) != (((s : Nat) : Int) - ((g2 : Nat) : Int))) = false := by simp; omega
              have hws : IntKind.i64.wrap (((s : Nat) : Int) - ((g2 : Nat) : Int)) = ((s : Nat) : Int) - ((g2 : Nat) : Int) := IntWalk.i64_in _ (by omega)
              refine (nlen_any _ H7.out.is).mono ?_
              rintro e w9 ⟨rfl, rfl⟩
              generalize y.L.length = ly at *
              clear hcn
              go_wp2
              go_roundw
              case rel => (have hd1 := HD1.out; have hg2 := HG2.out; have hcn := HC6.out.n); exact ⟨k + 1, s, g2, v6, y, T, by omega, by omega, by go_num, (by have := HD1.out; have := HG2.out; go_num), by go_num, by omega, (by rw [HTL.out]; omega), H7, HT7, HC6⟩
              case measure => simp [intOf]; omega
        have e1 : (pK == 1) = false := by simp [k1]
        by_cases k2 : pK = 2
        · subst k2
          clear CU
          have HDR := Lib.hid (fun (w : World) (h : NtIs w b v x) => ndrop_any pA w h)
          obtain ⟨dl, hd1, hd2, hd3⟩ := cn_drop HC.out pA
          have HC6 := Lib.hid hd3
          obtain ⟨g2, hg2⟩ : ∃ g2, g2 = g + dl := ⟨_, rfl⟩
          rw [← hg2] at HC6
          have HG2 := Lib.hid hg2
          clear hg2
          generalize Nt.drop x pA = y at *
          have HD1 := Lib.hid hd1
          clear hd3 hd1
          go_wp2_with fail
          refine (HDR.out _ H5.out.is).mono ?_
          rintro e w6 ⟨rfl, v6, h6, hf6, hv6⟩
          have H6 := Lib.hid (H5.out.far h6 hf6)
          have HT6 := Lib.hid (HT5.out.far hf6 hv6)
          have HB6 := Lib.hid (HB5.out.far hf6 HA5.out.1 HA5.out.2)
          have HA6 := Lib.hid (HA5.out.from HB5.out.lt hv6)
          clear h6 hf6 hv6
          go_wp2_with fail
          refine (nlen_any _ H6.out.is).mono ?_
          rintro e w8 ⟨rfl, rfl⟩
          have hw1 : IntKind.i64.wrap ((x.L.length : Int) - (y.L.length : Int)) = (x.L.length : Int) - (y.L.length : Int) := IntWalk.i64_in _ (by have := HD1.out; omega)
          have hw2 : IntKind.i64.wrap ((g : Int) + ((x.L.length : Int) - (y.L.length : Int))) = (g2 : Int) := by rw [IntWalk.i64_in _ (by have := HD1.out; omega)]; have := HD1.out; have := HG2.out; omega
          have hg40 : g2 ≤ 40 := by have := HC6.out.n; omega
          go_wp2_with fail
          have hgv : (g : Int) + ((x.L.length : Int) - (y.L.length : Int)) = (g2 : Int) := by have := HD1.out; have := HG2.out; omega
          try simp only [hgv]
          clear hw1 hw2 hd2 hgv
          have hcn := HC6.out.n
          have hne : (((y.L.length : Nat) : Int) != (((s : Nat) : Int) - ((g2 : Nat) : Int))) = false := by simp; omega
          have hws : IntKind.i64.wrap (((s : Nat) : Int) - ((g2 : Nat) : Int)) = ((s : Nat) : Int) - ((g2 : Nat) : Int) := IntWalk.i64_in _ (by omega)
          refine (nlen_any _ H6.out.is).mono ?_
          rintro e w9 ⟨rfl, rfl⟩
          generalize y.L.length = ly at *
          clear hcn
          go_wp2
          go_roundw
          case rel => (have hd1 := HD1.out; have hg2 := HG2.out; have hcn := HC6.out.n); exact ⟨k + 1, s, g2, v6, y, T, by omega, by omega, by go_num, (by have := HD1.out; have := HG2.out; go_num), by go_num, by omega, by omega, H6, HT6, HC6⟩
          case measure => simp [intOf]; omega
        have e2 : (pK == 2) = false := by simp [k2]
        by_cases k3 : pK = 3
        · subst k3
          clear CU
          obtain ⟨y, q, hag⟩ : ∃ y q, Nt.again x pA = (y, q) := ⟨_, _, rfl⟩
          have hca := cn_again HC.out hag
          have HAG := Lib.hid hag
          clear hag
          go_wp2_with fail
          refine (again_any pA _ H5.out.is).mono ?_
          rintro e w6 ⟨rfl, v6, h6, hf6, hv6⟩
          rw [HAG.out] at h6 ⊢
          have H6 := Lib.hid (H5.out.far h6 hf6)
          have HT6 := Lib.hid (HT5.out.far hf6 hv6)
          have HB6 := Lib.hid (HB5.out.far hf6 HA5.out.1 HA5.out.2)
          have HA6 := Lib.hid (HA5.out.from HB5.out.lt hv6)
          clear h6 hf6 hv6
          cases q
          · have HC6 := Lib.hid (show Cn y T s g from hca)
            clear hca
            have hcn := HC6.out.n
            have hne : (((y.L.length : Nat) : Int) != (((s : Nat) : Int) - ((g : Nat) : Int))) = false := by simp; omega
            have hws : IntKind.i64.wrap (((s : Nat) : Int) - ((g : Nat) : Int)) = ((s : Nat) : Int) - ((g : Nat) : Int) := IntWalk.i64_in _ (by omega)
            go_wp2_with fail
            refine (nlen_any _ H6.out.is).mono ?_
            rintro e w9 ⟨rfl, rfl⟩
            generalize y.L.length = ly at *
            clear hcn
            go_wp2
            go_roundw
            case rel => exact ⟨k + 1, s, g, v6, y, T, by omega, by omega, by go_num, by go_num, by go_num, by omega, by omega, H6, HT6, HC6⟩
            case measure => simp [intOf]; omega
          · have HC6 := Lib.hid (show Cn y T (s + 1) g from hca)
            clear hca
            have hcn := HC6.out.n
            have hne : (((y.L.length : Nat) : Int) != (((s : Int) + 1) - ((g : Nat) : Int))) = false := by simp; omega
            have hws : IntKind.i64.wrap (((s : Int) + 1) - ((g : Nat) : Int)) = ((s : Int) + 1) - ((g : Nat) : Int) := IntWalk.i64_in _ (by omega)
            go_wp2_with fail
            refine (nlen_any _ H6.out.is).mono ?_
            rintro e w9 ⟨rfl, rfl⟩
            generalize y.L.length = ly at *
            clear hcn
            go_wp2
            go_roundw
            case rel => exact ⟨k + 1, (s + 1), g, v6, y, T, by omega, by omega, by go_num, by go_num, by go_num, by omega, by omega, H6, HT6, HC6⟩
            case measure => simp [intOf]; omega
        have e3 : (pK == 3) = false := by simp [k3]
        by_cases k4 : pK = 4
        · subst k4
          clear CU
          have HC6 := Lib.hid (cn_last H5.out.is.ok (k := pA) HC.out)
          go_wp2_with fail
          refine (last_any pA _ H5.out.is).mono ?_
          rintro e w6 ⟨rfl, v6, h6, hf6, hv6⟩
          have H6 := Lib.hid (H5.out.far h6 hf6)
          have HT6 := Lib.hid (HT5.out.far hf6 hv6)
          have HB6 := Lib.hid (HB5.out.far hf6 HA5.out.1 HA5.out.2)
          have HA6 := Lib.hid (HA5.out.from HB5.out.lt hv6)
          clear h6 hf6 hv6
          have hcn := HC6.out.n
          have hne : ((((Nt.last x pA).1.L.length : Nat) : Int) != (((s : Nat) : Int) - ((g : Nat) : Int))) = false := by simp; omega
          have hws : IntKind.i64.wrap (((s : Nat) : Int) - ((g : Nat) : Int)) = ((s : Nat) : Int) - ((g : Nat) : Int) := IntWalk.i64_in _ (by omega)
          go_wp2_with fail
          refine (nlen_any _ H6.out.is).mono ?_
          rintro e w9 ⟨rfl, rfl⟩
          generalize (Nt.last x pA).1.L.length = ly at *
          clear hcn
          go_wp2
          go_roundw
          case rel => exact ⟨k + 1, s, g, v6, (Nt.last x pA).1, T, by omega, by omega, by go_num, by go_num, by go_num, by omega, by omega, H6, HT6, HC6⟩
          case measure => simp [intOf]; omega
        have e4 : (pK == 4) = false := by simp [k4]
        clear CU
        obtain ⟨qc, hqc⟩ : ∃ qc, (pK == 5) = qc := ⟨_, rfl⟩
        have HQC := Lib.hid hqc
        have HC6 := Lib.hid (cn_cut HC.out pA pB qc)
        clear hqc
        go_wp2_with (simp only [HQC.out])
        refine (cut_any14 pA pB qc _ H5.out.is).mono ?_
        rintro e w6 ⟨rfl, v6, h6, hf6, hv6⟩
        have H6 := Lib.hid (H5.out.far h6 hf6)
        have HT6 := Lib.hid (HT5.out.far hf6 hv6)
        have HB6 := Lib.hid (HB5.out.far hf6 HA5.out.1 HA5.out.2)
        have HA6 := Lib.hid (HA5.out.from HB5.out.lt hv6)
        clear h6 hf6 hv6
        have hcn := HC6.out.n
        have hne : ((((Nt.setCut x pA pB qc).L.length : Nat) : Int) != (((s : Nat) : Int) - ((g : Nat) : Int))) = false := by simp; omega
        have hws : IntKind.i64.wrap (((s : Nat) : Int) - ((g : Nat) : Int)) = ((s : Nat) : Int) - ((g : Nat) : Int) := IntWalk.i64_in _ (by omega)
        go_wp2_with fail
        refine (nlen_any _ H6.out.is).mono ?_
        rintro e w9 ⟨rfl, rfl⟩
        generalize (Nt.setCut x pA pB qc).L.length = ly at *
        clear hcn
        go_wp2
        go_roundw
        case rel => exact ⟨k + 1, s, g, v6, (Nt.setCut x pA pB qc), T, by omega, by omega, by go_num, by go_num, by go_num, by omega, by omega, H6, HT6, HC6⟩
        case measure => simp [intOf]; omega
      · obtain rfl : k = 40 := by omega
        go_wp2
        go_ret
        exact ⟨rfl, H.out.gr⟩
    · obtain rfl : k = L.length := by omega
      go_wp2
      go_ret
      exact ⟨rfl, H.out.gr⟩
end Go.Proofs.Ytjllnojhhlkpoab
