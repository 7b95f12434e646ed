import Derived.Test.YtahohgnkichibabF14c
import Derived.WalkKit
import Derived.ProofKit
import Derived.LoopTactic
import Derived.Outline
import Derived.WalkSpells
import Derived.WalkLawsBesides
import Derived.Lib.Hide
import Derived.Deep.LoopGhost
import Derived.Deep.QuietTactic
import Derived.BigQuiet
import Derived.ShutString
import Derived.IntWalk
import Derived.Lib.MinMax
import Derived.Deep.AppendLies
import Derived.Deep.RegionWith
import Derived.Deep.RegionHeld3
namespace Go.Proofs.Ytahohgnkichibab
open Go.ChangeShapes Go.WideShapes Go.ChangeAt Go.RowKit
set_option linter.unusedVariables false
set_option linter.unusedSimpArgs false
open Nt
theorem Blk.far {b n : Nat} {v : Value} {w w' : World} {cs : Array Value} {t : TypeId} (h : Blk w n cs t) (hf : Far b v w w') (hb : n ≠ b) (hv : v.ownBlock ≠ some n) : Blk w' n cs t := (hf.block n h.lt hb hv).trans h
theorem grow_reset {w w5 : World} {b : Nat} {v v5 : Value} {x : N} {L : List P} (h : NtIs w b v x) (hgrow : w.grownBy w5 v.ownBlock)
    (h5 : w5.ownsRow (b + 1) 39 3 v5 L.length (pcells L)) (hok : (put x L).Ok) (hfrom : From v w v5) : NtTo b v w (put x L) (w5.setCell ⟨b, 1, none⟩ v5) :=
  h.reset (Far.of_grown hgrow) (fun o u hu => grow_cell hgrow hu h.off) (fun o => grow_free hgrow (cell_lt h.nodes) h.off) h5 hok hfrom
theorem ndrop_yes {b : Nat} {v : Value} {x : N} (k : Nat) (w : World) (h : NtIs w b v x) (hk : k < x.L.length) :
    Calls Try.prog 18 #[.pointer (some ⟨b, 0, none⟩), .int .i64 (k : Nat)] w fun e w' => e = .returned (.bool true) ∧ NtTo b v w (put x (x.L.eraseIdx k)) w' := by
  have HH := Lib.hid (nhas_any (k : Nat) w h)
  rw [show Nt.hasB x k = true from decide_eq_true ⟨by omega, by omega⟩] at HH
  obtain ⟨g, cap, hv, hbg, hgl, hnc, hcm, _⟩ := h.form (by omega)
  obtain ⟨m, hm⟩ : ∃ m, x.L.length = k + m + 1 := ⟨x.L.length - k - 1, by omega⟩
  have c1 := h.rowv
  have f1 := h.free 1 (by decide)
  have hown := h.row
  have hll := h.ok.l
  have hok : (put x (x.L.eraseIdx k)).Ok := by
    have h1 := drop_ok h.ok (k : Int)
    unfold Nt.drop at h1
    rw [if_pos (show Nt.hasB x k = true from decide_eq_true ⟨by omega, by omega⟩)] at h1
    exact h1
  have HOK := Lib.hid hok
  have H := Lib.hid h
  rw [hv, hm] at hown
  have HD := Lib.hid (ndelete_any x.L w hm hown (by omega))
  have HLE := Lib.hid (show (x.L.eraseIdx k).length = k + m by rw [List.length_eraseIdx]; split <;> omega)
  have hoff := h.off
  have HOFF := Lib.hid hoff
  rw [hm] at hv
  subst hv
  have hbl := cell_lt c1
  have hkw : IntKind.i64.wrap ((k : Int) + 1) = (k : Int) + 1 := IntWalk.i64_in _ (by omega)
  clear h hok hown hoff hm hnc hk hgl
  go_enter Try.func18, Try.ntmps18
  go_wp2_with fail
  refine HH.out.mono ?_
  rintro e w2 ⟨rfl, rfl⟩
  go_wp2_with fail
  refine HD.out.mono ?_
  rintro e w3 ⟨rfl, hown3, hgrow3⟩
  have d1 := grow_cell hgrow3 c1 HOFF.out
  have d2 := (grow_free hgrow3 hbl HOFF.out (o := 1)).trans f1
  have HR := Lib.hid (grow_reset H.out hgrow3 (v5 := .slice (some ⟨g, 0, none⟩) (k + m) cap) (L := x.L.eraseIdx k) (by rw [HLE.out]; exact hown3) HOK.out (fun k e => .inl e))
  clear hown3 hgrow3 c1 f1
  go_wp2
  go_ret
  exact ⟨rfl, HR.out⟩
theorem ndrop_any {b : Nat} {v : Value} {x : N} (k : Int) (w : World) (h : NtIs w b v x) :
    Calls Try.prog 18 #[.pointer (some ⟨b, 0, none⟩), .int .i64 k] w fun e w' => e = .returned (.bool (Nt.hasB x k)) ∧ NtTo b v w (Nt.drop x k) w' := by
  unfold Nt.drop
  cases hk : Nt.hasB x k
  · have HH := Lib.hid (nhas_any k w h)
    rw [hk] at HH
    have H := Lib.hid h
    rw [if_neg (by decide)]
    clear h hk
    go_enter Try.func18, Try.ntmps18
    go_wp2_with fail
    refine HH.out.mono ?_
    rintro e w2 ⟨rfl, rfl⟩
    go_wp2
    go_ret
    exact ⟨rfl, NtTo.same H.out (Gr.refl _)⟩
  · obtain ⟨n, rfl, hn⟩ := hasB_nat hk
    rw [if_pos rfl]
    exact ndrop_yes n w h hn
theorem isCut_drop (x : N) (k a c : Int) : Nt.isCut (Nt.drop x k) a c = Nt.isCut x a c := by unfold Nt.drop; split <;> rfl
theorem NtTo.from {b : Nat} {v : Value} {w w2 w3 : World} {x y : N} (h : NtTo b v w x w2) (k : ∀ v2, NtIs w2 b v2 x → NtTo b v2 w2 y w3) : NtTo b v w y w3 := by
  obtain ⟨v2, h1, h2, h3⟩ := h
  obtain ⟨v3, k1, k2, k3⟩ := k v2 h1
  exact ⟨v3, k1, h2.trans h3 k2, h3.trans h2.size k3⟩
theorem NtTo.gr {b : Nat} {v : Value} {w w2 w3 : World} {x : N} (h : NtTo b v w x w2) (hg : Gr w2 w3) : NtTo b v w x w3 := h.from fun v2 h2 => NtTo.same h2 hg
set_option maxRecDepth 100000 in
theorem again_any {b : Nat} {v : Value} {x : N} (k : Int) (w : World) (h : NtIs w b v x) :
    Calls Try.prog 19 #[.pointer (some ⟨b, 0, none⟩), .int .i64 k] w fun e w' => e = .returned (.bool (Nt.again x k).2) ∧ NtTo b v w (Nt.again x k).1 w' := by
  have HH := Lib.hid (nhas_any k w h)
  unfold Nt.again
  cases hk : Nt.hasB x k
  · rw [hk] at HH
    have H := Lib.hid h
    rw [if_neg (by decide)]
    clear h hk
    go_enter Try.func19, Try.ntmps19
    go_wp2_with fail
    refine HH.out.mono ?_
    rintro e w2 ⟨rfl, rfl⟩
    go_wp2
    go_ret
    exact ⟨rfl, NtTo.same H.out (Gr.refl _)⟩
  · rw [hk] at HH
    obtain ⟨n, rfl, hn⟩ := hasB_nat hk
    rw [if_pos rfl]
    have e : (Nt.look x (n : Int)).1 = x.L[n] := by
      unfold Nt.look
      rw [if_pos hk]
      show x.L.getD (n : Int).toNat pzero = _
      rw [show (n : Int).toNat = n by omega, List.getD_eq_getElem?_getD, List.getElem?_eq_getElem hn]; rfl
    rw [e]
    have HA := Lib.hid (fun (w : World) (h : NtIs w b v x) => add_any x.L[n] w h (h.ok.s _ (List.getElem_mem hn)))
    obtain ⟨g, cap, hv, hbg, hgl, _, _, hc⟩ := h.form (by omega)
    obtain ⟨k0, k1, k2⟩ := pcells_get x.L n hn w g hc
    have c1 := h.rowv
    have H := Lib.hid h
    clear h hc hk e
    generalize x.L[n] = p at *
    generalize add x p = y at *
    generalize x.L.length = ln at *
    obtain ⟨pa, pb, s⟩ := p
    simp only [P.val] at HA k0 k1 k2
    subst hv
    have hk1 : (n : Int) < (ln : Int) := by omega
    go_enter Try.func19, Try.ntmps19
    go_wp2_with fail
    refine HH.out.mono ?_
    rintro e w2 ⟨rfl, rfl⟩
    go_wp2_with fail
    refine (HA.out _ H.out).mono ?_
    rintro e w3 ⟨rfl, hn⟩
    have HN := Lib.hid hn
    clear hn k0 k1 k2 c1
    go_wp2
    go_ret
    exact ⟨rfl, HN.out⟩
set_option maxRecDepth 100000 in
theorem last_any {b : Nat} {v : Value} {x : N} (k : Int) (w : World) (h : NtIs w b v x) :
    Calls Try.prog 10 #[.pointer (some ⟨b, 0, none⟩), .int .i64 k] w fun e w' => e = .returned (.bool (Nt.last x k).2) ∧ NtTo b v w (Nt.last x k).1 w' := by
  have HL := Lib.hid (look_any k w h)
  have HD := Lib.hid (fun w (h : NtIs w b v x) => ndrop_any k w h)
  have HSZ := look_s h.ok k
  have H := Lib.hid h
  have HE := Lib.hid (show Nt.last x k = if Nt.hasB x k then add (Nt.drop x k) (Nt.look x k).1 else (x, false) from rfl)
  have HB : (Nt.look x k).2 = Nt.hasB x k := by unfold Nt.look; cases Nt.hasB x k <;> rfl
  rw [HB] at HL
  have HA := Lib.hid (fun v (w : World) (h : NtIs w b v (Nt.drop x k)) => add_any (Nt.look x k).1 w h HSZ)
  clear h HB HSZ
  generalize Nt.last x k = z at *
  generalize add (Nt.drop x k) (Nt.look x k).1 = y at *
  generalize (Nt.look x k).1 = p at *
  generalize Nt.drop x k = xd at *
  generalize Nt.hasB x k = q at *
  obtain ⟨pa, pb, s⟩ := p
  simp only [P.val] at HA HL
  cases q
  · rw [if_neg (by decide)] at HE
    obtain rfl := HE.out
    go_enter Try.func10, Try.ntmps10
    go_wp2_with fail
    refine HL.out.mono ?_
    rintro e w2 ⟨rfl, hg2⟩
    have HG := Lib.hid hg2
    clear hg2
    go_wp2
    go_ret
    exact ⟨rfl, NtTo.same H.out (HG.out.alloc _)⟩
  · rw [if_pos rfl] at HE
    obtain rfl := HE.out
    go_enter Try.func10, Try.ntmps10
    go_wp2_with fail
    refine HL.out.mono ?_
    rintro e w2 ⟨rfl, hg2⟩
    have HG := Lib.hid hg2
    clear hg2
    go_wp2_with fail
    have HB := Lib.hid (Blk.new w2 #[.int .i64 pa, .int .i64 pb, .string s] 39)
    have HG3 := Lib.hid (HG.out.alloc (.cells #[.int .i64 pa, .int .i64 pb, .string s] 39))
    have HFR := Lib.hid (show ∀ w3, Far b v (w2.alloc (.cells #[.int .i64 pa, .int .i64 pb, .string s] 39)) w3 → Blk w3 w2.heap.size #[.int .i64 pa, .int .i64 pb, .string s] 39 from fun w3 hf => HB.out.far hf (by have := cell_lt H.out.nodes; have := HG.out.size; omega) (fun e => by have := H.out.away _ e; have := HG.out.size; omega))
    refine (HD.out _ (H.out.gr HG3.out)).mono ?_
    rintro e w4 ⟨rfl, v4, h4, hf4, hv4⟩
    have HB4 := Lib.hid (HFR.out w4 hf4)
    have HF4 := Lib.hid ((Far.of_gr HG3.out).trans (From.refl v w) hf4)
    have HV4 := Lib.hid (show From v w v4 from fun k e => (hv4 k e).imp id (fun h => Nat.le_trans HG3.out.size h))
    have H4 := Lib.hid h4
    clear h4 hf4 hv4
    have p0 := HB4.out.cell (i := 0) rfl
    have p1 := HB4.out.cell (i := 1) rfl
    have p2 := HB4.out.cell (i := 2) rfl
    go_wp2_with fail
    refine (HA.out v4 _ H4.out).mono ?_
    rintro e w5 ⟨rfl, hn5⟩
    obtain ⟨v5, k1, k2, k3⟩ := hn5
    have HR := Lib.hid (show NtTo b v w z.1 w5 from ⟨v5, k1, HF4.out.trans HV4.out k2, HV4.out.trans HF4.out.size k3⟩)
    clear p0 p1 p2 k1 k2 k3
    go_wp2
    go_ret
    exact ⟨rfl, HR.out⟩
theorem NtTo.side {b n : Nat} {v v4 : Value} {w w4 : World} {y : N} (h : NtIs w4 b v4 y) (hf : Far b v w w4) (hv : From v w v4) (hn : n ≠ b) (hvn : v4.ownBlock ≠ some n) (hw : w.heap.size ≤ n) (x1 x2 x3 : Value) :
    NtTo b v w y (((w4.setCell ⟨n, 0, none⟩ x1).setCell ⟨n, 1, none⟩ x2).setCell ⟨n, 2, none⟩ x3) := by
  have S3 : Far n (.slice none 0 0) w4 (((w4.setCell ⟨n, 0, none⟩ x1).setCell ⟨n, 1, none⟩ x2).setCell ⟨n, 2, none⟩ x3) := ((Far.setCell n 0 _ _ _).trans (From.refl _ _) (Far.setCell n 1 _ _ _)).trans (From.refl _ _) (Far.setCell n 2 _ _ _)
  refine ⟨v4, h.far S3 (fun e => hn e.symm) (fun e => by simp [Value.ownBlock] at e) hvn (fun k _ e => by simp [Value.ownBlock] at e), ⟨S3.os.trans hf.os, S3.tape.trans hf.tape, S3.output.trans hf.output, Nat.le_trans hf.size S3.size, fun k hk hb hkv => (S3.block k (Nat.lt_of_lt_of_le hk hf.size) (by omega) (fun e => by simp [Value.ownBlock] at e)).trans (hf.block k hk hb hkv)⟩, hv⟩
theorem take_eq (x : N) (k : Int) : Nt.take x k = if Nt.hasB x k then (if Nt.isCut (Nt.drop x k) (Nt.look x k).1.a (Nt.look x k).1.b then (pzero, false) else ((Nt.look x k).1, true)) else (pzero, false) := by
  rw [isCut_drop]
  unfold Nt.take
  cases Nt.hasB x k
  · rfl
  · cases Nt.isCut x (Nt.look x k).1.a (Nt.look x k).1.b <;> rfl
set_option maxRecDepth 100000 in
set_option maxHeartbeats 1000000 in
theorem take_any14 {b : Nat} {v : Value} {x : N} (k : Int) (w : World) (h : NtIs w b v x) :
    Calls Try.prog 11 #[.pointer (some ⟨b, 0, none⟩), .int .i64 k] w fun e w' => e = .returned (.tuple #[(Nt.take x k).1.val, .bool (Nt.take x k).2]) ∧ NtTo b v w (Nt.drop x k) w' := by
  have HL := Lib.hid (fun w (h : NtIs w b v x) => look_any k w h)
  have HD := Lib.hid (fun w (h : NtIs w b v x) => ndrop_any k w h)
  have H := Lib.hid h
  have HE := Lib.hid (take_eq x k)
  have HB : (Nt.look x k).2 = Nt.hasB x k := by unfold Nt.look; cases Nt.hasB x k <;> rfl
  rw [HB] at HL
  have HC := Lib.hid (fun v (w : World) (h : NtIs w b v (Nt.drop x k)) => isCut_any (Nt.look x k).1.a (Nt.look x k).1.b w h)
  clear h HB
  generalize Nt.take x k = z at *
  generalize Nt.isCut (Nt.drop x k) (Nt.look x k).1.a (Nt.look x k).1.b = ic at *
  generalize (Nt.look x k).1 = p at *
  generalize Nt.drop x k = xd at *
  generalize Nt.hasB x k = q at *
  obtain ⟨pa, pb, s⟩ := p
  simp only [P.val] at HL HC
  have HBR := Lib.hid (Blk.new w #[.int .i64 0, .int .i64 0, .string ⟨#[]⟩] 39)
  have HGR := Lib.hid ((Gr.refl w).alloc (.cells #[.int .i64 0, .int .i64 0, .string ⟨#[]⟩] 39))
  have HLT := Lib.hid (cell_lt H.out.nodes)
  have HAW := Lib.hid (fun k e => (H.out.away k e).2)
  have HSZ := Lib.hid (show w.heap.size < (w.alloc (.cells #[.int .i64 0, .int .i64 0, .string ⟨#[]⟩] 39)).heap.size by simp)
  go_enter Try.func11, Try.ntmps11
  go_wp2_with fail
  refine (HL.out _ (H.out.gr HGR.out)).mono ?_
  rintro e w2 ⟨rfl, hg2⟩
  have HG := Lib.hid (HGR.out.trans hg2)
  have HN2 := Lib.hid (Nat.lt_of_lt_of_le HSZ.out hg2.size)
  have HB := Lib.hid (Blk.new w2 #[.int .i64 pa, .int .i64 pb, .string s] 39)
  have HG3 := Lib.hid (HG.out.alloc (.cells #[.int .i64 pa, .int .i64 pb, .string s] 39))
  have HBR3 := Lib.hid ((HBR.out.gr hg2).gr ((Gr.refl w2).alloc (.cells #[.int .i64 pa, .int .i64 pb, .string s] 39)))
  clear hg2
  go_wp2_with fail
  refine (HD.out _ (H.out.gr HG3.out)).mono ?_
  rintro e w4 ⟨rfl, v4, h4, hf4, hv4⟩
  have HB4 := Lib.hid (HB.out.far hf4 (by have := HLT.out; have := HG.out.size; omega) (fun e => by have := HAW.out _ e; have := HG.out.size; omega))
  have HBR4 := Lib.hid (HBR3.out.far hf4 (by have := HLT.out; omega) (fun e => by have := HAW.out _ e; omega))
  have HF4 := Lib.hid ((Far.of_gr HG3.out).trans (From.refl v w) hf4)
  have HV4 := Lib.hid (show From v w v4 from fun k e => (hv4 k e).imp id (fun h => Nat.le_trans HG3.out.size h))
  have H4 := Lib.hid h4
  have HN4 := Lib.hid (show v4.ownBlock ≠ some w.heap.size from fun e => by
    rcases hv4 _ e with h1 | h1
    · have := HAW.out _ h1; omega
    · have := HN2.out; have := ((Gr.refl w2).alloc (.cells #[.int .i64 pa, .int .i64 pb, .string s] 39)).size; omega)
  have HNB := Lib.hid (show w.heap.size ≠ b by have := HLT.out; omega)
  clear h4 hf4 hv4
  have p0 := HB4.out.cell (i := 0) rfl
  have p1 := HB4.out.cell (i := 1) rfl
  have p2 := HB4.out.cell (i := 2) rfl
  have r0 := HBR4.out.cell (i := 0) rfl
  have r1 := HBR4.out.cell (i := 1) rfl
  have r2 := HBR4.out.cell (i := 2) rfl
  have f0 := HBR4.out.free 0
  have f1 := HBR4.out.free 1
  have f2 := HBR4.out.free 2
  cases q
  · rw [if_neg (by decide)] at HE
    obtain rfl := HE.out
    go_wp2
    have HZ := Lib.hid (HBR4.out.store3 (.int .i64 0) (.int .i64 0) (.string ⟨#[]⟩))
    have z0 := HZ.out.cell (i := 0) rfl
    have z1 := HZ.out.cell (i := 1) rfl
    have z2 := HZ.out.cell (i := 2) rfl
    refine bodyPost_ret (v := .tuple #[.agg #[.int .i64 0, .int .i64 0, .string ⟨#[]⟩], .bool false]) (by simp [results, Try.results11, go_sem, z0, z1, z2]; try rfl) rfl ?_
    exact ⟨rfl, NtTo.side H4.out HF4.out HV4.out HNB.out HN4.out (Nat.le_refl _) _ _ _⟩
  · rw [if_pos rfl] at HE
    go_wp2_with fail
    refine (HC.out v4 _ H4.out).mono ?_
    rintro e w5 ⟨rfl, rfl⟩
    cases ic
    · rw [if_neg (by decide)] at HE
      obtain rfl := HE.out
      go_wp2
      have HZ := Lib.hid (HBR4.out.store3 (.int .i64 pa) (.int .i64 pb) (.string s))
      have z0 := HZ.out.cell (i := 0) rfl
      have z1 := HZ.out.cell (i := 1) rfl
      have z2 := HZ.out.cell (i := 2) rfl
      refine bodyPost_ret (v := .tuple #[.agg #[.int .i64 pa, .int .i64 pb, .string s], .bool true]) (by simp [results, Try.results11, go_sem, z0, z1, z2]; try rfl) rfl ?_
      exact ⟨rfl, NtTo.side H4.out HF4.out HV4.out HNB.out HN4.out (Nat.le_refl _) _ _ _⟩
    · rw [if_pos rfl] at HE
      obtain rfl := HE.out
      go_wp2
      have HZ := Lib.hid (HBR4.out.store3 (.int .i64 0) (.int .i64 0) (.string ⟨#[]⟩))
      have z0 := HZ.out.cell (i := 0) rfl
      have z1 := HZ.out.cell (i := 1) rfl
      have z2 := HZ.out.cell (i := 2) rfl
      refine bodyPost_ret (v := .tuple #[.agg #[.int .i64 0, .int .i64 0, .string ⟨#[]⟩], .bool false]) (by simp [results, Try.results11, go_sem, z0, z1, z2]; try rfl) rfl ?_
      exact ⟨rfl, NtTo.side H4.out HF4.out HV4.out HNB.out HN4.out (Nat.le_refl _) _ _ _⟩
/-- The zero cells of a net (at a seat in parts the program's own print has them as Try.zeroCells..). -/
def zcNet : Array Value := #[Value.int .i64 0, .slice none 0 0] ++ Array.replicate 144 (Value.bool false)
theorem zcNet_run (w : World) : (zeroValue 48).run Try.prog w = .ok (.agg zcNet) w := by kernel_rfl
theorem zcNet_size : zcNet.size = 146 := by kernel_rfl
theorem zcNet_ne : ¬ zcNet = #[] := fun e => by have := zcNet_size; rw [e] at this; simp at this
theorem zero_net : zcNet = #[Value.int .i64 0, .slice none 0 0] ++ Array.replicate 144 (Value.bool false) := by kernel_rfl
theorem net_cell (n : Int) (i : Nat) (v : Value) (h : (#[Value.int .i64 n, .slice none 0 0] ++ Array.replicate 144 (Value.bool false))[i]? = some v) : (zcNet.setIfInBounds 0 (.int .i64 n))[i]? = some v := by
  have e : (#[Value.int .i64 0, .slice none 0 0] : Array Value).setIfInBounds 0 (.int .i64 n) = #[.int .i64 n, .slice none 0 0] := rfl
  rw [zero_net, Array.setIfInBounds_append, if_pos (by simp), e]
  exact h
theorem net_cell0 (n : Int) : (zcNet.setIfInBounds 0 (.int .i64 n))[0]? = some (.int .i64 n) := net_cell n 0 _ (by rw [Array.getElem?_append_left (by simp)]; rfl)
theorem net_cell1 (n : Int) : (zcNet.setIfInBounds 0 (.int .i64 n))[1]? = some (.slice none 0 0) := net_cell n 1 _ (by rw [Array.getElem?_append_left (by simp)]; rfl)
theorem net_cell2 (n : Int) (i j : Nat) (hi : i < 12) (hj : j < 12) : (zcNet.setIfInBounds 0 (.int .i64 n))[2 + i * 12 + j]? = some (.bool false) := by
  refine net_cell n _ _ ?_
  rw [Array.getElem?_append_right (by simp; omega), Array.getElem?_replicate, if_pos (by simp; omega)]
set_option maxRecDepth 100000 in
set_option maxHeartbeats 1000000 in
theorem nnew_any (n : Int) (w : World) : Calls Try.prog 5 #[.int .i64 n] w fun e w' => ∃ b, e = .returned (.pointer (some ⟨b, 0, none⟩)) ∧ b = w.heap.size ∧ NtIs w' b (.slice none 0 0) (Nt.new n) ∧ Gr w w' := by
  have Z1 := zcNet_run
  have Z2 := zcNet_size
  have Z3 := zcNet_ne
  have E := Lib.hid (show ((Nt.new n).n : Int) = min (max n 0) 12 by show (((min (max n 0) 12).toNat : Nat) : Int) = _; omega)
  go_enter Try.func5, Try.ntmps5
  go_wp2
  go_ret
  refine ⟨_, rfl, rfl, ⟨?_, ?_, fun i j hi hj => ?_, fun i _ => new_free rfl, World.ownsRow_nil _ _ _ _, new_ok n⟩, (Gr.refl w).alloc _⟩
  · rw [E.out]; exact new_cell rfl (net_cell0 _)
  · exact new_cell rfl (net_cell1 _)
  · exact new_cell rfl (net_cell2 _ i j hi hj)
end Go.Proofs.Ytahohgnkichibab
