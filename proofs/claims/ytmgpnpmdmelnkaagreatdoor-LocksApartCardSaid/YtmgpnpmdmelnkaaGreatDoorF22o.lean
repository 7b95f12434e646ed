import Derived.Test.YtmgpnpmdmelnkaaGreatDoorF22n
import Derived.WalkKit
import Derived.ProofKit
import Derived.LoopTactic
import Derived.Outline
import Derived.WalkSpells
import Derived.WalkLawsBesides
import Derived.Lib.Hide
import Derived.Deep.LoopGhost
import Derived.Deep.QuietTactic
import Derived.BigQuiet
import Derived.ShutString
import Derived.IntWalk
import Derived.Lib.MinMax
import Derived.Deep.RegionWith
import Derived.Deep.RegionHeld3
namespace Go.Proofs.YtmgpnpmdmelnkaaGreatDoor
open Go.ChangeShapes Go.WideShapes Go.ChangeAt Go.RowKit
set_option linter.unusedVariables false
set_option linter.unusedSimpArgs false
theorem BkIs.set1 {w0 w w1 : World} {b : Nat} {v1 v2 v1' : Value} {B : Bk} {L : List Lok} (h : BkIs w0 w b v1 v2 B) (hg : w.grownBy w1 v1.ownBlock) (ho : w1.ownsRow w0.heap.size 42 4 v1' L.length (rcells encLok L)) (hf : From v1 w v1') :
    BkIs w0 (w1.setCell ⟨b, 0, none⟩ v1') b v1' v2 ⟨L, B.W, B.last⟩ ∧ Far2 b v1 v2 w (w1.setCell ⟨b, 0, none⟩ v1') := by
  have hb1 := row_offL h.blk h.r1 (by decide)
  have hb2 := row_offL h.blk h.r2 (by decide)
  have hB := h.blk.keptB hg hb1
  have hn : v1'.ownBlock = none ∨ v1'.ownBlock ≠ v2.ownBlock := by
    rcases hq : v1'.ownBlock with _ | k
    · exact .inl rfl
    · refine .inr (fun e => ?_)
      rcases hf k hq with h3 | h3
      · rcases h.ne with h4 | h4
        · rw [h4] at h3; simp at h3
        · exact h4 (h3.trans e)
      · have := (h.r2.lt _ e.symm).2; omega
  exact ⟨⟨h.base, (h.grown.append h.r1 hg).setCell (p := ⟨b, 0, none⟩) h.base _, hB.set 0 _, ownsRow_setCell_other (a := ⟨b, 0, none⟩) ho (row_offL hB ho (by decide)) _, ownsRow_setCell_other (a := ⟨b, 0, none⟩) (h.r2.kept hg (ne_swap h.ne)) hb2 _, hn⟩, (Far2.of_grown1 hg).trans (From.refl _ _) (From.refl _ _) (Far2.setCell b 0 _ _ w1 _)⟩
theorem BkIs.set2 {w0 w w1 : World} {b : Nat} {v1 v2 v2' : Value} {B : Bk} {L : List Lok} (h : BkIs w0 w b v1 v2 B) (hg : w.grownBy w1 v2.ownBlock) (ho : w1.ownsRow w0.heap.size 42 4 v2' L.length (rcells encLok L)) (hf : From v2 w v2') :
    BkIs w0 (w1.setCell ⟨b, 1, none⟩ v2') b v1 v2' ⟨B.H, L, B.last⟩ ∧ Far2 b v1 v2 w (w1.setCell ⟨b, 1, none⟩ v2') := by
  have hb1 := row_offL h.blk h.r1 (by decide)
  have hb2 := row_offL h.blk h.r2 (by decide)
  have hB := h.blk.keptB hg hb2
  have hn : v1.ownBlock = none ∨ v1.ownBlock ≠ v2'.ownBlock := by
    rcases hq : v1.ownBlock with _ | k
    · exact .inl rfl
    · refine .inr (fun e => ?_)
      rcases hf k e.symm with h3 | h3
      · rcases h.ne with h4 | h4
        · rw [hq] at h4; simp at h4
        · exact h4 (hq.trans h3.symm)
      · have := (h.r1.lt _ hq).2; omega
  exact ⟨⟨h.base, (h.grown.append h.r2 hg).setCell (p := ⟨b, 1, none⟩) h.base _, hB.set 1 _, ownsRow_setCell_other (a := ⟨b, 1, none⟩) (h.r1.kept hg h.ne) hb1 _, ownsRow_setCell_other (a := ⟨b, 1, none⟩) ho (row_offL hB ho (by decide)) _, hn⟩, (Far2.of_grown2 hg).trans (From.refl _ _) (From.refl _ _) (Far2.setCell b 1 _ _ w1 _)⟩
variable {w0 w : World} {b : Nat} {v1 v2 : Value} {B : Bk}
noncomputable def remB (q : Lok → Bool) (B : Bk) : Bk × List Lok := serveB ⟨restL q B.H, restL q B.W, B.last⟩
theorem rest_len (q : Lok → Bool) (L : List Lok) : (restL q L).length ≤ L.length := List.length_filter_le _ _
theorem rest_path {q : Lok → Bool} {L : List Lok} (h : ∀ y ∈ L, IsPath y.txt) : ∀ y ∈ restL q L, IsPath y.txt := fun y hy => h y (List.mem_filter.1 hy).1
theorem rest_srt {q : Lok → Bool} {L : List Lok} (h : SrtK L) : SrtK (restL q L) := List.Pairwise.filter _ h
set_option maxRecDepth 100000 in
set_option maxHeartbeats 2000000 in
theorem bremB_any {f : Nat} {rv : Value} (q : Lok → Bool) (w : World) (h : BkIs w0 w b v1 v2 B) (hl : B.H.length + B.W.length ≤ 400) (ht : 0 ≤ B.last ∧ B.last ≤ 18446744073709551615) (hM : ML w0) (hS : SrtK B.H) (hH : ∀ y ∈ B.H, IsPath y.txt) (hW : ∀ y ∈ B.W, IsPath y.txt)
    (he : ∀ args w, (callFunc f args).run Tryz.prog w = .ok (.enter f args) w) (hf : ∀ (x : Lok) (c : World), Calls Tryz.prog f #[rv, .agg #[.int .i64 x.ses, .string x.txt, .bool x.ex, .int .u64 x.tok]] c fun e w' => e = .returned (.bool (q x)) ∧ Gr c w') :
    Calls Tryz.prog 40 #[.pointer (some ⟨b, 0, none⟩), .func (.func f) #[rv] #[]] w fun e w' => ∃ v3, e = .returned v3 ∧ w'.ownsRow w.heap.size 42 4 v3 (remB q B).2.length (rcells encLok (remB q B).2) ∧ BkTo w0 w w' b v1 v2 (remB q B).1 := by
  have H := Lib.hid h
  have HF := Lib.hid hf
  have HE := Lib.hid he
  have HALL := Lib.hid (And.intro ht (And.intro hM (And.intro hS (And.intro hH hW))))
  have HD1 := Lib.hid (delLokB_any q B.H w h.r1 (by omega) he (fun x _ c _ => HF.out x c))
  have b0 := h.blk.cell (i := 0) rfl
  have hlt := h.blk.lt
  obtain ⟨a1, k1, rfl, _⟩ := ownsRow_slice h.r1
  obtain ⟨a2, k2, rfl, _⟩ := ownsRow_slice h.r2
  have hl1 := rest_len q B.H
  have hl2 := rest_len q B.W
  clear h hf he ht hM hS hH hW
  go_enter Tryz.func40, Tryz.ntmps40
  go_wp2_with fail
  refine HD1.out.mono ?_
  rintro e w1 ⟨v1', rfl, ho1, hg1, hf1⟩
  obtain ⟨a1', k1', hv1', _⟩ := ownsRow_slice ho1
  subst hv1'
  have hset := H.out.set1 hg1 ho1 hf1
  have HS1 := Lib.hid hset.1
  have HF1 := Lib.hid hset.2
  have HFR1 := Lib.hid hf1
  have hB1 := H.out.blk.keptB hg1 (row_offL H.out.blk H.out.r1 (by decide))
  have z0 := hB1.cell (i := 0) rfl
  have z1 := hB1.free 0
  clear ho1 hg1 hf1 hset HD1 b0
  go_upto_region 2 with fail
  clear hB1 z0 z1
  generalize w1.setCell ⟨b, 0, none⟩ (.slice a1' (restL q B.H).length k1') = w2 at *
  have HD2 := Lib.hid (delLokB_any q B.W w2 HS1.out.r2 (by omega) HE.out (fun x _ c _ => HF.out x c))
  have b1 := HS1.out.blk.cell (i := 1) rfl
  go_wp2_with fail
  refine HD2.out.mono ?_
  rintro e w3 ⟨v2', rfl, ho2, hg2, hf2⟩
  obtain ⟨a2', k2', hv2', _⟩ := ownsRow_slice ho2
  subst hv2'
  have hset := HS1.out.set2 hg2 ho2 hf2
  have HS2 := Lib.hid hset.1
  have HF2 := Lib.hid hset.2
  have HFR2 := Lib.hid hf2
  have hB2 := HS1.out.blk.keptB hg2 (row_offL HS1.out.blk HS1.out.r2 (by decide))
  have z0 := hB2.cell (i := 1) rfl
  have z1 := hB2.free 1
  clear ho2 hg2 hf2 hset HD2 b1
  go_upto_region 3 with fail
  clear hB2 z0 z1
  generalize w3.setCell ⟨b, 1, none⟩ (.slice a2' (restL q B.W).length k2') = w4 at *
  go_wp2_with fail
  refine (bserve_any w4 HS2.out (by show (restL q B.H).length + (restL q B.W).length ≤ 400; omega) HALL.out.1 HALL.out.2.1 (rest_srt HALL.out.2.2.1) (rest_path HALL.out.2.2.2.1) (rest_path HALL.out.2.2.2.2)).mono ?_
  rintro e w5 ⟨v3, rfl, ho3, hto⟩
  obtain ⟨u1, u2, hk, hF, f1, f2⟩ := hto
  obtain ⟨a3, k3, hv3, _⟩ := ownsRow_slice ho3
  subst hv3
  have hsz : w.heap.size ≤ w4.heap.size := Nat.le_trans HF1.out.size HF2.out.size
  have hFF := (HF1.out.trans HFR1.out (From.refl _ _) HF2.out)
  have RES := Lib.hid (And.intro (owns_base ho3 hsz) (show BkTo w0 w w5 b (.slice a1 B.H.length k1) (.slice a2 B.W.length k2) (remB q B).1 from ⟨u1, u2, hk, hFF.trans HFR1.out (fun k e => (HFR2.out k e).imp id (fun h => Nat.le_trans HF1.out.size h)) hF, fun k e => by
    rcases f1 k e with h3 | h3
    · exact HFR1.out k h3
    · exact .inr (Nat.le_trans hsz h3), fun k e => by
    rcases f2 k e with h3 | h3
    · exact (HFR2.out k h3).imp id (fun h => Nat.le_trans HF1.out.size h)
    · exact .inr (Nat.le_trans hsz h3)⟩))
  clear ho3 hk hF f1 f2 hFF hsz
  go_wp2
  go_ret
  exact ⟨_, rfl, RES.out.1, RES.out.2⟩
set_option maxRecDepth 100000 in
set_option maxHeartbeats 2000000 in
theorem bremC_any {f p : Nat} {u : Value} (q : Lok → Bool) (w : World) (h : BkIs w0 w b v1 v2 B) (hl : B.H.length + B.W.length ≤ 400) (ht : 0 ≤ B.last ∧ B.last ≤ 18446744073709551615) (hM : ML w0) (hS : SrtK B.H) (hH : ∀ y ∈ B.H, IsPath y.txt) (hW : ∀ y ∈ B.W, IsPath y.txt)
    (he : ∀ args w, (callFunc f args).run Tryz.prog w = .ok (.enter f args) w) (hc : w.cell? ⟨p, 0, none⟩ = some u) (hpb : p ≠ b) (hp1 : v1.ownBlock ≠ some p) (hp2 : v2.ownBlock ≠ some p) (hf : ∀ (x : Lok) (c : World), c.cell? ⟨p, 0, none⟩ = some u → Calls Tryz.prog f #[.agg #[.int .i64 x.ses, .string x.txt, .bool x.ex, .int .u64 x.tok], .pointer (some ⟨p, 0, none⟩)] c fun e w' => e = .returned (.bool (q x)) ∧ Gr c w') :
    Calls Tryz.prog 40 #[.pointer (some ⟨b, 0, none⟩), .func (.func f) #[] #[.pointer (some ⟨p, 0, none⟩)]] w fun e w' => ∃ v3, e = .returned v3 ∧ w'.ownsRow w.heap.size 42 4 v3 (remB q B).2.length (rcells encLok (remB q B).2) ∧ BkTo w0 w w' b v1 v2 (remB q B).1 := by
  have H := Lib.hid h
  have HF := Lib.hid hf
  have HE := Lib.hid he
  have HALL := Lib.hid (And.intro ht (And.intro hM (And.intro hS (And.intro hH hW))))
  have HD1 := Lib.hid (delLokC_any q B.H w h.r1 (by omega) he (fun x _ c hg => HF.out x c ((World.cell?_of_block (w := w) (a := ⟨p, 0, none⟩) (hg.block p (cell_lt hc) (fun e => hp1 e.symm))).trans hc)))
  have b0 := h.blk.cell (i := 0) rfl
  have hlt := h.blk.lt
  have HCP := Lib.hid (And.intro hc (And.intro hpb (And.intro hp1 hp2)))
  clear hc hpb hp1 hp2
  obtain ⟨a1, k1, rfl, _⟩ := ownsRow_slice h.r1
  obtain ⟨a2, k2, rfl, _⟩ := ownsRow_slice h.r2
  have hl1 := rest_len q B.H
  have hl2 := rest_len q B.W
  clear h hf he ht hM hS hH hW
  go_enter Tryz.func40, Tryz.ntmps40
  go_wp2_with fail
  refine HD1.out.mono ?_
  rintro e w1 ⟨v1', rfl, ho1, hg1, hf1⟩
  obtain ⟨a1', k1', hv1', _⟩ := ownsRow_slice ho1
  subst hv1'
  have hset := H.out.set1 hg1 ho1 hf1
  have HS1 := Lib.hid hset.1
  have HF1 := Lib.hid hset.2
  have HFR1 := Lib.hid hf1
  have hB1 := H.out.blk.keptB hg1 (row_offL H.out.blk H.out.r1 (by decide))
  have z0 := hB1.cell (i := 0) rfl
  have z1 := hB1.free 0
  clear ho1 hg1 hf1 hset HD1 b0
  go_upto_region 2 with fail
  clear hB1 z0 z1
  generalize w1.setCell ⟨b, 0, none⟩ (.slice a1' (restL q B.H).length k1') = w2 at *
  have HC2 : Hid (w2.cell? ⟨p, 0, none⟩ = some u) := Lib.hid ((World.cell?_of_block (w := w) (a := ⟨p, 0, none⟩) (HF1.out.block p (cell_lt HCP.out.1) HCP.out.2.1 HCP.out.2.2.1 HCP.out.2.2.2)).trans HCP.out.1)
  have HP2 := Lib.hid HCP.out.2.2.2
  have HD2 := Lib.hid (delLokC_any q B.W w2 HS1.out.r2 (by omega) HE.out (fun x _ c hg => HF.out x c ((World.cell?_of_block (w := w2) (a := ⟨p, 0, none⟩) (hg.block p (cell_lt HC2.out) (fun e => HP2.out e.symm))).trans HC2.out)))
  have b1 := HS1.out.blk.cell (i := 1) rfl
  go_wp2_with fail
  refine HD2.out.mono ?_
  rintro e w3 ⟨v2', rfl, ho2, hg2, hf2⟩
  obtain ⟨a2', k2', hv2', _⟩ := ownsRow_slice ho2
  subst hv2'
  have hset := HS1.out.set2 hg2 ho2 hf2
  have HS2 := Lib.hid hset.1
  have HF2 := Lib.hid hset.2
  have HFR2 := Lib.hid hf2
  have hB2 := HS1.out.blk.keptB hg2 (row_offL HS1.out.blk HS1.out.r2 (by decide))
  have z0 := hB2.cell (i := 1) rfl
  have z1 := hB2.free 1
  clear ho2 hg2 hf2 hset HD2 b1
  go_upto_region 3 with fail
  clear hB2 z0 z1
  generalize w3.setCell ⟨b, 1, none⟩ (.slice a2' (restL q B.W).length k2') = w4 at *
  go_wp2_with fail
  refine (bserve_any w4 HS2.out (by show (restL q B.H).length + (restL q B.W).length ≤ 400; omega) HALL.out.1 HALL.out.2.1 (rest_srt HALL.out.2.2.1) (rest_path HALL.out.2.2.2.1) (rest_path HALL.out.2.2.2.2)).mono ?_
  rintro e w5 ⟨v3, rfl, ho3, hto⟩
  obtain ⟨u1, u2, hk, hF, f1, f2⟩ := hto
  obtain ⟨a3, k3, hv3, _⟩ := ownsRow_slice ho3
  subst hv3
  have hsz : w.heap.size ≤ w4.heap.size := Nat.le_trans HF1.out.size HF2.out.size
  have hFF := (HF1.out.trans HFR1.out (From.refl _ _) HF2.out)
  have RES := Lib.hid (And.intro (owns_base ho3 hsz) (show BkTo w0 w w5 b (.slice a1 B.H.length k1) (.slice a2 B.W.length k2) (remB q B).1 from ⟨u1, u2, hk, hFF.trans HFR1.out (fun k e => (HFR2.out k e).imp id (fun h => Nat.le_trans HF1.out.size h)) hF, fun k e => by
    rcases f1 k e with h3 | h3
    · exact HFR1.out k h3
    · exact .inr (Nat.le_trans hsz h3), fun k e => by
    rcases f2 k e with h3 | h3
    · exact (HFR2.out k h3).imp id (fun h => Nat.le_trans HF1.out.size h)
    · exact .inr (Nat.le_trans hsz h3)⟩))
  clear ho3 hk hF f1 f2 hFF hsz
  go_wp2
  go_ret
  exact ⟨_, rfl, RES.out.1, RES.out.2⟩
noncomputable def relB (B : Bk) (s : Int) (t : ByteArray) : Bk × List Lok × Int := if (findB B s t).2 < 0 then (B, [], 20) else ((remB (sameB (findB B s t).1) B).1, (remB (sameB (findB B s t).1) B).2, 0)
set_option maxRecDepth 100000 in
set_option maxHeartbeats 2000000 in
theorem brel_any (s : Int) (t : ByteArray) (w : World) (h : BkIs w0 w b v1 v2 B) (hl : B.H.length + B.W.length ≤ 400) (ht : 0 ≤ B.last ∧ B.last ≤ 18446744073709551615) (hM : ML w0) (hS : SrtK B.H) (hH : ∀ y ∈ B.H, IsPath y.txt) (hW : ∀ y ∈ B.W, IsPath y.txt) :
    Calls Tryz.prog 20 #[.pointer (some ⟨b, 0, none⟩), .int .i64 s, .agg #[.string t]] w fun e w' => ∃ v3, e = .returned (.tuple #[v3, .int .i64 (relB B s t).2.2]) ∧ w'.ownsRow w.heap.size 42 4 v3 (relB B s t).2.1.length (rcells encLok (relB B s t).2.1) ∧ BkTo w0 w w' b v1 v2 (relB B s t).1 := by
  have H := Lib.hid h
  have HALL := Lib.hid (And.intro hl (And.intro ht (And.intro hM (And.intro hS (And.intro hH hW)))))
  have HG1 := Lib.hid ((Gr.refl w).alloc (.cells #[.string t] 40))
  have HT := Lib.hid (Blk.new w #[.string t] 40)
  have HRB := Lib.hid (show relB B s t = if (findB B s t).2 < 0 then (B, [], 20) else ((remB (sameB (findB B s t).1) B).1, (remB (sameB (findB B s t).1) B).2, 0) from rfl)
  have he : ∀ args w, (callFunc 33 args).run Tryz.prog w = .ok (.enter 33 args) w := fun _ _ => by kernel_rfl
  have HE := Lib.hid he
  have hl5 : B.H.length + B.W.length ≤ 500 := by omega
  clear h hl ht hM hS hH hW he
  have t0 := HT.out.cell (i := 0) rfl
  go_enter Tryz.func20, Tryz.ntmps20
  go_wp2_with fail
  refine (bfind_any s t _ (H.out.gr HG1.out) hl5).mono ?_
  rintro e w2 ⟨rfl, hg2⟩
  have HG2 := Lib.hid (HG1.out.trans hg2)
  clear t0 hg2 hl5
  generalize hfd : findB B s t = fd at *
  clear hfd
  obtain ⟨fl, pl⟩ := fd
  simp only at HRB
  have HG3 := Lib.hid (HG2.out.alloc (.cells #[.int .i64 fl.ses, .string fl.txt, .bool fl.ex, .int .u64 fl.tok] 42))
  have HBF := Lib.hid (Blk.new w2 #[.int .i64 fl.ses, .string fl.txt, .bool fl.ex, .int .u64 fl.tok] 42)
  by_cases hp : pl < 0
  · have HR : Hid (relB B s t = (B, [], 20)) := Lib.hid (by rw [HRB.out, if_pos hp])
    clear HRB
    go_wp2
    refine bodyPost_ret (v := .tuple #[.slice none 0 0, .int .i64 20]) (by simp [results, Tryz.results20, go_sem]; try rfl) rfl ?_
    rw [HR.out]
    exact ⟨_, rfl, World.ownsRow_nil _ _ _ _, H.out.to HG3.out⟩
  · have HR : Hid (relB B s t = ((remB (sameB fl) B).1, (remB (sameB fl) B).2, 0)) := Lib.hid (by rw [HRB.out, if_neg hp])
    have HREM := Lib.hid (bremB_any (f := 33) (rv := .agg #[.int .i64 fl.ses, .string fl.txt, .bool fl.ex, .int .u64 fl.tok]) (sameB fl) _ (H.out.gr HG3.out) HALL.out.1 HALL.out.2.1 HALL.out.2.2.1 HALL.out.2.2.2.1 HALL.out.2.2.2.2.1 HALL.out.2.2.2.2.2 HE.out (fun x c => lsame_any fl x c))
    have x0 := HBF.out.cell (i := 0) rfl
    have x1 := HBF.out.cell (i := 1) rfl
    have x2 := HBF.out.cell (i := 2) rfl
    have x3 := HBF.out.cell (i := 3) rfl
    clear HRB
    go_wp2_with fail
    refine HREM.out.mono ?_
    rintro e w5 ⟨v3, rfl, ho3, hto⟩
    obtain ⟨a3, k3, hv3, _⟩ := ownsRow_slice ho3
    subst hv3
    have RES := Lib.hid (And.intro (owns_base ho3 HG3.out.size) (BkTo.pre HG3.out hto))
    generalize (remB (sameB fl) B) = rr at *
    clear ho3 hto
    go_wp2
    refine bodyPost_ret (v := .tuple #[.slice a3 rr.2.length k3, .int .i64 0]) (by simp [results, Tryz.results20, go_sem]; try rfl) rfl ?_
    rw [HR.out]
    exact ⟨_, rfl, RES.out.1, RES.out.2⟩
noncomputable def dropB (B : Bk) (s : Int) : Bk × List Lok := remB (fun x => x.ses == s) B
set_option maxRecDepth 100000 in
set_option maxHeartbeats 2000000 in
theorem bdrop_any (s : Int) (w : World) (h : BkIs w0 w b v1 v2 B) (hl : B.H.length + B.W.length ≤ 400) (ht : 0 ≤ B.last ∧ B.last ≤ 18446744073709551615) (hM : ML w0) (hS : SrtK B.H) (hH : ∀ y ∈ B.H, IsPath y.txt) (hW : ∀ y ∈ B.W, IsPath y.txt) :
    Calls Tryz.prog 21 #[.pointer (some ⟨b, 0, none⟩), .int .i64 s] w fun e w' => ∃ v3, e = .returned v3 ∧ w'.ownsRow w.heap.size 42 4 v3 (dropB B s).2.length (rcells encLok (dropB B s).2) ∧ BkTo w0 w w' b v1 v2 (dropB B s).1 := by
  have H := Lib.hid h
  have HG1 := Lib.hid ((Gr.refl w).alloc (.cells #[.int .i64 s] 3))
  have HT := Lib.hid (Blk.new w #[.int .i64 s] 3)
  have he : ∀ args w, (callFunc 41 args).run Tryz.prog w = .ok (.enter 41 args) w := fun _ _ => by kernel_rfl
  have HREM := Lib.hid (bremC_any (f := 41) (p := w.heap.size) (u := .int .i64 s) (fun x => x.ses == s) _ (H.out.gr HG1.out) hl ht hM hS hH hW he (HT.out.cell (i := 0) rfl) (by have := h.blk.lt; omega) (fun e => by have := (h.r1.lt _ e).2; omega) (fun e => by have := (h.r2.lt _ e).2; omega) (fun x c hc => ldrop_any x s w.heap.size c hc))
  clear h hl ht hM hS hH hW he
  have t0 := HT.out.cell (i := 0) rfl
  unfold dropB
  go_enter Tryz.func21, Tryz.ntmps21
  go_wp2_with fail
  refine HREM.out.mono ?_
  rintro e w5 ⟨v3, rfl, ho3, hto⟩
  obtain ⟨a3, k3, hv3, _⟩ := ownsRow_slice ho3
  subst hv3
  have RES := Lib.hid (And.intro (owns_base ho3 HG1.out.size) (BkTo.pre HG1.out hto))
  generalize hrr : (remB (fun x => x.ses == s) B) = rr at *
  have HRR := Lib.hid hrr
  clear ho3 hto t0 hrr
  go_wp2
  go_ret
  rw [HRR.out]
  exact ⟨_, rfl, RES.out.1, RES.out.2⟩
end Go.Proofs.YtmgpnpmdmelnkaaGreatDoor
