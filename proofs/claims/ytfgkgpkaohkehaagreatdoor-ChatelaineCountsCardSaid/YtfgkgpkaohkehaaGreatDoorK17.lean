import Derived.Test.YtfgkgpkaohkehaaGreatDoorK16
import Derived.WalkKit
import Derived.ProofKit
import Derived.LoopTactic
import Derived.Outline
import Derived.WalkSpells
import Derived.WalkLawsBesides
import Derived.Lib.Hide
import Derived.Deep.LoopGhost
import Derived.Deep.QuietTactic
import Derived.BigQuiet
import Derived.ShutString
import Derived.IntWalk
import Derived.Deep.AppendLies
import Derived.Deep.MidRow
import Derived.Deep.Onto
import Derived.Test.YtfgkgpkaohkehaaGreatDoorK12
import Derived.Test.YtfgkgpkaohkehaaGreatDoorK13
import Derived.Deep.RegionHeld3
namespace Go.Proofs.YtfgkgpkaohkehaaGreatDoor
open Go.ChangeShapes Go.WideShapes Go.ChangeAt Go.RowKit
set_option linter.unusedVariables false
set_option linter.unusedSimpArgs false
/-- The cells of an entry in a row, of whatever type. -/
theorem erow_T {T : TypeId} {w : World} {base : Nat} {v : Value} {L : List E} (h : w.ownsRow base T 4 v L.length (rcells encE L)) (i : Nat) (hi : i < L.length) :
    ∃ g cap, v = .slice (some ⟨g, 0, none⟩) L.length cap ∧ w.cell? ⟨g, i * 4, none⟩ = some (.int .i64 L[i].slot) ∧ w.cell? ⟨g, i * 4 + 1, none⟩ = some (.int .u64 L[i].c) ∧ w.cell? ⟨g, i * 4 + 2, none⟩ = some (.int .i64 L[i].n) ∧ w.cell? ⟨g, i * 4 + 3, none⟩ = some (.string L[i].text) := by
  obtain ⟨g, cap, cur, hv, _, _, _, _, _, _, _, hat, _⟩ := owns_open h (by omega)
  refine ⟨g, cap, hv, hat _ _ ?_, hat _ _ ?_, hat _ _ ?_, hat _ _ ?_⟩
  · have := rcells_at encE_len L i hi 0 (by omega); rw [Nat.add_zero] at this; rw [this]; rfl
  · rw [rcells_at encE_len L i hi 1 (by omega)]; rfl
  · rw [rcells_at encE_len L i hi 2 (by omega)]; rfl
  · rw [rcells_at encE_len L i hi 3 (by omega)]; rfl
theorem rcells_take1 (L : List E) (k : Nat) (h : k < L.length) : rcells encE (L.take (k + 1)) = rcells encE (L.take k) ++ encE L[k] := by
  rw [List.take_succ_eq_append_getElem h, rcells_snoc]
theorem eleven_one (v0 v1 v2 v3 v4 v5 v6 v7 : Int) (b : Bool) (t : ByteArray) (a : Option Addr) (l c : Nat) :
    ∀ u ∈ #[Value.int .i64 v0, .int .i64 v1, .int .i64 v2, .int .i64 v3, .int .u64 v4, .int .i64 v5, .int .i64 v6, .int .i64 v7, .bool b, .string t, .slice a l c].toList, u.oneCell' = true := by
  intro u hu
  simp only [List.mem_cons, List.not_mem_nil, or_false] at hu
  rcases hu with rfl | rfl | rfl | rfl | rfl | rfl | rfl | rfl | rfl | rfl | rfl <;> rfl
set_option maxRecDepth 100000 in
set_option maxHeartbeats 4000000 in
/-- The program's message of the document's. -/
theorem own_any {base : Nat} {v : Value} (kd frm tt sub c n slot time : Int) (ok : Bool) (text : ByteArray) (L : List E) (w : World) (h : w.ownsRow base 72 4 v L.length (rcells encE L)) (hl : L.length ≤ 1000) :
    Calls Tryz.prog 10 #[.agg #[.int .i64 kd, .int .i64 frm, .int .i64 tt, .int .i64 sub, .int .u64 c, .int .i64 n, .int .i64 slot, .int .i64 time, .bool ok, .string text, v]] w fun e w' =>
      ∃ a q, e = .returned (.agg #[.int .i64 kd, .int .i64 frm, .int .i64 tt, .int .i64 sub, .int .u64 c, .int .i64 n, .int .i64 slot, .int .i64 time, .bool ok, .string text, .slice a L.length q]) ∧ w'.ownsRow w.heap.size 74 4 (.slice a L.length q) L.length (rcells encE L) ∧ Gr w w' := by
  obtain ⟨i0, hi0, hz0, hz1, hz2⟩ : ∃ i0 : TypeInfo, Tryz.prog.info? 74 = some i0 ∧ i0.zero = some (.agg #[.int .i64 0, .int .u64 0, .int .i64 0, .string ⟨#[]⟩]) ∧ i0.size = 4 ∧ i0.bytes = 40 := ⟨_, rfl, rfl, rfl, rfl⟩
  obtain ⟨va, vc, rfl, _⟩ := ownsRow_slice h
  have HV := Lib.hid h
  have HVP := Lib.hid (fun k (e : (Value.slice va L.length vc).ownBlock = some k) => (h.lt k e).2)
  clear h
  go_enter Tryz.func10, Tryz.ntmps10
  go_wp2
  have HG0 := Lib.hid (((((Gr.refl w).alloc (.cells #[.int .i64 kd, .int .i64 frm, .int .i64 tt, .int .i64 sub, .int .u64 c, .int .i64 n, .int .i64 slot, .int .i64 time, .bool ok, .string text, .slice va L.length vc] 49)).alloc (.cells #[.int .i64 0, .int .i64 0, .int .i64 0, .int .i64 0, .int .u64 0, .int .i64 0, .int .i64 0, .int .i64 0, .bool false, .string ⟨#[]⟩, .slice none 0 0] 41)).alloc (.cells #[.int .i64 kd, .int .i64 frm, .int .i64 tt, .int .i64 sub, .int .u64 c, .int .i64 n, .int .i64 slot, .int .i64 time, .bool ok, .string text, .slice none 0 0] 41)))
  have HV0 := Lib.hid (ownsRow_gr HG0.out HV.out)
  have HP2 := Lib.hid (show Blk (((w.alloc (.cells #[.int .i64 kd, .int .i64 frm, .int .i64 tt, .int .i64 sub, .int .u64 c, .int .i64 n, .int .i64 slot, .int .i64 time, .bool ok, .string text, .slice va L.length vc] 49)).alloc (.cells #[.int .i64 0, .int .i64 0, .int .i64 0, .int .i64 0, .int .u64 0, .int .i64 0, .int .i64 0, .int .i64 0, .bool false, .string ⟨#[]⟩, .slice none 0 0] 41)).alloc (.cells #[.int .i64 kd, .int .i64 frm, .int .i64 tt, .int .i64 sub, .int .u64 c, .int .i64 n, .int .i64 slot, .int .i64 time, .bool ok, .string text, .slice none 0 0] 41)) (w.heap.size + 1) #[.int .i64 0, .int .i64 0, .int .i64 0, .int .i64 0, .int .u64 0, .int .i64 0, .int .i64 0, .int .i64 0, .bool false, .string ⟨#[]⟩, .slice none 0 0] 41 from by
    have := (Blk.new (w.alloc (.cells #[.int .i64 kd, .int .i64 frm, .int .i64 tt, .int .i64 sub, .int .u64 c, .int .i64 n, .int .i64 slot, .int .i64 time, .bool ok, .string text, .slice va L.length vc] 49)) #[.int .i64 0, .int .i64 0, .int .i64 0, .int .i64 0, .int .u64 0, .int .i64 0, .int .i64 0, .int .i64 0, .bool false, .string ⟨#[]⟩, .slice none 0 0] 41).gr ((Gr.refl _).alloc (.cells #[.int .i64 kd, .int .i64 frm, .int .i64 tt, .int .i64 sub, .int .u64 c, .int .i64 n, .int .i64 slot, .int .i64 time, .bool ok, .string text, .slice none 0 0] 41))
    rwa [show (w.alloc (.cells #[.int .i64 kd, .int .i64 frm, .int .i64 tt, .int .i64 sub, .int .u64 c, .int .i64 n, .int .i64 slot, .int .i64 time, .bool ok, .string text, .slice va L.length vc] 49)).heap.size = w.heap.size + 1 by simp] at this)
  have HP3 := Lib.hid (show Blk (((w.alloc (.cells #[.int .i64 kd, .int .i64 frm, .int .i64 tt, .int .i64 sub, .int .u64 c, .int .i64 n, .int .i64 slot, .int .i64 time, .bool ok, .string text, .slice va L.length vc] 49)).alloc (.cells #[.int .i64 0, .int .i64 0, .int .i64 0, .int .i64 0, .int .u64 0, .int .i64 0, .int .i64 0, .int .i64 0, .bool false, .string ⟨#[]⟩, .slice none 0 0] 41)).alloc (.cells #[.int .i64 kd, .int .i64 frm, .int .i64 tt, .int .i64 sub, .int .u64 c, .int .i64 n, .int .i64 slot, .int .i64 time, .bool ok, .string text, .slice none 0 0] 41)) (w.heap.size + 1 + 1) #[.int .i64 kd, .int .i64 frm, .int .i64 tt, .int .i64 sub, .int .u64 c, .int .i64 n, .int .i64 slot, .int .i64 time, .bool ok, .string text, .slice none 0 0] 41 from by
    have := Blk.new ((w.alloc (.cells #[.int .i64 kd, .int .i64 frm, .int .i64 tt, .int .i64 sub, .int .u64 c, .int .i64 n, .int .i64 slot, .int .i64 time, .bool ok, .string text, .slice va L.length vc] 49)).alloc (.cells #[.int .i64 0, .int .i64 0, .int .i64 0, .int .i64 0, .int .u64 0, .int .i64 0, .int .i64 0, .int .i64 0, .bool false, .string ⟨#[]⟩, .slice none 0 0] 41)) #[.int .i64 kd, .int .i64 frm, .int .i64 tt, .int .i64 sub, .int .u64 c, .int .i64 n, .int .i64 slot, .int .i64 time, .bool ok, .string text, .slice none 0 0] 41
    rwa [show ((w.alloc (.cells #[.int .i64 kd, .int .i64 frm, .int .i64 tt, .int .i64 sub, .int .u64 c, .int .i64 n, .int .i64 slot, .int .i64 time, .bool ok, .string text, .slice va L.length vc] 49)).alloc (.cells #[.int .i64 0, .int .i64 0, .int .i64 0, .int .i64 0, .int .u64 0, .int .i64 0, .int .i64 0, .int .i64 0, .bool false, .string ⟨#[]⟩, .slice none 0 0] 41)).heap.size = w.heap.size + 1 + 1 by simp] at this)
  generalize (((w.alloc (.cells #[.int .i64 kd, .int .i64 frm, .int .i64 tt, .int .i64 sub, .int .u64 c, .int .i64 n, .int .i64 slot, .int .i64 time, .bool ok, .string text, .slice va L.length vc] 49)).alloc (.cells #[.int .i64 0, .int .i64 0, .int .i64 0, .int .i64 0, .int .u64 0, .int .i64 0, .int .i64 0, .int .i64 0, .bool false, .string ⟨#[]⟩, .slice none 0 0] 41)).alloc (.cells #[.int .i64 kd, .int .i64 frm, .int .i64 tt, .int .i64 sub, .int .u64 c, .int .i64 n, .int .i64 slot, .int .i64 time, .bool ok, .string text, .slice none 0 0] 41)) = w3 at *
  go_loopw [28] (fun u28 wr => ∃ (k : Nat) (ua : Option Addr) (uc : Nat), k ≤ L.length ∧ u28 = .int .i64 (k : Nat) ∧ Hid (Gr w wr) ∧ Hid (wr.ownsRow base 72 4 (.slice va L.length vc) L.length (rcells encE L)) ∧ Hid (Blk wr (w.heap.size + 1) #[.int .i64 0, .int .i64 0, .int .i64 0, .int .i64 0, .int .u64 0, .int .i64 0, .int .i64 0, .int .i64 0, .bool false, .string ⟨#[]⟩, .slice none 0 0] 41) ∧ Hid (Blk wr (w.heap.size + 1 + 1) #[.int .i64 kd, .int .i64 frm, .int .i64 tt, .int .i64 sub, .int .u64 c, .int .i64 n, .int .i64 slot, .int .i64 time, .bool ok, .string text, .slice ua k uc] 41) ∧ Hid (wr.ownsRow w.heap.size 74 4 (.slice ua k uc) k (rcells encE (L.take k)))) (fun u28 _ => L.length - (intOf u28).toNat)
  case atStart => exact ⟨0, none, 0, by omega, rfl, HG0, HV0, HP2, HP3, Lib.hid (World.ownsRow_nil _ _ _ _)⟩
  case round =>
    clear HG0 HV0 HP2 HP3
    obtain ⟨k, ua, uc, hk, rfl, HG, HS, HP2, HP3, HO⟩ := hrel
    by_cases hlt : k < L.length
    · have hk4 : (k : Int) < (L.length : Int) := by omega
      obtain ⟨g, cap, hv, d0, d1, d2, d3⟩ := erow_T HS.out k hlt
      simp only [Value.slice.injEq, true_and] at hv
      obtain ⟨rfl, rfl⟩ := hv
      have HTK := Lib.hid (rcells_take1 L k hlt)
      generalize L[k] = y at *
      have HGA := Lib.hid (((Gr.refl wr).alloc (.cells #[.int .i64 y.slot, .int .u64 y.c, .int .i64 y.n, .string y.text] 72)).alloc (.cells #[.int .i64 y.slot, .int .u64 y.c, .int .i64 y.n, .string y.text] 74))
      have HOW := Lib.hid (ownsRow_gr HGA.out HO.out)
      have HBN := Lib.hid (show Blk ((wr.alloc (.cells #[.int .i64 y.slot, .int .u64 y.c, .int .i64 y.n, .string y.text] 72)).alloc (.cells #[.int .i64 y.slot, .int .u64 y.c, .int .i64 y.n, .string y.text] 74)) (wr.heap.size + 1) (encE y).toArray 74 from by
        have := Blk.new (wr.alloc (.cells #[.int .i64 y.slot, .int .u64 y.c, .int .i64 y.n, .string y.text] 72)) #[.int .i64 y.slot, .int .u64 y.c, .int .i64 y.n, .string y.text] 74
        rwa [show (wr.alloc (.cells #[.int .i64 y.slot, .int .u64 y.c, .int .i64 y.n, .string y.text] 72)).heap.size = wr.heap.size + 1 by simp] at this)
      have HP2a := Lib.hid (HP2.out.gr HGA.out)
      have HP3a := Lib.hid (HP3.out.gr HGA.out)
      have HSa := Lib.hid (ownsRow_gr HGA.out HS.out)
      have HONE := Lib.hid (encE_one y)
      have m10 := (HP3.out.gr ((Gr.refl wr).alloc (.cells #[.int .i64 y.slot, .int .u64 y.c, .int .i64 y.n, .string y.text] 72))).cell (i := 10) rfl
      have hws : w.heap.size ≤ wr.heap.size := HG.out.size
      go_wp2_with (at_builtin; go_loud (refine wpList_append_lies _ rfl (.tmp 33) (.tmp 41) 39 rfl w.heap.size 74 i0 (.agg #[.int .i64 0, .int .u64 0, .int .i64 0, .string ⟨#[]⟩]) 4 40 Tryz.underlying39 hi0 hz0 hz1 hz2 rfl (by decide) _ _ _ rfl HOW.out ⟨wr.heap.size + 1, 0, none⟩ 1 1 (encE y) rfl rfl ?c1 ?c2 Nat.one_pos ?c3 ?c4 ?c5 _ rfl ?_))
      case c1 => exact fun j u hj => World.news_of_block HBN.out j u hj
      case c2 => exact HONE.out
      case c3 => unfold maxLen; omega
      case c4 => omega
      case c5 => simp; omega
      intro g7 cap7 w7 hown7 hgrow7 hat7 hlt7
      have hub : (Value.slice ua k uc).ownBlock ≠ some (w.heap.size + 1) := row_off HP2a.out HOW.out (by decide)
      have huc : (Value.slice ua k uc).ownBlock ≠ some (w.heap.size + 1 + 1) := row_off HP3a.out HOW.out (by decide)
      have hus : ∀ j, (Value.slice (some ⟨g, 0, none⟩) L.length vc).ownBlock = some j → (Value.slice ua k uc).ownBlock ≠ some j := fun j e e2 => by
        have h1 := HVP.out j e
        have h2 := (HO.out.lt j e2).1
        omega
      have HO7 := Lib.hid hown7
      have HG7 := Lib.hid ((HG.out.trans HGA.out).append HOW.out hgrow7)
      have HP27 := Lib.hid (HP2a.out.grownB hgrow7 hub)
      have HP37 := Lib.hid (HP3a.out.grownB hgrow7 huc)
      have HS7 := Lib.hid (HSa.out.kept hgrow7 (.inr (fun e => by
        cases hq : (Value.slice ua k uc).ownBlock with
        | none => rw [hq] at e; exact absurd e (by simp [Value.ownBlock])
        | some j => exact hus j (by rw [e, hq]) hq)))
      clear hown7 hgrow7 hat7 hlt7 hub huc hus HG HS HP2 HP3 HO HGA HOW HBN HP2a HP3a HSa m10 d0 d1 d2 d3
      have f10 := HP37.out.free 10
      have m10 := HP37.out.cell (i := 10) rfl
      have HP38 := Lib.hid (HP37.out.set 10 (.slice (some ⟨g7, 0, none⟩) (k + 1) cap7))
      have HP28 := Lib.hid (HP27.out.other (show w.heap.size + 1 ≠ w.heap.size + 1 + 1 by omega) 10 (.slice (some ⟨g7, 0, none⟩) (k + 1) cap7))
      have HO8 := Lib.hid (ownsRow_setCell_other (a := ⟨w.heap.size + 1 + 1, 10, none⟩) HO7.out (row_off HP37.out HO7.out (by decide)) (.slice (some ⟨g7, 0, none⟩) (k + 1) cap7))
      have HS8 := Lib.hid (ownsRow_setCell_other (a := ⟨w.heap.size + 1 + 1, 10, none⟩) HS7.out (fun e => by have h : w.heap.size + 1 + 1 < w.heap.size := HVP.out _ e; omega) (.slice (some ⟨g7, 0, none⟩) (k + 1) cap7))
      have HG8 := Lib.hid (HG7.out.setCell (p := ⟨w.heap.size + 1 + 1, 10, none⟩) (show w.heap.size ≤ w.heap.size + 1 + 1 by omega) (.slice (some ⟨g7, 0, none⟩) (k + 1) cap7))
      clear HO7 HS7 HG7 HP27
      rw [← HTK.out] at HO8
      go_wp2
      go_roundw
      case rel => exact ⟨k + 1, some ⟨g7, 0, none⟩, cap7, by omega, by go_num, HG8, HS8, HP28, HP38, HO8⟩
      case measure => simp [intOf]; omega
    · have hk5 : ¬ (k : Int) < (L.length : Int) := by omega
      obtain rfl : k = L.length := by omega
      obtain ⟨ms, hms, hml, hT, hO, hgr, hBl⟩ := blk_put HP2.out #[.int .i64 kd, .int .i64 frm, .int .i64 tt, .int .i64 sub, .int .u64 c, .int .i64 n, .int .i64 slot, .int .i64 time, .bool ok, .string text, .slice ua L.length uc] rfl (eleven_one _ _ _ _ _ _ _ _ _ _ _ _ _)
      have HGF := Lib.hid (gr_put HG.out hgr (by omega))
      have HOF := Lib.hid (show (wr.setCells (w.heap.size + 1) 0 ms).ownsRow w.heap.size 74 4 (.slice ua L.length uc) L.length (rcells encE L) from by
        have := HO.out.kept hgr (.inr (row_off HP2.out HO.out (by decide)))
        rwa [List.take_length] at this)
      have HMS := Lib.hid hms
      have HML := Lib.hid hml
      have HTT := Lib.hid hT
      have HOO := Lib.hid hO
      have z0 := hBl.cell (i := 0) rfl
      have z1 := hBl.cell (i := 1) rfl
      have z2 := hBl.cell (i := 2) rfl
      have z3 := hBl.cell (i := 3) rfl
      have z4 := hBl.cell (i := 4) rfl
      have z5 := hBl.cell (i := 5) rfl
      have z6 := hBl.cell (i := 6) rfl
      have z7 := hBl.cell (i := 7) rfl
      have z8 := hBl.cell (i := 8) rfl
      have z9 := hBl.cell (i := 9) rfl
      have z10 := hBl.cell (i := 10) rfl
      have m0 := HP3.out.cell (i := 0) rfl
      have m1 := HP3.out.cell (i := 1) rfl
      have m2 := HP3.out.cell (i := 2) rfl
      have m3 := HP3.out.cell (i := 3) rfl
      have m4 := HP3.out.cell (i := 4) rfl
      have m5 := HP3.out.cell (i := 5) rfl
      have m6 := HP3.out.cell (i := 6) rfl
      have m7 := HP3.out.cell (i := 7) rfl
      have m8 := HP3.out.cell (i := 8) rfl
      have m9 := HP3.out.cell (i := 9) rfl
      have m10 := HP3.out.cell (i := 10) rfl
      clear hms hml hT hO hgr hBl HG HS HP2 HP3 HO
      go_wp2_with (first | (refine wpList_store_mid rfl 41 (.tmp 2) (.tmp 45) (by rfl) (w.heap.size + 1) 0 ms.toArray (by rfl) (by exact HMS.out) HTT.out (by rw [HML.out]; kernel_rfl) HOO.out ?_))
      refine bodyPost_ret (v := .agg #[.int .i64 kd, .int .i64 frm, .int .i64 tt, .int .i64 sub, .int .u64 c, .int .i64 n, .int .i64 slot, .int .i64 time, .bool ok, .string text, .slice ua L.length uc]) (by simp [results, Tryz.results10, go_sem, z0, z1, z2, z3, z4, z5, z6, z7, z8, z9, z10]; try rfl) rfl ?_
      exact ⟨ua, uc, rfl, HOF.out, HGF.out⟩
end Go.Proofs.YtfgkgpkaohkehaaGreatDoor
namespace Go.Proofs.YtfgkgpkaohkehaaGreatDoor
open Go.ChangeShapes Go.WideShapes Go.ChangeAt Go.RowKit
set_option linter.unusedVariables false
set_option linter.unusedSimpArgs false
def upB (n m : Int) : Bool := decide (0 ≤ n) && decide (n ≤ m)
def balB (c n : Int) : Bool := upB n 11 && (decide (0 < c) || decide (c = 0 ∧ n = 0))
def badE (e : E) : Bool := !upB e.slot 1099511627776 || !balB e.c e.n
def bigE (e : E) : Bool := decide (400 < (e.text.size : Int))
theorem HK0 (w : World) (c n : Int) : (w.alloc (.cells #[.int .u64 c, .int .i64 n] 38)).cell? ⟨w.heap.size, 0, none⟩ = some (.int .u64 c) ∧ (w.alloc (.cells #[.int .u64 c, .int .i64 n] 38)).cell? ⟨w.heap.size, 1, none⟩ = some (.int .i64 n) :=
  ⟨(Gr.refl (w.alloc _)).own.1 0 _ rfl, (Gr.refl (w.alloc _)).own.1 1 _ rfl⟩
theorem isKind_any (k : Int) (w : World) : Calls Tryz.prog 25 #[.int .i64 k] w fun e w' => e = .returned (.bool (decide (1 ≤ k) && decide (k ≤ 13))) ∧ Gr w w' := by
  by_cases h1 : 1 ≤ k
  · by_cases h2 : k ≤ 13
    · go_enter Tryz.func25, Tryz.ntmps25
      go_wp2
      go_ret
      exact ⟨by simp [h1, h2], Gr.refl _⟩
    · go_enter Tryz.func25, Tryz.ntmps25
      go_wp2
      go_ret
      exact ⟨by simp [h1, h2], Gr.refl _⟩
  · go_enter Tryz.func25, Tryz.ntmps25
    go_wp2
    go_ret
    exact ⟨by simp [h1]; try omega, Gr.refl _⟩
theorem upTo_any (n m : Int) (w : World) : Calls Tryz.prog 98 #[.int .i64 n, .int .i64 m] w fun e w' => e = .returned (.bool (upB n m)) ∧ Gr w w' := by
  unfold upB
  by_cases h1 : 0 ≤ n
  · by_cases h2 : n ≤ m
    · go_enter Tryz.func98, Tryz.ntmps98
      go_wp2
      go_ret
      exact ⟨by simp [h1, h2], Gr.refl _⟩
    · go_enter Tryz.func98, Tryz.ntmps98
      go_wp2
      go_ret
      exact ⟨by simp [h1, h2], Gr.refl _⟩
  · go_enter Tryz.func98, Tryz.ntmps98
    go_wp2
    go_ret
    exact ⟨by simp [h1]; try omega, Gr.refl _⟩
theorem isBallot_any (c n : Int) (w : World) : Calls Tryz.prog 99 #[.agg #[.int .u64 c, .int .i64 n]] w fun e w' => e = .returned (.bool (balB c n)) ∧ Gr w w' := by
  unfold balB
  have HA := Lib.hid ((Gr.refl w).alloc (.cells #[.int .u64 c, .int .i64 n] 38))
  have HU := Lib.hid (upTo_any n 11)
  have HN := Lib.hid (none08_any c n)
  cases e0 : upB n 11
  · have E0 := Lib.hid e0
    rw [e0] at HU
    clear e0
    go_enter Tryz.func99, Tryz.ntmps99
    go_wp2_with fail
    refine (HU.out _).mono ?_
    rintro e w9 ⟨rfl, hg9⟩
    have HG9 := Lib.hid (HA.out.trans hg9)
    clear hg9
    go_wp2
    go_ret
    exact ⟨by first | rfl | simp, HG9.out⟩
  · have E0 := Lib.hid e0
    rw [e0] at HU
    clear e0
    by_cases hc : 0 < c
    · go_enter Tryz.func99, Tryz.ntmps99
      go_wp2_with fail
      refine (HU.out _).mono ?_
      rintro e w9 ⟨rfl, hg9⟩
      have HG9 := Lib.hid (HA.out.trans hg9)
      have k0 := hg9.cell (HK0 w c n).1
      have k1 := hg9.cell (HK0 w c n).2
      clear hg9
      go_wp2
      go_ret
      exact ⟨by simp [hc], HG9.out⟩
    · go_enter Tryz.func99, Tryz.ntmps99
      go_wp2_with fail
      refine (HU.out _).mono ?_
      rintro e w9 ⟨rfl, hg9⟩
      have HG9 := Lib.hid (HA.out.trans hg9)
      have k0 := hg9.cell (HK0 w c n).1
      have k1 := hg9.cell (HK0 w c n).2
      clear hg9
      go_wp2_with fail
      refine (HN.out _).mono ?_
      rintro e w8 ⟨rfl, hg8⟩
      have HG8 := Lib.hid (HG9.out.trans hg8)
      clear hg8 k0 k1
      go_wp2
      go_ret
      exact ⟨by simp [hc], HG8.out⟩
theorem bad_any (y : E) (w : World) : Calls Tryz.prog 97 #[.agg #[.int .i64 y.slot, .int .u64 y.c, .int .i64 y.n, .string y.text]] w fun e w' => e = .returned (.bool (badE y)) ∧ Gr w w' := by
  unfold badE
  have HA := Lib.hid ((Gr.refl w).alloc (.cells #[.int .i64 y.slot, .int .u64 y.c, .int .i64 y.n, .string y.text] 74))
  have HO := Lib.hid ((Gr.refl (w.alloc (.cells #[.int .i64 y.slot, .int .u64 y.c, .int .i64 y.n, .string y.text] 74))).own)
  have HU := Lib.hid (upTo_any y.slot 1099511627776)
  have HB := Lib.hid (isBallot_any y.c y.n)
  cases e0 : upB y.slot 1099511627776
  · rw [e0] at HU
    clear e0
    go_enter Tryz.func97, Tryz.ntmps97
    go_wp2_with fail
    refine (HU.out _).mono ?_
    rintro e w9 ⟨rfl, hg9⟩
    have HG9 := Lib.hid (HA.out.trans hg9)
    clear hg9
    go_wp2
    go_ret
    exact ⟨by first | rfl | simp, HG9.out⟩
  · rw [e0] at HU
    clear e0
    go_enter Tryz.func97, Tryz.ntmps97
    go_wp2_with fail
    refine (HU.out _).mono ?_
    rintro e w9 ⟨rfl, hg9⟩
    have HG9 := Lib.hid (HA.out.trans hg9)
    have k1 := hg9.cell (HO.out.1 1 _ rfl)
    have k2 := hg9.cell (HO.out.1 2 _ rfl)
    clear hg9
    go_wp2_with fail
    refine (HB.out _).mono ?_
    rintro e w8 ⟨rfl, hg8⟩
    have HG8 := Lib.hid (HG9.out.trans hg8)
    clear hg8 k1 k2
    go_wp2
    go_ret
    exact ⟨by first | rfl | simp, HG8.out⟩
theorem big_any (y : E) (w : World) : Calls Tryz.prog 101 #[.agg #[.int .i64 y.slot, .int .u64 y.c, .int .i64 y.n, .string y.text]] w fun e w' => e = .returned (.bool (bigE y)) ∧ Gr w w' := by
  unfold bigE
  by_cases h : 400 < (y.text.size : Int)
  · go_enter Tryz.func101, Tryz.ntmps101
    go_wp2
    go_ret
    exact ⟨by simp [h], (Gr.refl _).alloc _⟩
  · go_enter Tryz.func101, Tryz.ntmps101
    go_wp2
    go_ret
    exact ⟨by simp [h], (Gr.refl _).alloc _⟩
set_option maxRecDepth 100000 in
set_option maxHeartbeats 2000000 in
theorem badI_any {base : Nat} {v : Value} (L : List E) (w : World) (h : w.ownsRow base 74 4 v L.length (rcells encE L)) (hl : L.length ≤ 1000) :
    Calls Tryz.prog 112 #[v, .func (.func 97) #[] #[]] w fun e w' => ∃ i : Int, e = .returned (.int .i64 i) ∧ decide (0 ≤ i) = L.any badE ∧ Gr w w' := by
  obtain ⟨a, c, rfl, _⟩ := ownsRow_slice h
  have HS := Lib.hid fun k hk => erow_at h k hk
  clear h
  go_enter Tryz.func112, Tryz.ntmps112
  go_wp2
  go_loopw [8] (fun u1 wr => ∃ k : Nat, k ≤ L.length ∧ u1 = .int .i64 (k : Nat) ∧ Hid (∀ j (hj : j < L.length), j < k → badE L[j] = false) ∧ Hid (Gr w wr)) (fun u1 _ => L.length - (intOf u1).toNat)
  case atStart => exact ⟨0, by omega, rfl, Lib.hid (fun j _ hj => absurd hj (by omega)), Lib.hid (Gr.refl _)⟩
  case round =>
    obtain ⟨k, hk, rfl, HN, HG⟩ := hrel
    by_cases hlt : k < L.length
    · have hk4 : (k : Int) < (L.length : Int) := by omega
      obtain ⟨g, cap, hv, hc1, hc2, hc3, hc4⟩ := HS.out k hlt
      simp only [Value.slice.injEq, true_and] at hv
      obtain ⟨rfl, rfl⟩ := hv
      have d1 := HG.out.cell hc1
      have d2 := HG.out.cell hc2
      have d3 := HG.out.cell hc3
      have d4 := HG.out.cell hc4
      clear hc1 hc2 hc3 hc4
      have HM := Lib.hid (List.getElem_mem hlt)
      have HC := Lib.hid (bad_any L[k] wr)
      generalize hy : L[k] = y at *
      have HY := Lib.hid hy
      clear hy
      cases hx : badE y
      · have HX := Lib.hid hx
        rw [hx] at HC
        clear hx
        go_wp2_with fail
        refine HC.out.mono ?_
        rintro e w9 ⟨rfl, hg9⟩
        have HG9 := Lib.hid (HG.out.trans hg9)
        clear hg9 d1 d2 d3 d4
        go_wp2
        go_roundw
        case rel => exact ⟨k + 1, by omega, by go_num, Lib.hid (fun j hj hjk => by
          by_cases e : j = k
          · subst e; rw [HY.out]; exact HX.out
          · exact HN.out j hj (by omega)), HG9⟩
        case measure => simp [intOf]; omega
      · have HX := Lib.hid hx
        rw [hx] at HC
        clear hx
        go_wp2_with fail
        refine HC.out.mono ?_
        rintro e w9 ⟨rfl, hg9⟩
        have HG9 := Lib.hid (HG.out.trans hg9)
        clear hg9 d1 d2 d3 d4
        go_wp2
        go_ret
        exact ⟨_, rfl, by rw [decide_eq_true (by omega)]; exact (List.any_eq_true.2 ⟨y, HM.out, HX.out⟩).symm, HG9.out⟩
    · have hk5 : ¬ (k : Int) < (L.length : Int) := by omega
      go_wp2
      go_ret
      refine ⟨_, rfl, ?_, HG.out⟩
      rw [show decide ((0 : Int) ≤ -1) = false from rfl]
      refine (List.any_eq_false.2 fun y hy => ?_).symm
      obtain ⟨j, hj, rfl⟩ := List.getElem_of_mem hy
      rw [HN.out j hj (by omega)]; simp
theorem badC_any {base : Nat} {v : Value} (L : List E) (w : World) (h : w.ownsRow base 74 4 v L.length (rcells encE L)) (hl : L.length ≤ 1000) :
    Calls Tryz.prog 100 #[v, .func (.func 97) #[] #[]] w fun e w' => e = .returned (.bool (L.any badE)) ∧ Gr w w' := by
  obtain ⟨a, c, rfl, _⟩ := ownsRow_slice h
  have HC := Lib.hid (badI_any L w h hl)
  clear h
  generalize L.any badE = b at *
  go_enter Tryz.func100, Tryz.ntmps100
  go_wp2_with fail
  refine HC.out.mono ?_
  rintro e w9 ⟨i, rfl, hi, hg9⟩
  have HG9 := Lib.hid hg9
  have HI := Lib.hid hi
  clear hg9 hi HC
  go_wp2
  go_ret
  exact ⟨by first | (rw [← HI.out]; rfl) | (simp [← HI.out]; done), HG9.out⟩
set_option maxRecDepth 100000 in
set_option maxHeartbeats 2000000 in
theorem bigI_any {base : Nat} {v : Value} (L : List E) (w : World) (h : w.ownsRow base 74 4 v L.length (rcells encE L)) (hl : L.length ≤ 1000) :
    Calls Tryz.prog 112 #[v, .func (.func 101) #[] #[]] w fun e w' => ∃ i : Int, e = .returned (.int .i64 i) ∧ decide (0 ≤ i) = L.any bigE ∧ Gr w w' := by
  obtain ⟨a, c, rfl, _⟩ := ownsRow_slice h
  have HS := Lib.hid fun k hk => erow_at h k hk
  clear h
  go_enter Tryz.func112, Tryz.ntmps112
  go_wp2
  go_loopw [8] (fun u1 wr => ∃ k : Nat, k ≤ L.length ∧ u1 = .int .i64 (k : Nat) ∧ Hid (∀ j (hj : j < L.length), j < k → bigE L[j] = false) ∧ Hid (Gr w wr)) (fun u1 _ => L.length - (intOf u1).toNat)
  case atStart => exact ⟨0, by omega, rfl, Lib.hid (fun j _ hj => absurd hj (by omega)), Lib.hid (Gr.refl _)⟩
  case round =>
    obtain ⟨k, hk, rfl, HN, HG⟩ := hrel
    by_cases hlt : k < L.length
    · have hk4 : (k : Int) < (L.length : Int) := by omega
      obtain ⟨g, cap, hv, hc1, hc2, hc3, hc4⟩ := HS.out k hlt
      simp only [Value.slice.injEq, true_and] at hv
      obtain ⟨rfl, rfl⟩ := hv
      have d1 := HG.out.cell hc1
      have d2 := HG.out.cell hc2
      have d3 := HG.out.cell hc3
      have d4 := HG.out.cell hc4
      clear hc1 hc2 hc3 hc4
      have HM := Lib.hid (List.getElem_mem hlt)
      have HC := Lib.hid (big_any L[k] wr)
      generalize hy : L[k] = y at *
      have HY := Lib.hid hy
      clear hy
      cases hx : bigE y
      · have HX := Lib.hid hx
        rw [hx] at HC
        clear hx
        go_wp2_with fail
        refine HC.out.mono ?_
        rintro e w9 ⟨rfl, hg9⟩
        have HG9 := Lib.hid (HG.out.trans hg9)
        clear hg9 d1 d2 d3 d4
        go_wp2
        go_roundw
        case rel => exact ⟨k + 1, by omega, by go_num, Lib.hid (fun j hj hjk => by
          by_cases e : j = k
          · subst e; rw [HY.out]; exact HX.out
          · exact HN.out j hj (by omega)), HG9⟩
        case measure => simp [intOf]; omega
      · have HX := Lib.hid hx
        rw [hx] at HC
        clear hx
        go_wp2_with fail
        refine HC.out.mono ?_
        rintro e w9 ⟨rfl, hg9⟩
        have HG9 := Lib.hid (HG.out.trans hg9)
        clear hg9 d1 d2 d3 d4
        go_wp2
        go_ret
        exact ⟨_, rfl, by rw [decide_eq_true (by omega)]; exact (List.any_eq_true.2 ⟨y, HM.out, HX.out⟩).symm, HG9.out⟩
    · have hk5 : ¬ (k : Int) < (L.length : Int) := by omega
      go_wp2
      go_ret
      refine ⟨_, rfl, ?_, HG.out⟩
      rw [show decide ((0 : Int) ≤ -1) = false from rfl]
      refine (List.any_eq_false.2 fun y hy => ?_).symm
      obtain ⟨j, hj, rfl⟩ := List.getElem_of_mem hy
      rw [HN.out j hj (by omega)]; simp
theorem bigC_any {base : Nat} {v : Value} (L : List E) (w : World) (h : w.ownsRow base 74 4 v L.length (rcells encE L)) (hl : L.length ≤ 1000) :
    Calls Tryz.prog 100 #[v, .func (.func 101) #[] #[]] w fun e w' => e = .returned (.bool (L.any bigE)) ∧ Gr w w' := by
  obtain ⟨a, c, rfl, _⟩ := ownsRow_slice h
  have HC := Lib.hid (bigI_any L w h hl)
  clear h
  generalize L.any bigE = b at *
  go_enter Tryz.func100, Tryz.ntmps100
  go_wp2_with fail
  refine HC.out.mono ?_
  rintro e w9 ⟨i, rfl, hi, hg9⟩
  have HG9 := Lib.hid hg9
  have HI := Lib.hid hi
  clear hg9 hi HC
  go_wp2
  go_ret
  exact ⟨by first | (rw [← HI.out]; rfl) | (simp [← HI.out]; done), HG9.out⟩
end Go.Proofs.YtfgkgpkaohkehaaGreatDoor
namespace Go.Proofs.YtfgkgpkaohkehaaGreatDoor
open Go.ChangeShapes Go.WideShapes Go.ChangeAt Go.RowKit
set_option linter.unusedVariables false
set_option linter.unusedSimpArgs false
def rangeB (frm tt sub c n slot time : Int) (L : List E) : Bool := upB frm 11 && (upB tt 11 && (upB sub 3 && (balB c n && (upB slot 1099511627776 && (upB time 1099511627776 && !L.any badE)))))
def shortB (text : ByteArray) (L : List E) : Bool := decide (text.size ≤ 131072) && (decide (L.length ≤ 64) && !L.any bigE)
def chainB : List E → Bool
  | x :: y :: t => decide (x.slot < y.slot) && chainB (y :: t)
  | _ => true
theorem chainB_iff : ∀ L : List E, chainB L = true ↔ ∀ i (h : i + 1 < L.length), L[i].slot < L[i + 1].slot
  | [] => by simp [chainB]
  | [x] => by simp [chainB]
  | x :: y :: t => by
    rw [chainB, Bool.and_eq_true, decide_eq_true_iff, chainB_iff (y :: t)]
    constructor
    · intro ⟨h0, h1⟩ i hi
      cases i with
      | zero => exact h0
      | succ i => exact h1 i (by simpa using hi)
    · intro h
      exact ⟨h 0 (by simp), fun i hi => h (i + 1) (by simpa using hi)⟩
def kindB (kd : Int) : Bool := decide (1 ≤ kd) && decide (kd ≤ 13)
def checkM (kd frm tt sub c n slot time : Int) (text : ByteArray) (L : List E) : Int :=
  if kindB kd then (if rangeB frm tt sub c n slot time L then (if shortB text L then (if chainB L then 0 else 4) else 6) else 2) else 1
set_option maxRecDepth 100000 in
set_option maxHeartbeats 4000000 in
theorem inRange_any {base : Nat} {a : Option Addr} {q : Nat} (kd frm tt sub c n slot time : Int) (ok : Bool) (text : ByteArray) (L : List E) (w : World) (h : w.ownsRow base 74 4 (.slice a L.length q) L.length (rcells encE L)) (hl : L.length ≤ 1000) :
    Calls Tryz.prog 61 #[.agg #[.int .i64 kd, .int .i64 frm, .int .i64 tt, .int .i64 sub, .int .u64 c, .int .i64 n, .int .i64 slot, .int .i64 time, .bool ok, .string text, .slice a L.length q]] w fun e w' => e = .returned (.bool (rangeB frm tt sub c n slot time L)) ∧ Gr w w' := by
  have HA := Lib.hid ((Gr.refl w).alloc (.cells #[.int .i64 kd, .int .i64 frm, .int .i64 tt, .int .i64 sub, .int .u64 c, .int .i64 n, .int .i64 slot, .int .i64 time, .bool ok, .string text, .slice a L.length q] 41))
  have HO := Lib.hid ((Gr.refl (w.alloc (.cells #[.int .i64 kd, .int .i64 frm, .int .i64 tt, .int .i64 sub, .int .u64 c, .int .i64 n, .int .i64 slot, .int .i64 time, .bool ok, .string text, .slice a L.length q] 41))).own)
  have HG := Lib.hid (Gr.refl (w.alloc (.cells #[.int .i64 kd, .int .i64 frm, .int .i64 tt, .int .i64 sub, .int .u64 c, .int .i64 n, .int .i64 slot, .int .i64 time, .bool ok, .string text, .slice a L.length q] 41)))
  have HR := Lib.hid fun w9 (hg : Gr w w9) => ownsRow_gr hg h
  clear h
  have HC := Lib.hid fun w9 (hg : Gr w w9) => badC_any L w9 (HR.out w9 hg) hl
  clear HR
  unfold rangeB
  have H0 := Lib.hid (upTo_any frm 11)
  have H1 := Lib.hid (upTo_any tt 11)
  have H2 := Lib.hid (upTo_any sub 3)
  have H3 := Lib.hid (isBallot_any c n)
  have H4 := Lib.hid (upTo_any slot 1099511627776)
  have H5 := Lib.hid (upTo_any time 1099511627776)
  generalize upB frm 11 = x0 at *
  generalize upB tt 11 = x1 at *
  generalize upB sub 3 = x2 at *
  generalize balB c n = x3 at *
  generalize upB slot 1099511627776 = x4 at *
  generalize upB time 1099511627776 = x5 at *
  generalize L.any badE = x6 at *
  go_enter Tryz.func61, Tryz.ntmps61
  have k1 := HG.out.cell (HO.out.1 1 _ rfl)
  go_wp2_with fail
  refine (H0.out _).mono ?_
  rintro e w0 ⟨rfl, hg9⟩
  replace HG := Lib.hid (HG.out.trans hg9)
  clear hg9 k1
  cases x0
  · go_wp2
    go_ret
    exact ⟨by first | rfl | simp, HA.out.trans HG.out⟩
  · skip
    have k2 := HG.out.cell (HO.out.1 2 _ rfl)
    go_wp2_with fail
    refine (H1.out _).mono ?_
    rintro e w1 ⟨rfl, hg9⟩
    replace HG := Lib.hid (HG.out.trans hg9)
    clear hg9 k2
    cases x1
    · go_wp2
      go_ret
      exact ⟨by first | rfl | simp, HA.out.trans HG.out⟩
    · skip
      have k3 := HG.out.cell (HO.out.1 3 _ rfl)
      go_wp2_with fail
      refine (H2.out _).mono ?_
      rintro e w2 ⟨rfl, hg9⟩
      replace HG := Lib.hid (HG.out.trans hg9)
      clear hg9 k3
      cases x2
      · go_wp2
        go_ret
        exact ⟨by first | rfl | simp, HA.out.trans HG.out⟩
      · skip
        have k4 := HG.out.cell (HO.out.1 4 _ rfl)
        have k5 := HG.out.cell (HO.out.1 5 _ rfl)
        go_wp2_with fail
        refine (H3.out _).mono ?_
        rintro e w3 ⟨rfl, hg9⟩
        replace HG := Lib.hid (HG.out.trans hg9)
        clear hg9 k4 k5
        cases x3
        · go_wp2
          go_ret
          exact ⟨by first | rfl | simp, HA.out.trans HG.out⟩
        · skip
          have k6 := HG.out.cell (HO.out.1 6 _ rfl)
          go_wp2_with fail
          refine (H4.out _).mono ?_
          rintro e w4 ⟨rfl, hg9⟩
          replace HG := Lib.hid (HG.out.trans hg9)
          clear hg9 k6
          cases x4
          · go_wp2
            go_ret
            exact ⟨by first | rfl | simp, HA.out.trans HG.out⟩
          · skip
            have k7 := HG.out.cell (HO.out.1 7 _ rfl)
            go_wp2_with fail
            refine (H5.out _).mono ?_
            rintro e w5 ⟨rfl, hg9⟩
            replace HG := Lib.hid (HG.out.trans hg9)
            clear hg9 k7
            cases x5
            · go_wp2
              go_ret
              exact ⟨by first | rfl | simp, HA.out.trans HG.out⟩
            · skip
              have k10 := HG.out.cell (HO.out.1 10 _ rfl)
              go_wp2_with fail
              refine (HC.out _ (HA.out.trans HG.out)).mono ?_
              rintro e w6 ⟨rfl, hg9⟩
              replace HG := Lib.hid (HG.out.trans hg9)
              clear hg9 k10
              cases x6
              · go_wp2
                go_ret
                exact ⟨by first | rfl | simp, HA.out.trans HG.out⟩
              · go_wp2
                go_ret
                exact ⟨by first | rfl | simp, HA.out.trans HG.out⟩
set_option maxRecDepth 100000 in
set_option maxHeartbeats 4000000 in
theorem isShort_any {base : Nat} {a : Option Addr} {q : Nat} (kd frm tt sub c n slot time : Int) (ok : Bool) (text : ByteArray) (L : List E) (w : World) (h : w.ownsRow base 74 4 (.slice a L.length q) L.length (rcells encE L)) (hl : L.length ≤ 1000) :
    Calls Tryz.prog 62 #[.agg #[.int .i64 kd, .int .i64 frm, .int .i64 tt, .int .i64 sub, .int .u64 c, .int .i64 n, .int .i64 slot, .int .i64 time, .bool ok, .string text, .slice a L.length q]] w fun e w' => e = .returned (.bool (shortB text L)) ∧ Gr w w' := by
  have HA := Lib.hid ((Gr.refl w).alloc (.cells #[.int .i64 kd, .int .i64 frm, .int .i64 tt, .int .i64 sub, .int .u64 c, .int .i64 n, .int .i64 slot, .int .i64 time, .bool ok, .string text, .slice a L.length q] 41))
  have HO := Lib.hid ((Gr.refl (w.alloc (.cells #[.int .i64 kd, .int .i64 frm, .int .i64 tt, .int .i64 sub, .int .u64 c, .int .i64 n, .int .i64 slot, .int .i64 time, .bool ok, .string text, .slice a L.length q] 41))).own)
  have HG := Lib.hid (Gr.refl (w.alloc (.cells #[.int .i64 kd, .int .i64 frm, .int .i64 tt, .int .i64 sub, .int .u64 c, .int .i64 n, .int .i64 slot, .int .i64 time, .bool ok, .string text, .slice a L.length q] 41)))
  have HR := Lib.hid fun w9 (hg : Gr w w9) => ownsRow_gr hg h
  clear h
  have HC := Lib.hid fun w9 (hg : Gr w w9) => bigC_any L w9 (HR.out w9 hg) hl
  clear HR
  unfold shortB
  generalize L.any bigE = x6 at *
  have k9 := HG.out.cell (HO.out.1 9 _ rfl)
  have k10 := HG.out.cell (HO.out.1 10 _ rfl)
  by_cases h1 : text.size ≤ 131072
  · rw [decide_eq_true h1]
    have h1' : (text.size : Int) ≤ 131072 := by omega
    by_cases h2 : L.length ≤ 64
    · rw [decide_eq_true h2]
      have h2' : (L.length : Int) ≤ 64 := by omega
      go_enter Tryz.func62, Tryz.ntmps62
      go_wp2_with fail
      refine (HC.out _ (HA.out.trans HG.out)).mono ?_
      rintro e w9 ⟨rfl, hg9⟩
      replace HG := Lib.hid (HG.out.trans hg9)
      clear hg9 k9 k10
      cases x6
      · go_wp2
        go_ret
        exact ⟨by first | rfl | simp, HA.out.trans HG.out⟩
      · go_wp2
        go_ret
        exact ⟨by first | rfl | simp, HA.out.trans HG.out⟩
    · rw [decide_eq_false h2]
      have h2' : ¬ (L.length : Int) ≤ 64 := by omega
      go_enter Tryz.func62, Tryz.ntmps62
      go_wp2
      go_ret
      exact ⟨by first | rfl | simp, HA.out.trans HG.out⟩
  · rw [decide_eq_false h1]
    have h1' : ¬ (text.size : Int) ≤ 131072 := by omega
    go_enter Tryz.func62, Tryz.ntmps62
    go_wp2
    go_ret
    exact ⟨by first | rfl | simp, HA.out.trans HG.out⟩
end Go.Proofs.YtfgkgpkaohkehaaGreatDoor
namespace Go.Proofs.YtfgkgpkaohkehaaGreatDoor
open Go.ChangeShapes Go.WideShapes Go.ChangeAt Go.RowKit
set_option linter.unusedVariables false
set_option linter.unusedSimpArgs false
set_option maxRecDepth 100000 in
set_option maxHeartbeats 4000000 in
theorem ascends_any {base : Nat} {a : Option Addr} {q : Nat} (kd frm tt sub c n slot time : Int) (ok : Bool) (text : ByteArray) (L : List E) (w : World) (h : w.ownsRow base 74 4 (.slice a L.length q) L.length (rcells encE L)) (hl : L.length ≤ 1000) :
    Calls Tryz.prog 63 #[.agg #[.int .i64 kd, .int .i64 frm, .int .i64 tt, .int .i64 sub, .int .u64 c, .int .i64 n, .int .i64 slot, .int .i64 time, .bool ok, .string text, .slice a L.length q]] w fun e w' => e = .returned (.bool (chainB L)) ∧ Gr w w' := by
  have HA := Lib.hid ((Gr.refl w).alloc (.cells #[.int .i64 kd, .int .i64 frm, .int .i64 tt, .int .i64 sub, .int .u64 c, .int .i64 n, .int .i64 slot, .int .i64 time, .bool ok, .string text, .slice a L.length q] 41))
  have HO := Lib.hid ((Gr.refl (w.alloc (.cells #[.int .i64 kd, .int .i64 frm, .int .i64 tt, .int .i64 sub, .int .u64 c, .int .i64 n, .int .i64 slot, .int .i64 time, .bool ok, .string text, .slice a L.length q] 41))).own)
  have HG := Lib.hid (Gr.refl (w.alloc (.cells #[.int .i64 kd, .int .i64 frm, .int .i64 tt, .int .i64 sub, .int .u64 c, .int .i64 n, .int .i64 slot, .int .i64 time, .bool ok, .string text, .slice a L.length q] 41)))
  have HR := Lib.hid fun w9 (hg : Gr w w9) => ownsRow_gr hg h
  clear h
  have HS := Lib.hid fun w9 (hg : Gr w w9) k hk => erow_at (HR.out w9 hg) k hk
  clear HR
  go_enter Tryz.func63, Tryz.ntmps63
  go_wp2
  go_loopw [3] (fun u1 wr => ∃ k : Nat, (k < L.length ∨ k = 0) ∧ u1 = .int .i64 ((k : Int) + 1) ∧ Hid (∀ i (h : i + 1 < L.length), i < k → L[i].slot < L[i + 1].slot) ∧ Hid (Gr (w.alloc (.cells #[.int .i64 kd, .int .i64 frm, .int .i64 tt, .int .i64 sub, .int .u64 c, .int .i64 n, .int .i64 slot, .int .i64 time, .bool ok, .string text, .slice a L.length q] 41)) wr)) (fun u1 _ => L.length - (intOf u1).toNat)
  case atStart => exact ⟨0, .inr rfl, rfl, Lib.hid (fun j _ hj => absurd hj (by omega)), Lib.hid (Gr.refl _)⟩
  case round =>
    clear HG
    obtain ⟨k, hk, rfl, HN, HG⟩ := hrel
    have k10 := HG.out.cell (HO.out.1 10 _ rfl)
    by_cases hlt : k + 1 < L.length
    · have hk4 : (k : Int) + 1 < (L.length : Int) := by omega
      have hk6 : (k : Int) < (L.length : Int) := by omega
      obtain ⟨g, cap, hv, d1, _⟩ := HS.out wr (HA.out.trans HG.out) k (by omega)
      simp only [Value.slice.injEq, true_and] at hv
      obtain ⟨rfl, rfl⟩ := hv
      obtain ⟨g', cap', hv, d2, _⟩ := HS.out wr (HA.out.trans HG.out) (k + 1) hlt
      simp only [Value.slice.injEq, true_and, Option.some.injEq, Addr.mk.injEq, and_true] at hv
      obtain ⟨rfl, rfl⟩ := hv
      generalize hx : L[k].slot = x at *
      generalize hy : L[k + 1].slot = y at *
      have HX := Lib.hid hx
      have HY := Lib.hid hy
      clear hx hy
      by_cases hxy : x < y
      · have HXY := Lib.hid hxy
        have e : ¬ y ≤ x := by omega
        clear hxy
        go_wp2
        go_quiet (fail)
        go_wp2
        go_roundw
        case rel => exact ⟨k + 1, .inl hlt, by go_num, Lib.hid (fun j hj hjk => by
          by_cases e : j = k
          · subst e; rw [HX.out, HY.out]; exact HXY.out
          · exact HN.out j hj (by omega)), Lib.hid (HG.out.drewN _)⟩
        case measure => simp [intOf]; omega
      · have HXY := Lib.hid hxy
        have e : y ≤ x := by omega
        clear hxy
        go_wp2
        go_quiet (fail)
        go_wp2
        go_ret
        refine ⟨?_, HA.out.trans (HG.out.drewN _)⟩
        have : chainB L = false := by
          cases hc : chainB L
          · rfl
          · exact absurd ((chainB_iff L).1 hc k hlt) (by rw [HX.out, HY.out]; have := HXY.out; omega)
        rw [this]; rfl
    · have hk5 : ¬ (k : Int) + 1 < (L.length : Int) := by omega
      go_wp2
      go_ret
      exact ⟨by rw [(chainB_iff L).2 fun i hi => HN.out i hi (by omega)]; rfl, HA.out.trans HG.out⟩
set_option maxRecDepth 100000 in
set_option maxHeartbeats 4000000 in
theorem Check_any {base : Nat} {a : Option Addr} {q : Nat} (kd frm tt sub c n slot time : Int) (ok : Bool) (text : ByteArray) (L : List E) (w : World) (h : w.ownsRow base 74 4 (.slice a L.length q) L.length (rcells encE L)) (hl : L.length ≤ 1000) :
    Calls Tryz.prog 32 #[.agg #[.int .i64 kd, .int .i64 frm, .int .i64 tt, .int .i64 sub, .int .u64 c, .int .i64 n, .int .i64 slot, .int .i64 time, .bool ok, .string text, .slice a L.length q]] w fun e w' => e = .returned (.int .i64 (checkM kd frm tt sub c n slot time text L)) ∧ Gr w w' := by
  have HA := Lib.hid ((Gr.refl w).alloc (.cells #[.int .i64 kd, .int .i64 frm, .int .i64 tt, .int .i64 sub, .int .u64 c, .int .i64 n, .int .i64 slot, .int .i64 time, .bool ok, .string text, .slice a L.length q] 41))
  have HO := Lib.hid ((Gr.refl (w.alloc (.cells #[.int .i64 kd, .int .i64 frm, .int .i64 tt, .int .i64 sub, .int .u64 c, .int .i64 n, .int .i64 slot, .int .i64 time, .bool ok, .string text, .slice a L.length q] 41))).own)
  have HG := Lib.hid (Gr.refl (w.alloc (.cells #[.int .i64 kd, .int .i64 frm, .int .i64 tt, .int .i64 sub, .int .u64 c, .int .i64 n, .int .i64 slot, .int .i64 time, .bool ok, .string text, .slice a L.length q] 41)))
  have HR := Lib.hid fun w9 (hg : Gr w w9) => ownsRow_gr hg h
  clear h
  have H0 := Lib.hid (isKind_any kd)
  have H1 := Lib.hid fun w9 (hg : Gr w w9) => inRange_any kd frm tt sub c n slot time ok text L w9 (HR.out w9 hg) hl
  have H2 := Lib.hid fun w9 (hg : Gr w w9) => isShort_any kd frm tt sub c n slot time ok text L w9 (HR.out w9 hg) hl
  have H3 := Lib.hid fun w9 (hg : Gr w w9) => ascends_any kd frm tt sub c n slot time ok text L w9 (HR.out w9 hg) hl
  clear HR
  unfold checkM
  change Hid (∀ w, Calls Tryz.prog 25 #[.int .i64 kd] w fun e w' => e = .returned (.bool (kindB kd)) ∧ Gr w w') at H0
  generalize kindB kd = x0 at *
  generalize rangeB frm tt sub c n slot time L = x1 at *
  generalize shortB text L = x2 at *
  generalize chainB L = x3 at *
  go_enter Tryz.func32, Tryz.ntmps32
  have k0 := HG.out.cell (HO.out.1 0 _ rfl)
  go_wp2_with fail
  refine (H0.out _).mono ?_
  rintro e w0 ⟨rfl, hg9⟩
  replace HG := Lib.hid (HG.out.trans hg9)
  clear hg9 k0
  cases x0
  · go_wp2
    go_ret
    exact ⟨by first | rfl | simp, HA.out.trans HG.out⟩
  · have k0 := HG.out.cell (HO.out.1 0 _ rfl)
    have k1 := HG.out.cell (HO.out.1 1 _ rfl)
    have k2 := HG.out.cell (HO.out.1 2 _ rfl)
    have k3 := HG.out.cell (HO.out.1 3 _ rfl)
    have k4 := HG.out.cell (HO.out.1 4 _ rfl)
    have k5 := HG.out.cell (HO.out.1 5 _ rfl)
    have k6 := HG.out.cell (HO.out.1 6 _ rfl)
    have k7 := HG.out.cell (HO.out.1 7 _ rfl)
    have k8 := HG.out.cell (HO.out.1 8 _ rfl)
    have k9 := HG.out.cell (HO.out.1 9 _ rfl)
    have k10 := HG.out.cell (HO.out.1 10 _ rfl)
    go_wp2_with fail
    refine (H1.out _ (HA.out.trans HG.out)).mono ?_
    rintro e w1 ⟨rfl, hg9⟩
    replace HG := Lib.hid (HG.out.trans hg9)
    clear hg9 k0 k1 k2 k3 k4 k5 k6 k7 k8 k9 k10
    cases x1
    · go_wp2
      go_ret
      exact ⟨by first | rfl | simp, HA.out.trans HG.out⟩
    · have k0 := HG.out.cell (HO.out.1 0 _ rfl)
      have k1 := HG.out.cell (HO.out.1 1 _ rfl)
      have k2 := HG.out.cell (HO.out.1 2 _ rfl)
      have k3 := HG.out.cell (HO.out.1 3 _ rfl)
      have k4 := HG.out.cell (HO.out.1 4 _ rfl)
      have k5 := HG.out.cell (HO.out.1 5 _ rfl)
      have k6 := HG.out.cell (HO.out.1 6 _ rfl)
      have k7 := HG.out.cell (HO.out.1 7 _ rfl)
      have k8 := HG.out.cell (HO.out.1 8 _ rfl)
      have k9 := HG.out.cell (HO.out.1 9 _ rfl)
      have k10 := HG.out.cell (HO.out.1 10 _ rfl)
      go_wp2_with fail
      refine (H2.out _ (HA.out.trans HG.out)).mono ?_
      rintro e w2 ⟨rfl, hg9⟩
      replace HG := Lib.hid (HG.out.trans hg9)
      clear hg9 k0 k1 k2 k3 k4 k5 k6 k7 k8 k9 k10
      cases x2
      · go_wp2
        go_ret
        exact ⟨by first | rfl | simp, HA.out.trans HG.out⟩
      · have k0 := HG.out.cell (HO.out.1 0 _ rfl)
        have k1 := HG.out.cell (HO.out.1 1 _ rfl)
        have k2 := HG.out.cell (HO.out.1 2 _ rfl)
        have k3 := HG.out.cell (HO.out.1 3 _ rfl)
        have k4 := HG.out.cell (HO.out.1 4 _ rfl)
        have k5 := HG.out.cell (HO.out.1 5 _ rfl)
        have k6 := HG.out.cell (HO.out.1 6 _ rfl)
        have k7 := HG.out.cell (HO.out.1 7 _ rfl)
        have k8 := HG.out.cell (HO.out.1 8 _ rfl)
        have k9 := HG.out.cell (HO.out.1 9 _ rfl)
        have k10 := HG.out.cell (HO.out.1 10 _ rfl)
        go_wp2_with fail
        refine (H3.out _ (HA.out.trans HG.out)).mono ?_
        rintro e w3 ⟨rfl, hg9⟩
        replace HG := Lib.hid (HG.out.trans hg9)
        clear hg9 k0 k1 k2 k3 k4 k5 k6 k7 k8 k9 k10
        cases x3
        · go_wp2
          go_ret
          exact ⟨by first | rfl | simp, HA.out.trans HG.out⟩
        · go_wp2
          go_ret
          exact ⟨by first | rfl | simp, HA.out.trans HG.out⟩
end Go.Proofs.YtfgkgpkaohkehaaGreatDoor
namespace Go.Proofs.YtfgkgpkaohkehaaGreatDoor
open Go.ChangeShapes Go.WideShapes Go.ChangeAt Go.RowKit
set_option linter.unusedVariables false
set_option linter.unusedSimpArgs false
end Go.Proofs.YtfgkgpkaohkehaaGreatDoor
namespace Go.Proofs.YtfgkgpkaohkehaaGreatDoor
open Go.ChangeShapes Go.WideShapes Go.ChangeAt Go.RowKit
open Enc Bal
set_option linter.unusedVariables false
set_option linter.unusedSimpArgs false
def insE (y : E) : List UInt8 := encN y.slot ++ (encU y.c.toNat ++ encN y.n) ++ Enc.encS (bytesOf y.text)
def inHead (frm tt sub : Int) (c n : Nat) (slot time : Int) (ok : Bool) (text : ByteArray) (m : Nat) : List UInt8 :=
  encN frm ++ encN tt ++ encN sub ++ (encU c ++ encN (n : Int)) ++ encN slot ++ encN time ++ encB ok ++ Enc.encS (bytesOf text) ++ encN (m : Int)
theorem encN_le9 (n : Int) : (encN n).length ≤ 9 := encU_le _
theorem encS_le9 (s : ByteArray) : (Enc.encS (bytesOf s)).length ≤ s.size + 9 := by unfold Enc.encS; rw [List.length_append, lenB]; have := encU_le s.size; omega
theorem insE_le (y : E) (h : y.text.size ≤ 1000) : (insE y).length ≤ 1100 := by
  unfold insE
  simp only [List.length_append]
  have := encN_le9 y.slot; have := encN_le9 y.n; have := encU_le y.c.toNat; have := encS_le9 y.text
  omega
theorem insL_le : ∀ L : List E, (∀ y ∈ L, y.text.size ≤ 1000) → (L.flatMap insE).length ≤ L.length * 1100
  | [], _ => by simp
  | y :: t, h => by
    rw [List.flatMap_cons, List.length_append, List.length_cons]
    have := insE_le y (h y (by simp)); have := insL_le t (fun z hz => h z (by simp [hz]))
    omega
theorem inHead_le (frm tt sub : Int) (c n : Nat) (slot time : Int) (ok : Bool) (text : ByteArray) (m : Nat) (h : text.size ≤ 1000) : (inHead frm tt sub c n slot time ok text m).length ≤ 1300 := by
  unfold inHead
  simp only [List.length_append]
  have := encN_le9 frm; have := encN_le9 tt; have := encN_le9 sub; have := encN_le9 (n : Int); have := encU_le c; have := encN_le9 slot; have := encN_le9 time; have := encS_le9 text; have := encN_le9 (m : Int)
  have : (encB ok).length = 1 := rfl
  omega
def EOk (y : E) : Prop := (Lit.int .i64 y.slot).wf = true ∧ 0 ≤ y.c ∧ y.c < 18446744073709551616 ∧ 0 ≤ y.n ∧ y.n ≤ 11 ∧ y.text.size ≤ 1000
end Go.Proofs.YtfgkgpkaohkehaaGreatDoor
