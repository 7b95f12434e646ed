import Derived.Test.YtihhfdkcggnjpaaF16r
import Derived.Test.YtihhfdkcggnjpaaC35
import Derived.WalkKit
import Derived.ProofKit
import Derived.LoopTactic
import Derived.Outline
import Derived.WalkSpells
import Derived.WalkLawsBesides
import Derived.Lib.Hide
import Derived.Deep.LoopGhost
import Derived.Deep.QuietTactic
import Derived.BigQuiet
import Derived.ShutString
import Derived.IntWalk
import Derived.Deep.AppendLies
import Derived.Deep.MidRow
import Derived.Deep.Onto
namespace Go.Proofs.Ytihhfdkcggnjpaa
open Go.ChangeShapes Go.WideShapes Go.ChangeAt Go.RowKit
set_option linter.unusedVariables false
set_option linter.unusedSimpArgs false
/-- The cells of an entry in a row, of whatever type. -/
theorem erow_T {T : TypeId} {w : World} {base : Nat} {v : Value} {L : List E} (h : w.ownsRow base T 4 v L.length (rcells encE L)) (i : Nat) (hi : i < L.length) :
    ∃ g cap, v = .slice (some ⟨g, 0, none⟩) L.length cap ∧ w.cell? ⟨g, i * 4, none⟩ = some (.int .i64 L[i].slot) ∧ w.cell? ⟨g, i * 4 + 1, none⟩ = some (.int .u64 L[i].c) ∧ w.cell? ⟨g, i * 4 + 2, none⟩ = some (.int .i64 L[i].n) ∧ w.cell? ⟨g, i * 4 + 3, none⟩ = some (.string L[i].text) := by
  obtain ⟨g, cap, cur, hv, _, _, _, _, _, _, _, hat, _⟩ := owns_open h (by omega)
  refine ⟨g, cap, hv, hat _ _ ?_, hat _ _ ?_, hat _ _ ?_, hat _ _ ?_⟩
  · have := rcells_at encE_len L i hi 0 (by omega); rw [Nat.add_zero] at this; rw [this]; rfl
  · rw [rcells_at encE_len L i hi 1 (by omega)]; rfl
  · rw [rcells_at encE_len L i hi 2 (by omega)]; rfl
  · rw [rcells_at encE_len L i hi 3 (by omega)]; rfl
theorem rcells_take1 (L : List E) (k : Nat) (h : k < L.length) : rcells encE (L.take (k + 1)) = rcells encE (L.take k) ++ encE L[k] := by
  rw [List.take_succ_eq_append_getElem h, rcells_snoc]
theorem eleven_one (v0 v1 v2 v3 v4 v5 v6 v7 : Int) (b : Bool) (t : ByteArray) (a : Option Addr) (l c : Nat) :
    ∀ u ∈ #[Value.int .i64 v0, .int .i64 v1, .int .i64 v2, .int .i64 v3, .int .u64 v4, .int .i64 v5, .int .i64 v6, .int .i64 v7, .bool b, .string t, .slice a l c].toList, u.oneCell' = true := by
  intro u hu
  simp only [List.mem_cons, List.not_mem_nil, or_false] at hu
  rcases hu with rfl | rfl | rfl | rfl | rfl | rfl | rfl | rfl | rfl | rfl | rfl <;> rfl
set_option maxRecDepth 100000 in
set_option maxHeartbeats 4000000 in
/-- The program's message of the document's. -/
theorem own_any {base : Nat} {v : Value} (kd frm tt sub c n slot time : Int) (ok : Bool) (text : ByteArray) (L : List E) (w : World) (h : w.ownsRow base 164 4 v L.length (rcells encE L)) (hl : L.length ≤ 1000) :
    Calls Try.prog 39 #[.agg #[.int .i64 kd, .int .i64 frm, .int .i64 tt, .int .i64 sub, .int .u64 c, .int .i64 n, .int .i64 slot, .int .i64 time, .bool ok, .string text, v]] w fun e w' =>
      ∃ a q, e = .returned (.agg #[.int .i64 kd, .int .i64 frm, .int .i64 tt, .int .i64 sub, .int .u64 c, .int .i64 n, .int .i64 slot, .int .i64 time, .bool ok, .string text, .slice a L.length q]) ∧ w'.ownsRow w.heap.size 159 4 (.slice a L.length q) L.length (rcells encE L) ∧ Gr w w' := by
  obtain ⟨i0, hi0, hz0, hz1, hz2⟩ : ∃ i0 : TypeInfo, Try.prog.info? 159 = some i0 ∧ i0.zero = some (.agg #[.int .i64 0, .int .u64 0, .int .i64 0, .string ⟨#[]⟩]) ∧ i0.size = 4 ∧ i0.bytes = 40 := ⟨_, rfl, rfl, rfl, rfl⟩
  obtain ⟨va, vc, rfl, _⟩ := ownsRow_slice h
  have HV := Lib.hid h
  have HVP := Lib.hid (fun k (e : (Value.slice va L.length vc).ownBlock = some k) => (h.lt k e).2)
  clear h
  go_enter Try.func39, Try.ntmps39
  go_wp2
  have HG0 := Lib.hid (((((Gr.refl w).alloc (.cells #[.int .i64 kd, .int .i64 frm, .int .i64 tt, .int .i64 sub, .int .u64 c, .int .i64 n, .int .i64 slot, .int .i64 time, .bool ok, .string text, .slice va L.length vc] 81)).alloc (.cells #[.int .i64 0, .int .i64 0, .int .i64 0, .int .i64 0, .int .u64 0, .int .i64 0, .int .i64 0, .int .i64 0, .bool false, .string ⟨#[]⟩, .slice none 0 0] 69)).alloc (.cells #[.int .i64 kd, .int .i64 frm, .int .i64 tt, .int .i64 sub, .int .u64 c, .int .i64 n, .int .i64 slot, .int .i64 time, .bool ok, .string text, .slice none 0 0] 69)))
  have HV0 := Lib.hid (ownsRow_gr HG0.out HV.out)
  have HP2 := Lib.hid (show Blk (((w.alloc (.cells #[.int .i64 kd, .int .i64 frm, .int .i64 tt, .int .i64 sub, .int .u64 c, .int .i64 n, .int .i64 slot, .int .i64 time, .bool ok, .string text, .slice va L.length vc] 81)).alloc (.cells #[.int .i64 0, .int .i64 0, .int .i64 0, .int .i64 0, .int .u64 0, .int .i64 0, .int .i64 0, .int .i64 0, .bool false, .string ⟨#[]⟩, .slice none 0 0] 69)).alloc (.cells #[.int .i64 kd, .int .i64 frm, .int .i64 tt, .int .i64 sub, .int .u64 c, .int .i64 n, .int .i64 slot, .int .i64 time, .bool ok, .string text, .slice none 0 0] 69)) (w.heap.size + 1) #[.int .i64 0, .int .i64 0, .int .i64 0, .int .i64 0, .int .u64 0, .int .i64 0, .int .i64 0, .int .i64 0, .bool false, .string ⟨#[]⟩, .slice none 0 0] 69 from by
    have := (Blk.new (w.alloc (.cells #[.int .i64 kd, .int .i64 frm, .int .i64 tt, .int .i64 sub, .int .u64 c, .int .i64 n, .int .i64 slot, .int .i64 time, .bool ok, .string text, .slice va L.length vc] 81)) #[.int .i64 0, .int .i64 0, .int .i64 0, .int .i64 0, .int .u64 0, .int .i64 0, .int .i64 0, .int .i64 0, .bool false, .string ⟨#[]⟩, .slice none 0 0] 69).gr ((Gr.refl _).alloc (.cells #[.int .i64 kd, .int .i64 frm, .int .i64 tt, .int .i64 sub, .int .u64 c, .int .i64 n, .int .i64 slot, .int .i64 time, .bool ok, .string text, .slice none 0 0] 69))
    rwa [show (w.alloc (.cells #[.int .i64 kd, .int .i64 frm, .int .i64 tt, .int .i64 sub, .int .u64 c, .int .i64 n, .int .i64 slot, .int .i64 time, .bool ok, .string text, .slice va L.length vc] 81)).heap.size = w.heap.size + 1 by simp] at this)
  have HP3 := Lib.hid (show Blk (((w.alloc (.cells #[.int .i64 kd, .int .i64 frm, .int .i64 tt, .int .i64 sub, .int .u64 c, .int .i64 n, .int .i64 slot, .int .i64 time, .bool ok, .string text, .slice va L.length vc] 81)).alloc (.cells #[.int .i64 0, .int .i64 0, .int .i64 0, .int .i64 0, .int .u64 0, .int .i64 0, .int .i64 0, .int .i64 0, .bool false, .string ⟨#[]⟩, .slice none 0 0] 69)).alloc (.cells #[.int .i64 kd, .int .i64 frm, .int .i64 tt, .int .i64 sub, .int .u64 c, .int .i64 n, .int .i64 slot, .int .i64 time, .bool ok, .string text, .slice none 0 0] 69)) (w.heap.size + 1 + 1) #[.int .i64 kd, .int .i64 frm, .int .i64 tt, .int .i64 sub, .int .u64 c, .int .i64 n, .int .i64 slot, .int .i64 time, .bool ok, .string text, .slice none 0 0] 69 from by
    have := Blk.new ((w.alloc (.cells #[.int .i64 kd, .int .i64 frm, .int .i64 tt, .int .i64 sub, .int .u64 c, .int .i64 n, .int .i64 slot, .int .i64 time, .bool ok, .string text, .slice va L.length vc] 81)).alloc (.cells #[.int .i64 0, .int .i64 0, .int .i64 0, .int .i64 0, .int .u64 0, .int .i64 0, .int .i64 0, .int .i64 0, .bool false, .string ⟨#[]⟩, .slice none 0 0] 69)) #[.int .i64 kd, .int .i64 frm, .int .i64 tt, .int .i64 sub, .int .u64 c, .int .i64 n, .int .i64 slot, .int .i64 time, .bool ok, .string text, .slice none 0 0] 69
    rwa [show ((w.alloc (.cells #[.int .i64 kd, .int .i64 frm, .int .i64 tt, .int .i64 sub, .int .u64 c, .int .i64 n, .int .i64 slot, .int .i64 time, .bool ok, .string text, .slice va L.length vc] 81)).alloc (.cells #[.int .i64 0, .int .i64 0, .int .i64 0, .int .i64 0, .int .u64 0, .int .i64 0, .int .i64 0, .int .i64 0, .bool false, .string ⟨#[]⟩, .slice none 0 0] 69)).heap.size = w.heap.size + 1 + 1 by simp] at this)
  generalize (((w.alloc (.cells #[.int .i64 kd, .int .i64 frm, .int .i64 tt, .int .i64 sub, .int .u64 c, .int .i64 n, .int .i64 slot, .int .i64 time, .bool ok, .string text, .slice va L.length vc] 81)).alloc (.cells #[.int .i64 0, .int .i64 0, .int .i64 0, .int .i64 0, .int .u64 0, .int .i64 0, .int .i64 0, .int .i64 0, .bool false, .string ⟨#[]⟩, .slice none 0 0] 69)).alloc (.cells #[.int .i64 kd, .int .i64 frm, .int .i64 tt, .int .i64 sub, .int .u64 c, .int .i64 n, .int .i64 slot, .int .i64 time, .bool ok, .string text, .slice none 0 0] 69)) = w3 at *
  go_loopw [28] (fun u28 wr => ∃ (k : Nat) (ua : Option Addr) (uc : Nat), k ≤ L.length ∧ u28 = .int .i64 (k : Nat) ∧ Hid (Gr w wr) ∧ Hid (wr.ownsRow base 164 4 (.slice va L.length vc) L.length (rcells encE L)) ∧ Hid (Blk wr (w.heap.size + 1) #[.int .i64 0, .int .i64 0, .int .i64 0, .int .i64 0, .int .u64 0, .int .i64 0, .int .i64 0, .int .i64 0, .bool false, .string ⟨#[]⟩, .slice none 0 0] 69) ∧ Hid (Blk wr (w.heap.size + 1 + 1) #[.int .i64 kd, .int .i64 frm, .int .i64 tt, .int .i64 sub, .int .u64 c, .int .i64 n, .int .i64 slot, .int .i64 time, .bool ok, .string text, .slice ua k uc] 69) ∧ Hid (wr.ownsRow w.heap.size 159 4 (.slice ua k uc) k (rcells encE (L.take k)))) (fun u28 _ => L.length - (intOf u28).toNat)
  case atStart => exact ⟨0, none, 0, by omega, rfl, HG0, HV0, HP2, HP3, Lib.hid (World.ownsRow_nil _ _ _ _)⟩
  case round =>
    clear HG0 HV0 HP2 HP3
    obtain ⟨k, ua, uc, hk, rfl, HG, HS, HP2, HP3, HO⟩ := hrel
    by_cases hlt : k < L.length
    · have hk4 : (k : Int) < (L.length : Int) := by omega
      obtain ⟨g, cap, hv, d0, d1, d2, d3⟩ := erow_T HS.out k hlt
      simp only [Value.slice.injEq, true_and] at hv
      obtain ⟨rfl, rfl⟩ := hv
      have HTK := Lib.hid (rcells_take1 L k hlt)
      generalize L[k] = y at *
      have HGA := Lib.hid (((Gr.refl wr).alloc (.cells #[.int .i64 y.slot, .int .u64 y.c, .int .i64 y.n, .string y.text] 164)).alloc (.cells #[.int .i64 y.slot, .int .u64 y.c, .int .i64 y.n, .string y.text] 159))
      have HOW := Lib.hid (ownsRow_gr HGA.out HO.out)
      have HBN := Lib.hid (show Blk ((wr.alloc (.cells #[.int .i64 y.slot, .int .u64 y.c, .int .i64 y.n, .string y.text] 164)).alloc (.cells #[.int .i64 y.slot, .int .u64 y.c, .int .i64 y.n, .string y.text] 159)) (wr.heap.size + 1) (encE y).toArray 159 from by
        have := Blk.new (wr.alloc (.cells #[.int .i64 y.slot, .int .u64 y.c, .int .i64 y.n, .string y.text] 164)) #[.int .i64 y.slot, .int .u64 y.c, .int .i64 y.n, .string y.text] 159
        rwa [show (wr.alloc (.cells #[.int .i64 y.slot, .int .u64 y.c, .int .i64 y.n, .string y.text] 164)).heap.size = wr.heap.size + 1 by simp] at this)
      have HP2a := Lib.hid (HP2.out.gr HGA.out)
      have HP3a := Lib.hid (HP3.out.gr HGA.out)
      have HSa := Lib.hid (ownsRow_gr HGA.out HS.out)
      have HONE := Lib.hid (encE_one y)
      have m10 := (HP3.out.gr ((Gr.refl wr).alloc (.cells #[.int .i64 y.slot, .int .u64 y.c, .int .i64 y.n, .string y.text] 164))).cell (i := 10) rfl
      have hws : w.heap.size ≤ wr.heap.size := HG.out.size
      go_wp2_with (at_builtin; go_loud (refine wpList_append_lies _ rfl (.tmp 33) (.tmp 41) 67 rfl w.heap.size 159 i0 (.agg #[.int .i64 0, .int .u64 0, .int .i64 0, .string ⟨#[]⟩]) 4 40 Try.underlying67 hi0 hz0 hz1 hz2 rfl (by decide) _ _ _ rfl HOW.out ⟨wr.heap.size + 1, 0, none⟩ 1 1 (encE y) rfl rfl ?c1 ?c2 Nat.one_pos ?c3 ?c4 ?c5 _ rfl ?_))
      case c1 => exact fun j u hj => World.news_of_block HBN.out j u hj
      case c2 => exact HONE.out
      case c3 => unfold maxLen; omega
      case c4 => omega
      case c5 => simp; omega
      intro g7 cap7 w7 hown7 hgrow7 hat7 hlt7
      have hub : (Value.slice ua k uc).ownBlock ≠ some (w.heap.size + 1) := row_off HP2a.out HOW.out (by decide)
      have huc : (Value.slice ua k uc).ownBlock ≠ some (w.heap.size + 1 + 1) := row_off HP3a.out HOW.out (by decide)
      have hus : ∀ j, (Value.slice (some ⟨g, 0, none⟩) L.length vc).ownBlock = some j → (Value.slice ua k uc).ownBlock ≠ some j := fun j e e2 => by
        have h1 := HVP.out j e
        have h2 := (HO.out.lt j e2).1
        omega
      have HO7 := Lib.hid hown7
      have HG7 := Lib.hid ((HG.out.trans HGA.out).append HOW.out hgrow7)
      have HP27 := Lib.hid (HP2a.out.grownB hgrow7 hub)
      have HP37 := Lib.hid (HP3a.out.grownB hgrow7 huc)
      have HS7 := Lib.hid (HSa.out.kept hgrow7 (.inr (fun e => by
        cases hq : (Value.slice ua k uc).ownBlock with
        | none => rw [hq] at e; exact absurd e (by simp [Value.ownBlock])
        | some j => exact hus j (by rw [e, hq]) hq)))
      clear hown7 hgrow7 hat7 hlt7 hub huc hus HG HS HP2 HP3 HO HGA HOW HBN HP2a HP3a HSa m10 d0 d1 d2 d3
      have f10 := HP37.out.free 10
      have m10 := HP37.out.cell (i := 10) rfl
      have HP38 := Lib.hid (HP37.out.set 10 (.slice (some ⟨g7, 0, none⟩) (k + 1) cap7))
      have HP28 := Lib.hid (HP27.out.other (show w.heap.size + 1 ≠ w.heap.size + 1 + 1 by omega) 10 (.slice (some ⟨g7, 0, none⟩) (k + 1) cap7))
      have HO8 := Lib.hid (ownsRow_setCell_other (a := ⟨w.heap.size + 1 + 1, 10, none⟩) HO7.out (row_off HP37.out HO7.out (by decide)) (.slice (some ⟨g7, 0, none⟩) (k + 1) cap7))
      have HS8 := Lib.hid (ownsRow_setCell_other (a := ⟨w.heap.size + 1 + 1, 10, none⟩) HS7.out (fun e => by have h : w.heap.size + 1 + 1 < w.heap.size := HVP.out _ e; omega) (.slice (some ⟨g7, 0, none⟩) (k + 1) cap7))
      have HG8 := Lib.hid (HG7.out.setCell (p := ⟨w.heap.size + 1 + 1, 10, none⟩) (show w.heap.size ≤ w.heap.size + 1 + 1 by omega) (.slice (some ⟨g7, 0, none⟩) (k + 1) cap7))
      clear HO7 HS7 HG7 HP27
      rw [← HTK.out] at HO8
      go_wp2
      go_roundw
      case rel => exact ⟨k + 1, some ⟨g7, 0, none⟩, cap7, by omega, by go_num, HG8, HS8, HP28, HP38, HO8⟩
      case measure => simp [intOf]; omega
    · have hk5 : ¬ (k : Int) < (L.length : Int) := by omega
      obtain rfl : k = L.length := by omega
      obtain ⟨ms, hms, hml, hT, hO, hgr, hBl⟩ := blk_put HP2.out #[.int .i64 kd, .int .i64 frm, .int .i64 tt, .int .i64 sub, .int .u64 c, .int .i64 n, .int .i64 slot, .int .i64 time, .bool ok, .string text, .slice ua L.length uc] rfl (eleven_one _ _ _ _ _ _ _ _ _ _ _ _ _)
      have HGF := Lib.hid (gr_put HG.out hgr (by omega))
      have HOF := Lib.hid (show (wr.setCells (w.heap.size + 1) 0 ms).ownsRow w.heap.size 159 4 (.slice ua L.length uc) L.length (rcells encE L) from by
        have := HO.out.kept hgr (.inr (row_off HP2.out HO.out (by decide)))
        rwa [List.take_length] at this)
      have HMS := Lib.hid hms
      have HML := Lib.hid hml
      have HTT := Lib.hid hT
      have HOO := Lib.hid hO
      have z0 := hBl.cell (i := 0) rfl
      have z1 := hBl.cell (i := 1) rfl
      have z2 := hBl.cell (i := 2) rfl
      have z3 := hBl.cell (i := 3) rfl
      have z4 := hBl.cell (i := 4) rfl
      have z5 := hBl.cell (i := 5) rfl
      have z6 := hBl.cell (i := 6) rfl
      have z7 := hBl.cell (i := 7) rfl
      have z8 := hBl.cell (i := 8) rfl
      have z9 := hBl.cell (i := 9) rfl
      have z10 := hBl.cell (i := 10) rfl
      have m0 := HP3.out.cell (i := 0) rfl
      have m1 := HP3.out.cell (i := 1) rfl
      have m2 := HP3.out.cell (i := 2) rfl
      have m3 := HP3.out.cell (i := 3) rfl
      have m4 := HP3.out.cell (i := 4) rfl
      have m5 := HP3.out.cell (i := 5) rfl
      have m6 := HP3.out.cell (i := 6) rfl
      have m7 := HP3.out.cell (i := 7) rfl
      have m8 := HP3.out.cell (i := 8) rfl
      have m9 := HP3.out.cell (i := 9) rfl
      have m10 := HP3.out.cell (i := 10) rfl
      clear hms hml hT hO hgr hBl HG HS HP2 HP3 HO
      go_wp2_with (first | (refine wpList_store_mid rfl 69 (.tmp 2) (.tmp 45) (by rfl) (w.heap.size + 1) 0 ms.toArray (by rfl) (by exact HMS.out) HTT.out (by rw [HML.out]; kernel_rfl) HOO.out ?_))
      refine bodyPost_ret (v := .agg #[.int .i64 kd, .int .i64 frm, .int .i64 tt, .int .i64 sub, .int .u64 c, .int .i64 n, .int .i64 slot, .int .i64 time, .bool ok, .string text, .slice ua L.length uc]) (by simp [results, Try.results39, go_sem, z0, z1, z2, z3, z4, z5, z6, z7, z8, z9, z10]; try rfl) rfl ?_
      exact ⟨ua, uc, rfl, HOF.out, HGF.out⟩
end Go.Proofs.Ytihhfdkcggnjpaa
