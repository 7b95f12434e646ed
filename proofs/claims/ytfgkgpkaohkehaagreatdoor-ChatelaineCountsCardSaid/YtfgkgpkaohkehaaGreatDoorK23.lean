import Derived.Test.YtfgkgpkaohkehaaGreatDoorK22
import Derived.Test.YtfgkgpkaohkehaaGreatDoorK17
import Derived.Test.YtfgkgpkaohkehaaGreatDoorC12
import Derived.WalkKit
import Derived.ProofKit
import Derived.LoopTactic
import Derived.Outline
import Derived.WalkSpells
import Derived.WalkLawsBesides
import Derived.Lib.Hide
import Derived.Deep.LoopGhost
import Derived.Deep.QuietTactic
import Derived.BigQuiet
import Derived.ShutString
import Derived.IntWalk
import Derived.Deep.AppendLies
import Derived.Deep.MidRow
import Derived.Deep.Onto
import Derived.Deep.CutRange
import Derived.Test.YtfgkgpkaohkehaaGreatDoorF10j
namespace Go.Proofs.YtfgkgpkaohkehaaGreatDoor
open Go.ChangeShapes Go.WideShapes Go.ChangeAt Go.RowKit
set_option linter.unusedVariables false
set_option linter.unusedSimpArgs false
def cutE (y : E) : E := ⟨y.slot, y.c, y.n, cutB y.text 402⟩
def fewE (L : List E) : List E := (L.take 70).map cutE
/-- So far cut. -/
def cutK (L : List E) (k : Nat) : List E := (L.take k).map cutE ++ L.drop k
theorem cutK_len (L : List E) (k : Nat) : (cutK L k).length = L.length := by simp [cutK]; omega
theorem cutK_zero (L : List E) : cutK L 0 = L := by simp [cutK]
theorem cutK_all (L : List E) : cutK L L.length = L.map cutE := by simp [cutK]
theorem cutK_at (L : List E) (k : Nat) (h : k < L.length) : (cutK L k)[k]'(by rw [cutK_len]; exact h) = L[k] := by
  unfold cutK
  rw [List.getElem_append_right (by simp; omega)]
  simp only [List.length_map, List.length_take, List.getElem_drop]
  congr 1
  omega
theorem cutK_succ (L : List E) (k : Nat) (h : k < L.length) : cutK L (k + 1) = (cutK L k).set k (cutE L[k]) := by
  unfold cutK
  rw [List.take_succ_eq_append_getElem h, List.map_append, List.set_append_right _ _ (by simp; omega)]
  have e : k - ((L.take k).map cutE).length = 0 := by simp; omega
  rw [e, List.append_assoc]
  congr 1
  rw [List.drop_eq_getElem_cons h]
  rfl
theorem rcells_text (t : ByteArray) : ∀ (L : List E) (i : Nat) (h : i < L.length), (rcells encE L).set (i * 4 + 3) (.string t) = rcells encE (L.set i ⟨L[i].slot, L[i].c, L[i].n, t⟩) := by
  intro L
  induction L with
  | nil => intro i h; exact absurd h (by simp)
  | cons y r ih =>
    intro i h
    cases i with
    | zero => rfl
    | succ i =>
      rw [List.set_cons_succ, rcells_cons, rcells_cons, List.getElem_cons_succ, ← ih i (by simpa using h)]
      rw [show (i + 1) * 4 + 3 = 4 + (i * 4 + 3) by omega]
      simp only [encE, List.cons_append, List.nil_append]
      simp only [Nat.add_comm 4, List.set_cons_succ, show ∀ n, n + 4 = n + 1 + 1 + 1 + 1 from fun _ => rfl]
set_option maxRecDepth 100000 in
set_option maxHeartbeats 4000000 in
theorem few_any10 {va : Option Addr} {vc : Nat} (kd frm tt sub c n slot time : Int) (ok : Bool) (text : ByteArray) (L : List E) (w : World) (hr : ERow w va L) (hcap : L.length ≤ vc) (ht : text.size ≤ 9223372036854775807) :
    Calls Tryz.prog 29 #[.agg #[.int .i64 kd, .int .i64 frm, .int .i64 tt, .int .i64 sub, .int .u64 c, .int .i64 n, .int .i64 slot, .int .i64 time, .bool ok, .string text, .slice va L.length vc]] w fun e w' =>
      ∃ a q, e = .returned (.agg #[.int .i64 kd, .int .i64 frm, .int .i64 tt, .int .i64 sub, .int .u64 c, .int .i64 n, .int .i64 slot, .int .i64 time, .bool ok, .string (cutB text 300), .slice a (fewE L).length q]) ∧ w'.ownsRow w.heap.size 72 4 (.slice a (fewE L).length q) (fewE L).length (rcells encE (fewE L)) ∧ Gr w w' := by
  obtain ⟨i0, hi0, hz0, hz1, hz2⟩ : ∃ i0 : TypeInfo, Tryz.prog.info? 72 = some i0 ∧ i0.zero = some (.agg #[.int .i64 0, .int .u64 0, .int .i64 0, .string ⟨#[]⟩]) ∧ i0.size = 4 ∧ i0.bytes = 40 := ⟨_, rfl, rfl, rfl, rfl⟩
  have HC := Lib.hid (fun w => cut_any text 300 w ht (by decide))
  have HR := Lib.hid hr
  have HMR := Lib.hid (hr.take 70)
  have hml : (L.take 70).length ≤ 70 := by rw [List.length_take]; omega
  generalize cutB text 300 = T3 at *
  have hlm : L.length ≤ 9223372036854775807 := hr.1
  clear hr ht
  have HB := Lib.hid ((Blk.new w #[.int .i64 kd, .int .i64 frm, .int .i64 tt, .int .i64 sub, .int .u64 c, .int .i64 n, .int .i64 slot, .int .i64 time, .bool ok, .string text, .slice va L.length vc] 49).gr ((Gr.refl _).alloc (.cells #[.int .i64 0, .int .i64 0, .int .i64 0, .int .i64 0, .int .u64 0, .int .i64 0, .int .i64 0, .int .i64 0, .bool false, .string ⟨#[]⟩, .slice none 0 0] 49)))
  have HZ := Lib.hid (Blk.new (w.alloc (.cells #[.int .i64 kd, .int .i64 frm, .int .i64 tt, .int .i64 sub, .int .u64 c, .int .i64 n, .int .i64 slot, .int .i64 time, .bool ok, .string text, .slice va L.length vc] 49)) #[.int .i64 0, .int .i64 0, .int .i64 0, .int .i64 0, .int .u64 0, .int .i64 0, .int .i64 0, .int .i64 0, .bool false, .string ⟨#[]⟩, .slice none 0 0] 49)
  rw [show (w.alloc (.cells #[.int .i64 kd, .int .i64 frm, .int .i64 tt, .int .i64 sub, .int .u64 c, .int .i64 n, .int .i64 slot, .int .i64 time, .bool ok, .string text, .slice va L.length vc] 49)).heap.size = w.heap.size + 1 by simp] at HZ
  have HG := Lib.hid (((Gr.refl w).alloc (.cells #[.int .i64 kd, .int .i64 frm, .int .i64 tt, .int .i64 sub, .int .u64 c, .int .i64 n, .int .i64 slot, .int .i64 time, .bool ok, .string text, .slice va L.length vc] 49)).alloc (.cells #[.int .i64 0, .int .i64 0, .int .i64 0, .int .i64 0, .int .u64 0, .int .i64 0, .int .i64 0, .int .i64 0, .bool false, .string ⟨#[]⟩, .slice none 0 0] 49))
  have hsz : ((w.alloc (.cells #[.int .i64 kd, .int .i64 frm, .int .i64 tt, .int .i64 sub, .int .u64 c, .int .i64 n, .int .i64 slot, .int .i64 time, .bool ok, .string text, .slice va L.length vc] 49)).alloc (.cells #[.int .i64 0, .int .i64 0, .int .i64 0, .int .i64 0, .int .u64 0, .int .i64 0, .int .i64 0, .int .i64 0, .bool false, .string ⟨#[]⟩, .slice none 0 0] 49)).heap.size = w.heap.size + 2 := by simp
  go_enter Tryz.func29, Tryz.ntmps29
  go_wp2_with fail
  generalize (w.alloc (.cells #[.int .i64 kd, .int .i64 frm, .int .i64 tt, .int .i64 sub, .int .u64 c, .int .i64 n, .int .i64 slot, .int .i64 time, .bool ok, .string text, .slice va L.length vc] 49)).alloc (.cells #[.int .i64 0, .int .i64 0, .int .i64 0, .int .i64 0, .int .u64 0, .int .i64 0, .int .i64 0, .int .i64 0, .bool false, .string ⟨#[]⟩, .slice none 0 0] 49) = w1 at *
  refine (HC.out _).mono ?_
  rintro e w2 ⟨rfl, rfl⟩
  have f9 := HB.out.free 9
  have b9 := HB.out.cell (i := 9) rfl
  have HB1 := Lib.hid (HB.out.set 9 (.string T3))
  replace HB1 := Lib.hid (show Blk _ _ #[.int .i64 kd, .int .i64 frm, .int .i64 tt, .int .i64 sub, .int .u64 c, .int .i64 n, .int .i64 slot, .int .i64 time, .bool ok, .string T3, .slice va L.length vc] _ from HB1.out)
  have HZ1 := Lib.hid (HZ.out.other (show w.heap.size + 1 ≠ w.heap.size by omega) 9 (.string T3))
  have HG1 := Lib.hid (HG.out.setCell (p := ⟨w.heap.size, 9, none⟩) (Nat.le_refl _) (.string T3))
  have hsz1 : (w1.setCell ⟨w.heap.size, 9, none⟩ (.string T3)).heap.size = w.heap.size + 2 := by simp [hsz]
  have b10 := HB1.out.cell (i := 10) rfl
  have f10 := HB1.out.free 10
  clear HB HZ HG
  by_cases h70 : 70 < L.length
  · have h71 : (70 : Int) < (L.length : Int) := by omega
    have h72 : 70 ≤ vc := by omega
    have hM : (L.take 70).length = 70 := by rw [List.length_take]; omega
    go_upto_region 4 with fail
    clear b9 f9
    have HB2 := Lib.hid (HB1.out.set 10 (.slice va 70 vc))
    replace HB2 := Lib.hid (show Blk _ _ #[.int .i64 kd, .int .i64 frm, .int .i64 tt, .int .i64 sub, .int .u64 c, .int .i64 n, .int .i64 slot, .int .i64 time, .bool ok, .string T3, .slice va 70 vc] _ from HB2.out)
    have HZ2 := Lib.hid (HZ1.out.other (show w.heap.size + 1 ≠ w.heap.size by omega) 10 (.slice va 70 vc))
    have HG2 := Lib.hid (HG1.out.setCell (p := ⟨w.heap.size, 10, none⟩) (Nat.le_refl _) (.slice va 70 vc))
    have HSZ := Lib.hid (show ((w1.setCell ⟨w.heap.size, 9, none⟩ (.string T3)).setCell ⟨w.heap.size, 10, none⟩ (.slice va 70 vc)).heap.size = w.heap.size + 2 by simp [hsz])
    clear HB1 HZ1 HG1 hsz1 hsz b10 f10
    generalize ((w1.setCell ⟨w.heap.size, 9, none⟩ (.string T3)).setCell ⟨w.heap.size, 10, none⟩ (.slice va 70 vc)) = w3 at *
    obtain ⟨rb, ro, rfl, hrc⟩ := (HMR.out.gr (HG2.out.alloc (.cells #[] 72))).cells (by omega)
    have HCC := Lib.hid hrc
    clear hrc
    have HLL := Lib.hid (rcells_len encE_len (L.take 70))
    have HON := Lib.hid (rcells_one encE_one (L.take 70))
    have HM := Lib.hid (World.ownsRow_made (base := w.heap.size) (e := 72) (size := 4) w3 #[] 0 HG2.out.size (by unfold maxLen; omega) rfl)
    have b10 := ((HB2.out.gr ((Gr.refl w3).alloc (.cells #[] 72)))).cell (i := 10) rfl
    go_wp2_with (at_builtin; go_loud (refine wpList_append_lies _ rfl (.tmp 17) (.tmp 19) 47 rfl w.heap.size 72 i0 (.agg #[.int .i64 0, .int .u64 0, .int .i64 0, .string ⟨#[]⟩]) 4 40 Tryz.underlying47 hi0 hz0 hz1 hz2 rfl (by decide) (.slice (some ⟨w3.heap.size, 0, none⟩) 0 0) 0 [] rfl HM.out ⟨rb, ro, none⟩ 70 vc (rcells encE (L.take 70)) rfl ?b1p ?b2p HON.out ?b3p ?b4p ?b5p ?b6p _ rfl ?_))
    case b1p => rw [HLL.out, hM]
    case b2p => exact HCC.out
    case b3p => omega
    case b4p => unfold maxLen; omega
    case b5p => omega
    case b6p => have := HG2.out.size; simp; omega
    intro g7 cap7 w7 hown7 hgrow7 hat7 hlt7
    try simp only [Nat.zero_add, List.nil_append] at hown7
    have HG7 := Lib.hid ((HG2.out.alloc (.cells #[] 72)).append HM.out hgrow7)
    have HB7 := Lib.hid ((HB2.out.gr ((Gr.refl w3).alloc (.cells #[] 72))).grownB hgrow7 (by intro e; simp only [Value.ownBlock, Option.some.injEq] at e; have := HSZ.out; omega))
    have HZ7 := Lib.hid ((HZ2.out.gr ((Gr.refl w3).alloc (.cells #[] 72))).grownB hgrow7 (by intro e; simp only [Value.ownBlock, Option.some.injEq] at e; have := HSZ.out; omega))
    have HO7 := Lib.hid hown7
    clear hown7 hgrow7 hat7 hlt7 b10 HM HCC HLL HON HB2 HZ2 HG2 HSZ
    have HWF := Lib.hid HMR.out.2.1
    clear HMR HR
    have HMX := Lib.hid (show fewE L = (L.take 70).map cutE from rfl)
    have HLN := Lib.hid hM
    generalize hMM : L.take 70 = M at *
    go_wp2
    go_loopw [23] (fun u23 wr => ∃ k : Nat, k ≤ 70 ∧ u23 = .int .i64 (k : Nat) ∧ Hid (Gr w wr) ∧ Hid (Blk wr w.heap.size #[.int .i64 kd, .int .i64 frm, .int .i64 tt, .int .i64 sub, .int .u64 c, .int .i64 n, .int .i64 slot, .int .i64 time, .bool ok, .string T3, .slice (some ⟨rb, ro, none⟩) 70 vc] 49) ∧ Hid (Blk wr (w.heap.size + 1) #[.int .i64 0, .int .i64 0, .int .i64 0, .int .i64 0, .int .u64 0, .int .i64 0, .int .i64 0, .int .i64 0, .bool false, .string ⟨#[]⟩, .slice none 0 0] 49) ∧ Hid (wr.ownsRow w.heap.size 72 4 (.slice (some ⟨g7, 0, none⟩) 70 cap7) 70 (rcells encE (cutK M k)))) (fun u23 _ => 70 - (intOf u23).toNat)
    case atStart => exact ⟨0, by omega, rfl, HG7, HB7, HZ7, Lib.hid (by rw [cutK_zero]; exact HO7.out)⟩
    case round =>
      clear HG7 HB7 HZ7 HO7
      obtain ⟨k, hk, rfl, HG, HB, HZ, HO⟩ := hrel
      by_cases hlt : k < 70
      · have hk4 : (k : Int) < (70 : Int) := by omega
        have hkM : k < M.length := by have := HLN.out; omega
        have d3 := HO.out.cells (g := g7) rfl (k * 4 + 3) (.string M[k].text) (by rw [rcells_at encE_len _ k (by rw [cutK_len]; exact hkM) 3 (by omega), cutK_at M k hkM]; rfl)
        rw [addr_add, Nat.zero_add] at d3
        obtain ⟨_, _, _, hvv, _, _, _, _, _, _, _, _, _, hfz⟩ := owns_open HO.out (by omega)
        simp only [Value.slice.injEq, Option.some.injEq, Addr.mk.injEq, and_true, true_and] at hvv
        obtain ⟨rfl, rfl⟩ := hvv
        have f3 := hfz (k * 4 + 3)
        have hgs : w.heap.size ≤ g7 := (HO.out.lt g7 rfl).1
        have hgb : g7 ≠ w.heap.size := fun e => absurd (congrArg some e) (fun e2 => row_off HB.out HO.out (by decide) e2)
        have hgz : g7 ≠ w.heap.size + 1 := fun e => absurd (congrArg some e) (fun e2 => row_off HZ.out HO.out (by decide) e2)
        have HCU := Lib.hid (fun w => cut_any M[k].text 402 w (HWF.out _ (List.getElem_mem hkM)).2.2.2 (by decide))
        have HST := Lib.hid (show (wr.setCell ⟨g7, k * 4 + 3, none⟩ (.string (cutB M[k].text 402))).ownsRow w.heap.size 72 4 (.slice (some ⟨g7, 0, none⟩) 70 cap7) 70 (rcells encE (cutK M (k + 1))) from by
          have h := (HO.out.stored (k * 4 + 3) (.string (cutB M[k].text 402))).1
          rw [rcells_text _ _ k (by rw [cutK_len]; exact hkM), cutK_at M k hkM] at h
          rw [cutK_succ M k hkM]
          exact h)
        have HBS := Lib.hid (HB.out.other (Ne.symm hgb) (k * 4 + 3) (.string (cutB M[k].text 402)))
        have HZS := Lib.hid (HZ.out.other (Ne.symm hgz) (k * 4 + 3) (.string (cutB M[k].text 402)))
        have HGS := Lib.hid (HG.out.setCell (p := ⟨g7, k * 4 + 3, none⟩) hgs (.string (cutB M[k].text 402)))
        generalize M[k].text = tx at *
        generalize cutB tx 402 = tx2 at *
        clear hgb hgz hgs hfz HO HB HZ HG
        go_wp2_with fail
        refine (HCU.out _).mono ?_
        rintro e w9 ⟨rfl, rfl⟩
        clear HCU
        go_wp2
        go_roundw
        case rel => exact ⟨k + 1, by omega, by go_num, HGS, HBS, HZS, HST⟩
        case measure => simp [intOf]; omega
      · have hk5 : ¬ (k : Int) < (70 : Int) := by omega
        obtain rfl : k = 70 := by omega
        have HOF := Lib.hid (show wr.ownsRow w.heap.size 72 4 (.slice (some ⟨g7, 0, none⟩) 70 cap7) 70 (rcells encE (fewE L)) from by rw [HMX.out]; have h := HO.out; rw [show cutK M 70 = M.map cutE from by rw [← HLN.out]; exact cutK_all M] at h; exact h)
        have HFL := Lib.hid (show (fewE L).length = 70 by rw [HMX.out, List.length_map, HLN.out])
        clear HO HMX
        have f10 := HB.out.free 10
        have b10 := HB.out.cell (i := 10) rfl
        go_upto_region 11 with fail
        have HB8 := Lib.hid (HB.out.set 10 (.slice (some ⟨g7, 0, none⟩) 70 cap7))
        replace HB8 := Lib.hid (show Blk _ _ #[.int .i64 kd, .int .i64 frm, .int .i64 tt, .int .i64 sub, .int .u64 c, .int .i64 n, .int .i64 slot, .int .i64 time, .bool ok, .string T3, .slice (some ⟨g7, 0, none⟩) 70 cap7] _ from HB8.out)
        have HZ8 := Lib.hid (HZ.out.other (show w.heap.size + 1 ≠ w.heap.size by omega) 10 (.slice (some ⟨g7, 0, none⟩) 70 cap7))
        have HG8 := Lib.hid (HG.out.setCell (p := ⟨w.heap.size, 10, none⟩) (Nat.le_refl _) (.slice (some ⟨g7, 0, none⟩) 70 cap7))
        have HO8 := Lib.hid (ownsRow_setCell_other (a := ⟨w.heap.size, 10, none⟩) HOF.out (row_off HB.out HOF.out (by decide)) (.slice (some ⟨g7, 0, none⟩) 70 cap7))
        clear HB HZ HG HOF b10 f10
        generalize wr.setCell ⟨w.heap.size, 10, none⟩ (.slice (some ⟨g7, 0, none⟩) 70 cap7) = w8 at *
        obtain ⟨ms, hms, hmsl, hT, hO, hgr, hBl⟩ := blk_put HZ8.out #[.int .i64 kd, .int .i64 frm, .int .i64 tt, .int .i64 sub, .int .u64 c, .int .i64 n, .int .i64 slot, .int .i64 time, .bool ok, .string T3, .slice (some ⟨g7, 0, none⟩) 70 cap7] rfl (eleven_one _ _ _ _ _ _ _ _ _ _ _ _ _)
        have HGF := Lib.hid (gr_put HG8.out hgr (by omega))
        have HOG := Lib.hid (HO8.out.kept hgr (.inr (row_off HZ8.out HO8.out (by decide))))
        have HMS := Lib.hid hms
        have HML := Lib.hid hmsl
        have HTT := Lib.hid hT
        have HOO := Lib.hid hO
        have z0 := hBl.cell (i := 0) rfl
        have z1 := hBl.cell (i := 1) rfl
        have z2 := hBl.cell (i := 2) rfl
        have z3 := hBl.cell (i := 3) rfl
        have z4 := hBl.cell (i := 4) rfl
        have z5 := hBl.cell (i := 5) rfl
        have z6 := hBl.cell (i := 6) rfl
        have z7 := hBl.cell (i := 7) rfl
        have z8 := hBl.cell (i := 8) rfl
        have z9 := hBl.cell (i := 9) rfl
        have z10 := hBl.cell (i := 10) rfl
        have m0 := HB8.out.cell (i := 0) rfl
        have m1 := HB8.out.cell (i := 1) rfl
        have m2 := HB8.out.cell (i := 2) rfl
        have m3 := HB8.out.cell (i := 3) rfl
        have m4 := HB8.out.cell (i := 4) rfl
        have m5 := HB8.out.cell (i := 5) rfl
        have m6 := HB8.out.cell (i := 6) rfl
        have m7 := HB8.out.cell (i := 7) rfl
        have m8 := HB8.out.cell (i := 8) rfl
        have m9 := HB8.out.cell (i := 9) rfl
        have m10 := HB8.out.cell (i := 10) rfl
        clear hms hmsl hT hO hgr hBl HB8 HZ8 HG8 HO8
        go_wp2_with (first | (refine wpList_store_mid rfl 49 (.tmp 2) (.tmp 39) (by rfl) (w.heap.size + 1) 0 ms.toArray (by rfl) (by exact HMS.out) HTT.out (by rw [HML.out]; kernel_rfl) HOO.out ?_))
        refine bodyPost_ret (v := .agg #[.int .i64 kd, .int .i64 frm, .int .i64 tt, .int .i64 sub, .int .u64 c, .int .i64 n, .int .i64 slot, .int .i64 time, .bool ok, .string T3, .slice (some ⟨g7, 0, none⟩) 70 cap7]) (by simp [results, Tryz.results29, go_sem, z0, z1, z2, z3, z4, z5, z6, z7, z8, z9, z10]; try rfl) rfl ?_
        exact ⟨(some ⟨g7, 0, none⟩), cap7, by rw [HFL.out], by rw [HFL.out]; exact HOG.out, HGF.out⟩
  · have h71 : ¬ (70 : Int) < (L.length : Int) := by omega
    have hM : L.take 70 = L := List.take_of_length_le (by omega)
    have h80 : L.length ≤ 70 := by omega
    go_upto_region 4 with fail
    clear b9 f9 h71
    have HSZ := Lib.hid hsz1
    have HB2 := HB1
    have HZ2 := HZ1
    have HG2 := HG1
    clear HB1 HZ1 HG1 hsz1 hsz b10 f10
    generalize (w1.setCell ⟨w.heap.size, 9, none⟩ (.string T3)) = w3 at *
    rcases Nat.eq_zero_or_pos L.length with h0 | h0
    · obtain rfl := List.length_eq_zero_iff.1 h0
      clear h0 h80 h70 hM hml hcap hlm
      have HM := Lib.hid (World.ownsRow_made (base := w.heap.size) (e := 72) (size := 4) w3 #[] 0 HG2.out.size (by unfold maxLen; omega) rfl)
      have b10 := ((HB2.out.gr ((Gr.refl w3).alloc (.cells #[] 72)))).cell (i := 10) rfl
      have HB3 := Lib.hid (HB2.out.gr ((Gr.refl w3).alloc (.cells #[] 72)))
      have HZ3 := Lib.hid (HZ2.out.gr ((Gr.refl w3).alloc (.cells #[] 72)))
      have HG3 := Lib.hid (HG2.out.alloc (.cells #[] 72))
      go_wp2_with (at_builtin; go_loud (refine wpList_append_zero _ rfl (.tmp 17) (.tmp 19) 47 rfl 72 i0 Tryz.underlying47 hi0 _ 0 0 _ _ rfl rfl (Nat.le_refl _) ?_))
      clear b10 HB2 HZ2 HG2 HR HMR HSZ
      generalize hg7 : w3.heap.size = g7 at *
      generalize w3.alloc (.cells #[] 72) = w4 at *
      go_loopw [23] (fun u23 wr => u23 = .int .i64 0 ∧ wr = w4) (fun _ _ => 0)
      case atStart => exact ⟨rfl, rfl⟩
      case round =>
        obtain ⟨rfl, rfl⟩ := hrel
        have HOF := Lib.hid (show wr.ownsRow w.heap.size 72 4 (.slice (some ⟨g7, 0, none⟩) 0 0) 0 (rcells encE (fewE [])) from HM.out)
        have HFL := Lib.hid (show (fewE []).length = 0 from rfl)
        have HB := HB3
        have HZ := HZ3
        have HG := HG3
        clear HM HB3 HZ3 HG3
        have f10 := HB.out.free 10
        have b10 := HB.out.cell (i := 10) rfl
        go_upto_region 11 with fail
        have HB8 := Lib.hid (HB.out.set 10 (.slice (some ⟨g7, 0, none⟩) 0 0))
        replace HB8 := Lib.hid (show Blk _ _ #[.int .i64 kd, .int .i64 frm, .int .i64 tt, .int .i64 sub, .int .u64 c, .int .i64 n, .int .i64 slot, .int .i64 time, .bool ok, .string T3, .slice (some ⟨g7, 0, none⟩) 0 0] _ from HB8.out)
        have HZ8 := Lib.hid (HZ.out.other (show w.heap.size + 1 ≠ w.heap.size by omega) 10 (.slice (some ⟨g7, 0, none⟩) 0 0))
        have HG8 := Lib.hid (HG.out.setCell (p := ⟨w.heap.size, 10, none⟩) (Nat.le_refl _) (.slice (some ⟨g7, 0, none⟩) 0 0))
        have HO8 := Lib.hid (ownsRow_setCell_other (a := ⟨w.heap.size, 10, none⟩) HOF.out (row_off HB.out HOF.out (by decide)) (.slice (some ⟨g7, 0, none⟩) 0 0))
        clear HB HZ HG HOF b10 f10
        generalize wr.setCell ⟨w.heap.size, 10, none⟩ (.slice (some ⟨g7, 0, none⟩) 0 0) = w8 at *
        obtain ⟨ms, hms, hmsl, hT, hO, hgr, hBl⟩ := blk_put HZ8.out #[.int .i64 kd, .int .i64 frm, .int .i64 tt, .int .i64 sub, .int .u64 c, .int .i64 n, .int .i64 slot, .int .i64 time, .bool ok, .string T3, .slice (some ⟨g7, 0, none⟩) 0 0] rfl (eleven_one _ _ _ _ _ _ _ _ _ _ _ _ _)
        have HGF := Lib.hid (gr_put HG8.out hgr (by omega))
        have HOG := Lib.hid (HO8.out.kept hgr (.inr (row_off HZ8.out HO8.out (by decide))))
        have HMS := Lib.hid hms
        have HML := Lib.hid hmsl
        have HTT := Lib.hid hT
        have HOO := Lib.hid hO
        have z0 := hBl.cell (i := 0) rfl
        have z1 := hBl.cell (i := 1) rfl
        have z2 := hBl.cell (i := 2) rfl
        have z3 := hBl.cell (i := 3) rfl
        have z4 := hBl.cell (i := 4) rfl
        have z5 := hBl.cell (i := 5) rfl
        have z6 := hBl.cell (i := 6) rfl
        have z7 := hBl.cell (i := 7) rfl
        have z8 := hBl.cell (i := 8) rfl
        have z9 := hBl.cell (i := 9) rfl
        have z10 := hBl.cell (i := 10) rfl
        have m0 := HB8.out.cell (i := 0) rfl
        have m1 := HB8.out.cell (i := 1) rfl
        have m2 := HB8.out.cell (i := 2) rfl
        have m3 := HB8.out.cell (i := 3) rfl
        have m4 := HB8.out.cell (i := 4) rfl
        have m5 := HB8.out.cell (i := 5) rfl
        have m6 := HB8.out.cell (i := 6) rfl
        have m7 := HB8.out.cell (i := 7) rfl
        have m8 := HB8.out.cell (i := 8) rfl
        have m9 := HB8.out.cell (i := 9) rfl
        have m10 := HB8.out.cell (i := 10) rfl
        clear hms hmsl hT hO hgr hBl HB8 HZ8 HG8 HO8
        go_wp2_with (first | (refine wpList_store_mid rfl 49 (.tmp 2) (.tmp 39) (by rfl) (w.heap.size + 1) 0 ms.toArray (by rfl) (by exact HMS.out) HTT.out (by rw [HML.out]; kernel_rfl) HOO.out ?_))
        refine bodyPost_ret (v := .agg #[.int .i64 kd, .int .i64 frm, .int .i64 tt, .int .i64 sub, .int .u64 c, .int .i64 n, .int .i64 slot, .int .i64 time, .bool ok, .string T3, .slice (some ⟨g7, 0, none⟩) 0 0]) (by simp [results, Tryz.results29, go_sem, z0, z1, z2, z3, z4, z5, z6, z7, z8, z9, z10]; try rfl) rfl ?_
        exact ⟨(some ⟨g7, 0, none⟩), 0, by rw [HFL.out], by rw [HFL.out]; exact HOG.out, HGF.out⟩
    · rw [hM] at HMR
      obtain ⟨rb, ro, rfl, hrc⟩ := (HMR.out.gr (HG2.out.alloc (.cells #[] 72))).cells (by omega)
      have HCC := Lib.hid hrc
      clear hrc
      have HLL := Lib.hid (rcells_len encE_len (L))
      have HON := Lib.hid (rcells_one encE_one (L))
      have HM := Lib.hid (World.ownsRow_made (base := w.heap.size) (e := 72) (size := 4) w3 #[] 0 HG2.out.size (by unfold maxLen; omega) rfl)
      have b10 := ((HB2.out.gr ((Gr.refl w3).alloc (.cells #[] 72)))).cell (i := 10) rfl
      go_wp2_with (at_builtin; go_loud (refine wpList_append_lies _ rfl (.tmp 17) (.tmp 19) 47 rfl w.heap.size 72 i0 (.agg #[.int .i64 0, .int .u64 0, .int .i64 0, .string ⟨#[]⟩]) 4 40 Tryz.underlying47 hi0 hz0 hz1 hz2 rfl (by decide) (.slice (some ⟨w3.heap.size, 0, none⟩) 0 0) 0 [] rfl HM.out ⟨rb, ro, none⟩ L.length vc (rcells encE (L)) rfl ?b1q ?b2q HON.out ?b3q ?b4q ?b5q ?b6q _ rfl ?_))
      case b1q => exact HLL.out
      case b2q => exact HCC.out
      case b3q => omega
      case b4q => unfold maxLen; omega
      case b5q => omega
      case b6q => have := HG2.out.size; simp; omega
      intro g7 cap7 w7 hown7 hgrow7 hat7 hlt7
      try simp only [Nat.zero_add, List.nil_append] at hown7
      have HG7 := Lib.hid ((HG2.out.alloc (.cells #[] 72)).append HM.out hgrow7)
      have HB7 := Lib.hid ((HB2.out.gr ((Gr.refl w3).alloc (.cells #[] 72))).grownB hgrow7 (by intro e; simp only [Value.ownBlock, Option.some.injEq] at e; have := HSZ.out; omega))
      have HZ7 := Lib.hid ((HZ2.out.gr ((Gr.refl w3).alloc (.cells #[] 72))).grownB hgrow7 (by intro e; simp only [Value.ownBlock, Option.some.injEq] at e; have := HSZ.out; omega))
      have HO7 := Lib.hid hown7
      clear hown7 hgrow7 hat7 hlt7 b10 HM HCC HLL HON HB2 HZ2 HG2 HSZ
      have HWF := Lib.hid HMR.out.2.1
      clear HMR HR
      have HMX := Lib.hid (show fewE L = (L).map cutE by unfold fewE; rw [hM])
      have HLN := Lib.hid (rfl : L.length = L.length)
      skip
      go_wp2
      go_loopw [23] (fun u23 wr => ∃ k : Nat, k ≤ L.length ∧ u23 = .int .i64 (k : Nat) ∧ Hid (Gr w wr) ∧ Hid (Blk wr w.heap.size #[.int .i64 kd, .int .i64 frm, .int .i64 tt, .int .i64 sub, .int .u64 c, .int .i64 n, .int .i64 slot, .int .i64 time, .bool ok, .string T3, .slice (some ⟨rb, ro, none⟩) L.length vc] 49) ∧ Hid (Blk wr (w.heap.size + 1) #[.int .i64 0, .int .i64 0, .int .i64 0, .int .i64 0, .int .u64 0, .int .i64 0, .int .i64 0, .int .i64 0, .bool false, .string ⟨#[]⟩, .slice none 0 0] 49) ∧ Hid (wr.ownsRow w.heap.size 72 4 (.slice (some ⟨g7, 0, none⟩) L.length cap7) L.length (rcells encE (cutK L k)))) (fun u23 _ => L.length - (intOf u23).toNat)
      case atStart => exact ⟨0, by omega, rfl, HG7, HB7, HZ7, Lib.hid (by rw [cutK_zero]; exact HO7.out)⟩
      case round =>
        clear HG7 HB7 HZ7 HO7
        obtain ⟨k, hk, rfl, HG, HB, HZ, HO⟩ := hrel
        by_cases hlt : k < L.length
        · have hk4 : (k : Int) < (L.length : Int) := by omega
          have hkM : k < L.length := by omega
          have d3 := HO.out.cells (g := g7) rfl (k * 4 + 3) (.string L[k].text) (by rw [rcells_at encE_len _ k (by rw [cutK_len]; exact hkM) 3 (by omega), cutK_at L k hkM]; rfl)
          rw [addr_add, Nat.zero_add] at d3
          obtain ⟨_, _, _, hvv, _, _, _, _, _, _, _, _, _, hfz⟩ := owns_open HO.out (by omega)
          simp only [Value.slice.injEq, Option.some.injEq, Addr.mk.injEq, and_true, true_and] at hvv
          obtain ⟨rfl, rfl⟩ := hvv
          have f3 := hfz (k * 4 + 3)
          have hgs : w.heap.size ≤ g7 := (HO.out.lt g7 rfl).1
          have hgb : g7 ≠ w.heap.size := fun e => absurd (congrArg some e) (fun e2 => row_off HB.out HO.out (by decide) e2)
          have hgz : g7 ≠ w.heap.size + 1 := fun e => absurd (congrArg some e) (fun e2 => row_off HZ.out HO.out (by decide) e2)
          have HCU := Lib.hid (fun w => cut_any L[k].text 402 w (HWF.out _ (List.getElem_mem hkM)).2.2.2 (by decide))
          have HST := Lib.hid (show (wr.setCell ⟨g7, k * 4 + 3, none⟩ (.string (cutB L[k].text 402))).ownsRow w.heap.size 72 4 (.slice (some ⟨g7, 0, none⟩) L.length cap7) L.length (rcells encE (cutK L (k + 1))) from by
            have h := (HO.out.stored (k * 4 + 3) (.string (cutB L[k].text 402))).1
            rw [rcells_text _ _ k (by rw [cutK_len]; exact hkM), cutK_at L k hkM] at h
            rw [cutK_succ L k hkM]
            exact h)
          have HBS := Lib.hid (HB.out.other (Ne.symm hgb) (k * 4 + 3) (.string (cutB L[k].text 402)))
          have HZS := Lib.hid (HZ.out.other (Ne.symm hgz) (k * 4 + 3) (.string (cutB L[k].text 402)))
          have HGS := Lib.hid (HG.out.setCell (p := ⟨g7, k * 4 + 3, none⟩) hgs (.string (cutB L[k].text 402)))
          generalize L[k].text = tx at *
          generalize cutB tx 402 = tx2 at *
          clear hgb hgz hgs hfz HO HB HZ HG
          go_wp2_with fail
          refine (HCU.out _).mono ?_
          rintro e w9 ⟨rfl, rfl⟩
          clear HCU
          go_wp2
          go_roundw
          case rel => exact ⟨k + 1, by omega, by go_num, HGS, HBS, HZS, HST⟩
          case measure => simp [intOf]; omega
        · have hk5 : ¬ (k : Int) < (L.length : Int) := by omega
          obtain rfl : k = L.length := by omega
          have HOF := Lib.hid (show wr.ownsRow w.heap.size 72 4 (.slice (some ⟨g7, 0, none⟩) L.length cap7) L.length (rcells encE (fewE L)) from by rw [HMX.out]; have h := HO.out; rw [show cutK L L.length = L.map cutE from by exact cutK_all L] at h; exact h)
          have HFL := Lib.hid (show (fewE L).length = L.length by rw [HMX.out, List.length_map])
          clear HO HMX
          have f10 := HB.out.free 10
          have b10 := HB.out.cell (i := 10) rfl
          go_upto_region 11 with fail
          have HB8 := Lib.hid (HB.out.set 10 (.slice (some ⟨g7, 0, none⟩) L.length cap7))
          replace HB8 := Lib.hid (show Blk _ _ #[.int .i64 kd, .int .i64 frm, .int .i64 tt, .int .i64 sub, .int .u64 c, .int .i64 n, .int .i64 slot, .int .i64 time, .bool ok, .string T3, .slice (some ⟨g7, 0, none⟩) L.length cap7] _ from HB8.out)
          have HZ8 := Lib.hid (HZ.out.other (show w.heap.size + 1 ≠ w.heap.size by omega) 10 (.slice (some ⟨g7, 0, none⟩) L.length cap7))
          have HG8 := Lib.hid (HG.out.setCell (p := ⟨w.heap.size, 10, none⟩) (Nat.le_refl _) (.slice (some ⟨g7, 0, none⟩) L.length cap7))
          have HO8 := Lib.hid (ownsRow_setCell_other (a := ⟨w.heap.size, 10, none⟩) HOF.out (row_off HB.out HOF.out (by decide)) (.slice (some ⟨g7, 0, none⟩) L.length cap7))
          clear HB HZ HG HOF b10 f10
          generalize wr.setCell ⟨w.heap.size, 10, none⟩ (.slice (some ⟨g7, 0, none⟩) L.length cap7) = w8 at *
          obtain ⟨ms, hms, hmsl, hT, hO, hgr, hBl⟩ := blk_put HZ8.out #[.int .i64 kd, .int .i64 frm, .int .i64 tt, .int .i64 sub, .int .u64 c, .int .i64 n, .int .i64 slot, .int .i64 time, .bool ok, .string T3, .slice (some ⟨g7, 0, none⟩) L.length cap7] rfl (eleven_one _ _ _ _ _ _ _ _ _ _ _ _ _)
          have HGF := Lib.hid (gr_put HG8.out hgr (by omega))
          have HOG := Lib.hid (HO8.out.kept hgr (.inr (row_off HZ8.out HO8.out (by decide))))
          have HMS := Lib.hid hms
          have HML := Lib.hid hmsl
          have HTT := Lib.hid hT
          have HOO := Lib.hid hO
          have z0 := hBl.cell (i := 0) rfl
          have z1 := hBl.cell (i := 1) rfl
          have z2 := hBl.cell (i := 2) rfl
          have z3 := hBl.cell (i := 3) rfl
          have z4 := hBl.cell (i := 4) rfl
          have z5 := hBl.cell (i := 5) rfl
          have z6 := hBl.cell (i := 6) rfl
          have z7 := hBl.cell (i := 7) rfl
          have z8 := hBl.cell (i := 8) rfl
          have z9 := hBl.cell (i := 9) rfl
          have z10 := hBl.cell (i := 10) rfl
          have m0 := HB8.out.cell (i := 0) rfl
          have m1 := HB8.out.cell (i := 1) rfl
          have m2 := HB8.out.cell (i := 2) rfl
          have m3 := HB8.out.cell (i := 3) rfl
          have m4 := HB8.out.cell (i := 4) rfl
          have m5 := HB8.out.cell (i := 5) rfl
          have m6 := HB8.out.cell (i := 6) rfl
          have m7 := HB8.out.cell (i := 7) rfl
          have m8 := HB8.out.cell (i := 8) rfl
          have m9 := HB8.out.cell (i := 9) rfl
          have m10 := HB8.out.cell (i := 10) rfl
          clear hms hmsl hT hO hgr hBl HB8 HZ8 HG8 HO8
          go_wp2_with (first | (refine wpList_store_mid rfl 49 (.tmp 2) (.tmp 39) (by rfl) (w.heap.size + 1) 0 ms.toArray (by rfl) (by exact HMS.out) HTT.out (by rw [HML.out]; kernel_rfl) HOO.out ?_))
          refine bodyPost_ret (v := .agg #[.int .i64 kd, .int .i64 frm, .int .i64 tt, .int .i64 sub, .int .u64 c, .int .i64 n, .int .i64 slot, .int .i64 time, .bool ok, .string T3, .slice (some ⟨g7, 0, none⟩) L.length cap7]) (by simp [results, Tryz.results29, go_sem, z0, z1, z2, z3, z4, z5, z6, z7, z8, z9, z10]; try rfl) rfl ?_
          exact ⟨(some ⟨g7, 0, none⟩), cap7, by rw [HFL.out], by rw [HFL.out]; exact HOG.out, HGF.out⟩
end Go.Proofs.YtfgkgpkaohkehaaGreatDoor
namespace Go.Proofs.YtfgkgpkaohkehaaGreatDoor
open Go.ChangeShapes Go.WideShapes Go.ChangeAt Go.RowKit
open Enc Bal
set_option linter.unusedVariables false
set_option linter.unusedSimpArgs false
theorem first10 : (if checkM 1 1 2 0 ((1 : Nat) : Int) ((1 : Nat) : Int) 0 0 ⟨#[]⟩ [] = 0 then frameB (1 : Int).toNat (ofL (inHead 1 2 0 1 1 0 0 false ⟨#[]⟩ ([] : List E).length ++ ([] : List E).flatMap insE)) else ⟨#[]⟩) = ⟨#[1, 0, 0, 10, 1, 2, 0, 1, 1, 0, 0, 0, 0, 0, 2, 4, 91, 156]⟩ := by decide +kernel
end Go.Proofs.YtfgkgpkaohkehaaGreatDoor
namespace Go.Proofs.YtfgkgpkaohkehaaGreatDoor
open Go.ChangeShapes Go.WideShapes Go.ChangeAt Go.RowKit
open Enc Bal
set_option linter.unusedVariables false
set_option linter.unusedSimpArgs false
/-- A row of entries that is owned. -/
def ORow (T : TypeId) (w : World) (L : List E) (a : Option Addr) (q : Nat) : Prop := ∃ base, w.ownsRow base T 4 (.slice a L.length q) L.length (rcells encE L)
theorem ORow.gr {T : TypeId} {w w' : World} {L : List E} {a : Option Addr} {q : Nat} (h : ORow T w L a q) (hg : Gr w w') : ORow T w' L a q := by
  obtain ⟨b, h⟩ := h
  exact ⟨b, ownsRow_gr hg h⟩
theorem ORow.put {T t : TypeId} {w : World} {L : List E} {a : Option Addr} {q c : Nat} {cs : Array Value} {ms : List Value} (h : ORow T w L a q) (hB : Blk w c cs t) (hne : t ≠ T) (hg : w.grownBy (w.setCells c 0 ms) (some c)) : ORow T (w.setCells c 0 ms) L a q := by
  obtain ⟨b, h⟩ := h
  exact ⟨b, h.kept hg (.inr (row_off hB h hne))⟩
def Mg.few (m : Mg) : Mg := ⟨m.kd, m.frm, m.tt, m.sub, m.c, m.n, m.slot, m.time, m.ok, cutB m.text 300, fewE m.L⟩
/-- Of numbers that a machine holds. -/
structure Mg.Wf (m : Mg) : Prop where
  k : (Lit.int .i64 m.kd).wf = true
  w0 : (Lit.int .i64 m.frm).wf = true
  w1 : (Lit.int .i64 m.tt).wf = true
  w2 : (Lit.int .i64 m.sub).wf = true
  c : (Lit.int .u64 m.c).wf = true
  n : (Lit.int .i64 m.n).wf = true
  w3 : (Lit.int .i64 m.slot).wf = true
  w4 : (Lit.int .i64 m.time).wf = true
  text : m.text.size ≤ 9223372036854775807
  ent : ∀ y ∈ m.L, y.wf
theorem Mg.few_sm {m : Mg} (h : m.Wf) : m.few.Sm := by
  refine ⟨h.w0, h.w1, h.w2, h.w3, h.w4, by have := bounds_u64 h.c; show 0 ≤ m.c ∧ m.c < _; omega, by have := cutB_le m.text 300; show (cutB m.text 300).size ≤ 1000; omega, by show (fewE m.L).length ≤ 100; unfold fewE; rw [List.length_map, List.length_take]; omega, fun y hy => ?_⟩
  obtain ⟨z, hz, rfl⟩ := List.mem_map.1 (show y ∈ (m.L.take 70).map cutE from hy)
  have hz2 := h.ent z (List.mem_of_mem_take hz)
  have := bounds_u64 hz2.2.1
  exact ⟨hz2.1, by show 0 ≤ z.c; omega, by show z.c < _; omega, by have := cutB_le z.text 402; show (cutB z.text 402).size ≤ 1000; omega⟩
theorem few_mg {va : Option Addr} {vc : Nat} (m : Mg) (w : World) (hm : m.Wf) (hr : ERow w va m.L) (hcap : m.L.length ≤ vc) :
    Calls Tryz.prog 29 #[.agg #[.int .i64 m.kd, .int .i64 m.frm, .int .i64 m.tt, .int .i64 m.sub, .int .u64 m.c, .int .i64 m.n, .int .i64 m.slot, .int .i64 m.time, .bool m.ok, .string m.text, .slice va m.L.length vc]] w fun e w' => ∃ ms a q, e = .returned (.agg (List.toArray ms)) ∧ Hid (ms = [.int .i64 m.few.kd, .int .i64 m.few.frm, .int .i64 m.few.tt, .int .i64 m.few.sub, .int .u64 m.few.c, .int .i64 m.few.n, .int .i64 m.few.slot, .int .i64 m.few.time, .bool m.few.ok, .string m.few.text, .slice a m.few.L.length q]) ∧ Hid (ORow 72 w' m.few.L a q) ∧ Gr w w' := by
  refine (few_any10 m.kd m.frm m.tt m.sub m.c m.n m.slot m.time m.ok m.text m.L w hr hcap hm.text).mono ?_
  rintro e w' ⟨a, q, rfl, h, hg⟩
  exact ⟨_, a, q, rfl, Lib.hid rfl, Lib.hid ⟨_, h⟩, hg⟩
theorem own_mg {a : Option Addr} {q : Nat} (m : Mg) (hl : m.L.length ≤ 1000) (w : World) (h : ORow 72 w m.L a q) :
    Calls Tryz.prog 10 #[.agg #[.int .i64 m.kd, .int .i64 m.frm, .int .i64 m.tt, .int .i64 m.sub, .int .u64 m.c, .int .i64 m.n, .int .i64 m.slot, .int .i64 m.time, .bool m.ok, .string m.text, .slice a m.L.length q]] w fun e w' => ∃ o p, e = .returned (.agg #[.int .i64 m.kd, .int .i64 m.frm, .int .i64 m.tt, .int .i64 m.sub, .int .u64 m.c, .int .i64 m.n, .int .i64 m.slot, .int .i64 m.time, .bool m.ok, .string m.text, .slice o m.L.length p]) ∧ Hid (ORow 74 w' m.L o p) ∧ Gr w w' := by
  obtain ⟨b, h⟩ := h
  refine (own_any m.kd m.frm m.tt m.sub m.c m.n m.slot m.time m.ok m.text m.L w h hl).mono ?_
  rintro e w' ⟨o, p, rfl, h2, hg⟩
  exact ⟨o, p, rfl, Lib.hid ⟨_, h2⟩, hg⟩
theorem check_mg {a : Option Addr} {q : Nat} (m : Mg) (hm : m.Sm) (w : World) (h : ORow 74 w m.L a q) :
    Calls Tryz.prog 32 #[.agg #[.int .i64 m.kd, .int .i64 m.frm, .int .i64 m.tt, .int .i64 m.sub, .int .u64 m.c, .int .i64 m.n, .int .i64 m.slot, .int .i64 m.time, .bool m.ok, .string m.text, .slice a m.L.length q]] w fun e w' => e = .returned (.int .i64 m.check) ∧ Gr w w' := by
  obtain ⟨b, h⟩ := h
  exact Check_any m.kd m.frm m.tt m.sub m.c m.n m.slot m.time m.ok m.text m.L w h (by have := hm.len; omega)
end Go.Proofs.YtfgkgpkaohkehaaGreatDoor
namespace Go.Proofs.YtfgkgpkaohkehaaGreatDoor
open Go.ChangeShapes Go.WideShapes Go.ChangeAt Go.RowKit
open Enc Bal
set_option linter.unusedVariables false
set_option linter.unusedSimpArgs false
/-- The bytes of a message. -/
def Mg.bytes (m : Mg) : ByteArray := if m.check = 0 then frameB m.kd.toNat m.inside else ⟨#[]⟩
theorem Mg.inside_size {m : Mg} (hm : m.Sm) (hc : m.check = 0) : m.inside.size ≤ 200000 := by
  obtain ⟨k, hE, _⟩ := Mg.ok_of hm hc
  exact inL_size m.frm m.tt m.sub m.c.toNat m.n.toNat m.slot m.time m.ok m.text m.L hm.len hm.text hE
theorem Mg.bytes_eq {m : Mg} (hm : m.Sm) (hc : m.check = 0) : m.bytes = rframe m.kd.toNat m.inside := by
  have k := checkOk hc
  have h := Mg.inside_size hm hc
  unfold Mg.bytes
  rw [if_pos hc, frame_eq _ _ (by have := k.kd; omega) (by omega)]
theorem bytes_mg {a : Option Addr} {q : Nat} (m : Mg) (hm : m.Sm) (w : World) (h : ORow 74 w m.L a q) (hn : 0 ≤ m.n) :
    Calls Tryz.prog 12 #[.agg #[.int .i64 m.kd, .int .i64 m.frm, .int .i64 m.tt, .int .i64 m.sub, .int .u64 m.c, .int .i64 m.n, .int .i64 m.slot, .int .i64 m.time, .bool m.ok, .string m.text, .slice a m.L.length q]] w fun e w' => e = .returned (.string m.bytes) ∧ Gr w w' := by
  obtain ⟨b, h⟩ := h
  have := bytes_any m.kd m.frm m.tt m.sub m.c.toNat m.n.toNat m.slot m.time m.ok m.text m.L w h (by have := hm.len; omega) (fun y hy => (hm.ent y hy).2.1)
  rw [show ((m.c.toNat : Nat) : Int) = m.c by have := hm.c; omega, show ((m.n.toNat : Nat) : Int) = m.n by omega] at this
  exact this
theorem bytesX_mg {a : Option Addr} {q : Nat} (m : Mg) (hm : m.Sm) (w : World) (h : ORow 74 w m.L a q) :
    Calls Tryz.prog 12 #[.agg #[.int .i64 m.kd, .int .i64 m.frm, .int .i64 m.tt, .int .i64 m.sub, .int .u64 m.c, .int .i64 m.n, .int .i64 m.slot, .int .i64 m.time, .bool m.ok, .string m.text, .slice a m.L.length q]] w fun e w' => e = .returned (.string m.bytes) ∧ Gr w w' := by
  by_cases hn : 0 ≤ m.n
  · exact bytes_mg m hm w h hn
  · have hc : m.check ≠ 0 := fun hc => by have := (checkOk hc).n; omega
    have HV : m.bytes = ⟨#[]⟩ := by unfold Mg.bytes; rw [if_neg hc]
    have HC := Lib.hid fun w9 (hg : Gr w w9) => check_mg m hm w9 (h.gr hg)
    rw [HV]
    have HA := Lib.hid ((Gr.refl w).alloc (.cells #[.int .i64 m.kd, .int .i64 m.frm, .int .i64 m.tt, .int .i64 m.sub, .int .u64 m.c, .int .i64 m.n, .int .i64 m.slot, .int .i64 m.time, .bool m.ok, .string m.text, .slice a m.L.length q] 41))
    have HO := Lib.hid ((Gr.refl (w.alloc (.cells #[.int .i64 m.kd, .int .i64 m.frm, .int .i64 m.tt, .int .i64 m.sub, .int .u64 m.c, .int .i64 m.n, .int .i64 m.slot, .int .i64 m.time, .bool m.ok, .string m.text, .slice a m.L.length q] 41))).own)
    have t0 : (m.check != 0) = true := by simp [hc]
    clear h hm hn hc HV
    generalize m.check = K at *
    go_enter Tryz.func12, Tryz.ntmps12
    have k0 := HO.out.1 0 _ rfl
    have k1 := HO.out.1 1 _ rfl
    have k2 := HO.out.1 2 _ rfl
    have k3 := HO.out.1 3 _ rfl
    have k4 := HO.out.1 4 _ rfl
    have k5 := HO.out.1 5 _ rfl
    have k6 := HO.out.1 6 _ rfl
    have k7 := HO.out.1 7 _ rfl
    have k8 := HO.out.1 8 _ rfl
    have k9 := HO.out.1 9 _ rfl
    have k10 := HO.out.1 10 _ rfl
    go_wp2_with fail
    refine (HC.out _ (HA.out)).mono ?_
    rintro e w1 ⟨rfl, hg1⟩
    have HG := Lib.hid (HA.out.trans hg1)
    clear hg1
    go_wp2
    go_ret
    exact ⟨rfl, HG.out⟩
end Go.Proofs.YtfgkgpkaohkehaaGreatDoor
