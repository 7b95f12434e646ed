import Derived.Test.YtnanclgnjchpeaaF16p
import Derived.Test.YtnanclgnjchpeaaC29
import Derived.WalkKit
import Derived.ProofKit
import Derived.LoopTactic
import Derived.Outline
import Derived.WalkSpells
import Derived.WalkLawsBesides
import Derived.Lib.Hide
import Derived.Deep.LoopGhost
import Derived.Deep.QuietTactic
import Derived.BigQuiet
import Derived.ShutString
import Derived.IntWalk
import Derived.BigQuiet
import Derived.Laws.OwnMore
import Derived.Deep.AppendLies
import Derived.BigQuiet
namespace Go.Proofs.Ytnanclgnjchpeaa
open Go.ChangeShapes Go.WideShapes Go.ChangeAt Go.RowKit
set_option linter.unusedVariables false
set_option linter.unusedSimpArgs false
set_option maxRecDepth 100000 in
/-- slices.Clone of what lies anywhere in a block. -/
theorem cloneL_any {g o cap : Nat} (L : List E) (w : World) (hc : ∀ j u, (rcells encE L)[j]? = some u → w.cell? ⟨g, o + j, none⟩ = some u) (hl : L.length ≤ 1000) :
    Calls Try.prog 61 #[.slice (some ⟨g, o, none⟩) L.length cap] w fun e w' => ∃ v', e = .returned v' ∧ w'.ownsRow w.heap.size 44 4 v' L.length (rcells encE L) ∧ Gr w w' := by
  obtain ⟨i0, hi, hz0, hz1, hz2⟩ : ∃ i0 : TypeInfo, Try.prog.info? 44 = some i0 ∧ i0.zero = some (.agg #[.int .i64 0, .int .u64 0, .int .i64 0, .string ⟨#[]⟩]) ∧ i0.size = 4 ∧ i0.bytes = 40 := ⟨_, rfl, rfl, rfl, rfl⟩
  have hu : ∀ (w : World) (a : Option Addr) (n c n' c' : Nat), (binOp .eql 59 (.slice a n c) (.slice none n' c')).run Try.prog w = .ok (.bool a.isNone) w := fun w a n c n' c' => Lib.run_eql_slice_nil w _ _ a n c n' c' Try.underlying59
  rcases Nat.eq_zero_or_pos L.length with h0 | h0
  · obtain rfl := List.length_eq_zero_iff.1 h0
    clear hc h0
    have HM := Lib.hid (World.ownsRow_made (base := w.heap.size) (e := 44) (size := 4) w #[] 0 (Nat.le_refl _) (by unfold maxLen; omega) rfl)
    show Calls Try.prog 61 #[.slice (some ⟨g, o, none⟩) 0 cap] w fun e w' => ∃ v', e = .returned v' ∧ w'.ownsRow w.heap.size 44 4 v' 0 [] ∧ Gr w w'
    go_enter Try.func61, Try.ntmps61
    go_wp2_with (at_builtin; go_loud (refine wpList_append_zero _ rfl (.tmp 5) (.tmp 6) 59 rfl 44 i0 Try.underlying59 hi _ 0 0 _ _ rfl rfl (Nat.le_refl _) ?_))
    go_wp2
    go_ret
    exact ⟨_, rfl, HM.out, (Gr.refl _).alloc _⟩
  · have HM := Lib.hid (World.ownsRow_made (base := w.heap.size) (e := 44) (size := 4) w #[] 0 (Nat.le_refl _) (by unfold maxLen; omega) rfl)
    have HC := Lib.hid (fun j u hj => ((Gr.refl w).alloc (.cells #[] 44)).cell (show w.cell? ⟨g, o + j, none⟩ = some u from hc j u hj))
    have HLL := Lib.hid (rcells_len encE_len L)
    have HON := Lib.hid (rcells_one encE_one L)
    clear hc
    generalize L.length = ln at *
    generalize rcells encE L = cs at *
    go_enter Try.func61, Try.ntmps61
    go_wp2_with (at_builtin; go_loud (refine wpList_append_lies _ rfl (.tmp 5) (.tmp 6) 59 rfl w.heap.size 44 i0 (.agg #[.int .i64 0, .int .u64 0, .int .i64 0, .string ⟨#[]⟩]) 4 40 Try.underlying59 hi hz0 hz1 hz2 rfl (by decide) (.slice (some ⟨w.heap.size, 0, none⟩) 0 0) 0 [] rfl HM.out ⟨g, o, none⟩ ln cap cs rfl HLL.out ?c1 HON.out h0 ?c3 ?c4 ?c5 _ rfl ?_))
    case c1 => intro j u hj; rw [addr_add]; exact HC.out j u hj
    case c3 => unfold maxLen; omega
    case c4 => omega
    case c5 => simp
    intro g7 cap7 w7 hown7 hgrow7 hat7 hlt7
    try simp only [Nat.zero_add, List.nil_append] at hown7
    have HG7 := Lib.hid (((Gr.refl w).alloc (.cells #[] 44)).append HM.out hgrow7)
    have HO7 := Lib.hid hown7
    clear hown7 hgrow7 hat7 hlt7
    go_wp2
    go_ret
    exact ⟨_, rfl, HO7.out, HG7.out⟩
set_option maxRecDepth 100000 in
set_option maxHeartbeats 1000000 in
/-- The same of entries that lie anywhere in a block. -/
theorem copiedL_any {g0 o0 c0 : Nat} (L : List E) (w : World) (h : ∀ j u, (rcells encE L)[j]? = some u → w.cell? ⟨g0, o0 + j, none⟩ = some u) (hl : L.length ≤ 1000) (ht : ∀ x ∈ L, x.text.size ≤ 1000000) :
    Calls Try.prog 75 #[.slice (some ⟨g0, o0, none⟩) L.length c0] w fun e w' => ∃ v', e = .returned v' ∧ w'.ownsRow w.heap.size 44 4 v' L.length (rcells encE L) ∧ Gr w w' := by
  have HC := Lib.hid (cloneL_any (cap := c0) L w h hl)
  have HT := Lib.hid ht
  clear h ht
  go_enter Try.func75, Try.ntmps75
  go_wp2_with fail
  refine HC.out.mono ?_
  rintro e w1 ⟨v, rfl, hv, hg⟩
  obtain ⟨va, vc, rfl, _⟩ := ownsRow_slice hv
  have HV := Lib.hid hv
  have HG := Lib.hid hg
  clear hv hg
  go_wp2
  go_loopw [9] (fun i wr => ∃ k : Nat, k ≤ L.length ∧ i = .int .i64 (k : Nat) ∧ Hid (wr.ownsRow w.heap.size 44 4 (.slice va L.length vc) L.length (rcells encE L)) ∧ Hid (Gr w wr)) (fun i _ => L.length - (intOf i).toNat)
  case atStart => exact ⟨0, by omega, rfl, HV, HG⟩
  case round =>
    clear HV HG
    obtain ⟨k, hk, rfl, HV, HG⟩ := hrel
    by_cases hlt : k < L.length
    · have hk4 : (k : Int) < (L.length : Int) := by omega
      obtain ⟨g, cap, hv, _, _, _, hc⟩ := erow_at HV.out k hlt
      simp only [Value.slice.injEq, true_and] at hv
      obtain ⟨rfl, rfl⟩ := hv
      have HCL := Lib.hid (fun w => clone16 L[k].text w (by have := HT.out _ (List.getElem_mem hlt); omega))
      have HAT := Lib.hid (show (rcells encE L)[k * 4 + 3]? = some (.string L[k].text) by rw [rcells_at encE_len L k hlt 3 (by omega)]; rfl)
      generalize L[k].text = s at *
      go_wp2_with fail
      refine (HCL.out _).mono ?_
      rintro e w9 ⟨rfl, hg9⟩
      have HV9 := Lib.hid (ownsRow_gr hg9 HV.out)
      have hst := (HV9.out.stored (k * 4 + 3) (.string s)).1
      rw [set_same HAT.out] at hst
      have HST := Lib.hid hst
      have hlo := (HV9.out.lt g rfl).1
      have HGG := Lib.hid ((HG.out.trans hg9).setCell (p := ⟨g, k * 4 + 3, none⟩) hlo (.string s))
      obtain ⟨g2, cap2, cur2, hv2, _, _, _, _, _, _, _, hat2, _, hfz2⟩ := owns_open HV9.out (by omega)
      simp only [Value.slice.injEq, Option.some.injEq, Addr.mk.injEq, and_true, true_and] at hv2
      obtain ⟨rfl, rfl⟩ := hv2
      have d0 := hat2 (k * 4 + 3) _ HAT.out
      have d1 := hfz2 (k * 4 + 3)
      clear hat2 hfz2 hst hg9 hc
      go_wp2
      go_roundw
      case rel => exact ⟨k + 1, by omega, by go_num, HST, HGG⟩
      case measure => simp [intOf]; omega
    · have hk5 : ¬ (k : Int) < (L.length : Int) := by omega
      go_wp2
      go_ret
      exact ⟨_, rfl, HV.out, HG.out⟩
end Go.Proofs.Ytnanclgnjchpeaa
