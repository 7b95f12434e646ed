import Derived.Test.YtnanclgnjchpeaaF16s
import Derived.Test.YtnanclgnjchpeaaF16q
import Derived.WalkKit
import Derived.ProofKit
import Derived.LoopTactic
import Derived.Outline
import Derived.WalkSpells
import Derived.WalkLawsBesides
import Derived.Lib.Hide
import Derived.Deep.LoopGhost
import Derived.Deep.QuietTactic
import Derived.BigQuiet
import Derived.ShutString
import Derived.IntWalk
import Derived.BigQuiet
import Derived.Deep.MidRow
namespace Go.Proofs.Ytnanclgnjchpeaa
open Go.ChangeShapes Go.WideShapes Go.ChangeAt Go.RowKit
open Bal
set_option linter.unusedVariables false
set_option linter.unusedSimpArgs false
theorem gr_grown {w w1 w2 : World} {c : Nat} (h : Gr w w1) (hg : w1.grownBy w2 (some c)) (hc : w.heap.size ≤ c) : Gr w w2 :=
  Below.trans h ⟨hg.os, hg.tape, hg.output, hg.size, fun k hk => hg.block k (Nat.lt_of_lt_of_le hk h.size) (fun e => by have := Option.some.inj e; omega)⟩
section
variable {base b : Nat} {v : Value} {wit : Bool} {pc pn ba to til : Int} {L : List E}
theorem promised_any (w : World) (h : Blk w b #[.bool wit, .int .u64 pc, .int .i64 pn, .int .i64 ba, v, .int .i64 to, .int .i64 til] 135) :
    Calls Try.prog 84 #[.pointer (some ⟨b, 0, none⟩)] w fun e w' => e = .returned (.agg #[.int .u64 pc, .int .i64 pn]) ∧ Gr w w' := by
  have HA := Lib.hid (h.gr ((Gr.refl w).alloc (.cells #[.int .u64 0, .int .i64 0] 42)))
  have a1 := HA.out.cell (i := 1) rfl
  have a2 := HA.out.cell (i := 2) rfl
  go_enter Try.func84, Try.ntmps84
  go_wp2
  refine bodyPost_ret (v := .agg #[.int .u64 pc, .int .i64 pn]) (by simp [results, Try.results84, go_sem]; try rfl) rfl ?_
  exact ⟨rfl, (Gr.refl _).alloc _⟩
theorem list_any (w : World) (h : Blk w b #[.bool wit, .int .u64 pc, .int .i64 pn, .int .i64 ba, v, .int .i64 to, .int .i64 til] 135) (hr : w.ownsRow base 44 4 v L.length (rcells encE L)) (hl : L.length ≤ 1000) (ht : ∀ x ∈ L, x.text.size ≤ 1000000) :
    Calls Try.prog 86 #[.pointer (some ⟨b, 0, none⟩)] w fun e w' => ∃ v', e = .returned v' ∧ w'.ownsRow w.heap.size 44 4 v' L.length (rcells encE L) ∧ Gr w w' := by
  have a4 := h.cell (i := 4) rfl
  have HC := Lib.hid (copied_any L w hr hl ht)
  obtain ⟨va, vc, rfl, _⟩ := ownsRow_slice hr
  clear h hr
  go_enter Try.func86, Try.ntmps86
  go_wp2_with fail
  refine HC.out.mono ?_
  rintro e w1 ⟨v', rfl, ho, hg⟩
  obtain ⟨a1, c1, rfl, _⟩ := ownsRow_slice ho
  have HO := Lib.hid ho
  have HG := Lib.hid hg
  clear ho hg
  go_wp2
  go_ret
  exact ⟨_, rfl, HO.out, HG.out⟩
set_option maxRecDepth 100000 in
set_option maxHeartbeats 2000000 in
theorem wait_any (now : Int) (w : World) (h : Blk w b #[.bool wit, .int .u64 pc, .int .i64 pn, .int .i64 ba, v, .int .i64 to, .int .i64 til] 135) (htil : 0 ≤ til ∧ til ≤ 4000000000000) (hnow : 0 ≤ now ∧ now ≤ 4000000000000) :
    Calls Try.prog 134 #[.pointer (some ⟨b, 0, none⟩), .int .i64 now] w fun e w' => e = .returned (.agg #[.int .i64 5, .int .i64 0, .int .i64 0, .int .i64 0, .int .u64 pc, .int .i64 pn, .int .i64 0, .int .i64 (til - now), .bool false, .string ⟨#[]⟩, .slice none 0 0]) ∧ Gr w w' := by
  have HR := Lib.hid (Blk.new w #[.int .i64 0, .int .i64 0, .int .i64 0, .int .i64 0, .int .u64 0, .int .i64 0, .int .i64 0, .int .i64 0, .bool false, .string ⟨#[]⟩, .slice none 0 0] 97)
  have HG := Lib.hid ((Gr.refl w).alloc (.cells #[.int .i64 0, .int .i64 0, .int .i64 0, .int .i64 0, .int .u64 0, .int .i64 0, .int .i64 0, .int .i64 0, .bool false, .string ⟨#[]⟩, .slice none 0 0] 97))
  have HA := Lib.hid (h.gr HG.out)
  have hlt := h.lt
  clear h
  go_enter Try.func134, Try.ntmps134
  go_wp2_with fail
  have hwa : Hid (w.heap.size < (w.alloc (.cells #[.int .i64 0, .int .i64 0, .int .i64 0, .int .i64 0, .int .u64 0, .int .i64 0, .int .i64 0, .int .i64 0, .bool false, .string ⟨#[]⟩, .slice none 0 0] 97)).heap.size) := Lib.hid (by simp)
  generalize w.alloc (.cells #[.int .i64 0, .int .i64 0, .int .i64 0, .int .i64 0, .int .u64 0, .int .i64 0, .int .i64 0, .int .i64 0, .bool false, .string ⟨#[]⟩, .slice none 0 0] 97) = wa at *
  refine (refuse_any _ HA.out).mono ?_
  rintro e w1 ⟨rfl, hg1⟩
  have HR2 := Lib.hid (HR.out.gr (hg1.trans ((Gr.refl w1).alloc (.cells #[.int .i64 5, .int .i64 0, .int .i64 0, .int .i64 0, .int .u64 pc, .int .i64 pn, .int .i64 0, .int .i64 (til - now), .bool false, .string ⟨#[]⟩, .slice none 0 0] 97))))
  have HA2 := Lib.hid (HA.out.gr (hg1.trans ((Gr.refl w1).alloc (.cells #[.int .i64 5, .int .i64 0, .int .i64 0, .int .i64 0, .int .u64 pc, .int .i64 pn, .int .i64 0, .int .i64 0, .bool false, .string ⟨#[]⟩, .slice none 0 0] 97))))
  have HG2 := Lib.hid (HG.out.trans (hg1.trans ((Gr.refl w1).alloc (.cells #[.int .i64 5, .int .i64 0, .int .i64 0, .int .i64 0, .int .u64 pc, .int .i64 pn, .int .i64 0, .int .i64 (til - now), .bool false, .string ⟨#[]⟩, .slice none 0 0] 97))))
  have a6 := HA2.out.cell (i := 6) rfl
  clear HR HG HA hg1
  obtain ⟨ms, hms, hml, hT, hO, hgr, z0, z1, z2, z3, z4, z5, z6, z7, z8, z9, z10⟩ := msg_put11 HR2.out rfl (.int .i64 5) (.int .i64 0) (.int .i64 0) (.int .i64 0) (.int .u64 pc) (.int .i64 pn) (.int .i64 0) (.int .i64 (til - now)) (.bool false) (.string ⟨#[]⟩) (.slice none 0 0) (by intro u hu; simp only [List.mem_cons, List.not_mem_nil, or_false] at hu; rcases hu with rfl | rfl | rfl | rfl | rfl | rfl | rfl | rfl | rfl | rfl | rfl <;> rfl)
  have HGF := Lib.hid (gr_grown HG2.out hgr (Nat.le_refl _))
  have HMS := Lib.hid hms
  have HML := Lib.hid hml
  have HTT := Lib.hid hT
  have HOO := Lib.hid hO
  clear hms hml hT hO hgr HR2 HG2 HA2
  go_wp2_with (first | (refine wpList_store_mid rfl 97 (.tmp 4) (.tmp 16) (by rfl) w.heap.size 0 ms.toArray (by rfl) (by exact HMS.out) HTT.out (by rw [HML.out]; exact info_msg) HOO.out ?_))
  refine bodyPost_ret (v := .agg #[.int .i64 5, .int .i64 0, .int .i64 0, .int .i64 0, .int .u64 pc, .int .i64 pn, .int .i64 0, .int .i64 (til - now), .bool false, .string ⟨#[]⟩, .slice none 0 0]) (by simp [results, Try.results134, go_sem, z0, z1, z2, z3, z4, z5, z6, z7, z8, z9, z10]; try rfl) rfl ?_
  exact ⟨rfl, HGF.out⟩
end
end Go.Proofs.Ytnanclgnjchpeaa
