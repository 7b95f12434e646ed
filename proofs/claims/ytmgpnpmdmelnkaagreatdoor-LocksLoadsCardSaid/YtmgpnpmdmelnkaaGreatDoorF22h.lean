import Derived.Test.YtmgpnpmdmelnkaaGreatDoorF22
import Derived.Test.YtmgpnpmdmelnkaaGreatDoorC29
import Derived.WalkKit
import Derived.ProofKit
import Derived.LoopTactic
import Derived.Outline
import Derived.WalkSpells
import Derived.WalkLawsBesides
import Derived.Lib.Hide
import Derived.Deep.LoopGhost
import Derived.Deep.QuietTactic
import Derived.BigQuiet
import Derived.ShutString
import Derived.Deep.AppendLies
namespace Go.Proofs.YtmgpnpmdmelnkaaGreatDoor
open Go.ChangeShapes Go.WideShapes Go.ChangeAt Go.RowKit
set_option linter.unusedVariables false
set_option linter.unusedSimpArgs false
set_option maxRecDepth 100000 in
theorem cloneLok_any {base : Nat} {v : Value} (L : List Lok) (w : World) (h : w.ownsRow base 42 4 v L.length (rcells encLok L)) (hl : L.length ≤ 1000) :
    Calls Tryz.prog 30 #[v] w fun e w' => ∃ v', e = .returned v' ∧ w'.ownsRow w.heap.size 42 4 v' L.length (rcells encLok L) ∧ Gr w w' := by
  obtain ⟨i0, hi, hz0, hz1, hz2⟩ : ∃ i0 : TypeInfo, Tryz.prog.info? 42 = some i0 ∧ i0.zero = some (.agg #[.int .i64 0, .string ⟨#[]⟩, .bool false, .int .u64 0]) ∧ i0.size = 4 ∧ i0.bytes = 40 := ⟨_, rfl, rfl, rfl, rfl⟩
  have hu : ∀ (w : World) (a : Option Addr) (n c n' c' : Nat), (binOp .eql 37 (.slice a n c) (.slice none n' c')).run Tryz.prog w = .ok (.bool a.isNone) w := fun w a n c n' c' => Lib.run_eql_slice_nil w _ _ a n c n' c' Tryz.underlying37
  rcases Nat.eq_zero_or_pos L.length with h0 | h0
  · obtain rfl := List.length_eq_zero_iff.1 h0
    rcases h.2 with ⟨rfl, _⟩ | ⟨g, cap, cur, rfl, _⟩
    · clear h h0
      go_enter Tryz.func30, Tryz.ntmps30
      go_wp2
      go_ret
      exact ⟨_, rfl, World.ownsRow_nil _ _ _ _, Gr.refl _⟩
    · clear h h0
      have HM := Lib.hid (World.ownsRow_made (base := w.heap.size) (e := 42) (size := 4) w #[] 0 (Nat.le_refl _) (by unfold maxLen; omega) rfl)
      show Calls Tryz.prog 30 #[.slice (some ⟨g, 0, none⟩) 0 cap] w fun e w' => ∃ v', e = .returned v' ∧ w'.ownsRow w.heap.size 42 4 v' 0 [] ∧ Gr w w'
      go_enter Tryz.func30, Tryz.ntmps30
      go_wp2_with (at_builtin; go_loud (refine wpList_append_zero _ rfl (.tmp 5) (.tmp 6) 37 rfl 42 i0 Tryz.underlying37 hi _ 0 0 _ _ rfl rfl (Nat.le_refl _) ?_))
      go_wp2
      go_ret
      exact ⟨_, rfl, HM.out, (Gr.refl _).alloc _⟩
  · obtain ⟨g, cap, rfl, hb, hlt⟩ := h.form h0
    have hc := h.cells (g := g) rfl
    have HM := Lib.hid (World.ownsRow_made (base := w.heap.size) (e := 42) (size := 4) w #[] 0 (Nat.le_refl _) (by unfold maxLen; omega) rfl)
    have HC := Lib.hid (fun j u hj => ((Gr.refl w).alloc (.cells #[] 42)).cell (show w.cell? ⟨g, j, none⟩ = some u by have h1 := hc j u hj; have hadd : (⟨g, 0, none⟩ : Addr).add j = ⟨g, j, none⟩ := (by unfold Addr.add; split <;> simp_all); rw [hadd] at h1; exact h1))
    have HLL := Lib.hid (rcells_len encLok_len L)
    have HON := Lib.hid (rcells_one encLok_one L)
    clear h hc
    generalize L.length = ln at *
    generalize rcells encLok L = cs at *
    go_enter Tryz.func30, Tryz.ntmps30
    go_wp2_with (at_builtin; go_loud (refine wpList_append_lies _ rfl (.tmp 5) (.tmp 6) 37 rfl w.heap.size 42 i0 (.agg #[.int .i64 0, .string ⟨#[]⟩, .bool false, .int .u64 0]) 4 40 Tryz.underlying37 hi hz0 hz1 hz2 rfl (by decide) (.slice (some ⟨w.heap.size, 0, none⟩) 0 0) 0 [] rfl HM.out ⟨g, 0, none⟩ ln cap cs rfl HLL.out ?c1 HON.out h0 ?c3 ?c4 ?c5 _ rfl ?_))
    case c1 => intro j u hj; have h1 := HC.out j u hj; have hadd : (⟨g, 0, none⟩ : Addr).add j = ⟨g, j, none⟩ := (by unfold Addr.add; split <;> simp_all); rw [hadd]; exact h1
    case c3 => unfold maxLen; omega
    case c4 => omega
    case c5 => simp
    intro g7 cap7 w7 hown7 hgrow7 hat7 hlt7
    try simp only [Nat.zero_add, List.nil_append] at hown7
    have HG7 := Lib.hid (((Gr.refl w).alloc (.cells #[] 42)).append HM.out hgrow7)
    have HO7 := Lib.hid hown7
    clear hown7 hgrow7 hat7 hlt7
    go_wp2
    go_ret
    exact ⟨_, rfl, HO7.out, HG7.out⟩
end Go.Proofs.YtmgpnpmdmelnkaaGreatDoor
