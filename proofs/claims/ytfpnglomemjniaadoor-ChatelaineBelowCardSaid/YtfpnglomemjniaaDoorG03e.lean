import Derived.Test.YtfpnglomemjniaaDoorG03d
import Derived.Test.YtfpnglomemjniaaDoorC02
import Derived.WalkKit
import Derived.ProofKit
import Derived.LoopTactic
import Derived.Outline
import Derived.WalkSpells
import Derived.WalkLawsBesides
import Derived.Lib.Hide
import Derived.Deep.LoopGhost
import Derived.Deep.QuietTactic
import Derived.BigQuiet
import Derived.ShutString
import Derived.LaidEql
import Derived.Laws.Pointers
namespace Go.Proofs.YtfpnglomemjniaaDoor
open Go.ChangeShapes Go.WideShapes Go.ChangeAt Go.RowKit Go.Extern.Stop Go.Stop Go.Extern
set_option linter.unusedVariables false
/-- The code of a chain. -/
def codeOf (L : List Lk) : Int := match L, firstF L with
  | [], _ => 0
  | _ :: _, none => 1
  | _ :: _, some (c, _, _) => c
theorem first_none {L : List Lk} (h : firstF L = none) {W w w' : World} {e : Ending} (hf : FirstIs W L w e w') : e = .returned (.pointer none) ∧ Gr w w' := by
  unfold FirstIs at hf; rw [h] at hf; exact hf
theorem first_some {L L' : List Lk} {c : Int} {s : ByteArray} (h : firstF L = some (c, s, L')) {W w w' : World} {e : Ending} (hf : FirstIs W L w e w') : ∃ b, e = .returned (.pointer (some ⟨b, 0, none⟩)) ∧ FaultAt W b c s L' ∧ Gr w w' := by
  unfold FirstIs at hf; rw [h] at hf; exact hf
theorem chain_nil {w : World} {L : List Lk} (h : Chain w .nilIface L) : L = [] := by
  match L, h with
  | [], _ => rfl
  | .fault _ _ :: _, ⟨_, _, h, _⟩ => cases h
theorem chain_iface {w : World} {L : List Lk} {t : TypeId} {v : Value} (h : Chain w (.iface t v) L) : L ≠ [] := by
  rintro rfl; cases h
set_option maxRecDepth 100000 in
theorem code_any (v : Value) (L : List Lk) (w : World) (hL : L.length ≤ 1000) (h : Chain w v L) (he : ET w) :
    Calls Tryd.prog 14 #[v] w fun e w' => e = .returned (.int .i64 (codeOf L)) ∧ Gr w w' := by
  have HV := Lib.hid h
  have q1 := eqNN
  have q2 := eqIN
  rcases h.isErr with rfl | ⟨t, a, rfl⟩
  · obtain rfl := chain_nil h
    clear h he
    have E := Lib.hid (show codeOf [] = 0 from rfl)
    rw [E.out]
    go_enter Tryd.func14, Tryd.ntmps14
    go_wp2
    go_ret
    exact ⟨rfl, Gr.refl _⟩
  · have hne := chain_iface h
    clear h
    cases hF : firstF L with
    | none =>
      have E : codeOf L = 1 := by unfold codeOf; cases L with
        | nil => exact absurd rfl hne
        | cons x t => simp only [hF]
      rw [E]; clear E
      have HF := Lib.hid hF
      have HE := Lib.hid he
      clear hF he hne
      go_enter Tryd.func14, Tryd.ntmps14
      go_wp2_with fail
      refine (first_any _ L w _ hL HV.out (Gr.refl w) HE.out).mono ?_
      intro e w1 hf
      obtain ⟨rfl, hg⟩ := first_none HF.out hf
      clear hf
      go_wp2
      go_ret
      exact ⟨rfl, hg⟩
    | some x =>
      obtain ⟨c, s, L'⟩ := x
      have E : codeOf L = c := by unfold codeOf; cases L with
        | nil => exact absurd rfl hne
        | cons x t => simp only [hF]
      rw [E]; clear E
      have HF := Lib.hid hF
      have HE := Lib.hid he
      clear hF he hne
      go_enter Tryd.func14, Tryd.ntmps14
      go_wp2_with fail
      refine (first_any _ L w _ hL HV.out (Gr.refl w) HE.out).mono ?_
      intro e w1 hf
      obtain ⟨b, rfl, hfa, hg⟩ := first_some HF.out hf
      obtain ⟨k0, k1, _⟩ := hfa.gr hg
      clear hfa
      clear hf
      go_wp2
      go_ret
      exact ⟨rfl, hg⟩
theorem new_zero (s : ByteArray) (w : World) : Calls Tryd.prog 67 #[.int .i64 0, .string s] w fun e w' => e = .returned .nilIface ∧ w = w' := by
  go_enter Tryd.func67, Tryd.ntmps67
  go_wp2
  go_ret
  exact ⟨rfl, rfl⟩
def ChainIs (L : List Lk) (w : World) (e : Ending) (w' : World) : Prop := ∃ u, e = .returned u ∧ Chain w' u L ∧ Gr w w'
theorem fault_new {w : World} {c : Int} {s : ByteArray} {v : Value} {L : List Lk} {t : TypeId} (h : Chain w v L) : Chain (w.alloc (.cells #[.int .i64 c, .string s, v] t)) (.iface 68 (.pointer (some ⟨w.heap.size, 0, none⟩))) (.fault c s :: L) :=
  ⟨_, v, rfl, new_cell rfl rfl, new_cell rfl rfl, new_cell rfl rfl, h.gr ((Gr.refl w).alloc _)⟩
theorem new_any (c : Int) (s : ByteArray) (w : World) (hc : (c == 0) = false) : Calls Tryd.prog 67 #[.int .i64 c, .string s] w (ChainIs [.fault c s] w) := by
  go_enter Tryd.func67, Tryd.ntmps67
  go_wp2
  go_ret
  exact ⟨_, rfl, fault_new (L := []) rfl, (Gr.refl _).alloc _⟩
theorem of_zero (w : World) : Calls Tryd.prog 50 #[.int .i64 0] w fun e w' => e = .returned .nilIface ∧ w = w' := by
  go_enter Tryd.func50, Tryd.ntmps50
  go_wp2_with fail
  refine (new_zero _ _).mono ?_
  rintro e w1 ⟨rfl, rfl⟩
  go_wp2
  go_ret
  exact ⟨rfl, rfl⟩
theorem of_any (c : Int) (w : World) (hc : (c == 0) = false) : Calls Tryd.prog 50 #[.int .i64 c] w (ChainIs [.fault c ⟨#[]⟩] w) := by
  go_enter Tryd.func50, Tryd.ntmps50
  go_wp2_with fail
  refine (new_any c _ _ hc).mono ?_
  rintro e w1 ⟨u, rfl, hu, hg⟩
  have HU := Lib.hid hu
  clear hu
  go_wp2
  go_ret
  exact ⟨_, rfl, HU.out, hg⟩
theorem wrap_nil (s : ByteArray) (w : World) : Calls Tryd.prog 56 #[.nilIface, .string s] w fun e w' => e = .returned .nilIface ∧ w = w' := by
  have q1 := eqNN
  go_enter Tryd.func56, Tryd.ntmps56
  go_wp2
  go_ret
  exact ⟨rfl, rfl⟩
theorem wrap_any (v : Value) (L : List Lk) (s : ByteArray) (w : World) (hL : L.length ≤ 1000) (hne : L ≠ []) (h : Chain w v L) (he : ET w) :
    Calls Tryd.prog 56 #[v, .string s] w (ChainIs (.fault (codeOf L) s :: L) w) := by
  have HV := Lib.hid h
  have HE := Lib.hid he
  have q2 := eqIN
  rcases h.isErr with rfl | ⟨t, a, rfl⟩
  · exact absurd (chain_nil h) hne
  · clear h he hne
    go_enter Tryd.func56, Tryd.ntmps56
    go_wp2_with fail
    refine (code_any _ L _ hL HV.out HE.out).mono ?_
    rintro e w1 ⟨rfl, hg⟩
    have HV2 := Lib.hid (HV.out.gr hg)
    go_wp2
    go_ret
    exact ⟨_, rfl, fault_new HV2.out, hg.alloc _⟩
end Go.Proofs.YtfpnglomemjniaaDoor
