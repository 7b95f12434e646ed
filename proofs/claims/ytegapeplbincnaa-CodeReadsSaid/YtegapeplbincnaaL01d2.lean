import Derived.Test.YtegapeplbincnaaL01d
import Derived.WalkKit
import Derived.ProofKit
import Derived.LoopTactic
import Derived.Outline
import Derived.WalkSpells
import Derived.WalkLawsBesides
import Derived.Lib.Hide
import Derived.Deep.LoopGhost
import Derived.Deep.QuietTactic
import Derived.BigQuiet
import Derived.ShutString
import Derived.Deep.RegionWith
namespace Go.Proofs.Ytegapeplbincnaa
open Go.ChangeShapes Go.WideShapes Go.ChangeAt Go.RowKit
set_option linter.unusedVariables false
theorem row_base {w : World} {base : Nat} {e : TypeId} {size : Nat} {n cap : Nat} {a : Option Addr} {xs : List Value} (h : w.ownsRow base e size (.slice a n cap) n xs) : ∀ b o, a = some ⟨b, o, none⟩ → base ≤ b := by
  intro b o ha
  rcases h.2 with ⟨hv, _⟩ | ⟨g, cap, cur, hv, hb, _⟩
  · rw [ha] at hv; cases hv
  · rw [ha] at hv; cases hv; exact hb
/-- What 'few' returns: a row of its own. -/
def FewIs2 (L : List PartD) (w : World) (e : Ending) (w' : World) : Prop :=
  ∃ a cap, e = .returned (.slice a (fewL L).length cap) ∧ PartRow w' a (fewL L) ∧ Gr w w' ∧ ∀ b o, a = some ⟨b, o, none⟩ → w.heap.size ≤ b
theorem fewIs2_mk {L fl : List PartD} {w w' : World} {v : Value} (hl : Hid (fewL L = fl)) (hok : Hid (∀ p ∈ L, p.ok)) (ho : w'.ownsRow w.heap.size 32 4 v fl.length (partCells fl)) (hg : Gr w w') : FewIs2 L w (.returned v) w' := by
  have hl' := hl.out
  subst hl'
  obtain ⟨a, cap, rfl, h⟩ := parts_of_row ho (fewL_ok hok.out) (by rw [fewL_len]; omega)
  exact ⟨a, cap, rfl, h, hg, row_base ho⟩
set_option maxRecDepth 100000 in
set_option maxHeartbeats 1000000 in
theorem few2_any (L : List PartD) (a : Option Addr) (cap : Nat) (w : World) (hst : PartRow w a L) :
    Calls Try.prog 13 #[.slice a L.length cap] w (FewIs2 L w) := by
  obtain ⟨i0, hi, hz0, hz1, hz2⟩ := info_parts info_part
  have hlen := fewL_len L
  have hSl : L.length ≤ 9223372036854775807 := hst.1
  go_enter Try.func13, Try.ntmps13
  go_wp2
  go_loopw [3, 4] (fun v i wr => ∃ k, k ≤ (fewL L).length ∧ i = .int .i64 (k : Nat) ∧ wr.ownsRow w.heap.size 32 4 v k (partCells ((fewL L).take k)) ∧ Gr w wr) (fun _ i _ => (fewL L).length - (intOf i).toNat)
  case atStart => exact ⟨0, by omega, rfl, World.ownsRow_nil _ _ _ _, Gr.refl _⟩
  case round =>
    obtain ⟨k, hk, rfl, hown, hg⟩ := hrel
    by_cases hlt : k < (fewL L).length
    · obtain ⟨hk', hpe⟩ := fewL_at L k hlt
      have hpr := hst.gr hg
      obtain ⟨-, hok, hcl⟩ := hpr
      obtain ⟨b, off, rfl, hc⟩ := hcl.resolve_left (by intro e; rw [e] at hk'; simp at hk')
      obtain ⟨c0, c1, c2, c3⟩ := hc k hk'
      have t1 : (k : Int) < L.length := by omega
      have t2 : (k : Int) < 30 := by omega
      have hsn : partCells ((fewL L).take (k + 1)) = partCells ((fewL L).take k) ++ partVals (fewD L[k]) := by
        rw [List.take_succ_eq_append_getElem hlt, hpe]
        simp [partCells]
      have Hst := Lib.hid hst
      have hpok := hok L[k] (List.getElem_mem _)
      clear hpe hlen hst hok hc hcl
      generalize L[k] = p at *
      obtain ⟨K, U, N, S⟩ := p
      simp only at c0 c1 c2 c3
      have hSz : S.size ≤ 9223372036854775807 := hpok.2.2.2
      go_wp2_with fail
      refine (cut_any S 300 _ hSz (by decide)).mono ?_
      rintro e w2 ⟨rfl, rfl⟩
      have hfd : partVals (fewD ⟨K, U, N, S⟩) = [.int .i64 (bits .and .i64 K 3), .int .u64 (U : Int), .int .i64 N, .string (cutB S 300)] := rfl
      rw [hfd] at hsn
      have Hsn := Lib.hid hsn
      clear hsn hfd
      generalize cutB S 300 = T at *
      generalize bits .and .i64 K 3 = K3 at *
      go_wp2_with (at_builtin; refine wpList_append_own _ rfl (.tmp 28) (.tmp 30) 22 rfl w.heap.size 32 i0 (.agg #[.int .i64 0, .int .u64 0, .int .i64 0, .string ⟨#[]⟩]) 4 40 Try.underlying22 hi hz0 hz1 hz2 rfl (by decide) _ _ _ rfl ((hown.alloc _).alloc _) ⟨wr.heap.size + 1, 0, none⟩ 1 1 [.int .i64 K3, .int .u64 (U : Int), .int .i64 N, .string T] rfl rfl ?c1 ?c2 ?c3 ?c4 ?c5 ?_)
      case c1 => exact cells_four _ _ _ _ _ _ _ (by simp)
      case c2 => intro u hu; simp at hu; rcases hu with rfl | rfl | rfl | rfl <;> rfl
      case c3 => unfold maxLen; omega
      case c4 => omega
      case c5 => have := hg.size; simp; omega
      · intro v' w3 hown3 hgrow _
        have hg3 := ((hg.alloc _).alloc _).append ((hown.alloc _).alloc _) hgrow
        clear hgrow hown
        go_wp2
        go_roundw
        case rel =>
          refine ⟨k + 1, by omega, by go_num, ?_, hg3⟩
          rw [Hsn.out]; exact hown3
        case measure => simp [intOf]; omega
    · obtain rfl : k = (fewL L).length := by omega
      rw [List.take_length] at hown
      have hz : L.length ≤ (fewL L).length ∨ 30 ≤ (fewL L).length := by omega
      have Hok := Lib.hid hst.2.1
      clear hst
      generalize hfr : fewL L = fl at *
      have Hfr := Lib.hid hfr
      clear hfr hlen
      rcases hz with h30 | h30
      · go_wp2
        go_ret
        exact fewIs2_mk Hfr Hok hown hg
      · by_cases h31 : fl.length < L.length
        · go_wp2
          go_ret
          exact fewIs2_mk Hfr Hok hown hg
        · go_wp2
          go_ret
          exact fewIs2_mk Hfr Hok hown hg
end Go.Proofs.Ytegapeplbincnaa
