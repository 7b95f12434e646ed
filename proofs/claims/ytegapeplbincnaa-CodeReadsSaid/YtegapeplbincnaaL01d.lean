import Derived.Test.YtegapeplbincnaaC05
import Derived.Test.YtegapeplbincnaaL01c
import Derived.WalkKit
import Derived.ProofKit
import Derived.LoopTactic
import Derived.Outline
import Derived.WalkSpells
import Derived.WalkLawsBesides
import Derived.Lib.Hide
import Derived.Deep.LoopGhost
import Derived.Deep.QuietTactic
import Derived.BigQuiet
import Derived.ShutString
import Derived.OpenShut
import Derived.Deep.RegionWith
import Derived.Deep.RegionHeld3
namespace Go.Proofs.Ytegapeplbincnaa
open Go.ChangeShapes Go.WideShapes Go.ChangeAt Go.RowKit
set_option linter.unusedVariables false
/-- A part, as 'few' keeps it. -/
def fewD (p : PartD) : PartD := ⟨bits .and .i64 p.K 3, p.U, p.N, cutB p.S 300⟩
def fewL (L : List PartD) : List PartD := (L.take 30).map fewD
theorem fewL_len (L : List PartD) : (fewL L).length = min 30 L.length := by simp [fewL]
theorem fewL_at (L : List PartD) (i : Nat) (h : i < (fewL L).length) : ∃ h' : i < L.length, (fewL L)[i] = fewD L[i] := by
  have h2 := h
  rw [fewL_len] at h2
  exact ⟨by omega, by simp [fewL]⟩
/-- The cells of parts. -/
def partVals (p : PartD) : List Value := [.int .i64 p.K, .int .u64 (p.U : Int), .int .i64 p.N, .string p.S]
def partCells (L : List PartD) : List Value := L.flatMap partVals
theorem partCells_at (l : List PartD) : ∀ (i : Nat) (h : i < l.length) (j : Nat), j < 4 → (partCells l)[i * 4 + j]? = (partVals l[i])[j]? := by
  induction l with
  | nil => intro i h; simp at h
  | cons p t ih =>
    intro i h j hj
    have hl : (partVals p).length = 4 := rfl
    show (partVals p ++ partCells t)[i * 4 + j]? = _
    match i with
    | 0 => rw [List.getElem?_append_left (by omega)]; simp
    | i + 1 =>
      rw [List.getElem?_append_right (by omega), hl, show (i + 1) * 4 + j - 4 = i * 4 + j by omega, ih i (by simpa using h) j hj]
      rfl
theorem parts_of_row {w : World} {base : Nat} {e : TypeId} {v : Value} {l : List PartD} (h : w.ownsRow base e 4 v l.length (partCells l)) (hz : ∀ p ∈ l, p.ok) (hl : l.length ≤ 9223372036854775807) :
    ∃ a cap, v = .slice a l.length cap ∧ PartRow w a l := by
  obtain ⟨a, cap, rfl, h1⟩ := ownsRow_slice h
  refine ⟨a, cap, rfl, hl, hz, ?_⟩
  rcases h1 with ⟨rfl, h0⟩ | ⟨g, rfl, _, hc⟩
  · exact .inl (List.length_eq_zero_iff.1 h0)
  · refine .inr ⟨g, 0, rfl, fun i hi => ?_⟩
    have at' := fun j hj u hu => hc (i * 4 + j) u ((partCells_at l i hi j hj).trans hu)
    simp only [Nat.zero_add]
    exact ⟨at' 0 (by omega) _ rfl, at' 1 (by omega) _ rfl, at' 2 (by omega) _ rfl, at' 3 (by omega) _ rfl⟩
theorem fewD_ok {p : PartD} (h : p.ok) : (fewD p).ok := by
  obtain ⟨_, h2, h3, _⟩ := h
  have := cutB_le p.S 300
  unfold PartD.ok fewD
  simp only
  refine ⟨wf_bits _ _ _ _, h2, h3, ?_⟩
  omega
theorem fewL_ok {L : List PartD} (h : ∀ p ∈ L, p.ok) : ∀ p ∈ fewL L, p.ok := by
  intro p hp
  simp only [fewL, List.mem_map] at hp
  obtain ⟨q, hq, rfl⟩ := hp
  exact fewD_ok (h q (List.mem_of_mem_take hq))
/-- What 'few' returns. -/
def FewIs (L : List PartD) (w : World) (e : Ending) (w' : World) : Prop :=
  ∃ a cap, e = .returned (.slice a (fewL L).length cap) ∧ PartRow w' a (fewL L) ∧ Gr w w'
theorem fewIs_mk {L fl : List PartD} {w w' : World} {v : Value} (hl : Hid (fewL L = fl)) (hok : Hid (∀ p ∈ L, p.ok)) (ho : w'.ownsRow w.heap.size 32 4 v fl.length (partCells fl)) (hg : Gr w w') : FewIs L w (.returned v) w' := by
  have hl' := hl.out
  subst hl'
  obtain ⟨a, cap, rfl, h⟩ := parts_of_row ho (fewL_ok hok.out) (by rw [fewL_len]; omega)
  exact ⟨a, cap, rfl, h, hg⟩
theorem cells_four (w : World) (x0 x1 x2 x3 : Value) (t : TypeId) (n : Nat) (hn : n = w.heap.size) : ∀ (j : Nat) (u : Value), [x0, x1, x2, x3][j]? = some u → (w.alloc (.cells #[x0, x1, x2, x3] t)).cell? ((⟨n, 0, none⟩ : Addr).add j) = some u := by
  intro j u hj
  have hlt : j < 4 := (List.getElem?_eq_some_iff.1 hj).1
  rw [add_none, Nat.zero_add]
  exact new_cell hn (by simpa using hj)
theorem info_part : (Try.prog.info? 32).map (fun i => (i.zero, i.size, i.bytes)) = some (some (.agg #[.int .i64 0, .int .u64 0, .int .i64 0, .string ⟨#[]⟩]), 4, 40) := by kernel_rfl
set_option maxRecDepth 100000 in
set_option maxHeartbeats 1000000 in
theorem few_any (L : List PartD) (a : Option Addr) (cap : Nat) (w : World) (hst : PartRow w a L) :
    Calls Try.prog 13 #[.slice a L.length cap] w (FewIs L w) := by
  obtain ⟨i0, hi, hz0, hz1, hz2⟩ := info_parts info_part
  have hlen := fewL_len L
  have hSl : L.length ≤ 9223372036854775807 := hst.1
  go_enter Try.func13, Try.ntmps13
  go_wp2
  go_loopw [3, 4] (fun v i wr => ∃ k, k ≤ (fewL L).length ∧ i = .int .i64 (k : Nat) ∧ wr.ownsRow w.heap.size 32 4 v k (partCells ((fewL L).take k)) ∧ Gr w wr) (fun _ i _ => (fewL L).length - (intOf i).toNat)
  case atStart => exact ⟨0, by omega, rfl, World.ownsRow_nil _ _ _ _, Gr.refl _⟩
  case round =>
    obtain ⟨k, hk, rfl, hown, hg⟩ := hrel
    by_cases hlt : k < (fewL L).length
    · obtain ⟨hk', hpe⟩ := fewL_at L k hlt
      have hpr := hst.gr hg
      obtain ⟨-, hok, hcl⟩ := hpr
      obtain ⟨b, off, rfl, hc⟩ := hcl.resolve_left (by intro e; rw [e] at hk'; simp at hk')
      obtain ⟨c0, c1, c2, c3⟩ := hc k hk'
      have t1 : (k : Int) < L.length := by omega
      have t2 : (k : Int) < 30 := by omega
      have hsn : partCells ((fewL L).take (k + 1)) = partCells ((fewL L).take k) ++ partVals (fewD L[k]) := by
        rw [List.take_succ_eq_append_getElem hlt, hpe]
        simp [partCells]
      have Hst := Lib.hid hst
      have hpok := hok L[k] (List.getElem_mem _)
      clear hpe hlen hst hok hc hcl
      generalize L[k] = p at *
      obtain ⟨K, U, N, S⟩ := p
      simp only at c0 c1 c2 c3
      have hSz : S.size ≤ 9223372036854775807 := hpok.2.2.2
      go_wp2_with fail
      refine (cut_any S 300 _ hSz (by decide)).mono ?_
      rintro e w2 ⟨rfl, rfl⟩
      have hfd : partVals (fewD ⟨K, U, N, S⟩) = [.int .i64 (bits .and .i64 K 3), .int .u64 (U : Int), .int .i64 N, .string (cutB S 300)] := rfl
      rw [hfd] at hsn
      have Hsn := Lib.hid hsn
      clear hsn hfd
      generalize cutB S 300 = T at *
      generalize bits .and .i64 K 3 = K3 at *
      go_wp2_with (at_builtin; refine wpList_append_own _ rfl (.tmp 28) (.tmp 30) 22 rfl w.heap.size 32 i0 (.agg #[.int .i64 0, .int .u64 0, .int .i64 0, .string ⟨#[]⟩]) 4 40 Try.underlying22 hi hz0 hz1 hz2 rfl (by decide) _ _ _ rfl ((hown.alloc _).alloc _) ⟨wr.heap.size + 1, 0, none⟩ 1 1 [.int .i64 K3, .int .u64 (U : Int), .int .i64 N, .string T] rfl rfl ?c1 ?c2 ?c3 ?c4 ?c5 ?_)
      case c1 => exact cells_four _ _ _ _ _ _ _ (by simp)
      case c2 => intro u hu; simp at hu; rcases hu with rfl | rfl | rfl | rfl <;> rfl
      case c3 => unfold maxLen; omega
      case c4 => omega
      case c5 => have := hg.size; simp; omega
      · intro v' w3 hown3 hgrow _
        have hg3 := ((hg.alloc _).alloc _).append ((hown.alloc _).alloc _) hgrow
        clear hgrow hown
        go_wp2
        go_roundw
        case rel =>
          refine ⟨k + 1, by omega, by go_num, ?_, hg3⟩
          rw [Hsn.out]; exact hown3
        case measure => simp [intOf]; omega
    · obtain rfl : k = (fewL L).length := by omega
      rw [List.take_length] at hown
      have hz : L.length ≤ (fewL L).length ∨ 30 ≤ (fewL L).length := by omega
      have Hok := Lib.hid hst.2.1
      clear hst
      generalize hfr : fewL L = fl at *
      have Hfr := Lib.hid hfr
      clear hfr hlen
      rcases hz with h30 | h30
      · go_wp2
        go_ret
        exact fewIs_mk Hfr Hok hown hg
      · by_cases h31 : fl.length < L.length
        · go_wp2
          go_ret
          exact fewIs_mk Hfr Hok hown hg
        · go_wp2
          go_ret
          exact fewIs_mk Hfr Hok hown hg
end Go.Proofs.Ytegapeplbincnaa
