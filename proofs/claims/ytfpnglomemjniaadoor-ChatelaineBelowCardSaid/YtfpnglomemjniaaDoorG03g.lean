import Derived.Test.YtfpnglomemjniaaDoorG03e
import Derived.WalkKit
import Derived.ProofKit
import Derived.LoopTactic
import Derived.Outline
import Derived.WalkSpells
import Derived.WalkLawsBesides
import Derived.Lib.Hide
import Derived.Deep.LoopGhost
import Derived.Deep.QuietTactic
import Derived.BigQuiet
import Derived.ShutString
import Derived.LaidEql
import Derived.Laws.Pointers
namespace Go.Proofs.YtfpnglomemjniaaDoor
open Go.ChangeShapes Go.WideShapes Go.ChangeAt Go.RowKit Go.Extern.Stop Go.Stop Go.Extern
set_option linter.unusedVariables false
/-- The places of a chain. -/
def trailOf : List Lk → List ByteArray
  | [] => []
  | .fault _ s :: L => if s.size = 0 then trailOf L else s :: trailOf L
theorem trailOf_first {L L' : List Lk} {c : Int} {s : ByteArray} (h : firstF L = some (c, s, L')) : trailOf L = trailOf (.fault c s :: L') := by
  induction L with
  | nil => cases h
  | cons x t ih =>
    cases x with
    | fault c' s' =>
      simp only [firstF, Option.some.injEq, Prod.mk.injEq] at h
      obtain ⟨rfl, rfl, rfl⟩ := h
      rfl
theorem trailOf_none {L : List Lk} (h : firstF L = none) : trailOf L = [] := by
  induction L with
  | nil => rfl
  | cons x t ih =>
    cases x with
    | fault c' s' => cases h
theorem first_len {L L' : List Lk} {c : Int} {s : ByteArray} (h : firstF L = some (c, s, L')) : L'.length < L.length := by
  induction L with
  | nil => cases h
  | cons x t ih =>
    cases x with
    | fault c' s' =>
      simp only [firstF, Option.some.injEq, Prod.mk.injEq] at h
      obtain ⟨_, _, rfl⟩ := h
      simp
/-- Places are short. -/
def Short (n : Nat) (L : List Lk) : Prop := ∀ c s, Lk.fault c s ∈ L → s.size ≤ n
theorem first_short {n : Nat} {L L' : List Lk} {c : Int} {s : ByteArray} (h : firstF L = some (c, s, L')) (hs : Short n L) : s.size ≤ n ∧ Short n L' := by
  induction L with
  | nil => cases h
  | cons x t ih =>
    have ht : Short n t := fun c s hm => hs c s (List.mem_cons_of_mem _ hm)
    cases x with
    | fault c' s' =>
      simp only [firstF, Option.some.injEq, Prod.mk.injEq] at h
      obtain ⟨rfl, rfl, rfl⟩ := h
      exact ⟨hs _ _ (List.mem_cons_self ..), ht⟩
theorem trail_short {n : Nat} {L : List Lk} (hs : Short n L) : (∀ s ∈ trailOf L, s.size ≤ n) ∧ (trailOf L).length ≤ L.length := by
  induction L with
  | nil => exact ⟨by simp [trailOf], Nat.le_refl _⟩
  | cons x t ih =>
    have ht : Short n t := fun c s hm => hs c s (List.mem_cons_of_mem _ hm)
    obtain ⟨i1, i2⟩ := ih ht
    cases x with
    | fault c s =>
      unfold trailOf
      split
      · exact ⟨i1, by simp; omega⟩
      · refine ⟨fun u hu => ?_, by simp; omega⟩
        rcases List.mem_cons.1 hu with rfl | hu
        · exact hs _ _ (List.mem_cons_self ..)
        · exact i1 u hu
theorem toList_iff (R G : ByteArray) : R.toList = G.toList ↔ R = G := by
  constructor
  · intro h
    have h' : R.data.toList = G.data.toList := by simpa [ByteArray.toList_eq] using h
    exact ByteArray.ext (Array.toList_inj.1 h')
  · intro h; rw [h]
theorem info_str3 : (Tryd.prog.info? 9).map (fun i => (i.zero, i.size, i.bytes)) = some (some (.string ⟨#[]⟩), 1, 16) := by kernel_rfl
theorem cellsOne (w : World) (x : Value) (t : TypeId) : ∀ (j : Nat) (u : Value), [x][j]? = some u → (w.alloc (.cells #[x] t)).cell? ((⟨w.heap.size, 0, none⟩ : Addr).add j) = some u := by
  intro j u hj
  match j, hj with
  | 0, hj => simp at hj; subst hj; exact new_cell rfl rfl
/-- A slice that lies in a row of strings, or nowhere. -/
def Tagged (w : World) (a : Option Addr) : Prop := a = none ∨ ∃ g c fz, a = some ⟨g, 0, none⟩ ∧ w.heap[g]? = some (.cells c 9 fz)
theorem tagged_of_row {w : World} {base : Nat} {n cap : Nat} {a : Option Addr} {xs : List Value} (h : w.ownsRow base 9 1 (.slice a n cap) n xs) : Tagged w a := by
  rcases h.2 with ⟨hv, _⟩ | ⟨g, cap, cur, hv, _, hc, _⟩
  · injection hv with h1; exact .inl h1
  · injection hv with h1; exact .inr ⟨g, _, _, h1, hc⟩
/-- The places of an error, as Trail returns them. -/
def TrailIs (l : List ByteArray) (w : World) (e : Ending) (w' : World) : Prop := ∃ a cap, e = .returned (.slice a l.length cap) ∧ Strs w' a l ∧ Tagged w' a ∧ Gr w w'
/-- What Trail's loop still has to go through. -/
def RestIs (w : World) (p : Option Addr) (M : List Lk) : Prop := p = none ∧ trailOf M = [] ∨ ∃ b c s L, p = some ⟨b, 0, none⟩ ∧ FaultAt w b c s L ∧ M = .fault c s :: L
theorem rest_of_first {L : List Lk} {W w w' : World} {e : Ending} (h : FirstIs W L w e w') : ∃ p M, e = .returned (.pointer p) ∧ RestIs W p M ∧ trailOf M = trailOf L ∧ M.length ≤ L.length ∧ (∀ n, Short n L → Short n M) ∧ Gr w w' := by
  cases hF : firstF L with
  | none =>
    obtain ⟨h1, h2⟩ := first_none hF h
    exact ⟨none, [], h1, .inl ⟨rfl, rfl⟩, (trailOf_none hF).symm, by simp, fun n _ c s hm => by simp at hm, h2⟩
  | some x =>
    obtain ⟨c, s, L'⟩ := x
    obtain ⟨b, h1, h2, h3⟩ := first_some hF h
    refine ⟨_, _, h1, .inr ⟨b, c, s, L', rfl, h2, rfl⟩, (trailOf_first hF).symm, by have := first_len hF; simp; omega, fun n hs c2 s2 hm => ?_, h3⟩
    obtain ⟨k1, k2⟩ := first_short hF hs
    rcases List.mem_cons.1 hm with h | h
    · cases h; exact k1
    · exact k2 _ _ h
set_option maxRecDepth 100000 in
set_option maxHeartbeats 1000000 in
theorem trail_any (v : Value) (L : List Lk) (w : World) (hL : L.length ≤ 1000) (hs : Short 1000 L) (h : Chain w v L) (he : ET w) :
    Calls Tryd.prog 16 #[v] w (TrailIs (trailOf L) w) := by
  obtain ⟨i0, hi, hz0, hz1, hz2⟩ := info_parts info_str3
  have HV := Lib.hid h
  have HE := Lib.hid he
  have HS := Lib.hid hs
  clear h he hs
  go_enter Tryd.func16, Tryd.ntmps16
  go_wp2_with fail
  refine (first_any _ L w _ hL HV.out (Gr.refl w) HE.out).mono ?_
  intro e w1 hf
  obtain ⟨p, M, rfl, hR, hM, hlen, hsh, hg⟩ := rest_of_first hf
  have HR := Lib.hid hR
  have HM := Lib.hid hM
  have HSM := Lib.hid (hsh 1000 HS.out)
  have HG := Lib.hid hg
  have HT := Lib.hid (trail_short HS.out)
  clear hf hR hM hsh hg HS
  go_wp2
  go_loopw [3, 4, 5] (fun x f n wr => ∃ (acc : List ByteArray) (q : Option Addr) (N : List Lk) (k : Nat), n = .int .i64 (k : Nat) ∧ f = .pointer q ∧ acc.length ≤ k ∧ k + N.length ≤ 1000 ∧ Hid (acc ++ trailOf N = trailOf L) ∧ Hid (RestIs w q N) ∧ Hid (Short 1000 N) ∧
      wr.ownsRow w.heap.size 9 1 x acc.length (strCells acc) ∧ Hid (Gr w wr)) (fun _ _ n _ => 1000 - (intOf n).toNat)
  case atStart => exact ⟨[], p, M, 0, rfl, rfl, by simp, by omega, Lib.hid HM.out, HR, HSM, World.ownsRow_nil _ _ _ _, HG⟩
  case round =>
    obtain ⟨acc, q, N, k, rfl, rfl, hka, hkN, hacc, hR, hSN, hown, hG⟩ := hrel
    rcases hR.out with ⟨rfl, hN⟩ | ⟨b, c, s, N2, rfl, hFA, rfl⟩
    · have HA := Lib.hid (show acc = trailOf L by rw [← hacc.out, hN, List.append_nil])
      clear hN hacc hR
      have hok : ∃ a cap, (∃ v', v' = Value.slice a acc.length cap) ∧ True := ⟨none, 0, ⟨_, rfl⟩, trivial⟩
      obtain ⟨a, cap, rfl, hst⟩ := strs_of_row hown (by intro s hs; rw [HA.out] at hs; have := HT.out.1 s hs; omega) (by omega)
      have HST := Lib.hid hst
      have HTG := Lib.hid (tagged_of_row hown)
      clear hst hown hok
      go_wp2
      go_ret
      have hfin : TrailIs (trailOf L) w (.returned (.slice a acc.length cap)) wr := by rw [← HA.out]; exact ⟨a, cap, rfl, HST.out, HTG.out, hG.out⟩
      exact hfin
    · obtain ⟨k0, k1, u, k2, hch⟩ := hFA
      have K2 := Lib.hid k2
      replace k0 := hG.out.cell k0
      replace k1 := hG.out.cell k1
      replace k2 := hG.out.cell k2
      have hlt : (k : Int) < 131072 := by omega
      have HCH := Lib.hid hch
      have hsz : s.size ≤ 1000 := hSN.out _ _ (List.mem_cons_self ..)
      have HSN2 := Lib.hid (show Short 1000 N2 from fun c s hm => hSN.out c s (List.mem_cons_of_mem _ hm))
      have hN2 : N2.length + 1 + k ≤ 1000 := by simp at hkN; omega
      have hn2 : N2.length ≤ 1000 := by omega
      clear hch hR hSN hkN
      by_cases hs0 : s.size = 0
      · have hz : s = ⟨#[]⟩ := by
          apply ByteArray.ext
          exact Array.eq_empty_of_size_eq_zero hs0
        subst hz
        have HA := Lib.hid (show acc ++ trailOf N2 = trailOf L by rw [← hacc.out]; rfl)
        clear hacc hs0
        go_wp2_with fail
        refine (first_any u N2 w _ hn2 HCH.out hG.out (HE.out.gr hG.out)).mono ?_
        intro e w2 hf
        obtain ⟨q2, M2, rfl, hR2, hM2, hl2, hsh2, hg2⟩ := rest_of_first hf
        have HR2 := Lib.hid hR2
        have HM2 := Lib.hid (show acc ++ trailOf M2 = trailOf L by rw [hM2]; exact HA.out)
        have HS2 := Lib.hid (hsh2 1000 HSN2.out)
        have HG2 := Lib.hid (hG.out.trans hg2)
        have hown2 := ownsRow_gr hg2 hown
        clear hf hR2 hM2 hsh2 hg2 hown k0 k1 k2
        go_wp2
        go_roundw
        case rel => exact ⟨acc, q2, M2, k + 1, by go_num, rfl, by omega, by omega, HM2, HR2, HS2, hown2, HG2⟩
        case measure => simp [intOf]; omega
      · have t1 : s.toList = [] → False := by
          intro e; apply hs0; have := (toList_iff s ⟨#[]⟩).1 (e.trans (by decide +kernel)); rw [this]; rfl
        have t2 : s.toList.isEmpty = false := by
          cases h : s.toList with
          | nil => exact absurd h t1
          | cons _ _ => rfl
        have HA := Lib.hid (show (acc ++ [s]) ++ trailOf N2 = trailOf L by rw [← hacc.out]; simp [trailOf, hs0])
        clear hacc t1
        go_wp2_with (at_builtin; refine wpList_append_own _ rfl _ _ 29 rfl w.heap.size 9 i0 (.string ⟨#[]⟩) 1 16 Tryd.underlying29 hi hz0 hz1 hz2 rfl (by decide) _ _ _ rfl (hown.alloc _) ⟨wr.heap.size, 0, none⟩ 1 1 [.string s] rfl rfl ?c1 ?c2 ?c3 ?c4 ?c5 ?_)
        case c1 => exact cellsOne wr _ _
        case c2 => intro u hu; simp at hu; subst hu; rfl
        case c3 => unfold maxLen; omega
        case c4 => omega
        case c5 => have := hG.out.size; simp; omega
        · intro v' w3 hown3 hgrow _
          have HG3 := Lib.hid ((hG.out.alloc (.cells #[.string s] 9)).append (hown.alloc _) hgrow)
          have k3 := HG3.out.cell K2.out
          clear hgrow hown k0 k1 k2
          go_wp2_with fail
          refine (first_any u N2 w _ hn2 HCH.out HG3.out (HE.out.gr HG3.out)).mono ?_
          intro e w4 hf
          obtain ⟨q2, M2, rfl, hR2, hM2, hl2, hsh2, hg2⟩ := rest_of_first hf
          have HR2 := Lib.hid hR2
          have HM2 := Lib.hid (show (acc ++ [s]) ++ trailOf M2 = trailOf L by rw [hM2]; exact HA.out)
          have HS2 := Lib.hid (hsh2 1000 HSN2.out)
          have HG2 := Lib.hid (HG3.out.trans hg2)
          have hsn : (acc ++ [s]).length = acc.length + 1 := by simp
          have hown4 := ownsRow_gr hg2 hown3
          have HO4 := Lib.hid (show w4.ownsRow w.heap.size 9 1 v' (acc ++ [s]).length (strCells (acc ++ [s])) by rw [hsn]; simpa [strCells] using hown4)
          clear hf hR2 hM2 hsh2 hg2 hown3 hown4 k3
          go_wp2
          go_roundw
          case rel => exact ⟨acc ++ [s], q2, M2, k + 1, by go_num, rfl, by omega, by omega, HM2, HR2, HS2, HO4.out, HG2⟩
          case measure => simp [intOf]; omega
end Go.Proofs.YtfpnglomemjniaaDoor
