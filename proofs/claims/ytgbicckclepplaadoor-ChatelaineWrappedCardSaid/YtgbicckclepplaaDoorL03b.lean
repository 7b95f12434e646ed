import Derived.Test.YtgbicckclepplaaDoorC09
import Derived.Test.YtgbicckclepplaaDoorF03h
import Derived.WalkKit
import Derived.ProofKit
import Derived.LoopTactic
import Derived.Outline
import Derived.WalkSpells
import Derived.WalkLawsBesides
import Derived.Lib.Hide
import Derived.Deep.LoopGhost
import Derived.Deep.QuietTactic
import Derived.BigQuiet
import Derived.ShutString
import Derived.OpenShut
import Derived.IntWalk
namespace Go.Proofs.YtgbicckclepplaaDoor
open Go.ChangeShapes Go.WideShapes Go.ChangeAt Go.RowKit
set_option linter.unusedVariables false
/-- At most twenty bytes of a text. -/
def cut20 (s : ByteArray) : ByteArray := if 20 < s.size then s.extract 0 20 else s
theorem cut20_le (s : ByteArray) : (cut20 s).size ≤ 20 := by
  unfold cut20; split
  · simp; omega
  · omega
/-- A number from 1 to 22. -/
def code22 (c : Int) : Int := 1 + c.tmod 22 % 22
theorem code22_bd (c : Int) : 1 ≤ code22 c ∧ code22 c ≤ 22 := by unfold code22; omega
theorem tmod_bd (c : Int) : -21 ≤ c.tmod 22 ∧ c.tmod 22 ≤ 21 := by
  have h1 := Int.tmod_lt_of_pos c (show (0 : Int) < 22 by decide)
  have h2 := Int.lt_tmod_of_pos c (show (0 : Int) < 22 by decide)
  omega
def fewK (p : LinkD) : LinkD := ⟨p.O, code22 p.C, cut20 p.S⟩
def fewKs (L : List LinkD) : List LinkD := (L.take 10).map fewK
theorem fewKs_len (L : List LinkD) : (fewKs L).length = min 10 L.length := by simp [fewKs]
theorem fewKs_at (L : List LinkD) (i : Nat) (h : i < (fewKs L).length) : ∃ h' : i < L.length, (fewKs L)[i] = fewK L[i] := by
  have h2 := h
  rw [fewKs_len] at h2
  exact ⟨by omega, by simp [fewKs]⟩
/-- What 'few' leaves. -/
def LinkD.small (p : LinkD) : Prop := 1 ≤ p.C ∧ p.C ≤ 22 ∧ p.S.size ≤ 20
theorem fewKs_small (L : List LinkD) : ∀ p ∈ fewKs L, p.small := by
  intro p hp
  simp only [fewKs, List.mem_map] at hp
  obtain ⟨q, _, rfl⟩ := hp
  exact ⟨(code22_bd _).1, (code22_bd _).2, cut20_le _⟩
theorem small_ok {p : LinkD} (h : p.small) : p.ok := by
  obtain ⟨h1, h2, h3⟩ := h
  exact ⟨WalkArith.wf_i64 (by omega), by omega⟩
def linkVals (p : LinkD) : List Value := [.bool p.O, .int .i64 p.C, .string p.S]
def linkCells (L : List LinkD) : List Value := L.flatMap linkVals
theorem linkCells_at (l : List LinkD) : ∀ (i : Nat) (h : i < l.length) (j : Nat), j < 3 → (linkCells l)[i * 3 + j]? = (linkVals l[i])[j]? := by
  induction l with
  | nil => intro i h; simp at h
  | cons p t ih =>
    intro i h j hj
    have hl : (linkVals p).length = 3 := rfl
    show (linkVals p ++ linkCells t)[i * 3 + j]? = _
    match i with
    | 0 => rw [List.getElem?_append_left (by omega)]; simp
    | i + 1 =>
      rw [List.getElem?_append_right (by omega), hl, show (i + 1) * 3 + j - 3 = i * 3 + j by omega, ih i (by simpa using h) j hj]
      rfl
theorem links_of_row {w : World} {base : Nat} {e : TypeId} {v : Value} {l : List LinkD} (h : w.ownsRow base e 3 v l.length (linkCells l)) (hz : ∀ p ∈ l, p.ok) (hl : l.length ≤ 9223372036854775807) :
    ∃ a cap, v = .slice a l.length cap ∧ LinkRow w a l := by
  obtain ⟨a, cap, rfl, h1⟩ := ownsRow_slice h
  refine ⟨a, cap, rfl, hl, hz, ?_⟩
  rcases h1 with ⟨rfl, h0⟩ | ⟨g, rfl, _, hc⟩
  · exact .inl (List.length_eq_zero_iff.1 h0)
  · refine .inr ⟨g, 0, rfl, fun i hi => ?_⟩
    have at' := fun j hj u hu => hc (i * 3 + j) u ((linkCells_at l i hi j hj).trans hu)
    simp only [Nat.zero_add]
    exact ⟨at' 0 (by omega) _ rfl, at' 1 (by omega) _ rfl, at' 2 (by omega) _ rfl⟩
def Few3Is (L : List LinkD) (w : World) (e : Ending) (w' : World) : Prop :=
  ∃ a cap, e = .returned (.slice a (fewKs L).length cap) ∧ LinkRow w' a (fewKs L) ∧ Gr w w'
theorem few3Is_mk {L fl : List LinkD} {w w' : World} {v : Value} (hl : Hid (fewKs L = fl)) (ho : w'.ownsRow w.heap.size 39 3 v fl.length (linkCells fl)) (hg : Gr w w') : Few3Is L w (.returned v) w' := by
  have hl' := hl.out
  subst hl'
  obtain ⟨a, cap, rfl, h⟩ := links_of_row ho (fun p hp => small_ok (fewKs_small L p hp)) (by rw [fewKs_len]; omega)
  exact ⟨a, cap, rfl, h, hg⟩
theorem cells_three (w : World) (x0 x1 x2 : Value) (t : TypeId) (n : Nat) (hn : n = w.heap.size) : ∀ (j : Nat) (u : Value), [x0, x1, x2][j]? = some u → (w.alloc (.cells #[x0, x1, x2] t)).cell? ((⟨n, 0, none⟩ : Addr).add j) = some u := by
  intro j u hj
  have hlt : j < 3 := (List.getElem?_eq_some_iff.1 hj).1
  rw [addr_add, Nat.zero_add]
  exact new_cell hn (by simpa using hj)
theorem info_link : (Tryd.prog.info? 39).map (fun i => (i.zero, i.size, i.bytes)) = some (some (.agg #[.bool false, .int .i64 0, .string ⟨#[]⟩]), 3, 32) := by kernel_rfl
set_option maxRecDepth 100000 in
set_option maxHeartbeats 1000000 in
theorem few3_any (L : List LinkD) (a : Option Addr) (cap : Nat) (w : World) (hst : LinkRow w a L) :
    Calls Tryd.prog 11 #[.slice a L.length cap] w (Few3Is L w) := by
  obtain ⟨i0, hi, hz0, hz1, hz2⟩ := info_parts info_link
  have hlen := fewKs_len L
  have hSl : L.length ≤ 9223372036854775807 := hst.1
  go_enter Tryd.func11, Tryd.ntmps11
  go_wp2
  go_loopw [3, 4] (fun v i wr => ∃ k, k ≤ (fewKs L).length ∧ i = .int .i64 (k : Nat) ∧ wr.ownsRow w.heap.size 39 3 v k (linkCells ((fewKs L).take k)) ∧ Gr w wr) (fun _ i _ => (fewKs L).length - (intOf i).toNat)
  case atStart => exact ⟨0, by omega, rfl, World.ownsRow_nil _ _ _ _, Gr.refl _⟩
  case round =>
    obtain ⟨k, hk, rfl, hown, hg⟩ := hrel
    by_cases hlt : k < (fewKs L).length
    · obtain ⟨hk', hpe⟩ := fewKs_at L k hlt
      have hpr := hst.gr hg
      obtain ⟨-, hok, hcl⟩ := hpr
      obtain ⟨b, off, rfl, hc⟩ := hcl.resolve_left (by intro e; rw [e] at hk'; simp at hk')
      obtain ⟨c0, c1, c2⟩ := hc k hk'
      have t1 : (k : Int) < L.length := by omega
      have t2 : (k : Int) < 10 := by omega
      have hsn : linkCells ((fewKs L).take (k + 1)) = linkCells ((fewKs L).take k) ++ linkVals (fewK L[k]) := by
        rw [List.take_succ_eq_append_getElem hlt, hpe]
        simp [linkCells]
      have Hst := Lib.hid hst
      have hpok := hok L[k] (List.getElem_mem _)
      clear hpe hlen hst hok hc hcl
      generalize L[k] = p at *
      obtain ⟨O, C, S⟩ := p
      simp only at c0 c1 c2
      have hSz : S.size ≤ 9223372036854775807 := hpok.2
      have htm := tmod_bd C
      obtain ⟨m1, m2⟩ := htm
      by_cases h20 : 20 < S.size
      · skip
        have hfd : linkVals (fewK ⟨O, C, S⟩) = [.bool O, .int .i64 (1 + C.tmod 22 % 22), .string (S.extract 0 20)] := by simp [linkVals, fewK, code22, cut20, h20]
        rw [hfd] at hsn
        have Hsn := Lib.hid hsn
        clear hsn hfd hpok
        go_wp2_with (at_builtin; refine wpList_append_own _ rfl _ _ 22 rfl w.heap.size 39 i0 (.agg #[.bool false, .int .i64 0, .string ⟨#[]⟩]) 3 32 Tryd.underlying22 hi hz0 hz1 hz2 rfl (by decide) _ _ _ rfl ((hown.alloc _).alloc _) ⟨wr.heap.size + 1, 0, none⟩ 1 1 [.bool O, .int .i64 (1 + C.tmod 22 % 22), .string (S.extract 0 20)] rfl rfl ?c1 ?c2 ?c3 ?c4 ?c5 ?_)
        case c1 => exact cells_three _ _ _ _ _ _ (by simp)
        case c2 => intro u hu; simp at hu; rcases hu with rfl | rfl | rfl <;> rfl
        case c3 => unfold maxLen; omega
        case c4 => omega
        case c5 => have := hg.size; simp; omega
        · intro v' w3 hown3 hgrow _
          have hg3 := ((hg.alloc _).alloc _).append ((hown.alloc _).alloc _) hgrow
          clear hgrow hown
          go_wp2
          go_roundw
          case rel =>
            refine ⟨k + 1, by omega, by go_num, ?_, hg3⟩
            rw [Hsn.out]; exact hown3
          case measure => simp [intOf]; omega
      · skip
        have hfd : linkVals (fewK ⟨O, C, S⟩) = [.bool O, .int .i64 (1 + C.tmod 22 % 22), .string S] := by simp [linkVals, fewK, code22, cut20, h20]
        rw [hfd] at hsn
        have Hsn := Lib.hid hsn
        clear hsn hfd hpok
        go_wp2_with (at_builtin; refine wpList_append_own _ rfl _ _ 22 rfl w.heap.size 39 i0 (.agg #[.bool false, .int .i64 0, .string ⟨#[]⟩]) 3 32 Tryd.underlying22 hi hz0 hz1 hz2 rfl (by decide) _ _ _ rfl ((hown.alloc _).alloc _) ⟨wr.heap.size + 1, 0, none⟩ 1 1 [.bool O, .int .i64 (1 + C.tmod 22 % 22), .string S] rfl rfl ?c1 ?c2 ?c3 ?c4 ?c5 ?_)
        case c1 => exact cells_three _ _ _ _ _ _ (by simp)
        case c2 => intro u hu; simp at hu; rcases hu with rfl | rfl | rfl <;> rfl
        case c3 => unfold maxLen; omega
        case c4 => omega
        case c5 => have := hg.size; simp; omega
        · intro v' w3 hown3 hgrow _
          have hg3 := ((hg.alloc _).alloc _).append ((hown.alloc _).alloc _) hgrow
          clear hgrow hown
          go_wp2
          go_roundw
          case rel =>
            refine ⟨k + 1, by omega, by go_num, ?_, hg3⟩
            rw [Hsn.out]; exact hown3
          case measure => simp [intOf]; omega
    · obtain rfl : k = (fewKs L).length := by omega
      rw [List.take_length] at hown
      have hz : L.length ≤ (fewKs L).length ∨ 10 ≤ (fewKs L).length := by omega
      clear hst
      generalize hfr : fewKs L = fl at *
      have Hfr := Lib.hid hfr
      clear hfr hlen
      rcases hz with h30 | h30
      · go_wp2
        go_ret
        exact few3Is_mk Hfr hown hg
      · by_cases h31 : fl.length < L.length
        · go_wp2
          go_ret
          exact few3Is_mk Hfr hown hg
        · go_wp2
          go_ret
          exact few3Is_mk Hfr hown hg
/-- The chain of a list of links. -/
def lkOf (p : LinkD) : Lk := if p.O then .other else .fault p.C p.S
theorem fault_at {w : World} {c : Int} {s : ByteArray} {v : Value} {L : List Lk} {t : TypeId} {n : Nat} (h : Chain w v L) (hn : n = w.heap.size) : Chain (w.alloc (.cells #[.int .i64 c, .string s, v] t)) (.iface 45 (.pointer (some ⟨n, 0, none⟩))) (lkOf ⟨false, c, s⟩ :: L) := by
  subst hn; exact fault_new h
theorem other_at {w : World} {c : Int} {s : ByteArray} {v : Value} {L : List Lk} {t : TypeId} {n : Nat} (h : Chain w v L) (hn : n = w.heap.size) : Chain (w.alloc (.cells #[v] t)) (.iface 58 (.pointer (some ⟨n, 0, none⟩))) (lkOf ⟨true, c, s⟩ :: L) := by
  subst hn; exact ⟨_, v, rfl, new_cell rfl rfl, h.gr ((Gr.refl w).alloc _)⟩
theorem chain_short {L : List LinkD} (h : ∀ p ∈ L, p.small) : Short 1000 (L.map lkOf) := by
  intro c s hm
  obtain ⟨p, hp, he⟩ := List.mem_map.1 hm
  unfold lkOf at he
  split at he
  · cases he
  · simp only [Lk.fault.injEq] at he
    obtain ⟨_, rfl⟩ := he
    have := (h p hp).2.2
    omega
set_option maxRecDepth 100000 in
set_option maxHeartbeats 1000000 in
theorem chain_any (L : List LinkD) (a : Option Addr) (cap : Nat) (w : World) (hst : LinkRow w a L) (hL : L.length ≤ 1000) :
    Calls Tryd.prog 12 #[.slice a L.length cap] w (ChainIs (L.map lkOf) w) := by
  have HST := Lib.hid hst
  clear hst
  go_enter Tryd.func12, Tryd.ntmps12
  go_wp2
  go_loopw [3, 4] (fun v i wr => ∃ (k : Nat) (m : Int), k ≤ L.length ∧ m = (k : Int) - 1 ∧ i = .int .i64 m ∧ Hid (Chain wr v ((L.drop k).map lkOf)) ∧ Hid (Gr w wr)) (fun _ i _ => (intOf i + 1).toNat)
  case atStart => exact ⟨L.length, _, Nat.le_refl _, rfl, rfl, Lib.hid (by rw [List.drop_length]; rfl), Lib.hid (Gr.refl _)⟩
  case round =>
    obtain ⟨k, m, hk, hm, rfl, hC, hG⟩ := hrel
    rcases k with _ | j
    · obtain rfl : m = -1 := by omega
      have HC := Lib.hid (show Chain wr _ (L.map lkOf) from hC.out)
      clear hC hm
      go_wp2
      go_ret
      exact ⟨_, rfl, HC.out, hG.out⟩
    · obtain rfl : m = (j : Int) := by omega
      clear hm
      obtain ⟨-, hok, hcl⟩ := HST.out.gr hG.out
      obtain ⟨b, off, rfl, hc⟩ := hcl.resolve_left (by intro e; rw [e] at hk; simp at hk)
      have hj : j < L.length := by omega
      obtain ⟨c0, c1, c2⟩ := hc j hj
      have hd : (L.drop j).map lkOf = lkOf L[j] :: (L.drop (j + 1)).map lkOf := by rw [List.drop_eq_getElem_cons hj]; rfl
      have HD := Lib.hid hd
      have hbw := cell_lt c0
      have hjl : (j : Int) < L.length := by omega
      clear hd hok hcl hc
      generalize L[j] = p at *
      generalize (L.drop (j + 1)).map lkOf = M at *
      obtain ⟨O, C, S⟩ := p
      simp only at c0 c1 c2
      rcases hC.out.isErr with rfl | ⟨t, a, rfl⟩
      all_goals
        cases O
        · have HN := fun t n hn => Lib.hid (fault_at (t := t) (c := C) (s := S) (n := n) (hC.out.gr ((Gr.refl wr).alloc (.cells #[.bool false, .int .i64 C, .string S] 39))) hn)
          go_wp2
          go_roundw
          case rel => exact ⟨j, (j : Int) - 1, by omega, rfl, rfl, Lib.hid (by rw [HD.out]; exact (HN _ _ (by simp)).out), Lib.hid ((hG.out.alloc _).alloc _)⟩
          case measure => first | (simp [intOf]; done) | (simp [intOf]; omega)
        · have HN := fun t n hn => Lib.hid (other_at (c := C) (s := S) (t := t) (n := n) (hC.out.gr ((Gr.refl wr).alloc (.cells #[.bool true, .int .i64 C, .string S] 39))) hn)
          go_wp2
          go_roundw
          case rel => exact ⟨j, (j : Int) - 1, by omega, rfl, rfl, Lib.hid (by rw [HD.out]; exact (HN _ _ (by simp)).out), Lib.hid ((hG.out.alloc _).alloc _)⟩
          case measure => first | (simp [intOf]; done) | (simp [intOf]; omega)
end Go.Proofs.YtgbicckclepplaaDoor
