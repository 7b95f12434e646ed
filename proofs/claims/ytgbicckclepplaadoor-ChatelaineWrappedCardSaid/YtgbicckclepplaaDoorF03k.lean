import Derived.Test.YtgbicckclepplaaDoorL03b
import Derived.Test.YtgbicckclepplaaDoorF03j
import Derived.WalkKit
import Derived.ProofKit
import Derived.LoopTactic
import Derived.Outline
import Derived.WalkSpells
import Derived.WalkLawsBesides
import Derived.Lib.Hide
import Derived.Deep.LoopGhost
import Derived.Deep.QuietTactic
import Derived.BigQuiet
import Derived.ShutString
import Derived.LaidEql
import Derived.Stop.Asserts
import Derived.RowKitTokens
import Derived.Laws.Pointers
import Derived.Deep.QuietTactic
import Derived.BigQuiet
namespace Go.Proofs.YtgbicckclepplaaDoor
open Go.ChangeShapes Go.WideShapes Go.ChangeAt Go.RowKit Go.Extern.Stop Go.Stop Go.Extern
set_option linter.unusedVariables false
/-- An error's chain lies in memory, in blocks of which 'ok' holds, of which nothing is frozen. -/
def Blk (ok : Nat → Prop) (w : World) : Value → List Lk → Prop
  | v, [] => v = .nilIface
  | v, .other :: L => ∃ b u, v = .iface 58 (.pointer (some ⟨b, 0, none⟩)) ∧ ok b ∧ w.heap[b]? = some (.cells #[u] 60 (0, 0)) ∧ Blk ok w u L
  | v, .fault c s :: L => ∃ b u, v = .iface 45 (.pointer (some ⟨b, 0, none⟩)) ∧ ok b ∧ w.heap[b]? = some (.cells #[.int .i64 c, .string s, u] 49 (0, 0)) ∧ Blk ok w u L
theorem blk_cell {w : World} {b : Nat} {cs : Array Value} {T : TypeId} {fz : Nat × Nat} (hb : w.heap[b]? = some (.cells cs T fz)) (j : Nat) : w.cell? ⟨b, j, none⟩ = cs[j]? := by
  simp [World.cell?, hb]
theorem Blk.chain {ok : Nat → Prop} {w : World} : ∀ {L : List Lk} {v : Value}, Blk ok w v L → Chain w v L
  | [], _, h => h
  | .other :: _, _, ⟨b, u, h, _, c, r⟩ => ⟨b, u, h, blk_cell c 0, r.chain⟩
  | .fault _ _ :: _, _, ⟨b, u, h, _, c, r⟩ => ⟨b, u, h, blk_cell c 0, blk_cell c 1, blk_cell c 2, r.chain⟩
theorem Blk.gr {ok : Nat → Prop} {w w' : World} (hg : Gr w w') : ∀ {L : List Lk} {v : Value}, Blk ok w v L → Blk ok w' v L
  | [], _, h => h
  | .other :: _, _, ⟨b, u, h, o, c, r⟩ => ⟨b, u, h, o, (Below.block hg b (Array.getElem?_eq_some_iff.1 c).1).trans c, r.gr hg⟩
  | .fault _ _ :: _, _, ⟨b, u, h, o, c, r⟩ => ⟨b, u, h, o, (Below.block hg b (Array.getElem?_eq_some_iff.1 c).1).trans c, r.gr hg⟩
theorem Blk.mono {ok ok' : Nat → Prop} {w : World} (hm : ∀ b, b < w.heap.size → ok b → ok' b) : ∀ {L : List Lk} {v : Value}, Blk ok w v L → Blk ok' w v L
  | [], _, h => h
  | .other :: _, _, ⟨b, u, h, o, c, r⟩ => ⟨b, u, h, hm b (Array.getElem?_eq_some_iff.1 c).1 o, c, r.mono hm⟩
  | .fault _ _ :: _, _, ⟨b, u, h, o, c, r⟩ => ⟨b, u, h, hm b (Array.getElem?_eq_some_iff.1 c).1 o, c, r.mono hm⟩
theorem blk_fault {w : World} {c : Int} {s : ByteArray} {v : Value} {L : List Lk} {n : Nat} {ok : Nat → Prop} (h : Blk ok w v L) (hn : n = w.heap.size) (ho : ok n) : Blk ok (w.alloc (.cells #[.int .i64 c, .string s, v] 49)) (.iface 45 (.pointer (some ⟨n, 0, none⟩))) (.fault c s :: L) := by
  subst hn
  exact ⟨_, v, rfl, ho, heap_alloc_new w _, h.gr ((Gr.refl w).alloc _)⟩
theorem blk_other {w : World} {v : Value} {L : List Lk} {n : Nat} {ok : Nat → Prop} (h : Blk ok w v L) (hn : n = w.heap.size) (ho : ok n) : Blk ok (w.alloc (.cells #[v] 60)) (.iface 58 (.pointer (some ⟨n, 0, none⟩))) (.other :: L) := by
  subst hn
  exact ⟨_, v, rfl, ho, heap_alloc_new w _, h.gr ((Gr.refl w).alloc _)⟩
/-- A new chain of a call: its blocks are new. -/
def BlkIs (L : List Lk) (w : World) (e : Ending) (w' : World) : Prop := ∃ u, e = .returned u ∧ Blk (w.heap.size ≤ ·) w' u L ∧ Gr w w'
theorem newB_any (c : Int) (s : ByteArray) (w : World) (hc : (c == 0) = false) : Calls Tryd.prog 23 #[.int .i64 c, .string s] w (BlkIs [.fault c s] w) := by
  go_enter Tryd.func23, Tryd.ntmps23
  go_wp2
  go_ret
  exact ⟨_, rfl, blk_fault (L := []) rfl rfl (Nat.le_refl _), (Gr.refl _).alloc _⟩
theorem ofB_any (c : Int) (w : World) (hc : (c == 0) = false) : Calls Tryd.prog 21 #[.int .i64 c] w (BlkIs [.fault c ⟨#[]⟩] w) := by
  go_enter Tryd.func21, Tryd.ntmps21
  go_wp2_with fail
  refine (newB_any c _ _ hc).mono ?_
  rintro e w1 ⟨u, rfl, hu, hg⟩
  have HU := Lib.hid hu
  clear hu
  go_wp2
  go_ret
  exact ⟨_, rfl, HU.out, hg⟩
theorem wrapB_any (v : Value) (L : List Lk) (s : ByteArray) (n : Nat) (w : World) (hL : L.length ≤ 1000) (hne : L ≠ []) (h : Blk (n ≤ ·) w v L) (hn : n ≤ w.heap.size) (he : ET w) :
    Calls Tryd.prog 19 #[v, .string s] w fun e w' => ∃ u, e = .returned u ∧ Blk (n ≤ ·) w' u (.fault (codeOf L) s :: L) ∧ Gr w w' := by
  have HV := Lib.hid h
  have HE := Lib.hid he
  have q2 := eqIN
  rcases h.chain.isErr with rfl | ⟨t, a, rfl⟩
  · exact absurd (chain_nil h.chain) hne
  · clear h he hne
    go_enter Tryd.func19, Tryd.ntmps19
    go_wp2_with fail
    refine (code_any _ L _ hL HV.out.chain HE.out).mono ?_
    rintro e w1 ⟨rfl, hg⟩
    have HV2 := Lib.hid (HV.out.gr hg)
    have hs := hg.size
    go_wp2
    go_ret
    exact ⟨_, rfl, blk_fault HV2.out rfl (Nat.le_trans hn hs), hg.alloc _⟩
set_option maxRecDepth 100000 in
set_option maxHeartbeats 1000000 in
theorem chainB_any (L : List LinkD) (a : Option Addr) (cap : Nat) (w : World) (hst : LinkRow w a L) (hL : L.length ≤ 1000) :
    Calls Tryd.prog 12 #[.slice a L.length cap] w (BlkIs (L.map lkOf) w) := by
  have HST := Lib.hid hst
  clear hst
  go_enter Tryd.func12, Tryd.ntmps12
  go_wp2
  go_loopw [3, 4] (fun v i wr => ∃ (k : Nat) (m : Int), k ≤ L.length ∧ m = (k : Int) - 1 ∧ i = .int .i64 m ∧ Hid (Blk (w.heap.size ≤ ·) wr v ((L.drop k).map lkOf)) ∧ Hid (Gr w wr)) (fun _ i _ => (intOf i + 1).toNat)
  case atStart => exact ⟨L.length, _, Nat.le_refl _, rfl, rfl, Lib.hid (by rw [List.drop_length]; rfl), Lib.hid (Gr.refl _)⟩
  case round =>
    obtain ⟨k, m, hk, hm, rfl, hC, hG⟩ := hrel
    rcases k with _ | j
    · obtain rfl : m = -1 := by omega
      have HC := Lib.hid (show Blk (w.heap.size ≤ ·) wr _ (L.map lkOf) from hC.out)
      clear hC hm
      go_wp2
      go_ret
      exact ⟨_, rfl, HC.out, hG.out⟩
    · obtain rfl : m = (j : Int) := by omega
      clear hm
      obtain ⟨-, hok, hcl⟩ := HST.out.gr hG.out
      obtain ⟨b, off, rfl, hc⟩ := hcl.resolve_left (by intro e; rw [e] at hk; simp at hk)
      have hj : j < L.length := by omega
      obtain ⟨c0, c1, c2⟩ := hc j hj
      have hd : (L.drop j).map lkOf = lkOf L[j] :: (L.drop (j + 1)).map lkOf := by rw [List.drop_eq_getElem_cons hj]; rfl
      have HD := Lib.hid hd
      have hbw := cell_lt c0
      have hjl : (j : Int) < L.length := by omega
      have hws := hG.out.size
      clear hd hok hcl hc
      generalize L[j] = p at *
      generalize (L.drop (j + 1)).map lkOf = M at *
      obtain ⟨O, C, S⟩ := p
      simp only at c0 c1 c2
      rcases hC.out.chain.isErr with rfl | ⟨t, a, rfl⟩
      all_goals
        cases O
        · have HN := fun n hn ho => Lib.hid (blk_fault (c := C) (s := S) (n := n) (hC.out.gr ((Gr.refl wr).alloc (.cells #[.bool false, .int .i64 C, .string S] 39))) hn ho)
          go_wp2
          go_roundw
          case rel => exact ⟨j, (j : Int) - 1, by omega, rfl, rfl, Lib.hid (by rw [HD.out]; exact (HN _ (by simp) (by omega)).out), Lib.hid ((hG.out.alloc _).alloc _)⟩
          case measure => first | (simp [intOf]; done) | (simp [intOf]; omega)
        · have HN := fun n hn ho => Lib.hid (blk_other (n := n) (hC.out.gr ((Gr.refl wr).alloc (.cells #[.bool true, .int .i64 C, .string S] 39))) hn ho)
          go_wp2
          go_roundw
          case rel => exact ⟨j, (j : Int) - 1, by omega, rfl, rfl, Lib.hid (by rw [HD.out]; exact (HN _ (by simp) (by omega)).out), Lib.hid ((hG.out.alloc _).alloc _)⟩
          case measure => first | (simp [intOf]; done) | (simp [intOf]; omega)
/-- The method Is, its target a fault without a cause. -/
theorem faultIs_plain (b tb : Nat) (c ct : Int) (w : World) (hc : w.cell? ⟨b, 0, none⟩ = some (.int .i64 c)) (t0 : w.cell? ⟨tb, 0, none⟩ = some (.int .i64 ct)) (t1 : w.cell? ⟨tb, 1, none⟩ = some (.string ⟨#[]⟩)) (t2 : w.cell? ⟨tb, 2, none⟩ = some .nilIface) :
    Calls Tryd.prog 74 #[.pointer (some ⟨b, 0, none⟩), .iface 45 (.pointer (some ⟨tb, 0, none⟩))] w fun e w' => e = .returned (.bool (ct == c)) ∧ Gr w w' := by
  have q1 := eqNN
  go_enter Tryd.func74, Tryd.ntmps74
  go_wp2_with fail
  refine (itself_fault _ _).mono ?_
  rintro e w1 ⟨rfl, rfl⟩
  go_wp2
  go_quiet (fail)
  go_wp2
  go_ret
  exact ⟨rfl, (Gr.refl _).drewN _⟩
theorem faultIs_placed (b tb : Nat) (c ct : Int) (s : ByteArray) (hs : s.toList.isEmpty = false) (w : World) (hc : w.cell? ⟨b, 0, none⟩ = some (.int .i64 c)) (t0 : w.cell? ⟨tb, 0, none⟩ = some (.int .i64 ct)) (t1 : w.cell? ⟨tb, 1, none⟩ = some (.string s)) (t2 : w.cell? ⟨tb, 2, none⟩ = some .nilIface) :
    Calls Tryd.prog 74 #[.pointer (some ⟨b, 0, none⟩), .iface 45 (.pointer (some ⟨tb, 0, none⟩))] w fun e w' => e = .returned (.bool false) ∧ Gr w w' := by
  have q1 := eqNN
  go_enter Tryd.func74, Tryd.ntmps74
  go_wp2_with fail
  refine (itself_fault _ _).mono ?_
  rintro e w1 ⟨rfl, rfl⟩
  go_wp2
  go_quiet (fail)
  go_wp2
  go_ret
  exact ⟨rfl, (Gr.refl _).drewN _⟩
end Go.Proofs.YtgbicckclepplaaDoor
