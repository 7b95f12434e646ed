import Derived.Test.YtihhfdkcggnjpaaF10m
import Derived.Test.YtihhfdkcggnjpaaF10k
import Derived.Test.YtihhfdkcggnjpaaF10l
import Derived.WalkKit
import Derived.ProofKit
import Derived.LoopTactic
import Derived.Outline
import Derived.WalkSpells
import Derived.WalkLawsBesides
import Derived.Lib.Hide
import Derived.Deep.LoopGhost
import Derived.Deep.QuietTactic
import Derived.BigQuiet
import Derived.ShutString
import Derived.IntWalk
namespace Go.Proofs.Ytihhfdkcggnjpaa
open Go.ChangeShapes Go.WideShapes Go.ChangeAt Go.RowKit
open Enc Bal
set_option linter.unusedVariables false
set_option linter.unusedSimpArgs false
/-- A row of entries that is owned. -/
def ORow (T : TypeId) (w : World) (L : List E) (a : Option Addr) (q : Nat) : Prop := ∃ base, w.ownsRow base T 4 (.slice a L.length q) L.length (rcells encE L)
theorem ORow.gr {T : TypeId} {w w' : World} {L : List E} {a : Option Addr} {q : Nat} (h : ORow T w L a q) (hg : Gr w w') : ORow T w' L a q := by
  obtain ⟨b, h⟩ := h
  exact ⟨b, ownsRow_gr hg h⟩
theorem ORow.put {T t : TypeId} {w : World} {L : List E} {a : Option Addr} {q c : Nat} {cs : Array Value} {ms : List Value} (h : ORow T w L a q) (hB : Blk w c cs t) (hne : t ≠ T) (hg : w.grownBy (w.setCells c 0 ms) (some c)) : ORow T (w.setCells c 0 ms) L a q := by
  obtain ⟨b, h⟩ := h
  exact ⟨b, h.kept hg (.inr (row_off hB h hne))⟩
def Mg.few (m : Mg) : Mg := ⟨m.kd, m.frm, m.tt, m.sub, m.c, m.n, m.slot, m.time, m.ok, cutB m.text 300, fewE m.L⟩
/-- Of numbers that a machine holds. -/
structure Mg.Wf (m : Mg) : Prop where
  k : (Lit.int .i64 m.kd).wf = true
  w0 : (Lit.int .i64 m.frm).wf = true
  w1 : (Lit.int .i64 m.tt).wf = true
  w2 : (Lit.int .i64 m.sub).wf = true
  c : (Lit.int .u64 m.c).wf = true
  n : (Lit.int .i64 m.n).wf = true
  w3 : (Lit.int .i64 m.slot).wf = true
  w4 : (Lit.int .i64 m.time).wf = true
  text : m.text.size ≤ 9223372036854775807
  ent : ∀ y ∈ m.L, y.wf
theorem Mg.few_sm {m : Mg} (h : m.Wf) : m.few.Sm := by
  refine ⟨h.w0, h.w1, h.w2, h.w3, h.w4, by have := bounds_u64 h.c; show 0 ≤ m.c ∧ m.c < _; omega, by have := cutB_le m.text 300; show (cutB m.text 300).size ≤ 1000; omega, by show (fewE m.L).length ≤ 100; unfold fewE; rw [List.length_map, List.length_take]; omega, fun y hy => ?_⟩
  obtain ⟨z, hz, rfl⟩ := List.mem_map.1 (show y ∈ (m.L.take 70).map cutE from hy)
  have hz2 := h.ent z (List.mem_of_mem_take hz)
  have := bounds_u64 hz2.2.1
  exact ⟨hz2.1, by show 0 ≤ z.c; omega, by show z.c < _; omega, by have := cutB_le z.text 402; show (cutB z.text 402).size ≤ 1000; omega⟩
theorem few_mg {va : Option Addr} {vc : Nat} (m : Mg) (w : World) (hm : m.Wf) (hr : ERow w va m.L) (hcap : m.L.length ≤ vc) :
    Calls Try.prog 37 #[.agg #[.int .i64 m.kd, .int .i64 m.frm, .int .i64 m.tt, .int .i64 m.sub, .int .u64 m.c, .int .i64 m.n, .int .i64 m.slot, .int .i64 m.time, .bool m.ok, .string m.text, .slice va m.L.length vc]] w fun e w' => ∃ ms a q, e = .returned (.agg (List.toArray ms)) ∧ Hid (ms = [.int .i64 m.few.kd, .int .i64 m.few.frm, .int .i64 m.few.tt, .int .i64 m.few.sub, .int .u64 m.few.c, .int .i64 m.few.n, .int .i64 m.few.slot, .int .i64 m.few.time, .bool m.few.ok, .string m.few.text, .slice a m.few.L.length q]) ∧ Hid (ORow 164 w' m.few.L a q) ∧ Gr w w' := by
  refine (few_any10 m.kd m.frm m.tt m.sub m.c m.n m.slot m.time m.ok m.text m.L w hr hcap hm.text).mono ?_
  rintro e w' ⟨a, q, rfl, h, hg⟩
  exact ⟨_, a, q, rfl, Lib.hid rfl, Lib.hid ⟨_, h⟩, hg⟩
theorem own_mg {a : Option Addr} {q : Nat} (m : Mg) (hl : m.L.length ≤ 1000) (w : World) (h : ORow 164 w m.L a q) :
    Calls Try.prog 39 #[.agg #[.int .i64 m.kd, .int .i64 m.frm, .int .i64 m.tt, .int .i64 m.sub, .int .u64 m.c, .int .i64 m.n, .int .i64 m.slot, .int .i64 m.time, .bool m.ok, .string m.text, .slice a m.L.length q]] w fun e w' => ∃ o p, e = .returned (.agg #[.int .i64 m.kd, .int .i64 m.frm, .int .i64 m.tt, .int .i64 m.sub, .int .u64 m.c, .int .i64 m.n, .int .i64 m.slot, .int .i64 m.time, .bool m.ok, .string m.text, .slice o m.L.length p]) ∧ Hid (ORow 159 w' m.L o p) ∧ Gr w w' := by
  obtain ⟨b, h⟩ := h
  refine (own_any m.kd m.frm m.tt m.sub m.c m.n m.slot m.time m.ok m.text m.L w h hl).mono ?_
  rintro e w' ⟨o, p, rfl, h2, hg⟩
  exact ⟨o, p, rfl, Lib.hid ⟨_, h2⟩, hg⟩
theorem same_mg {o1 o2 : Option Addr} {p1 p2 : Nat} (m k : Mg) (hl : m.L.length ≤ 1000) (hk : k.L.length ≤ 1000) (w : World) (h1 : ORow 159 w m.L o1 p1) (h2 : ORow 159 w k.L o2 p2) :
    Calls Try.prog 38 #[.agg #[.int .i64 m.kd, .int .i64 m.frm, .int .i64 m.tt, .int .i64 m.sub, .int .u64 m.c, .int .i64 m.n, .int .i64 m.slot, .int .i64 m.time, .bool m.ok, .string m.text, .slice o1 m.L.length p1], .agg #[.int .i64 k.kd, .int .i64 k.frm, .int .i64 k.tt, .int .i64 k.sub, .int .u64 k.c, .int .i64 k.n, .int .i64 k.slot, .int .i64 k.time, .bool k.ok, .string k.text, .slice o2 k.L.length p2]] w fun e w' => e = .returned (.bool (m.same k)) ∧ Gr w w' := by
  obtain ⟨b1, h1⟩ := h1
  obtain ⟨b2, h2⟩ := h2
  exact same_any m.kd m.frm m.tt m.sub m.c m.n m.slot m.time m.ok m.text m.L k.kd k.frm k.tt k.sub k.c k.n k.slot k.time k.ok k.text k.L w h1 h2 hl hk
theorem refCheck_mg {a : Option Addr} {q : Nat} (m : Mg) (hm : m.Sm) (w : World) (h : ORow 164 w m.L a q) :
    Calls Try.prog 40 #[.agg #[.int .i64 m.kd, .int .i64 m.frm, .int .i64 m.tt, .int .i64 m.sub, .int .u64 m.c, .int .i64 m.n, .int .i64 m.slot, .int .i64 m.time, .bool m.ok, .string m.text, .slice a m.L.length q]] w fun e w' => e = .returned (.int .i64 m.check) ∧ Gr w w' := by
  obtain ⟨b, h⟩ := h
  exact refCheck_any m.kd m.frm m.tt m.sub m.c m.n m.slot m.time m.ok m.text m.L w h (by have := hm.len; omega) hm.c.1 (fun y hy => (hm.ent y hy).2.1)
theorem check_mg {a : Option Addr} {q : Nat} (m : Mg) (hm : m.Sm) (w : World) (h : ORow 159 w m.L a q) :
    Calls Try.prog 42 #[.agg #[.int .i64 m.kd, .int .i64 m.frm, .int .i64 m.tt, .int .i64 m.sub, .int .u64 m.c, .int .i64 m.n, .int .i64 m.slot, .int .i64 m.time, .bool m.ok, .string m.text, .slice a m.L.length q]] w fun e w' => e = .returned (.int .i64 m.check) ∧ Gr w w' := by
  obtain ⟨b, h⟩ := h
  exact Check_any m.kd m.frm m.tt m.sub m.c m.n m.slot m.time m.ok m.text m.L w h (by have := hm.len; omega)
theorem refSame_mg {a a2 : Option Addr} {q q2 : Nat} (m k : Mg) (hm : m.Sm) (hk : k.Sm) (cm : m.check = 0) (ck : k.check = 0) (w : World) (h : ORow 164 w m.L a q) (h2 : ORow 164 w k.L a2 q2) :
    Calls Try.prog 41 #[.agg #[.int .i64 m.kd, .int .i64 m.frm, .int .i64 m.tt, .int .i64 m.sub, .int .u64 m.c, .int .i64 m.n, .int .i64 m.slot, .int .i64 m.time, .bool m.ok, .string m.text, .slice a m.L.length q], .agg #[.int .i64 k.kd, .int .i64 k.frm, .int .i64 k.tt, .int .i64 k.sub, .int .u64 k.c, .int .i64 k.n, .int .i64 k.slot, .int .i64 k.time, .bool k.ok, .string k.text, .slice a2 k.L.length q2]] w fun e w' => e = .returned (.bool (m.same k)) ∧ Gr w w' := by
  obtain ⟨b, h⟩ := h
  obtain ⟨b2, h2⟩ := h2
  exact refSame_any m k w h h2 hm hk cm ck
end Go.Proofs.Ytihhfdkcggnjpaa
namespace Go.Proofs.Ytihhfdkcggnjpaa
open Go.ChangeShapes Go.WideShapes Go.ChangeAt Go.RowKit
open Enc Bal
set_option linter.unusedVariables false
set_option linter.unusedSimpArgs false
/-- The bytes of a message. -/
def Mg.bytes (m : Mg) : ByteArray := if m.check = 0 then frameB m.kd.toNat m.inside else ⟨#[]⟩
theorem Mg.inside_size {m : Mg} (hm : m.Sm) (hc : m.check = 0) : m.inside.size ≤ 200000 := by
  obtain ⟨k, hE, _⟩ := Mg.ok_of hm hc
  exact inL_size m.frm m.tt m.sub m.c.toNat m.n.toNat m.slot m.time m.ok m.text m.L hm.len hm.text hE
theorem Mg.bytes_eq {m : Mg} (hm : m.Sm) (hc : m.check = 0) : m.bytes = rframe m.kd.toNat m.inside := by
  have k := checkOk hc
  have h := Mg.inside_size hm hc
  unfold Mg.bytes
  rw [if_pos hc, frame_eq _ _ (by have := k.kd; omega) (by omega)]
theorem bytes_mg {a : Option Addr} {q : Nat} (m : Mg) (hm : m.Sm) (w : World) (h : ORow 159 w m.L a q) (hn : 0 ≤ m.n) :
    Calls Try.prog 43 #[.agg #[.int .i64 m.kd, .int .i64 m.frm, .int .i64 m.tt, .int .i64 m.sub, .int .u64 m.c, .int .i64 m.n, .int .i64 m.slot, .int .i64 m.time, .bool m.ok, .string m.text, .slice a m.L.length q]] w fun e w' => e = .returned (.string m.bytes) ∧ Gr w w' := by
  obtain ⟨b, h⟩ := h
  have := bytes_any m.kd m.frm m.tt m.sub m.c.toNat m.n.toNat m.slot m.time m.ok m.text m.L w h (by have := hm.len; omega) (fun y hy => (hm.ent y hy).2.1)
  rw [show ((m.c.toNat : Nat) : Int) = m.c by have := hm.c; omega, show ((m.n.toNat : Nat) : Int) = m.n by omega] at this
  exact this
theorem bytesX_mg {a : Option Addr} {q : Nat} (m : Mg) (hm : m.Sm) (w : World) (h : ORow 159 w m.L a q) :
    Calls Try.prog 43 #[.agg #[.int .i64 m.kd, .int .i64 m.frm, .int .i64 m.tt, .int .i64 m.sub, .int .u64 m.c, .int .i64 m.n, .int .i64 m.slot, .int .i64 m.time, .bool m.ok, .string m.text, .slice a m.L.length q]] w fun e w' => e = .returned (.string m.bytes) ∧ Gr w w' := by
  by_cases hn : 0 ≤ m.n
  · exact bytes_mg m hm w h hn
  · have hc : m.check ≠ 0 := fun hc => by have := (checkOk hc).n; omega
    have HV : m.bytes = ⟨#[]⟩ := by unfold Mg.bytes; rw [if_neg hc]
    have HC := Lib.hid fun w9 (hg : Gr w w9) => check_mg m hm w9 (h.gr hg)
    rw [HV]
    have HA := Lib.hid ((Gr.refl w).alloc (.cells #[.int .i64 m.kd, .int .i64 m.frm, .int .i64 m.tt, .int .i64 m.sub, .int .u64 m.c, .int .i64 m.n, .int .i64 m.slot, .int .i64 m.time, .bool m.ok, .string m.text, .slice a m.L.length q] 69))
    have HO := Lib.hid ((Gr.refl (w.alloc (.cells #[.int .i64 m.kd, .int .i64 m.frm, .int .i64 m.tt, .int .i64 m.sub, .int .u64 m.c, .int .i64 m.n, .int .i64 m.slot, .int .i64 m.time, .bool m.ok, .string m.text, .slice a m.L.length q] 69))).own)
    have t0 : (m.check != 0) = true := by simp [hc]
    clear h hm hn hc HV
    generalize m.check = K at *
    go_enter Try.func43, Try.ntmps43
    have k0 := HO.out.1 0 _ rfl
    have k1 := HO.out.1 1 _ rfl
    have k2 := HO.out.1 2 _ rfl
    have k3 := HO.out.1 3 _ rfl
    have k4 := HO.out.1 4 _ rfl
    have k5 := HO.out.1 5 _ rfl
    have k6 := HO.out.1 6 _ rfl
    have k7 := HO.out.1 7 _ rfl
    have k8 := HO.out.1 8 _ rfl
    have k9 := HO.out.1 9 _ rfl
    have k10 := HO.out.1 10 _ rfl
    go_wp2_with fail
    refine (HC.out _ (HA.out)).mono ?_
    rintro e w1 ⟨rfl, hg1⟩
    have HG := Lib.hid (HA.out.trans hg1)
    clear hg1
    go_wp2
    go_ret
    exact ⟨rfl, HG.out⟩
theorem refBytes_mg {a : Option Addr} {q : Nat} (m : Mg) (hm : m.Sm) (hc : m.check = 0) (w : World) (h : ORow 164 w m.L a q) :
    Calls Try.prog 44 #[.agg #[.int .i64 m.kd, .int .i64 m.frm, .int .i64 m.tt, .int .i64 m.sub, .int .u64 m.c, .int .i64 m.n, .int .i64 m.slot, .int .i64 m.time, .bool m.ok, .string m.text, .slice a m.L.length q]] w fun e w' => e = .returned (.string m.bytes) ∧ Gr w w' := by
  obtain ⟨b, h⟩ := h
  obtain ⟨k, hE, _⟩ := Mg.ok_of hm hc
  have := refBytes_any m.kd.toNat m.frm m.tt m.sub m.c.toNat m.n.toNat m.slot m.time m.ok m.text m.L w h hm.len (by have := k.kd; omega) hm.w0 hm.w1 hm.w2 hm.w3 hm.w4 (by have := hm.c; omega) (by have := k.n; omega) hm.text hE
  rw [show ((m.c.toNat : Nat) : Int) = m.c by have := hm.c; omega, show ((m.n.toNat : Nat) : Int) = m.n by have := k.n; omega, show ((m.kd.toNat : Nat) : Int) = m.kd by have := k.kd; omega] at this
  rw [Mg.bytes_eq hm hc]
  exact this
end Go.Proofs.Ytihhfdkcggnjpaa
