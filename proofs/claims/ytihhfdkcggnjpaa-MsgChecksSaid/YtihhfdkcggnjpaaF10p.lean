import Derived.Test.YtihhfdkcggnjpaaF10n
import Derived.WalkKit
import Derived.ProofKit
import Derived.LoopTactic
import Derived.Outline
import Derived.WalkSpells
import Derived.WalkLawsBesides
import Derived.Lib.Hide
import Derived.Deep.LoopGhost
import Derived.Deep.QuietTactic
import Derived.BigQuiet
import Derived.ShutString
import Derived.IntWalk
namespace Go.Proofs.Ytihhfdkcggnjpaa
open Go.ChangeShapes Go.WideShapes Go.ChangeAt Go.RowKit
open Enc Bal
set_option linter.unusedVariables false
set_option linter.unusedSimpArgs false
/-- The bytes of a message. -/
def Mg.bytes (m : Mg) : ByteArray := if m.check = 0 then frameB m.kd.toNat m.inside else ⟨#[]⟩
theorem Mg.inside_size {m : Mg} (hm : m.Sm) (hc : m.check = 0) : m.inside.size ≤ 200000 := by
  obtain ⟨k, hE, _⟩ := Mg.ok_of hm hc
  exact inL_size m.frm m.tt m.sub m.c.toNat m.n.toNat m.slot m.time m.ok m.text m.L hm.len hm.text hE
theorem Mg.bytes_eq {m : Mg} (hm : m.Sm) (hc : m.check = 0) : m.bytes = rframe m.kd.toNat m.inside := by
  have k := checkOk hc
  have h := Mg.inside_size hm hc
  unfold Mg.bytes
  rw [if_pos hc, frame_eq _ _ (by have := k.kd; omega) (by omega)]
theorem bytes_mg {a : Option Addr} {q : Nat} (m : Mg) (hm : m.Sm) (w : World) (h : ORow 159 w m.L a q) (hn : 0 ≤ m.n) :
    Calls Try.prog 43 #[.agg #[.int .i64 m.kd, .int .i64 m.frm, .int .i64 m.tt, .int .i64 m.sub, .int .u64 m.c, .int .i64 m.n, .int .i64 m.slot, .int .i64 m.time, .bool m.ok, .string m.text, .slice a m.L.length q]] w fun e w' => e = .returned (.string m.bytes) ∧ Gr w w' := by
  obtain ⟨b, h⟩ := h
  have := bytes_any m.kd m.frm m.tt m.sub m.c.toNat m.n.toNat m.slot m.time m.ok m.text m.L w h (by have := hm.len; omega) (fun y hy => (hm.ent y hy).2.1)
  rw [show ((m.c.toNat : Nat) : Int) = m.c by have := hm.c; omega, show ((m.n.toNat : Nat) : Int) = m.n by omega] at this
  exact this
theorem bytesX_mg {a : Option Addr} {q : Nat} (m : Mg) (hm : m.Sm) (w : World) (h : ORow 159 w m.L a q) :
    Calls Try.prog 43 #[.agg #[.int .i64 m.kd, .int .i64 m.frm, .int .i64 m.tt, .int .i64 m.sub, .int .u64 m.c, .int .i64 m.n, .int .i64 m.slot, .int .i64 m.time, .bool m.ok, .string m.text, .slice a m.L.length q]] w fun e w' => e = .returned (.string m.bytes) ∧ Gr w w' := by
  by_cases hn : 0 ≤ m.n
  · exact bytes_mg m hm w h hn
  · have hc : m.check ≠ 0 := fun hc => by have := (checkOk hc).n; omega
    have HV : m.bytes = ⟨#[]⟩ := by unfold Mg.bytes; rw [if_neg hc]
    have HC := Lib.hid fun w9 (hg : Gr w w9) => check_mg m hm w9 (h.gr hg)
    rw [HV]
    have HA := Lib.hid ((Gr.refl w).alloc (.cells #[.int .i64 m.kd, .int .i64 m.frm, .int .i64 m.tt, .int .i64 m.sub, .int .u64 m.c, .int .i64 m.n, .int .i64 m.slot, .int .i64 m.time, .bool m.ok, .string m.text, .slice a m.L.length q] 69))
    have HO := Lib.hid ((Gr.refl (w.alloc (.cells #[.int .i64 m.kd, .int .i64 m.frm, .int .i64 m.tt, .int .i64 m.sub, .int .u64 m.c, .int .i64 m.n, .int .i64 m.slot, .int .i64 m.time, .bool m.ok, .string m.text, .slice a m.L.length q] 69))).own)
    have t0 : (m.check != 0) = true := by simp [hc]
    clear h hm hn hc HV
    generalize m.check = K at *
    go_enter Try.func43, Try.ntmps43
    have k0 := HO.out.1 0 _ rfl
    have k1 := HO.out.1 1 _ rfl
    have k2 := HO.out.1 2 _ rfl
    have k3 := HO.out.1 3 _ rfl
    have k4 := HO.out.1 4 _ rfl
    have k5 := HO.out.1 5 _ rfl
    have k6 := HO.out.1 6 _ rfl
    have k7 := HO.out.1 7 _ rfl
    have k8 := HO.out.1 8 _ rfl
    have k9 := HO.out.1 9 _ rfl
    have k10 := HO.out.1 10 _ rfl
    go_wp2_with fail
    refine (HC.out _ (HA.out)).mono ?_
    rintro e w1 ⟨rfl, hg1⟩
    have HG := Lib.hid (HA.out.trans hg1)
    clear hg1
    go_wp2
    go_ret
    exact ⟨rfl, HG.out⟩
theorem refBytes_mg {a : Option Addr} {q : Nat} (m : Mg) (hm : m.Sm) (hc : m.check = 0) (w : World) (h : ORow 164 w m.L a q) :
    Calls Try.prog 44 #[.agg #[.int .i64 m.kd, .int .i64 m.frm, .int .i64 m.tt, .int .i64 m.sub, .int .u64 m.c, .int .i64 m.n, .int .i64 m.slot, .int .i64 m.time, .bool m.ok, .string m.text, .slice a m.L.length q]] w fun e w' => e = .returned (.string m.bytes) ∧ Gr w w' := by
  obtain ⟨b, h⟩ := h
  obtain ⟨k, hE, _⟩ := Mg.ok_of hm hc
  have := refBytes_any m.kd.toNat m.frm m.tt m.sub m.c.toNat m.n.toNat m.slot m.time m.ok m.text m.L w h hm.len (by have := k.kd; omega) hm.w0 hm.w1 hm.w2 hm.w3 hm.w4 (by have := hm.c; omega) (by have := k.n; omega) hm.text hE
  rw [show ((m.c.toNat : Nat) : Int) = m.c by have := hm.c; omega, show ((m.n.toNat : Nat) : Int) = m.n by have := k.n; omega, show ((m.kd.toNat : Nat) : Int) = m.kd by have := k.kd; omega] at this
  rw [Mg.bytes_eq hm hc]
  exact this
end Go.Proofs.Ytihhfdkcggnjpaa
