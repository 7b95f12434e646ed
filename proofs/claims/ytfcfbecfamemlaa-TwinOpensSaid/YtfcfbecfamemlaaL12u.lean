import Derived.Test.YtfcfbecfamemlaaL12t
import Derived.WalkKit
import Derived.ProofKit
import Derived.LoopTactic
import Derived.Outline
import Derived.WalkSpells
import Derived.WalkLawsBesides
import Derived.Lib.Hide
import Derived.Deep.LoopGhost
import Derived.Deep.QuietTactic
import Derived.BigQuiet
import Derived.ShutString
namespace Go.Proofs.Ytfcfbecfamemlaa
open Go.ChangeShapes Go.WideShapes Go.ChangeAt Go.RowKit
open Dk Enc
set_option linter.unusedVariables false
set_option linter.unusedSimpArgs false
theorem act_fits {B : Nat} {Q : D} (h : Bd B Q.fs) (hr : 5 * B ≤ Q.room) (hf : Q.fail = 0) (k : Nat) (hk : k < 4) (g : F → F) (hs : (g (Q.fs k)).size ≤ B) :
    act Q k g = (⟨Q.room, upd Q.fs k (g (Q.fs k)), 0⟩, 0) := by
  have hk' : (0 : Int) ≤ (k : Int) ∧ (k : Int) < 4 := by omega
  unfold act
  rw [if_pos hk', if_neg (by omega), show ((k : Int)).toNat = k from rfl]
  unfold repl
  have hfull : full (tick Q) k (g (Q.fs k)) = false := Bd.fits (Q := tick Q) h hr k hs
  rw [if_neg (by rw [hfull]; simp)]
  show ((⟨Q.room, upd Q.fs k (g (Q.fs k)), Q.fail - 1⟩ : D), 0) = _
  rw [hf]
theorem twin_start (a b : ByteArray) (ha : a.size ≤ 200) (hb : b.size ≤ 200) (f g : Nat) (hfg : f + 1 = g) (hg : g < 4) :
    ∃ Q1 Q2 Q3 Q4, act (new 5000) f (gPut a) = (Q1, 0) ∧ act Q1 g (gPut b) = (Q2, 0) ∧ act Q2 f gKeep = (Q3, 0) ∧ act Q3 g gKeep = (Q4, 0) ∧ Q4.Ok ∧ Bd 1000 Q4.fs ∧ Q4.room = 5000 ∧ Q4.fail = 0 ∧ Q4.fs f = flat a ∧ Q4.fs g = flat b := by
  have hgf : g ≠ f := by omega
  have z : (⟨#[]⟩ : ByteArray).size = 0 := rfl
  have s0 : ∀ x : ByteArray, x.size ≤ 200 → F.size ⟨x, ⟨#[]⟩, true⟩ ≤ 1000 := fun x hx => by unfold F.size; simp only; omega
  have sf : ∀ x : ByteArray, x.size ≤ 200 → (flat x).size ≤ 1000 := fun x hx => by rw [flat_size]; omega
  have b0 := bd_new 5000 1000
  have e1 := act_fits b0 (Nat.le_refl _) rfl f (by omega) (gPut a) (s0 a ha)
  have b1 := b0.upd f (f := ⟨a, ⟨#[]⟩, true⟩) (s0 a ha)
  have g1 : upd (new 5000).fs f ⟨a, ⟨#[]⟩, true⟩ g = zero := upd_other _ _ _ _ hgf
  have e2 := act_fits (Q := ⟨5000, upd (new 5000).fs f ⟨a, ⟨#[]⟩, true⟩, 0⟩) b1 (Nat.le_refl _) rfl g hg (gPut b) (by show (gPut b (upd (new 5000).fs f ⟨a, ⟨#[]⟩, true⟩ g)).size ≤ 1000; rw [g1]; exact s0 b hb)
  have e2' : act ⟨5000, upd (new 5000).fs f ⟨a, ⟨#[]⟩, true⟩, 0⟩ g (gPut b) = (⟨5000, upd (upd (new 5000).fs f ⟨a, ⟨#[]⟩, true⟩) g ⟨b, ⟨#[]⟩, true⟩, 0⟩, 0) := by
    rw [e2]
    show ((⟨5000, upd (upd (new 5000).fs f ⟨a, ⟨#[]⟩, true⟩) g (gPut b (upd (new 5000).fs f ⟨a, ⟨#[]⟩, true⟩ g)), 0⟩ : D), 0) = _
    rw [g1]; rfl
  have b2 := b1.upd g (f := ⟨b, ⟨#[]⟩, true⟩) (s0 b hb)
  have f2 : upd (upd (new 5000).fs f ⟨a, ⟨#[]⟩, true⟩) g ⟨b, ⟨#[]⟩, true⟩ f = ⟨a, ⟨#[]⟩, true⟩ := (upd_other _ _ _ _ hgf.symm).trans (upd_same _ _ _)
  have g2 : upd (upd (new 5000).fs f ⟨a, ⟨#[]⟩, true⟩) g ⟨b, ⟨#[]⟩, true⟩ g = ⟨b, ⟨#[]⟩, true⟩ := upd_same _ _ _
  generalize upd (upd (new 5000).fs f ⟨a, ⟨#[]⟩, true⟩) g ⟨b, ⟨#[]⟩, true⟩ = fs2 at *
  have e3 := act_fits (Q := ⟨5000, fs2, 0⟩) b2 (Nat.le_refl _) rfl f (by omega) gKeep (by show (gKeep (fs2 f)).size ≤ 1000; rw [f2]; exact sf a ha)
  have e3' : act ⟨5000, fs2, 0⟩ f gKeep = (⟨5000, upd fs2 f (flat a), 0⟩, 0) := by
    rw [e3]
    show ((⟨5000, upd fs2 f (gKeep (fs2 f)), 0⟩ : D), 0) = _
    rw [f2]; rfl
  have b3 := b2.upd f (f := flat a) (sf a ha)
  have g3 : upd fs2 f (flat a) g = ⟨b, ⟨#[]⟩, true⟩ := (upd_other _ _ _ _ hgf).trans g2
  have f3 : upd fs2 f (flat a) f = flat a := upd_same _ _ _
  generalize upd fs2 f (flat a) = fs3 at *
  have e4 := act_fits (Q := ⟨5000, fs3, 0⟩) b3 (Nat.le_refl _) rfl g hg gKeep (by show (gKeep (fs3 g)).size ≤ 1000; rw [g3]; exact sf b hb)
  have e4' : act ⟨5000, fs3, 0⟩ g gKeep = (⟨5000, upd fs3 g (flat b), 0⟩, 0) := by
    rw [e4]
    show ((⟨5000, upd fs3 g (gKeep (fs3 g)), 0⟩ : D), 0) = _
    rw [g3]; rfl
  have o0 := new_ok 5000 (by decide)
  have o1 := act_ok o0 (f : Int) (gPut a) (fun x _ => gPut_ok a x)
  rw [e1] at o1
  have o2 := act_ok o1 (g : Int) (gPut b) (fun x _ => gPut_ok b x)
  have o2' := o2
  rw [show (⟨(new 5000).room, upd (new 5000).fs f (gPut a ((new 5000).fs f)), 0⟩ : D) = ⟨5000, upd (new 5000).fs f ⟨a, ⟨#[]⟩, true⟩, 0⟩ from rfl, e2'] at o2'
  have o3 := act_ok o2' (f : Int) gKeep (fun x _ => gKeep_ok x)
  rw [e3'] at o3
  have o4 := act_ok o3 (g : Int) gKeep (fun x _ => gKeep_ok x)
  rw [e4'] at o4
  refine ⟨_, _, _, _, e1, e2', e3', e4', o4, b3.upd g (f := flat b) (sf b hb), rfl, rfl, ?_, upd_same _ _ _⟩
  exact (upd_other _ _ _ _ hgf.symm).trans f3
theorem act_is {b q : Nat} {d Q : D} {i : Int} {g : F → F} {w w' : World} {e : Ending} (h : ActIs b d i g w e w') (ha : act d i g = (Q, q)) : e = .returned (.int .i64 (q : Nat)) ∧ DkIs w' b Q ∧ Sole b w w' := by
  unfold ActIs at h; rwa [ha] at h
theorem best_lt {a b T : ByteArray} {V v0 v1 : Nat} {t0 t1 : ByteArray} {b0 b1 : Bool} (ha : a.size ≤ 200) (hb : b.size ≤ 200) (h0 : parseB a = (v0, t0, b0)) (h1 : parseB b = (v1, t1, b1)) (h : best v0 t0 v1 t1 = (V, T)) : V < 18446744073709551616 ∧ T.size ≤ 200 := by
  have p0 := parse_lt a
  have p1 := parse_lt b
  rw [h0] at p0
  rw [h1] at p1
  simp only at p0 p1
  have z : (⟨#[]⟩ : ByteArray).size = 0 := rfl
  unfold best at h
  split at h
  · simp only [Prod.mk.injEq] at h; obtain ⟨rfl, rfl⟩ := h; omega
  · split at h
    · simp only [Prod.mk.injEq] at h; obtain ⟨rfl, rfl⟩ := h; omega
    · simp only [Prod.mk.injEq] at h; obtain ⟨rfl, rfl⟩ := h; omega
end Go.Proofs.Ytfcfbecfamemlaa
