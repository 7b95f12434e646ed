import Derived.Test.YtfcfbecfamemlaaL12l
import Derived.WalkKit
import Derived.ProofKit
import Derived.LoopTactic
import Derived.Outline
import Derived.WalkSpells
import Derived.WalkLawsBesides
import Derived.Lib.Hide
import Derived.Deep.LoopGhost
import Derived.Deep.QuietTactic
import Derived.BigQuiet
import Derived.ShutString
namespace Go.Proofs.Ytfcfbecfamemlaa
open Go.ChangeShapes Go.WideShapes Go.ChangeAt Go.RowKit
open Dk Enc
set_option linter.unusedVariables false
set_option linter.unusedSimpArgs false
theorem and_par (k : Nat) (h : k < 16) : bits .and .i64 (k : Int) 1 = ((k % 2 : Nat) : Int) := by
  have : ∀ k : Fin 16, bits .and .i64 ((k.val : Nat) : Int) 1 = ((k.val % 2 : Nat) : Int) := by decide +kernel
  exact this ⟨k, h⟩
/-- Two settled cells on one disk. -/
structure Cal2 (B r v0 : Nat) (t0 : ByteArray) (v1 : Nat) (t1 : ByteArray) (Q : D) : Prop where
  bd : Bd B Q.fs
  room : Q.room = r
  a : Q.fs 0 = flat (hv v0 t0)
  b : Q.fs 1 = flat (hv v0 t0)
  c : Q.fs 2 = flat (hv v1 t1)
  e : Q.fs 3 = flat (hv v1 t1)
  z0 : v0 = 0 → t0 = ⟨#[]⟩
  z1 : v1 = 0 → t1 = ⟨#[]⟩
theorem cal2_new (B r : Nat) : Cal2 B r 0 ⟨#[]⟩ 0 ⟨#[]⟩ (new r) := ⟨bd_new r B, rfl, rfl, rfl, rfl, rfl, fun _ => rfl, fun _ => rfl⟩
theorem Cal2.fails {B r v0 v1 : Nat} {t0 t1 : ByteArray} {Q : D} (h : Cal2 B r v0 t0 v1 t1 Q) (n : Int) : Cal2 B r v0 t0 v1 t1 (setFail Q n) := ⟨h.bd, h.room, h.a, h.b, h.c, h.e, h.z0, h.z1⟩
theorem Cal2.openA {B r v0 v1 : Nat} {t0 t1 : ByteArray} {Q : D} (h : Cal2 B r v0 t0 v1 t1 Q) (hok : Q.Ok) (hr : 5 * B ≤ r) (hf : Q.fail = 0) (hv : v0 ≤ 1000000) (ht : t0.size ≤ 600000) : ∃ Q', openM Q 0 1 = (Q', 0, v0, t0) ∧ Q'.fail = 0 ∧ Cal2 B r v0 t0 v1 t1 Q' := by
  obtain ⟨Q', e, _, h2, h3, h4, h7, h5, h6⟩ := open_settled hok h.bd (by rw [h.room]; exact hr) hf (f := 0) (g := 1) rfl (by decide) hv ht h.z0 h.a h.b
  exact ⟨Q', e, h3, h4, h2.trans h.room, h5, h6, (h7 2 (by decide) (by decide)).trans h.c, (h7 3 (by decide) (by decide)).trans h.e, h.z0, h.z1⟩
theorem Cal2.openB {B r v0 v1 : Nat} {t0 t1 : ByteArray} {Q : D} (h : Cal2 B r v0 t0 v1 t1 Q) (hok : Q.Ok) (hr : 5 * B ≤ r) (hf : Q.fail = 0) (hv : v1 ≤ 1000000) (ht : t1.size ≤ 600000) : ∃ Q', openM Q 2 3 = (Q', 0, v1, t1) ∧ Q'.fail = 0 ∧ Cal2 B r v0 t0 v1 t1 Q' := by
  obtain ⟨Q', e, _, h2, h3, h4, h7, h5, h6⟩ := open_settled hok h.bd (by rw [h.room]; exact hr) hf (f := 2) (g := 3) rfl (by decide) hv ht h.z1 h.c h.e
  exact ⟨Q', e, h3, h4, h2.trans h.room, (h7 0 (by decide) (by decide)).trans h.a, (h7 1 (by decide) (by decide)).trans h.b, h5, h6, h.z0, h.z1⟩
/-- What a crash leaves of two cells. -/
structure Lf (B r v0 : Nat) (t0 u0 : ByteArray) (v1 : Nat) (t1 u1 : ByteArray) (Q : D) : Prop where
  bd : Bd B Q.fs
  room : Q.room = r
  fail : Q.fail = 0
  l0 : Left Q.fs 0 1 (hv v0 t0) (spell (v0 + 1) u0)
  l1 : Left Q.fs 2 3 (hv v1 t1) (spell (v1 + 1) u1)
  z0 : v0 = 0 → t0 = ⟨#[]⟩
  z1 : v1 = 0 → t1 = ⟨#[]⟩
theorem Cal2.crashes {B r v0 v1 : Nat} {t0 t1 : ByteArray} {Q : D} (h : Cal2 B r v0 t0 v1 t1 Q) (CL : List Int) : Lf B r v0 t0 t0 v1 t1 t1 (crash Q CL) :=
  ⟨crash_bd CL h.bd, h.room, rfl, crash_mid CL (by decide) (by decide) (.zero h.a h.b), crash_mid CL (by decide) (by decide) (.zero h.c h.e), h.z0, h.z1⟩
theorem Cal2.writeA {B r v0 v1 : Nat} {t0 t1 u : ByteArray} {Q : D} (h : Cal2 B r v0 t0 v1 t1 Q) (hok : Q.Ok) (hr : 5 * B ≤ r) (hu : u.size + 26 ≤ B) :
    ∃ Q', (wr Q 0 (spell (v0 + 1) u) = (Q', 0) ∧ Cal2 B r (v0 + 1) u v1 t1 Q') ∨ (wr Q 0 (spell (v0 + 1) u) = (Q', 8) ∧ ∀ CL, Lf B r v0 t0 u v1 t1 t1 (crash Q' CL)) := by
  obtain ⟨Q', _, h2, h3, ho, hw⟩ := wr_ways hok h.bd (by rw [h.room]; exact hr) 0 1 rfl (by decide) (hv v0 t0) (spell (v0 + 1) u) (Nat.le_trans (spell_le _ _) hu) h.a h.b
  have hc := (ho 2 (by decide) (by decide)).trans h.c
  have he := (ho 3 (by decide) (by decide)).trans h.e
  rcases hw with ⟨e, _, hm⟩ | ⟨e, ha, hb, _⟩
  · exact ⟨Q', .inr ⟨e, fun CL => ⟨crash_bd CL h3, h2.trans h.room, rfl, crash_mid CL (by decide) (by decide) hm, crash_mid CL (by decide) (by decide) (.zero hc he), h.z0, h.z1⟩⟩⟩
  · exact ⟨Q', .inl ⟨e, h3, h2.trans h.room, by rw [hv_pos (by omega)]; exact ha, by rw [hv_pos (by omega)]; exact hb, hc, he, fun e0 => by omega, h.z1⟩⟩
theorem Cal2.writeB {B r v0 v1 : Nat} {t0 t1 u : ByteArray} {Q : D} (h : Cal2 B r v0 t0 v1 t1 Q) (hok : Q.Ok) (hr : 5 * B ≤ r) (hu : u.size + 26 ≤ B) :
    ∃ Q', (wr Q 2 (spell (v1 + 1) u) = (Q', 0) ∧ Cal2 B r v0 t0 (v1 + 1) u Q') ∨ (wr Q 2 (spell (v1 + 1) u) = (Q', 8) ∧ ∀ CL, Lf B r v0 t0 t0 v1 t1 u (crash Q' CL)) := by
  obtain ⟨Q', _, h2, h3, ho, hw⟩ := wr_ways hok h.bd (by rw [h.room]; exact hr) 2 3 rfl (by decide) (hv v1 t1) (spell (v1 + 1) u) (Nat.le_trans (spell_le _ _) hu) h.c h.e
  have ha := (ho 0 (by decide) (by decide)).trans h.a
  have hb := (ho 1 (by decide) (by decide)).trans h.b
  rcases hw with ⟨e, _, hm⟩ | ⟨e, hc, he, _⟩
  · exact ⟨Q', .inr ⟨e, fun CL => ⟨crash_bd CL h3, h2.trans h.room, rfl, crash_mid CL (by decide) (by decide) (.zero ha hb), crash_mid CL (by decide) (by decide) hm, h.z0, h.z1⟩⟩⟩
  · exact ⟨Q', .inl ⟨e, h3, h2.trans h.room, ha, hb, by rw [hv_pos (by omega)]; exact hc, by rw [hv_pos (by omega)]; exact he, h.z0, fun e0 => by omega⟩⟩
theorem Left.same {fs gs : Nat → F} {f g : Nat} {old s : ByteArray} (h : Left fs f g old s) (e1 : gs f = fs f) (e2 : gs g = fs g) : Left gs f g old s := by
  obtain ⟨a, b, ha, hb, hw⟩ := h
  exact ⟨a, b, e1.trans ha, e2.trans hb, hw⟩
theorem Lf.opens {B r v0 v1 : Nat} {t0 u0 t1 u1 : ByteArray} {Q : D} (h : Lf B r v0 t0 u0 v1 t1 u1 Q) (hok : Q.Ok) (hr : 5 * B ≤ r) (hv0 : v0 ≤ 1000000) (hv1 : v1 ≤ 1000000) (ht0 : t0.size ≤ 500000) (hu0 : u0.size ≤ 500000) (ht1 : t1.size ≤ 500000) (hu1 : u1.size ≤ 500000) :
    ∃ Q' V T Q'' V2 T2, openM Q 0 1 = (Q', 0, V, T) ∧ (T = t0 ∨ T = u0) ∧ Bd B Q'.fs ∧ openM Q' 2 3 = (Q'', 0, V2, T2) ∧ (T2 = t1 ∨ T2 = u1) := by
  obtain ⟨Q', V, T, e, hw, hok', hr', hf', hb', ho, _, _⟩ := open_left hok h.bd (by rw [h.room]; exact hr) h.fail (f := 0) (g := 1) rfl (by decide) hv0 ht0 hu0 h.z0 h.l0
  obtain ⟨Q'', V2, T2, e2, hw2, _⟩ := open_left hok' hb' (by rw [hr', h.room]; exact hr) hf' (f := 2) (g := 3) rfl (by decide) hv1 ht1 hu1 h.z1 (h.l1.same (ho 2 (by decide) (by decide)) (ho 3 (by decide) (by decide)))
  exact ⟨Q', V, T, Q'', V2, T2, e, by rcases hw with ⟨_, h⟩ | ⟨_, h⟩ <;> simp [h], hb', e2, by rcases hw2 with ⟨_, h⟩ | ⟨_, h⟩ <;> simp [h]⟩
/-- The rows of the statement: the cells, the last texts, the next ones. -/
structure Rows2 (w : World) (cb lb nb c0 c1 : Nat) (t0 t1 u0 u1 : ByteArray) : Prop where
  c0 : w.cell? ⟨cb, 0, none⟩ = some (.pointer (some ⟨c0, 0, none⟩))
  c1 : w.cell? ⟨cb, 1, none⟩ = some (.pointer (some ⟨c1, 0, none⟩))
  l0 : w.cell? ⟨lb, 0, none⟩ = some (.string t0)
  l1 : w.cell? ⟨lb, 1, none⟩ = some (.string t1)
  n0 : w.cell? ⟨nb, 0, none⟩ = some (.string u0)
  n1 : w.cell? ⟨nb, 1, none⟩ = some (.string u1)
  fl0 : w.frozen? ⟨lb, 0, none⟩ = false
  fl1 : w.frozen? ⟨lb, 1, none⟩ = false
  fn0 : w.frozen? ⟨nb, 0, none⟩ = false
  fn1 : w.frozen? ⟨nb, 1, none⟩ = false
theorem Duo.frozen {p q : Nat} {w w' : World} (h : Duo p q w w') {b o : Nat} (hp : b ≠ p) (hq : b ≠ q) (hlt : b < w.heap.size) : w'.frozen? ⟨b, o, none⟩ = w.frozen? ⟨b, o, none⟩ :=
  World.frozen?_of_block (w := w) (a := ⟨b, o, none⟩) (h.block b hlt hp hq)
theorem Rows2.duo {w w' : World} {cb lb nb c0 c1 p q : Nat} {t0 t1 u0 u1 : ByteArray} (h : Rows2 w cb lb nb c0 c1 t0 t1 u0 u1) (hd : Duo p q w w') (h1 : cb ≠ p ∧ cb ≠ q) (h2 : lb ≠ p ∧ lb ≠ q) (h3 : nb ≠ p ∧ nb ≠ q) : Rows2 w' cb lb nb c0 c1 t0 t1 u0 u1 :=
  ⟨hd.cell h1.1 h1.2 h.c0, hd.cell h1.1 h1.2 h.c1, hd.cell h2.1 h2.2 h.l0, hd.cell h2.1 h2.2 h.l1, hd.cell h3.1 h3.2 h.n0, hd.cell h3.1 h3.2 h.n1,
    (hd.frozen h2.1 h2.2 (cell_lt h.l0)).trans h.fl0, (hd.frozen h2.1 h2.2 (cell_lt h.l0)).trans h.fl1, (hd.frozen h3.1 h3.2 (cell_lt h.n0)).trans h.fn0, (hd.frozen h3.1 h3.2 (cell_lt h.n0)).trans h.fn1⟩
theorem Rows2.next0 {w : World} {cb lb nb c0 c1 : Nat} {t0 t1 u0 u1 : ByteArray} (h : Rows2 w cb lb nb c0 c1 t0 t1 u0 u1) (s : ByteArray) (h1 : cb ≠ nb) (h2 : lb ≠ nb) : Rows2 (w.setCell ⟨nb, 0, none⟩ (.string s)) cb lb nb c0 c1 t0 t1 s u1 :=
  ⟨(World.cell?_setCell_other _ _ _ _ (by simp [h1])).trans h.c0, (World.cell?_setCell_other _ _ _ _ (by simp [h1])).trans h.c1, (World.cell?_setCell_other _ _ _ _ (by simp [h2])).trans h.l0, (World.cell?_setCell_other _ _ _ _ (by simp [h2])).trans h.l1,
    World.cell?_setCell_same' _ _ _ (by rw [h.n0]; rfl), (World.cell?_setCell_other _ _ _ _ (by simp)).trans h.n1, by rw [World.frozen?_setCell]; exact h.fl0, by rw [World.frozen?_setCell]; exact h.fl1, by rw [World.frozen?_setCell]; exact h.fn0, by rw [World.frozen?_setCell]; exact h.fn1⟩
theorem Rows2.next1 {w : World} {cb lb nb c0 c1 : Nat} {t0 t1 u0 u1 : ByteArray} (h : Rows2 w cb lb nb c0 c1 t0 t1 u0 u1) (s : ByteArray) (h1 : cb ≠ nb) (h2 : lb ≠ nb) : Rows2 (w.setCell ⟨nb, 1, none⟩ (.string s)) cb lb nb c0 c1 t0 t1 u0 s :=
  ⟨(World.cell?_setCell_other _ _ _ _ (by simp [h1])).trans h.c0, (World.cell?_setCell_other _ _ _ _ (by simp [h1])).trans h.c1, (World.cell?_setCell_other _ _ _ _ (by simp [h2])).trans h.l0, (World.cell?_setCell_other _ _ _ _ (by simp [h2])).trans h.l1,
    (World.cell?_setCell_other _ _ _ _ (by simp)).trans h.n0, World.cell?_setCell_same' _ _ _ (by rw [h.n1]; rfl), by rw [World.frozen?_setCell]; exact h.fl0, by rw [World.frozen?_setCell]; exact h.fl1, by rw [World.frozen?_setCell]; exact h.fn0, by rw [World.frozen?_setCell]; exact h.fn1⟩
theorem Rows2.last0 {w : World} {cb lb nb c0 c1 : Nat} {t0 t1 u0 u1 : ByteArray} (h : Rows2 w cb lb nb c0 c1 t0 t1 u0 u1) (s : ByteArray) (h1 : cb ≠ lb) (h2 : nb ≠ lb) : Rows2 (w.setCell ⟨lb, 0, none⟩ (.string s)) cb lb nb c0 c1 s t1 u0 u1 :=
  ⟨(World.cell?_setCell_other _ _ _ _ (by simp [h1])).trans h.c0, (World.cell?_setCell_other _ _ _ _ (by simp [h1])).trans h.c1, World.cell?_setCell_same' _ _ _ (by rw [h.l0]; rfl), (World.cell?_setCell_other _ _ _ _ (by simp)).trans h.l1,
    (World.cell?_setCell_other _ _ _ _ (by simp [h2])).trans h.n0, (World.cell?_setCell_other _ _ _ _ (by simp [h2])).trans h.n1, by rw [World.frozen?_setCell]; exact h.fl0, by rw [World.frozen?_setCell]; exact h.fl1, by rw [World.frozen?_setCell]; exact h.fn0, by rw [World.frozen?_setCell]; exact h.fn1⟩
theorem Rows2.last1 {w : World} {cb lb nb c0 c1 : Nat} {t0 t1 u0 u1 : ByteArray} (h : Rows2 w cb lb nb c0 c1 t0 t1 u0 u1) (s : ByteArray) (h1 : cb ≠ lb) (h2 : nb ≠ lb) : Rows2 (w.setCell ⟨lb, 1, none⟩ (.string s)) cb lb nb c0 c1 t0 s u0 u1 :=
  ⟨(World.cell?_setCell_other _ _ _ _ (by simp [h1])).trans h.c0, (World.cell?_setCell_other _ _ _ _ (by simp [h1])).trans h.c1, (World.cell?_setCell_other _ _ _ _ (by simp)).trans h.l0, World.cell?_setCell_same' _ _ _ (by rw [h.l1]; rfl),
    (World.cell?_setCell_other _ _ _ _ (by simp [h2])).trans h.n0, (World.cell?_setCell_other _ _ _ _ (by simp [h2])).trans h.n1, by rw [World.frozen?_setCell]; exact h.fl0, by rw [World.frozen?_setCell]; exact h.fl1, by rw [World.frozen?_setCell]; exact h.fn0, by rw [World.frozen?_setCell]; exact h.fn1⟩
end Go.Proofs.Ytfcfbecfamemlaa
