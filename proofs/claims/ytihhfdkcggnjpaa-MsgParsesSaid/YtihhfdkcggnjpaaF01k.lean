import Derived.Test.YtihhfdkcggnjpaaK1
import Derived.WalkKit
import Derived.ProofKit
import Derived.LoopTactic
import Derived.Outline
import Derived.WalkSpells
import Derived.WalkLawsBesides
import Derived.Lib.Hide
import Derived.Deep.LoopGhost
import Derived.Deep.QuietTactic
import Derived.BigQuiet
import Derived.ShutString
namespace Go.Proofs.Ytihhfdkcggnjpaa
open Go.ChangeShapes Go.WideShapes Go.ChangeAt Go.RowKit
open Enc
set_option linter.unusedVariables false
section
variable {P : Program} (w : World)
/-- A text's bytes are appended: the new slice lies in the old row or in a new block. -/
theorem wpList_append_text_lies {ops : Array Oper} {rest : List Oper} {o : Oper} {a : Act} {Q : Exit → Act → World → Prop} (hgd : o.guard = none) (sl x : Operand) (t u : TypeId)
    (ho : o.op = .call { callee := .builtin .append, args := #[sl, x], argTypes := #[t, u] })
    (base : Nat) (e : TypeId) (i : TypeInfo) (ht : P.underlying t = some (.slice e)) (hu : P.underlying u = some .string) (hi : P.info? e = some i) (hz : i.zero = some (.int .u8 0))
    (hsize : i.size = 1) (hby : i.bytes = 1)
    (v : Value) (n : Nat) (xs : List Value) (hs : a.eval sl = v) (hown : w.ownsRow base e 1 v n xs) (s : ByteArray) (hx : a.eval x = .string s)
    (h63 : n + s.size ≤ maxLen) (hbytes : n + s.size ≤ 140737488355328) (hbase : base ≤ w.heap.size)
    (h : ∀ v' w', w'.ownsRow base e 1 v' (n + s.size) (xs ++ Lib.strCells s) → w.grownBy w' v.ownBlock → (∀ g, v'.ownBlock = some g → v.ownBlock = some g ∨ w.heap.size ≤ g) → wpList P ops Q rest (a.put o.dst v') w') : wpList P ops Q (o :: rest) a w := by
  refine wpList_plain hgd fun K hK => ?_
  obtain ⟨v', w', hr, h2, h3, _⟩ := Lib.run_append_own_string (P := P) w base t u o.type e i ht hu hi hz hsize hby v n xs hown s h63 hbytes hbase
  have hat : ∀ g, v'.ownBlock = some g → v.ownBlock = some g ∨ w.heap.size ≤ g := by
    intro g hg
    have hxl : xs.length = n := by simpa using hown.1
    rcases hown.2 with ⟨rfl, rfl⟩ | ⟨k, cap, cur, rfl, hbg, hk, hnc, hcm, hcs, htake⟩
    · obtain ⟨v2, w2, hr2, k2, _, _⟩ := Lib.run_append_own_string (P := P) w w.heap.size t u o.type e i ht hu hi hz hsize hby (.slice none 0 0) 0 [] (World.ownsRow_nil _ _ _ _) s h63 hbytes (Nat.le_refl _)
      rw [hr] at hr2
      injection hr2 with e1 e2
      subst e1
      exact .inr (k2.lt g hg).1
    · by_cases hroom : n + s.size ≤ cap
      · have hcs' : cur.size = cap := by simpa using hcs
        have hr2 := Lib.run_append_room_string (P := P) w t u o.type e i ht hu hi hsize k n cap cur hk s hroom (by omega)
        rw [hr] at hr2
        injection hr2 with e1 e2
        subst e1
        exact .inl hg
      · have holds : ∀ j u, xs[j]? = some u → w.cell? ((⟨k, 0, none⟩ : Addr).add j) = some u := hown.cells (g := k) rfl
        have h63' : ((n + s.size : Nat) : Int) ≤ 9223372036854775807 := by simp only [maxLen] at h63; omega
        have hr2 := Lib.run_append_grow_string (P := P) w t u o.type e i (.int .u8 0) ht hu hi hz ⟨k, 0, none⟩ n cap xs (by rw [hsize]; simpa using hxl) holds s (by omega) h63' (by rw [hby]; exact growslice_fits (by omega) (by omega))
        rw [hr] at hr2
        injection hr2 with e1 e2
        subst e1
        simp [Value.ownBlock] at hg
        exact .inr (by omega)
  unfold Oper.wp execOp
  simp only [ho, resolve, invoke, builtin, Sem.run_bind, Sem.run_pure, Result.andThen_ok, List.map_toArray, List.map_cons, List.map_nil, hs, hx, hr]
  exact hK _ _ (h v' w' h2 h3 hat)
end
/-- As 'wr_keeps', of any slice. -/
theorem wr_keeps_any {w w0 w1 : World} {p n cap : Nat} {v u : Value} {a : Option Addr} (hc : w.cell? ⟨p, 0, none⟩ = some v) (hg : Gr w w0) (hgrow : w0.grownBy w1 v.ownBlock) (hat : ∀ g, (Value.slice a n cap).ownBlock = some g → v.ownBlock = some g ∨ w.heap.size ≤ g) (hc1 : w1.cell? ⟨p, 0, none⟩ = some u) :
    Keeps p w (w1.setCell ⟨p, 0, none⟩ (.slice a n cap)) := by
  have hs := hg.size
  refine ⟨by have := hgrow.size; simp [World.setCell]; omega, fun b hb hne hf => ⟨?_, ?_⟩⟩
  · rw [Below.heap_setCell _ _ _ _ hne, hgrow.block b (by omega) (fun e => hf v hc e.symm)]
    exact hg.below.block b hb
  · intro x hx
    rw [World.cell?_setCell_same' _ _ _ (by rw [hc1]; rfl)] at hx
    simp only [Option.some.injEq] at hx
    subst hx
    intro e
    rcases hat b e with h1 | h1
    · exact hf v hc h1
    · omega
set_option maxRecDepth 100000 in
set_option maxHeartbeats 1000000 in
theorem wS_keeps (p b off : Nat) (s : ByteArray) (l : List UInt8) (w : World) (h : WrIs w p l) (hc : w.cell? ⟨b, off, none⟩ = some (.string s)) (hl : l.length ≤ 100000000) (hs : s.size ≤ 100000000) :
    Calls Try.prog 111 #[.pointer (some ⟨p, 0, none⟩), .slice (some ⟨b, off, none⟩) 1 1] w fun e w' => e = .returned (.pointer (some ⟨p, 0, none⟩)) ∧ WrIs w' p (l ++ encS (bytesOf s)) ∧ Below p w w' ∧ Keeps p w w' := by
  obtain ⟨i0, hi, hz0, hz1, hz2⟩ := info_parts info_u8
  have H := Lib.hid h
  clear h
  go_enter Try.func111, Try.ntmps111
  go_wp2
  go_loopw [9] (fun i wr => (i = .int .i64 0 ∧ wr = w) ∨ (i = .int .i64 1 ∧ Hid (WrIs wr p (l ++ encS (bytesOf s))) ∧ Below p w wr ∧ Hid (Keeps p w wr))) (fun i _ => 1 - (intOf i).toNat)
  case atStart => exact .inl ⟨rfl, rfl⟩
  case round =>
    rcases hrel with ⟨rfl, rfl⟩ | ⟨rfl, hW, hB, hK⟩
    · go_wp2_with fail
      refine (number_any p s.size l _ H.out (by omega)).mono ?_
      rintro e w1 ⟨rfl, hW1, hB1, hK1⟩
      have hle := encU_le s.size
      have hL : (l ++ encU s.size).length ≤ 100000009 := by rw [List.length_append]; omega
      have HE := Lib.hid (show encS (bytesOf s) = encU s.size ++ bytesOf s by unfold encS; rw [show (bytesOf s).length = s.size by simp [bytesOf]])
      generalize hLL : l ++ encU s.size = L at *
      have HL := Lib.hid hLL; clear hLL hle
      obtain ⟨a0, c0, hcp, hf, hp, hown⟩ := hW1
      have Hcp := Lib.hid hcp
      have HK1 := Lib.hid hK1; clear hK1
      go_wp2_with (refine wpList_append_text_lies _ rfl (.tmp 22) (.tmp 23) 109 9 rfl (p + 1) 5 i0 Try.underlying109 Try.underlying9 hi hz0 hz1 hz2 _ _ _ rfl hown s rfl (by unfold maxLen; omega) (by omega) (by omega) ?_)
      intro v' w2 hown2 hgrow hat2
      obtain ⟨a2, c2, rfl, _⟩ := ownsRow_slice hown2
      obtain ⟨hc1, hf1, hp1, hB2⟩ := wr_grow hp Hcp.out hf hown (Gr.refl _) hgrow
      have hst : bCells L ++ Lib.strCells s = bCells (L ++ bytesOf s) := by simp [bCells, Lib.strCells, bytesOf]
      rw [hst] at hown2
      obtain ⟨hW2, hB3⟩ := wr_store hp1 hc1 hf1 (by simp [bytesOf]) hown2
      have hB4 := (hB1.trans hB2).trans hB3
      have HW2 := Lib.hid hW2
      have HK2 := Lib.hid (HK1.out.trans (wr_keeps_any Hcp.out (Gr.refl _) hgrow hat2 hc1))
      clear hgrow hown hown2 hf hcp hB1 hB2 hB3 hW2 hst hat2
      go_wp2
      go_roundw
      case rel => exact .inr ⟨rfl, (by show WrIs _ p _; rw [HE.out, ← List.append_assoc, HL.out]; exact HW2.out), hB4, HK2⟩
      case measure => simp [intOf]
    · go_wp2
      go_ret
      exact ⟨rfl, hW, hB, hK.out⟩
end Go.Proofs.Ytihhfdkcggnjpaa
