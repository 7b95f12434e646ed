import Derived.Test.YtabeapfnfcmgaaaL01d
import Derived.Test.YtabeapfnfcmgaaaF01k
import Derived.WalkKit
import Derived.ProofKit
import Derived.LoopTactic
import Derived.Outline
import Derived.WalkSpells
import Derived.WalkLawsBesides
import Derived.Lib.Hide
import Derived.Deep.LoopGhost
import Derived.Deep.QuietTactic
import Derived.BigQuiet
import Derived.ShutString
import Derived.Deep.RegionWith
import Derived.Deep.RegionHeld3
namespace Go.Proofs.Ytabeapfnfcmgaaa
open Go.ChangeShapes Go.WideShapes Go.ChangeAt Go.RowKit
set_option linter.unusedVariables false
/-- What is written of a part. -/
def encP (p : PartD) : List UInt8 :=
  if p.K = 0 then Enc.encU p.U else if p.K = 1 then Enc.encN p.N else if p.K = 2 then Enc.encB (decide (0 < p.N)) else Enc.encS (bytesOf p.S)
def encPs (L : List PartD) : List UInt8 := L.flatMap encP
theorem encP_le (p : PartD) : (encP p).length ≤ 9 + p.S.size := by
  unfold encP
  split
  · have := Enc.encU_le p.U; omega
  · split
    · have := Enc.encU_le (max p.N 0).toNat; unfold Enc.encN; omega
    · split
      · simp [Enc.encB]; omega
      · have := Enc.encU_le (bytesOf p.S).length
        unfold Enc.encS; rw [List.length_append, lenB]; rw [lenB] at this; omega
theorem encPs_le (L : List PartD) (h : ∀ p ∈ L, p.S.size ≤ 300) : (encPs L).length ≤ L.length * 309 := by
  induction L with
  | nil => simp [encPs]
  | cons p t ih =>
    have h1 := encP_le p
    have h2 := h p (by simp)
    have h3 := ih fun q hq => h q (by simp [hq])
    simp only [encPs, List.flatMap_cons, List.length_append, List.length_cons] at *
    omega
theorem encPs_snoc (L : List PartD) (k : Nat) (h : k < L.length) : encPs (L.take (k + 1)) = encPs (L.take k) ++ encP L[k] := by
  unfold encPs; rw [List.take_succ_eq_append_getElem h, List.flatMap_append, List.flatMap_cons, List.flatMap_nil, List.append_nil]
/-- From a world with one more block back to that ahead of it. -/
theorem keeps_new {w w' : World} {p : Nat} {o : Obj} (hp : p < w.heap.size) (hk : Keeps p (w.alloc o) w') : Keeps p w w' := by
  have hg : Gr w (w.alloc o) := (Gr.refl w).alloc _
  refine ⟨Nat.le_trans hg.size hk.1, fun b hb hne hf => ?_⟩
  have hf2 : Free (w.alloc o) p b := by
    intro v hv
    apply hf v
    rw [← hv]
    exact (Below.cell hg.below (p := ⟨p, 0, none⟩) hp).symm
  obtain ⟨h1, h2⟩ := hk.2 b (Nat.lt_of_lt_of_le hb hg.size) hne hf2
  exact ⟨h1.trans (hg.below.block b hb), h2⟩
def AddIs (p : Nat) (l : List UInt8) (w : World) (e : Ending) (w' : World) : Prop :=
  e = .returned (.pointer (some ⟨p, 0, none⟩)) ∧ WrIs w' p l ∧ Below p w w' ∧ Keeps p w w'
theorem addIs_mk {p : Nat} {l l' : List UInt8} {w w' : World} {o : Obj} {e : Ending} (hp : p < w.heap.size) (he : e = .returned (.pointer (some ⟨p, 0, none⟩))) (hW : WrIs w' p l) (hB : Below p (w.alloc o) w') (hK : Keeps p (w.alloc o) w') (hl : l = l') : AddIs p l' w e w' := by
  subst hl
  have hg : Gr w (w.alloc o) := (Gr.refl w).alloc _
  exact ⟨he, hW, (hg.below.mono (by omega)).trans hB, keeps_new hp hK⟩
theorem WrIs.lt {w : World} {p : Nat} {l : List UInt8} (h : WrIs w p l) : p < w.heap.size := by obtain ⟨_, _, _, _, hp, _⟩ := h; exact hp
/-- One number, truth or text that lies in a new block is written. -/
theorem addU (p v b : Nat) (l : List UInt8) (w : World) (h : WrIs w p l) (hb : b = w.heap.size) (hl : l.length ≤ 1000000) :
    Calls Try.prog 30 #[.pointer (some ⟨p, 0, none⟩), .slice (some ⟨b, 0, none⟩) 1 1] (w.alloc (.cells #[.int .u64 v] 33)) (AddIs p (l ++ Enc.encU v) w) := by
  subst hb
  have hp := h.lt
  have hg : Gr w (w.alloc (.cells #[.int .u64 v] 33)) := (Gr.refl w).alloc _
  refine (wU_1 p v w.heap.size l _ (h.gr hg) (by omega) (free_new h _) (by simp) (new_cell rfl rfl) hl).mono ?_
  rintro e w' ⟨he, hW, hB, hK⟩
  exact addIs_mk hp he hW hB hK rfl
theorem addN (p b : Nat) (v : Int) (l : List UInt8) (w : World) (h : WrIs w p l) (hb : b = w.heap.size) (hl : l.length ≤ 1000000) (hv : v ≤ 9223372036854775807) :
    Calls Try.prog 44 #[.pointer (some ⟨p, 0, none⟩), .slice (some ⟨b, 0, none⟩) 1 1] (w.alloc (.cells #[.int .i64 v] 3)) (AddIs p (l ++ Enc.encN v) w) := by
  subst hb
  have hp := h.lt
  have hg : Gr w (w.alloc (.cells #[.int .i64 v] 3)) := (Gr.refl w).alloc _
  have hrow : NumRow (w.alloc (.cells #[.int .i64 v] 3)) .i64 w.heap.size 0 [v] := by
    intro i hi
    have h0 : i = 0 := by simpa using hi
    subst h0
    exact new_cell rfl rfl
  refine (wN_any p w.heap.size 0 [v] l _ (h.gr hg) (by omega) (free_new h _) hrow hl (by simp) (by simpa using hv)).mono ?_
  rintro e w' ⟨he, hW, hB, hK⟩
  exact addIs_mk hp he hW hB hK (by simp [encNs])
theorem addB (p b : Nat) (x : Bool) (l : List UInt8) (w : World) (h : WrIs w p l) (hb : b = w.heap.size) (hl : l.length ≤ 1000000) :
    Calls Try.prog 46 #[.pointer (some ⟨p, 0, none⟩), .slice (some ⟨b, 0, none⟩) 1 1] (w.alloc (.cells #[.bool x] 4)) (AddIs p (l ++ Enc.encB x) w) := by
  subst hb
  have hg : Gr w (w.alloc (.cells #[.bool x] 4)) := (Gr.refl w).alloc _
  refine (wB_one p w.heap.size 0 x l _ (h.gr hg) (new_cell rfl rfl) (by omega)).mono ?_
  rintro e w' ⟨he, hW, hB, hK⟩
  exact addIs_mk h.lt he hW hB hK rfl
theorem addS (p b : Nat) (s : ByteArray) (l : List UInt8) (w : World) (h : WrIs w p l) (hb : b = w.heap.size) (hl : l.length ≤ 1000000) (hs : s.size ≤ 1000000) :
    Calls Try.prog 45 #[.pointer (some ⟨p, 0, none⟩), .slice (some ⟨b, 0, none⟩) 1 1] (w.alloc (.cells #[.string s] 9)) (AddIs p (l ++ Enc.encS (bytesOf s)) w) := by
  subst hb
  have hg : Gr w (w.alloc (.cells #[.string s] 9)) := (Gr.refl w).alloc _
  refine (wS_keeps p w.heap.size 0 s l _ (h.gr hg) (new_cell rfl rfl) (by omega) (by omega)).mono ?_
  rintro e w' ⟨he, hW, hB, hK⟩
  exact addIs_mk h.lt he hW hB hK rfl
/-- Behind the writing of a part: the Writer, the world, the part's own block. -/
theorem wr_step {w wr w2 : World} {pw : Nat} {acc l : List UInt8} {cs : Array Value} {t : TypeId} {e : Ending} (hG : Gr w wr) (hpe : w.heap.size = pw) (hW : WrIs wr pw acc) (h : AddIs pw l (wr.alloc (.cells cs t)) e w2) :
    e = .returned (.pointer (some ⟨pw, 0, none⟩)) ∧ WrIs w2 pw l ∧ Gr w w2 ∧ ∀ i v, cs[i]? = some v → w2.cell? ⟨wr.heap.size, i, none⟩ = some v := by
  obtain ⟨he, hW2, hB, hK⟩ := h
  subst hpe
  have hlt := hW.lt
  exact ⟨he, hW2, Below.trans (hG.alloc _) hB, fun i v hv => hK.cell (by omega) (free_new hW _) (new_cell rfl hv)⟩
def WrittenIs (L : List PartD) (w : World) (e : Ending) (w' : World) : Prop :=
  e = .returned (.tuple #[.string (ofL (encPs L)), .string (ofL (encPs L))]) ∧ Gr w w'
set_option maxRecDepth 100000 in
set_option maxHeartbeats 1000000 in
theorem written_any (L : List PartD) (a : Option Addr) (cap : Nat) (w : World) (hst : PartRow w a L) (hlen : L.length ≤ 30) (h300 : ∀ p ∈ L, p.S.size ≤ 300) :
    Calls Try.prog 14 #[.slice a L.length cap] w (WrittenIs L w) := by
  have H := Lib.hid hst
  have H3 := Lib.hid h300
  have hsz := World.size_alloc w (.cells #[.slice none 0 0] 54)
  have HW := Lib.hid (new_writer w)
  have HG := Lib.hid ((Gr.refl w).alloc (.cells #[.slice none 0 0] 54))
  clear hst h300
  go_enter Try.func14, Try.ntmps14
  go_wp2
  generalize w.alloc (.cells #[.slice none 0 0] 54) = W at *
  have hpw : w.heap.size ≤ w.heap.size := Nat.le_refl _
  generalize hpe : w.heap.size = pw at hpw HW hsz ⊢
  go_loopw [5, 10] (fun s i wr => ∃ k : Nat, k ≤ L.length ∧ i = .int .i64 (k : Nat) ∧ s = .string (ofL (encPs (L.take k))) ∧ Hid (WrIs wr pw (encPs (L.take k))) ∧ Hid (Gr w wr)) (fun _ i _ => L.length - (intOf i).toNat)
  case atStart => exact ⟨0, by omega, rfl, rfl, HW.out, HG.out⟩
  case round =>
    obtain ⟨k, hk, rfl, rfl, hW, hG⟩ := hrel
    by_cases hlt : k < L.length
    · obtain ⟨-, hok, hcl⟩ := H.out.gr hG.out
      obtain ⟨b, off, rfl, hc⟩ := hcl.resolve_left (by intro e; rw [e] at hlt; simp at hlt)
      obtain ⟨c0, c1, c2, c3⟩ := hc k hlt
      have hpok := hok L[k] (List.getElem_mem _)
      have hsk := H3.out L[k] (List.getElem_mem _)
      have Hsn := Lib.hid (encPs_snoc L k hlt)
      have hle := encPs_le (L.take k) fun p hp => H3.out p (List.mem_of_mem_take hp)
      have hle2 : (encPs (L.take k)).length ≤ 10000 := by rw [List.length_take] at hle; omega
      clear hok hcl hc hle
      generalize L[k] = p at *
      generalize hAcc : encPs (L.take k) = acc at *
      obtain ⟨K, U, N, S⟩ := p
      simp only at c0 c1 c2 c3 hsk
      have hz : (ofL acc).size ≤ 10000 := by rw [ofL_size]; exact hle2
      have hgP : ∀ cs t, WrIs (wr.alloc (.cells cs t)) pw acc := fun cs t => hW.out.gr ((Gr.refl wr).alloc _)
      by_cases k0 : K = 0
      · subst k0
        go_wp2_with fail
        refine (addU pw U _ acc _ (hgP _ _) (by simp) (by omega)).mono ?_
        intro e w2 hA
        obtain ⟨rfl, hW2, hG2, hC⟩ := wr_step hG.out hpe hW.out hA
        have HW2 := Lib.hid hW2
        have HG2 := Lib.hid hG2
        have hc1 := hC 1 _ rfl
        clear hC hA hW2 hG2
        go_wp2_with fail
        refine (refU_any U _ hpok.2.1).mono ?_
        rintro e w3 ⟨rfl, hg3⟩
        generalize hEE : Enc.encU U = E at *
        have HE := Lib.hid hEE
        have HW3 := Lib.hid (HW2.out.gr hg3)
        have HG3 := Lib.hid (HG2.out.trans hg3)
        have hzE : (ofL E).size ≤ 400 := by rw [ofL_size]; rw [← hEE]; have := Enc.encU_le U; omega
        have hP : encP ⟨0, U, N, S⟩ = E := by rw [← hEE]; rfl
        have hT := Hsn.out.trans (congrArg (acc ++ ·) hP)
        have HT := Lib.hid hT
        have HO := Lib.hid (ofL_app acc E)
        clear hEE hg3 hP hT Hsn
        go_wp2
        go_roundw
        case rel => exact ⟨k + 1, by omega, by go_num, by rw [HT.out, ← HO.out], (by show WrIs _ _ _; rw [HT.out]; exact HW3.out), HG3⟩
        case measure => simp [intOf]; omega
      by_cases k1 : K = 1
      · subst k1
        go_wp2_with fail
        refine (addN pw _ N acc _ (hgP _ _) (by simp) (by omega) (bounds_i64 hpok.2.2.1).2).mono ?_
        intro e w2 hA
        obtain ⟨rfl, hW2, hG2, hC⟩ := wr_step hG.out hpe hW.out hA
        have HW2 := Lib.hid hW2
        have HG2 := Lib.hid hG2
        have hc2 := hC 2 _ rfl
        clear hC hA hW2 hG2
        go_wp2_with fail
        refine (refN_any N _ hpok.2.2.1).mono ?_
        rintro e w3 ⟨rfl, hg3⟩
        generalize hEE : Enc.encN N = E at *
        have HE := Lib.hid hEE
        have HW3 := Lib.hid (HW2.out.gr hg3)
        have HG3 := Lib.hid (HG2.out.trans hg3)
        have hzE : (ofL E).size ≤ 400 := by rw [ofL_size]; rw [← hEE]; have := Enc.encU_le (max N 0).toNat; unfold Enc.encN; omega
        have hP : encP ⟨1, U, N, S⟩ = E := by rw [← hEE]; rfl
        have hT := Hsn.out.trans (congrArg (acc ++ ·) hP)
        have HT := Lib.hid hT
        have HO := Lib.hid (ofL_app acc E)
        clear hEE hg3 hP hT Hsn
        go_wp2
        go_roundw
        case rel => exact ⟨k + 1, by omega, by go_num, by rw [HT.out, ← HO.out], (by show WrIs _ _ _; rw [HT.out]; exact HW3.out), HG3⟩
        case measure => simp [intOf]; omega
      by_cases k2 : K = 2
      · subst k2
        have hbx : decide (N > 0) = decide (0 < N) := rfl
        go_wp2_with fail
        refine (addB pw _ _ acc _ (hgP _ _) (by simp) (by omega)).mono ?_
        intro e w2 hA
        obtain ⟨rfl, hW2, hG2, hC⟩ := wr_step hG.out hpe hW.out hA
        have HW2 := Lib.hid hW2
        have HG2 := Lib.hid hG2
        have hc2 := hC 2 _ rfl
        clear hC hA hW2 hG2
        go_wp2_with fail
        refine (refB_any _ _).mono ?_
        rintro e w3 ⟨rfl, hg3⟩
        generalize hEE : Enc.encB (decide (0 < N)) = E at *
        have HE := Lib.hid hEE
        have HW3 := Lib.hid (HW2.out.gr hg3)
        have HG3 := Lib.hid (HG2.out.trans hg3)
        have hzE : (ofL E).size ≤ 400 := by rw [ofL_size]; rw [← hEE]; simp [Enc.encB]
        have hP : encP ⟨2, U, N, S⟩ = E := by rw [← hEE]; rfl
        have hT := Hsn.out.trans (congrArg (acc ++ ·) hP)
        have HT := Lib.hid hT
        have HO := Lib.hid (ofL_app acc E)
        clear hEE hg3 hP hT Hsn
        go_wp2
        go_roundw
        case rel => exact ⟨k + 1, by omega, by go_num, by rw [HT.out, ← HO.out], (by show WrIs _ _ _; rw [HT.out]; exact HW3.out), HG3⟩
        case measure => simp [intOf]; omega
      · have hE0 : encP ⟨K, U, N, S⟩ = Enc.encS (bytesOf S) := by unfold encP; simp only; rw [if_neg k0, if_neg k1, if_neg k2]
        go_wp2_with fail
        refine (addS pw _ S acc _ (hgP _ _) (by simp) (by omega) (by omega)).mono ?_
        intro e w2 hA
        obtain ⟨rfl, hW2, hG2, hC⟩ := wr_step hG.out hpe hW.out hA
        have HW2 := Lib.hid hW2
        have HG2 := Lib.hid hG2
        have hc3 := hC 3 _ rfl
        clear hC hA hW2 hG2
        go_wp2_with fail
        refine (refS_any S _ (by omega)).mono ?_
        rintro e w3 ⟨rfl, hg3⟩
        generalize hEE : Enc.encS (bytesOf S) = E at *
        have HE := Lib.hid hEE
        have HW3 := Lib.hid (HW2.out.gr hg3)
        have HG3 := Lib.hid (HG2.out.trans hg3)
        have hzE : (ofL E).size ≤ 400 := by rw [ofL_size]; rw [← hEE]; have := Enc.encU_le (bytesOf S).length; have hl := lenB S; unfold Enc.encS; rw [List.length_append]; omega
        have hP : encP ⟨K, U, N, S⟩ = E := hE0
        have hT := Hsn.out.trans (congrArg (acc ++ ·) hP)
        have HT := Lib.hid hT
        have HO := Lib.hid (ofL_app acc E)
        clear hEE hg3 hP hT Hsn
        go_wp2
        go_roundw
        case rel => exact ⟨k + 1, by omega, by go_num, by rw [HT.out, ← HO.out], (by show WrIs _ _ _; rw [HT.out]; exact HW3.out), HG3⟩
        case measure => simp [intOf]; omega
    · obtain rfl : k = L.length := by omega
      rw [List.take_length] at hW ⊢
      have HI : Hid (WrittenIs L w (.returned (.tuple #[.string (ofL (encPs L)), .string (ofL (encPs L))])) wr) := Lib.hid ⟨rfl, hG.out⟩
      generalize encPs L = acc at *
      go_wp2_with fail
      refine (wText_any pw acc _ hW.out).mono ?_
      rintro e w2 ⟨rfl, rfl⟩
      go_wp2
      go_ret2
      exact HI.out
end Go.Proofs.Ytabeapfnfcmgaaa
