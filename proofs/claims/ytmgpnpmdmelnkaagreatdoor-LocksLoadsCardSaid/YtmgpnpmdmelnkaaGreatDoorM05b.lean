import Derived.Test.YtmgpnpmdmelnkaaGreatDoorM05
import Derived.Lib.Split
import Derived.Lib.IndexBytes
import Derived.Lib.LastIndexByte
import Derived.WalkKit
import Derived.ProofKit
import Derived.LoopTactic
import Derived.Outline
import Derived.WalkSpells
import Derived.WalkLawsBesides
import Derived.Lib.Hide
import Derived.Deep.LoopGhost
import Derived.Deep.QuietTactic
import Derived.BigQuiet
import Derived.ShutString
namespace Go.Proofs.YtmgpnpmdmelnkaaGreatDoor
open Go.ChangeShapes Go.WideShapes Go.ChangeAt Go.RowKit
set_option linter.unusedVariables false
set_option linter.unusedSimpArgs false
theorem index_cases (s : List UInt8) : Lib.indexByte s 47 = -1 ∧ Clean s ∨ ∃ x t, s = x ++ 47 :: t ∧ Clean x ∧ Lib.indexByte s 47 = (x.length : Nat) := by
  induction s with
  | nil => exact .inl ⟨rfl, fun b hb => by cases hb⟩
  | cons c s ih =>
    by_cases hc : c = 47
    · subst hc
      exact .inr ⟨[], s, rfl, (fun b hb => by cases hb), by simp [Lib.indexByte]⟩
    · have hb : (c == 47) = false := by simpa using hc
      rcases ih with ⟨h1, h2⟩ | ⟨x, t, rfl, h2, h3⟩
      · refine .inl ⟨by simp [Lib.indexByte, hb, h1], fun b h => ?_⟩
        rcases List.mem_cons.1 h with rfl | h
        · exact hc
        · exact h2 _ h
      · refine .inr ⟨c :: x, t, rfl, fun b h => ?_, ?_⟩
        · rcases List.mem_cons.1 h with rfl | h
          · exact hc
          · exact h2 _ h
        · rw [Lib.indexByte]
          rw [hb, h3]
          simp
          try omega
theorem pcsK_clean (k : Nat) (acc x t : List UInt8) (h : Clean x) : pcsK (k + 1) acc (x ++ t) = pcsK (k + 1) (acc ++ x) t := by
  induction x generalizing acc with
  | nil => simp
  | cons c x ih =>
    have hc : c ≠ 47 := h c (List.mem_cons_self ..)
    simp only [List.cons_append, pcsK, hc, if_false]
    rw [ih _ (fun b hb => h b (List.mem_cons_of_mem _ hb))]; simp
theorem splitK_pcs (k : Nat) (s : List UInt8) : Lib.splitK [47] 0 k s = pcsK k [] s := by
  induction k generalizing s with
  | zero => cases s <;> rfl
  | succ k ih =>
    unfold Lib.splitK
    rw [Lib.index_one]
    rcases index_cases s with ⟨h1, h2⟩ | ⟨x, t, rfl, h2, h3⟩
    · have := pcsK_clean k [] s [] h2
      rw [List.append_nil] at this
      rw [this]; simp [h1, pcsK]
    · rw [pcsK_clean k [] x _ h2, h3, ih]
      have e : ¬ (((x.length : Nat) : Int) == -1) = true := by simp
      rw [if_neg e]
      simp [pcsK]
theorem count_pcs (s : List UInt8) : Lib.count s [47] + 1 = (pcs [] s).length := by
  generalize hn : s.length = n
  induction n using Nat.strongRecOn generalizing s with
  | ind n ih =>
    rcases index_cases s with ⟨h1, h2⟩ | ⟨x, t, rfl, h2, h3⟩
    · have := pcs_clean [] s [] h2
      rw [List.append_nil] at this
      rw [Lib.count_miss (by rw [Lib.index_one]; exact h1), this]; rfl
    · rw [Lib.count_hit (by simp) (by rw [Lib.index_one]; exact h3), pcs_clean [] x _ h2]
      have hd : (x ++ 47 :: t).drop (x.length + [(47 : UInt8)].length) = t := by simp
      rw [hd]
      simp only [pcs, if_true, List.length_cons]
      have := ih t.length (by rw [← hn]; simp; omega) t rfl
      omega
/-- strings.Split at the slash. -/
theorem split_pcs (s : ByteArray) : (Lib.splitB slash 0 (Lib.countB s slash) s).map bytesOf = pcs [] (bytesOf s) ∧ (Lib.splitB slash 0 (Lib.countB s slash) s).length = Lib.countB s slash + 1 := by
  have h1 : (Lib.splitB slash 0 (Lib.countB s slash) s).map bytesOf = pcs [] (bytesOf s) := by
    have := Lib.splitB_data slash 0 (Lib.countB s slash) s
    have e : slash.data.toList = [47] := rfl
    rw [e, splitK_pcs] at this
    have hc := count_pcs (bytesOf s)
    rw [← pcsK_few (Lib.countB s slash) [] (bytesOf s) (by rw [← hc]; exact Nat.le_refl _)]
    exact this
  refine ⟨h1, ?_⟩
  have := congrArg List.length h1
  rw [List.length_map, ← count_pcs] at this
  exact this
theorem map_bytes_inj {l m : List ByteArray} (h : l.map bytesOf = m.map bytesOf) : l = m := by
  induction l generalizing m with
  | nil => cases m with
    | nil => rfl
    | cons y m => cases h
  | cons x l ih => cases m with
    | nil => cases h
    | cons y m =>
      simp only [List.map_cons, List.cons.injEq] at h
      rw [bytes_inj h.1, ih h.2]
theorem split_back {s : ByteArray} {l : List ByteArray} (h : okParts (s :: l) = true) (t : ByteArray) (ht : bytesOf t = bytesOf s ++ flat l) : Lib.splitB slash 0 (Lib.countB t slash) t = s :: l ∧ Lib.countB t slash + 1 = (s :: l).length := by
  obtain ⟨h1, h2⟩ := split_pcs t
  have hc := okParts_clean h
  have : Lib.splitB slash 0 (Lib.countB t slash) t = s :: l := by
    apply map_bytes_inj
    rw [h1, ht, pcs_clean _ _ _ (hc s (List.mem_cons_self ..)), pcs_flat _ _ (fun t ht => hc t (List.mem_cons_of_mem _ ht))]
    simp
  exact ⟨this, by rw [← h2, this]⟩
/-- strings.SplitN at the slash, seven pieces at most: what Made makes of them is what all the pieces give. -/
theorem splitN_made (r : ByteArray) : let l := Lib.splitB slash 0 (min 7 (r.size + 1) - 1) r
    l.length ≤ min 7 (r.size + 1) ∧ (if okParts l = true then some l else none) = (let m := (pcs [] (bytesOf r)).map fun x => (⟨x.toArray⟩ : ByteArray); if okParts m = true then some m else none) := by
  intro l
  have hl := Lib.splitB_length_le slash 0 (min 7 (r.size + 1) - 1) r
  refine ⟨by have : 1 ≤ min 7 (r.size + 1) := by omega
             exact Nat.le_trans hl (by omega), ?_⟩
  have e : slash.data.toList = [47] := rfl
  have hd : l.map bytesOf = pcsK (min 7 (r.size + 1) - 1) [] (bytesOf r) := by
    have := Lib.splitB_data slash 0 (min 7 (r.size + 1) - 1) r
    rw [e, splitK_pcs] at this
    exact this
  have hlen : (pcs [] (bytesOf r)).length ≤ r.size + 1 := by
    have : ∀ (acc t : List UInt8), (pcs acc t).length ≤ t.length + 1 := by
      intro acc t
      induction t generalizing acc with
      | nil => simp [pcs]
      | cons c t ih =>
        unfold pcs
        split
        · have := ih []; simp only [List.length_cons]; omega
        · have := ih (acc ++ [c]); simp only [List.length_cons]; omega
    have h := this [] (bytesOf r)
    rw [bytes_size] at h; exact h
  by_cases h : (pcs [] (bytesOf r)).length ≤ min 7 (r.size + 1) - 1 + 1
  · rw [pcsK_few _ _ _ h] at hd
    have : l = (pcs [] (bytesOf r)).map fun x => (⟨x.toArray⟩ : ByteArray) := by
      apply map_bytes_inj
      rw [hd, List.map_map]
      rw [show (bytesOf ∘ fun x => (⟨x.toArray⟩ : ByteArray)) = id from funext back_bytes, List.map_id]
    rw [this]
  · have h7 : 7 < (pcs [] (bytesOf r)).length := by omega
    have hm := pcsK_many (min 7 (r.size + 1) - 1) [] (bytesOf r) (by omega)
    have h1 : ¬ okParts l = true := by
      intro ho
      have := congrArg List.length hd
      rw [List.length_map, hm] at this
      simp only [okParts, Bool.and_eq_true, decide_eq_true_eq] at ho
      omega
    have h2 : ¬ okParts ((pcs [] (bytesOf r)).map fun x => (⟨x.toArray⟩ : ByteArray)) = true := by
      intro ho
      simp only [okParts, Bool.and_eq_true, decide_eq_true_eq, List.length_map] at ho
      omega
    rw [if_neg h1]; simp only []; rw [if_neg h2]
theorem last_flat (l : List ByteArray) (x : ByteArray) (hx : Clean (bytesOf x)) : Lib.lastIndexByte (ptext (l ++ [x])) 47 = ((ptext l).size : Nat) := by
  have hb : bytesOf (ptext (l ++ [x])) = flat l ++ 47 :: bytesOf x := by rw [ptext_bytes, flat_append]; simp [flat]
  have hsz : (ptext l).size = (flat l).length := by rw [← ptext_bytes, bytes_size]
  have hz : (ptext (l ++ [x])).size = (flat l).length + 1 + (bytesOf x).length := by rw [← bytes_size, hb]; simp; omega
  have get : ∀ j, j < (ptext (l ++ [x])).size → (ptext (l ++ [x])).data[j]! = (flat l ++ 47 :: bytesOf x)[j]?.getD 0 := by
    intro j hj
    rw [← hb]
    have hj' : j < (ptext (l ++ [x])).data.size := hj
    unfold bytesOf
    rw [Array.getElem?_toList, Array.getElem?_eq_getElem hj', Option.getD_some]; exact getElem!_pos (ptext (l ++ [x])).data j hj'
  have hp : (ptext (l ++ [x])).data[(flat l).length]! = 47 := by
    rw [get _ (by omega)]; simp
  rw [hsz]
  rcases Lib.lastIndexByte_spec (ptext (l ++ [x])) 47 with ⟨_, h⟩ | ⟨i, hi, h1, h2, h3⟩
  · exfalso
    apply h (flat l).length (by omega)
    rw [hp]; rfl
  · rcases Nat.lt_trichotomy i (flat l).length with h | h | h
    · exfalso
      apply h3 _ h (by omega)
      rw [hp]; rfl
    · rw [h1, h]
    · exfalso
      rw [get i hi] at h2
      obtain ⟨d, rfl⟩ : ∃ d, i = (flat l).length + 1 + d := ⟨i - (flat l).length - 1, by omega⟩
      have hd : d < (bytesOf x).length := by omega
      rw [List.getElem?_append_right (by omega), show (flat l).length + 1 + d - (flat l).length = d + 1 by omega, List.getElem?_cons_succ, List.getElem?_eq_getElem hd] at h2
      have := hx _ (List.getElem_mem hd)
      apply this
      apply UInt8.toNat_inj.1
      have h5 : (UInt8.toNat 47 : Nat) = 47 := rfl
      simp at h2
      omega
theorem pre_clean {x y u v : List UInt8} (hx : Clean x) (hy : Clean y) : x ++ 47 :: u <+: y ++ 47 :: v ↔ x = y ∧ u <+: v := by
  induction x generalizing y with
  | nil =>
    cases y with
    | nil => simp [List.cons_prefix_cons]
    | cons c y =>
      have := hy c (List.mem_cons_self ..)
      simp only [List.nil_append, List.cons_append, List.cons_prefix_cons]
      constructor
      · rintro ⟨rfl, _⟩; exact absurd rfl this
      · rintro ⟨h, _⟩; cases h
  | cons c x ih =>
    have hc := hx c (List.mem_cons_self ..)
    cases y with
    | nil =>
      simp only [List.nil_append, List.cons_append, List.cons_prefix_cons]
      constructor
      · rintro ⟨rfl, _⟩; exact absurd rfl hc
      · rintro ⟨h, _⟩; cases h
    | cons d y =>
      simp only [List.cons_append, List.cons_prefix_cons, List.cons.injEq]
      rw [ih (fun b hb => hx b (List.mem_cons_of_mem _ hb)) (fun b hb => hy b (List.mem_cons_of_mem _ hb))]
      exact and_assoc.symm
theorem flat_head (l : List ByteArray) : ∃ u, flat l ++ [47] = 47 :: u := by
  cases l with
  | nil => exact ⟨[], rfl⟩
  | cons s l => exact ⟨bytesOf s ++ (flat l ++ [47]), by simp [flat]⟩
theorem flat_pre {l m : List ByteArray} (hl : ∀ s ∈ l, Clean (bytesOf s)) (hm : ∀ s ∈ m, Clean (bytesOf s)) : flat l ++ [47] <+: flat m ++ [47] ↔ l <+: m := by
  induction l generalizing m with
  | nil =>
    obtain ⟨u, hu⟩ := flat_head m
    rw [hu]; simp [flat, List.cons_prefix_cons]
  | cons s l ih =>
    cases m with
    | nil =>
      constructor
      · intro h
        have := h.length_le
        simp [flat] at this
      · intro h; simp at h
    | cons t m =>
      obtain ⟨u, hu⟩ := flat_head l
      obtain ⟨v, hv⟩ := flat_head m
      have := ih (m := m) (fun s hs => hl s (List.mem_cons_of_mem _ hs)) (fun s hs => hm s (List.mem_cons_of_mem _ hs))
      rw [hu, hv, List.cons_prefix_cons] at this
      simp only [flat, List.cons_append, List.append_assoc, hu, hv, List.cons_prefix_cons, true_and]
      rw [pre_clean (hl s (List.mem_cons_self ..)) (hm t (List.mem_cons_self ..))]
      constructor
      · rintro ⟨h1, h2⟩; exact ⟨bytes_inj h1, this.1 ⟨rfl, h2⟩⟩
      · rintro ⟨h1, h2⟩; exact ⟨by rw [h1], (this.2 h2).2⟩
/-- Is the one path at or above the other? -/
def overP (l m : List ByteArray) : Bool := decide (l <+: m)
theorem has_over {l m : List ByteArray} (hl : okParts l = true) (hm : okParts m = true) : Lib.hasPrefix (ptext m ++ slash).data.toList (ptext l ++ slash).data.toList = overP l m := by
  unfold Lib.hasPrefix overP
  have e : ∀ l, (ptext l ++ slash).data.toList = flat l ++ [47] := fun l => by
    have := bytes_append (ptext l) slash
    rw [ptext_bytes] at this
    exact this
  rw [e, e, Bool.eq_iff_iff, List.isPrefixOf_iff_prefix, flat_pre (okParts_clean hl) (okParts_clean hm)]
  simp
end Go.Proofs.YtmgpnpmdmelnkaaGreatDoor
