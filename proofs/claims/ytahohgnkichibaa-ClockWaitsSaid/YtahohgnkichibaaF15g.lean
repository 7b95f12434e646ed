import Derived.Test.YtahohgnkichibaaF15f
import Derived.WalkKit
import Derived.ProofKit
import Derived.LoopTactic
import Derived.Outline
import Derived.WalkSpells
import Derived.WalkLawsBesides
import Derived.Lib.Hide
import Derived.Deep.LoopGhost
import Derived.Deep.QuietTactic
import Derived.BigQuiet
import Derived.ShutString
import Derived.BigQuiet
import Derived.Deep.RegionWith
import Derived.Deep.RegionHeld3
import Derived.Test.YtahohgnkichibaaC17
namespace Go.Proofs.Ytahohgnkichibaa
open Go.ChangeShapes Go.WideShapes Go.ChangeAt Go.RowKit
set_option linter.unusedVariables false
set_option linter.unusedSimpArgs false
theorem cmpI_neg (a b : Int) : cmpI a b < 0 ↔ a < b := by unfold cmpI; split <;> (try split) <;> omega
theorem cmpI_zero (a b : Int) : cmpI a b = 0 ↔ a = b := by unfold cmpI; split <;> (try split) <;> omega
theorem cmpA_neg (x y : A) : cmpA x y < 0 ↔ x.due < y.due ∨ x.due = y.due ∧ x.key < y.key := by
  unfold cmpA
  have h1 := cmpI_neg x.due y.due
  have h2 := cmpI_zero x.due y.due
  have h3 := cmpI_neg x.key y.key
  by_cases h : cmpI x.due y.due = 0
  · rw [if_neg (by simp [h]), h3]; have := h2.1 h; omega
  · rw [if_pos h, h1]; have : ¬ x.due = y.due := fun e => h (h2.2 e); omega
theorem cmpA_zero (x y : A) : cmpA x y = 0 ↔ x.due = y.due ∧ x.key = y.key := by
  unfold cmpA
  have h2 := cmpI_zero x.due y.due
  have h3 := cmpI_zero x.key y.key
  by_cases h : cmpI x.due y.due = 0
  · rw [if_neg (by simp [h]), h3]; have := h2.1 h; omega
  · rw [if_pos h]; have : ¬ x.due = y.due := fun e => h (h2.2 e); constructor
    · intro e; exact absurd e h
    · intro e; exact absurd e.1 this
/-- Alarms in order, at most one of each key. -/
structure InvA (L : List A) : Prop where
  s : L.Pairwise fun a b => cmpA a b < 0
  k : L.Pairwise fun a b => a.key ≠ b.key
theorem InvA.sub {L M : List A} (h : InvA L) (hs : M.Sublist L) : InvA M := ⟨h.s.sublist hs, h.k.sublist hs⟩
theorem offA_sub (L : List A) (k : Int) : (offA L k).Sublist L := List.eraseP_sublist
theorem offA_len (L : List A) (k : Int) : (offA L k).length ≤ L.length := (offA_sub L k).length_le
theorem offA_key : ∀ {L : List A} (h : InvA L) (k : Int) {x : A}, x ∈ offA L k → x.key ≠ k
  | [], _, _, x, hx => by simp [offA] at hx
  | y :: t, h, k, x, hx => by
    have hk := List.pairwise_cons.1 h.k
    by_cases e : y.key = k
    · rw [offA, List.eraseP_cons_of_pos (by simp [e])] at hx
      exact fun e2 => hk.1 x hx (by rw [e, e2])
    · rw [offA, List.eraseP_cons_of_neg (by simp [e])] at hx
      rcases List.mem_cons.1 hx with rfl | h2
      · exact e
      · exact offA_key (h.sub (List.sublist_cons_self _ _)) k h2
theorem sorted_mono {L : List A} (h : InvA L) (x : A) : ∀ p q (hp : p < L.length) (hq : q < L.length), p ≤ q → cmpA L[q] x < 0 → cmpA L[p] x < 0 := fun p q hp hq hpq hc => by
  by_cases e : p = q
  · subst e; exact hc
  · have h1 := (List.pairwise_iff_getElem.1 h.s) p q hp hq (by omega)
    rw [cmpA_neg] at h1 hc ⊢
    omega
def posA (L : List A) (x : A) : Nat := L.countP fun y => decide (cmpA y x < 0)
theorem parted_pos {L : List A} {x : A} {i : Nat} (h : Parted (fun y => cmpA y x) L i i) (hi : i ≤ L.length) : i = posA L x := by
  unfold posA
  have h1 : L.countP (fun y => decide (cmpA y x < 0)) = (L.take i ++ L.drop i).countP (fun y => decide (cmpA y x < 0)) := by rw [List.take_append_drop]
  rw [h1, List.countP_append]
  have h2 : (L.take i).countP (fun y => decide (cmpA y x < 0)) = i := by
    have : (L.take i).countP (fun y => decide (cmpA y x < 0)) = (L.take i).length := by
      rw [List.countP_eq_length]
      intro y hy
      obtain ⟨j, hj, rfl⟩ := List.getElem_of_mem hy
      rw [List.length_take] at hj
      rw [List.getElem_take]
      exact decide_eq_true (h.1 j (by omega) (by omega))
    rw [this, List.length_take]; omega
  have h3 : (L.drop i).countP (fun y => decide (cmpA y x < 0)) = 0 := by
    rw [List.countP_eq_zero]
    intro y hy
    obtain ⟨j, hj, rfl⟩ := List.getElem_of_mem hy
    rw [List.length_drop] at hj
    rw [List.getElem_drop]
    have : 0 ≤ cmpA L[i + j] x := h.2 (i + j) (by omega) (by omega)
    simp only [decide_eq_true_eq]
    omega
  omega
def setA (L : List A) (k t : Int) : List A := ins (offA L k) (posA (offA L k) ⟨k, t⟩) ⟨k, t⟩
theorem posA_le (L : List A) (x : A) : posA L x ≤ L.length := List.countP_le_length
theorem setA_len (L : List A) (k t : Int) : (setA L k t).length = (offA L k).length + 1 := ins_len _ _ _ (posA_le _ _)
/-- In a list in order what is less stands ahead. -/
theorem parted_of {L : List A} (h : InvA L) (x : A) : Parted (fun y => cmpA y x) L (posA L x) (posA L x) := by
  have key : ∀ (L : List A), InvA L → (∀ p (h : p < L.length), p < posA L x → cmpA L[p] x < 0) ∧ ∀ p (h : p < L.length), posA L x ≤ p → 0 ≤ cmpA L[p] x := by
    intro L
    induction L with
    | nil => intro _; exact ⟨fun p h => absurd h (by simp), fun p h => absurd h (by simp)⟩
    | cons y t ih =>
      intro h
      have iht := ih (h.sub (List.sublist_cons_self _ _))
      have hs := List.pairwise_cons.1 h.s
      by_cases hy : cmpA y x < 0
      · have e : posA (y :: t) x = posA t x + 1 := by unfold posA; rw [List.countP_cons_of_pos (p := fun y => decide (cmpA y x < 0)) (decide_eq_true hy)]
        rw [e]
        refine ⟨fun p hp hpp => ?_, fun p hp hpp => ?_⟩
        · cases p with
          | zero => exact hy
          | succ p => exact iht.1 p (by simpa using hp) (by omega)
        · cases p with
          | zero => omega
          | succ p => exact iht.2 p (by simpa using hp) (by omega)
      · have e : posA (y :: t) x = 0 := by
          unfold posA
          rw [List.countP_eq_zero]
          intro z hz
          simp only [decide_eq_true_eq]
          rcases List.mem_cons.1 hz with rfl | hz
          · exact hy
          · intro hc
            have := hs.1 z hz
            rw [cmpA_neg] at this hc hy
            omega
        rw [e]
        refine ⟨fun p hp hpp => by omega, fun p hp _ => ?_⟩
        have hz : (y :: t)[p] ∈ y :: t := List.getElem_mem hp
        unfold posA at e
        rw [List.countP_eq_zero] at e
        have := e _ hz
        simp only [decide_eq_true_eq] at this
        omega
  exact key L h
theorem ins_inv {L : List A} (h : InvA L) (x : A) (hx : ∀ y ∈ L, y.key ≠ x.key) : InvA (ins L (posA L x) x) := by
  have hp := parted_of h x
  have hsp : L.take (posA L x) ++ L.drop (posA L x) = L := List.take_append_drop _ _
  have hs := h.s
  have hk := h.k
  rw [← hsp] at hs hk
  rw [List.pairwise_append] at hs hk
  have ht : ∀ y ∈ L.take (posA L x), cmpA y x < 0 := fun y hy => by
    obtain ⟨j, hj, rfl⟩ := List.getElem_of_mem hy
    rw [List.length_take] at hj
    rw [List.getElem_take]
    exact hp.1 j (by omega) (by omega)
  have hd : ∀ y ∈ L.drop (posA L x), cmpA x y < 0 := fun y hy => by
    have hm := List.mem_of_mem_drop hy
    obtain ⟨j, hj, rfl⟩ := List.getElem_of_mem hy
    rw [List.length_drop] at hj
    have h1 : 0 ≤ cmpA L[posA L x + j] x := hp.2 (posA L x + j) (by omega) (by omega)
    have h2 := hx _ hm
    rw [List.getElem_drop] at h2 ⊢
    have h3 := cmpA_neg L[posA L x + j] x
    rw [cmpA_neg]
    omega
  unfold ins
  refine ⟨?_, ?_⟩
  · rw [List.pairwise_append, List.pairwise_cons]
    refine ⟨hs.1, ⟨hd, hs.2.1⟩, fun a ha c hc => ?_⟩
    rcases List.mem_cons.1 hc with rfl | hc
    · exact ht a ha
    · exact hs.2.2 a ha c hc
  · rw [List.pairwise_append, List.pairwise_cons]
    refine ⟨hk.1, ⟨fun c hc e => hx c (List.mem_of_mem_drop hc) e.symm, hk.2.1⟩, fun a ha c hc => ?_⟩
    rcases List.mem_cons.1 hc with rfl | hc
    · exact hx a (List.mem_of_mem_take ha)
    · exact hk.2.2 a ha c hc
theorem setA_inv {L : List A} (h : InvA L) (k t : Int) : InvA (setA L k t) := ins_inv (h.sub (offA_sub L k)) _ (fun y hy => offA_key h k hy)
theorem AlTo.gr {w w1 w2 : World} {b : Nat} {v : Value} {L : List A} (h : AlTo b v w1 L w2) (hg : Gr w w1) : AlTo b v w L w2 := by
  obtain ⟨v2, h1, h2, h3⟩ := h
  exact ⟨v2, h1, (Far.of_gr hg).trans (From.refl _ _) h2, (From.refl v w).trans hg.size h3⟩
theorem AlTo.from {w w1 w2 : World} {b : Nat} {v v1 : Value} {L : List A} (hf : Far b v w w1) (hv : From v w v1) (h : AlTo b v1 w1 L w2) : AlTo b v w L w2 := by
  obtain ⟨v2, h1, h2, h3⟩ := h
  exact ⟨v2, h1, hf.trans hv h2, hv.trans hf.size h3⟩
set_option maxRecDepth 100000 in
set_option maxHeartbeats 2000000 in
theorem alSet_any {b : Nat} {v : Value} {L : List A} (k t : Int) (w : World) (h : AlIs w b v L) (hi : InvA L) (hl : L.length < 1000) : Calls Try.prog 13 #[.pointer (some ⟨b, 0, none⟩), .int .i64 k, .int .i64 t] w fun e w' => e = .returned (.tuple #[]) ∧ AlTo b v w (setA L k t) w' := by
  have HO := Lib.hid (alOff_any k w h)
  have HI := Lib.hid (hi.sub (offA_sub L k))
  have hml := offA_len L k
  have HE := Lib.hid (show setA L k t = ins (offA L k) (posA (offA L k) ⟨k, t⟩) ⟨k, t⟩ from rfl)
  generalize setA L k t = R at *
  generalize hasA L k = hb at *
  generalize offA L k = M at *
  have hm5 : M.length ≤ 1000 := by omega
  have hm6 : M.length + 1 ≤ 1000 := by omega
  clear h hi hl hml
  go_enter Try.func13, Try.ntmps13
  go_wp2_with fail
  refine HO.out.mono ?_
  rintro e w1 ⟨rfl, v1, h1, hf1, hv1⟩
  have H1 := Lib.hid h1
  have HF1 := Lib.hid hf1
  have HV1 := Lib.hid hv1
  have HG2 := Lib.hid ((Gr.refl w1).alloc (.cells #[.int .i64 k, .int .i64 t] 39))
  have HB2 := Lib.hid (Blk.new w1 #[.int .i64 k, .int .i64 t] 39)
  have H2 := Lib.hid (h1.gr HG2.out)
  have HNV := Lib.hid (show v1.ownBlock ≠ some w1.heap.size from fun e => by have := h1.away _ e; omega)
  have HNB := Lib.hid (show w1.heap.size ≠ b by have := cell_lt h1.rowv; omega)
  clear h1 hf1 hv1
  go_wp2_with fail
  generalize w1.alloc (.cells #[.int .i64 k, .int .i64 t] 39) = w2 at *
  generalize w1.heap.size = p6 at *
  have c0 := H2.out.rowv
  have c1 := HB2.out.cell (i := 0) rfl
  have c2 := HB2.out.cell (i := 1) rfl
  have HD2 := Lib.hid (H2.out.gr (Gr.refl w2).drew)
  obtain ⟨a1, n1, rfl⟩ := HD2.out.slice
  refine wp_region_held_drew (S := (fun w9 => w9.cell? ⟨b, 0, none⟩ = some (.slice a1 M.length n1) ∧ w9.cell? ⟨p6, 0, none⟩ = some (.int .i64 k) ∧ w9.cell? ⟨p6, 1, none⟩ = some (.int .i64 t))) (by kernel_rfl) ?inva (fun h0 => ?_)
  case inva => ((try dsimp only); (exact ⟨c0, c1, c2⟩))
  refine wpAnyH_take (i := 0) (oi := { dst := some 16, op := Go.Op.move (Go.Operand.tmp 0), type := 119, pos := "alarm.go:28", after := #[], guard := none }) (v := ?va1) rfl (by kernel_rfl) (by kernel_rfl) (by kernel_rfl) (fun _ _ _ h => h) (Or.inl ⟨by rfl, ?ra1⟩) (by assumption) ?_
  case ra1 => (intro w hSw; (try dsimp only at hSw); (go_simp <;> with_reducible rfl))
  try simp only [Act.put, List.setIfInBounds_toArray, List.set_cons_zero, List.set_cons_succ]
  refine wpAnyH_take (i := 1) (oi := { dst := some 17, op := Go.Op.nilCheck (Go.Operand.tmp 16), type := 0, pos := "alarm.go:28", after := #[{ on := 0, ground := Go.Ground.data }], guard := none }) (v := ?va2) rfl (by kernel_rfl) (by kernel_rfl) (by kernel_rfl) (fun _ _ _ h => h) (Or.inl ⟨by rfl, ?ra2⟩) (by assumption) ?_
  case ra2 => (intro w hSw; (try dsimp only at hSw); (go_simp <;> with_reducible rfl))
  try simp only [Act.put, List.setIfInBounds_toArray, List.set_cons_zero, List.set_cons_succ]
  refine wpAnyH_take (i := 2) (oi := { dst := some 18, op := Go.Op.fieldAddr 26 (Go.Operand.tmp 17) 0, type := 0, pos := "alarm.go:28", after := #[{ on := 1, ground := Go.Ground.data }], guard := none }) (v := ?va3) rfl (by kernel_rfl) (by kernel_rfl) (by kernel_rfl) (fun _ _ _ h => h) (Or.inl ⟨by rfl, ?ra3⟩) (by assumption) ?_
  case ra3 => (intro w hSw; (try dsimp only at hSw); (go_simp <;> with_reducible rfl))
  try simp only [Act.put, List.setIfInBounds_toArray, List.set_cons_zero, List.set_cons_succ]
  refine wpAnyH_take (i := 3) (oi := { dst := some 19, op := Go.Op.load 24 (Go.Operand.tmp 18), type := 24, pos := "alarm.go:28", after := #[{ on := 2, ground := Go.Ground.data }], guard := none }) (v := ?va4) rfl (by kernel_rfl) (by kernel_rfl) (by kernel_rfl) (fun _ _ _ h => h) (Or.inl ⟨by rfl, ?ra4⟩) (by assumption) ?_
  case ra4 => (intro w hSw; (try dsimp only at hSw); (go_simp <;> with_reducible rfl))
  try simp only [Act.put, List.setIfInBounds_toArray, List.set_cons_zero, List.set_cons_succ]
  refine wpAnyH_take (i := 4) (oi := { dst := some 20, op := Go.Op.load 39 (Go.Operand.tmp 6), type := 39, pos := "alarm.go:28", after := #[], guard := none }) (v := ?va5) rfl (by kernel_rfl) (by kernel_rfl) (by kernel_rfl) (fun _ _ _ h => h) (Or.inl ⟨by rfl, ?ra5⟩) (by assumption) ?_
  case ra5 => (intro w hSw; (try dsimp only at hSw); (go_simp <;> with_reducible rfl))
  try simp only [Act.put, List.setIfInBounds_toArray, List.set_cons_zero, List.set_cons_succ]
  refine wpAnyH_ready (rs := [5]) (by kernel_rfl) (by simp) ?_
  refine AllReadyH.cons (o := { dst := some 21, op := Go.Op.call { callee := Go.Callee.value (Go.Operand.func 59), args := #[Go.Operand.tmp 19, Go.Operand.tmp 20, Go.Operand.func 60], argTypes := #[24, 39, 121] }, type := 41, pos := "alarm.go:28", after := #[{ on := 3, ground := Go.Ground.data }, { on := 4, ground := Go.Ground.data }], guard := none }) rfl (fun K hK => ?_) AllReadyH.nil
  go_simp
  go_at_call 59
  refine (bsA_any ⟨k, t⟩ M _ HD2.out.row hm5 (sorted_mono HI.out ⟨k, t⟩)).mono ?_
  rintro e w3 ⟨i, fd, rfl, hi, hp, hfd, hg3⟩
  first | refine hK.out _ _ ?sa6 (fun h6 => ?_) | (go_wp2_with fail; refine hK.out _ _ ?sa6 (fun h6 => ?_))
  case sa6 => ((try dsimp only); (exact ⟨hg3.cell h0.1, hg3.cell h0.2.1, hg3.cell h0.2.2⟩))
  clear hK K h0
  try simp only [Act.put, List.setIfInBounds_toArray, List.set_cons_zero, List.set_cons_succ]
  refine wpAnyH_take (i := 6) (oi := { dst := some 15, op := Go.Op.move (Go.Operand.tmp 21), type := 41, pos := "alarm.go:28", after := #[{ on := 5, ground := Go.Ground.data }], guard := none }) (v := ?va7) rfl (by kernel_rfl) (by kernel_rfl) (by kernel_rfl) (fun _ _ _ h => h) (Or.inl ⟨by rfl, ?ra7⟩) (by assumption) ?_
  case ra7 => (intro w hSw; (try dsimp only at hSw); (go_simp <;> with_reducible rfl))
  try simp only [Act.put, List.setIfInBounds_toArray, List.set_cons_zero, List.set_cons_succ]
  refine wpAnyH_take (i := 7) (oi := { dst := some 22, op := Go.Op.extract (Go.Operand.tmp 15) 0, type := 3, pos := "alarm.go:28", after := #[{ on := 6, ground := Go.Ground.data }], guard := none }) (v := ?va8) rfl (by kernel_rfl) (by kernel_rfl) (by kernel_rfl) (fun _ _ _ h => h) (Or.inl ⟨by rfl, ?ra8⟩) (by assumption) ?_
  case ra8 => (intro w hSw; (try dsimp only at hSw); (go_simp <;> with_reducible rfl))
  try simp only [Act.put, List.setIfInBounds_toArray, List.set_cons_zero, List.set_cons_succ]
  refine wpAnyH_take (i := 8) (oi := { dst := some 23, op := Go.Op.extract (Go.Operand.tmp 15) 1, type := 4, pos := "alarm.go:28", after := #[{ on := 6, ground := Go.Ground.data }, { on := 9, ground := Go.Ground.gcOnly Go.Departure.lateStores }], guard := none }) (v := ?va9) rfl (by kernel_rfl) (by kernel_rfl) (by kernel_rfl) (fun _ _ _ h => h) (Or.inl ⟨by rfl, ?ra9⟩) (by assumption) ?_
  case ra9 => (intro w hSw; (try dsimp only at hSw); (go_simp <;> with_reducible rfl))
  try simp only [Act.put, List.setIfInBounds_toArray, List.set_cons_zero, List.set_cons_succ]
  refine wpAnyH_take (i := 9) (oi := { dst := some 7, op := Go.Op.assign (Go.Operand.tmp 22), type := 3, pos := "alarm.go:28", after := #[{ on := 7, ground := Go.Ground.data }, { on := 5, ground := Go.Ground.chain }, { on := 0, ground := Go.Ground.phase }, { on := 1, ground := Go.Ground.phase }, { on := 2, ground := Go.Ground.phase }, { on := 3, ground := Go.Ground.phase }, { on := 4, ground := Go.Ground.phase }, { on := 5, ground := Go.Ground.phase }, { on := 6, ground := Go.Ground.phase }, { on := 7, ground := Go.Ground.phase }, { on := 8, ground := Go.Ground.textOnly Go.Departure.lateStores }], guard := none }) (v := ?va10) rfl (by kernel_rfl) (by kernel_rfl) (by kernel_rfl) (fun _ _ _ h => h) (Or.inl ⟨by rfl, ?ra10⟩) (by assumption) ?_
  case ra10 => (intro w hSw; (try dsimp only at hSw); (go_simp <;> with_reducible rfl))
  try simp only [Act.put, List.setIfInBounds_toArray, List.set_cons_zero, List.set_cons_succ]
  refine wpAnyH_take (i := 10) (oi := { dst := some 8, op := Go.Op.assign (Go.Operand.tmp 23), type := 4, pos := "alarm.go:28", after := #[{ on := 8, ground := Go.Ground.data }, { on := 9, ground := Go.Ground.chain }, { on := 0, ground := Go.Ground.phase }, { on := 1, ground := Go.Ground.phase }, { on := 2, ground := Go.Ground.phase }, { on := 3, ground := Go.Ground.phase }, { on := 4, ground := Go.Ground.phase }, { on := 5, ground := Go.Ground.phase }, { on := 6, ground := Go.Ground.phase }, { on := 7, ground := Go.Ground.phase }, { on := 8, ground := Go.Ground.phase }, { on := 9, ground := Go.Ground.phase }], guard := none }) (v := ?va11) rfl (by kernel_rfl) (by kernel_rfl) (by kernel_rfl) (fun _ _ _ h => h) (Or.inl ⟨by rfl, ?ra11⟩) (by assumption) ?_
  case ra11 => (intro w hSw; (try dsimp only at hSw); (go_simp <;> with_reducible rfl))
  try simp only [Act.put, List.setIfInBounds_toArray, List.set_cons_zero, List.set_cons_succ]
  refine wpAnyH_done (by kernel_rfl) ?_ _
  have hi2 := parted_pos hp hi
  have HE2 := Lib.hid (show R = ins M i ⟨k, t⟩ by rw [HE.out, ← hi2])
  have H3 := Lib.hid (HD2.out.gr hg3)
  have HG3 := Lib.hid ((Gr.refl w2).drew.trans hg3)
  have HB3 := Lib.hid (HB2.out.gr HG3.out)
  clear h6 hp hfd hg3 c0 c1 c2 hi2
  go_wp2_with fail
  have c0 := H3.out.rowv
  have c1 := HB3.out.cell (i := 0) rfl
  have c2 := HB3.out.cell (i := 1) rfl
  have HGA := Lib.hid (((Gr.refl w3).alloc (.cells #[.int .i64 k, .int .i64 t] 39)).drew)
  have HA := Lib.hid (H3.out.gr HGA.out)
  have HBA := Lib.hid ((Blk.new w3 #[.int .i64 k, .int .i64 t] 39).gr (Gr.refl _).drew)
  have HNA := Lib.hid (show (Value.slice a1 M.length n1).ownBlock ≠ some w3.heap.size from fun e => by have := H3.out.away _ e; omega)
  refine late_start (fun i => decide (11 ≤ i)) (fun w9 => w9.cell? ⟨b, 0, none⟩ = some (.slice a1 M.length n1) ∧ w9.cell? ⟨p6, 0, none⟩ = some (.int .i64 k) ∧ w9.cell? ⟨p6, 1, none⟩ = some (.int .i64 t)) (by kernel_rfl) ?invb (fun h0 => ?_)
  case invb => ((try dsimp only); (exact ⟨c0, c1, c2⟩))
  refine late_take (i := 0) (oi := { dst := some 24, op := Go.Op.move (Go.Operand.tmp 0), type := 119, pos := "alarm.go:29", after := #[], guard := none }) (v := ?vb1) rfl (by kernel_rfl) (by kernel_rfl) (by kernel_rfl) (by kernel_rfl) (by kernel_rfl) (fun _ _ _ h => h) (Or.inl ⟨by rfl, ?rb1⟩) (by assumption) ?_
  case rb1 => (intro w hSw; (try dsimp only at hSw); (go_simp <;> with_reducible rfl))
  try simp only [Act.put, List.setIfInBounds_toArray, List.set_cons_zero, List.set_cons_succ]
  refine late_take (i := 1) (oi := { dst := some 25, op := Go.Op.move (Go.Operand.tmp 0), type := 119, pos := "alarm.go:29", after := #[], guard := none }) (v := ?vb2) rfl (by kernel_rfl) (by kernel_rfl) (by kernel_rfl) (by kernel_rfl) (by kernel_rfl) (fun _ _ _ h => h) (Or.inl ⟨by rfl, ?rb2⟩) (by assumption) ?_
  case rb2 => (intro w hSw; (try dsimp only at hSw); (go_simp <;> with_reducible rfl))
  try simp only [Act.put, List.setIfInBounds_toArray, List.set_cons_zero, List.set_cons_succ]
  refine late_take (i := 2) (oi := { dst := some 26, op := Go.Op.nilCheck (Go.Operand.tmp 25), type := 0, pos := "alarm.go:29", after := #[{ on := 1, ground := Go.Ground.data }], guard := none }) (v := ?vb3) rfl (by kernel_rfl) (by kernel_rfl) (by kernel_rfl) (by kernel_rfl) (by kernel_rfl) (fun _ _ _ h => h) (Or.inl ⟨by rfl, ?rb3⟩) (by assumption) ?_
  case rb3 => (intro w hSw; (try dsimp only at hSw); (go_simp <;> with_reducible rfl))
  try simp only [Act.put, List.setIfInBounds_toArray, List.set_cons_zero, List.set_cons_succ]
  refine late_take (i := 3) (oi := { dst := some 27, op := Go.Op.fieldAddr 26 (Go.Operand.tmp 26) 0, type := 0, pos := "alarm.go:29", after := #[{ on := 2, ground := Go.Ground.data }], guard := none }) (v := ?vb4) rfl (by kernel_rfl) (by kernel_rfl) (by kernel_rfl) (by kernel_rfl) (by kernel_rfl) (fun _ _ _ h => h) (Or.inl ⟨by rfl, ?rb4⟩) (by assumption) ?_
  case rb4 => (intro w hSw; (try dsimp only at hSw); (go_simp <;> with_reducible rfl))
  try simp only [Act.put, List.setIfInBounds_toArray, List.set_cons_zero, List.set_cons_succ]
  refine late_take (i := 4) (oi := { dst := some 28, op := Go.Op.load 24 (Go.Operand.tmp 27), type := 24, pos := "alarm.go:29", after := #[{ on := 3, ground := Go.Ground.data }], guard := none }) (v := ?vb5) rfl (by kernel_rfl) (by kernel_rfl) (by kernel_rfl) (by kernel_rfl) (by kernel_rfl) (fun _ _ _ h => h) (Or.inl ⟨by rfl, ?rb5⟩) (by assumption) ?_
  case rb5 => (intro w hSw; (try dsimp only at hSw); (go_simp <;> with_reducible rfl))
  try simp only [Act.put, List.setIfInBounds_toArray, List.set_cons_zero, List.set_cons_succ]
  refine late_take (i := 5) (oi := { dst := some 29, op := Go.Op.move (Go.Operand.tmp 7), type := 3, pos := "alarm.go:29", after := #[], guard := none }) (v := ?vb6) rfl (by kernel_rfl) (by kernel_rfl) (by kernel_rfl) (by kernel_rfl) (by kernel_rfl) (fun _ _ _ h => h) (Or.inl ⟨by rfl, ?rb6⟩) (by assumption) ?_
  case rb6 => (intro w hSw; (try dsimp only at hSw); (go_simp <;> with_reducible rfl))
  try simp only [Act.put, List.setIfInBounds_toArray, List.set_cons_zero, List.set_cons_succ]
  refine late_take (i := 6) (oi := { dst := some 30, op := Go.Op.load 39 (Go.Operand.tmp 6), type := 39, pos := "alarm.go:29", after := #[], guard := none }) (v := ?vb7) rfl (by kernel_rfl) (by kernel_rfl) (by kernel_rfl) (by kernel_rfl) (by kernel_rfl) (fun _ _ _ h => h) (Or.inl ⟨by rfl, ?rb7⟩) (by assumption) ?_
  case rb7 => (intro w hSw; (try dsimp only at hSw); (go_simp <;> with_reducible rfl))
  try simp only [Act.put, List.setIfInBounds_toArray, List.set_cons_zero, List.set_cons_succ]
  refine late_ready (rs := [7]) (by kernel_rfl) (by simp) ?_
  refine LateAll.cons (o := { dst := some 31, op := Go.Op.buildSlice 24 1 #[(0, Go.Operand.tmp 30)], type := 24, pos := "alarm.go:29", after := #[{ on := 6, ground := Go.Ground.data }], guard := none }) rfl (fun K hK => ?_) LateAll.nil
  go_simp
  skip
  first | refine hK.out _ _ ?sb8 (fun h8 => ?_) | (go_wp2_with fail; refine hK.out _ _ ?sb8 (fun h8 => ?_))
  case sb8 => ((try dsimp only); (first | exact QE.out | exact ⟨(((Gr.refl w3).alloc _).drew).cell c0, (((Gr.refl w3).alloc _).drew).cell c1, (((Gr.refl w3).alloc _).drew).cell c2⟩))
  clear hK K h0
  try simp only [Act.put, List.setIfInBounds_toArray, List.set_cons_zero, List.set_cons_succ]
  refine late_ready (rs := [8]) (by kernel_rfl) (by simp) ?_
  refine LateAll.cons (o := { dst := some 32, op := Go.Op.call { callee := Go.Callee.value (Go.Operand.func 61), args := #[Go.Operand.tmp 28, Go.Operand.tmp 29, Go.Operand.tmp 31], argTypes := #[24, 3, 24] }, type := 24, pos := "alarm.go:29", after := #[{ on := 4, ground := Go.Ground.data }, { on := 5, ground := Go.Ground.data }, { on := 7, ground := Go.Ground.data }], guard := none }) rfl (fun K hK => ?_) LateAll.nil
  go_simp
  go_at_call 61
  refine (insA_any (base := b + 1) (i := i) M ⟨k, t⟩ _ HA.out.row hi (by omega) (by have := cell_lt HA.out.rowv; omega) HBA.out HNA.out).mono ?_
  rintro e w5 ⟨v5, rfl, hr, hgr, hfr⟩
  have QE := Lib.hid (show _ ∧ _ ∧ _ from ⟨(World.cell?_of_block (w := (w3.alloc (.cells #[.int .i64 k, .int .i64 t] 39)).drew) (a := ⟨b, 0, none⟩) (hgr.block b (cell_lt HA.out.rowv) (fun e => HA.out.off e.symm))).trans HA.out.rowv, (World.cell?_of_block (w := (w3.alloc (.cells #[.int .i64 k, .int .i64 t] 39)).drew) (a := ⟨p6, 0, none⟩) (hgr.block p6 (HB3.out.gr HGA.out).lt (fun e => HNV.out e.symm))).trans ((HB3.out.gr HGA.out).cell rfl), (World.cell?_of_block (w := (w3.alloc (.cells #[.int .i64 k, .int .i64 t] 39)).drew) (a := ⟨p6, 1, none⟩) (hgr.block p6 (HB3.out.gr HGA.out).lt (fun e => HNV.out e.symm))).trans ((HB3.out.gr HGA.out).cell rfl)⟩)
  have QF := Lib.hid ((World.frozen?_of_block (w := (w3.alloc (.cells #[.int .i64 k, .int .i64 t] 39)).drew) (a := ⟨b, 0, none⟩) (hgr.block b (cell_lt HA.out.rowv) (fun e => HA.out.off e.symm))).trans HA.out.free)
  have QR := Lib.hid hr
  have QT := Lib.hid (HA.out.reset (M := ins M i ⟨k, t⟩) (by rw [ins_len M i _ hi]; exact hr) hgr hfr (by rw [ins_len M i _ hi]; exact hm6))
  obtain ⟨a5, n5, rfl, _⟩ := ownsRow_slice hr
  clear hr hgr hfr
  first | refine hK.out _ _ ?sb9 (fun h9 => ?_) | (go_wp2_with fail; refine hK.out _ _ ?sb9 (fun h9 => ?_))
  case sb9 => ((try dsimp only); (first | exact QE.out | exact ⟨(((Gr.refl w3).alloc _).drew).cell c0, (((Gr.refl w3).alloc _).drew).cell c1, (((Gr.refl w3).alloc _).drew).cell c2⟩))
  clear hK K h8
  try simp only [Act.put, List.setIfInBounds_toArray, List.set_cons_zero, List.set_cons_succ]
  refine late_take (i := 9) (oi := { dst := some 33, op := Go.Op.nilCheck (Go.Operand.tmp 24), type := 0, pos := "alarm.go:29", after := #[{ on := 0, ground := Go.Ground.data }, { on := 0, ground := Go.Ground.phase }, { on := 1, ground := Go.Ground.phase }, { on := 2, ground := Go.Ground.phase }, { on := 3, ground := Go.Ground.phase }, { on := 4, ground := Go.Ground.phase }, { on := 5, ground := Go.Ground.phase }, { on := 6, ground := Go.Ground.phase }, { on := 7, ground := Go.Ground.phase }, { on := 8, ground := Go.Ground.phase }], guard := none }) (v := ?vb10) rfl (by kernel_rfl) (by kernel_rfl) (by kernel_rfl) (by kernel_rfl) (by kernel_rfl) (fun _ _ _ h => h) (Or.inl ⟨by rfl, ?rb10⟩) (by assumption) ?_
  case rb10 => (intro w hSw; (try dsimp only at hSw); (go_simp <;> with_reducible rfl))
  try simp only [Act.put, List.setIfInBounds_toArray, List.set_cons_zero, List.set_cons_succ]
  refine late_take (i := 10) (oi := { dst := some 34, op := Go.Op.fieldAddr 26 (Go.Operand.tmp 33) 0, type := 0, pos := "alarm.go:29", after := #[{ on := 9, ground := Go.Ground.data }, { on := 0, ground := Go.Ground.phase }, { on := 1, ground := Go.Ground.phase }, { on := 2, ground := Go.Ground.phase }, { on := 3, ground := Go.Ground.phase }, { on := 4, ground := Go.Ground.phase }, { on := 5, ground := Go.Ground.phase }, { on := 6, ground := Go.Ground.phase }, { on := 7, ground := Go.Ground.phase }, { on := 8, ground := Go.Ground.phase }], guard := none }) (v := ?vb11) rfl (by kernel_rfl) (by kernel_rfl) (by kernel_rfl) (by kernel_rfl) (by kernel_rfl) (fun _ _ _ h => h) (Or.inl ⟨by rfl, ?rb11⟩) (by assumption) ?_
  case rb11 => (intro w hSw; (try dsimp only at hSw); (go_simp <;> with_reducible rfl))
  try simp only [Act.put, List.setIfInBounds_toArray, List.set_cons_zero, List.set_cons_succ]
  have x0 := QE.out.1
  have x1 := QF.out
  refine late_go (by kernel_rfl) ?_
  refine any_one (i := 11) (o := { dst := none, op := Go.Op.store 24 (Go.Operand.tmp 34) (Go.Operand.tmp 32), type := 0, pos := "alarm.go:29", after := #[{ on := 10, ground := Go.Ground.data }, { on := 8, ground := Go.Ground.data }, { on := 8, ground := Go.Ground.chain }, { on := 0, ground := Go.Ground.phase }, { on := 1, ground := Go.Ground.phase }, { on := 2, ground := Go.Ground.phase }, { on := 3, ground := Go.Ground.phase }, { on := 4, ground := Go.Ground.phase }, { on := 5, ground := Go.Ground.phase }, { on := 6, ground := Go.Ground.phase }, { on := 7, ground := Go.Ground.phase }, { on := 8, ground := Go.Ground.phase }], guard := none }) (by kernel_rfl) rfl (fun K hK => ?_)
  go_simp
  refine hK.out _ _ ?_
  clear hK K
  try simp only [Act.put, List.setIfInBounds_toArray, List.set_cons_zero, List.set_cons_succ]
  refine any_done (by kernel_rfl) ?_
  clear h9 x0 x1
  go_wp2
  go_end0
  exact ⟨rfl, AlTo.from HF1.out HV1.out (((HE2.out ▸ QT.out).gr HGA.out).gr (HG2.out.trans HG3.out))⟩
end Go.Proofs.Ytahohgnkichibaa
