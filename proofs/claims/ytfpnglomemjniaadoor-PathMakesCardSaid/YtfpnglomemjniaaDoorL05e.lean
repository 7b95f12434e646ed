import Derived.Test.YtfpnglomemjniaaDoorL05b
import Derived.Test.YtfpnglomemjniaaDoorF05j
import Derived.Test.YtfpnglomemjniaaDoorF05g
import Derived.WalkKit
import Derived.ProofKit
import Derived.LoopTactic
import Derived.Outline
import Derived.WalkSpells
import Derived.WalkLawsBesides
import Derived.Lib.Hide
import Derived.Deep.LoopGhost
import Derived.Deep.QuietTactic
import Derived.BigQuiet
import Derived.ShutString
import Derived.Lib.MinMax
import Derived.IntWalk
import Derived.Deep.RegionHeld3
namespace Go.Proofs.YtfpnglomemjniaaDoor
open Go.ChangeShapes Go.WideShapes Go.ChangeAt Go.RowKit
set_option linter.unusedVariables false
set_option linter.unusedSimpArgs false
theorem strs_take {w : World} {a : Option Addr} {l : List ByteArray} (h : Strs w a l) (k : Nat) : Strs w a (l.take k) := by
  obtain ⟨h1, h2, h3⟩ := h
  refine ⟨fun s hs => h1 s (List.mem_of_mem_take hs), by rw [List.length_take]; omega, ?_⟩
  rcases h3 with rfl | ⟨b, off, rfl, hc⟩
  · exact .inl (by simp)
  · refine .inr ⟨b, off, rfl, fun i hi => ?_⟩
    have hi' : i < l.length := by rw [List.length_take] at hi; omega
    rw [List.getElem_take]
    exact hc i hi'
theorem parseOf_ptext {l : List ByteArray} (h : okParts l = true) : (parseOf (shown l) = some l) := parseOf_shown h
theorem shown_size {l : List ByteArray} (h : okParts l = true) : (shown l).size ≤ 102 := by
  unfold shown
  split
  · decide
  · simp only [okParts, Bool.and_eq_true, decide_eq_true_eq] at h
    have := ptext_size h.2; omega
theorem dropLast_ok {l : List ByteArray} (h : okParts l = true) : okParts l.dropLast = true := by
  simp only [okParts, Bool.and_eq_true, decide_eq_true_eq, List.all_eq_true] at h ⊢
  exact ⟨by rw [List.length_dropLast]; omega, fun s hs => h.2 s (List.dropLast_subset l hs)⟩
theorem over_dropLast (l : List ByteArray) : overP l.dropLast l = true := by
  unfold overP; rw [decide_eq_true_eq]; exact List.dropLast_prefix l
set_option maxRecDepth 100000 in
set_option maxHeartbeats 3000000 in
theorem pathMakes_walk (ss : List ByteArray) (a : Option Addr) (c : Nat) (w : World) (h : Strs w a ss) (hcap : ss.length ≤ c) (he : ET w) (hm : ML w) :
    Calls Tryd.prog 4 #[.slice a ss.length c] w fun e w' => e = .returned (.bool true) ∧ Gr w w' := by
  have q1 := eqNN
  have q2 := eqIN
  have HS := Lib.hid h
  have HE := Lib.hid he
  have HM := Lib.hid hm
  have hlen := h.2.1
  clear h he hm
  by_cases h9 : 9 < ss.length
  · obtain ⟨b, off, rfl, -⟩ := HS.out.at 0 (by omega)
    have htt : (ss.take 9).length = 9 := by rw [List.length_take]; omega
    have hno : okParts (ss.take 9) = false := okParts_long (by omega)
    have M := fun w h h2 => made_any (some ⟨b, off, none⟩) (ss.take 9) c w h h2
    have R := fun w h => refMade_any (some ⟨b, off, none⟩) (ss.take 9) c w h
    rw [hno] at M R
    rw [htt] at M R
    rw [if_neg (by simp)] at M
    have HT := Lib.hid (strs_take HS.out 9)
    have HMd := Lib.hid M
    have HR := Lib.hid R
    have h9c : 9 ≤ c := by omega
    clear M R htt hno
    go_enter Tryd.func4, Tryd.ntmps4
    go_wp2_with fail
    refine (awake_any _ HE.out HM.out).mono ?_
    rintro e w1 ⟨rfl, hg1⟩
    have HG1 := Lib.hid hg1
    clear hg1
    go_wp2_with fail
    refine (HMd.out _ (HT.out.gr HG1.out) (HE.out.gr HG1.out)).mono ?_
    intro e w2 h2
    obtain ⟨b2, rfl, hch, hg2⟩ := none_is h2
    have HG2 := Lib.hid ((HG1.out.trans hg2).alloc (.cells #[.string ⟨#[]⟩] 24))
    have HC := Lib.hid (hch.gr ((Gr.refl w2).alloc (.cells #[.string ⟨#[]⟩] 24)))
    have c0 : (w2.alloc (.cells #[.string ⟨#[]⟩] 24)).cell? ⟨w2.heap.size, 0, none⟩ = some (.string ⟨#[]⟩) := new_cell rfl rfl
    clear h2 hch hg2
    go_wp2_with fail
    refine (HR.out _ (HT.out.gr HG2.out)).mono ?_
    rintro e w3 ⟨rfl, rfl⟩
    go_wp2_with fail
    refine (code_any _ noL _ (by decide) HC.out (HE.out.gr HG2.out)).mono ?_
    rintro e w4 ⟨rfl, hg4⟩
    have e10 : codeOf noL = 10 := rfl
    rw [e10]
    have c4 := hg4.cell c0
    have HG4 := Lib.hid (HG2.out.trans hg4)
    clear hg4 c0
    go_wp2
    go_ret
    exact ⟨rfl, HG4.out⟩
  · cases hok : okParts ss with
    | false =>
      have M := fun w h h2 => made_any a ss c w h h2
      have R := fun w h => refMade_any a ss c w h
      rw [hok] at M R
      rw [if_neg (by simp)] at M
      have HMd := Lib.hid M
      have HR := Lib.hid R
      clear M R hok
      go_enter Tryd.func4, Tryd.ntmps4
      go_wp2_with fail
      refine (awake_any _ HE.out HM.out).mono ?_
      rintro e w1 ⟨rfl, hg1⟩
      have HG1 := Lib.hid hg1
      clear hg1
      go_wp2_with fail
      refine (HMd.out _ (HS.out.gr HG1.out) (HE.out.gr HG1.out)).mono ?_
      intro e w2 h2
      obtain ⟨b2, rfl, hch, hg2⟩ := none_is h2
      have HG2 := Lib.hid ((HG1.out.trans hg2).alloc (.cells #[.string ⟨#[]⟩] 24))
      have HC := Lib.hid (hch.gr ((Gr.refl w2).alloc (.cells #[.string ⟨#[]⟩] 24)))
      have c0 : (w2.alloc (.cells #[.string ⟨#[]⟩] 24)).cell? ⟨w2.heap.size, 0, none⟩ = some (.string ⟨#[]⟩) := new_cell rfl rfl
      clear h2 hch hg2
      go_wp2_with fail
      refine (HR.out _ (HS.out.gr HG2.out)).mono ?_
      rintro e w3 ⟨rfl, rfl⟩
      go_wp2_with fail
      refine (code_any _ noL _ (by decide) HC.out (HE.out.gr HG2.out)).mono ?_
      rintro e w4 ⟨rfl, hg4⟩
      have e10 : codeOf noL = 10 := rfl
      rw [e10]
      have c4 := hg4.cell c0
      have HG4 := Lib.hid (HG2.out.trans hg4)
      clear hg4 c0
      go_wp2
      go_ret
      exact ⟨rfl, HG4.out⟩
    | true =>
      have l6 : ss.length ≤ 6 := by simp only [okParts, Bool.and_eq_true, decide_eq_true_eq] at hok; exact hok.1
      have M := fun w h h2 => made_any a ss c w h h2
      have R := fun w h => refMade_any a ss c w h
      rw [hok] at M R
      rw [if_pos rfl] at M
      have HMd := Lib.hid M
      have HR := Lib.hid R
      have T := Lib.hid (fun w => text_any ss w)
      have PA := Lib.hid (fun w h h2 => parse_any (shown ss) w (Nat.le_trans (shown_size hok) (by decide)) h h2)
      rw [parseOf_shown hok] at PA
      have U := Lib.hid (fun w => up_any ss w hok)
      have RT := Lib.hid (fun w h => refText_any ss a c w h hok)
      have P1 := Lib.hid (fun w h => parts_any ss w hok h)
      have P2 := Lib.hid (fun w h => parts_any ss.dropLast w (dropLast_ok hok) h)
      have O := Lib.hid (fun w => over_any ss.dropLast ss w (dropLast_ok hok) hok)
      rw [over_dropLast] at O
      have S1 := Lib.hid (fun a b c d w h1 h2 => same_any ss ss a b c d w h1 h2)
      rw [sameP_self] at S1
      have HD : Hid (∀ w', Strs w' a ss → Strs w' a ss.dropLast) := Lib.hid (fun w' h => by rw [List.dropLast_eq_take]; exact strs_take h _)
      have hdl : ss.dropLast.length = ss.length - 1 := List.length_dropLast
      have S2 := Lib.hid (fun a b c d w h1 h2 => (show Calls Tryd.prog 15 #[.slice a (ss.length - 1) c, .slice b (ss.length - 1) d] w fun e w' => e = .returned (.bool true) ∧ Gr w w' from by
        rw [← hdl, ← sameP_self ss.dropLast]; exact same_any ss.dropLast ss.dropLast a b c d w h1 h2))
      have hw1 : IntKind.i64.wrap ((ss.length : Int) - 1) = (ss.length : Int) - 1 := by
        rcases Nat.eq_zero_or_pos ss.length with h | h
        · rw [h]; rfl
        · exact IntWalk.i64_in _ (by omega)
      have hmx : max ((ss.length : Int) - 1) 0 = ((ss.length - 1 : Nat) : Int) := by omega
      obtain ⟨t, ht⟩ : ∃ t, ptext ss = t := ⟨_, rfl⟩
      obtain ⟨u, hu⟩ : ∃ u, ptext ss.dropLast = u := ⟨_, rfl⟩
      obtain ⟨sh, hsh⟩ : ∃ sh, shown ss = sh := ⟨_, rfl⟩
      rw [ht] at T U P1 O
      rw [hu] at U P2 O
      rw [hsh] at T PA RT
      have HTx := Lib.hid ht
      clear M R hok ht hu hsh hdl
      go_enter Tryd.func4, Tryd.ntmps4
      go_wp2_with fail
      refine (awake_any _ HE.out HM.out).mono ?_
      rintro e w1 ⟨rfl, hg1⟩
      have HG1 := Lib.hid hg1
      clear hg1
      go_wp2_with fail
      refine (HMd.out _ (HS.out.gr HG1.out) (HE.out.gr HG1.out)).mono ?_
      intro e w2 h2
      obtain ⟨rfl, hg2⟩ := some_is h2
      rw [HTx.out]
      have HG2 := Lib.hid ((HG1.out.trans hg2).alloc (.cells #[.string t] 24))
      have c0 : (w2.alloc (.cells #[.string t] 24)).cell? ⟨w2.heap.size, 0, none⟩ = some (.string t) := new_cell rfl rfl
      clear h2 hg2
      go_wp2_with fail
      refine (HR.out _ (HS.out.gr HG2.out)).mono ?_
      rintro e w3 ⟨rfl, rfl⟩
      go_wp2_with fail
      refine (T.out _).mono ?_
      rintro e w4 ⟨rfl, hg4⟩
      have HG4 := Lib.hid (HG2.out.trans hg4)
      have C4 := Lib.hid (hg4.cell c0)
      clear hg4 c0
      go_wp2_with fail
      refine (PA.out _ (HE.out.gr HG4.out) (HM.out.gr HG4.out)).mono ?_
      intro e w5 h5
      obtain ⟨rfl, hg5⟩ := some_is h5
      rw [HTx.out]
      have HG5 := Lib.hid ((HG4.out.trans hg5).alloc (.cells #[.string t] 24))
      have c5 := (hg5.alloc (.cells #[.string t] 24)).cell C4.out
      have c6 : (w5.alloc (.cells #[.string t] 24)).cell? ⟨w5.heap.size, 0, none⟩ = some (.string t) := new_cell rfl rfl
      clear h5 hg5 C4
      go_wp2_with fail
      refine (U.out _).mono ?_
      rintro e w6 ⟨rfl, hg6⟩
      have hG := ((HG5.out.trans hg6).alloc (.cells #[.string u] 24))
      have c1 := (hg6.alloc (.cells #[.string u] 24)).cell c5
      have c2 := (hg6.alloc (.cells #[.string u] 24)).cell c6
      have c3 : (w6.alloc (.cells #[.string u] 24)).cell? ⟨w6.heap.size, 0, none⟩ = some (.string u) := new_cell rfl rfl
      clear hg6 c5 c6 HG5 HG4 HG2 HG1
      go_wp2
      generalize (w6.alloc (.cells #[.string u] 24)) = wr at *
      generalize w6.heap.size = p3 at *
      generalize w5.heap.size = p2 at *
      generalize w2.heap.size = p1 at *
      have HS0 := And.intro hG (And.intro c1 (And.intro c2 (And.intro c3 (HS.out.gr hG))))
      have HX : Hid (∀ w0 w9 : World, Gr w0 w9 → Gr w w0 ∧ w0.cell? ⟨p1, 0, none⟩ = some (.string t) ∧ w0.cell? ⟨p2, 0, none⟩ = some (.string t) ∧ w0.cell? ⟨p3, 0, none⟩ = some (.string u) ∧ Strs w0 a ss → Gr w w9 ∧ w9.cell? ⟨p1, 0, none⟩ = some (.string t) ∧ w9.cell? ⟨p2, 0, none⟩ = some (.string t) ∧ w9.cell? ⟨p3, 0, none⟩ = some (.string u) ∧ Strs w9 a ss) :=
        Lib.hid fun w0 w9 hg ⟨h1, h2, h3, h4, h5⟩ => ⟨h1.trans hg, hg.cell h2, hg.cell h3, hg.cell h4, h5.gr hg⟩
      clear hG c1 c2 c3
      rcases a with _ | ap
      · skip
        refine wp_region_held_drew (S := (fun w' => Gr w w' ∧ w'.cell? ⟨p1, 0, none⟩ = some (.string t) ∧ w'.cell? ⟨p2, 0, none⟩ = some (.string t) ∧ w'.cell? ⟨p3, 0, none⟩ = some (.string u) ∧ Strs w' none ss)) (by kernel_rfl) ?inva (fun h0 => ?_)
        case inva => ((try dsimp only); (first | exact HS0 | exact HX.out _ _ ((Gr.refl _).drew) HS0))
        refine wpAnyH_take (i := 0) (oi := { dst := some 39, op := Go.Op.move (Go.Operand.tmp 4), type := 26, pos := "law.go:73", after := #[], guard := none }) (v := ?va0) rfl (by kernel_rfl) (by kernel_rfl) (by kernel_rfl) (fun _ _ _ h => h) (Or.inl ⟨by rfl, ?ra0⟩) (by assumption) ?_
        case ra0 => (intro w hSw; (try dsimp only at hSw); (go_simp <;> with_reducible rfl))
        try simp only [Act.put, List.setIfInBounds_toArray, List.set_cons_zero, List.set_cons_succ]
        refine wpAnyH_take (i := 1) (oi := { dst := some 40, op := Go.Op.binOp Go.BinOp.eql 26 (Go.Operand.tmp 39) (Go.Operand.const Go.Value.nilIface) 26, type := 4, pos := "law.go:73", after := #[{ on := 0, ground := Go.Ground.data }], guard := none }) (v := ?va1) rfl (by kernel_rfl) (by kernel_rfl) (by kernel_rfl) (fun _ _ _ h => h) (Or.inl ⟨by rfl, ?ra1⟩) (by assumption) ?_
        case ra1 => (intro w hSw; (try dsimp only at hSw); (go_simp <;> with_reducible rfl))
        try simp only [Act.put, List.setIfInBounds_toArray, List.set_cons_zero, List.set_cons_succ]
        refine wpAnyH_take (i := 2) (oi := { dst := some 41, op := Go.Op.move (Go.Operand.tmp 40), type := 4, pos := "law.go:73", after := #[{ on := 1, ground := Go.Ground.data }], guard := none }) (v := ?va2) rfl (by kernel_rfl) (by kernel_rfl) (by kernel_rfl) (fun _ _ _ h => h) (Or.inl ⟨by rfl, ?ra2⟩) (by assumption) ?_
        case ra2 => (intro w hSw; (try dsimp only at hSw); (go_simp <;> with_reducible rfl))
        try simp only [Act.put, List.setIfInBounds_toArray, List.set_cons_zero, List.set_cons_succ]
        refine wpAnyH_take (i := 3) (oi := { dst := some 42, op := Go.Op.load 24 (Go.Operand.tmp 3), type := 24, pos := "law.go:73", after := #[{ on := 2, ground := Go.Ground.guard }], guard := some (2, true) }) (v := ?va3) rfl (by kernel_rfl) (by kernel_rfl) (by kernel_rfl) (fun _ _ _ h => h) (Or.inl ⟨by rfl, ?ra3⟩) (by assumption) ?_
        case ra3 => (intro w hSw; (try dsimp only at hSw); (go_simp <;> with_reducible rfl))
        try simp only [Act.put, List.setIfInBounds_toArray, List.set_cons_zero, List.set_cons_succ]
        refine wpAnyH_take (i := 5) (oi := { dst := some 44, op := Go.Op.move (Go.Operand.tmp 0), type := 29, pos := "law.go:73", after := #[{ on := 2, ground := Go.Ground.guard }], guard := some (2, true) }) (v := ?va5) rfl (by kernel_rfl) (by kernel_rfl) (by kernel_rfl) (fun _ _ _ h => h) (Or.inl ⟨by rfl, ?ra5⟩) (by assumption) ?_
        case ra5 => (intro w hSw; (try dsimp only at hSw); (go_simp <;> with_reducible rfl))
        try simp only [Act.put, List.setIfInBounds_toArray, List.set_cons_zero, List.set_cons_succ]
        refine wpAnyH_ready (rs := [4]) (by kernel_rfl) (by simp) ?_
        refine AllReadyH.cons (o := { dst := some 43, op := Go.Op.call { callee := Go.Callee.value (Go.Operand.func 17), args := #[Go.Operand.tmp 42], argTypes := #[24] }, type := 9, pos := "law.go:73", after := #[{ on := 3, ground := Go.Ground.data }, { on := 2, ground := Go.Ground.chain }, { on := 2, ground := Go.Ground.guard }], guard := some (2, true) }) rfl (fun K hK => ?_) AllReadyH.nil
        go_simp
        (go_at_call 17; refine (T.out _).mono ?_; rintro e w9 ⟨rfl, hgN⟩)
        first | refine hK.out _ _ ?sa1 (fun h1 => ?_) | (go_wp2_with fail; refine hK.out _ _ ?sa1 (fun h1 => ?_))
        case sa1 => ((try dsimp only); (first | exact HX.out _ _ hgN h0 | exact h0))
        clear hK K h0
        try simp only [Act.put, List.setIfInBounds_toArray, List.set_cons_zero, List.set_cons_succ]
        refine wpAnyH_ready (rs := [6]) (by kernel_rfl) (by simp) ?_
        refine AllReadyH.cons (o := { dst := some 45, op := Go.Op.call { callee := Go.Callee.value (Go.Operand.func 23), args := #[Go.Operand.tmp 44], argTypes := #[29] }, type := 9, pos := "law.go:73", after := #[{ on := 5, ground := Go.Ground.data }, { on := 4, ground := Go.Ground.chain }, { on := 2, ground := Go.Ground.guard }], guard := some (2, true) }) rfl (fun K hK => ?_) AllReadyH.nil
        go_simp
        (go_at_call 23; refine (RT.out _ h1.2.2.2.2).mono ?_; rintro e w9 ⟨rfl, rfl⟩)
        first | refine hK.out _ _ ?sa2 (fun h2 => ?_) | (go_wp2_with fail; refine hK.out _ _ ?sa2 (fun h2 => ?_))
        case sa2 => ((try dsimp only); (first | exact HX.out _ _ hgN h1 | exact h1))
        clear hK K h1
        try simp only [Act.put, List.setIfInBounds_toArray, List.set_cons_zero, List.set_cons_succ]
        refine wpAnyH_take (i := 7) (oi := { dst := some 46, op := Go.Op.binOp Go.BinOp.eql 9 (Go.Operand.tmp 43) (Go.Operand.tmp 45) 9, type := 4, pos := "law.go:73", after := #[{ on := 4, ground := Go.Ground.data }, { on := 6, ground := Go.Ground.data }, { on := 2, ground := Go.Ground.guard }], guard := some (2, true) }) (v := ?va7) rfl (by kernel_rfl) (by kernel_rfl) (by kernel_rfl) (fun _ _ _ h => h) (Or.inl ⟨by rfl, ?ra7⟩) (by assumption) ?_
        case ra7 => (intro w hSw; (try dsimp only at hSw); (go_simp <;> with_reducible rfl))
        try simp only [Act.put, List.setIfInBounds_toArray, List.set_cons_zero, List.set_cons_succ]
        refine wpAnyH_take (i := 8) (oi := { dst := some 47, op := Go.Op.pick (Go.Operand.tmp 41) (Go.Operand.tmp 46) (Go.Operand.const (Go.Value.bool false)), type := 4, pos := "law.go:73", after := #[{ on := 2, ground := Go.Ground.data }, { on := 7, ground := Go.Ground.data }], guard := none }) (v := ?va8) rfl (by kernel_rfl) (by kernel_rfl) (by kernel_rfl) (fun _ _ _ h => h) (Or.inl ⟨by rfl, ?ra8⟩) (by assumption) ?_
        case ra8 => (intro w hSw; (try dsimp only at hSw); (go_simp <;> with_reducible rfl))
        try simp only [Act.put, List.setIfInBounds_toArray, List.set_cons_zero, List.set_cons_succ]
        refine wpAnyH_take (i := 9) (oi := { dst := some 48, op := Go.Op.move (Go.Operand.tmp 47), type := 4, pos := "law.go:73", after := #[{ on := 8, ground := Go.Ground.data }, { on := 6, ground := Go.Ground.chain }], guard := none }) (v := ?va9) rfl (by kernel_rfl) (by kernel_rfl) (by kernel_rfl) (fun _ _ _ h => h) (Or.inl ⟨by rfl, ?ra9⟩) (by assumption) ?_
        case ra9 => (intro w hSw; (try dsimp only at hSw); (go_simp <;> with_reducible rfl))
        try simp only [Act.put, List.setIfInBounds_toArray, List.set_cons_zero, List.set_cons_succ]
        refine wpAnyH_take (i := 10) (oi := { dst := some 49, op := Go.Op.load 24 (Go.Operand.tmp 3), type := 24, pos := "law.go:73", after := #[{ on := 9, ground := Go.Ground.guard }], guard := some (9, true) }) (v := ?va10) rfl (by kernel_rfl) (by kernel_rfl) (by kernel_rfl) (fun _ _ _ h => h) (Or.inl ⟨by rfl, ?ra10⟩) (by assumption) ?_
        case ra10 => (intro w hSw; (try dsimp only at hSw); (go_simp <;> with_reducible rfl))
        try simp only [Act.put, List.setIfInBounds_toArray, List.set_cons_zero, List.set_cons_succ]
        refine wpAnyH_take (i := 12) (oi := { dst := some 51, op := Go.Op.move (Go.Operand.tmp 0), type := 29, pos := "law.go:73", after := #[{ on := 9, ground := Go.Ground.guard }], guard := some (9, true) }) (v := ?va12) rfl (by kernel_rfl) (by kernel_rfl) (by kernel_rfl) (fun _ _ _ h => h) (Or.inl ⟨by rfl, ?ra12⟩) (by assumption) ?_
        case ra12 => (intro w hSw; (try dsimp only at hSw); (go_simp <;> with_reducible rfl))
        try simp only [Act.put, List.setIfInBounds_toArray, List.set_cons_zero, List.set_cons_succ]
        refine wpAnyH_ready (rs := [11]) (by kernel_rfl) (by simp) ?_
        refine AllReadyH.cons (o := { dst := some 50, op := Go.Op.call { callee := Go.Callee.value (Go.Operand.func 18), args := #[Go.Operand.tmp 49], argTypes := #[24] }, type := 29, pos := "law.go:73", after := #[{ on := 10, ground := Go.Ground.data }, { on := 9, ground := Go.Ground.chain }, { on := 9, ground := Go.Ground.guard }], guard := some (9, true) }) rfl (fun K hK => ?_) AllReadyH.nil
        go_simp
        (go_at_call 18; refine (P1.out _ (HM.out.gr h2.1)).mono ?_; rintro e w9 ⟨a5, k5, rfl, hs5, hgN⟩)
        first | refine hK.out _ _ ?sa3 (fun h3 => ?_) | (go_wp2_with fail; refine hK.out _ _ ?sa3 (fun h3 => ?_))
        case sa3 => ((try dsimp only); (first | exact HX.out _ _ hgN h2 | exact h2))
        clear hK K h2
        try simp only [Act.put, List.setIfInBounds_toArray, List.set_cons_zero, List.set_cons_succ]
        refine wpAnyH_ready (rs := [13]) (by kernel_rfl) (by simp) ?_
        refine AllReadyH.cons (o := { dst := some 52, op := Go.Op.call { callee := Go.Callee.value (Go.Operand.func 15), args := #[Go.Operand.tmp 50, Go.Operand.tmp 51], argTypes := #[29, 29] }, type := 4, pos := "law.go:73", after := #[{ on := 11, ground := Go.Ground.data }, { on := 12, ground := Go.Ground.data }, { on := 11, ground := Go.Ground.chain }, { on := 9, ground := Go.Ground.guard }], guard := some (9, true) }) rfl (fun K hK => ?_) AllReadyH.nil
        go_simp
        (go_at_call 15; refine (S1.out _ _ _ _ _ hs5 h3.2.2.2.2).mono ?_; rintro e w9 ⟨rfl, hgN⟩)
        first | refine hK.out _ _ ?sa4 (fun h4 => ?_) | (go_wp2_with fail; refine hK.out _ _ ?sa4 (fun h4 => ?_))
        case sa4 => ((try dsimp only); (first | exact HX.out _ _ hgN h3 | exact h3))
        clear hK K h3
        try simp only [Act.put, List.setIfInBounds_toArray, List.set_cons_zero, List.set_cons_succ]
        refine wpAnyH_take (i := 14) (oi := { dst := some 53, op := Go.Op.pick (Go.Operand.tmp 48) (Go.Operand.tmp 52) (Go.Operand.const (Go.Value.bool false)), type := 4, pos := "law.go:73", after := #[{ on := 9, ground := Go.Ground.data }, { on := 13, ground := Go.Ground.data }], guard := none }) (v := ?va14) rfl (by kernel_rfl) (by kernel_rfl) (by kernel_rfl) (fun _ _ _ h => h) (Or.inl ⟨by rfl, ?ra14⟩) (by assumption) ?_
        case ra14 => (intro w hSw; (try dsimp only at hSw); (go_simp <;> with_reducible rfl))
        try simp only [Act.put, List.setIfInBounds_toArray, List.set_cons_zero, List.set_cons_succ]
        refine wpAnyH_take (i := 15) (oi := { dst := some 54, op := Go.Op.move (Go.Operand.tmp 53), type := 4, pos := "law.go:73", after := #[{ on := 14, ground := Go.Ground.data }, { on := 13, ground := Go.Ground.chain }], guard := none }) (v := ?va15) rfl (by kernel_rfl) (by kernel_rfl) (by kernel_rfl) (fun _ _ _ h => h) (Or.inl ⟨by rfl, ?ra15⟩) (by assumption) ?_
        case ra15 => (intro w hSw; (try dsimp only at hSw); (go_simp <;> with_reducible rfl))
        try simp only [Act.put, List.setIfInBounds_toArray, List.set_cons_zero, List.set_cons_succ]
        refine wpAnyH_take (i := 16) (oi := { dst := some 55, op := Go.Op.move (Go.Operand.tmp 6), type := 26, pos := "law.go:73", after := #[{ on := 15, ground := Go.Ground.guard }], guard := some (15, true) }) (v := ?va16) rfl (by kernel_rfl) (by kernel_rfl) (by kernel_rfl) (fun _ _ _ h => h) (Or.inl ⟨by rfl, ?ra16⟩) (by assumption) ?_
        case ra16 => (intro w hSw; (try dsimp only at hSw); (go_simp <;> with_reducible rfl))
        try simp only [Act.put, List.setIfInBounds_toArray, List.set_cons_zero, List.set_cons_succ]
        refine wpAnyH_take (i := 17) (oi := { dst := some 56, op := Go.Op.binOp Go.BinOp.eql 26 (Go.Operand.tmp 55) (Go.Operand.const Go.Value.nilIface) 26, type := 4, pos := "law.go:73", after := #[{ on := 16, ground := Go.Ground.data }, { on := 15, ground := Go.Ground.guard }], guard := some (15, true) }) (v := ?va17) rfl (by kernel_rfl) (by kernel_rfl) (by kernel_rfl) (fun _ _ _ h => h) (Or.inl ⟨by rfl, ?ra17⟩) (by assumption) ?_
        case ra17 => (intro w hSw; (try dsimp only at hSw); (go_simp <;> with_reducible rfl))
        try simp only [Act.put, List.setIfInBounds_toArray, List.set_cons_zero, List.set_cons_succ]
        refine wpAnyH_take (i := 18) (oi := { dst := some 57, op := Go.Op.pick (Go.Operand.tmp 54) (Go.Operand.tmp 56) (Go.Operand.const (Go.Value.bool false)), type := 4, pos := "law.go:73", after := #[{ on := 15, ground := Go.Ground.data }, { on := 17, ground := Go.Ground.data }], guard := none }) (v := ?va18) rfl (by kernel_rfl) (by kernel_rfl) (by kernel_rfl) (fun _ _ _ h => h) (Or.inl ⟨by rfl, ?ra18⟩) (by assumption) ?_
        case ra18 => (intro w hSw; (try dsimp only at hSw); (go_simp <;> with_reducible rfl))
        try simp only [Act.put, List.setIfInBounds_toArray, List.set_cons_zero, List.set_cons_succ]
        refine wpAnyH_take (i := 19) (oi := { dst := some 58, op := Go.Op.move (Go.Operand.tmp 57), type := 4, pos := "law.go:73", after := #[{ on := 18, ground := Go.Ground.data }, { on := 15, ground := Go.Ground.chain }], guard := none }) (v := ?va19) rfl (by kernel_rfl) (by kernel_rfl) (by kernel_rfl) (fun _ _ _ h => h) (Or.inl ⟨by rfl, ?ra19⟩) (by assumption) ?_
        case ra19 => (intro w hSw; (try dsimp only at hSw); (go_simp <;> with_reducible rfl))
        try simp only [Act.put, List.setIfInBounds_toArray, List.set_cons_zero, List.set_cons_succ]
        refine wpAnyH_take (i := 20) (oi := { dst := some 59, op := Go.Op.load 24 (Go.Operand.tmp 3), type := 24, pos := "law.go:73", after := #[{ on := 19, ground := Go.Ground.guard }], guard := some (19, true) }) (v := ?va20) rfl (by kernel_rfl) (by kernel_rfl) (by kernel_rfl) (fun _ _ _ h => h) (Or.inl ⟨by rfl, ?ra20⟩) (by assumption) ?_
        case ra20 => (intro w hSw; (try dsimp only at hSw); (go_simp <;> with_reducible rfl))
        try simp only [Act.put, List.setIfInBounds_toArray, List.set_cons_zero, List.set_cons_succ]
        refine wpAnyH_take (i := 21) (oi := { dst := some 60, op := Go.Op.load 24 (Go.Operand.tmp 5), type := 24, pos := "law.go:73", after := #[{ on := 19, ground := Go.Ground.guard }], guard := some (19, true) }) (v := ?va21) rfl (by kernel_rfl) (by kernel_rfl) (by kernel_rfl) (fun _ _ _ h => h) (Or.inl ⟨by rfl, ?ra21⟩) (by assumption) ?_
        case ra21 => (intro w hSw; (try dsimp only at hSw); (go_simp <;> with_reducible rfl))
        try simp only [Act.put, List.setIfInBounds_toArray, List.set_cons_zero, List.set_cons_succ]
        refine wpAnyH_take (i := 22) (oi := { dst := some 61, op := Go.Op.binOp Go.BinOp.eql 24 (Go.Operand.tmp 59) (Go.Operand.tmp 60) 24, type := 4, pos := "law.go:73", after := #[{ on := 20, ground := Go.Ground.data }, { on := 21, ground := Go.Ground.data }, { on := 19, ground := Go.Ground.guard }], guard := some (19, true) }) (v := ?va22) rfl (by kernel_rfl) (by kernel_rfl) (by kernel_rfl) (fun _ _ _ h => h) (Or.inl ⟨by rfl, ?ra22⟩) (by assumption) ?_
        case ra22 => (intro w hSw; (try dsimp only at hSw); (go_simp <;> with_reducible rfl))
        try simp only [Act.put, List.setIfInBounds_toArray, List.set_cons_zero, List.set_cons_succ]
        refine wpAnyH_take (i := 23) (oi := { dst := some 62, op := Go.Op.pick (Go.Operand.tmp 58) (Go.Operand.tmp 61) (Go.Operand.const (Go.Value.bool false)), type := 4, pos := "law.go:73", after := #[{ on := 19, ground := Go.Ground.data }, { on := 22, ground := Go.Ground.data }], guard := none }) (v := ?va23) rfl (by kernel_rfl) (by kernel_rfl) (by kernel_rfl) (fun _ _ _ h => h) (Or.inl ⟨by rfl, ?ra23⟩) (by assumption) ?_
        case ra23 => (intro w hSw; (try dsimp only at hSw); (go_simp <;> with_reducible rfl))
        try simp only [Act.put, List.setIfInBounds_toArray, List.set_cons_zero, List.set_cons_succ]
        refine wpAnyH_take (i := 24) (oi := { dst := some 63, op := Go.Op.move (Go.Operand.tmp 62), type := 4, pos := "law.go:73", after := #[{ on := 23, ground := Go.Ground.data }, { on := 19, ground := Go.Ground.chain }], guard := none }) (v := ?va24) rfl (by kernel_rfl) (by kernel_rfl) (by kernel_rfl) (fun _ _ _ h => h) (Or.inl ⟨by rfl, ?ra24⟩) (by assumption) ?_
        case ra24 => (intro w hSw; (try dsimp only at hSw); (go_simp <;> with_reducible rfl))
        try simp only [Act.put, List.setIfInBounds_toArray, List.set_cons_zero, List.set_cons_succ]
        refine wpAnyH_take (i := 25) (oi := { dst := some 64, op := Go.Op.load 24 (Go.Operand.tmp 7), type := 24, pos := "law.go:73", after := #[{ on := 24, ground := Go.Ground.guard }], guard := some (24, true) }) (v := ?va25) rfl (by kernel_rfl) (by kernel_rfl) (by kernel_rfl) (fun _ _ _ h => h) (Or.inl ⟨by rfl, ?ra25⟩) (by assumption) ?_
        case ra25 => (intro w hSw; (try dsimp only at hSw); (go_simp <;> with_reducible rfl))
        try simp only [Act.put, List.setIfInBounds_toArray, List.set_cons_zero, List.set_cons_succ]
        refine wpAnyH_take (i := 27) (oi := { dst := some 66, op := Go.Op.move (Go.Operand.tmp 0), type := 29, pos := "law.go:73", after := #[{ on := 24, ground := Go.Ground.guard }], guard := some (24, true) }) (v := ?va27) rfl (by kernel_rfl) (by kernel_rfl) (by kernel_rfl) (fun _ _ _ h => h) (Or.inl ⟨by rfl, ?ra27⟩) (by assumption) ?_
        case ra27 => (intro w hSw; (try dsimp only at hSw); (go_simp <;> with_reducible rfl))
        try simp only [Act.put, List.setIfInBounds_toArray, List.set_cons_zero, List.set_cons_succ]
        refine wpAnyH_take (i := 28) (oi := { dst := some 67, op := Go.Op.move (Go.Operand.tmp 0), type := 29, pos := "law.go:73", after := #[{ on := 24, ground := Go.Ground.guard }], guard := some (24, true) }) (v := ?va28) rfl (by kernel_rfl) (by kernel_rfl) (by kernel_rfl) (fun _ _ _ h => h) (Or.inl ⟨by rfl, ?ra28⟩) (by assumption) ?_
        case ra28 => (intro w hSw; (try dsimp only at hSw); (go_simp <;> with_reducible rfl))
        try simp only [Act.put, List.setIfInBounds_toArray, List.set_cons_zero, List.set_cons_succ]
        refine wpAnyH_take (i := 29) (oi := { dst := some 68, op := Go.Op.call { callee := Go.Callee.builtin Go.Builtin.len, args := #[Go.Operand.tmp 67], argTypes := #[29] }, type := 3, pos := "law.go:73", after := #[{ on := 28, ground := Go.Ground.data }, { on := 24, ground := Go.Ground.guard }], guard := some (24, true) }) (v := ?va29) rfl (by kernel_rfl) (by kernel_rfl) (by kernel_rfl) (fun _ _ _ h => h) (Or.inl ⟨by rfl, ?ra29⟩) (by assumption) ?_
        case ra29 => (intro w hSw; (try dsimp only at hSw); (go_simp <;> with_reducible rfl))
        try simp only [Act.put, List.setIfInBounds_toArray, List.set_cons_zero, List.set_cons_succ]
        refine wpAnyH_take (i := 30) (oi := { dst := some 69, op := Go.Op.binOp Go.BinOp.sub 3 (Go.Operand.tmp 68) (Go.Operand.const (Go.Value.int Go.IntKind.i64 1)) 3, type := 3, pos := "law.go:73", after := #[{ on := 29, ground := Go.Ground.data }, { on := 24, ground := Go.Ground.guard }], guard := some (24, true) }) (v := ?va30) rfl (by kernel_rfl) (by kernel_rfl) (by kernel_rfl) (fun _ _ _ h => h) (Or.inl ⟨by rfl, ?ra30⟩) (by assumption) ?_
        case ra30 => (intro w hSw; (try dsimp only at hSw); (go_simp <;> with_reducible rfl))
        try simp only [Act.put, List.setIfInBounds_toArray, List.set_cons_zero, List.set_cons_succ]
        refine wpAnyH_take (i := 31) (oi := { dst := some 70, op := Go.Op.call { callee := Go.Callee.builtin Go.Builtin.max, args := #[Go.Operand.tmp 69, Go.Operand.const (Go.Value.int Go.IntKind.i64 0)], argTypes := #[3, 3] }, type := 3, pos := "law.go:73", after := #[{ on := 30, ground := Go.Ground.data }, { on := 24, ground := Go.Ground.guard }], guard := some (24, true) }) (v := ?va31) rfl (by kernel_rfl) (by kernel_rfl) (by kernel_rfl) (fun _ _ _ h => h) (Or.inl ⟨by rfl, ?ra31⟩) (by assumption) ?_
        case ra31 => (intro w hSw; (try dsimp only at hSw); (go_simp <;> with_reducible rfl))
        try simp only [Act.put, List.setIfInBounds_toArray, List.set_cons_zero, List.set_cons_succ]
        refine wpAnyH_take (i := 32) (oi := { dst := some 71, op := Go.Op.slice 29 (Go.Operand.tmp 66) none (some (Go.Operand.tmp 70)) none, type := 29, pos := "law.go:73", after := #[{ on := 27, ground := Go.Ground.data }, { on := 31, ground := Go.Ground.data }, { on := 24, ground := Go.Ground.guard }], guard := some (24, true) }) (v := .slice none (ss.length - 1) c) rfl (by kernel_rfl) (by kernel_rfl) (by kernel_rfl) (fun _ _ _ h => h) (Or.inl ⟨by rfl, ?ra32⟩) (by assumption) ?_
        case ra32 => (intro w hSw; (try dsimp only at hSw); go_simp; (first | done | (rw [if_pos (show ss.length ≤ c + 1 by omega)]) | (intro h; exfalso; omega) | (simp; omega)))
        try simp only [Act.put, List.setIfInBounds_toArray, List.set_cons_zero, List.set_cons_succ]
        refine wpAnyH_ready (rs := [26]) (by kernel_rfl) (by simp) ?_
        refine AllReadyH.cons (o := { dst := some 65, op := Go.Op.call { callee := Go.Callee.value (Go.Operand.func 18), args := #[Go.Operand.tmp 64], argTypes := #[24] }, type := 29, pos := "law.go:73", after := #[{ on := 25, ground := Go.Ground.data }, { on := 24, ground := Go.Ground.chain }, { on := 24, ground := Go.Ground.guard }], guard := some (24, true) }) rfl (fun K hK => ?_) AllReadyH.nil
        go_simp
        (go_at_call 18; refine (P2.out _ (HM.out.gr h4.1)).mono ?_; rintro e w9 ⟨a6, k6, rfl, hs6, hgN⟩)
        first | refine hK.out _ _ ?sa5 (fun h5 => ?_) | (go_wp2_with fail; refine hK.out _ _ ?sa5 (fun h5 => ?_))
        case sa5 => ((try dsimp only); (first | exact HX.out _ _ hgN h4 | exact h4))
        clear hK K h4
        try simp only [Act.put, List.setIfInBounds_toArray, List.set_cons_zero, List.set_cons_succ]
        refine wpAnyH_ready (rs := [33]) (by kernel_rfl) (by simp) ?_
        refine AllReadyH.cons (o := { dst := some 72, op := Go.Op.call { callee := Go.Callee.value (Go.Operand.func 15), args := #[Go.Operand.tmp 65, Go.Operand.tmp 71], argTypes := #[29, 29] }, type := 4, pos := "law.go:73", after := #[{ on := 26, ground := Go.Ground.data }, { on := 32, ground := Go.Ground.data }, { on := 26, ground := Go.Ground.chain }, { on := 24, ground := Go.Ground.guard }], guard := some (24, true) }) rfl (fun K hK => ?_) AllReadyH.nil
        go_simp
        (go_at_call 15; refine (S2.out _ _ _ _ _ hs6 (HD.out _ h5.2.2.2.2)).mono ?_; rintro e w9 ⟨rfl, hgN⟩)
        first | refine hK.out _ _ ?sa6 (fun h6 => ?_) | (go_wp2_with fail; refine hK.out _ _ ?sa6 (fun h6 => ?_))
        case sa6 => ((try dsimp only); (first | exact HX.out _ _ hgN h5 | exact h5))
        clear hK K h5
        try simp only [Act.put, List.setIfInBounds_toArray, List.set_cons_zero, List.set_cons_succ]
        refine wpAnyH_take (i := 34) (oi := { dst := some 73, op := Go.Op.pick (Go.Operand.tmp 63) (Go.Operand.tmp 72) (Go.Operand.const (Go.Value.bool false)), type := 4, pos := "law.go:73", after := #[{ on := 24, ground := Go.Ground.data }, { on := 33, ground := Go.Ground.data }], guard := none }) (v := ?va34) rfl (by kernel_rfl) (by kernel_rfl) (by kernel_rfl) (fun _ _ _ h => h) (Or.inl ⟨by rfl, ?ra34⟩) (by assumption) ?_
        case ra34 => (intro w hSw; (try dsimp only at hSw); (go_simp <;> with_reducible rfl))
        try simp only [Act.put, List.setIfInBounds_toArray, List.set_cons_zero, List.set_cons_succ]
        refine wpAnyH_take (i := 35) (oi := { dst := some 74, op := Go.Op.move (Go.Operand.tmp 73), type := 4, pos := "law.go:73", after := #[{ on := 34, ground := Go.Ground.data }, { on := 33, ground := Go.Ground.chain }], guard := none }) (v := ?va35) rfl (by kernel_rfl) (by kernel_rfl) (by kernel_rfl) (fun _ _ _ h => h) (Or.inl ⟨by rfl, ?ra35⟩) (by assumption) ?_
        case ra35 => (intro w hSw; (try dsimp only at hSw); (go_simp <;> with_reducible rfl))
        try simp only [Act.put, List.setIfInBounds_toArray, List.set_cons_zero, List.set_cons_succ]
        refine wpAnyH_take (i := 36) (oi := { dst := some 75, op := Go.Op.load 24 (Go.Operand.tmp 7), type := 24, pos := "law.go:73", after := #[{ on := 35, ground := Go.Ground.guard }], guard := some (35, true) }) (v := ?va36) rfl (by kernel_rfl) (by kernel_rfl) (by kernel_rfl) (fun _ _ _ h => h) (Or.inl ⟨by rfl, ?ra36⟩) (by assumption) ?_
        case ra36 => (intro w hSw; (try dsimp only at hSw); (go_simp <;> with_reducible rfl))
        try simp only [Act.put, List.setIfInBounds_toArray, List.set_cons_zero, List.set_cons_succ]
        refine wpAnyH_take (i := 37) (oi := { dst := some 76, op := Go.Op.load 24 (Go.Operand.tmp 3), type := 24, pos := "law.go:73", after := #[{ on := 35, ground := Go.Ground.guard }], guard := some (35, true) }) (v := ?va37) rfl (by kernel_rfl) (by kernel_rfl) (by kernel_rfl) (fun _ _ _ h => h) (Or.inl ⟨by rfl, ?ra37⟩) (by assumption) ?_
        case ra37 => (intro w hSw; (try dsimp only at hSw); (go_simp <;> with_reducible rfl))
        try simp only [Act.put, List.setIfInBounds_toArray, List.set_cons_zero, List.set_cons_succ]
        refine wpAnyH_ready (rs := [38]) (by kernel_rfl) (by simp) ?_
        refine AllReadyH.cons (o := { dst := some 77, op := Go.Op.call { callee := Go.Callee.value (Go.Operand.func 24), args := #[Go.Operand.tmp 75, Go.Operand.tmp 76], argTypes := #[24, 24] }, type := 4, pos := "law.go:73", after := #[{ on := 36, ground := Go.Ground.data }, { on := 37, ground := Go.Ground.data }, { on := 35, ground := Go.Ground.chain }, { on := 35, ground := Go.Ground.guard }], guard := some (35, true) }) rfl (fun K hK => ?_) AllReadyH.nil
        go_simp
        (go_at_call 24; refine (O.out _).mono ?_; rintro e w9 ⟨rfl, hgN⟩)
        first | refine hK.out _ _ ?sa7 (fun h7 => ?_) | (go_wp2_with fail; refine hK.out _ _ ?sa7 (fun h7 => ?_))
        case sa7 => ((try dsimp only); (first | exact HX.out _ _ hgN h6 | exact h6))
        clear hK K h6
        try simp only [Act.put, List.setIfInBounds_toArray, List.set_cons_zero, List.set_cons_succ]
        refine wpAnyH_take (i := 39) (oi := { dst := some 78, op := Go.Op.pick (Go.Operand.tmp 74) (Go.Operand.tmp 77) (Go.Operand.const (Go.Value.bool false)), type := 4, pos := "law.go:73", after := #[{ on := 35, ground := Go.Ground.data }, { on := 38, ground := Go.Ground.data }], guard := none }) (v := ?va39) rfl (by kernel_rfl) (by kernel_rfl) (by kernel_rfl) (fun _ _ _ h => h) (Or.inl ⟨by rfl, ?ra39⟩) (by assumption) ?_
        case ra39 => (intro w hSw; (try dsimp only at hSw); (go_simp <;> with_reducible rfl))
        try simp only [Act.put, List.setIfInBounds_toArray, List.set_cons_zero, List.set_cons_succ]
        refine wpAnyH_take (i := 40) (oi := { dst := some 2, op := Go.Op.assign (Go.Operand.tmp 78), type := 4, pos := "law.go:73", after := #[{ on := 39, ground := Go.Ground.data }, { on := 38, ground := Go.Ground.chain }, { on := 0, ground := Go.Ground.phase }, { on := 1, ground := Go.Ground.phase }, { on := 2, ground := Go.Ground.phase }, { on := 3, ground := Go.Ground.phase }, { on := 4, ground := Go.Ground.phase }, { on := 5, ground := Go.Ground.phase }, { on := 6, ground := Go.Ground.phase }, { on := 7, ground := Go.Ground.phase }, { on := 8, ground := Go.Ground.phase }, { on := 9, ground := Go.Ground.phase }, { on := 10, ground := Go.Ground.phase }, { on := 11, ground := Go.Ground.phase }, { on := 12, ground := Go.Ground.phase }, { on := 13, ground := Go.Ground.phase }, { on := 14, ground := Go.Ground.phase }, { on := 15, ground := Go.Ground.phase }, { on := 16, ground := Go.Ground.phase }, { on := 17, ground := Go.Ground.phase }, { on := 18, ground := Go.Ground.phase }, { on := 19, ground := Go.Ground.phase }, { on := 20, ground := Go.Ground.phase }, { on := 21, ground := Go.Ground.phase }, { on := 22, ground := Go.Ground.phase }, { on := 23, ground := Go.Ground.phase }, { on := 24, ground := Go.Ground.phase }, { on := 25, ground := Go.Ground.phase }, { on := 26, ground := Go.Ground.phase }, { on := 27, ground := Go.Ground.phase }, { on := 28, ground := Go.Ground.phase }, { on := 29, ground := Go.Ground.phase }, { on := 30, ground := Go.Ground.phase }, { on := 31, ground := Go.Ground.phase }, { on := 32, ground := Go.Ground.phase }, { on := 33, ground := Go.Ground.phase }, { on := 34, ground := Go.Ground.phase }, { on := 35, ground := Go.Ground.phase }, { on := 36, ground := Go.Ground.phase }, { on := 37, ground := Go.Ground.phase }, { on := 38, ground := Go.Ground.phase }, { on := 39, ground := Go.Ground.phase }], guard := none }) (v := ?va40) rfl (by kernel_rfl) (by kernel_rfl) (by kernel_rfl) (fun _ _ _ h => h) (Or.inl ⟨by rfl, ?ra40⟩) (by assumption) ?_
        case ra40 => (intro w hSw; (try dsimp only at hSw); (go_simp <;> with_reducible rfl))
        try simp only [Act.put, List.setIfInBounds_toArray, List.set_cons_zero, List.set_cons_succ]
        refine wpAnyH_done (by kernel_rfl) ?_ _
        go_wp2
        go_ret
        exact ⟨by first | rfl | simp, h7.1⟩
      · skip
        refine wp_region_held_drew (S := (fun w' => Gr w w' ∧ w'.cell? ⟨p1, 0, none⟩ = some (.string t) ∧ w'.cell? ⟨p2, 0, none⟩ = some (.string t) ∧ w'.cell? ⟨p3, 0, none⟩ = some (.string u) ∧ Strs w' (some ap) ss)) (by kernel_rfl) ?invb (fun h0 => ?_)
        case invb => ((try dsimp only); (first | exact HS0 | exact HX.out _ _ ((Gr.refl _).drew) HS0))
        refine wpAnyH_take (i := 0) (oi := { dst := some 39, op := Go.Op.move (Go.Operand.tmp 4), type := 26, pos := "law.go:73", after := #[], guard := none }) (v := ?vb0) rfl (by kernel_rfl) (by kernel_rfl) (by kernel_rfl) (fun _ _ _ h => h) (Or.inl ⟨by rfl, ?rb0⟩) (by assumption) ?_
        case rb0 => (intro w hSw; (try dsimp only at hSw); (go_simp <;> with_reducible rfl))
        try simp only [Act.put, List.setIfInBounds_toArray, List.set_cons_zero, List.set_cons_succ]
        refine wpAnyH_take (i := 1) (oi := { dst := some 40, op := Go.Op.binOp Go.BinOp.eql 26 (Go.Operand.tmp 39) (Go.Operand.const Go.Value.nilIface) 26, type := 4, pos := "law.go:73", after := #[{ on := 0, ground := Go.Ground.data }], guard := none }) (v := ?vb1) rfl (by kernel_rfl) (by kernel_rfl) (by kernel_rfl) (fun _ _ _ h => h) (Or.inl ⟨by rfl, ?rb1⟩) (by assumption) ?_
        case rb1 => (intro w hSw; (try dsimp only at hSw); (go_simp <;> with_reducible rfl))
        try simp only [Act.put, List.setIfInBounds_toArray, List.set_cons_zero, List.set_cons_succ]
        refine wpAnyH_take (i := 2) (oi := { dst := some 41, op := Go.Op.move (Go.Operand.tmp 40), type := 4, pos := "law.go:73", after := #[{ on := 1, ground := Go.Ground.data }], guard := none }) (v := ?vb2) rfl (by kernel_rfl) (by kernel_rfl) (by kernel_rfl) (fun _ _ _ h => h) (Or.inl ⟨by rfl, ?rb2⟩) (by assumption) ?_
        case rb2 => (intro w hSw; (try dsimp only at hSw); (go_simp <;> with_reducible rfl))
        try simp only [Act.put, List.setIfInBounds_toArray, List.set_cons_zero, List.set_cons_succ]
        refine wpAnyH_take (i := 3) (oi := { dst := some 42, op := Go.Op.load 24 (Go.Operand.tmp 3), type := 24, pos := "law.go:73", after := #[{ on := 2, ground := Go.Ground.guard }], guard := some (2, true) }) (v := ?vb3) rfl (by kernel_rfl) (by kernel_rfl) (by kernel_rfl) (fun _ _ _ h => h) (Or.inl ⟨by rfl, ?rb3⟩) (by assumption) ?_
        case rb3 => (intro w hSw; (try dsimp only at hSw); (go_simp <;> with_reducible rfl))
        try simp only [Act.put, List.setIfInBounds_toArray, List.set_cons_zero, List.set_cons_succ]
        refine wpAnyH_take (i := 5) (oi := { dst := some 44, op := Go.Op.move (Go.Operand.tmp 0), type := 29, pos := "law.go:73", after := #[{ on := 2, ground := Go.Ground.guard }], guard := some (2, true) }) (v := ?vb5) rfl (by kernel_rfl) (by kernel_rfl) (by kernel_rfl) (fun _ _ _ h => h) (Or.inl ⟨by rfl, ?rb5⟩) (by assumption) ?_
        case rb5 => (intro w hSw; (try dsimp only at hSw); (go_simp <;> with_reducible rfl))
        try simp only [Act.put, List.setIfInBounds_toArray, List.set_cons_zero, List.set_cons_succ]
        refine wpAnyH_ready (rs := [4]) (by kernel_rfl) (by simp) ?_
        refine AllReadyH.cons (o := { dst := some 43, op := Go.Op.call { callee := Go.Callee.value (Go.Operand.func 17), args := #[Go.Operand.tmp 42], argTypes := #[24] }, type := 9, pos := "law.go:73", after := #[{ on := 3, ground := Go.Ground.data }, { on := 2, ground := Go.Ground.chain }, { on := 2, ground := Go.Ground.guard }], guard := some (2, true) }) rfl (fun K hK => ?_) AllReadyH.nil
        go_simp
        (go_at_call 17; refine (T.out _).mono ?_; rintro e w9 ⟨rfl, hgN⟩)
        first | refine hK.out _ _ ?sb1 (fun h1 => ?_) | (go_wp2_with fail; refine hK.out _ _ ?sb1 (fun h1 => ?_))
        case sb1 => ((try dsimp only); (first | exact HX.out _ _ hgN h0 | exact h0))
        clear hK K h0
        try simp only [Act.put, List.setIfInBounds_toArray, List.set_cons_zero, List.set_cons_succ]
        refine wpAnyH_ready (rs := [6]) (by kernel_rfl) (by simp) ?_
        refine AllReadyH.cons (o := { dst := some 45, op := Go.Op.call { callee := Go.Callee.value (Go.Operand.func 23), args := #[Go.Operand.tmp 44], argTypes := #[29] }, type := 9, pos := "law.go:73", after := #[{ on := 5, ground := Go.Ground.data }, { on := 4, ground := Go.Ground.chain }, { on := 2, ground := Go.Ground.guard }], guard := some (2, true) }) rfl (fun K hK => ?_) AllReadyH.nil
        go_simp
        (go_at_call 23; refine (RT.out _ h1.2.2.2.2).mono ?_; rintro e w9 ⟨rfl, rfl⟩)
        first | refine hK.out _ _ ?sb2 (fun h2 => ?_) | (go_wp2_with fail; refine hK.out _ _ ?sb2 (fun h2 => ?_))
        case sb2 => ((try dsimp only); (first | exact HX.out _ _ hgN h1 | exact h1))
        clear hK K h1
        try simp only [Act.put, List.setIfInBounds_toArray, List.set_cons_zero, List.set_cons_succ]
        refine wpAnyH_take (i := 7) (oi := { dst := some 46, op := Go.Op.binOp Go.BinOp.eql 9 (Go.Operand.tmp 43) (Go.Operand.tmp 45) 9, type := 4, pos := "law.go:73", after := #[{ on := 4, ground := Go.Ground.data }, { on := 6, ground := Go.Ground.data }, { on := 2, ground := Go.Ground.guard }], guard := some (2, true) }) (v := ?vb7) rfl (by kernel_rfl) (by kernel_rfl) (by kernel_rfl) (fun _ _ _ h => h) (Or.inl ⟨by rfl, ?rb7⟩) (by assumption) ?_
        case rb7 => (intro w hSw; (try dsimp only at hSw); (go_simp <;> with_reducible rfl))
        try simp only [Act.put, List.setIfInBounds_toArray, List.set_cons_zero, List.set_cons_succ]
        refine wpAnyH_take (i := 8) (oi := { dst := some 47, op := Go.Op.pick (Go.Operand.tmp 41) (Go.Operand.tmp 46) (Go.Operand.const (Go.Value.bool false)), type := 4, pos := "law.go:73", after := #[{ on := 2, ground := Go.Ground.data }, { on := 7, ground := Go.Ground.data }], guard := none }) (v := ?vb8) rfl (by kernel_rfl) (by kernel_rfl) (by kernel_rfl) (fun _ _ _ h => h) (Or.inl ⟨by rfl, ?rb8⟩) (by assumption) ?_
        case rb8 => (intro w hSw; (try dsimp only at hSw); (go_simp <;> with_reducible rfl))
        try simp only [Act.put, List.setIfInBounds_toArray, List.set_cons_zero, List.set_cons_succ]
        refine wpAnyH_take (i := 9) (oi := { dst := some 48, op := Go.Op.move (Go.Operand.tmp 47), type := 4, pos := "law.go:73", after := #[{ on := 8, ground := Go.Ground.data }, { on := 6, ground := Go.Ground.chain }], guard := none }) (v := ?vb9) rfl (by kernel_rfl) (by kernel_rfl) (by kernel_rfl) (fun _ _ _ h => h) (Or.inl ⟨by rfl, ?rb9⟩) (by assumption) ?_
        case rb9 => (intro w hSw; (try dsimp only at hSw); (go_simp <;> with_reducible rfl))
        try simp only [Act.put, List.setIfInBounds_toArray, List.set_cons_zero, List.set_cons_succ]
        refine wpAnyH_take (i := 10) (oi := { dst := some 49, op := Go.Op.load 24 (Go.Operand.tmp 3), type := 24, pos := "law.go:73", after := #[{ on := 9, ground := Go.Ground.guard }], guard := some (9, true) }) (v := ?vb10) rfl (by kernel_rfl) (by kernel_rfl) (by kernel_rfl) (fun _ _ _ h => h) (Or.inl ⟨by rfl, ?rb10⟩) (by assumption) ?_
        case rb10 => (intro w hSw; (try dsimp only at hSw); (go_simp <;> with_reducible rfl))
        try simp only [Act.put, List.setIfInBounds_toArray, List.set_cons_zero, List.set_cons_succ]
        refine wpAnyH_take (i := 12) (oi := { dst := some 51, op := Go.Op.move (Go.Operand.tmp 0), type := 29, pos := "law.go:73", after := #[{ on := 9, ground := Go.Ground.guard }], guard := some (9, true) }) (v := ?vb12) rfl (by kernel_rfl) (by kernel_rfl) (by kernel_rfl) (fun _ _ _ h => h) (Or.inl ⟨by rfl, ?rb12⟩) (by assumption) ?_
        case rb12 => (intro w hSw; (try dsimp only at hSw); (go_simp <;> with_reducible rfl))
        try simp only [Act.put, List.setIfInBounds_toArray, List.set_cons_zero, List.set_cons_succ]
        refine wpAnyH_ready (rs := [11]) (by kernel_rfl) (by simp) ?_
        refine AllReadyH.cons (o := { dst := some 50, op := Go.Op.call { callee := Go.Callee.value (Go.Operand.func 18), args := #[Go.Operand.tmp 49], argTypes := #[24] }, type := 29, pos := "law.go:73", after := #[{ on := 10, ground := Go.Ground.data }, { on := 9, ground := Go.Ground.chain }, { on := 9, ground := Go.Ground.guard }], guard := some (9, true) }) rfl (fun K hK => ?_) AllReadyH.nil
        go_simp
        (go_at_call 18; refine (P1.out _ (HM.out.gr h2.1)).mono ?_; rintro e w9 ⟨a5, k5, rfl, hs5, hgN⟩)
        first | refine hK.out _ _ ?sb3 (fun h3 => ?_) | (go_wp2_with fail; refine hK.out _ _ ?sb3 (fun h3 => ?_))
        case sb3 => ((try dsimp only); (first | exact HX.out _ _ hgN h2 | exact h2))
        clear hK K h2
        try simp only [Act.put, List.setIfInBounds_toArray, List.set_cons_zero, List.set_cons_succ]
        refine wpAnyH_ready (rs := [13]) (by kernel_rfl) (by simp) ?_
        refine AllReadyH.cons (o := { dst := some 52, op := Go.Op.call { callee := Go.Callee.value (Go.Operand.func 15), args := #[Go.Operand.tmp 50, Go.Operand.tmp 51], argTypes := #[29, 29] }, type := 4, pos := "law.go:73", after := #[{ on := 11, ground := Go.Ground.data }, { on := 12, ground := Go.Ground.data }, { on := 11, ground := Go.Ground.chain }, { on := 9, ground := Go.Ground.guard }], guard := some (9, true) }) rfl (fun K hK => ?_) AllReadyH.nil
        go_simp
        (go_at_call 15; refine (S1.out _ _ _ _ _ hs5 h3.2.2.2.2).mono ?_; rintro e w9 ⟨rfl, hgN⟩)
        first | refine hK.out _ _ ?sb4 (fun h4 => ?_) | (go_wp2_with fail; refine hK.out _ _ ?sb4 (fun h4 => ?_))
        case sb4 => ((try dsimp only); (first | exact HX.out _ _ hgN h3 | exact h3))
        clear hK K h3
        try simp only [Act.put, List.setIfInBounds_toArray, List.set_cons_zero, List.set_cons_succ]
        refine wpAnyH_take (i := 14) (oi := { dst := some 53, op := Go.Op.pick (Go.Operand.tmp 48) (Go.Operand.tmp 52) (Go.Operand.const (Go.Value.bool false)), type := 4, pos := "law.go:73", after := #[{ on := 9, ground := Go.Ground.data }, { on := 13, ground := Go.Ground.data }], guard := none }) (v := ?vb14) rfl (by kernel_rfl) (by kernel_rfl) (by kernel_rfl) (fun _ _ _ h => h) (Or.inl ⟨by rfl, ?rb14⟩) (by assumption) ?_
        case rb14 => (intro w hSw; (try dsimp only at hSw); (go_simp <;> with_reducible rfl))
        try simp only [Act.put, List.setIfInBounds_toArray, List.set_cons_zero, List.set_cons_succ]
        refine wpAnyH_take (i := 15) (oi := { dst := some 54, op := Go.Op.move (Go.Operand.tmp 53), type := 4, pos := "law.go:73", after := #[{ on := 14, ground := Go.Ground.data }, { on := 13, ground := Go.Ground.chain }], guard := none }) (v := ?vb15) rfl (by kernel_rfl) (by kernel_rfl) (by kernel_rfl) (fun _ _ _ h => h) (Or.inl ⟨by rfl, ?rb15⟩) (by assumption) ?_
        case rb15 => (intro w hSw; (try dsimp only at hSw); (go_simp <;> with_reducible rfl))
        try simp only [Act.put, List.setIfInBounds_toArray, List.set_cons_zero, List.set_cons_succ]
        refine wpAnyH_take (i := 16) (oi := { dst := some 55, op := Go.Op.move (Go.Operand.tmp 6), type := 26, pos := "law.go:73", after := #[{ on := 15, ground := Go.Ground.guard }], guard := some (15, true) }) (v := ?vb16) rfl (by kernel_rfl) (by kernel_rfl) (by kernel_rfl) (fun _ _ _ h => h) (Or.inl ⟨by rfl, ?rb16⟩) (by assumption) ?_
        case rb16 => (intro w hSw; (try dsimp only at hSw); (go_simp <;> with_reducible rfl))
        try simp only [Act.put, List.setIfInBounds_toArray, List.set_cons_zero, List.set_cons_succ]
        refine wpAnyH_take (i := 17) (oi := { dst := some 56, op := Go.Op.binOp Go.BinOp.eql 26 (Go.Operand.tmp 55) (Go.Operand.const Go.Value.nilIface) 26, type := 4, pos := "law.go:73", after := #[{ on := 16, ground := Go.Ground.data }, { on := 15, ground := Go.Ground.guard }], guard := some (15, true) }) (v := ?vb17) rfl (by kernel_rfl) (by kernel_rfl) (by kernel_rfl) (fun _ _ _ h => h) (Or.inl ⟨by rfl, ?rb17⟩) (by assumption) ?_
        case rb17 => (intro w hSw; (try dsimp only at hSw); (go_simp <;> with_reducible rfl))
        try simp only [Act.put, List.setIfInBounds_toArray, List.set_cons_zero, List.set_cons_succ]
        refine wpAnyH_take (i := 18) (oi := { dst := some 57, op := Go.Op.pick (Go.Operand.tmp 54) (Go.Operand.tmp 56) (Go.Operand.const (Go.Value.bool false)), type := 4, pos := "law.go:73", after := #[{ on := 15, ground := Go.Ground.data }, { on := 17, ground := Go.Ground.data }], guard := none }) (v := ?vb18) rfl (by kernel_rfl) (by kernel_rfl) (by kernel_rfl) (fun _ _ _ h => h) (Or.inl ⟨by rfl, ?rb18⟩) (by assumption) ?_
        case rb18 => (intro w hSw; (try dsimp only at hSw); (go_simp <;> with_reducible rfl))
        try simp only [Act.put, List.setIfInBounds_toArray, List.set_cons_zero, List.set_cons_succ]
        refine wpAnyH_take (i := 19) (oi := { dst := some 58, op := Go.Op.move (Go.Operand.tmp 57), type := 4, pos := "law.go:73", after := #[{ on := 18, ground := Go.Ground.data }, { on := 15, ground := Go.Ground.chain }], guard := none }) (v := ?vb19) rfl (by kernel_rfl) (by kernel_rfl) (by kernel_rfl) (fun _ _ _ h => h) (Or.inl ⟨by rfl, ?rb19⟩) (by assumption) ?_
        case rb19 => (intro w hSw; (try dsimp only at hSw); (go_simp <;> with_reducible rfl))
        try simp only [Act.put, List.setIfInBounds_toArray, List.set_cons_zero, List.set_cons_succ]
        refine wpAnyH_take (i := 20) (oi := { dst := some 59, op := Go.Op.load 24 (Go.Operand.tmp 3), type := 24, pos := "law.go:73", after := #[{ on := 19, ground := Go.Ground.guard }], guard := some (19, true) }) (v := ?vb20) rfl (by kernel_rfl) (by kernel_rfl) (by kernel_rfl) (fun _ _ _ h => h) (Or.inl ⟨by rfl, ?rb20⟩) (by assumption) ?_
        case rb20 => (intro w hSw; (try dsimp only at hSw); (go_simp <;> with_reducible rfl))
        try simp only [Act.put, List.setIfInBounds_toArray, List.set_cons_zero, List.set_cons_succ]
        refine wpAnyH_take (i := 21) (oi := { dst := some 60, op := Go.Op.load 24 (Go.Operand.tmp 5), type := 24, pos := "law.go:73", after := #[{ on := 19, ground := Go.Ground.guard }], guard := some (19, true) }) (v := ?vb21) rfl (by kernel_rfl) (by kernel_rfl) (by kernel_rfl) (fun _ _ _ h => h) (Or.inl ⟨by rfl, ?rb21⟩) (by assumption) ?_
        case rb21 => (intro w hSw; (try dsimp only at hSw); (go_simp <;> with_reducible rfl))
        try simp only [Act.put, List.setIfInBounds_toArray, List.set_cons_zero, List.set_cons_succ]
        refine wpAnyH_take (i := 22) (oi := { dst := some 61, op := Go.Op.binOp Go.BinOp.eql 24 (Go.Operand.tmp 59) (Go.Operand.tmp 60) 24, type := 4, pos := "law.go:73", after := #[{ on := 20, ground := Go.Ground.data }, { on := 21, ground := Go.Ground.data }, { on := 19, ground := Go.Ground.guard }], guard := some (19, true) }) (v := ?vb22) rfl (by kernel_rfl) (by kernel_rfl) (by kernel_rfl) (fun _ _ _ h => h) (Or.inl ⟨by rfl, ?rb22⟩) (by assumption) ?_
        case rb22 => (intro w hSw; (try dsimp only at hSw); (go_simp <;> with_reducible rfl))
        try simp only [Act.put, List.setIfInBounds_toArray, List.set_cons_zero, List.set_cons_succ]
        refine wpAnyH_take (i := 23) (oi := { dst := some 62, op := Go.Op.pick (Go.Operand.tmp 58) (Go.Operand.tmp 61) (Go.Operand.const (Go.Value.bool false)), type := 4, pos := "law.go:73", after := #[{ on := 19, ground := Go.Ground.data }, { on := 22, ground := Go.Ground.data }], guard := none }) (v := ?vb23) rfl (by kernel_rfl) (by kernel_rfl) (by kernel_rfl) (fun _ _ _ h => h) (Or.inl ⟨by rfl, ?rb23⟩) (by assumption) ?_
        case rb23 => (intro w hSw; (try dsimp only at hSw); (go_simp <;> with_reducible rfl))
        try simp only [Act.put, List.setIfInBounds_toArray, List.set_cons_zero, List.set_cons_succ]
        refine wpAnyH_take (i := 24) (oi := { dst := some 63, op := Go.Op.move (Go.Operand.tmp 62), type := 4, pos := "law.go:73", after := #[{ on := 23, ground := Go.Ground.data }, { on := 19, ground := Go.Ground.chain }], guard := none }) (v := ?vb24) rfl (by kernel_rfl) (by kernel_rfl) (by kernel_rfl) (fun _ _ _ h => h) (Or.inl ⟨by rfl, ?rb24⟩) (by assumption) ?_
        case rb24 => (intro w hSw; (try dsimp only at hSw); (go_simp <;> with_reducible rfl))
        try simp only [Act.put, List.setIfInBounds_toArray, List.set_cons_zero, List.set_cons_succ]
        refine wpAnyH_take (i := 25) (oi := { dst := some 64, op := Go.Op.load 24 (Go.Operand.tmp 7), type := 24, pos := "law.go:73", after := #[{ on := 24, ground := Go.Ground.guard }], guard := some (24, true) }) (v := ?vb25) rfl (by kernel_rfl) (by kernel_rfl) (by kernel_rfl) (fun _ _ _ h => h) (Or.inl ⟨by rfl, ?rb25⟩) (by assumption) ?_
        case rb25 => (intro w hSw; (try dsimp only at hSw); (go_simp <;> with_reducible rfl))
        try simp only [Act.put, List.setIfInBounds_toArray, List.set_cons_zero, List.set_cons_succ]
        refine wpAnyH_take (i := 27) (oi := { dst := some 66, op := Go.Op.move (Go.Operand.tmp 0), type := 29, pos := "law.go:73", after := #[{ on := 24, ground := Go.Ground.guard }], guard := some (24, true) }) (v := ?vb27) rfl (by kernel_rfl) (by kernel_rfl) (by kernel_rfl) (fun _ _ _ h => h) (Or.inl ⟨by rfl, ?rb27⟩) (by assumption) ?_
        case rb27 => (intro w hSw; (try dsimp only at hSw); (go_simp <;> with_reducible rfl))
        try simp only [Act.put, List.setIfInBounds_toArray, List.set_cons_zero, List.set_cons_succ]
        refine wpAnyH_take (i := 28) (oi := { dst := some 67, op := Go.Op.move (Go.Operand.tmp 0), type := 29, pos := "law.go:73", after := #[{ on := 24, ground := Go.Ground.guard }], guard := some (24, true) }) (v := ?vb28) rfl (by kernel_rfl) (by kernel_rfl) (by kernel_rfl) (fun _ _ _ h => h) (Or.inl ⟨by rfl, ?rb28⟩) (by assumption) ?_
        case rb28 => (intro w hSw; (try dsimp only at hSw); (go_simp <;> with_reducible rfl))
        try simp only [Act.put, List.setIfInBounds_toArray, List.set_cons_zero, List.set_cons_succ]
        refine wpAnyH_take (i := 29) (oi := { dst := some 68, op := Go.Op.call { callee := Go.Callee.builtin Go.Builtin.len, args := #[Go.Operand.tmp 67], argTypes := #[29] }, type := 3, pos := "law.go:73", after := #[{ on := 28, ground := Go.Ground.data }, { on := 24, ground := Go.Ground.guard }], guard := some (24, true) }) (v := ?vb29) rfl (by kernel_rfl) (by kernel_rfl) (by kernel_rfl) (fun _ _ _ h => h) (Or.inl ⟨by rfl, ?rb29⟩) (by assumption) ?_
        case rb29 => (intro w hSw; (try dsimp only at hSw); (go_simp <;> with_reducible rfl))
        try simp only [Act.put, List.setIfInBounds_toArray, List.set_cons_zero, List.set_cons_succ]
        refine wpAnyH_take (i := 30) (oi := { dst := some 69, op := Go.Op.binOp Go.BinOp.sub 3 (Go.Operand.tmp 68) (Go.Operand.const (Go.Value.int Go.IntKind.i64 1)) 3, type := 3, pos := "law.go:73", after := #[{ on := 29, ground := Go.Ground.data }, { on := 24, ground := Go.Ground.guard }], guard := some (24, true) }) (v := ?vb30) rfl (by kernel_rfl) (by kernel_rfl) (by kernel_rfl) (fun _ _ _ h => h) (Or.inl ⟨by rfl, ?rb30⟩) (by assumption) ?_
        case rb30 => (intro w hSw; (try dsimp only at hSw); (go_simp <;> with_reducible rfl))
        try simp only [Act.put, List.setIfInBounds_toArray, List.set_cons_zero, List.set_cons_succ]
        refine wpAnyH_take (i := 31) (oi := { dst := some 70, op := Go.Op.call { callee := Go.Callee.builtin Go.Builtin.max, args := #[Go.Operand.tmp 69, Go.Operand.const (Go.Value.int Go.IntKind.i64 0)], argTypes := #[3, 3] }, type := 3, pos := "law.go:73", after := #[{ on := 30, ground := Go.Ground.data }, { on := 24, ground := Go.Ground.guard }], guard := some (24, true) }) (v := ?vb31) rfl (by kernel_rfl) (by kernel_rfl) (by kernel_rfl) (fun _ _ _ h => h) (Or.inl ⟨by rfl, ?rb31⟩) (by assumption) ?_
        case rb31 => (intro w hSw; (try dsimp only at hSw); (go_simp <;> with_reducible rfl))
        try simp only [Act.put, List.setIfInBounds_toArray, List.set_cons_zero, List.set_cons_succ]
        refine wpAnyH_take (i := 32) (oi := { dst := some 71, op := Go.Op.slice 29 (Go.Operand.tmp 66) none (some (Go.Operand.tmp 70)) none, type := 29, pos := "law.go:73", after := #[{ on := 27, ground := Go.Ground.data }, { on := 31, ground := Go.Ground.data }, { on := 24, ground := Go.Ground.guard }], guard := some (24, true) }) (v := .slice (some ap) (ss.length - 1) c) rfl (by kernel_rfl) (by kernel_rfl) (by kernel_rfl) (fun _ _ _ h => h) (Or.inl ⟨by rfl, ?rb32⟩) (by assumption) ?_
        case rb32 => (intro w hSw; (try dsimp only at hSw); go_simp; (first | done | (rw [if_pos (show ss.length ≤ c + 1 by omega)]) | (intro h; exfalso; omega) | (simp; omega)))
        try simp only [Act.put, List.setIfInBounds_toArray, List.set_cons_zero, List.set_cons_succ]
        refine wpAnyH_ready (rs := [26]) (by kernel_rfl) (by simp) ?_
        refine AllReadyH.cons (o := { dst := some 65, op := Go.Op.call { callee := Go.Callee.value (Go.Operand.func 18), args := #[Go.Operand.tmp 64], argTypes := #[24] }, type := 29, pos := "law.go:73", after := #[{ on := 25, ground := Go.Ground.data }, { on := 24, ground := Go.Ground.chain }, { on := 24, ground := Go.Ground.guard }], guard := some (24, true) }) rfl (fun K hK => ?_) AllReadyH.nil
        go_simp
        (go_at_call 18; refine (P2.out _ (HM.out.gr h4.1)).mono ?_; rintro e w9 ⟨a6, k6, rfl, hs6, hgN⟩)
        first | refine hK.out _ _ ?sb5 (fun h5 => ?_) | (go_wp2_with fail; refine hK.out _ _ ?sb5 (fun h5 => ?_))
        case sb5 => ((try dsimp only); (first | exact HX.out _ _ hgN h4 | exact h4))
        clear hK K h4
        try simp only [Act.put, List.setIfInBounds_toArray, List.set_cons_zero, List.set_cons_succ]
        refine wpAnyH_ready (rs := [33]) (by kernel_rfl) (by simp) ?_
        refine AllReadyH.cons (o := { dst := some 72, op := Go.Op.call { callee := Go.Callee.value (Go.Operand.func 15), args := #[Go.Operand.tmp 65, Go.Operand.tmp 71], argTypes := #[29, 29] }, type := 4, pos := "law.go:73", after := #[{ on := 26, ground := Go.Ground.data }, { on := 32, ground := Go.Ground.data }, { on := 26, ground := Go.Ground.chain }, { on := 24, ground := Go.Ground.guard }], guard := some (24, true) }) rfl (fun K hK => ?_) AllReadyH.nil
        go_simp
        (go_at_call 15; refine (S2.out _ _ _ _ _ hs6 (HD.out _ h5.2.2.2.2)).mono ?_; rintro e w9 ⟨rfl, hgN⟩)
        first | refine hK.out _ _ ?sb6 (fun h6 => ?_) | (go_wp2_with fail; refine hK.out _ _ ?sb6 (fun h6 => ?_))
        case sb6 => ((try dsimp only); (first | exact HX.out _ _ hgN h5 | exact h5))
        clear hK K h5
        try simp only [Act.put, List.setIfInBounds_toArray, List.set_cons_zero, List.set_cons_succ]
        refine wpAnyH_take (i := 34) (oi := { dst := some 73, op := Go.Op.pick (Go.Operand.tmp 63) (Go.Operand.tmp 72) (Go.Operand.const (Go.Value.bool false)), type := 4, pos := "law.go:73", after := #[{ on := 24, ground := Go.Ground.data }, { on := 33, ground := Go.Ground.data }], guard := none }) (v := ?vb34) rfl (by kernel_rfl) (by kernel_rfl) (by kernel_rfl) (fun _ _ _ h => h) (Or.inl ⟨by rfl, ?rb34⟩) (by assumption) ?_
        case rb34 => (intro w hSw; (try dsimp only at hSw); (go_simp <;> with_reducible rfl))
        try simp only [Act.put, List.setIfInBounds_toArray, List.set_cons_zero, List.set_cons_succ]
        refine wpAnyH_take (i := 35) (oi := { dst := some 74, op := Go.Op.move (Go.Operand.tmp 73), type := 4, pos := "law.go:73", after := #[{ on := 34, ground := Go.Ground.data }, { on := 33, ground := Go.Ground.chain }], guard := none }) (v := ?vb35) rfl (by kernel_rfl) (by kernel_rfl) (by kernel_rfl) (fun _ _ _ h => h) (Or.inl ⟨by rfl, ?rb35⟩) (by assumption) ?_
        case rb35 => (intro w hSw; (try dsimp only at hSw); (go_simp <;> with_reducible rfl))
        try simp only [Act.put, List.setIfInBounds_toArray, List.set_cons_zero, List.set_cons_succ]
        refine wpAnyH_take (i := 36) (oi := { dst := some 75, op := Go.Op.load 24 (Go.Operand.tmp 7), type := 24, pos := "law.go:73", after := #[{ on := 35, ground := Go.Ground.guard }], guard := some (35, true) }) (v := ?vb36) rfl (by kernel_rfl) (by kernel_rfl) (by kernel_rfl) (fun _ _ _ h => h) (Or.inl ⟨by rfl, ?rb36⟩) (by assumption) ?_
        case rb36 => (intro w hSw; (try dsimp only at hSw); (go_simp <;> with_reducible rfl))
        try simp only [Act.put, List.setIfInBounds_toArray, List.set_cons_zero, List.set_cons_succ]
        refine wpAnyH_take (i := 37) (oi := { dst := some 76, op := Go.Op.load 24 (Go.Operand.tmp 3), type := 24, pos := "law.go:73", after := #[{ on := 35, ground := Go.Ground.guard }], guard := some (35, true) }) (v := ?vb37) rfl (by kernel_rfl) (by kernel_rfl) (by kernel_rfl) (fun _ _ _ h => h) (Or.inl ⟨by rfl, ?rb37⟩) (by assumption) ?_
        case rb37 => (intro w hSw; (try dsimp only at hSw); (go_simp <;> with_reducible rfl))
        try simp only [Act.put, List.setIfInBounds_toArray, List.set_cons_zero, List.set_cons_succ]
        refine wpAnyH_ready (rs := [38]) (by kernel_rfl) (by simp) ?_
        refine AllReadyH.cons (o := { dst := some 77, op := Go.Op.call { callee := Go.Callee.value (Go.Operand.func 24), args := #[Go.Operand.tmp 75, Go.Operand.tmp 76], argTypes := #[24, 24] }, type := 4, pos := "law.go:73", after := #[{ on := 36, ground := Go.Ground.data }, { on := 37, ground := Go.Ground.data }, { on := 35, ground := Go.Ground.chain }, { on := 35, ground := Go.Ground.guard }], guard := some (35, true) }) rfl (fun K hK => ?_) AllReadyH.nil
        go_simp
        (go_at_call 24; refine (O.out _).mono ?_; rintro e w9 ⟨rfl, hgN⟩)
        first | refine hK.out _ _ ?sb7 (fun h7 => ?_) | (go_wp2_with fail; refine hK.out _ _ ?sb7 (fun h7 => ?_))
        case sb7 => ((try dsimp only); (first | exact HX.out _ _ hgN h6 | exact h6))
        clear hK K h6
        try simp only [Act.put, List.setIfInBounds_toArray, List.set_cons_zero, List.set_cons_succ]
        refine wpAnyH_take (i := 39) (oi := { dst := some 78, op := Go.Op.pick (Go.Operand.tmp 74) (Go.Operand.tmp 77) (Go.Operand.const (Go.Value.bool false)), type := 4, pos := "law.go:73", after := #[{ on := 35, ground := Go.Ground.data }, { on := 38, ground := Go.Ground.data }], guard := none }) (v := ?vb39) rfl (by kernel_rfl) (by kernel_rfl) (by kernel_rfl) (fun _ _ _ h => h) (Or.inl ⟨by rfl, ?rb39⟩) (by assumption) ?_
        case rb39 => (intro w hSw; (try dsimp only at hSw); (go_simp <;> with_reducible rfl))
        try simp only [Act.put, List.setIfInBounds_toArray, List.set_cons_zero, List.set_cons_succ]
        refine wpAnyH_take (i := 40) (oi := { dst := some 2, op := Go.Op.assign (Go.Operand.tmp 78), type := 4, pos := "law.go:73", after := #[{ on := 39, ground := Go.Ground.data }, { on := 38, ground := Go.Ground.chain }, { on := 0, ground := Go.Ground.phase }, { on := 1, ground := Go.Ground.phase }, { on := 2, ground := Go.Ground.phase }, { on := 3, ground := Go.Ground.phase }, { on := 4, ground := Go.Ground.phase }, { on := 5, ground := Go.Ground.phase }, { on := 6, ground := Go.Ground.phase }, { on := 7, ground := Go.Ground.phase }, { on := 8, ground := Go.Ground.phase }, { on := 9, ground := Go.Ground.phase }, { on := 10, ground := Go.Ground.phase }, { on := 11, ground := Go.Ground.phase }, { on := 12, ground := Go.Ground.phase }, { on := 13, ground := Go.Ground.phase }, { on := 14, ground := Go.Ground.phase }, { on := 15, ground := Go.Ground.phase }, { on := 16, ground := Go.Ground.phase }, { on := 17, ground := Go.Ground.phase }, { on := 18, ground := Go.Ground.phase }, { on := 19, ground := Go.Ground.phase }, { on := 20, ground := Go.Ground.phase }, { on := 21, ground := Go.Ground.phase }, { on := 22, ground := Go.Ground.phase }, { on := 23, ground := Go.Ground.phase }, { on := 24, ground := Go.Ground.phase }, { on := 25, ground := Go.Ground.phase }, { on := 26, ground := Go.Ground.phase }, { on := 27, ground := Go.Ground.phase }, { on := 28, ground := Go.Ground.phase }, { on := 29, ground := Go.Ground.phase }, { on := 30, ground := Go.Ground.phase }, { on := 31, ground := Go.Ground.phase }, { on := 32, ground := Go.Ground.phase }, { on := 33, ground := Go.Ground.phase }, { on := 34, ground := Go.Ground.phase }, { on := 35, ground := Go.Ground.phase }, { on := 36, ground := Go.Ground.phase }, { on := 37, ground := Go.Ground.phase }, { on := 38, ground := Go.Ground.phase }, { on := 39, ground := Go.Ground.phase }], guard := none }) (v := ?vb40) rfl (by kernel_rfl) (by kernel_rfl) (by kernel_rfl) (fun _ _ _ h => h) (Or.inl ⟨by rfl, ?rb40⟩) (by assumption) ?_
        case rb40 => (intro w hSw; (try dsimp only at hSw); (go_simp <;> with_reducible rfl))
        try simp only [Act.put, List.setIfInBounds_toArray, List.set_cons_zero, List.set_cons_succ]
        refine wpAnyH_done (by kernel_rfl) ?_ _
        go_wp2
        go_ret
        exact ⟨by first | rfl | simp, h7.1⟩
end Go.Proofs.YtfpnglomemjniaaDoor
