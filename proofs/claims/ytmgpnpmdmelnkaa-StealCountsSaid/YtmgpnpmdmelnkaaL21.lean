import Derived.Test.YtmgpnpmdmelnkaaF21
import Derived.Test.YtmgpnpmdmelnkaaC42
import Derived.WalkKit
import Derived.ProofKit
import Derived.LoopTactic
import Derived.Outline
import Derived.WalkSpells
import Derived.WalkLawsBesides
import Derived.Lib.Hide
import Derived.Deep.LoopGhost
import Derived.Deep.QuietTactic
import Derived.BigQuiet
import Derived.ShutString
import Derived.IntWalk
import Derived.Lib.MinMax
import Derived.BigQuiet
import Derived.Deep.RegionWith
import Derived.Deep.RegionHeld3
namespace Go.Proofs.Ytmgpnpmdmelnkaa
open Go.ChangeShapes Go.WideShapes Go.ChangeAt Go.RowKit
set_option linter.unusedVariables false
set_option linter.unusedSimpArgs false
theorem BdTo.gr {w0 w w' : World} {b p : Nat} {d : Brd} (h : BdTo b p w d w') (hg : Gr w0 w) (hp : w0.heap.size ≤ p) (hb : w0.heap.size ≤ b) : Gr w0 w' := by
  refine Below.trans hg ⟨h.2.os, h.2.tape, h.2.output, h.2.size, fun k hk => h.2.block k (Nat.lt_of_lt_of_le hk hg.size) (by omega) (by simp [Value.ownBlock])⟩
set_option maxRecDepth 100000 in
set_option maxHeartbeats 1000000 in
theorem awake21 (w : World) : Calls Try.prog 7 #[] w fun e w' => e = .returned (.bool true) ∧ Gr w w' := by
  go_enter Try.func7, Try.ntmps7
  go_wp2_with fail
  refine (bdNew_any 2 10 2 _).mono ?_
  rintro e w1 ⟨b, p, rfl, hb, hp, hB, hg⟩
  have HG := Lib.hid hg
  have hT := bdTouch_any 1 5 w1 hB (by decide) (fun _ => by simp [zeroB])
  rw [show hasB (zeroB 2 10 2) 1 = true by decide, show touchI (zeroB 2 10 2) 1 5 = touchB (zeroB 2 10 2) 1 5 from if_pos (by decide)] at hT
  have HT := Lib.hid hT
  have HP := Lib.hid (And.intro hb hp)
  clear hb hp hB hg hT
  go_wp2_with fail
  refine HT.out.mono ?_
  rintro e w2 ⟨rfl, hB⟩
  have HG2 := Lib.hid (hB.gr HG.out HP.out.2 HP.out.1)
  have hT := bdTouch_any 1 9 w2 hB.1 (by decide) (fun i => by simp only [touchB, zeroB]; split <;> omega)
  rw [show hasB (touchB (zeroB 2 10 2) 1 5) 1 = true by decide, show touchI (touchB (zeroB 2 10 2) 1 5) 1 9 = touchB (touchB (zeroB 2 10 2) 1 5) 1 9 from if_pos (by decide)] at hT
  have HT := Lib.hid hT
  clear hB hT HG
  go_wp2_with fail
  refine HT.out.mono ?_
  rintro e w3 ⟨rfl, hB⟩
  have HG3 := Lib.hid (hB.gr HG2.out HP.out.2 HP.out.1)
  have HB := Lib.hid hB.1
  have h1 := fun q => bdWants_any 1 9 (w3.drewN q) (HB.out.gr ((Gr.refl _).drewN q)) (by decide)
  have h2 := fun q => bdWants_any 1 15 (w3.drewN q) (HB.out.gr ((Gr.refl _).drewN q)) (by decide)
  have h3 := fun q => bdCount_any 1 14 (w3.drewN q) (HB.out.gr ((Gr.refl _).drewN q)) (by decide)
  generalize hd : touchB (touchB (zeroB 2 10 2) 1 5) 1 9 = d at *
  rw [show wantsB d 1 9 = true by rw [← hd]; decide] at h1
  rw [show wantsB d 1 15 = false by rw [← hd]; decide] at h2
  rw [show countB d 1 14 = 2 by rw [← hd]; decide] at h3
  have H1 := Lib.hid h1
  have H2 := Lib.hid h2
  have H3 := Lib.hid h3
  clear hd hB HT HG2 HB h1 h2 h3
  go_wp2_with fail
  refine (H1.out 0).mono ?_
  rintro e w4 ⟨rfl, q4, rfl⟩
  go_wp2_with fail
  refine (H2.out _).mono ?_
  rintro e w5 ⟨rfl, q5, rfl⟩
  go_wp2_with fail
  refine (H3.out _).mono ?_
  rintro e w6 ⟨rfl, q6, rfl⟩
  go_wp2
  go_ret
  exact ⟨rfl, HG3.out.drewN _⟩
set_option maxRecDepth 100000 in
set_option maxHeartbeats 1000000 in
theorem checks_walk21 (l s : Int) (w : World) : Calls Try.prog 3 #[.int .i64 l, .int .i64 s] w fun e w' => e = .returned (.bool true) ∧ Gr w w' := by
  have HC := Lib.hid (check_any21 l s)
  by_cases h1 : 1 ≤ l
  · by_cases h2 : l ≤ 64
    · by_cases h3 : 1 ≤ s
      · by_cases h4 : s ≤ 65536
        · rw [show goodP l s = true by unfold goodP upTo; simp; omega] at HC
          go_enter Try.func3, Try.ntmps3
          go_wp2_with fail
          refine (awake21 _).mono ?_
          rintro e w1 ⟨rfl, hg1⟩
          have HB := Lib.hid (Blk.new w1 #[.int .i64 l, .int .i64 s] 24)
          have HG := Lib.hid (hg1.alloc (.cells #[.int .i64 l, .int .i64 s] 24))
          clear hg1
          go_wp2_with fail
          refine (HC.out _).mono ?_
          rintro e w2 ⟨rfl, hg2⟩
          have HG2 := Lib.hid (HG.out.trans hg2)
          clear hg2
          go_wp2
          go_ret
          exact ⟨rfl, HG2.out⟩
        · rw [show goodP l s = false by unfold goodP upTo; simp; omega] at HC
          go_enter Try.func3, Try.ntmps3
          go_wp2_with fail
          refine (awake21 _).mono ?_
          rintro e w1 ⟨rfl, hg1⟩
          have HB := Lib.hid (Blk.new w1 #[.int .i64 l, .int .i64 s] 24)
          have HG := Lib.hid (hg1.alloc (.cells #[.int .i64 l, .int .i64 s] 24))
          clear hg1
          go_wp2_with fail
          refine (HC.out _).mono ?_
          rintro e w2 ⟨rfl, hg2⟩
          have HG2 := Lib.hid (HG.out.trans hg2)
          have c0 := (HB.out.gr hg2).cell (i := 0) rfl
          have c1 := (HB.out.gr hg2).cell (i := 1) rfl
          clear hg2
          go_wp2_with fail
          refine (HC.out _).mono ?_
          rintro e w3 ⟨rfl, hg3⟩
          have HG3 := Lib.hid (HG2.out.trans hg3)
          clear hg3
          go_wp2
          go_ret
          exact ⟨by first | rfl | (simp; omega), HG3.out⟩
      · rw [show goodP l s = false by unfold goodP upTo; simp; omega] at HC
        go_enter Try.func3, Try.ntmps3
        go_wp2_with fail
        refine (awake21 _).mono ?_
        rintro e w1 ⟨rfl, hg1⟩
        have HB := Lib.hid (Blk.new w1 #[.int .i64 l, .int .i64 s] 24)
        have HG := Lib.hid (hg1.alloc (.cells #[.int .i64 l, .int .i64 s] 24))
        clear hg1
        go_wp2_with fail
        refine (HC.out _).mono ?_
        rintro e w2 ⟨rfl, hg2⟩
        have HG2 := Lib.hid (HG.out.trans hg2)
        have c0 := (HB.out.gr hg2).cell (i := 0) rfl
        have c1 := (HB.out.gr hg2).cell (i := 1) rfl
        clear hg2
        go_wp2_with fail
        refine (HC.out _).mono ?_
        rintro e w3 ⟨rfl, hg3⟩
        have HG3 := Lib.hid (HG2.out.trans hg3)
        clear hg3
        go_wp2
        go_ret
        exact ⟨by first | rfl | (simp; omega), HG3.out⟩
    · rw [show goodP l s = false by unfold goodP upTo; simp; omega] at HC
      go_enter Try.func3, Try.ntmps3
      go_wp2_with fail
      refine (awake21 _).mono ?_
      rintro e w1 ⟨rfl, hg1⟩
      have HB := Lib.hid (Blk.new w1 #[.int .i64 l, .int .i64 s] 24)
      have HG := Lib.hid (hg1.alloc (.cells #[.int .i64 l, .int .i64 s] 24))
      clear hg1
      go_wp2_with fail
      refine (HC.out _).mono ?_
      rintro e w2 ⟨rfl, hg2⟩
      have HG2 := Lib.hid (HG.out.trans hg2)
      have c0 := (HB.out.gr hg2).cell (i := 0) rfl
      have c1 := (HB.out.gr hg2).cell (i := 1) rfl
      clear hg2
      go_wp2_with fail
      refine (HC.out _).mono ?_
      rintro e w3 ⟨rfl, hg3⟩
      have HG3 := Lib.hid (HG2.out.trans hg3)
      clear hg3
      go_wp2
      go_ret
      exact ⟨by first | rfl | (simp; omega), HG3.out⟩
  · rw [show goodP l s = false by unfold goodP upTo; simp; omega] at HC
    go_enter Try.func3, Try.ntmps3
    go_wp2_with fail
    refine (awake21 _).mono ?_
    rintro e w1 ⟨rfl, hg1⟩
    have HB := Lib.hid (Blk.new w1 #[.int .i64 l, .int .i64 s] 24)
    have HG := Lib.hid (hg1.alloc (.cells #[.int .i64 l, .int .i64 s] 24))
    clear hg1
    go_wp2_with fail
    refine (HC.out _).mono ?_
    rintro e w2 ⟨rfl, hg2⟩
    have HG2 := Lib.hid (HG.out.trans hg2)
    have c0 := (HB.out.gr hg2).cell (i := 0) rfl
    have c1 := (HB.out.gr hg2).cell (i := 1) rfl
    clear hg2
    go_wp2_with fail
    refine (HC.out _).mono ?_
    rintro e w3 ⟨rfl, hg3⟩
    have HG3 := Lib.hid (HG2.out.trans hg3)
    clear hg3
    go_wp2
    go_ret
    exact ⟨by first | rfl | (simp; omega), HG3.out⟩
end Go.Proofs.Ytmgpnpmdmelnkaa
