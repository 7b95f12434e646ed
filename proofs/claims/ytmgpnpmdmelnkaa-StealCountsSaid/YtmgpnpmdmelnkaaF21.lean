import Derived.Test.YtmgpnpmdmelnkaaC28
import Derived.Test.YtmgpnpmdmelnkaaC17
import Derived.WalkKit
import Derived.ProofKit
import Derived.LoopTactic
import Derived.Outline
import Derived.WalkSpells
import Derived.WalkLawsBesides
import Derived.Lib.Hide
import Derived.Deep.LoopGhost
import Derived.Deep.QuietTactic
import Derived.BigQuiet
import Derived.ShutString
import Derived.IntWalk
import Derived.Lib.MinMax
import Derived.BigQuiet
import Derived.Deep.RegionWith
import Derived.Deep.RegionHeld3
namespace Go.Proofs.Ytmgpnpmdmelnkaa
open Go.ChangeShapes Go.WideShapes Go.ChangeAt Go.RowKit
set_option linter.unusedVariables false
set_option linter.unusedSimpArgs false
/-- A board: a meter for each region. -/
structure Brd where
  least : Int
  span : Int
  n : Nat
  t : Nat → Nat → Int
  u : Nat → Nat
structure BdIs (w : World) (b p : Nat) (d : Brd) : Prop where
  top : Blk w b #[.int .i64 d.least, .int .i64 d.span, .slice (some ⟨p, 0, none⟩) d.n d.n] 47
  ne : b ≠ p
  row : ∃ cs, Blk w p cs 51 ∧ cs.size = d.n * 65 ∧ (∀ r i, r < d.n → i < 64 → cs[r * 65 + i]? = some (.int .i64 (d.t r i))) ∧ ∀ r, r < d.n → cs[r * 65 + 64]? = some (.int .i64 (d.u r : Nat))
  n : d.n ≤ 4
  t : ∀ r i, 0 ≤ d.t r i ∧ d.t r i ≤ 1099511627776
  u : ∀ r, d.u r ≤ 1099511627776
theorem BdIs.gr {w w' : World} {b p : Nat} {d : Brd} (h : BdIs w b p d) (hg : Gr w w') : BdIs w' b p d := by
  obtain ⟨cs, h1, h2⟩ := h.row
  exact ⟨h.top.gr hg, h.ne, ⟨cs, h1.gr hg, h2⟩, h.n, h.t, h.u⟩
theorem BdIs.time {w : World} {b p : Nat} {d : Brd} (h : BdIs w b p d) {r i : Nat} (hr : r < d.n) (hi : i < 64) : w.cell? ⟨p, r * 65 + i, none⟩ = some (.int .i64 (d.t r i)) := by
  obtain ⟨cs, h1, _, h3, _⟩ := h.row
  exact h1.cell (h3 r i hr hi)
theorem BdIs.uses {w : World} {b p : Nat} {d : Brd} (h : BdIs w b p d) {r : Nat} (hr : r < d.n) : w.cell? ⟨p, r * 65 + 64, none⟩ = some (.int .i64 (d.u r : Nat)) := by
  obtain ⟨cs, h1, _, _, h4⟩ := h.row
  exact h1.cell (h4 r hr)
theorem BdIs.free {w : World} {b p : Nat} {d : Brd} (h : BdIs w b p d) (i : Nat) : w.frozen? ⟨p, i, none⟩ = false := by
  obtain ⟨cs, h1, _⟩ := h.row
  exact h1.free i
def zeroB (l s n : Int) : Brd := ⟨l, s, (min (max n 0) 4).toNat, fun _ _ => 0, fun _ => 0⟩
theorem make_m (n : Nat) (h : n ≤ 4) (w : World) : (Instr.makeSlice 45 (.int .i64 (n : Nat)) (.int .i64 (n : Nat))).run Try.prog w = .ok (.slice (some ⟨w.heap.size, 0, none⟩) n n) (w.alloc (.cells (Array.replicate (n * 65) (.int .i64 0)) 51)) := by
  rcases (show n = 0 ∨ n = 1 ∨ n = 2 ∨ n = 3 ∨ n = 4 by omega) with rfl | rfl | rfl | rfl | rfl <;> kernel_rfl
set_option maxRecDepth 100000 in
set_option maxHeartbeats 1000000 in
theorem bdNew_any (l s n : Int) (w : World) : Calls Try.prog 10 #[.agg #[.int .i64 l, .int .i64 s], .int .i64 n] w fun e w' => ∃ b p, e = .returned (.pointer (some ⟨b, 0, none⟩)) ∧ w.heap.size ≤ b ∧ w.heap.size ≤ p ∧ BdIs w' b p (zeroB l s n) ∧ Gr w w' := by
  obtain ⟨k, hk, hk4⟩ : ∃ k : Nat, (min (max n 0) 4 : Int) = (k : Int) ∧ k ≤ 4 := ⟨(min (max n 0) 4).toNat, by omega, by omega⟩
  have hmk := make_m k hk4
  rw [← hk] at hmk
  have HK := Lib.hid hk
  have HE : Hid ((zeroB l s n) = ⟨l, s, k, fun _ _ => 0, fun _ => 0⟩) := Lib.hid (by unfold zeroB; rw [hk]; rfl)
  rw [HE.out]
  clear hk
  go_enter Try.func10, Try.ntmps10
  go_wp2
  go_region
  go_wp2
  go_ret
  generalize hW0 : w.alloc (.cells #[.int .i64 l, .int .i64 s] 24) = W0
  have h0 : Gr w W0 := hW0 ▸ (Gr.refl w).alloc _
  have z0 : W0.heap.size = w.heap.size + 1 := by rw [← hW0]; show (w.heap.push _).size = _; simp
  have hB1 := Blk.new W0 (Array.replicate (k * 65) (.int .i64 0)) 51
  rw [z0] at hB1
  generalize hW1 : W0.alloc (.cells (Array.replicate (k * 65) (.int .i64 0)) 51) = W1 at *
  have h1 : Gr w W1 := hW1 ▸ h0.alloc _
  have z1 : W1.heap.size = w.heap.size + 1 + 1 := by rw [← hW1, ← z0]; show (W0.heap.push _).size = _; simp
  have hB2 := Blk.new W1 #[.int .i64 l, .int .i64 s, .slice (some ⟨w.heap.size + 1, 0, none⟩) k k] 47
  rw [z1] at hB2
  have h2 := h1.alloc (.cells #[.int .i64 l, .int .i64 s, .slice (some ⟨w.heap.size + 1, 0, none⟩) k k] 47)
  have hB3 := hB1.gr ((Gr.refl W1).alloc (.cells #[.int .i64 l, .int .i64 s, .slice (some ⟨w.heap.size + 1, 0, none⟩) k k] 47))
  refine ⟨w.heap.size + 1 + 1, w.heap.size + 1, rfl, by omega, by omega, ⟨hB2, by omega, ⟨_, hB3, by simp, fun r i hr hi => ?_, fun r hr => ?_⟩, hk4, fun _ _ => by simp, fun _ => by simp⟩, h2.drew⟩
  · simp only at hr
    rw [Array.getElem?_replicate, if_pos (by omega)]
  · simp only at hr
    rw [Array.getElem?_replicate, if_pos (by omega)]; rfl
def upTo (n m : Int) : Bool := decide (1 ≤ n ∧ n ≤ m)
set_option maxRecDepth 100000 in
theorem upTo_any (n m : Int) (w : World) : Calls Try.prog 18 #[.int .i64 n, .int .i64 m] w fun e w' => e = .returned (.bool (upTo n m)) ∧ w = w' := by
  generalize hq : upTo n m = q
  have HQ := Lib.hid hq
  clear hq
  by_cases h0 : 1 ≤ n
  · go_enter Try.func18, Try.ntmps18
    go_wp2
    go_ret
    exact ⟨by rw [← HQ.out]; unfold upTo; simp [h0], rfl⟩
  · go_enter Try.func18, Try.ntmps18
    go_wp2
    go_ret
    exact ⟨by rw [← HQ.out]; unfold upTo; simp [h0]; omega, rfl⟩
def goodP (l s : Int) : Bool := upTo l 64 && upTo s 65536
set_option maxRecDepth 100000 in
theorem check_any21 (l s : Int) (w : World) : Calls Try.prog 8 #[.agg #[.int .i64 l, .int .i64 s]] w fun e w' => e = .returned (.int .i64 (if goodP l s then 0 else 12)) ∧ Gr w w' := by
  have HG := Lib.hid ((Gr.refl w).alloc (.cells #[.int .i64 l, .int .i64 s] 24))
  have H1 := Lib.hid (upTo_any l 64)
  have H2 := Lib.hid (upTo_any s 65536)
  unfold goodP
  generalize upTo l 64 = q1 at *
  generalize upTo s 65536 = q2 at *
  cases q1
  · go_enter Try.func8, Try.ntmps8
    go_wp2_with fail
    refine (H1.out _).mono ?_
    rintro e w2 ⟨rfl, rfl⟩
    go_wp2
    go_ret
    exact ⟨rfl, HG.out⟩
  · cases q2
    · go_enter Try.func8, Try.ntmps8
      go_wp2_with fail
      refine (H1.out _).mono ?_
      rintro e w2 ⟨rfl, rfl⟩
      go_wp2_with fail
      refine (H2.out _).mono ?_
      rintro e w2 ⟨rfl, rfl⟩
      go_wp2
      go_ret
      exact ⟨rfl, HG.out⟩
    · go_enter Try.func8, Try.ntmps8
      go_wp2_with fail
      refine (H1.out _).mono ?_
      rintro e w2 ⟨rfl, rfl⟩
      go_wp2_with fail
      refine (H2.out _).mono ?_
      rintro e w2 ⟨rfl, rfl⟩
      go_wp2
      go_ret
      exact ⟨rfl, HG.out⟩
def hasB (d : Brd) (r : Int) : Bool := decide (0 ≤ r ∧ r < (d.n : Int))
set_option maxRecDepth 100000 in
theorem bdHas_any {b p : Nat} {d : Brd} (r : Int) (w : World) (h : BdIs w b p d) : Calls Try.prog 19 #[.pointer (some ⟨b, 0, none⟩), .int .i64 r] w fun e w' => e = .returned (.bool (hasB d r)) ∧ w = w' := by
  have c2 := h.top.cell (i := 2) rfl
  generalize hq : hasB d r = q
  have HQ := Lib.hid hq
  clear hq h
  generalize hn : d.n = n at *
  have HN := Lib.hid hn
  clear hn
  by_cases h0 : 0 ≤ r
  · go_enter Try.func19, Try.ntmps19
    go_wp2
    go_ret
    exact ⟨by rw [← HQ.out]; unfold hasB; simp [h0, HN.out], rfl⟩
  · go_enter Try.func19, Try.ntmps19
    go_wp2
    go_ret
    exact ⟨by rw [← HQ.out]; unfold hasB; simp [h0]; omega, rfl⟩
set_option maxRecDepth 100000 in
set_option maxHeartbeats 1000000 in
theorem mtTouch_any {p o u k : Nat} {x : Value} (now : Int) (w : World) (h0 : w.cell? ⟨p, o + 64, none⟩ = some (.int .i64 (u : Nat))) (h1 : w.cell? ⟨p, o + k, none⟩ = some x) (hf : ∀ i, w.frozen? ⟨p, i, none⟩ = false) (hk : ((u : Int).tmod 64) = (k : Int)) (hk4 : k < 64) (hu : u ≤ 1099511627776) :
    Calls Try.prog 20 #[.pointer (some ⟨p, o, none⟩), .int .i64 now] w fun e w' => e = .returned (.tuple #[]) ∧ w' = ((w.setCell ⟨p, o + k, none⟩ (.int .i64 now)).setCell ⟨p, o + 64, none⟩ (.int .i64 ((u : Int) + 1))).drew := by
  have hne : o + k ≠ o + 64 := by omega
  go_enter Try.func20, Try.ntmps20
  go_wp2
  go_region
  go_wp2
  go_end0
  exact ⟨rfl, rfl⟩
theorem slice64 (p o m : Nat) (h : m ≤ 64) (w : World) : (Instr.sliceAt 49 (.pointer (some ⟨p, o, none⟩)) none (some (.int .i64 (m : Nat))) none).run Try.prog w = .ok (.slice (some ⟨p, o, none⟩) m 64) w := by
  have ha : (Try.prog).arrayLen 49 = 64 := by kernel_rfl
  have hs : ∀ w, (sizeOf ((Try.prog).elem 49)).run Try.prog w = .ok 1 w := fun _ => by kernel_rfl
  rw [run_sliceAt_array_h w 49 ⟨p, o, none⟩ (by kernel_rfl) .i64 (m : Nat) (by omega) (by rw [ha]; omega), hs, ha]
  simp [slicedAt, Addr.add, go_sem]
def hitT (x now span : Int) : Bool := decide (x ≤ now ∧ now - x < span)
def cntT (t : Nat → Int) (now span : Int) : Nat → Nat
  | 0 => 0
  | k + 1 => cntT t now span k + if hitT (t k) now span then 1 else 0
theorem cntT_le (t : Nat → Int) (now span : Int) : ∀ k, cntT t now span k ≤ k
  | 0 => Nat.le_refl _
  | k + 1 => by have := cntT_le t now span k; unfold cntT; split <;> omega
set_option maxRecDepth 100000 in
set_option maxHeartbeats 1000000 in
theorem mtCount_any {p o u : Nat} {t : Nat → Int} (now span : Int) (w : World) (h0 : w.cell? ⟨p, o + 64, none⟩ = some (.int .i64 (u : Nat))) (h1 : ∀ i, i < 64 → w.cell? ⟨p, o + i, none⟩ = some (.int .i64 (t i))) (ht : ∀ i, 0 ≤ t i ∧ t i ≤ 1099511627776) (hn : 0 ≤ now ∧ now ≤ 1099511627776) :
    Calls Try.prog 21 #[.pointer (some ⟨p, o, none⟩), .int .i64 now, .int .i64 span] w fun e w' => e = .returned (.int .i64 (cntT t now span (min u 64) : Nat)) ∧ ∃ q, w' = w.drewN q := by
  obtain ⟨m, hm, hm64⟩ : ∃ m : Nat, (min (u : Int) 64 : Int) = (m : Int) ∧ m ≤ 64 := ⟨min u 64, by omega, by omega⟩
  have HM := Lib.hid (show min u 64 = m by omega)
  rw [HM.out]
  have HC0 := Lib.hid (show cntT t now span 0 = 0 from rfl)
  have HC := Lib.hid (fun k => show cntT t now span (k + 1) = cntT t now span k + (if hitT (t k) now span then 1 else 0) from rfl)
  have HL := Lib.hid (cntT_le t now span)
  generalize cntT t now span = C at *
  have hsl := slice64 p o m hm64
  have HT := Lib.hid ht
  have H1 := Lib.hid h1
  clear ht h1
  go_enter Try.func21, Try.ntmps21
  go_wp2
  go_region
  generalize hz : w.drew = wz at *
  have H1 : Hid (∀ i, i < 64 → wz.cell? ⟨p, o + i, none⟩ = some (.int .i64 (t i))) := Lib.hid (by rw [← hz]; exact H1.out)
  have HG : Hid (∃ q, wz = w.drewN q) := Lib.hid ⟨1, hz.symm⟩
  clear h0 hz
  go_wp2
  go_loopw [7, 21] (fun l i wr => ∃ k : Nat, k ≤ m ∧ i = .int .i64 k ∧ l = .int .i64 (C k : Nat) ∧ wr = wz) (fun _ i _ => m - (intOf i).toNat)
  case atStart => exact ⟨0, by omega, rfl, by rw [HC0.out]; rfl, rfl⟩
  case round =>
    obtain ⟨k, hk, rfl, rfl, rfl⟩ := hrel
    by_cases hlt : k < m
    · have c0 := H1.out k (by omega)
      have hx := HT.out k
      have HK := Lib.hid (HC.out k)
      have hck := HL.out k
      have hq : hitT (t k) now span = decide (t k ≤ now ∧ now - t k < span) := rfl
      generalize t k = x at *
      have hw1 : IntKind.i64.wrap (now - x) = now - x := IntWalk.i64_in _ (by omega)
      by_cases h2 : x ≤ now
      · by_cases h3 : now - x < span
        · rw [hq, decide_eq_true ⟨h2, h3⟩, if_pos rfl] at HK
          clear hq
          generalize C k = c at *
          go_wp2
          exact ⟨⟨k + 1, hlt, by simp, by rw [HK.out]; simp, trivial⟩, by simp [intOf]; omega⟩
        · rw [hq, decide_eq_false (by omega), if_neg (by simp)] at HK
          clear hq
          generalize C k = c at *
          go_wp2
          exact ⟨⟨k + 1, hlt, by simp, by rw [HK.out]; simp, trivial⟩, by simp [intOf]; omega⟩
      · rw [hq, decide_eq_false (by omega), if_neg (by simp)] at HK
        clear hq
        generalize C k = c at *
        go_wp2
        exact ⟨⟨k + 1, hlt, by simp, by rw [HK.out]; simp, trivial⟩, by simp [intOf]; omega⟩
    · obtain rfl : k = m := by omega
      go_wp2
      go_ret
      exact ⟨rfl, HG.out⟩
/-- Touch. -/
def touchB (d : Brd) (r : Nat) (now : Int) : Brd := ⟨d.least, d.span, d.n, fun r' i => if r' = r ∧ i = d.u r % 64 then now else d.t r' i, fun r' => if r' = r then d.u r + 1 else d.u r'⟩
theorem BdIs.touch {w : World} {b p r : Nat} {d : Brd} (h : BdIs w b p d) (hr : r < d.n) {now : Int} (hn : 0 ≤ now ∧ now ≤ 1099511627776) (hu : d.u r < 1099511627776) :
    BdIs ((w.setCell ⟨p, r * 65 + d.u r % 64, none⟩ (.int .i64 now)).setCell ⟨p, r * 65 + 64, none⟩ (.int .i64 ((d.u r : Int) + 1))).drew b p (touchB d r now) := by
  obtain ⟨cs, h1, h2, h3, h4⟩ := h.row
  have hm : d.u r % 64 < 64 := Nat.mod_lt _ (by omega)
  refine ⟨(h.top.other h.ne _ _).other h.ne _ _, h.ne, ⟨_, (h1.set _ _).set _ _, by simp [h2, touchB], fun r' i hr' hi => ?_, fun r' hr' => ?_⟩, h.n, fun r' i => ?_, fun r' => ?_⟩
  · have e0 := h3 r' i hr' hi
    simp only [touchB] at hr' ⊢
    rw [Array.getElem?_setIfInBounds_ne (by omega), Array.getElem?_setIfInBounds]
    by_cases e : r' = r ∧ i = d.u r % 64
    · obtain ⟨rfl, rfl⟩ := e
      have := (Array.getElem?_eq_some_iff.1 e0).1
      rw [if_pos rfl, if_pos this, if_pos ⟨rfl, rfl⟩]
    · rw [if_neg (by omega), if_neg e]; exact e0
  · have e0 := h4 r' hr'
    simp only [touchB] at hr' ⊢
    rw [Array.getElem?_setIfInBounds]
    by_cases e : r' = r
    · subst e
      have := (Array.getElem?_eq_some_iff.1 e0).1
      rw [if_pos rfl, if_pos (by simpa using this), if_pos rfl]; simp
    · rw [if_neg (by omega), if_neg e, Array.getElem?_setIfInBounds_ne (by omega)]; exact e0
  · simp only [touchB]
    split
    · exact hn
    · exact h.t r' i
  · simp only [touchB]
    split
    · omega
    · exact h.u r'
/-- What a call leaves: only the meters may turn. -/
def BdTo (b p : Nat) (w : World) (d : Brd) (w' : World) : Prop := BdIs w' b p d ∧ Far p (.slice none 0 0) w w'
theorem has_nat21 {d : Brd} {k : Int} (hk : hasB d k = true) : ∃ j : Nat, k = (j : Int) ∧ j < d.n := by
  have := of_decide_eq_true hk
  exact ⟨k.toNat, by omega, by omega⟩
def touchI (d : Brd) (r now : Int) : Brd := if hasB d r then touchB d r.toNat now else d
set_option maxRecDepth 100000 in
set_option maxHeartbeats 1000000 in
theorem bdTouch_any {b p : Nat} {d : Brd} (r now : Int) (w : World) (h : BdIs w b p d) (hn : 0 ≤ now ∧ now ≤ 1099511627776) (hu : ∀ i, d.u i < 1099511627776) :
    Calls Try.prog 12 #[.pointer (some ⟨b, 0, none⟩), .int .i64 r, .int .i64 now] w fun e w' => e = .returned (.bool (hasB d r)) ∧ BdTo b p w (touchI d r now) w' := by
  have HH := Lib.hid (bdHas_any r w h)
  unfold touchI
  cases hq : hasB d r
  · rw [hq] at HH
    have H := Lib.hid h
    rw [if_neg (by decide)]
    clear h hq
    go_enter Try.func12, Try.ntmps12
    go_wp2_with fail
    refine HH.out.mono ?_
    rintro e w2 ⟨rfl, rfl⟩
    go_wp2
    go_ret
    exact ⟨rfl, H.out, Far.refl _ _ _⟩
  · rw [hq] at HH
    obtain ⟨j, rfl, hj⟩ := has_nat21 hq
    rw [if_pos rfl, show (j : Int).toNat = j by omega]
    have hm : d.u j % 64 < 64 := Nat.mod_lt _ (by omega)
    have HT := Lib.hid (mtTouch_any now w (h.uses hj) (h.time hj hm) h.free (by rw [Int.tmod_eq_emod_of_nonneg (by omega)]; omega) hm (h.u j))
    have HI := Lib.hid (h.touch hj hn (hu j))
    have c2 := h.top.cell (i := 2) rfl
    have hj2 : (j : Int) < (d.n : Int) := by omega
    clear h hq hm hu
    generalize d.n = n at *
    go_enter Try.func12, Try.ntmps12
    go_wp2_with fail
    refine HH.out.mono ?_
    rintro e w2 ⟨rfl, rfl⟩
    go_wp2_with fail
    refine HT.out.mono ?_
    rintro e w3 ⟨rfl, rfl⟩
    go_wp2
    go_ret
    exact ⟨rfl, HI.out, ((Far.setCell p _ _ _ _).trans (From.refl _ _) (Far.setCell p _ _ _ _)).trans (From.refl _ _) (Far.of_gr (Gr.refl _).drew)⟩
def countB (d : Brd) (r now : Int) : Nat := if hasB d r then cntT (d.t r.toNat) now d.span (min (d.u r.toNat) 64) else 0
set_option maxRecDepth 100000 in
set_option maxHeartbeats 1000000 in
theorem bdCount_any {b p : Nat} {d : Brd} (r now : Int) (w : World) (h : BdIs w b p d) (hn : 0 ≤ now ∧ now ≤ 1099511627776) :
    Calls Try.prog 14 #[.pointer (some ⟨b, 0, none⟩), .int .i64 r, .int .i64 now] w fun e w' => e = .returned (.int .i64 (countB d r now : Nat)) ∧ ∃ q, w' = w.drewN q := by
  have HH := Lib.hid (bdHas_any r w h)
  unfold countB
  cases hq : hasB d r
  · rw [hq] at HH
    rw [if_neg (by decide)]
    clear h hq
    go_enter Try.func14, Try.ntmps14
    go_wp2_with fail
    refine HH.out.mono ?_
    rintro e w2 ⟨rfl, rfl⟩
    go_wp2
    go_ret
    exact ⟨rfl, 0, rfl⟩
  · rw [hq] at HH
    obtain ⟨j, rfl, hj⟩ := has_nat21 hq
    rw [if_pos rfl, show (j : Int).toNat = j by omega]
    have HT := Lib.hid (fun w' (hg : Gr w w') => mtCount_any now d.span w' ((h.gr hg).uses hj) (fun i hi => (h.gr hg).time hj hi) (h.t j) hn)
    have c1 := h.top.cell (i := 1) rfl
    have c2 := h.top.cell (i := 2) rfl
    have hj2 : (j : Int) < (d.n : Int) := by omega
    clear h hq
    generalize d.n = n at *
    go_enter Try.func14, Try.ntmps14
    go_wp2_with fail
    refine HH.out.mono ?_
    rintro e w2 ⟨rfl, rfl⟩
    go_wp2
    go_quiet ((go_at_call 21; exact Calls.quiet_of (HT.out _ ((Gr.refl _).drewN _))))
    go_wp2
    go_ret
    exact ⟨rfl, _, rfl⟩
def wantsB (d : Brd) (r now : Int) : Bool := decide (d.least ≤ (countB d r now : Int))
set_option maxRecDepth 100000 in
set_option maxHeartbeats 1000000 in
theorem bdWants_any {b p : Nat} {d : Brd} (r now : Int) (w : World) (h : BdIs w b p d) (hn : 0 ≤ now ∧ now ≤ 1099511627776) :
    Calls Try.prog 15 #[.pointer (some ⟨b, 0, none⟩), .int .i64 r, .int .i64 now] w fun e w' => e = .returned (.bool (wantsB d r now)) ∧ ∃ q, w' = w.drewN q := by
  have HT := Lib.hid (fun w' (hg : Gr w w') => bdCount_any r now w' (h.gr hg) hn)
  have c0 := h.top.cell (i := 0) rfl
  unfold wantsB
  generalize countB d r now = c at *
  clear h
  go_enter Try.func15, Try.ntmps15
  go_wp2
  go_quiet ((go_at_call 14; exact Calls.quiet_of (HT.out _ ((Gr.refl _).drewN _))))
  go_wp2
  go_ret
  exact ⟨rfl, _, rfl⟩
/-- Busiest: the best region of the first k, and its count. -/
def bestB (d : Brd) (now : Int) : Nat → Int × Nat
  | 0 => (-1, 0)
  | k + 1 => if (bestB d now k).2 < countB d (k : Nat) now then ((k : Nat), countB d (k : Nat) now) else bestB d now k
set_option maxRecDepth 100000 in
set_option maxHeartbeats 1000000 in
theorem bdBusy_any {b p : Nat} {d : Brd} (now : Int) (w : World) (h : BdIs w b p d) (hn : 0 ≤ now ∧ now ≤ 1099511627776) :
    Calls Try.prog 16 #[.pointer (some ⟨b, 0, none⟩), .int .i64 now] w fun e w' => e = .returned (.tuple #[.int .i64 (bestB d now d.n).1, .int .i64 ((bestB d now d.n).2 : Nat)]) ∧ ∃ q, w' = w.drewN q := by
  have HT := Lib.hid (fun (k : Nat) w' (hg : Gr w w') => bdCount_any (k : Nat) now w' (h.gr hg) hn)
  have c2 := h.top.cell (i := 2) rfl
  have hn4 := h.n
  have HB0 := Lib.hid (show bestB d now 0 = (-1, 0) from rfl)
  have HB := Lib.hid (fun k => show bestB d now (k + 1) = if (bestB d now k).2 < countB d (k : Nat) now then (((k : Nat) : Int), countB d (k : Nat) now) else bestB d now k from rfl)
  have HC : Hid (∀ k : Nat, countB d (k : Nat) now ≤ 64) := Lib.hid (fun k => by
    unfold countB
    split
    · have := cntT_le (d.t (k : Int).toNat) now d.span (min (d.u (k : Int).toNat) 64); omega
    · omega)
  generalize bestB d now = B at *
  generalize (fun k : Nat => countB d (k : Nat) now) = C at *
  clear h
  generalize d.n = n at *
  go_enter Try.func16, Try.ntmps16
  go_wp2
  go_loopw [6, 7, 15] (fun x y i wr => ∃ k : Nat, k ≤ n ∧ i = .int .i64 k ∧ x = .int .i64 (B k).1 ∧ y = .int .i64 ((B k).2 : Nat) ∧ Hid (∃ q, wr = w.drewN q)) (fun _ _ i _ => n - (intOf i).toNat)
  case atStart => exact ⟨0, by omega, rfl, by rw [HB0.out], by rw [HB0.out]; rfl, Lib.hid ⟨0, rfl⟩⟩
  case round =>
    obtain ⟨k, hk, rfl, rfl, rfl, hG⟩ := hrel
    obtain ⟨q0, rfl⟩ := hG.out
    clear hG
    by_cases hlt : k < n
    · have HK := Lib.hid (HB.out k)
      have hck := HC.out k
      have HTk := Lib.hid (HT.out k _ ((Gr.refl w).drewN q0))
      generalize countB d (k : Nat) now = c at *
      obtain ⟨bk, hbk⟩ : ∃ bk, B k = bk := ⟨_, rfl⟩
      rw [hbk] at HK ⊢
      clear hbk
      obtain ⟨x0, y0⟩ := bk
      by_cases h2 : y0 < c
      · simp only [h2, if_true] at HK
        go_wp2_with fail
        refine HTk.out.mono ?_
        rintro e w9 ⟨rfl, q9, rfl⟩
        go_wp2
        exact ⟨⟨k + 1, hlt, by simp, by rw [HK.out], by rw [HK.out], Lib.hid ⟨_, rfl⟩⟩, by simp [intOf]; omega⟩
      · simp only [h2, if_false] at HK
        go_wp2_with fail
        refine HTk.out.mono ?_
        rintro e w9 ⟨rfl, q9, rfl⟩
        go_wp2
        exact ⟨⟨k + 1, hlt, by simp, by rw [HK.out], by rw [HK.out], Lib.hid ⟨_, rfl⟩⟩, by simp [intOf]; omega⟩
    · obtain rfl : k = n := by omega
      go_wp2
      refine bodyPost_ret (v := .tuple #[.int .i64 (B k).1, .int .i64 ((B k).2 : Nat)]) (by simp [results, Try.results16, go_sem]; try rfl) rfl ?_
      exact ⟨rfl, _, rfl⟩
def givesB (d : Brd) (r now : Int) : Int × Bool := if (bestB d now d.n).1 = r ∨ ((bestB d now d.n).2 : Int) < d.least ∨ (bestB d now d.n).2 ≤ countB d r now then (0, false) else ((bestB d now d.n).1, true)
set_option maxRecDepth 100000 in
set_option maxHeartbeats 1000000 in
theorem bdGives_any {b p : Nat} {d : Brd} (r now : Int) (w : World) (h : BdIs w b p d) (hn : 0 ≤ now ∧ now ≤ 1099511627776) :
    Calls Try.prog 17 #[.pointer (some ⟨b, 0, none⟩), .int .i64 r, .int .i64 now] w fun e w' => e = .returned (.tuple #[.int .i64 (givesB d r now).1, .bool (givesB d r now).2]) ∧ ∃ q, w' = w.drewN q := by
  have HT := Lib.hid (fun w' (hg : Gr w w') => bdCount_any r now w' (h.gr hg) hn)
  have HB := Lib.hid (bdBusy_any now w h hn)
  have c0 := h.top.cell (i := 0) rfl
  have HG : Hid (givesB d r now = if (bestB d now d.n).1 = r ∨ ((bestB d now d.n).2 : Int) < d.least ∨ (bestB d now d.n).2 ≤ countB d r now then (0, false) else ((bestB d now d.n).1, true)) := Lib.hid rfl
  generalize givesB d r now = gv at *
  generalize bestB d now d.n = bb at *
  obtain ⟨x, y⟩ := bb
  generalize countB d r now = c at *
  clear h
  generalize d.least = l at *
  simp only at HG HB
  by_cases h1 : x = r
  · subst h1
    rw [if_pos (Or.inl rfl)] at HG
    obtain rfl := HG.out
    go_enter Try.func17, Try.ntmps17
    go_wp2_with fail
    refine HB.out.mono ?_
    rintro e w2 ⟨rfl, q2, rfl⟩
    go_wp2
    refine bodyPost_ret (v := .tuple #[.int .i64 0, .bool false]) (by simp [results, Try.results17, go_sem]; try rfl) rfl ?_
    exact ⟨rfl, _, rfl⟩
  · have e1 : (x == r) = false := by simpa using h1
    by_cases h2 : (y : Int) < l
    · rw [if_pos (Or.inr (Or.inl h2))] at HG
      obtain rfl := HG.out
      clear h1
      go_enter Try.func17, Try.ntmps17
      go_wp2_with fail
      refine HB.out.mono ?_
      rintro e w2 ⟨rfl, q2, rfl⟩
      go_wp2
      refine bodyPost_ret (v := .tuple #[.int .i64 0, .bool false]) (by simp [results, Try.results17, go_sem]; try rfl) rfl ?_
      exact ⟨rfl, _, rfl⟩
    · by_cases h3 : y ≤ c
      · rw [if_pos (Or.inr (Or.inr h3))] at HG
        obtain rfl := HG.out
        clear h1
        have h3' : (y : Int) ≤ (c : Int) := by omega
        go_enter Try.func17, Try.ntmps17
        go_wp2_with fail
        refine HB.out.mono ?_
        rintro e w2 ⟨rfl, q2, rfl⟩
        go_wp2_with fail
        refine (HT.out _ ((Gr.refl _).drewN q2)).mono ?_
        rintro e w3 ⟨rfl, q3, rfl⟩
        go_wp2
        refine bodyPost_ret (v := .tuple #[.int .i64 0, .bool false]) (by simp [results, Try.results17, go_sem]; try rfl) rfl ?_
        exact ⟨rfl, _, rfl⟩
      · rw [if_neg (by rintro (h | h | h); exact h1 h; exact h2 h; exact h3 h)] at HG
        obtain rfl := HG.out
        clear h1
        have h3' : ¬ (y : Int) ≤ (c : Int) := by omega
        go_enter Try.func17, Try.ntmps17
        go_wp2_with fail
        refine HB.out.mono ?_
        rintro e w2 ⟨rfl, q2, rfl⟩
        go_wp2_with fail
        refine (HT.out _ ((Gr.refl _).drewN q2)).mono ?_
        rintro e w3 ⟨rfl, q3, rfl⟩
        go_wp2
        refine bodyPost_ret (v := .tuple #[.int .i64 x, .bool true]) (by simp [results, Try.results17, go_sem]; try rfl) rfl ?_
        exact ⟨rfl, _, rfl⟩
end Go.Proofs.Ytmgpnpmdmelnkaa
