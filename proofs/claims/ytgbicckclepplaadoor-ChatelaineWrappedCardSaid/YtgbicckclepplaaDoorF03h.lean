import Derived.Test.YtgbicckclepplaaDoorF03g
import Derived.Test.YtgbicckclepplaaDoorF03f
import Derived.Test.YtgbicckclepplaaDoorSh0
import Derived.WalkKit
import Derived.ProofKit
import Derived.LoopTactic
import Derived.Outline
import Derived.WalkSpells
import Derived.WalkLawsBesides
import Derived.Lib.Hide
import Derived.Deep.LoopGhost
import Derived.Deep.QuietTactic
import Derived.BigQuiet
import Derived.ShutString
import Derived.LaidEql
import Derived.Laws.Pointers
namespace Go.Proofs.YtgbicckclepplaaDoor
open Go.ChangeShapes Go.WideShapes Go.ChangeAt Go.RowKit Go.Extern.Stop Go.Stop Go.Extern
set_option linter.unusedVariables false
/-- Places, each followed by a colon and a blank. -/
def placesOf (l : List ByteArray) : List UInt8 := l.flatMap fun s => bytesOf s ++ [58, 32]
theorem placesOf_snoc (l : List ByteArray) (k : Nat) (h : k < l.length) : placesOf (l.take (k + 1)) = placesOf (l.take k) ++ bytesOf l[k] ++ [58, 32] := by
  unfold placesOf
  rw [List.take_succ_eq_append_getElem h, List.flatMap_append]; simp
theorem placesOf_le (l : List ByteArray) (h : ∀ s ∈ l, s.size ≤ 1000) : (placesOf l).length ≤ l.length * 1002 := by
  induction l with
  | nil => simp [placesOf]
  | cons s t ih =>
    have h1 := h s (List.mem_cons_self ..)
    have h2 := ih (fun u hu => h u (List.mem_cons_of_mem _ hu))
    have h3 : (bytesOf s).length = s.size := by simp [bytesOf]
    simp only [placesOf, List.flatMap_cons, List.length_append, List.length_cons, List.length_nil] at *
    omega
/-- An error in words. -/
def textOf (L : List Lk) : List UInt8 := placesOf (trailOf L) ++ [99, 111, 100, 101, 32] ++ Lib.decDigits (codeOf L).toNat
theorem decDigits_le (n : Nat) (h : n < 100) : (Lib.decDigits n).length ≤ 2 := by
  unfold Lib.decDigits
  split
  · simp
  · have : n / 10 < 10 := by omega
    rw [show Lib.decDigits (n / 10) = [UInt8.ofNat (48 + n / 10)] by unfold Lib.decDigits; rw [dif_pos this]]
    simp
theorem kept_cell {w w' : World} {B g : Nat} {c : Array Value} {fz : Nat × Nat} {o : Nat} {v : Value} (hk : Lib.OthersKept 5 (some B) w w') (hg : w.heap[g]? = some (.cells c 9 fz)) (hne : g ≠ B) (hc : w.cell? ⟨g, o, none⟩ = some v) : w'.cell? ⟨g, o, none⟩ = some v := by
  have h := hk g _ hg (by simpa using hne) (by intro c2 fz2 e; injection e with _ h2 _; exact absurd h2 (by decide))
  rw [World.cell?_of_block (w := w) (a := ⟨g, o, none⟩) (h.trans hg.symm)]
  exact hc
theorem bd_block {B b : Nat} {l : List UInt8} {w : World} (h : BdIs B b l w) : ∃ c, w.heap[b]? = some (.cells c 65 (0, 0)) := by
  rcases h with ⟨_, v, hb, _⟩ | ⟨_, v, hb, _⟩ <;> exact ⟨_, hb⟩
theorem text_nil (w : World) : Calls Tryd.prog 17 #[.nilIface] w fun e w' => e = .returned (.string ⟨#[]⟩) ∧ w = w' := by
  have q1 := eqNN
  go_enter Tryd.func17, Tryd.ntmps17
  go_wp2
  go_ret
  exact ⟨rfl, rfl⟩
set_option maxRecDepth 100000 in
set_option maxHeartbeats 1000000 in
theorem text_any (v : Value) (L : List Lk) (i : Nat) (w : World) (hL : L.length ≤ 1000) (hne : L ≠ []) (hs : Short 1000 L) (hi : codeOf L = (i : Int)) (hi2 : i < 100) (h : Chain w v L) (he : ET w) :
    Calls Tryd.prog 17 #[v] w fun e w' => e = .returned (.string ⟨(textOf L).toArray⟩) ∧ Gr w w' := by
  have HV := Lib.hid h
  have HE := Lib.hid he
  have HS := Lib.hid hs
  have HI := Lib.hid hi
  have HT := trail_short hs
  obtain ⟨t1, t2⟩ := HT
  have HPL := placesOf_le _ t1
  have HT1 := Lib.hid t1
  have q2 := eqIN
  have hD := decDigits_le i hi2
  have hE : textOf L = placesOf (trailOf L) ++ [99, 111, 100, 101, 32] ++ Lib.decDigits i := by unfold textOf; rw [hi]; rfl
  rcases h.isErr with rfl | ⟨t, a, rfl⟩
  · exact absurd (chain_nil h) hne
  · clear h he hs hi hne t1
    rw [hE]
    clear hE
    go_enter Tryd.func17, Tryd.ntmps17
    go_wp2_with fail
    refine (trail_any _ L _ hL HS.out (HV.out.gr ((Gr.refl w).alloc _)) (HE.out.gr ((Gr.refl w).alloc _))).mono ?_
    rintro e w2 ⟨a2, cap2, rfl, hst, htg, hg⟩
    have HB := Lib.hid ((show BdIs w.heap.size w.heap.size [] (w.alloc (.cells #[.pointer none, .slice none 0 0] 65)) from Lib.fresh_isBuilder _ _ w).gr hg)
    generalize hTT : trailOf L = T at *
    have HTE := Lib.hid hTT
    clear hTT
    have hTL := hst.2.1
    have HST := Lib.hid hst
    have HTG := Lib.hid htg
    have HG := Lib.hid (((Gr.refl w).alloc _).trans hg)
    clear hst htg hg
    go_wp2
    go_loopw [11] (fun n wr => ∃ k : Nat, n = .int .i64 (k : Nat) ∧ k ≤ T.length ∧ Hid (BdIs w.heap.size w.heap.size (placesOf (T.take k)) wr) ∧ Hid (Gr w wr) ∧ Hid (Lib.OthersKept 5 (some w.heap.size) w2 wr)) (fun n _ => T.length - (intOf n).toNat)
    case atStart => exact ⟨0, rfl, by omega, HB, HG, Lib.hid (Lib.OthersKept.refl _ _ _)⟩
    case round =>
      obtain ⟨k, rfl, hk, hB, hG, hK⟩ := hrel
      by_cases hlt : k < T.length
      · obtain ⟨b, off, ha, hb, hc, hz⟩ := HST.out.at k hlt
        have hsn := placesOf_snoc T k hlt
        have hle : (placesOf (T.take k)).length ≤ 1000 * 1002 := by
          have h1 := placesOf_le (T.take k) (fun s hs => HT1.out s (List.mem_of_mem_take hs))
          have h2 : (T.take k).length ≤ 1000 := by rw [List.length_take]; omega
          omega
        have hsk := HT1.out T[k] (List.getElem_mem hlt)
        have hcr : wr.cell? ⟨b, off + k, none⟩ = some (.string T[k]) := by
          rcases HTG.out with h0 | ⟨g, c, fz, h0, hgb⟩
          · rw [h0] at ha; cases ha
          · rw [h0] at ha; cases ha
            obtain ⟨c2, hc2⟩ := bd_block HB.out
            refine kept_cell hK.out hgb (fun e => ?_) hc
            rw [e, hc2] at hgb
            simp only [Option.some.injEq, Obj.cells.injEq] at hgb
            exact absurd hgb.2.1 (by decide)
        subst ha
        have hbw := cell_lt hcr
        have hBs := hG.out.size
        have HSN := Lib.hid hsn
        clear hsn hc hb hz
        generalize T[k] = s at *
        generalize placesOf (T.take k) = P at *
        have t3 : (k : Int) < T.length := by omega
        go_wp2_with fail
        refine (writeString_any w.heap.size w.heap.size P s _ hB.out (by omega) hBs).mono ?_
        rintro e w5 ⟨rfl, hB5, hb5, hk5⟩
        have HB5 := Lib.hid hB5
        have HG5 := Lib.hid (Gr.of (Below.trans hG.out hb5))
        have HK5 := Lib.hid (hK.out.trans hk5)
        have hs5 := HG5.out.size
        have hl5 : (P ++ bytesOf s).length ≤ 1000 * 1002 + 1000 := by
          rw [List.length_append, show (bytesOf s).length = s.size by simp [bytesOf]]; omega
        clear hB5 hb5 hk5 hcr hbw
        go_wp2_with fail
        refine (writeString_any w.heap.size w.heap.size (P ++ bytesOf s) ⟨#[58, 32]⟩ _ HB5.out (by show _ + 2 ≤ _; omega) hs5).mono ?_
        rintro e w6 ⟨rfl, hB6, hb6, hk6⟩
        have HB6 := Lib.hid (show BdIs w.heap.size w.heap.size (placesOf (T.take (k + 1))) w6 by rw [HSN.out]; exact hB6)
        have HG6 := Lib.hid (Gr.of (Below.trans HG5.out hb6))
        have HK6 := Lib.hid (HK5.out.trans hk6)
        clear hB6 hb6 hk6 hs5
        go_wp2
        go_roundw
        case rel => exact ⟨k + 1, by go_num, by omega, HB6, HG6, HK6⟩
        case measure => simp [intOf]; omega
      · obtain rfl : k = T.length := by omega
        have hTk : T.take T.length = T := List.take_length
        have HB2 := Lib.hid (show BdIs w.heap.size w.heap.size (placesOf T) wr by rw [← hTk]; simpa using hB.out)
        have hBs := hG.out.size
        clear hTk hB
        generalize hPP : placesOf T = P at *
        have HPE := Lib.hid hPP
        clear hPP
        go_wp2_with fail
        refine (writeString_any w.heap.size w.heap.size P ⟨#[99, 111, 100, 101, 32]⟩ _ HB2.out (by show _ + 5 ≤ _; omega) hBs).mono ?_
        rintro e w5 ⟨rfl, hB5, hb5, hk5⟩
        have HB5 := Lib.hid (show BdIs w.heap.size w.heap.size (P ++ [99, 111, 100, 101, 32]) w5 from hB5)
        have HG5 := Lib.hid (Gr.of (Below.trans hG.out hb5))
        clear hB5 hb5 hk5 hBs
        go_wp2_with fail
        refine (code_any _ L _ hL (HV.out.gr HG5.out) (HE.out.gr HG5.out)).mono ?_
        rintro e w6 ⟨rfl, hg6⟩
        rw [HI.out]
        have HB6 := Lib.hid (HB5.out.gr hg6)
        have HG6 := Lib.hid (HG5.out.trans hg6)
        have hs6 := HG6.out.size
        clear hg6
        go_wp2_with fail
        refine (Tryd.strconv_Itoa_small i hi2 _).mono ?_
        rintro e w7 ⟨rfl, rfl⟩
        go_wp2_with fail
        refine (writeString_any w.heap.size w.heap.size (P ++ [99, 111, 100, 101, 32]) ⟨(Lib.decDigits i).toArray⟩ _ HB6.out (by rw [List.length_append]; show _ + 5 + (Lib.decDigits i).toArray.size ≤ _; rw [List.size_toArray]; omega) hs6).mono ?_
        rintro e w8 ⟨rfl, hB8, hb8, hk8⟩
        have HB8 := Lib.hid (show BdIs w.heap.size w.heap.size (P ++ [99, 111, 100, 101, 32] ++ Lib.decDigits i) w8 by simpa [bytesOf] using hB8)
        have HG8 := Lib.hid (Gr.of (Below.trans HG6.out hb8))
        have hs8 := HG8.out.size
        clear hB8 hb8 hk8 hs6
        go_wp2_with fail
        refine (Tryd.Builder_String_any w.heap.size w.heap.size _ _ HB8.out hs8).mono ?_
        rintro e w9 ⟨rfl, hb9⟩
        have HG9 := Lib.hid (Gr.of (Below.trans HG8.out hb9))
        clear hb9 hs8
        generalize hRR : P ++ [99, 111, 100, 101, 32] ++ Lib.decDigits i = R at *
        have HRE := Lib.hid hRR
        clear hRR
        go_wp2
        go_ret
        exact ⟨by rw [HTE.out, HPE.out, HRE.out]; rfl, HG9.out⟩
end Go.Proofs.YtgbicckclepplaaDoor
