import Derived.Test.YtgbicckclepplaaDoorF03i
import Derived.WalkKit
import Derived.ProofKit
import Derived.LoopTactic
import Derived.Outline
import Derived.WalkSpells
import Derived.WalkLawsBesides
import Derived.Lib.Hide
import Derived.Deep.LoopGhost
import Derived.Deep.QuietTactic
import Derived.BigQuiet
import Derived.ShutString
import Derived.Laws.Pointers
namespace Go.Proofs.YtgbicckclepplaaDoor
open Go.ChangeShapes Go.WideShapes Go.ChangeAt Go.RowKit
set_option linter.unusedVariables false
theorem firstF_mem {M M' : List Lk} {c : Int} {s : ByteArray} (h : firstF M = some (c, s, M')) : Lk.fault c s ∈ M := by
  induction M with
  | nil => cases h
  | cons x t ih =>
    cases x with
    | other => exact List.mem_cons_of_mem _ (ih h)
    | fault c2 s2 =>
      simp only [firstF, Option.some.injEq, Prod.mk.injEq] at h
      obtain ⟨rfl, rfl, _⟩ := h
      exact List.mem_cons_self ..
/-- Codes are small. -/
def Codes (M : List Lk) : Prop := ∀ c s, Lk.fault c s ∈ M → 0 ≤ c ∧ c < 100
theorem codes_small {L : List LinkD} (h : ∀ p ∈ L, p.small) : Codes (L.map lkOf) := by
  intro c s hm
  obtain ⟨p, hp, he⟩ := List.mem_map.1 hm
  unfold lkOf at he
  split at he
  · cases he
  · simp only [Lk.fault.injEq] at he
    obtain ⟨rfl, _⟩ := he
    obtain ⟨h1, h2, _⟩ := h p hp
    omega
theorem code_nat {M : List Lk} (h : Codes M) : ∃ i : Nat, codeOf M = (i : Int) ∧ i < 100 := by
  unfold codeOf
  cases M with
  | nil => exact ⟨0, rfl, by decide⟩
  | cons x t =>
    cases hF : firstF (x :: t) with
    | none => exact ⟨1, rfl, by decide⟩
    | some y =>
      obtain ⟨c, s, M'⟩ := y
      obtain ⟨h1, h2⟩ := h c s (firstF_mem hF)
      exact ⟨c.toNat, by simp only; omega, by omega⟩
def ofP (l : List UInt8) : ByteArray := ⟨l.toArray⟩
theorem ofP_app (l : List UInt8) (s t : ByteArray) : ofP l ++ (s ++ t) = ofP (l ++ bytesOf s ++ bytesOf t) := by
  apply ByteArray.ext; simp [ofP, bytesOf]
theorem ofP_one (l : List UInt8) (s : ByteArray) : ofP l ++ s = ofP (l ++ bytesOf s) := by
  apply ByteArray.ext; simp [ofP, bytesOf]
theorem ofP_size (l : List UInt8) : (ofP l).size = l.length := by simp [ofP, ByteArray.size]
theorem refText_nil (a : Option Addr) (cap : Nat) (w : World) : Calls Tryd.prog 18 #[.slice a 0 cap] w fun e w' => e = .returned (.string ⟨#[]⟩) ∧ w = w' := by
  go_enter Tryd.func18, Tryd.ntmps18
  go_wp2
  go_ret
  exact ⟨rfl, rfl⟩
set_option maxRecDepth 100000 in
set_option maxHeartbeats 1000000 in
theorem refText_any (L : List LinkD) (a : Option Addr) (cap : Nat) (w : World) (hst : LinkRow w a L) (hL : L.length ≤ 1000) (hs : ∀ p ∈ L, p.small) (hne : L ≠ []) :
    Calls Tryd.prog 18 #[.slice a L.length cap] w fun e w' => e = .returned (.string (ofP (textOf (L.map lkOf)))) ∧ Gr w w' := by
  have HS := Lib.hid hs
  have HST := Lib.hid hst
  obtain ⟨i, hi, hi2⟩ := code_nat (codes_small hs)
  have hE : textOf (L.map lkOf) = placesOf (trailOf (L.map lkOf)) ++ [99, 111, 100, 101, 32] ++ Lib.decDigits i := by unfold textOf; rw [hi]; rfl
  have HI := Lib.hid hi
  have t0 : ((L.length : Int) == 0) = false := by
    rw [beq_eq_false_iff_ne]; intro h; apply hne; exact List.length_eq_zero_iff.1 (by omega)
  have hTS := trail_short (chain_short hs)
  have hPL := placesOf_le _ hTS.1
  have hD := decDigits_le i hi2
  have HT1 := Lib.hid hTS.1
  have hTl : (trailOf (L.map lkOf)).length ≤ 1000 := by have := hTS.2; simp at this; omega
  rw [hE]
  clear hE hs hst hi hne hTS
  go_enter Tryd.func18, Tryd.ntmps18
  go_wp2_with fail
  refine (refTrail_any L a cap _ HST.out hL (fun p hp => by have := (HS.out p hp).2.2; omega)).mono ?_
  rintro e w2 ⟨a2, cap2, rfl, hst2, htg, hg⟩
  generalize hTT : trailOf (L.map lkOf) = T at *
  have HTE := Lib.hid hTT
  have HST2 := Lib.hid hst2
  have HG := Lib.hid hg
  clear hst2 htg hg hTT
  go_wp2
  go_loopw [3, 13] (fun s n wr => ∃ k : Nat, n = .int .i64 (k : Nat) ∧ k ≤ T.length ∧ s = .string (ofP (placesOf (T.take k))) ∧ Hid (Gr w wr) ∧ Hid (Gr w2 wr)) (fun _ n _ => T.length - (intOf n).toNat)
  case atStart => exact ⟨0, rfl, by omega, rfl, HG, Lib.hid (Gr.refl _)⟩
  case round =>
    obtain ⟨k, rfl, hk, rfl, hG, hG2⟩ := hrel
    by_cases hlt : k < T.length
    · obtain ⟨b, off, ha, hb, hc, hz⟩ := (HST2.out.gr hG2.out).at k hlt
      have hsn := placesOf_snoc T k hlt
      have hle : (placesOf (T.take k)).length ≤ 1000 * 1002 := by
        have h1 := placesOf_le (T.take k) (fun s hs => HT1.out s (List.mem_of_mem_take hs))
        have h2 : (T.take k).length ≤ 1000 := by rw [List.length_take]; omega
        omega
      have hsk := HT1.out T[k] (List.getElem_mem hlt)
      have hop := ofP_app (placesOf (T.take k)) T[k] ⟨#[58, 32]⟩
      have hps := ofP_size (placesOf (T.take k))
      have HOP := Lib.hid (show ofP (placesOf (T.take k)) ++ (T[k] ++ ⟨#[58, 32]⟩) = ofP (placesOf (T.take (k + 1))) by rw [hop, hsn]; rfl)
      subst ha
      clear hsn hop hb hz
      generalize T[k] = s at *
      generalize hRk : ofP (placesOf (T.take (k + 1))) = R at *
      have HRk := Lib.hid hRk
      clear hRk
      generalize ofP (placesOf (T.take k)) = P at *
      have hPs : P.size ≤ 1000 * 1002 := by omega
      clear hps hle
      have t3 : (k : Int) < T.length := by omega
      go_wp2
      go_roundw
      case rel => exact ⟨k + 1, by go_num, by omega, by rw [HOP.out, HRk.out], hG, hG2⟩
      case measure => simp [intOf]; omega
    · obtain rfl : k = T.length := by omega
      rw [List.take_length]
      have hps := ofP_size (placesOf T)
      have hP1 : (ofP (placesOf T)).size ≤ 1000 * 1002 := by omega
      have hD1 : (⟨(Lib.decDigits i).toArray⟩ : ByteArray).size ≤ 2 := by show (Lib.decDigits i).toArray.size ≤ 2; rw [List.size_toArray]; exact hD
      have HO := Lib.hid (show ofP (placesOf T) ++ ⟨#[99, 111, 100, 101, 32]⟩ ++ ⟨(Lib.decDigits i).toArray⟩ = ofP (placesOf T ++ [99, 111, 100, 101, 32] ++ Lib.decDigits i) by
        apply ByteArray.ext; simp [ofP])
      generalize hRR : ofP (placesOf T ++ [99, 111, 100, 101, 32] ++ Lib.decDigits i) = R at *
      have HRR := Lib.hid hRR
      generalize ofP (placesOf T) = P at *
      clear hps hRR
      go_wp2_with fail
      refine (refCode_any L a cap _ (HST.out.gr hG.out)).mono ?_
      rintro e w3 ⟨rfl, hg3⟩
      rw [HI.out]
      have HG3 := Lib.hid (hG.out.trans hg3)
      clear hg3
      go_wp2_with fail
      refine (digits_any i hi2 _).mono ?_
      rintro e w4 ⟨rfl, hg4⟩
      have HG4 := Lib.hid (HG3.out.trans hg4)
      clear hg4
      generalize (⟨(Lib.decDigits i).toArray⟩ : ByteArray) = Dg at *
      go_wp2
      go_ret
      exact ⟨by rw [HTE.out, HRR.out, ← HO.out]; rfl, HG4.out⟩
/-- Is a code in a chain? -/
def hasOf (M : List Lk) (c : Int) : Bool := M.any fun x => match x with | .fault d _ => d == c | .other => false
set_option maxRecDepth 100000 in
set_option maxHeartbeats 1000000 in
theorem refHas_any (L : List LinkD) (a : Option Addr) (cap : Nat) (c : Int) (w : World) (hst : LinkRow w a L) :
    Calls Tryd.prog 22 #[.slice a L.length cap, .int .i64 c] w fun e w' => e = .returned (.bool (hasOf (L.map lkOf) c)) ∧ Gr w w' := by
  have HST := Lib.hid hst
  have hSl := hst.1
  have HH : ∀ k, (h : k < L.length) → hasOf ((L.drop k).map lkOf) c = (match lkOf L[k] with | .fault d _ => d == c | .other => false || hasOf ((L.drop (k + 1)).map lkOf) c) ∨ True := fun _ _ => .inr trivial
  clear hst HH
  go_enter Tryd.func22, Tryd.ntmps22
  go_wp2
  go_loopw [9] (fun i wr => ∃ k : Nat, k ≤ L.length ∧ i = .int .i64 (k : Nat) ∧ Hid (hasOf ((L.drop k).map lkOf) c = hasOf (L.map lkOf) c) ∧ Hid (Gr w wr)) (fun i _ => L.length - (intOf i).toNat)
  case atStart => exact ⟨0, by omega, rfl, Lib.hid rfl, Lib.hid (Gr.refl _)⟩
  case round =>
    obtain ⟨k, hk, rfl, hF, hG⟩ := hrel
    by_cases hlt : k < L.length
    · obtain ⟨b, off, rfl, c0, c1, c2⟩ := (HST.out.gr hG.out).at k hlt
      have hd : hasOf ((L.drop k).map lkOf) c = ((match lkOf L[k] with | .fault d _ => d == c | .other => false) || hasOf ((L.drop (k + 1)).map lkOf) c) := by
        rw [List.drop_eq_getElem_cons hlt]; rfl
      have HD := Lib.hid (hF.out.symm.trans hd)
      have t3 : (k : Int) < L.length := by omega
      clear hd hF
      generalize L[k] = p at *
      obtain ⟨O, C, S⟩ := p
      simp only at c0 c1 c2
      cases O
      · cases hCc : (C == c)
        · have HN := Lib.hid (show hasOf ((L.drop (k + 1)).map lkOf) c = hasOf (L.map lkOf) c by rw [HD.out]; simp [lkOf, hCc])
          clear HD
          go_wp2
          go_roundw
          case rel => exact ⟨k + 1, by omega, by go_num, HN, Lib.hid (hG.out.alloc _)⟩
          case measure => simp [intOf]; omega
        · have HN := Lib.hid (show hasOf (L.map lkOf) c = true by rw [HD.out]; simp [lkOf, hCc])
          have hCe : C = c := by simpa using hCc
          subst hCe
          clear HD hCc
          go_wp2
          go_ret
          exact ⟨by rw [HN.out]; rfl, hG.out.alloc _⟩
      · have HN := Lib.hid (show hasOf ((L.drop (k + 1)).map lkOf) c = hasOf (L.map lkOf) c by rw [HD.out]; simp [lkOf])
        clear HD
        go_wp2
        go_roundw
        case rel => exact ⟨k + 1, by omega, by go_num, HN, Lib.hid (hG.out.alloc _)⟩
        case measure => simp [intOf]; omega
    · obtain rfl : k = L.length := by omega
      have HN := Lib.hid (show hasOf (L.map lkOf) c = false by rw [← hF.out, List.drop_length]; rfl)
      go_wp2
      go_ret
      exact ⟨by rw [HN.out]; rfl, hG.out⟩
end Go.Proofs.YtgbicckclepplaaDoor
