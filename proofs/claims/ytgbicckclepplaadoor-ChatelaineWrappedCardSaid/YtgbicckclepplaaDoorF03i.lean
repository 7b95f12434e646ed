import Derived.Test.YtgbicckclepplaaDoorL03b
import Derived.WalkKit
import Derived.ProofKit
import Derived.LoopTactic
import Derived.Outline
import Derived.WalkSpells
import Derived.WalkLawsBesides
import Derived.Lib.Hide
import Derived.Deep.LoopGhost
import Derived.Deep.QuietTactic
import Derived.BigQuiet
import Derived.ShutString
import Derived.Laws.Pointers
namespace Go.Proofs.YtgbicckclepplaaDoor
open Go.ChangeShapes Go.WideShapes Go.ChangeAt Go.RowKit
set_option linter.unusedVariables false
/-- A link of a list, in memory. -/
theorem LinkRow.at {w : World} {a : Option Addr} {L : List LinkD} (h : LinkRow w a L) (i : Nat) (hi : i < L.length) :
    ∃ b off, a = some ⟨b, off, none⟩ ∧ w.cell? ⟨b, off + i * 3, none⟩ = some (.bool L[i].O) ∧ w.cell? ⟨b, off + i * 3 + 1, none⟩ = some (.int .i64 L[i].C) ∧ w.cell? ⟨b, off + i * 3 + 2, none⟩ = some (.string L[i].S) := by
  obtain ⟨_, _, rfl | ⟨b, off, rfl, hc⟩⟩ := h
  · simp at hi
  · exact ⟨b, off, rfl, hc i hi⟩
theorem firstF_drop {L : List LinkD} {k : Nat} (hk : k < L.length) (ho : L[k].O = true) : firstF ((L.drop k).map lkOf) = firstF ((L.drop (k + 1)).map lkOf) := by
  rw [List.drop_eq_getElem_cons hk, List.map_cons]
  unfold lkOf; rw [if_pos ho]; rfl
theorem firstF_hit {L : List LinkD} {k : Nat} (hk : k < L.length) (ho : L[k].O = false) : firstF ((L.drop k).map lkOf) = some (L[k].C, L[k].S, (L.drop (k + 1)).map lkOf) := by
  rw [List.drop_eq_getElem_cons hk, List.map_cons]
  unfold lkOf; rw [if_neg (by simp [ho])]; rfl
def codeP : Option (Int × ByteArray × List Lk) → Int
  | none => 1
  | some (c, _, _) => c
set_option maxRecDepth 100000 in
set_option maxHeartbeats 1000000 in
theorem refCode_any (L : List LinkD) (a : Option Addr) (cap : Nat) (w : World) (hst : LinkRow w a L) :
    Calls Tryd.prog 16 #[.slice a L.length cap] w fun e w' => e = .returned (.int .i64 (codeOf (L.map lkOf))) ∧ Gr w w' := by
  have HST := Lib.hid hst
  have hSl := hst.1
  clear hst
  rcases Nat.eq_zero_or_pos L.length with h0 | h0
  · have hL : L = [] := List.length_eq_zero_iff.1 h0
    subst hL
    clear h0
    go_enter Tryd.func16, Tryd.ntmps16
    go_wp2
    go_ret
    exact ⟨rfl, Gr.refl _⟩
  · have HE := Lib.hid (show codeOf (L.map lkOf) = codeP (firstF (L.map lkOf)) by
      cases L with
      | nil => simp at h0
      | cons p t => rw [List.map_cons]; unfold codeOf codeP; cases hF : firstF (lkOf p :: List.map lkOf t) with
        | none => rfl
        | some x => rfl)
    have t0 : ((L.length : Int) == 0) = false := by rw [beq_eq_false_iff_ne]; omega
    go_enter Tryd.func16, Tryd.ntmps16
    clear h0
    go_wp2
    go_loopw [10] (fun i wr => ∃ k : Nat, k ≤ L.length ∧ i = .int .i64 (k : Nat) ∧ Hid (firstF ((L.drop k).map lkOf) = firstF (L.map lkOf)) ∧ Hid (Gr w wr)) (fun i _ => L.length - (intOf i).toNat)
    case atStart => exact ⟨0, by omega, rfl, Lib.hid rfl, Lib.hid (Gr.refl _)⟩
    case round =>
      obtain ⟨k, hk, rfl, hF, hG⟩ := hrel
      by_cases hlt : k < L.length
      · obtain ⟨b, off, rfl, c0, c1, c2⟩ := (HST.out.gr hG.out).at k hlt
        have hd := fun h => Lib.hid ((firstF_drop hlt h).symm.trans hF.out)
        have hh := fun h => Lib.hid (hF.out.symm.trans (firstF_hit hlt h))
        have t3 : (k : Int) < L.length := by omega
        generalize L[k] = p at *
        obtain ⟨O, C, S⟩ := p
        simp only at c0 c1 c2 hd hh
        cases O
        · have HH := hh rfl
          have HR := Lib.hid (show codeOf (L.map lkOf) = C by rw [HE.out, HH.out]; rfl)
          clear hd hh
          go_wp2
          go_ret
          exact ⟨by rw [HR.out]; rfl, hG.out.alloc _⟩
        · have HD := hd rfl
          clear hd hh
          go_wp2
          go_roundw
          case rel => exact ⟨k + 1, by omega, by go_num, HD, Lib.hid (hG.out.alloc _)⟩
          case measure => simp [intOf]; omega
      · obtain rfl : k = L.length := by omega
        have HR := Lib.hid (show codeOf (L.map lkOf) = 1 by rw [HE.out, ← hF.out, List.drop_length]; rfl)
        go_wp2
        go_ret
        exact ⟨by rw [HR.out]; rfl, hG.out⟩
/-- A digit. -/
def dg (k : Nat) : UInt8 := UInt8.ofNat (48 + k)
/-- The digits of a number below 100. -/
theorem dec_small (n : Nat) (h : n < 10) : Lib.decDigits n = [UInt8.ofNat (48 + n)] := by
  unfold Lib.decDigits; rw [dif_pos h]
theorem dec_two (n : Nat) (h1 : 10 ≤ n) (h2 : n < 100) : Lib.decDigits n = [UInt8.ofNat (48 + n / 10), UInt8.ofNat (48 + n % 10)] := by
  unfold Lib.decDigits
  rw [dif_neg (by omega), dec_small (n / 10) (by omega)]; rfl
theorem conv_digit (w : World) (n0 : Nat) (h0 : n0 < 100) :
    (convert 63 9 (.slice (some ⟨w.heap.size, 0, none⟩) 1 1)).run Tryd.prog (w.alloc (.cells #[.int .u8 ((48 + n0 : Nat) : Int)] 5)) =
      .ok (.string ⟨#[dg n0]⟩) (w.alloc (.cells #[.int .u8 ((48 + n0 : Nat) : Int)] 5)) := by
  have := run_convert_bytes_back (P := Tryd.prog) (w.alloc (.cells #[.int .u8 ((48 + n0 : Nat) : Int)] 5)) 63 9 5 ⟨w.heap.size, 0, none⟩ 1 [dg n0] Tryd.underlying63 Tryd.underlying5 Tryd.underlying9 (by
    intro j hj
    have hj' : j < 1 := hj
    match j, hj' with
    | 0, _ => simp [Addr.add, dg]; omega)
  exact this
theorem dg_app (a : UInt8) : (⟨#[a]⟩ : ByteArray) ++ ⟨#[]⟩ = ⟨#[a]⟩ := by
  apply ByteArray.ext; simp
theorem dg_two (a b : UInt8) : (⟨#[a]⟩ : ByteArray) ++ ⟨#[b]⟩ = ⟨#[a, b]⟩ := by
  apply ByteArray.ext; simp
set_option maxRecDepth 100000 in
theorem digits_any (n : Nat) (hn : n < 100) (w : World) :
    Calls Tryd.prog 33 #[.int .i64 n] w fun e w' => e = .returned (.string ⟨(Lib.decDigits n).toArray⟩) ∧ Gr w w' := by
  obtain ⟨q, r, hq, hr, rfl⟩ : ∃ q r : Nat, q < 10 ∧ r < 10 ∧ n = 10 * q + r := ⟨n / 10, n % 10, by omega, by omega, by omega⟩
  have HD : (q = 0 ∧ Hid (Lib.decDigits (10 * q + r) = [dg r])) ∨ (0 < q ∧ Hid (Lib.decDigits (10 * q + r) = [dg q, dg r])) := by
    rcases Nat.eq_zero_or_pos q with h | h
    · subst h; exact .inl ⟨rfl, Lib.hid (by simpa [dg] using dec_small r hr)⟩
    · refine .inr ⟨h, Lib.hid ?_⟩
      rw [dec_two _ (by omega) (by omega), show (10 * q + r) / 10 = q by omega, show (10 * q + r) % 10 = r by omega]; rfl
  have hx : ((10 * q + r : Nat) : Int) = 10 * (q : Int) + r := by omega
  rw [hx]
  clear hx
  have A1 := Lib.hid (dg_app (dg r))
  have A2 := Lib.hid (dg_two (dg q) (dg r))
  generalize hdr : dg r = dr at *
  generalize hdq : dg q = dq at *
  have HR := Lib.hid hdr
  have HQ := Lib.hid hdq
  generalize hDD : Lib.decDigits (10 * q + r) = DD at *
  have HDD := Lib.hid hDD
  clear hdr hdq hDD
  go_enter Tryd.func33, Tryd.ntmps33
  go_wp2
  go_loopw [0, 3, 4] (fun x s i wr => ∃ X : Int, x = .int .i64 X ∧ ((i = .int .i64 0 ∧ X = 10 * (q : Int) + r ∧ s = .string ⟨#[]⟩) ∨ (i = .int .i64 1 ∧ X = (q : Int) ∧ s = .string ⟨#[dr]⟩) ∨ (0 < q ∧ i = .int .i64 2 ∧ X = 0 ∧ s = .string ⟨#[dq, dr]⟩)) ∧ Hid (Gr w wr)) (fun _ _ i _ => 3 - (intOf i).toNat)
  case atStart => exact ⟨_, rfl, .inl ⟨rfl, rfl, rfl⟩, Lib.hid (Gr.refl _)⟩
  case round =>
    obtain ⟨X, rfl, hs, hG⟩ := hrel
    rcases hs with ⟨rfl, hX, rfl⟩ | ⟨rfl, hX, rfl⟩ | ⟨hq0, rfl, rfl, rfl⟩
    · have C := conv_digit wr r (by omega)
      rw [show ((48 + r : Nat) : Int) = 48 + X % 10 by omega, HR.out] at C
      have x0 : 0 ≤ X := by omega
      have x1 : X < 100 := by omega
      have HX := Lib.hid (show X / 10 = q by omega)
      clear hX HD
      go_wp2
      go_roundw
      case rel => exact ⟨_, rfl, .inr (.inl ⟨rfl, HX.out, by rw [A1.out]⟩), Lib.hid (hG.out.alloc _)⟩
      case measure => simp [intOf]
    · rcases HD with ⟨h0, hD⟩ | ⟨h0, hD⟩
      · obtain rfl : X = 0 := by omega
        clear hX
        go_wp2
        go_ret
        exact ⟨by rw [hD.out]; rfl, hG.out⟩
      · have C := conv_digit wr q (by omega)
        rw [show ((48 + q : Nat) : Int) = 48 + X % 10 by omega, HQ.out] at C
        have x0 : 0 < X := by omega
        have x1 : X < 10 := by omega
        have HX := Lib.hid (show X / 10 = 0 by omega)
        clear hX
        go_wp2
        go_roundw
        case rel => exact ⟨_, rfl, .inr (.inr ⟨h0, rfl, HX.out, by rw [A2.out]⟩), Lib.hid (hG.out.alloc _)⟩
        case measure => simp [intOf]
    · rcases HD with ⟨h0, hD⟩ | ⟨h0, hD⟩
      · omega
      · go_wp2
        go_ret
        exact ⟨by rw [hD.out]; rfl, hG.out⟩
set_option maxRecDepth 100000 in
set_option maxHeartbeats 1000000 in
theorem refTrail_any (L : List LinkD) (a : Option Addr) (cap : Nat) (w : World) (hst : LinkRow w a L) (hL : L.length ≤ 1000) (hsz : ∀ p ∈ L, p.S.size ≤ 1000) :
    Calls Tryd.prog 14 #[.slice a L.length cap] w (TrailIs (trailOf (L.map lkOf)) w) := by
  obtain ⟨i0, hi, hz0, hz1, hz2⟩ := info_parts info_str3
  have HST := Lib.hid hst
  have hSl := hst.1
  have hsm : ∀ p ∈ L, p.S.size ≤ 1000 := hsz
  have HSM := Lib.hid hsm
  clear hst hsz hsm
  go_enter Tryd.func14, Tryd.ntmps14
  go_wp2
  go_loopw [3, 9] (fun x i wr => ∃ (k : Nat) (acc : List ByteArray), k ≤ L.length ∧ i = .int .i64 (k : Nat) ∧ acc.length ≤ k ∧ Hid (acc ++ trailOf ((L.drop k).map lkOf) = trailOf (L.map lkOf)) ∧ wr.ownsRow w.heap.size 9 1 x acc.length (strCells acc) ∧ Hid (Gr w wr)) (fun _ i _ => L.length - (intOf i).toNat)
  case atStart => exact ⟨0, [], by omega, rfl, by simp, Lib.hid rfl, ⟨rfl, .inr ⟨_, _, #[], rfl, Nat.le_refl _, heap_alloc_new w _, Nat.le_refl _, by unfold maxLen; omega, rfl, rfl⟩⟩, Lib.hid ((Gr.refl w).alloc _)⟩
  case round =>
    obtain ⟨k, acc, hk, rfl, hka, hacc, hown, hG⟩ := hrel
    by_cases hlt : k < L.length
    · obtain ⟨b, off, rfl, c0, c1, c2⟩ := (HST.out.gr hG.out).at k hlt
      have hd : trailOf ((L.drop k).map lkOf) = trailOf (lkOf L[k] :: (L.drop (k + 1)).map lkOf) := by rw [List.drop_eq_getElem_cons hlt]; rfl
      have HD := Lib.hid (hacc.out.symm.trans (by rw [hd]) : trailOf (L.map lkOf) = acc ++ trailOf (lkOf L[k] :: (L.drop (k + 1)).map lkOf))
      have hsz := HSM.out L[k] (List.getElem_mem hlt)
      have t3 : (k : Int) < L.length := by omega
      clear hd hacc
      generalize L[k] = p at *
      obtain ⟨O, C, S⟩ := p
      simp only at c0 c1 c2 hsz
      cases O
      · by_cases hs0 : S.size = 0
        · obtain rfl : S = ⟨#[]⟩ := ByteArray.ext (Array.eq_empty_of_size_eq_zero hs0)
          have HA := Lib.hid (show acc ++ trailOf ((L.drop (k + 1)).map lkOf) = trailOf (L.map lkOf) from HD.out.symm)
          clear HD hs0
          go_wp2
          go_roundw
          case rel => exact ⟨k + 1, acc, by omega, by go_num, by omega, HA, hown.alloc _, Lib.hid (hG.out.alloc _)⟩
          case measure => simp [intOf]; omega
        · have t1 : S.toList = [] → False := by
            intro e; apply hs0; have := (toList_iff S ⟨#[]⟩).1 (e.trans (by decide +kernel)); rw [this]; rfl
          have t2 : S.toList.isEmpty = false := by
            cases h : S.toList with
            | nil => exact absurd h t1
            | cons _ _ => rfl
          have HA := Lib.hid (show (acc ++ [S]) ++ trailOf ((L.drop (k + 1)).map lkOf) = trailOf (L.map lkOf) by rw [HD.out]; simp [lkOf, trailOf, hs0])
          have hsn : (acc ++ [S]).length = acc.length + 1 := by simp
          clear HD hs0 t1
          go_wp2_with (at_builtin; refine wpList_append_own _ rfl _ _ 28 rfl w.heap.size 9 i0 (.string ⟨#[]⟩) 1 16 Tryd.underlying28 hi hz0 hz1 hz2 rfl (by decide) _ _ _ rfl ((hown.alloc _).alloc _) ⟨wr.heap.size + 1, 0, none⟩ 1 1 [.string S] rfl rfl ?c1 ?c2 ?c3 ?c4 ?c5 ?_)
          case c1 => have := cellsOne (wr.alloc (.cells #[.bool false, .int .i64 C, .string S] 39)) (.string S) 9; simpa using this
          case c2 => intro u hu; simp at hu; subst hu; rfl
          case c3 => unfold maxLen; omega
          case c4 => omega
          case c5 => have := hG.out.size; simp; omega
          · intro v' w3 hown3 hgrow _
            have HG3 := Lib.hid (((hG.out.alloc (.cells #[.bool false, .int .i64 C, .string S] 39)).alloc (.cells #[.string S] 9)).append ((hown.alloc _).alloc _) hgrow)
            have HO3 := Lib.hid (show w3.ownsRow w.heap.size 9 1 v' (acc ++ [S]).length (strCells (acc ++ [S])) by rw [hsn]; simpa [strCells] using hown3)
            clear hgrow hown hown3
            go_wp2
            go_roundw
            case rel => exact ⟨k + 1, acc ++ [S], by omega, by go_num, by omega, HA, HO3.out, HG3⟩
            case measure => simp [intOf]; omega
      · have HA := Lib.hid (show acc ++ trailOf ((L.drop (k + 1)).map lkOf) = trailOf (L.map lkOf) from HD.out.symm)
        clear HD
        go_wp2
        go_roundw
        case rel => exact ⟨k + 1, acc, by omega, by go_num, by omega, HA, hown.alloc _, Lib.hid (hG.out.alloc _)⟩
        case measure => simp [intOf]; omega
    · obtain rfl : k = L.length := by omega
      have HA := Lib.hid (show acc = trailOf (L.map lkOf) by rw [← hacc.out, List.drop_length]; simp [trailOf])
      have hok : ∀ s ∈ acc, s.size ≤ 9223372036854775807 := by
        intro s hs
        rw [HA.out] at hs
        have := (trail_short (n := 1000) (L := L.map lkOf) (by
          intro c s hm
          obtain ⟨p, hp, he⟩ := List.mem_map.1 hm
          unfold lkOf at he
          split at he
          · cases he
          · simp only [Lk.fault.injEq] at he
            obtain ⟨_, rfl⟩ := he
            exact HSM.out p hp)).1 s hs
        omega
      obtain ⟨a2, cap2, rfl, hst2⟩ := strs_of_row hown hok (by omega)
      have HST2 := Lib.hid hst2
      have HTG := Lib.hid (tagged_of_row hown)
      clear hst2 hown hok hacc
      go_wp2
      go_ret
      have hfin : TrailIs (trailOf (L.map lkOf)) w (.returned (.slice a2 acc.length cap2)) wr := by rw [← HA.out]; exact ⟨a2, cap2, rfl, HST2.out, HTG.out, hG.out⟩
      exact hfin
end Go.Proofs.YtgbicckclepplaaDoor
