import Derived.Test.YtkihencimbdoiaaH16b
import Derived.Test.YtkihencimbdoiaaL16
import Derived.WalkKit
import Derived.ProofKit
import Derived.LoopTactic
import Derived.Outline
import Derived.WalkSpells
import Derived.WalkLawsBesides
import Derived.Lib.Hide
import Derived.Deep.LoopGhost
import Derived.Deep.QuietTactic
import Derived.BigQuiet
import Derived.ShutString
import Derived.IntWalk
namespace Go.Proofs.Ytkihencimbdoiaa
open Go.ChangeShapes Go.WideShapes Go.ChangeAt Go.RowKit
open Bal
set_option linter.unusedVariables false
set_option linter.unusedSimpArgs false
def fullE (wit : Bool) (F : Int) (j : Nat) : E := ⟨1 + F + 2 * (j : Int), 1, 3, kept16 wit ⟨#[97]⟩⟩
def fullL (wit : Bool) (F : Int) (k : Nat) : List E := (List.range k).map (fullE wit F)
/-- The acceptor behind k calls. -/
def fullA (wit : Bool) (F : Int) (k : Nat) : Ac := ⟨wit, if k = 0 then 0 else 1, if k = 0 then 0 else 3, 0, fullL wit F k, 0, 0⟩
theorem fullL_at (wit : Bool) (F : Int) (k j : Nat) (h : j < (fullL wit F k).length) : (fullL wit F k)[j] = fullE wit F j := by simp [fullL]
theorem fullL_len (wit : Bool) (F : Int) (k : Nat) : (fullL wit F k).length = k := by simp [fullL]
theorem fullL_asc (wit : Bool) (F : Int) (k : Nat) : Asc (fullL wit F k) := fun p q hp hq hpq => by
  rw [fullL_at, fullL_at]
  show 1 + F + 2 * (p : Int) < 1 + F + 2 * (q : Int)
  omega
theorem a_size : (⟨#[97]⟩ : ByteArray).size = 1 := rfl
theorem fullA_ok (wit : Bool) (F : Int) (k : Nat) (hk : k ≤ 64) : (fullA wit F k).Ok := by
  refine ⟨fullL_asc wit F k, by show (fullL wit F k).length ≤ 64; rw [fullL_len]; exact hk, fun e he => ?_, by simp [fullA], by simp [fullA], by simp [fullA], by simp [fullA]⟩
  obtain ⟨j, _, rfl⟩ := List.mem_map.1 he
  exact kept16_size _ _ (by rw [a_size]; omega)
theorem full_has (wit : Bool) (F x : Int) (k : Nat) : hasE (fullL wit F k) x = true ↔ ∃ j : Nat, j < k ∧ 1 + F + 2 * (j : Int) = x := by
  unfold hasE fullL
  rw [List.any_eq_true]
  constructor
  · rintro ⟨y, hy, e⟩
    obtain ⟨j, hj, rfl⟩ := List.mem_map.1 hy
    exact ⟨j, List.mem_range.1 hj, of_decide_eq_true e⟩
  · rintro ⟨j, hj, e⟩
    exact ⟨_, List.mem_map.2 ⟨j, List.mem_range.2 hj, rfl⟩, decide_eq_true e⟩
theorem full_late (wit : Bool) (F : Int) (k : Nat) : (fullA wit F k).late 1 3 = false := by
  unfold Ac.late fullA
  by_cases h : k = 0
  · simp only [h, if_true]; decide
  · simp only [h, if_false]; decide
theorem full_none (wit : Bool) (F : Int) (k : Nat) : hasE (fullL wit F k) (1 + F + 2 * (k : Int)) = false := by
  rw [Bool.eq_false_iff]
  intro h
  obtain ⟨j, hj, e⟩ := (full_has _ _ _ _).1 h
  omega
theorem full_set (wit : Bool) (F : Int) (k : Nat) : setE (fullL wit F k) (fullE wit F k) = fullL wit F (k + 1) := by
  unfold setE lowE hiE
  have hs : ∀ y ∈ fullL wit F k, y.slot < (fullE wit F k).slot := fun y hy => by
    obtain ⟨j, hj, rfl⟩ := List.mem_map.1 hy
    have := List.mem_range.1 hj
    show 1 + F + 2 * (j : Int) < 1 + F + 2 * (k : Int)
    omega
  rw [List.filter_eq_self.2 (fun y hy => decide_eq_true (hs y hy)), List.filter_eq_nil_iff.2 (fun y hy => by have := hs y hy; simp only [decide_eq_true_eq]; omega)]
  unfold fullL
  rw [List.range_succ, List.map_append]
  rfl
theorem full_step (wit : Bool) (F : Int) (k : Nat) (hF : 0 ≤ F) (hk : k < 64) :
    (fullA wit F k).acceptR 1 3 (1 + F + 2 * (k : Int)) ⟨#[97]⟩ = ⟨4, 1, 3, 1 + F + 2 * (k : Int), 0, true⟩ ∧ (fullA wit F k).accept 1 3 (1 + F + 2 * (k : Int)) ⟨#[97]⟩ = fullA wit F (k + 1) := by
  have h1 := full_late wit F k
  have h2 : ¬ (fullA wit F k).full (1 + F + 2 * (k : Int)) = true := by
    unfold Ac.full
    have : ¬ 64 ≤ (fullA wit F k).L.length := by show ¬ 64 ≤ (fullL wit F k).length; rw [fullL_len]; omega
    simp [this]
  have h3 : (fullA wit F k).ba < 1 + F + 2 * (k : Int) := by show (0 : Int) < _; omega
  unfold Ac.acceptR Ac.accept
  have e1 : ¬ (fullA wit F k).late 1 3 = true := by rw [h1]; simp
  rw [if_neg e1, if_neg e1, if_neg h2, if_neg h2, if_pos h3, if_pos h3]
  have h4 : oldE (fullA wit F k).L (1 + F + 2 * (k : Int)) = zeroE := old_out (full_none wit F k)
  have h5 : sameE zeroE ((fullA wit F k).entry 1 3 (1 + F + 2 * (k : Int)) ⟨#[97]⟩) = false := by
    unfold sameE Ac.entry zeroE
    have : ((0 : Int) == 1 + F + 2 * (k : Int)) = false := beq_eq_false_iff_ne.2 (by omega)
    simp [this]
  refine ⟨by rw [h4, h5]; simp, ?_⟩
  unfold fullA
  rw [if_neg (Nat.succ_ne_zero k), if_neg (Nat.succ_ne_zero k), ← full_set]
  rfl
theorem full_call {w0 w : World} {b : Nat} {v : Value} (wit : Bool) (F : Int) (k : Nat) (hF : 0 ≤ F) (hk : k < 64) (h : AcIs w0 w b v (fullA wit F k)) :
    Calls Try.prog 14 #[.pointer (some ⟨b, 0, none⟩), .agg #[.int .i64 0, .int .i64 0, .int .i64 0, .int .i64 0, .int .u64 1, .int .i64 3, .int .i64 (1 + F + 2 * (k : Int)), .int .i64 0, .bool false, .string ⟨#[97]⟩, .slice none 0 0]] w fun e w' =>
      e = .returned (.tuple #[.agg #[.int .i64 4, .int .i64 0, .int .i64 0, .int .i64 0, .int .u64 1, .int .i64 3, .int .i64 (1 + F + 2 * (k : Int)), .int .i64 0, .bool false, .string ⟨#[]⟩, .slice none 0 0], .bool true]) ∧ AcTo w0 w w' b v (fullA wit F (k + 1)) := by
  have := accept_st 0 0 0 0 1 3 (1 + F + 2 * (k : Int)) 0 false ⟨#[97]⟩ none 0 0 h (fullA_ok wit F k (by omega)) (by rw [a_size]; omega)
  rw [(full_step wit F k hF hk).1, (full_step wit F k hF hk).2] at this
  exact this
theorem full64 (wit : Bool) (F : Int) : fullA wit F 64 = ⟨wit, 1, 3, 0, fullL wit F 64, 0, 0⟩ := rfl
/-- The last call: 0, of no entry, or of one. -/
theorem full_last (wit : Bool) (F X : Int) (hF : 0 ≤ F) (hX : 0 ≤ X) :
    (X = 0 → (fullA wit F 64).acceptR 2 0 X ⟨#[98]⟩ = ⟨4, 2, 0, X, 0, true⟩ ∧ ((fullA wit F 64).accept 2 0 X ⟨#[98]⟩).L.length = 64) ∧
    (X ≠ 0 → hasE (fullL wit F 64) X = false → (fullA wit F 64).acceptR 2 0 X ⟨#[98]⟩ = ⟨0, 0, 0, 0, 0, false⟩ ∧ (fullA wit F 64).accept 2 0 X ⟨#[98]⟩ = fullA wit F 64) ∧
    (X ≠ 0 → hasE (fullL wit F 64) X = true → (fullA wit F 64).acceptR 2 0 X ⟨#[98]⟩ = ⟨4, 2, 0, X, 0, true⟩ ∧ ((fullA wit F 64).accept 2 0 X ⟨#[98]⟩).pc = 2 ∧ ((fullA wit F 64).accept 2 0 X ⟨#[98]⟩).ba = 0 ∧ (hiE ((fullA wit F 64).accept 2 0 X ⟨#[98]⟩).L (1 + F)).length = 63) := by
  have h1 : ¬ (fullA wit F 64).late 2 0 = true := by show ¬ decide (cmpB 2 0 1 3 < 0) = true; decide
  have hl : (fullL wit F 64).length = 64 := fullL_len _ _ _
  have h0 : (fullA wit F 64).other 2 0 = true := by show decide (¬ ((2 : Int) = 1 ∧ (0 : Int) = 3)) = true; decide
  unfold Ac.acceptR Ac.accept
  rw [if_neg h1, if_neg h1, h0]
  refine ⟨fun hx => ?_, fun hx hn => ?_, fun hx hy => ?_⟩
  · have h2 : ¬ (fullA wit F 64).full X = true := by rw [full64]; unfold Ac.full; simp [hx]
    have h3 : ¬ (fullA wit F 64).ba < X := by rw [full64, hx]; simp
    rw [if_neg h2, if_neg h2, if_neg h3, if_neg h3]
    exact ⟨rfl, hl⟩
  · have h2 : (fullA wit F 64).full X = true := by rw [full64]; unfold Ac.full; simp [hn, hl]; omega
    rw [if_pos h2, if_pos h2]
    exact ⟨rfl, rfl⟩
  · have h2 : ¬ (fullA wit F 64).full X = true := by rw [full64]; unfold Ac.full; simp [hy]
    have h3 : (fullA wit F 64).ba < X := by rw [full64]; show (0 : Int) < X; omega
    rw [if_neg h2, if_neg h2, if_pos h3, if_pos h3]
    refine ⟨by rw [Bool.true_or], rfl, rfl, ?_⟩
    obtain ⟨j, hj, hjx⟩ := (full_has _ _ _ _).1 hy
    have hjl : j < (fullL wit F 64).length := by omega
    have hs : (fullL wit F 64)[j].slot = X := by rw [fullL_at]; exact hjx
    have ha := fullL_asc wit F 64
    have hcut : Cut16 (fullL wit F 64) X j j := ⟨fun p hp hpj => by have := ha p j hp hjl hpj; omega, fun p hp hpj => by
      by_cases e : j = p
      · subst e; omega
      · have := ha j p hjl hp (by omega); omega⟩
    show (hiE (setE (fullL wit F 64) ((fullA wit F 64).entry 2 0 X ⟨#[98]⟩)) (1 + F)).length = 63
    rw [set_cut_in ha hcut hjl hs]
    have hm : ((fullL wit F 64).set j ((fullA wit F 64).entry 2 0 X ⟨#[98]⟩)).map E.slot = (fullL wit F 64).map E.slot := by
      rw [List.map_set]
      apply List.ext_getElem?
      intro i
      rw [List.getElem?_set]
      split
      · rename_i e
        subst e
        rw [if_pos (by simpa using hjl), List.getElem?_map, List.getElem?_eq_getElem hjl, Option.map_some, hs]
        rfl
      · rfl
    have hc : ∀ M : List E, (hiE M (1 + F)).length = (M.map E.slot).countP fun s => decide (1 + F < s) := fun M => by
      unfold hiE
      rw [List.countP_map, ← List.countP_eq_length_filter]
      rfl
    rw [hc, hm]
    unfold fullL
    rw [List.map_map, List.countP_map]
    have : ((fun s => decide (1 + F < s)) ∘ E.slot ∘ fullE wit F) = fun j : Nat => decide (0 < j) := by
      funext j
      show decide (1 + F < 1 + F + 2 * (j : Int)) = decide (0 < j)
      by_cases h : 0 < j
      · rw [decide_eq_true h, decide_eq_true (by omega)]
      · rw [decide_eq_false h, decide_eq_false (by omega)]
    rw [this]
    decide
set_option maxRecDepth 100000 in
set_option maxHeartbeats 4000000 in
theorem full_walk16 (wit : Bool) (frm x : Int) (w : World) :
    Calls Try.prog 3 #[.bool wit, .int .i64 frm, .int .i64 x] w fun e w' => e = .returned (.bool true) ∧ Gr w w' := by
  have f0 : 0 ≤ bits .and .i64 frm 65535 := (and_mask frm 65535 (by decide)).1
  have f1 : bits .and .i64 frm 65535 ≤ 65535 := (and_mask frm 65535 (by decide)).2
  have x0 : 0 ≤ bits .and .i64 x 262143 := (and_mask x 262143 (by decide)).1
  have x1 : bits .and .i64 x 262143 ≤ 262143 := (and_mask x 262143 (by decide)).2
  go_enter Try.func3, Try.ntmps3
  go_wp2_with fail
  refine (awake16 _).mono ?_
  rintro e w1 ⟨rfl, hg1⟩
  go_wp2_with fail
  refine (acNew_st wit _).mono ?_
  rintro e w2 ⟨rfl, hA2⟩
  have HG1 := Lib.hid hg1
  have HG2 := Lib.hid ((Gr.refl w2).alloc (.cells #[.int .u64 1, .int .i64 3] 27))
  have HA3 := Lib.hid (show AcIs w1 _ w1.heap.size (.slice none 0 0) (fullA wit (bits .and .i64 frm 65535) 0) from hA2.gr HG2.out)
  have HB3 := Lib.hid (Blk.new w2 #[.int .u64 1, .int .i64 3] 27)
  have HNE := Lib.hid (show w2.heap.size ≠ w1.heap.size by have := hA2.lt; omega)
  clear hg1 hA2 HG2
  go_wp2
  generalize bits .and .i64 frm 65535 = F at *
  generalize w2.alloc (.cells #[.int .u64 1, .int .i64 3] 27) = w3 at *
  generalize w2.heap.size = p8 at *
  generalize hpb : w1.heap.size = pb at *
  have HPB := Lib.hid hpb
  clear hpb
  go_loopw [25] (fun u wr => ∃ (k : Nat) (v : Value), k ≤ 64 ∧ u = .int .i64 (k : Nat) ∧ Hid (AcIs w1 wr pb v (fullA wit F k)) ∧ Hid (Blk wr p8 #[.int .u64 1, .int .i64 3] 27)) (fun u _ => 64 - (intOf u).toNat)
  case atStart => exact ⟨0, .slice none 0 0, by omega, rfl, HA3, HB3⟩
  case round =>
    clear HA3 HB3
    obtain ⟨k, v, hk, rfl, HA, HB⟩ := hrel
    by_cases hlt : k < 64
    · have hk4 : (k : Int) < 64 := by omega
      have b0 := HB.out.cell (i := 0) rfl
      have b1 := HB.out.cell (i := 1) rfl
      go_wp2_with fail
      refine (full_call wit F k f0 hlt HA.out).mono ?_
      rintro e w5 ⟨rfl, v5, hA5, hF5, _⟩
      have HG5 := Lib.hid ((Gr.refl w5).alloc (.cells #[.int .i64 4, .int .i64 0, .int .i64 0, .int .i64 0, .int .u64 1, .int .i64 3, .int .i64 (1 + F + 2 * (k : Int)), .int .i64 0, .bool false, .string ⟨#[]⟩, .slice none 0 0] 30))
      have HA5 := Lib.hid (hA5.gr HG5.out)
      have HB5 := Lib.hid ((HA.out.keep hF5 HB.out HNE.out (by decide)).gr HG5.out)
      clear HA HB hA5 hF5 HG5 b0 b1
      go_wp2
      go_roundw
      case rel => exact ⟨k + 1, v5, by omega, by go_num, HA5, HB5⟩
      case measure => simp [intOf]; omega
    · have hk5 : ¬ (k : Int) < 64 := by omega
      obtain rfl : k = 64 := by omega
      have b0 := HB.out.cell (i := 0) rfl
      have b1 := HB.out.cell (i := 1) rfl
      obtain ⟨X, hX⟩ : ∃ X, bits .and .i64 x 262143 = X := ⟨_, rfl⟩
      rw [hX] at x0 x1
      have hLAST := Lib.hid (full_last wit F X f0 x0)
      have HOK := Lib.hid ((fullA_ok wit F 64 (by omega)).accept 2 0 X (show (⟨#[98]⟩ : ByteArray).size ≤ 1000000 by show 1 ≤ 1000000; omega))
      have HC := Lib.hid (accept_st 0 0 0 0 2 0 X 0 false ⟨#[98]⟩ none 0 0 HA.out (fullA_ok wit F 64 (by omega)) (by show 1 ≤ 1000000; omega))
      by_cases hx0 : X = 0
      · have hl := hLAST.out.1 hx0
        subst hx0
        rw [hl.1] at HC
        simp only [Rep.msg] at HC
        have HLEN := Lib.hid hl.2
        have h1 : ¬ 1 + F ≤ 0 := by omega
        generalize (fullA wit F 64).accept 2 0 0 ⟨#[98]⟩ = a5 at *
        clear hl hLAST
        go_wp2_with fail
        refine HC.out.mono ?_
        rintro e w5 ⟨rfl, v5, hA5, hF5, _⟩
        have HG5 := Lib.hid ((Gr.refl w5).alloc (.cells #[.int .i64 4, .int .i64 0, .int .i64 0, .int .i64 0, .int .u64 2, .int .i64 0, .int .i64 0, .int .i64 0, .bool false, .string ⟨#[]⟩, .slice none 0 0] 30))
        have HA5 := Lib.hid (hA5.gr HG5.out)
        clear HA HB hA5 hF5 b0 b1
        have HLS := Lib.hid (list_st HA5.out HOK.out)
        rw [HLEN.out] at HLS
        have HGG := Lib.hid HA5.out.grown
        go_wp2_with fail
        refine HLS.out.mono ?_
        rintro e w6 ⟨ra, rc, rfl, _, hA6, hg6⟩
        have HG6 := Lib.hid (HG1.out.trans hA6.grown)
        clear hA6 hg6
        go_wp2
        go_ret
        exact ⟨rfl, HG6.out⟩
      · have h0 : (X == 0) = false := beq_eq_false_iff_ne.2 hx0
        by_cases hh : hasE (fullL wit F 64) X = true
        · obtain ⟨hl, hpc, hba, hhi⟩ := hLAST.out.2.2 hx0 hh
          rw [hl] at HC
          simp only [Rep.msg] at HC
          obtain ⟨j, hj, hjx⟩ := (full_has _ _ _ _).1 hh
          have h1 : 1 + F ≤ X := by omega
          have h2 : X ≤ 1 + F + 126 := by omega
          have h3 : ((X - (1 + F)) % 2 == 0) = true := by rw [beq_iff_eq]; omega
          have HPC := Lib.hid hpc
          have HBA := Lib.hid hba
          have HHI := Lib.hid hhi
          generalize (fullA wit F 64).accept 2 0 X ⟨#[98]⟩ = a5 at *
          clear hl hpc hba hhi hh hj hjx hLAST
          go_wp2_with fail
          refine HC.out.mono ?_
          rintro e w5 ⟨rfl, v5, hA5, hF5, _⟩
          have HG5 := Lib.hid ((Gr.refl w5).alloc (.cells #[.int .i64 4, .int .i64 0, .int .i64 0, .int .i64 0, .int .u64 2, .int .i64 0, .int .i64 X, .int .i64 0, .bool false, .string ⟨#[]⟩, .slice none 0 0] 30))
          have HA5 := Lib.hid (hA5.gr HG5.out)
          clear HA HB hA5 hF5 b0 b1
          have HPR := Lib.hid (promised_st HA5.out)
          rw [HPC.out] at HPR
          generalize a5.pn = pn5 at HPR
          have HFL : ∀ w, Sem.run Try.prog (Instr.field 27 (.agg #[.int .u64 2, .int .i64 pn5]) 0) w = Result.ok (.int .u64 2) w := fun w => by kernel_rfl
          go_wp2_with fail
          refine HPR.out.mono ?_
          rintro e w6 ⟨rfl, hg6⟩
          have HA6 := Lib.hid (HA5.out.gr hg6)
          clear hg6 HG5
          have HTR := Lib.hid (trim_st (1 + F) HA6.out HOK.out)
          rw [HBA.out, decide_eq_true (show (0 : Int) < 1 + F by omega)] at HTR
          have HOK2 := Lib.hid (HOK.out.trim (1 + F))
          have HLN := Lib.hid (show (a5.trim (1 + F)).L.length = 63 by unfold Ac.trim; rw [if_neg (by rw [HBA.out]; omega)]; exact HHI.out)
          have HB2 := Lib.hid (show (a5.trim (1 + F)).ba = 1 + F by unfold Ac.trim; rw [if_neg (by rw [HBA.out]; omega)])
          generalize a5.trim (1 + F) = a6 at *
          go_wp2_with fail
          refine HTR.out.mono ?_
          rintro e w7 ⟨rfl, v7, hA7, _, _⟩
          have HLS := Lib.hid (list_st hA7 HOK2.out)
          rw [HLN.out] at HLS
          clear hA7
          go_wp2_with fail
          refine HLS.out.mono ?_
          rintro e w8 ⟨ra, rc, rfl, _, hA8, hg8⟩
          have HBS := Lib.hid (base_st hA8)
          rw [HB2.out] at HBS
          have HG8 := Lib.hid (HG1.out.trans hA8.grown)
          clear hA8 hg8
          go_wp2_with fail
          refine HBS.out.mono ?_
          rintro e w9 ⟨rfl, rfl⟩
          have h9 : (1 + F == 1 + F) = true := by simp
          go_wp2
          go_ret
          exact ⟨rfl, HG8.out⟩
        · have hh := Bool.eq_false_iff.2 hh
          have hl := hLAST.out.2.1 hx0 hh
          rw [hl.1, hl.2] at HC
          simp only [Rep.msg] at HC
          have hways : (¬ 1 + F ≤ X) ∨ (1 + F ≤ X ∧ ¬ X ≤ 1 + F + 126) ∨ (1 + F ≤ X ∧ X ≤ 1 + F + 126 ∧ ((X - (1 + F)) % 2 == 0) = false) := by
            by_cases h1 : 1 + F ≤ X
            · by_cases h2 : X ≤ 1 + F + 126
              · refine .inr (.inr ⟨h1, h2, ?_⟩)
                rw [beq_eq_false_iff_ne]
                intro h3
                have h4 : (X - (1 + F)) % 2 = 0 := h3
                have : hasE (fullL wit F 64) X = true := (full_has _ _ _ _).2 ⟨((X - (1 + F)) / 2).toNat, by omega, by omega⟩
                rw [hh] at this
                exact absurd this (by simp)
              · exact .inr (.inl ⟨h1, h2⟩)
            · exact .inl h1
          clear hl hLAST hh
          rcases hways with h1 | ⟨h1, h2⟩ | ⟨h1, h2, h3⟩
          · go_wp2_with fail
            refine HC.out.mono ?_
            rintro e w5 ⟨rfl, v5, hA5, hF5, _⟩
            have HG5 := Lib.hid ((Gr.refl w5).alloc (.cells #[.int .i64 0, .int .i64 0, .int .i64 0, .int .i64 0, .int .u64 0, .int .i64 0, .int .i64 0, .int .i64 0, .bool false, .string ⟨#[]⟩, .slice none 0 0] 30))
            have HA5 := Lib.hid (hA5.gr HG5.out)
            have HB5 := Lib.hid ((HA.out.keep hF5 HB.out HNE.out (by decide)).gr HG5.out)
            have HM5 := Lib.hid (Blk.new w5 #[.int .i64 0, .int .i64 0, .int .i64 0, .int .i64 0, .int .u64 0, .int .i64 0, .int .i64 0, .int .i64 0, .bool false, .string ⟨#[]⟩, .slice none 0 0] 30)
            clear HA HB hA5 hF5 b0 b1 HG5
            go_wp2_with fail
            generalize w5.alloc (.cells #[.int .i64 0, .int .i64 0, .int .i64 0, .int .i64 0, .int .u64 0, .int .i64 0, .int .i64 0, .int .i64 0, .bool false, .string ⟨#[]⟩, .slice none 0 0] 30) = w6 at *
            generalize w5.heap.size = p13 at *
            have b0 := HB5.out.cell (i := 0) rfl
            have b1 := HB5.out.cell (i := 1) rfl
            have m0 := HM5.out.cell (i := 0) rfl
            refine wp_region_held_drew (S := (fun w9 => Gr w6 w9 ∧ w9.cell? ⟨p13, 0, none⟩ = some (.int .i64 0) ∧ w9.cell? ⟨p8, 0, none⟩ = some (.int .u64 1) ∧ w9.cell? ⟨p8, 1, none⟩ = some (.int .i64 3))) (by kernel_rfl) ?inva (fun h0 => ?_)
            case inva => ((try dsimp only); (exact ⟨(by first | exact Gr.refl _ | exact (Gr.refl _).drew), m0, b0, b1⟩))
            refine wpAnyH_take (i := 0) (oi := { dst := some 89, op := Go.Op.fieldAddr 30 (Go.Operand.tmp 13) 0, type := 0, pos := "law.go:211", after := #[], guard := none }) (v := ?va1) rfl (by kernel_rfl) (by kernel_rfl) (by kernel_rfl) (fun _ _ _ h => h) (Or.inl ⟨by rfl, ?ra1⟩) (by assumption) ?_
            case ra1 => (intro w hSw; (try dsimp only at hSw); (go_simp <;> with_reducible rfl))
            try simp only [Act.put, List.setIfInBounds_toArray, List.set_cons_zero, List.set_cons_succ]
            refine wpAnyH_take (i := 1) (oi := { dst := some 90, op := Go.Op.load 3 (Go.Operand.tmp 89), type := 3, pos := "law.go:211", after := #[{ on := 0, ground := Go.Ground.data }], guard := none }) (v := ?va2) rfl (by kernel_rfl) (by kernel_rfl) (by kernel_rfl) (fun _ _ _ h => h) (Or.inl ⟨by rfl, ?ra2⟩) (by assumption) ?_
            case ra2 => (intro w hSw; (try dsimp only at hSw); (go_simp <;> with_reducible rfl))
            try simp only [Act.put, List.setIfInBounds_toArray, List.set_cons_zero, List.set_cons_succ]
            refine wpAnyH_take (i := 2) (oi := { dst := some 91, op := Go.Op.binOp Go.BinOp.eql 3 (Go.Operand.tmp 90) (Go.Operand.const (Go.Value.int Go.IntKind.i64 0)) 3, type := 4, pos := "law.go:211", after := #[{ on := 1, ground := Go.Ground.data }], guard := none }) (v := ?va3) rfl (by kernel_rfl) (by kernel_rfl) (by kernel_rfl) (fun _ _ _ h => h) (Or.inl ⟨by rfl, ?ra3⟩) (by assumption) ?_
            case ra3 => (intro w hSw; (try dsimp only at hSw); (go_simp <;> with_reducible rfl))
            try simp only [Act.put, List.setIfInBounds_toArray, List.set_cons_zero, List.set_cons_succ]
            refine wpAnyH_take (i := 3) (oi := { dst := some 92, op := Go.Op.move (Go.Operand.tmp 91), type := 4, pos := "law.go:211", after := #[{ on := 2, ground := Go.Ground.data }], guard := none }) (v := ?va4) rfl (by kernel_rfl) (by kernel_rfl) (by kernel_rfl) (fun _ _ _ h => h) (Or.inl ⟨by rfl, ?ra4⟩) (by assumption) ?_
            case ra4 => (intro w hSw; (try dsimp only at hSw); (go_simp <;> with_reducible rfl))
            try simp only [Act.put, List.setIfInBounds_toArray, List.set_cons_zero, List.set_cons_succ]
            refine wpAnyH_take (i := 4) (oi := { dst := some 93, op := Go.Op.move (Go.Operand.tmp 14), type := 4, pos := "law.go:211", after := #[{ on := 3, ground := Go.Ground.guard }], guard := some (3, true) }) (v := ?va5) rfl (by kernel_rfl) (by kernel_rfl) (by kernel_rfl) (fun _ _ _ h => h) (Or.inl ⟨by rfl, ?ra5⟩) (by assumption) ?_
            case ra5 => (intro w hSw; (try dsimp only at hSw); (go_simp <;> with_reducible rfl))
            try simp only [Act.put, List.setIfInBounds_toArray, List.set_cons_zero, List.set_cons_succ]
            refine wpAnyH_take (i := 5) (oi := { dst := some 94, op := Go.Op.unOp Go.UnOp.not 4 (Go.Operand.tmp 93), type := 4, pos := "law.go:211", after := #[{ on := 4, ground := Go.Ground.data }, { on := 3, ground := Go.Ground.guard }], guard := some (3, true) }) (v := ?va6) rfl (by kernel_rfl) (by kernel_rfl) (by kernel_rfl) (fun _ _ _ h => h) (Or.inl ⟨by rfl, ?ra6⟩) (by assumption) ?_
            case ra6 => (intro w hSw; (try dsimp only at hSw); (go_simp <;> with_reducible rfl))
            try simp only [Act.put, List.setIfInBounds_toArray, List.set_cons_zero, List.set_cons_succ]
            refine wpAnyH_take (i := 6) (oi := { dst := some 95, op := Go.Op.pick (Go.Operand.tmp 92) (Go.Operand.tmp 94) (Go.Operand.const (Go.Value.bool false)), type := 4, pos := "law.go:211", after := #[{ on := 3, ground := Go.Ground.data }, { on := 5, ground := Go.Ground.data }], guard := none }) (v := ?va7) rfl (by kernel_rfl) (by kernel_rfl) (by kernel_rfl) (fun _ _ _ h => h) (Or.inl ⟨by rfl, ?ra7⟩) (by assumption) ?_
            case ra7 => (intro w hSw; (try dsimp only at hSw); (go_simp <;> with_reducible rfl))
            try simp only [Act.put, List.setIfInBounds_toArray, List.set_cons_zero, List.set_cons_succ]
            refine wpAnyH_take (i := 7) (oi := { dst := some 96, op := Go.Op.move (Go.Operand.tmp 95), type := 4, pos := "law.go:211", after := #[{ on := 6, ground := Go.Ground.data }, { on := 3, ground := Go.Ground.chain }], guard := none }) (v := ?va8) rfl (by kernel_rfl) (by kernel_rfl) (by kernel_rfl) (fun _ _ _ h => h) (Or.inl ⟨by rfl, ?ra8⟩) (by assumption) ?_
            case ra8 => (intro w hSw; (try dsimp only at hSw); (go_simp <;> with_reducible rfl))
            try simp only [Act.put, List.setIfInBounds_toArray, List.set_cons_zero, List.set_cons_succ]
            refine wpAnyH_take (i := 8) (oi := { dst := some 97, op := Go.Op.move (Go.Operand.tmp 7), type := 23, pos := "law.go:211", after := #[{ on := 7, ground := Go.Ground.guard }], guard := some (7, true) }) (v := ?va9) rfl (by kernel_rfl) (by kernel_rfl) (by kernel_rfl) (fun _ _ _ h => h) (Or.inl ⟨by rfl, ?ra9⟩) (by assumption) ?_
            case ra9 => (intro w hSw; (try dsimp only at hSw); (go_simp <;> with_reducible rfl))
            try simp only [Act.put, List.setIfInBounds_toArray, List.set_cons_zero, List.set_cons_succ]
            refine wpAnyH_take (i := 10) (oi := { dst := some 99, op := Go.Op.load 27 (Go.Operand.tmp 8), type := 27, pos := "law.go:211", after := #[{ on := 7, ground := Go.Ground.guard }], guard := some (7, true) }) (v := ?va10) rfl (by kernel_rfl) (by kernel_rfl) (by kernel_rfl) (fun _ _ _ h => h) (Or.inl ⟨by rfl, ?ra10⟩) (by assumption) ?_
            case ra10 => (intro w hSw; (try dsimp only at hSw); (go_simp <;> with_reducible rfl))
            try simp only [Act.put, List.setIfInBounds_toArray, List.set_cons_zero, List.set_cons_succ]
            refine wpAnyH_ready (rs := [9]) (by kernel_rfl) (by simp) ?_
            refine AllReadyH.cons (o := { dst := some 98, op := Go.Op.call { callee := Go.Callee.value (Go.Operand.func 16), args := #[Go.Operand.tmp 97], argTypes := #[23] }, type := 27, pos := "law.go:211", after := #[{ on := 8, ground := Go.Ground.data }, { on := 7, ground := Go.Ground.chain }, { on := 7, ground := Go.Ground.guard }], guard := some (7, true) }) rfl (fun K hK => ?_) AllReadyH.nil
            go_simp
            go_at_call 16
            refine (show Calls Try.prog 16 #[.pointer (some ⟨pb, 0, none⟩)] _ fun e w9 => e = .returned (.agg #[.int .u64 1, .int .i64 3]) ∧ Gr _ w9 from promised_st (HA5.out.gr h0.1)).mono ?_
            rintro e w9 ⟨rfl, hg9⟩
            first | refine hK.out _ _ ?sa11 (fun h11 => ?_) | (go_wp2_with fail; refine hK.out _ _ ?sa11 (fun h11 => ?_))
            case sa11 => ((try dsimp only); (exact ⟨h0.1.trans hg9, hg9.cell h0.2.1, hg9.cell h0.2.2.1, hg9.cell h0.2.2.2⟩))
            clear hK K h0
            try simp only [Act.put, List.setIfInBounds_toArray, List.set_cons_zero, List.set_cons_succ]
            refine wpAnyH_take (i := 11) (oi := { dst := some 100, op := Go.Op.binOp Go.BinOp.eql 27 (Go.Operand.tmp 98) (Go.Operand.tmp 99) 27, type := 4, pos := "law.go:211", after := #[{ on := 9, ground := Go.Ground.data }, { on := 10, ground := Go.Ground.data }, { on := 7, ground := Go.Ground.guard }], guard := some (7, true) }) (v := ?va12) rfl (by kernel_rfl) (by kernel_rfl) (by kernel_rfl) (fun _ _ _ h => h) (Or.inl ⟨by rfl, ?ra12⟩) (by assumption) ?_
            case ra12 => (intro w hSw; (try dsimp only at hSw); (go_simp <;> with_reducible rfl))
            try simp only [Act.put, List.setIfInBounds_toArray, List.set_cons_zero, List.set_cons_succ]
            refine wpAnyH_take (i := 12) (oi := { dst := some 101, op := Go.Op.pick (Go.Operand.tmp 96) (Go.Operand.tmp 100) (Go.Operand.const (Go.Value.bool false)), type := 4, pos := "law.go:211", after := #[{ on := 7, ground := Go.Ground.data }, { on := 11, ground := Go.Ground.data }], guard := none }) (v := ?va13) rfl (by kernel_rfl) (by kernel_rfl) (by kernel_rfl) (fun _ _ _ h => h) (Or.inl ⟨by rfl, ?ra13⟩) (by assumption) ?_
            case ra13 => (intro w hSw; (try dsimp only at hSw); (go_simp <;> with_reducible rfl))
            try simp only [Act.put, List.setIfInBounds_toArray, List.set_cons_zero, List.set_cons_succ]
            refine wpAnyH_take (i := 13) (oi := { dst := some 102, op := Go.Op.move (Go.Operand.tmp 101), type := 4, pos := "law.go:211", after := #[{ on := 12, ground := Go.Ground.data }, { on := 9, ground := Go.Ground.chain }], guard := none }) (v := ?va14) rfl (by kernel_rfl) (by kernel_rfl) (by kernel_rfl) (fun _ _ _ h => h) (Or.inl ⟨by rfl, ?ra14⟩) (by assumption) ?_
            case ra14 => (intro w hSw; (try dsimp only at hSw); (go_simp <;> with_reducible rfl))
            try simp only [Act.put, List.setIfInBounds_toArray, List.set_cons_zero, List.set_cons_succ]
            refine wpAnyH_take (i := 14) (oi := { dst := some 103, op := Go.Op.move (Go.Operand.tmp 7), type := 23, pos := "law.go:211", after := #[{ on := 13, ground := Go.Ground.guard }], guard := some (13, true) }) (v := ?va15) rfl (by kernel_rfl) (by kernel_rfl) (by kernel_rfl) (fun _ _ _ h => h) (Or.inl ⟨by rfl, ?ra15⟩) (by assumption) ?_
            case ra15 => (intro w hSw; (try dsimp only at hSw); (go_simp <;> with_reducible rfl))
            try simp only [Act.put, List.setIfInBounds_toArray, List.set_cons_zero, List.set_cons_succ]
            refine wpAnyH_ready (rs := [15]) (by kernel_rfl) (by simp) ?_
            refine AllReadyH.cons (o := { dst := some 104, op := Go.Op.call { callee := Go.Callee.value (Go.Operand.func 15), args := #[Go.Operand.tmp 103], argTypes := #[23] }, type := 28, pos := "law.go:211", after := #[{ on := 14, ground := Go.Ground.data }, { on := 13, ground := Go.Ground.chain }, { on := 13, ground := Go.Ground.guard }], guard := some (13, true) }) rfl (fun K hK => ?_) AllReadyH.nil
            go_simp
            go_at_call 15
            refine (list_st (HA5.out.gr h11.1) (fullA_ok wit F 64 (by omega))).mono ?_
            rw [show (fullA wit F 64).L.length = 64 from fullL_len wit F 64]
            rintro e w9 ⟨ra, rc, rfl, _, _, hg9⟩
            first | refine hK.out _ _ ?sa16 (fun h16 => ?_) | (go_wp2_with fail; refine hK.out _ _ ?sa16 (fun h16 => ?_))
            case sa16 => ((try dsimp only); (exact ⟨h11.1.trans hg9, hg9.cell h11.2.1, hg9.cell h11.2.2.1, hg9.cell h11.2.2.2⟩))
            clear hK K h11
            try simp only [Act.put, List.setIfInBounds_toArray, List.set_cons_zero, List.set_cons_succ]
            refine wpAnyH_take (i := 16) (oi := { dst := some 105, op := Go.Op.call { callee := Go.Callee.builtin Go.Builtin.len, args := #[Go.Operand.tmp 104], argTypes := #[28] }, type := 3, pos := "law.go:211", after := #[{ on := 15, ground := Go.Ground.data }, { on := 13, ground := Go.Ground.guard }], guard := some (13, true) }) (v := ?va17) rfl (by kernel_rfl) (by kernel_rfl) (by kernel_rfl) (fun _ _ _ h => h) (Or.inl ⟨by rfl, ?ra17⟩) (by assumption) ?_
            case ra17 => (intro w hSw; (try dsimp only at hSw); (go_simp <;> with_reducible rfl))
            try simp only [Act.put, List.setIfInBounds_toArray, List.set_cons_zero, List.set_cons_succ]
            refine wpAnyH_take (i := 17) (oi := { dst := some 106, op := Go.Op.binOp Go.BinOp.eql 3 (Go.Operand.tmp 105) (Go.Operand.const (Go.Value.int Go.IntKind.i64 64)) 3, type := 4, pos := "law.go:211", after := #[{ on := 16, ground := Go.Ground.data }, { on := 13, ground := Go.Ground.guard }], guard := some (13, true) }) (v := ?va18) rfl (by kernel_rfl) (by kernel_rfl) (by kernel_rfl) (fun _ _ _ h => h) (Or.inl ⟨by rfl, ?ra18⟩) (by assumption) ?_
            case ra18 => (intro w hSw; (try dsimp only at hSw); (go_simp <;> with_reducible rfl))
            try simp only [Act.put, List.setIfInBounds_toArray, List.set_cons_zero, List.set_cons_succ]
            refine wpAnyH_take (i := 18) (oi := { dst := some 107, op := Go.Op.pick (Go.Operand.tmp 102) (Go.Operand.tmp 106) (Go.Operand.const (Go.Value.bool false)), type := 4, pos := "law.go:211", after := #[{ on := 13, ground := Go.Ground.data }, { on := 17, ground := Go.Ground.data }], guard := none }) (v := ?va19) rfl (by kernel_rfl) (by kernel_rfl) (by kernel_rfl) (fun _ _ _ h => h) (Or.inl ⟨by rfl, ?ra19⟩) (by assumption) ?_
            case ra19 => (intro w hSw; (try dsimp only at hSw); (go_simp <;> with_reducible rfl))
            try simp only [Act.put, List.setIfInBounds_toArray, List.set_cons_zero, List.set_cons_succ]
            refine wpAnyH_take (i := 19) (oi := { dst := some 6, op := Go.Op.assign (Go.Operand.tmp 107), type := 4, pos := "law.go:211", after := #[{ on := 18, ground := Go.Ground.data }, { on := 15, ground := Go.Ground.chain }, { on := 0, ground := Go.Ground.phase }, { on := 1, ground := Go.Ground.phase }, { on := 2, ground := Go.Ground.phase }, { on := 3, ground := Go.Ground.phase }, { on := 4, ground := Go.Ground.phase }, { on := 5, ground := Go.Ground.phase }, { on := 6, ground := Go.Ground.phase }, { on := 7, ground := Go.Ground.phase }, { on := 8, ground := Go.Ground.phase }, { on := 9, ground := Go.Ground.phase }, { on := 10, ground := Go.Ground.phase }, { on := 11, ground := Go.Ground.phase }, { on := 12, ground := Go.Ground.phase }, { on := 13, ground := Go.Ground.phase }, { on := 14, ground := Go.Ground.phase }, { on := 15, ground := Go.Ground.phase }, { on := 16, ground := Go.Ground.phase }, { on := 17, ground := Go.Ground.phase }, { on := 18, ground := Go.Ground.phase }], guard := none }) (v := ?va20) rfl (by kernel_rfl) (by kernel_rfl) (by kernel_rfl) (fun _ _ _ h => h) (Or.inl ⟨by rfl, ?ra20⟩) (by assumption) ?_
            case ra20 => (intro w hSw; (try dsimp only at hSw); (go_simp <;> with_reducible rfl))
            try simp only [Act.put, List.setIfInBounds_toArray, List.set_cons_zero, List.set_cons_succ]
            refine wpAnyH_done (by kernel_rfl) ?_ _
            have QG := Lib.hid (HG1.out.trans (HA5.out.grown.trans h16.1))
            clear h16
            go_wp2
            go_ret
            exact ⟨rfl, QG.out⟩
          · go_wp2_with fail
            refine HC.out.mono ?_
            rintro e w5 ⟨rfl, v5, hA5, hF5, _⟩
            have HG5 := Lib.hid ((Gr.refl w5).alloc (.cells #[.int .i64 0, .int .i64 0, .int .i64 0, .int .i64 0, .int .u64 0, .int .i64 0, .int .i64 0, .int .i64 0, .bool false, .string ⟨#[]⟩, .slice none 0 0] 30))
            have HA5 := Lib.hid (hA5.gr HG5.out)
            have HB5 := Lib.hid ((HA.out.keep hF5 HB.out HNE.out (by decide)).gr HG5.out)
            have HM5 := Lib.hid (Blk.new w5 #[.int .i64 0, .int .i64 0, .int .i64 0, .int .i64 0, .int .u64 0, .int .i64 0, .int .i64 0, .int .i64 0, .bool false, .string ⟨#[]⟩, .slice none 0 0] 30)
            clear HA HB hA5 hF5 b0 b1 HG5
            go_wp2_with fail
            generalize w5.alloc (.cells #[.int .i64 0, .int .i64 0, .int .i64 0, .int .i64 0, .int .u64 0, .int .i64 0, .int .i64 0, .int .i64 0, .bool false, .string ⟨#[]⟩, .slice none 0 0] 30) = w6 at *
            generalize w5.heap.size = p13 at *
            have b0 := HB5.out.cell (i := 0) rfl
            have b1 := HB5.out.cell (i := 1) rfl
            have m0 := HM5.out.cell (i := 0) rfl
            refine wp_region_held_drew (S := (fun w9 => Gr w6 w9 ∧ w9.cell? ⟨p13, 0, none⟩ = some (.int .i64 0) ∧ w9.cell? ⟨p8, 0, none⟩ = some (.int .u64 1) ∧ w9.cell? ⟨p8, 1, none⟩ = some (.int .i64 3))) (by kernel_rfl) ?invb (fun h0 => ?_)
            case invb => ((try dsimp only); (exact ⟨(by first | exact Gr.refl _ | exact (Gr.refl _).drew), m0, b0, b1⟩))
            refine wpAnyH_take (i := 0) (oi := { dst := some 89, op := Go.Op.fieldAddr 30 (Go.Operand.tmp 13) 0, type := 0, pos := "law.go:211", after := #[], guard := none }) (v := ?vb1) rfl (by kernel_rfl) (by kernel_rfl) (by kernel_rfl) (fun _ _ _ h => h) (Or.inl ⟨by rfl, ?rb1⟩) (by assumption) ?_
            case rb1 => (intro w hSw; (try dsimp only at hSw); (go_simp <;> with_reducible rfl))
            try simp only [Act.put, List.setIfInBounds_toArray, List.set_cons_zero, List.set_cons_succ]
            refine wpAnyH_take (i := 1) (oi := { dst := some 90, op := Go.Op.load 3 (Go.Operand.tmp 89), type := 3, pos := "law.go:211", after := #[{ on := 0, ground := Go.Ground.data }], guard := none }) (v := ?vb2) rfl (by kernel_rfl) (by kernel_rfl) (by kernel_rfl) (fun _ _ _ h => h) (Or.inl ⟨by rfl, ?rb2⟩) (by assumption) ?_
            case rb2 => (intro w hSw; (try dsimp only at hSw); (go_simp <;> with_reducible rfl))
            try simp only [Act.put, List.setIfInBounds_toArray, List.set_cons_zero, List.set_cons_succ]
            refine wpAnyH_take (i := 2) (oi := { dst := some 91, op := Go.Op.binOp Go.BinOp.eql 3 (Go.Operand.tmp 90) (Go.Operand.const (Go.Value.int Go.IntKind.i64 0)) 3, type := 4, pos := "law.go:211", after := #[{ on := 1, ground := Go.Ground.data }], guard := none }) (v := ?vb3) rfl (by kernel_rfl) (by kernel_rfl) (by kernel_rfl) (fun _ _ _ h => h) (Or.inl ⟨by rfl, ?rb3⟩) (by assumption) ?_
            case rb3 => (intro w hSw; (try dsimp only at hSw); (go_simp <;> with_reducible rfl))
            try simp only [Act.put, List.setIfInBounds_toArray, List.set_cons_zero, List.set_cons_succ]
            refine wpAnyH_take (i := 3) (oi := { dst := some 92, op := Go.Op.move (Go.Operand.tmp 91), type := 4, pos := "law.go:211", after := #[{ on := 2, ground := Go.Ground.data }], guard := none }) (v := ?vb4) rfl (by kernel_rfl) (by kernel_rfl) (by kernel_rfl) (fun _ _ _ h => h) (Or.inl ⟨by rfl, ?rb4⟩) (by assumption) ?_
            case rb4 => (intro w hSw; (try dsimp only at hSw); (go_simp <;> with_reducible rfl))
            try simp only [Act.put, List.setIfInBounds_toArray, List.set_cons_zero, List.set_cons_succ]
            refine wpAnyH_take (i := 4) (oi := { dst := some 93, op := Go.Op.move (Go.Operand.tmp 14), type := 4, pos := "law.go:211", after := #[{ on := 3, ground := Go.Ground.guard }], guard := some (3, true) }) (v := ?vb5) rfl (by kernel_rfl) (by kernel_rfl) (by kernel_rfl) (fun _ _ _ h => h) (Or.inl ⟨by rfl, ?rb5⟩) (by assumption) ?_
            case rb5 => (intro w hSw; (try dsimp only at hSw); (go_simp <;> with_reducible rfl))
            try simp only [Act.put, List.setIfInBounds_toArray, List.set_cons_zero, List.set_cons_succ]
            refine wpAnyH_take (i := 5) (oi := { dst := some 94, op := Go.Op.unOp Go.UnOp.not 4 (Go.Operand.tmp 93), type := 4, pos := "law.go:211", after := #[{ on := 4, ground := Go.Ground.data }, { on := 3, ground := Go.Ground.guard }], guard := some (3, true) }) (v := ?vb6) rfl (by kernel_rfl) (by kernel_rfl) (by kernel_rfl) (fun _ _ _ h => h) (Or.inl ⟨by rfl, ?rb6⟩) (by assumption) ?_
            case rb6 => (intro w hSw; (try dsimp only at hSw); (go_simp <;> with_reducible rfl))
            try simp only [Act.put, List.setIfInBounds_toArray, List.set_cons_zero, List.set_cons_succ]
            refine wpAnyH_take (i := 6) (oi := { dst := some 95, op := Go.Op.pick (Go.Operand.tmp 92) (Go.Operand.tmp 94) (Go.Operand.const (Go.Value.bool false)), type := 4, pos := "law.go:211", after := #[{ on := 3, ground := Go.Ground.data }, { on := 5, ground := Go.Ground.data }], guard := none }) (v := ?vb7) rfl (by kernel_rfl) (by kernel_rfl) (by kernel_rfl) (fun _ _ _ h => h) (Or.inl ⟨by rfl, ?rb7⟩) (by assumption) ?_
            case rb7 => (intro w hSw; (try dsimp only at hSw); (go_simp <;> with_reducible rfl))
            try simp only [Act.put, List.setIfInBounds_toArray, List.set_cons_zero, List.set_cons_succ]
            refine wpAnyH_take (i := 7) (oi := { dst := some 96, op := Go.Op.move (Go.Operand.tmp 95), type := 4, pos := "law.go:211", after := #[{ on := 6, ground := Go.Ground.data }, { on := 3, ground := Go.Ground.chain }], guard := none }) (v := ?vb8) rfl (by kernel_rfl) (by kernel_rfl) (by kernel_rfl) (fun _ _ _ h => h) (Or.inl ⟨by rfl, ?rb8⟩) (by assumption) ?_
            case rb8 => (intro w hSw; (try dsimp only at hSw); (go_simp <;> with_reducible rfl))
            try simp only [Act.put, List.setIfInBounds_toArray, List.set_cons_zero, List.set_cons_succ]
            refine wpAnyH_take (i := 8) (oi := { dst := some 97, op := Go.Op.move (Go.Operand.tmp 7), type := 23, pos := "law.go:211", after := #[{ on := 7, ground := Go.Ground.guard }], guard := some (7, true) }) (v := ?vb9) rfl (by kernel_rfl) (by kernel_rfl) (by kernel_rfl) (fun _ _ _ h => h) (Or.inl ⟨by rfl, ?rb9⟩) (by assumption) ?_
            case rb9 => (intro w hSw; (try dsimp only at hSw); (go_simp <;> with_reducible rfl))
            try simp only [Act.put, List.setIfInBounds_toArray, List.set_cons_zero, List.set_cons_succ]
            refine wpAnyH_take (i := 10) (oi := { dst := some 99, op := Go.Op.load 27 (Go.Operand.tmp 8), type := 27, pos := "law.go:211", after := #[{ on := 7, ground := Go.Ground.guard }], guard := some (7, true) }) (v := ?vb10) rfl (by kernel_rfl) (by kernel_rfl) (by kernel_rfl) (fun _ _ _ h => h) (Or.inl ⟨by rfl, ?rb10⟩) (by assumption) ?_
            case rb10 => (intro w hSw; (try dsimp only at hSw); (go_simp <;> with_reducible rfl))
            try simp only [Act.put, List.setIfInBounds_toArray, List.set_cons_zero, List.set_cons_succ]
            refine wpAnyH_ready (rs := [9]) (by kernel_rfl) (by simp) ?_
            refine AllReadyH.cons (o := { dst := some 98, op := Go.Op.call { callee := Go.Callee.value (Go.Operand.func 16), args := #[Go.Operand.tmp 97], argTypes := #[23] }, type := 27, pos := "law.go:211", after := #[{ on := 8, ground := Go.Ground.data }, { on := 7, ground := Go.Ground.chain }, { on := 7, ground := Go.Ground.guard }], guard := some (7, true) }) rfl (fun K hK => ?_) AllReadyH.nil
            go_simp
            go_at_call 16
            refine (show Calls Try.prog 16 #[.pointer (some ⟨pb, 0, none⟩)] _ fun e w9 => e = .returned (.agg #[.int .u64 1, .int .i64 3]) ∧ Gr _ w9 from promised_st (HA5.out.gr h0.1)).mono ?_
            rintro e w9 ⟨rfl, hg9⟩
            first | refine hK.out _ _ ?sb11 (fun h11 => ?_) | (go_wp2_with fail; refine hK.out _ _ ?sb11 (fun h11 => ?_))
            case sb11 => ((try dsimp only); (exact ⟨h0.1.trans hg9, hg9.cell h0.2.1, hg9.cell h0.2.2.1, hg9.cell h0.2.2.2⟩))
            clear hK K h0
            try simp only [Act.put, List.setIfInBounds_toArray, List.set_cons_zero, List.set_cons_succ]
            refine wpAnyH_take (i := 11) (oi := { dst := some 100, op := Go.Op.binOp Go.BinOp.eql 27 (Go.Operand.tmp 98) (Go.Operand.tmp 99) 27, type := 4, pos := "law.go:211", after := #[{ on := 9, ground := Go.Ground.data }, { on := 10, ground := Go.Ground.data }, { on := 7, ground := Go.Ground.guard }], guard := some (7, true) }) (v := ?vb12) rfl (by kernel_rfl) (by kernel_rfl) (by kernel_rfl) (fun _ _ _ h => h) (Or.inl ⟨by rfl, ?rb12⟩) (by assumption) ?_
            case rb12 => (intro w hSw; (try dsimp only at hSw); (go_simp <;> with_reducible rfl))
            try simp only [Act.put, List.setIfInBounds_toArray, List.set_cons_zero, List.set_cons_succ]
            refine wpAnyH_take (i := 12) (oi := { dst := some 101, op := Go.Op.pick (Go.Operand.tmp 96) (Go.Operand.tmp 100) (Go.Operand.const (Go.Value.bool false)), type := 4, pos := "law.go:211", after := #[{ on := 7, ground := Go.Ground.data }, { on := 11, ground := Go.Ground.data }], guard := none }) (v := ?vb13) rfl (by kernel_rfl) (by kernel_rfl) (by kernel_rfl) (fun _ _ _ h => h) (Or.inl ⟨by rfl, ?rb13⟩) (by assumption) ?_
            case rb13 => (intro w hSw; (try dsimp only at hSw); (go_simp <;> with_reducible rfl))
            try simp only [Act.put, List.setIfInBounds_toArray, List.set_cons_zero, List.set_cons_succ]
            refine wpAnyH_take (i := 13) (oi := { dst := some 102, op := Go.Op.move (Go.Operand.tmp 101), type := 4, pos := "law.go:211", after := #[{ on := 12, ground := Go.Ground.data }, { on := 9, ground := Go.Ground.chain }], guard := none }) (v := ?vb14) rfl (by kernel_rfl) (by kernel_rfl) (by kernel_rfl) (fun _ _ _ h => h) (Or.inl ⟨by rfl, ?rb14⟩) (by assumption) ?_
            case rb14 => (intro w hSw; (try dsimp only at hSw); (go_simp <;> with_reducible rfl))
            try simp only [Act.put, List.setIfInBounds_toArray, List.set_cons_zero, List.set_cons_succ]
            refine wpAnyH_take (i := 14) (oi := { dst := some 103, op := Go.Op.move (Go.Operand.tmp 7), type := 23, pos := "law.go:211", after := #[{ on := 13, ground := Go.Ground.guard }], guard := some (13, true) }) (v := ?vb15) rfl (by kernel_rfl) (by kernel_rfl) (by kernel_rfl) (fun _ _ _ h => h) (Or.inl ⟨by rfl, ?rb15⟩) (by assumption) ?_
            case rb15 => (intro w hSw; (try dsimp only at hSw); (go_simp <;> with_reducible rfl))
            try simp only [Act.put, List.setIfInBounds_toArray, List.set_cons_zero, List.set_cons_succ]
            refine wpAnyH_ready (rs := [15]) (by kernel_rfl) (by simp) ?_
            refine AllReadyH.cons (o := { dst := some 104, op := Go.Op.call { callee := Go.Callee.value (Go.Operand.func 15), args := #[Go.Operand.tmp 103], argTypes := #[23] }, type := 28, pos := "law.go:211", after := #[{ on := 14, ground := Go.Ground.data }, { on := 13, ground := Go.Ground.chain }, { on := 13, ground := Go.Ground.guard }], guard := some (13, true) }) rfl (fun K hK => ?_) AllReadyH.nil
            go_simp
            go_at_call 15
            refine (list_st (HA5.out.gr h11.1) (fullA_ok wit F 64 (by omega))).mono ?_
            rw [show (fullA wit F 64).L.length = 64 from fullL_len wit F 64]
            rintro e w9 ⟨ra, rc, rfl, _, _, hg9⟩
            first | refine hK.out _ _ ?sb16 (fun h16 => ?_) | (go_wp2_with fail; refine hK.out _ _ ?sb16 (fun h16 => ?_))
            case sb16 => ((try dsimp only); (exact ⟨h11.1.trans hg9, hg9.cell h11.2.1, hg9.cell h11.2.2.1, hg9.cell h11.2.2.2⟩))
            clear hK K h11
            try simp only [Act.put, List.setIfInBounds_toArray, List.set_cons_zero, List.set_cons_succ]
            refine wpAnyH_take (i := 16) (oi := { dst := some 105, op := Go.Op.call { callee := Go.Callee.builtin Go.Builtin.len, args := #[Go.Operand.tmp 104], argTypes := #[28] }, type := 3, pos := "law.go:211", after := #[{ on := 15, ground := Go.Ground.data }, { on := 13, ground := Go.Ground.guard }], guard := some (13, true) }) (v := ?vb17) rfl (by kernel_rfl) (by kernel_rfl) (by kernel_rfl) (fun _ _ _ h => h) (Or.inl ⟨by rfl, ?rb17⟩) (by assumption) ?_
            case rb17 => (intro w hSw; (try dsimp only at hSw); (go_simp <;> with_reducible rfl))
            try simp only [Act.put, List.setIfInBounds_toArray, List.set_cons_zero, List.set_cons_succ]
            refine wpAnyH_take (i := 17) (oi := { dst := some 106, op := Go.Op.binOp Go.BinOp.eql 3 (Go.Operand.tmp 105) (Go.Operand.const (Go.Value.int Go.IntKind.i64 64)) 3, type := 4, pos := "law.go:211", after := #[{ on := 16, ground := Go.Ground.data }, { on := 13, ground := Go.Ground.guard }], guard := some (13, true) }) (v := ?vb18) rfl (by kernel_rfl) (by kernel_rfl) (by kernel_rfl) (fun _ _ _ h => h) (Or.inl ⟨by rfl, ?rb18⟩) (by assumption) ?_
            case rb18 => (intro w hSw; (try dsimp only at hSw); (go_simp <;> with_reducible rfl))
            try simp only [Act.put, List.setIfInBounds_toArray, List.set_cons_zero, List.set_cons_succ]
            refine wpAnyH_take (i := 18) (oi := { dst := some 107, op := Go.Op.pick (Go.Operand.tmp 102) (Go.Operand.tmp 106) (Go.Operand.const (Go.Value.bool false)), type := 4, pos := "law.go:211", after := #[{ on := 13, ground := Go.Ground.data }, { on := 17, ground := Go.Ground.data }], guard := none }) (v := ?vb19) rfl (by kernel_rfl) (by kernel_rfl) (by kernel_rfl) (fun _ _ _ h => h) (Or.inl ⟨by rfl, ?rb19⟩) (by assumption) ?_
            case rb19 => (intro w hSw; (try dsimp only at hSw); (go_simp <;> with_reducible rfl))
            try simp only [Act.put, List.setIfInBounds_toArray, List.set_cons_zero, List.set_cons_succ]
            refine wpAnyH_take (i := 19) (oi := { dst := some 6, op := Go.Op.assign (Go.Operand.tmp 107), type := 4, pos := "law.go:211", after := #[{ on := 18, ground := Go.Ground.data }, { on := 15, ground := Go.Ground.chain }, { on := 0, ground := Go.Ground.phase }, { on := 1, ground := Go.Ground.phase }, { on := 2, ground := Go.Ground.phase }, { on := 3, ground := Go.Ground.phase }, { on := 4, ground := Go.Ground.phase }, { on := 5, ground := Go.Ground.phase }, { on := 6, ground := Go.Ground.phase }, { on := 7, ground := Go.Ground.phase }, { on := 8, ground := Go.Ground.phase }, { on := 9, ground := Go.Ground.phase }, { on := 10, ground := Go.Ground.phase }, { on := 11, ground := Go.Ground.phase }, { on := 12, ground := Go.Ground.phase }, { on := 13, ground := Go.Ground.phase }, { on := 14, ground := Go.Ground.phase }, { on := 15, ground := Go.Ground.phase }, { on := 16, ground := Go.Ground.phase }, { on := 17, ground := Go.Ground.phase }, { on := 18, ground := Go.Ground.phase }], guard := none }) (v := ?vb20) rfl (by kernel_rfl) (by kernel_rfl) (by kernel_rfl) (fun _ _ _ h => h) (Or.inl ⟨by rfl, ?rb20⟩) (by assumption) ?_
            case rb20 => (intro w hSw; (try dsimp only at hSw); (go_simp <;> with_reducible rfl))
            try simp only [Act.put, List.setIfInBounds_toArray, List.set_cons_zero, List.set_cons_succ]
            refine wpAnyH_done (by kernel_rfl) ?_ _
            have QG := Lib.hid (HG1.out.trans (HA5.out.grown.trans h16.1))
            clear h16
            go_wp2
            go_ret
            exact ⟨rfl, QG.out⟩
          · go_wp2_with fail
            refine HC.out.mono ?_
            rintro e w5 ⟨rfl, v5, hA5, hF5, _⟩
            have HG5 := Lib.hid ((Gr.refl w5).alloc (.cells #[.int .i64 0, .int .i64 0, .int .i64 0, .int .i64 0, .int .u64 0, .int .i64 0, .int .i64 0, .int .i64 0, .bool false, .string ⟨#[]⟩, .slice none 0 0] 30))
            have HA5 := Lib.hid (hA5.gr HG5.out)
            have HB5 := Lib.hid ((HA.out.keep hF5 HB.out HNE.out (by decide)).gr HG5.out)
            have HM5 := Lib.hid (Blk.new w5 #[.int .i64 0, .int .i64 0, .int .i64 0, .int .i64 0, .int .u64 0, .int .i64 0, .int .i64 0, .int .i64 0, .bool false, .string ⟨#[]⟩, .slice none 0 0] 30)
            clear HA HB hA5 hF5 b0 b1 HG5
            go_wp2_with fail
            generalize w5.alloc (.cells #[.int .i64 0, .int .i64 0, .int .i64 0, .int .i64 0, .int .u64 0, .int .i64 0, .int .i64 0, .int .i64 0, .bool false, .string ⟨#[]⟩, .slice none 0 0] 30) = w6 at *
            generalize w5.heap.size = p13 at *
            have b0 := HB5.out.cell (i := 0) rfl
            have b1 := HB5.out.cell (i := 1) rfl
            have m0 := HM5.out.cell (i := 0) rfl
            refine wp_region_held_drew (S := (fun w9 => Gr w6 w9 ∧ w9.cell? ⟨p13, 0, none⟩ = some (.int .i64 0) ∧ w9.cell? ⟨p8, 0, none⟩ = some (.int .u64 1) ∧ w9.cell? ⟨p8, 1, none⟩ = some (.int .i64 3))) (by kernel_rfl) ?invc (fun h0 => ?_)
            case invc => ((try dsimp only); (exact ⟨(by first | exact Gr.refl _ | exact (Gr.refl _).drew), m0, b0, b1⟩))
            refine wpAnyH_take (i := 0) (oi := { dst := some 89, op := Go.Op.fieldAddr 30 (Go.Operand.tmp 13) 0, type := 0, pos := "law.go:211", after := #[], guard := none }) (v := ?vc1) rfl (by kernel_rfl) (by kernel_rfl) (by kernel_rfl) (fun _ _ _ h => h) (Or.inl ⟨by rfl, ?rc1⟩) (by assumption) ?_
            case rc1 => (intro w hSw; (try dsimp only at hSw); (go_simp <;> with_reducible rfl))
            try simp only [Act.put, List.setIfInBounds_toArray, List.set_cons_zero, List.set_cons_succ]
            refine wpAnyH_take (i := 1) (oi := { dst := some 90, op := Go.Op.load 3 (Go.Operand.tmp 89), type := 3, pos := "law.go:211", after := #[{ on := 0, ground := Go.Ground.data }], guard := none }) (v := ?vc2) rfl (by kernel_rfl) (by kernel_rfl) (by kernel_rfl) (fun _ _ _ h => h) (Or.inl ⟨by rfl, ?rc2⟩) (by assumption) ?_
            case rc2 => (intro w hSw; (try dsimp only at hSw); (go_simp <;> with_reducible rfl))
            try simp only [Act.put, List.setIfInBounds_toArray, List.set_cons_zero, List.set_cons_succ]
            refine wpAnyH_take (i := 2) (oi := { dst := some 91, op := Go.Op.binOp Go.BinOp.eql 3 (Go.Operand.tmp 90) (Go.Operand.const (Go.Value.int Go.IntKind.i64 0)) 3, type := 4, pos := "law.go:211", after := #[{ on := 1, ground := Go.Ground.data }], guard := none }) (v := ?vc3) rfl (by kernel_rfl) (by kernel_rfl) (by kernel_rfl) (fun _ _ _ h => h) (Or.inl ⟨by rfl, ?rc3⟩) (by assumption) ?_
            case rc3 => (intro w hSw; (try dsimp only at hSw); (go_simp <;> with_reducible rfl))
            try simp only [Act.put, List.setIfInBounds_toArray, List.set_cons_zero, List.set_cons_succ]
            refine wpAnyH_take (i := 3) (oi := { dst := some 92, op := Go.Op.move (Go.Operand.tmp 91), type := 4, pos := "law.go:211", after := #[{ on := 2, ground := Go.Ground.data }], guard := none }) (v := ?vc4) rfl (by kernel_rfl) (by kernel_rfl) (by kernel_rfl) (fun _ _ _ h => h) (Or.inl ⟨by rfl, ?rc4⟩) (by assumption) ?_
            case rc4 => (intro w hSw; (try dsimp only at hSw); (go_simp <;> with_reducible rfl))
            try simp only [Act.put, List.setIfInBounds_toArray, List.set_cons_zero, List.set_cons_succ]
            refine wpAnyH_take (i := 4) (oi := { dst := some 93, op := Go.Op.move (Go.Operand.tmp 14), type := 4, pos := "law.go:211", after := #[{ on := 3, ground := Go.Ground.guard }], guard := some (3, true) }) (v := ?vc5) rfl (by kernel_rfl) (by kernel_rfl) (by kernel_rfl) (fun _ _ _ h => h) (Or.inl ⟨by rfl, ?rc5⟩) (by assumption) ?_
            case rc5 => (intro w hSw; (try dsimp only at hSw); (go_simp <;> with_reducible rfl))
            try simp only [Act.put, List.setIfInBounds_toArray, List.set_cons_zero, List.set_cons_succ]
            refine wpAnyH_take (i := 5) (oi := { dst := some 94, op := Go.Op.unOp Go.UnOp.not 4 (Go.Operand.tmp 93), type := 4, pos := "law.go:211", after := #[{ on := 4, ground := Go.Ground.data }, { on := 3, ground := Go.Ground.guard }], guard := some (3, true) }) (v := ?vc6) rfl (by kernel_rfl) (by kernel_rfl) (by kernel_rfl) (fun _ _ _ h => h) (Or.inl ⟨by rfl, ?rc6⟩) (by assumption) ?_
            case rc6 => (intro w hSw; (try dsimp only at hSw); (go_simp <;> with_reducible rfl))
            try simp only [Act.put, List.setIfInBounds_toArray, List.set_cons_zero, List.set_cons_succ]
            refine wpAnyH_take (i := 6) (oi := { dst := some 95, op := Go.Op.pick (Go.Operand.tmp 92) (Go.Operand.tmp 94) (Go.Operand.const (Go.Value.bool false)), type := 4, pos := "law.go:211", after := #[{ on := 3, ground := Go.Ground.data }, { on := 5, ground := Go.Ground.data }], guard := none }) (v := ?vc7) rfl (by kernel_rfl) (by kernel_rfl) (by kernel_rfl) (fun _ _ _ h => h) (Or.inl ⟨by rfl, ?rc7⟩) (by assumption) ?_
            case rc7 => (intro w hSw; (try dsimp only at hSw); (go_simp <;> with_reducible rfl))
            try simp only [Act.put, List.setIfInBounds_toArray, List.set_cons_zero, List.set_cons_succ]
            refine wpAnyH_take (i := 7) (oi := { dst := some 96, op := Go.Op.move (Go.Operand.tmp 95), type := 4, pos := "law.go:211", after := #[{ on := 6, ground := Go.Ground.data }, { on := 3, ground := Go.Ground.chain }], guard := none }) (v := ?vc8) rfl (by kernel_rfl) (by kernel_rfl) (by kernel_rfl) (fun _ _ _ h => h) (Or.inl ⟨by rfl, ?rc8⟩) (by assumption) ?_
            case rc8 => (intro w hSw; (try dsimp only at hSw); (go_simp <;> with_reducible rfl))
            try simp only [Act.put, List.setIfInBounds_toArray, List.set_cons_zero, List.set_cons_succ]
            refine wpAnyH_take (i := 8) (oi := { dst := some 97, op := Go.Op.move (Go.Operand.tmp 7), type := 23, pos := "law.go:211", after := #[{ on := 7, ground := Go.Ground.guard }], guard := some (7, true) }) (v := ?vc9) rfl (by kernel_rfl) (by kernel_rfl) (by kernel_rfl) (fun _ _ _ h => h) (Or.inl ⟨by rfl, ?rc9⟩) (by assumption) ?_
            case rc9 => (intro w hSw; (try dsimp only at hSw); (go_simp <;> with_reducible rfl))
            try simp only [Act.put, List.setIfInBounds_toArray, List.set_cons_zero, List.set_cons_succ]
            refine wpAnyH_take (i := 10) (oi := { dst := some 99, op := Go.Op.load 27 (Go.Operand.tmp 8), type := 27, pos := "law.go:211", after := #[{ on := 7, ground := Go.Ground.guard }], guard := some (7, true) }) (v := ?vc10) rfl (by kernel_rfl) (by kernel_rfl) (by kernel_rfl) (fun _ _ _ h => h) (Or.inl ⟨by rfl, ?rc10⟩) (by assumption) ?_
            case rc10 => (intro w hSw; (try dsimp only at hSw); (go_simp <;> with_reducible rfl))
            try simp only [Act.put, List.setIfInBounds_toArray, List.set_cons_zero, List.set_cons_succ]
            refine wpAnyH_ready (rs := [9]) (by kernel_rfl) (by simp) ?_
            refine AllReadyH.cons (o := { dst := some 98, op := Go.Op.call { callee := Go.Callee.value (Go.Operand.func 16), args := #[Go.Operand.tmp 97], argTypes := #[23] }, type := 27, pos := "law.go:211", after := #[{ on := 8, ground := Go.Ground.data }, { on := 7, ground := Go.Ground.chain }, { on := 7, ground := Go.Ground.guard }], guard := some (7, true) }) rfl (fun K hK => ?_) AllReadyH.nil
            go_simp
            go_at_call 16
            refine (show Calls Try.prog 16 #[.pointer (some ⟨pb, 0, none⟩)] _ fun e w9 => e = .returned (.agg #[.int .u64 1, .int .i64 3]) ∧ Gr _ w9 from promised_st (HA5.out.gr h0.1)).mono ?_
            rintro e w9 ⟨rfl, hg9⟩
            first | refine hK.out _ _ ?sc11 (fun h11 => ?_) | (go_wp2_with fail; refine hK.out _ _ ?sc11 (fun h11 => ?_))
            case sc11 => ((try dsimp only); (exact ⟨h0.1.trans hg9, hg9.cell h0.2.1, hg9.cell h0.2.2.1, hg9.cell h0.2.2.2⟩))
            clear hK K h0
            try simp only [Act.put, List.setIfInBounds_toArray, List.set_cons_zero, List.set_cons_succ]
            refine wpAnyH_take (i := 11) (oi := { dst := some 100, op := Go.Op.binOp Go.BinOp.eql 27 (Go.Operand.tmp 98) (Go.Operand.tmp 99) 27, type := 4, pos := "law.go:211", after := #[{ on := 9, ground := Go.Ground.data }, { on := 10, ground := Go.Ground.data }, { on := 7, ground := Go.Ground.guard }], guard := some (7, true) }) (v := ?vc12) rfl (by kernel_rfl) (by kernel_rfl) (by kernel_rfl) (fun _ _ _ h => h) (Or.inl ⟨by rfl, ?rc12⟩) (by assumption) ?_
            case rc12 => (intro w hSw; (try dsimp only at hSw); (go_simp <;> with_reducible rfl))
            try simp only [Act.put, List.setIfInBounds_toArray, List.set_cons_zero, List.set_cons_succ]
            refine wpAnyH_take (i := 12) (oi := { dst := some 101, op := Go.Op.pick (Go.Operand.tmp 96) (Go.Operand.tmp 100) (Go.Operand.const (Go.Value.bool false)), type := 4, pos := "law.go:211", after := #[{ on := 7, ground := Go.Ground.data }, { on := 11, ground := Go.Ground.data }], guard := none }) (v := ?vc13) rfl (by kernel_rfl) (by kernel_rfl) (by kernel_rfl) (fun _ _ _ h => h) (Or.inl ⟨by rfl, ?rc13⟩) (by assumption) ?_
            case rc13 => (intro w hSw; (try dsimp only at hSw); (go_simp <;> with_reducible rfl))
            try simp only [Act.put, List.setIfInBounds_toArray, List.set_cons_zero, List.set_cons_succ]
            refine wpAnyH_take (i := 13) (oi := { dst := some 102, op := Go.Op.move (Go.Operand.tmp 101), type := 4, pos := "law.go:211", after := #[{ on := 12, ground := Go.Ground.data }, { on := 9, ground := Go.Ground.chain }], guard := none }) (v := ?vc14) rfl (by kernel_rfl) (by kernel_rfl) (by kernel_rfl) (fun _ _ _ h => h) (Or.inl ⟨by rfl, ?rc14⟩) (by assumption) ?_
            case rc14 => (intro w hSw; (try dsimp only at hSw); (go_simp <;> with_reducible rfl))
            try simp only [Act.put, List.setIfInBounds_toArray, List.set_cons_zero, List.set_cons_succ]
            refine wpAnyH_take (i := 14) (oi := { dst := some 103, op := Go.Op.move (Go.Operand.tmp 7), type := 23, pos := "law.go:211", after := #[{ on := 13, ground := Go.Ground.guard }], guard := some (13, true) }) (v := ?vc15) rfl (by kernel_rfl) (by kernel_rfl) (by kernel_rfl) (fun _ _ _ h => h) (Or.inl ⟨by rfl, ?rc15⟩) (by assumption) ?_
            case rc15 => (intro w hSw; (try dsimp only at hSw); (go_simp <;> with_reducible rfl))
            try simp only [Act.put, List.setIfInBounds_toArray, List.set_cons_zero, List.set_cons_succ]
            refine wpAnyH_ready (rs := [15]) (by kernel_rfl) (by simp) ?_
            refine AllReadyH.cons (o := { dst := some 104, op := Go.Op.call { callee := Go.Callee.value (Go.Operand.func 15), args := #[Go.Operand.tmp 103], argTypes := #[23] }, type := 28, pos := "law.go:211", after := #[{ on := 14, ground := Go.Ground.data }, { on := 13, ground := Go.Ground.chain }, { on := 13, ground := Go.Ground.guard }], guard := some (13, true) }) rfl (fun K hK => ?_) AllReadyH.nil
            go_simp
            go_at_call 15
            refine (list_st (HA5.out.gr h11.1) (fullA_ok wit F 64 (by omega))).mono ?_
            rw [show (fullA wit F 64).L.length = 64 from fullL_len wit F 64]
            rintro e w9 ⟨ra, rc, rfl, _, _, hg9⟩
            first | refine hK.out _ _ ?sc16 (fun h16 => ?_) | (go_wp2_with fail; refine hK.out _ _ ?sc16 (fun h16 => ?_))
            case sc16 => ((try dsimp only); (exact ⟨h11.1.trans hg9, hg9.cell h11.2.1, hg9.cell h11.2.2.1, hg9.cell h11.2.2.2⟩))
            clear hK K h11
            try simp only [Act.put, List.setIfInBounds_toArray, List.set_cons_zero, List.set_cons_succ]
            refine wpAnyH_take (i := 16) (oi := { dst := some 105, op := Go.Op.call { callee := Go.Callee.builtin Go.Builtin.len, args := #[Go.Operand.tmp 104], argTypes := #[28] }, type := 3, pos := "law.go:211", after := #[{ on := 15, ground := Go.Ground.data }, { on := 13, ground := Go.Ground.guard }], guard := some (13, true) }) (v := ?vc17) rfl (by kernel_rfl) (by kernel_rfl) (by kernel_rfl) (fun _ _ _ h => h) (Or.inl ⟨by rfl, ?rc17⟩) (by assumption) ?_
            case rc17 => (intro w hSw; (try dsimp only at hSw); (go_simp <;> with_reducible rfl))
            try simp only [Act.put, List.setIfInBounds_toArray, List.set_cons_zero, List.set_cons_succ]
            refine wpAnyH_take (i := 17) (oi := { dst := some 106, op := Go.Op.binOp Go.BinOp.eql 3 (Go.Operand.tmp 105) (Go.Operand.const (Go.Value.int Go.IntKind.i64 64)) 3, type := 4, pos := "law.go:211", after := #[{ on := 16, ground := Go.Ground.data }, { on := 13, ground := Go.Ground.guard }], guard := some (13, true) }) (v := ?vc18) rfl (by kernel_rfl) (by kernel_rfl) (by kernel_rfl) (fun _ _ _ h => h) (Or.inl ⟨by rfl, ?rc18⟩) (by assumption) ?_
            case rc18 => (intro w hSw; (try dsimp only at hSw); (go_simp <;> with_reducible rfl))
            try simp only [Act.put, List.setIfInBounds_toArray, List.set_cons_zero, List.set_cons_succ]
            refine wpAnyH_take (i := 18) (oi := { dst := some 107, op := Go.Op.pick (Go.Operand.tmp 102) (Go.Operand.tmp 106) (Go.Operand.const (Go.Value.bool false)), type := 4, pos := "law.go:211", after := #[{ on := 13, ground := Go.Ground.data }, { on := 17, ground := Go.Ground.data }], guard := none }) (v := ?vc19) rfl (by kernel_rfl) (by kernel_rfl) (by kernel_rfl) (fun _ _ _ h => h) (Or.inl ⟨by rfl, ?rc19⟩) (by assumption) ?_
            case rc19 => (intro w hSw; (try dsimp only at hSw); (go_simp <;> with_reducible rfl))
            try simp only [Act.put, List.setIfInBounds_toArray, List.set_cons_zero, List.set_cons_succ]
            refine wpAnyH_take (i := 19) (oi := { dst := some 6, op := Go.Op.assign (Go.Operand.tmp 107), type := 4, pos := "law.go:211", after := #[{ on := 18, ground := Go.Ground.data }, { on := 15, ground := Go.Ground.chain }, { on := 0, ground := Go.Ground.phase }, { on := 1, ground := Go.Ground.phase }, { on := 2, ground := Go.Ground.phase }, { on := 3, ground := Go.Ground.phase }, { on := 4, ground := Go.Ground.phase }, { on := 5, ground := Go.Ground.phase }, { on := 6, ground := Go.Ground.phase }, { on := 7, ground := Go.Ground.phase }, { on := 8, ground := Go.Ground.phase }, { on := 9, ground := Go.Ground.phase }, { on := 10, ground := Go.Ground.phase }, { on := 11, ground := Go.Ground.phase }, { on := 12, ground := Go.Ground.phase }, { on := 13, ground := Go.Ground.phase }, { on := 14, ground := Go.Ground.phase }, { on := 15, ground := Go.Ground.phase }, { on := 16, ground := Go.Ground.phase }, { on := 17, ground := Go.Ground.phase }, { on := 18, ground := Go.Ground.phase }], guard := none }) (v := ?vc20) rfl (by kernel_rfl) (by kernel_rfl) (by kernel_rfl) (fun _ _ _ h => h) (Or.inl ⟨by rfl, ?rc20⟩) (by assumption) ?_
            case rc20 => (intro w hSw; (try dsimp only at hSw); (go_simp <;> with_reducible rfl))
            try simp only [Act.put, List.setIfInBounds_toArray, List.set_cons_zero, List.set_cons_succ]
            refine wpAnyH_done (by kernel_rfl) ?_ _
            have QG := Lib.hid (HG1.out.trans (HA5.out.grown.trans h16.1))
            clear h16
            go_wp2
            go_ret
            exact ⟨rfl, QG.out⟩
end Go.Proofs.Ytkihencimbdoiaa
