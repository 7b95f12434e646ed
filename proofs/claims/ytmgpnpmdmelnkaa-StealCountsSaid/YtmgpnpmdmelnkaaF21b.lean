import Derived.Test.YtmgpnpmdmelnkaaM21
import Derived.WalkKit
import Derived.ProofKit
import Derived.LoopTactic
import Derived.Outline
import Derived.WalkSpells
import Derived.WalkLawsBesides
import Derived.Lib.Hide
import Derived.Deep.LoopGhost
import Derived.Deep.QuietTactic
import Derived.BigQuiet
import Derived.ShutString
import Derived.IntWalk
import Derived.Lib.MinMax
import Derived.BigQuiet
import Derived.Deep.RegionWith
import Derived.Deep.RegionHeld3
namespace Go.Proofs.Ytmgpnpmdmelnkaa
open Go.ChangeShapes Go.WideShapes Go.ChangeAt Go.RowKit
set_option linter.unusedVariables false
set_option linter.unusedSimpArgs false
def zMeter : Value := .agg (Array.replicate 65 (.int .i64 0))
theorem zero_meter (w : World) : (zeroValue 51).run Try.prog w = .ok zMeter w := by kernel_rfl
theorem clear_m (n : Nat) (h : n ≤ 4) (p : Nat) (ty : TypeId) (w : World) (hc : ∀ j, j < n * 65 → (w.cell? ⟨p, 0 + j, none⟩).isSome = true) (hf : ∀ j, w.frozen? ⟨p, 0 + j, none⟩ = false) :
    (Builtin.clear_ #[45] ty #[.slice (some ⟨p, 0, none⟩) n n]).run Try.prog w = .ok (.tuple #[]) (w.setCells p 0 (List.replicate (n * 65) (.int .i64 0))) := by
  rcases (show n = 0 ∨ ∃ m, n = m + 1 by rcases n with _ | m; exact .inl rfl; exact .inr ⟨m, rfl⟩) with rfl | ⟨m, rfl⟩
  · kernel_rfl
  · refine run_clear_k w 45 51 ty zMeter Try.underlying45 zero_meter m _ ?_ (fun v hv => by rw [(List.mem_replicate.1 hv).2]; rfl) p 0 (m + 1) (fun j hj => hc j (by simpa using hj)) (fun j hj => hf j)
    rcases (show m = 0 ∨ m = 1 ∨ m = 2 ∨ m = 3 by omega) with rfl | rfl | rfl | rfl <;> kernel_rfl
def resetB (d : Brd) : Brd := ⟨d.least, d.span, d.n, fun _ _ => 0, fun _ => 0⟩
set_option maxRecDepth 100000 in
set_option maxHeartbeats 1000000 in
theorem bdReset_any {b p : Nat} {d : Brd} (w : World) (h : BdIs w b p d) :
    Calls Try.prog 11 #[.pointer (some ⟨b, 0, none⟩)] w fun e w' => e = .returned (.tuple #[]) ∧ BdTo b p w (resetB d) w' := by
  have c2 := h.top.cell (i := 2) rfl
  obtain ⟨cs, h1, h2, _, _⟩ := h.row
  have hcl := fun ty => clear_m d.n h.n p ty w (fun j hj => by rw [Nat.zero_add, h1.cell (i := j) (Array.getElem?_eq_getElem (by omega))]; rfl) (fun j => h1.free _)
  have HT : Hid (BdTo b p w (resetB d) (w.setCells p 0 (List.replicate (d.n * 65) (.int .i64 0)))) := by
    obtain ⟨c2, hc2, z2⟩ := heap_setCells (List.replicate (d.n * 65) (.int .i64 0)) 0 w cs h1
    have hg := grown_cells p (List.replicate (d.n * 65) (.int .i64 0)) 0 w
    have hall : ∀ i, i < d.n * 65 → c2[i]? = some (.int .i64 0) := fun i hi => by
      have h4 := World.cell?_setCells_in p (List.replicate (d.n * 65) (.int .i64 0)) 0 w (fun j hj => by
        rw [List.length_replicate] at hj
        rw [Nat.zero_add, h1.cell (i := j) (Array.getElem?_eq_getElem (by omega))]; rfl) i (by rw [List.length_replicate]; exact hi)
      rw [Nat.zero_add, cell_of_row _ p i c2 _ _ hc2] at h4
      rw [h4]; simp
    refine Lib.hid ⟨⟨(hg.block b h.top.lt (fun e => h.ne (Option.some.inj e))).trans h.top, h.ne, ⟨c2, hc2, by rw [z2, h2]; rfl, fun r i hr hi => ?_, fun r hr => ?_⟩, h.n, fun _ _ => by simp [resetB], fun _ => by simp [resetB]⟩, ⟨hg.os, hg.tape, hg.output, hg.size, fun k hk hp _ => hg.block k hk (fun e => hp (Option.some.inj e))⟩⟩
    · have : d.n = (resetB d).n := rfl
      exact hall _ (by omega)
    · have : d.n = (resetB d).n := rfl
      exact hall _ (by omega)
  clear h h1 h2
  generalize w.setCells p 0 (List.replicate (d.n * 65) (.int .i64 0)) = w2 at *
  generalize d.n = n at *
  go_enter Try.func11, Try.ntmps11
  go_wp2
  go_end0
  exact ⟨rfl, HT.out⟩
theorem near_reset {d : Brd} {l s n j : Nat} (h : Near21 d l s n j) : Near21 (resetB d) l s n j := ⟨h.least, h.span, h.n, fun _ => Nat.zero_le _⟩
theorem holds_reset (d : Brd) : Holds21 (resetB d) [] := ⟨fun r _ => ⟨rfl, fun j h => by simp [flT] at h⟩, fun x hx => by simp at hx⟩
def encT (x : Tch) : List Value := [.int .i64 x.K, .int .i64 x.R, .int .i64 x.T]
theorem encT_len (x : Tch) : (encT x).length = 3 := rfl
theorem encT_one (x : Tch) : ∀ v ∈ encT x, v.oneCell' = true := by
  intro v hv
  simp only [encT, List.mem_cons, List.not_mem_nil, or_false] at hv
  rcases hv with rfl | rfl | rfl <;> rfl
theorem trow_at {w : World} {base k : Nat} {v : Value} {P : List Tch} (h : w.ownsRow base 34 3 v P.length (rcells encT P)) (hk : k < P.length) :
    ∃ g c, v = .slice (some ⟨g, 0, none⟩) P.length c ∧ w.cell? ⟨g, k * 3 + 1, none⟩ = some (.int .i64 P[k].R) ∧ w.cell? ⟨g, k * 3 + 2, none⟩ = some (.int .i64 P[k].T) := by
  obtain ⟨a, c, rfl, ⟨_, h0⟩ | ⟨g, rfl, _, hc⟩⟩ := ownsRow_slice h
  · omega
  · exact ⟨g, c, rfl, hc (k * 3 + 1) _ (by rw [rcells_at encT_len P k hk 1 (by omega)]; rfl), hc (k * 3 + 2) _ (by rw [rcells_at encT_len P k hk 2 (by omega)]; rfl)⟩
theorem drop_yes {P : List Tch} {k : Nat} {r now s : Int} (hk : k < P.length) (h : P[k].R = r) : (flT (P.drop k) r).length = (flT (P.drop (k + 1)) r).length + 1 ∧ (flT (P.drop k) r).countP (fun x => hitT x now s) = (flT (P.drop (k + 1)) r).countP (fun x => hitT x now s) + (if hitT P[k].T now s then 1 else 0) := by
  rw [List.drop_eq_getElem_cons hk, flT_cons_yes h]
  exact ⟨rfl, by rw [List.countP_cons]⟩
theorem drop_no {P : List Tch} {k : Nat} {r now s : Int} (hk : k < P.length) (h : P[k].R ≠ r) : (flT (P.drop k) r).length = (flT (P.drop (k + 1)) r).length ∧ (flT (P.drop k) r).countP (fun x => hitT x now s) = (flT (P.drop (k + 1)) r).countP (fun x => hitT x now s) := by
  rw [List.drop_eq_getElem_cons hk, flT_cons_no h]
  exact ⟨rfl, rfl⟩
set_option maxRecDepth 100000 in
set_option maxHeartbeats 2000000 in
theorem lawCount_any {base : Nat} {v : Value} {P : List Tch} (r now s : Int) (w : World) (h : w.ownsRow base 34 3 v P.length (rcells encT P)) (hT : ∀ x ∈ P, 0 ≤ x.T ∧ x.T ≤ 1073741824) (hn : 0 ≤ now ∧ now ≤ 1073741824) (hs : 1 ≤ s ∧ s ≤ 1024) (hl : P.length ≤ 150) :
    Calls Try.prog 13 #[v, .int .i64 r, .int .i64 now, .int .i64 s] w fun e w' => e = .returned (.int .i64 (lawC P r now s : Nat)) ∧ w = w' := by
  have HA := Lib.hid (fun k (hk : k < P.length) => trow_at h hk)
  have HB := Lib.hid (fun k (hk : k < P.length) => hT _ (List.getElem_mem hk))
  have HY := Lib.hid (fun k (hk : k < P.length) (e : P[k].R = r) => drop_yes (now := now) (s := s) hk e)
  have HN := Lib.hid (fun k (hk : k < P.length) (e : P[k].R ≠ r) => drop_no (now := now) (s := s) hk e)
  have HE := Lib.hid (fun m => lawC_end (P := P) (r := r) (now := now) (s := s) (m := m))
  have H0 : Hid ((flT (P.drop P.length) r).length = 0 ∧ (flT (P.drop P.length) r).countP (fun x => hitT x now s) = 0) := Lib.hid (by simp [flT])
  have HC := Lib.hid (fun m => List.countP_le_length (p := fun x => hitT x now s) (l := flT (P.drop m) r))
  generalize lawC P r now s = res at *
  generalize hSN : (fun m => (flT (P.drop m) r).length) = SN at *
  generalize hCN : (fun m => (flT (P.drop m) r).countP (fun x => hitT x now s)) = CN at *
  have hSN2 : ∀ m, (flT (P.drop m) r).length = SN m := fun m => by rw [← hSN]
  have hCN2 : ∀ m, (flT (P.drop m) r).countP (fun x => hitT x now s) = CN m := fun m => by rw [← hCN]
  simp only [hSN2, hCN2] at HY HN HE H0 HC
  obtain ⟨a, cap, rfl, _⟩ := ownsRow_slice h
  clear h hT hSN hCN hSN2 hCN2
  go_enter Try.func13, Try.ntmps13
  go_wp2
  go_loopw [9, 10, 11] (fun n c i wr => ∃ (m : Nat) (z : Int), m ≤ P.length ∧ z = (m : Int) - 1 ∧ i = .int .i64 z ∧ c = .int .i64 (SN m : Nat) ∧ n = .int .i64 (CN m : Nat) ∧ SN m ≤ 64 ∧ wr = w) (fun _ _ i _ => (intOf i + 1).toNat)
  case atStart => exact ⟨P.length, _, Nat.le_refl _, rfl, rfl, by rw [H0.out.1]; rfl, by rw [H0.out.2]; rfl, by rw [H0.out.1]; omega, rfl⟩
  case round =>
    obtain ⟨m, z, hm, hz, rfl, rfl, rfl, h64, rfl⟩ := hrel
    rcases m with _ | k
    · have hz0 : z < 0 := by omega
      clear hz
      have := HE.out 0 (.inl rfl) h64
      rw [this]
      clear this
      generalize SN 0 = c0 at *
      go_wp2
      go_ret
      exact ⟨rfl, rfl⟩
    · obtain rfl : z = (k : Int) := by omega
      clear hz
      have HCk := HC.out (k + 1)
      by_cases h6 : SN (k + 1) = 64
      · have := HE.out (k + 1) (.inr h6) h64
        rw [this, h6]
        clear this h6 h64 HCk
        go_wp2
        go_ret
        exact ⟨rfl, rfl⟩
      · obtain ⟨g, cc, hv, c1, c2⟩ := HA.out k (by omega)
        have hb := HB.out k (by omega)
        simp only [Value.slice.injEq] at hv
        obtain ⟨rfl, _, rfl⟩ := hv
        have h6' : SN (k + 1) < 64 := by omega
        by_cases e : P[k].R = r
        · have hy := HY.out k (by omega) e
          rw [e] at c1
          have HYk := Lib.hid hy
          clear hy e h6
          have hw : IntKind.i64.wrap (now - s) = now - s := IntWalk.i64_in _ (by omega)
          have hq : hitT P[k].T now s = decide (P[k].T ≤ now ∧ now - P[k].T < s) := rfl
          generalize P[k].T = x at *
          rw [hq] at HYk
          clear hq
          generalize hc : SN (k + 1) = c at *
          generalize hcn : CN (k + 1) = n at *
          clear hc hcn
          by_cases h2 : x ≤ now
          · by_cases h3 : now - s < x
            · rw [decide_eq_true ⟨h2, by omega⟩, if_pos rfl] at HYk
              go_wp2
              exact ⟨⟨k, _, by omega, rfl, rfl, by rw [HYk.out.1]; simp, by rw [HYk.out.2]; simp, by rw [HYk.out.1]; omega, trivial⟩, by simp [intOf]⟩
            · rw [decide_eq_false (by omega), if_neg (by simp)] at HYk
              go_wp2
              exact ⟨⟨k, _, by omega, rfl, rfl, by rw [HYk.out.1]; simp, by rw [HYk.out.2]; simp, by rw [HYk.out.1]; omega, trivial⟩, by simp [intOf]⟩
          · rw [decide_eq_false (by omega), if_neg (by simp)] at HYk
            go_wp2
            exact ⟨⟨k, _, by omega, rfl, rfl, by rw [HYk.out.1]; simp, by rw [HYk.out.2]; simp, by rw [HYk.out.1]; omega, trivial⟩, by simp [intOf]⟩
        · have hy := HN.out k (by omega) e
          have e1 : (P[k].R != r) = true := by simpa using e
          have HYk := Lib.hid hy
          clear hy e h6
          generalize P[k].R = x at *
          generalize hc : SN (k + 1) = c at *
          generalize hcn : CN (k + 1) = n at *
          clear hc hcn
          go_wp2
          exact ⟨⟨k, _, by omega, rfl, rfl, by rw [HYk.out.1], by rw [HYk.out.2], by rw [HYk.out.1]; omega, trivial⟩, by simp [intOf]⟩
end Go.Proofs.Ytmgpnpmdmelnkaa
