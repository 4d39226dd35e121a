/- Whether lists of rules are ok, in the program and in the specification; and the exact law. The conditions stand at each theorem. -/
import Derived.Test.YtbimfhlmcdpnmaaDoorRulB
import Derived.Test.YtbimfhlmcdpnmaaDoorFst
namespace Go.Proofs.YtbimfhlmcdpnmaaDoor
open Go.RowKit Go.LatT Go.BlockM Go.OpnT
set_option linter.unusedVariables false
set_option linter.unusedSimpArgs false
/-- The rule at a place is not ok. -/
def rbad (E : Nat → Nat → Int) (i : Nat) : Bool := !rokB (E i 0) (E i 1) (E i 2) (E i 3) (E i 4) (E i 5) (E i 6) (E i 7)
set_option maxHeartbeats 1000000 in
set_option maxRecDepth 100000 in
theorem idxRule (bb off len cap : Nat) (E : Nat → Nat → Int) (w : World) (hlt : bb < w.heap.size) (hc : ∀ i, i < len → ∀ j, j < 8 → w.cell? ⟨bb, off + i * 8 + j, none⟩ = some (.int .i64 (E i j))) (hl : len ≤ 1048576) :
    Calls Tryd.prog 58 #[.slice (some ⟨bb, off, none⟩) len cap, .func (.func 36) #[] #[]] w fun e w' => ∃ v, e = .returned (.int .i64 v) ∧ IsFirst (rbad E) (fun i => (i : Int)) len v ∧ Below w.heap.size w w' := by
  have HC := hid_in hc
  clear hc
  go_enter Tryd.func58, Tryd.ntmps58
  go_wp2_with fail
  go_loopw [8] (fun v wr => ∃ k : Nat, k ≤ len ∧ v = .int .i64 (k : Int) ∧ Hid (Below w.heap.size w wr ∧ ∀ i, i < k → rbad E i = false)) (fun v _ => len - (intOf v).toNat)
  case atStart => exact ⟨0, Nat.zero_le _, rfl, by show _ ∧ _; exact ⟨Below.refl _ _, fun i hi => by omega⟩⟩
  case round =>
    obtain ⟨k, hk, rfl, HW⟩ := hrel
    by_cases hlt' : k < len
    · have hd : (k : Int) < (len : Int) := by omega
      have hg := fun j hj => ((bcell HW.out.1).1 bb (off + k * 8 + j) hlt).trans (HC.out k hlt' j hj)
      have g0 : wr.cell? ⟨bb, off + k * 8, none⟩ = _ := hg 0 (by omega)
      have g1 := hg 1 (by omega); have g2 := hg 2 (by omega); have g3 := hg 3 (by omega); have g4 := hg 4 (by omega); have g5 := hg 5 (by omega); have g6 := hg 6 (by omega); have g7 := hg 7 (by omega)
      clear hg
      obtain ⟨v, hv⟩ : ∃ v, rbad E k = v := ⟨_, rfl⟩
      have V := hid_in hv
      clear hv
      cases v
      · go_wp2_with fail
        refine (notOk_any (E k 0) (E k 1) (E k 2) (E k 3) (E k 4) (E k 5) (E k 6) (E k 7) _ _ V.out).mono ?_
        rintro e w1 ⟨rfl, hb1⟩
        go_wp2_with fail
        refine ⟨⟨k + 1, by omega, by simp, ?_⟩, by simp [intOf]; omega⟩
        show _ ∧ _
        refine ⟨below_later HW.out.1 hb1, fun i hi => ?_⟩
        by_cases hik : i < k
        · exact HW.out.2 i hik
        · rw [show i = k by omega]; exact V.out
      · go_wp2_with fail
        refine (notOk_any (E k 0) (E k 1) (E k 2) (E k 3) (E k 4) (E k 5) (E k 6) (E k 7) _ _ V.out).mono ?_
        rintro e w1 ⟨rfl, hb1⟩
        go_wp2_with fail
        go_ret
        exact ⟨_, rfl, .inl ⟨k, hlt', V.out, HW.out.2, rfl⟩, below_later HW.out.1 hb1⟩
    · have hd : decide ((k : Int) < (len : Int)) = false := by simp; omega
      have e : k = len := by omega
      have HE := hid_in e
      clear e
      go_wp2_with fail
      go_ret
      exact ⟨_, rfl, .inr ⟨fun i hi => HW.out.2 i (by rw [HE.out]; exact hi), rfl⟩, HW.out.1⟩
set_option maxHeartbeats 1000000 in
set_option maxRecDepth 100000 in
theorem idxRule_any (a : Option Addr) (len cap : Nat) (E : Nat → Nat → Int) (w : World) (hT : Tab w a len 8 E) (hl : len ≤ 1048576) :
    Calls Tryd.prog 58 #[.slice a len cap, .func (.func 36) #[] #[]] w fun e w' => ∃ v, e = .returned (.int .i64 v) ∧ IsFirst (rbad E) (fun i => (i : Int)) len v ∧ Below w.heap.size w w' := by
  rcases hT with rfl | ⟨bb, off, rfl, h1, k1⟩
  · go_enter Tryd.func58, Tryd.ntmps58
    go_wp2_with fail
    refine wp_loop_rounds 1 ?_
    rw [rounds_succ]
    go_wp2_with fail
    go_ret
    exact ⟨_, rfl, .inr ⟨fun i hi => by omega, rfl⟩, Below.refl _ _⟩
  · exact idxRule bb off len cap E w h1 k1 hl
theorem IsFirst.any {p : Nat → Bool} {n : Nat} {v : Int} (h : IsFirst p (fun i => (i : Int)) n v) (m : Nat) (hm : n ≤ m) : AllOk p n m (!decide (0 ≤ v)) := by
  rcases h with ⟨i, hi, hp, _, rfl⟩ | ⟨hn, rfl⟩
  · simp; exact AllOk.no hi hp
  · have := AllOk.yes (m := m) hn
    simpa [hm] using this
set_option maxHeartbeats 1000000 in
set_option maxRecDepth 100000 in
theorem anyRule_any (a : Option Addr) (len cap : Nat) (E : Nat → Nat → Int) (w : World) (hT : Tab w a len 8 E) (hl : len ≤ 8) :
    Calls Tryd.prog 35 #[.slice a len cap, .func (.func 36) #[] #[]] w fun e w' => ∃ v, e = .returned (.bool v) ∧ AllOk (rbad E) len 8 (!v) ∧ Below w.heap.size w w' := by
  have HT := hid_in hT
  clear hT
  go_enter Tryd.func35, Tryd.ntmps35
  go_wp2_with fail
  refine (idxRule_any a len cap E _ HT.out (by omega)).mono ?_
  rintro e w1 ⟨v, rfl, F, hb⟩
  have F' := hid_in (F.any 8 hl)
  clear F
  go_wp2_with fail
  go_ret
  exact ⟨_, rfl, F'.out, hb⟩
set_option maxHeartbeats 1000000 in
set_option maxRecDepth 100000 in
theorem rulesOkI (a : Option Addr) (len cap : Nat) (E : Nat → Nat → Int) (w : World) (hT : Tab w a len 8 E) (hl : len ≤ 1048576) :
    Calls Tryd.prog 17 #[.slice a len cap] w fun e w' => ∃ v, e = .returned (.bool v) ∧ AllOk (rbad E) len 8 v ∧ Below w.heap.size w w' := by
  have HT := hid_in hT
  clear hT
  by_cases h8 : len ≤ 8
  · have hd : (len : Int) ≤ 8 := by omega
    go_enter Tryd.func17, Tryd.ntmps17
    go_wp2_with fail
    refine (anyRule_any a len cap E _ HT.out h8).mono ?_
    rintro e w1 ⟨v, rfl, F, hb⟩
    have F' := hid_in F
    clear F
    go_wp2_with fail
    go_ret
    exact ⟨_, rfl, F'.out, hb⟩
  · have hd : decide ((len : Int) ≤ 8) = false := by simp; omega
    go_enter Tryd.func17, Tryd.ntmps17
    go_wp2_with fail
    go_ret
    exact ⟨_, rfl, by constructor <;> intro h; cases h; omega, Below.refl _ _⟩
set_option maxHeartbeats 1000000 in
set_option maxRecDepth 100000 in
theorem rulesOkS_some (bb off len cap : Nat) (E : Nat → Nat → Int) (w : World) (hlt : bb < w.heap.size) (hc : ∀ i, i < len → ∀ j, j < 8 → w.cell? ⟨bb, off + i * 8 + j, none⟩ = some (.int .i64 (E i j))) (hl : len ≤ 1048576) :
    Calls Tryd.prog 14 #[.slice (some ⟨bb, off, none⟩) len cap] w fun e w' => ∃ v, e = .returned (.bool v) ∧ AllOk (rbad E) len 8 v ∧ Below w.heap.size w w' := by
  have HC := hid_in hc
  clear hc
  go_enter Tryd.func14, Tryd.ntmps14
  go_wp2_with fail
  go_loopw [3] (fun v wr => ∃ k : Nat, k ≤ len ∧ v = .int .i64 (k : Int) ∧ Hid (Below w.heap.size w wr ∧ ∀ i, i < k → rbad E i = false)) (fun v _ => len - (intOf v).toNat)
  case atStart => exact ⟨0, Nat.zero_le _, rfl, by show _ ∧ _; exact ⟨Below.refl _ _, fun i hi => by omega⟩⟩
  case round =>
    obtain ⟨k, hk, rfl, HW⟩ := hrel
    by_cases hlt' : k < len
    · have hd : (k : Int) < (len : Int) := by omega
      have hg := fun j hj => ((bcell HW.out.1).1 bb (off + k * 8 + j) hlt).trans (HC.out k hlt' j hj)
      have g0 : wr.cell? ⟨bb, off + k * 8, none⟩ = _ := hg 0 (by omega)
      have g1 := hg 1 (by omega); have g2 := hg 2 (by omega); have g3 := hg 3 (by omega); have g4 := hg 4 (by omega); have g5 := hg 5 (by omega); have g6 := hg 6 (by omega); have g7 := hg 7 (by omega)
      clear hg
      obtain ⟨v, hv⟩ : ∃ v, rokB (E k 0) (E k 1) (E k 2) (E k 3) (E k 4) (E k 5) (E k 6) (E k 7) = v := ⟨_, rfl⟩
      have V := hid_in hv
      clear hv
      cases v
      · go_wp2_with fail
        refine (l4Ok_any (E k 0) (E k 1) (E k 2) (E k 3) (E k 4) (E k 5) (E k 6) (E k 7) _ _ V.out).mono ?_
        rintro e w1 ⟨rfl, hb1⟩
        go_wp2_with fail
        go_ret
        exact ⟨_, rfl, AllOk.no hlt' (by simp [rbad, V.out]), below_later HW.out.1 hb1⟩
      · go_wp2_with fail
        refine (l4Ok_any (E k 0) (E k 1) (E k 2) (E k 3) (E k 4) (E k 5) (E k 6) (E k 7) _ _ V.out).mono ?_
        rintro e w1 ⟨rfl, hb1⟩
        go_wp2_with fail
        refine ⟨⟨k + 1, by omega, by simp, ?_⟩, by simp [intOf]; omega⟩
        show _ ∧ _
        refine ⟨below_later HW.out.1 hb1, fun i hi => ?_⟩
        by_cases hik : i < k
        · exact HW.out.2 i hik
        · rw [show i = k by omega]; simp [rbad, V.out]
    · have hd : decide ((k : Int) < (len : Int)) = false := by simp; omega
      have e : k = len := by omega
      have HE := hid_in e
      clear e
      go_wp2_with fail
      go_ret
      refine ⟨_, rfl, ?_, HW.out.1⟩
      have := AllOk.yes (m := 8) (fun i hi => HW.out.2 i (by rw [HE.out]; exact hi))
      rw [show decide ((len : Int) ≤ 8) = decide (len ≤ 8) by rw [Bool.eq_iff_iff]; simp; omega]
      exact this
set_option maxHeartbeats 1000000 in
set_option maxRecDepth 100000 in
theorem rulesOkS (a : Option Addr) (len cap : Nat) (E : Nat → Nat → Int) (w : World) (hT : Tab w a len 8 E) (hl : len ≤ 1048576) :
    Calls Tryd.prog 14 #[.slice a len cap] w fun e w' => ∃ v, e = .returned (.bool v) ∧ AllOk (rbad E) len 8 v ∧ Below w.heap.size w w' := by
  rcases hT with rfl | ⟨bb, off, rfl, h1, k1⟩
  · go_enter Tryd.func14, Tryd.ntmps14
    go_wp2_with fail
    refine wp_loop_rounds 1 ?_
    rw [rounds_succ]
    go_wp2_with fail
    go_ret
    exact ⟨_, rfl, AllOk.yes (fun i hi => by omega), Below.refl _ _⟩
  · exact rulesOkS_some bb off len cap E w h1 k1 hl
end Go.Proofs.YtbimfhlmcdpnmaaDoor
