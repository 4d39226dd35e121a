/- What each function of blocks answers, in the program and in the specification, as contracts: the answer, and that nothing which was there has turned. The conditions stand at each theorem. -/
import Derived.Test.YtbcehchjinlacaaBlkC
import Derived.Deep.RegionHeld3
import Derived.Deep.DrawnRows
import Derived.Test.YtbcehchjinlacaaLat
import Derived.Test.YtbcehchjinlacaaMath
import Derived.WalkKit
import Derived.WalkSpells
import Derived.WalkLawsBesides
import Derived.BigQuiet
import Derived.Deep.RegionWith
namespace Go.Proofs.Ytbcehchjinlacaa
open Go.RowKit Go.LatT Go.BlockM
set_option linter.unusedVariables false
set_option linter.unusedSimpArgs false
attribute [local go_sem ↓] Go.wp_at_zero Go.wp_at_succ
set_option maxHeartbeats 400000 in
theorem halvesS_no (a b : Int) (w : World) (h : okB a b = false ∨ b = 32) :
    Calls Try.prog 31 #[.agg #[.int .i64 a, .int .i64 b]] w fun e w' => e = .returned (.tuple #[.agg #[.int .i64 0, .int .i64 0], .agg #[.int .i64 0, .int .i64 0], .bool false]) ∧ Below w.heap.size w w' := by
  cases h1 : okB a b
  · have h2 := hid_in h1
    clear h1 h
    go_enter Try.func31, Try.ntmps31
    go_wp2_with fail
    refine (specOk a b _ _ h2.out).mono ?_
    rintro e w1 ⟨rfl, hb1⟩
    obtain ⟨hc1, hf1⟩ := bcell hb1
    go_wp2_with fail
    exact bodyPost_ret (v := .tuple #[.agg #[.int .i64 0, .int .i64 0], .agg #[.int .i64 0, .int .i64 0], .bool false]) (by simp [results, Try.results31, go_sem, hc1]) rfl
      ⟨rfl, ((((below_under (below_under (below_under hb1))).setCell (by simp) _).setCell (by simp) _).setCell (by simp; omega) _).setCell (by simp; omega) _⟩
  · have h2 := hid_in h1
    have h3 : (b == 32) = true := by simp [h1] at h; simp [h]
    clear h1 h
    go_enter Try.func31, Try.ntmps31
    go_wp2_with fail
    refine (specOk a b _ _ h2.out).mono ?_
    rintro e w1 ⟨rfl, hb1⟩
    obtain ⟨hc1, hf1⟩ := bcell hb1
    go_wp2_with fail
    exact bodyPost_ret (v := .tuple #[.agg #[.int .i64 0, .int .i64 0], .agg #[.int .i64 0, .int .i64 0], .bool false]) (by simp [results, Try.results31, go_sem, hc1]) rfl
      ⟨rfl, ((((below_under (below_under (below_under hb1))).setCell (by simp) _).setCell (by simp) _).setCell (by simp; omega) _).setCell (by simp; omega) _⟩
set_option maxHeartbeats 400000 in
theorem halvesI_no (a b : Int) (w : World) (h : okB a b = false ∨ b = 32) :
    Calls Try.prog 21 #[.agg #[.int .i64 a, .int .i64 b]] w fun e w' => e = .returned (.tuple #[.agg #[.int .i64 0, .int .i64 0], .agg #[.int .i64 0, .int .i64 0], .bool false]) ∧ Below w.heap.size w w' := by
  cases h1 : okB a b
  · have h2 := hid_in h1
    clear h1 h
    go_enter Try.func21, Try.ntmps21
    go_wp2_with fail
    refine (blockOkI a b _ _ h2.out).mono ?_
    rintro e w1 ⟨rfl, hb1⟩
    obtain ⟨hc1, hf1⟩ := bcell hb1
    go_wp2_with fail
    exact bodyPost_ret (v := .tuple #[.agg #[.int .i64 0, .int .i64 0], .agg #[.int .i64 0, .int .i64 0], .bool false]) (by simp [results, Try.results21, go_sem, hc1]) rfl
      ⟨rfl, ((((below_under (below_under (below_under hb1))).setCell (by simp) _).setCell (by simp) _).setCell (by simp; omega) _).setCell (by simp; omega) _⟩
  · have h2 := hid_in h1
    have h3 : (b == 32) = true := by simp [h1] at h; simp [h]
    clear h1 h
    go_enter Try.func21, Try.ntmps21
    go_wp2_with fail
    refine (blockOkI a b _ _ h2.out).mono ?_
    rintro e w1 ⟨rfl, hb1⟩
    obtain ⟨hc1, hf1⟩ := bcell hb1
    go_wp2_with fail
    exact bodyPost_ret (v := .tuple #[.agg #[.int .i64 0, .int .i64 0], .agg #[.int .i64 0, .int .i64 0], .bool false]) (by simp [results, Try.results21, go_sem, hc1]) rfl
      ⟨rfl, ((((below_under (below_under (below_under hb1))).setCell (by simp) _).setCell (by simp) _).setCell (by simp; omega) _).setCell (by simp; omega) _⟩
set_option maxHeartbeats 1000000 in
theorem halvesS_yes (a b : Int) (w : World) (h : okB a b = true) (hb : b ≠ 32) :
    Calls Try.prog 31 #[.agg #[.int .i64 a, .int .i64 b]] w fun e w' => e = .returned (.tuple #[.agg #[.int .i64 a, .int .i64 (b + 1)], .agg #[.int .i64 (a + pw (32 - (b + 1))), .int .i64 (b + 1)], .bool true]) ∧ Below w.heap.size w w' := by
  have h2 := hid_in h
  obtain ⟨a0, a1, b0, b1, _⟩ := ok_of h
  have h3 : (b == 32) = false := by simp [hb]
  have hb31 : b ≤ 31 := by omega
  have hp := pw_pos (32 - (b + 1))
  have hp2 := pw_le (n := 32 - (b + 1)) (by omega) (by omega)
  clear h hb
  go_enter Try.func31, Try.ntmps31
  go_wp2_with fail
  refine (specOk a b _ _ h2.out).mono ?_
  rintro e w1 ⟨rfl, hb1⟩
  obtain ⟨hc1, hf1⟩ := bcell hb1
  go_wp2_with fail
  have e0 : w1.cell? ⟨w.heap.size, 0, none⟩ = some (.int .i64 a) := by rw [hc1 _ _ (by simp <;> omega)]; go_simp
  have e1 : w1.cell? ⟨w.heap.size, 1, none⟩ = some (.int .i64 b) := by rw [hc1 _ _ (by simp <;> omega)]; go_simp
  have e2 : w1.cell? ⟨w.heap.size + 1, 0, none⟩ = some (.int .i64 0) := by rw [hc1 _ _ (by simp <;> omega)]; go_simp
  have e3 : w1.cell? ⟨w.heap.size + 1, 1, none⟩ = some (.int .i64 0) := by rw [hc1 _ _ (by simp <;> omega)]; go_simp
  have e4 : w1.cell? ⟨w.heap.size + 1 + 1, 0, none⟩ = some (.int .i64 0) := by rw [hc1 _ _ (by simp)]; try go_simp
  have e5 : w1.cell? ⟨w.heap.size + 1 + 1, 1, none⟩ = some (.int .i64 0) := by rw [hc1 _ _ (by simp)]; try go_simp
  have hw1 : IntKind.i64.wrap (b + 1) = b + 1 := wrap_i64_in _ (by omega) (by omega)
  have hw2 : IntKind.i64.wrap (a + pw (32 - (b + 1))) = a + pw (32 - (b + 1)) := wrap_i64_in _ (by omega) (by omega)
  have n1 : ¬ w.heap.size = w.heap.size + 1 := by omega
  have n2 : ¬ w.heap.size = w.heap.size + 1 + 1 := by omega
  have n3 : ¬ w.heap.size + 1 = w.heap.size := by omega
  have n4 : ¬ w.heap.size + 1 + 1 = w.heap.size := by omega
  have n5 : ¬ w.heap.size + 1 + 1 = w.heap.size + 1 := by omega
  have n6 : ¬ w.heap.size + 1 = w.heap.size + 1 + 1 := by omega
  go_region_held3 (fun w' => w'.cell? ⟨w.heap.size, 0, none⟩ = some (.int .i64 a) ∧ w'.cell? ⟨w.heap.size, 1, none⟩ = some (.int .i64 b)) (go_keep) (first | (go_at_call 46; refine (l1Size_any _ _ (by omega) (by omega)).mono ?_; rintro e w' ⟨rfl, rfl⟩))
  go_wp2
  exact bodyPost_ret (v := .tuple #[.agg #[.int .i64 a, .int .i64 (b + 1)], .agg #[.int .i64 (a + pw (32 - (b + 1))), .int .i64 (b + 1)], .bool true]) (by simp [results, Try.results31, go_sem, e2, e3, e4, e5, n5, n6]) rfl
    ⟨rfl, (((((below_under (below_under (below_under hb1))).setCell (by simp) _).setCell (by simp) _).setCell (by simp; omega) _).setCell (by simp; omega) _).drew⟩
end Go.Proofs.Ytbcehchjinlacaa
