/- What each function of blocks answers, in the program and in the specification, as contracts: the answer, and that nothing which was there has turned. The conditions stand at each theorem. -/
import Derived.Test.YtbcehchjinlacaaBlkG
import Derived.Test.YtbcehchjinlacaaBlkH
import Derived.Test.YtbcehchjinlacaaRegE
import Derived.Test.YtbcehchjinlacaaMath
import Derived.WalkKit
import Derived.WalkSpells
import Derived.WalkLawsBesides
import Derived.BigQuiet
import Derived.Deep.RegionWith
namespace Go.Proofs.Ytbcehchjinlacaa
open Go.RowKit Go.LatT Go.BlockM Go.RegE
set_option linter.unusedVariables false
set_option linter.unusedSimpArgs false
theorem halves_both (a b : Int) : ∃ (p0 q0 p1 q1 : Int) (v : Bool),
    (∀ w, Calls Try.prog 31 #[.agg #[.int .i64 a, .int .i64 b]] w fun e w' => e = .returned (.tuple #[.agg #[.int .i64 p0, .int .i64 q0], .agg #[.int .i64 p1, .int .i64 q1], .bool v]) ∧ Below w.heap.size w w') ∧
    (∀ w, Calls Try.prog 21 #[.agg #[.int .i64 a, .int .i64 b]] w fun e w' => e = .returned (.tuple #[.agg #[.int .i64 p0, .int .i64 q0], .agg #[.int .i64 p1, .int .i64 q1], .bool v]) ∧ Below w.heap.size w w') := by
  by_cases h : okB a b = true ∧ b ≠ 32
  · exact ⟨_, _, _, _, _, fun w => halvesS_yes a b w h.1 h.2, fun w => halvesI_yes a b w h.1 h.2⟩
  · have h' : okB a b = false ∨ b = 32 := by
      by_cases hb : b = 32
      · exact .inr hb
      · exact .inl (by cases ho : okB a b; rfl; exact absurd ⟨ho, hb⟩ h)
    exact ⟨_, _, _, _, _, fun w => halvesS_no a b w h', fun w => halvesI_no a b w h'⟩
set_option maxHeartbeats 1000000 in
theorem walk_FnExactBlockHalves (a b : Int) (_ : (Lit.int .i64 a).wf = true) (_ : (Lit.int .i64 b).wf = true) (w : World) :
    Calls Try.prog 13 #[.agg #[.int .i64 a, .int .i64 b]] w fun e w' => e = .returned (.bool true) ∧ Below w.heap.size w w' := by
  obtain ⟨p0, q0, p1, q1, v, hS, hI⟩ := halves_both a b
  have hS1 := hid_in hS
  have hI1 := hid_in hI
  clear hS hI
  go_enter Try.func13, Try.ntmps13
  go_wp2_with fail
  refine (toBlock_any a b _).mono ?_
  rintro e w1 ⟨rfl, hb1⟩
  obtain ⟨hc1, hf1⟩ := bcell hb1
  go_wp2_with fail
  refine (hS1.out _).mono ?_
  rintro e w2 ⟨rfl, hq2⟩
  have hb2 := below_later hb1 hq2
  clear hq2 hc1 hf1
  obtain ⟨hc2, hf2⟩ := bcell hb2
  have e0 : w2.cell? ⟨w.heap.size, 0, none⟩ = some (.int .i64 a) := by rw [hc2 _ _ (by simp)]; try go_simp
  have e1 : w2.cell? ⟨w.heap.size, 1, none⟩ = some (.int .i64 b) := by rw [hc2 _ _ (by simp)]; try go_simp
  have hs2 : w.heap.size < w2.heap.size := by have := hb2.size; simp at this; omega
  have hz2 := below_under hb2
  clear hc2 hf2 hb2 hb1
  have n1 : ¬ w.heap.size = w2.heap.size := by omega
  have n2 : ¬ w.heap.size = w2.heap.size + 1 := by omega
  go_wp2_with fail
  refine (toBlock_any a b _).mono ?_
  rintro e w1 ⟨rfl, hb1⟩
  obtain ⟨hc1, hf1⟩ := bcell hb1
  go_wp2_with fail
  refine (hI1.out _).mono ?_
  rintro e w3 ⟨rfl, hq2⟩
  have hb3 := below_later hb1 hq2
  clear hq2 hc1 hf1
  obtain ⟨hc3, hf3⟩ := bcell hb3
  have o0 : w3.cell? ⟨w2.heap.size, 0, none⟩ = some (.int .i64 p0) := by rw [hc3 _ _ (by simp <;> omega)]; try go_simp
  have o1 : w3.cell? ⟨w2.heap.size, 1, none⟩ = some (.int .i64 q0) := by rw [hc3 _ _ (by simp <;> omega)]; try go_simp
  have o2 : w3.cell? ⟨w2.heap.size + 1, 0, none⟩ = some (.int .i64 p1) := by rw [hc3 _ _ (by simp <;> omega)]; try go_simp
  have o3 : w3.cell? ⟨w2.heap.size + 1, 1, none⟩ = some (.int .i64 q1) := by rw [hc3 _ _ (by simp <;> omega)]; try go_simp
  have hs3 : w2.heap.size + 1 < w3.heap.size := by have := hb3.size; simp at this; omega
  have hz3 := below_later hz2 (below_under (below_under hb3))
  clear hc3 hf3 hb3 hb1 hz2 e0 e1
  have m1 : w2.heap.size < w3.heap.size := by omega
  have m2 : w2.heap.size < w3.heap.size + 1 := by omega
  have m3 : w2.heap.size ≤ w3.heap.size := by omega
  have m4 : ¬ w2.heap.size = w3.heap.size := by omega
  have m5 : ¬ w2.heap.size + 1 = w3.heap.size := by omega
  have m6 : ¬ w2.heap.size = w3.heap.size + 1 := by omega
  go_wp2_with fail
  refine (eqBlock_any p0 q0 p0 q0 _ true (by simp)).mono ?_
  rintro e w1 ⟨rfl, hb1⟩
  obtain ⟨hc1, hf1⟩ := bcell hb1
  go_wp2_with fail
  refine (eqBlock_any p1 q1 p1 q1 _ true (by simp)).mono ?_
  rintro e w2 ⟨rfl, hq2⟩
  have hb2 := below_later hb1 hq2
  clear hq2 hc1 hf1
  obtain ⟨hc2, hf2⟩ := bcell hb2
  go_wp2_with fail
  go_ret
  exact ⟨rfl, below_later hz3 (below_under (below_under hb2))⟩
end Go.Proofs.Ytbcehchjinlacaa
