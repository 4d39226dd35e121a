/- What each function of blocks answers, in the program and in the specification, as contracts: the answer, and that nothing which was there has turned. The conditions stand at each theorem. -/
import Derived.Test.YtbcehchjinlacaaDrwF
import Derived.Test.YtbcehchjinlacaaBlkF
import Derived.Test.YtbcehchjinlacaaMathH
import Derived.Test.YtbcehchjinlacaaRegN
import Derived.Test.YtbcehchjinlacaaMath
import Derived.WalkKit
import Derived.WalkSpells
import Derived.WalkLawsBesides
import Derived.BigQuiet
import Derived.Deep.RegionWith
namespace Go.Proofs.Ytbcehchjinlacaa
open Go.RowKit Go.LatT Go.BlockM Go.RegN
set_option linter.unusedVariables false
set_option linter.unusedSimpArgs false
theorem halves_three (a b : Int) : ∃ (p0 q0 p1 q1 : Int) (v : Bool),
    (∀ w, Calls Try.prog 31 #[.agg #[.int .i64 a, .int .i64 b]] w fun e w' => e = .returned (.tuple #[.agg #[.int .i64 p0, .int .i64 q0], .agg #[.int .i64 p1, .int .i64 q1], .bool v]) ∧ Below w.heap.size w w') ∧
    (∀ w, Calls Try.prog 21 #[.agg #[.int .i64 a, .int .i64 b]] w fun e w' => e = .returned (.tuple #[.agg #[.int .i64 p0, .int .i64 q0], .agg #[.int .i64 p1, .int .i64 q1], .bool v]) ∧ Below w.heap.size w w') ∧
    (v = true → okB a b = true ∧ b ≤ 31 ∧ p0 = a ∧ q0 = b + 1 ∧ p1 = a + pw (32 - (b + 1)) ∧ q1 = b + 1) := by
  by_cases h : okB a b = true ∧ b ≠ 32
  · refine ⟨_, _, _, _, _, fun w => halvesS_yes a b w h.1 h.2, fun w => halvesI_yes a b w h.1 h.2, fun _ => ⟨h.1, ?_, rfl, rfl, rfl, rfl⟩⟩
    have := ok_of h.1; omega
  · have h' : okB a b = false ∨ b = 32 := by
      by_cases hb : b = 32
      · exact .inr hb
      · exact .inl (by cases ho : okB a b; rfl; exact absurd ⟨ho, hb⟩ h)
    exact ⟨_, _, _, _, _, fun w => halvesS_no a b w h', fun w => halvesI_no a b w h', fun h => by cases h⟩
set_option maxHeartbeats 8000000 in
theorem walk_FnBlockHalves (a0 : Option Addr) (len0 cap0 : Nat) (z0 : List Int) (w : World) (hrow : RowC w a0 len0 cap0 z0) :
    Calls Try.prog 6 #[.slice a0 len0 cap0] w fun e w' => e = .returned (.bool true) ∧ Below w.heap.size w w' := by
  by_cases hlen : (1048576 : Int) < (len0 : Int)
  · clear hrow
    go_enter Try.func6, Try.ntmps6
    go_wp2_with fail
    go_ret
    exact ⟨rfl, Below.refl _ _⟩
  · have HR := hid_in hrow
    clear hrow
    go_enter Try.func6, Try.ntmps6
    go_wp2_with fail
    refine (drawHalvesC a0 len0 cap0 z0 _ HR.out (by omega)).mono ?_
    rintro e w1 ⟨x, y, rfl, x0, x1, y0, y1, hb1⟩
    clear HR
    obtain ⟨p0, q0, p1, q1, v, hS, hI, hV⟩ := halves_three x y
    have hS1 := hid_in hS; have hI1 := hid_in hI; have hV1 := hid_in hV
    clear hS hI hV
    go_wp2_with fail
    refine (hI1.out _).mono ?_
    rintro e w2 ⟨rfl, hb2⟩
    obtain ⟨hc2, hf2⟩ := bcell hb2
    have c0 : w2.cell? ⟨w1.heap.size, 0, none⟩ = some (.int .i64 x) := by rw [hc2 _ _ (by simp)]; try go_simp
    have c1 : w2.cell? ⟨w1.heap.size, 1, none⟩ = some (.int .i64 y) := by rw [hc2 _ _ (by simp)]; try go_simp
    have hs2 : w1.heap.size < w2.heap.size := by have := hb2.size; simp at this; omega
    have z2 : Below w.heap.size w w2 := below_later hb1 (below_under hb2)
    clear hc2 hf2 hb2 hb1
    have m1 : ¬ w1.heap.size = w2.heap.size := by omega
    have m2 : ¬ w1.heap.size = w2.heap.size + 1 := by omega
    have m3 : w1.heap.size < w2.heap.size + 1 := by omega
    go_wp2_with fail
    refine (hS1.out _).mono ?_
    rintro e w3 ⟨rfl, hb3⟩
    obtain ⟨hc3, hf3⟩ := bcell hb3
    have g0 : w3.cell? ⟨w1.heap.size, 0, none⟩ = some (.int .i64 x) := by rw [hc3 _ _ (by simp; omega)]; go_simp
    have g1 : w3.cell? ⟨w1.heap.size, 1, none⟩ = some (.int .i64 y) := by rw [hc3 _ _ (by simp; omega)]; go_simp
    have h0 : w3.cell? ⟨w2.heap.size, 0, none⟩ = some (.int .i64 p0) := by rw [hc3 _ _ (by simp <;> omega)]; try go_simp
    have h1 : w3.cell? ⟨w2.heap.size, 1, none⟩ = some (.int .i64 q0) := by rw [hc3 _ _ (by simp <;> omega)]; try go_simp
    have i0 : w3.cell? ⟨w2.heap.size + 1, 0, none⟩ = some (.int .i64 p1) := by rw [hc3 _ _ (by simp <;> omega)]; try go_simp
    have i1 : w3.cell? ⟨w2.heap.size + 1, 1, none⟩ = some (.int .i64 q1) := by rw [hc3 _ _ (by simp <;> omega)]; try go_simp
    have hs3 : w2.heap.size + 1 < w3.heap.size := by have := hb3.size; simp at this; omega
    have z3 : Below w.heap.size w w3 := below_later z2 (below_under (below_under hb3))
    clear hc3 hf3 hb3 z2 c0 c1 m1 m2 m3
    have m1 : w2.heap.size < w3.heap.size := by omega
    have m2 : w2.heap.size < w3.heap.size + 1 := by omega
    have m3 : w2.heap.size ≤ w3.heap.size := by omega
    have m4 : ¬ w2.heap.size = w3.heap.size := by omega
    have m5 : ¬ w2.heap.size + 1 = w3.heap.size := by omega
    have m6 : ¬ w2.heap.size = w3.heap.size + 1 := by omega
    have m7 : ¬ w1.heap.size = w3.heap.size := by omega
    have m8 : ¬ w1.heap.size = w3.heap.size + 1 := by omega
    have m9 : w1.heap.size < w3.heap.size := by omega
    cases v
    · clear hS1 hI1 hV1
      go_wp2_with fail
      go_ret
      exact ⟨rfl, below_later (below_later z3 (below_box _ _)) (below_box _ _)⟩
    · obtain ⟨hok, hy31, rfl, hq0, hp1, hq1⟩ := hV1.out rfl
      clear hS1 hI1 hV1
      obtain rfl : q0 = q1 := by omega
      clear hq1
      have hk0 := half_ok0 hok hy31
      have hk1 := half_ok1 hok hy31
      obtain ⟨S, hS⟩ : ∃ S, S = pw (32 - (y + 1)) := ⟨_, rfl⟩
      have hp : 1 ≤ S := by rw [hS]; exact pw_pos (32 - (y + 1))
      have hp2 : S ≤ 4294967296 := by rw [hS]; exact pw_le (n := 32 - (y + 1)) (by have := ok_of hok; omega) (by have := ok_of hok; omega)
      have t1 : Hid (inBlk p0 y p0 (y + 1) = true) := by show _ = _; simp [inBlk, hok, hk0, half_in0 hy31]
      have t2 : Hid (inBlk p0 y (p0 + pw (32 - (y + 1))) (y + 1) = true) := by show _ = _; simp [inBlk, hok, hk1, half_in1 hy31]
      have t3 : Hid (meetB p0 (y + 1) (p0 + pw (32 - (y + 1))) (y + 1) = false) := by show _ = _; simp [meetB, half_apart0, half_apart1]
      have t4 : Hid ((if okB p0 (y + 1) then pw (32 - (y + 1)) else 0) = S) := by show _ = _; rw [hS]; simp [hk0]
      have t5 : Hid ((if okB (p0 + pw (32 - (y + 1))) (y + 1) then pw (32 - (y + 1)) else 0) = S) := by show _ = _; rw [hS]; simp [hk1]
      have t6 : Hid ((if okB p0 y then pw (32 - y) else 0) = 2 * S) := by show _ = _; rw [if_pos hok, pw_half hy31, hS]; omega
      have t7 : Hid (ovBase p0 (y + 1) (p0 + pw (32 - (y + 1))) (y + 1) = p0) := by
        show _ = _; unfold ovBase; rw [if_pos (by simp [hk0, hk1]), half_over hok hy31, Int.toNat_of_nonneg (ok_of hok).2.2.1]; exact fl_self hok
      have t8 : Hid (ovLen p0 (y + 1) (p0 + pw (32 - (y + 1))) (y + 1) = y) := by
        show _ = _; unfold ovLen; rw [if_pos (by simp [hk0, hk1]), half_over hok hy31, Int.toNat_of_nonneg (ok_of hok).2.2.1]
      have hgt : p0 < p1 := by rw [hp1, ← hS]; omega
      rw [← hp1] at t2 t3 t5 t7 t8
      rw [← hq0] at t1 t2 t3 t4 t5 t7 t8
      clear hok hk0 hk1 hp1 hS hq0
      go_wp2_with fail
      obtain ⟨W, hW⟩ : ∃ W, W = (w3.alloc (Obj.cells #[Value.int IntKind.i64 p0, Value.int IntKind.i64 q0] 24)).alloc (Obj.cells #[Value.int IntKind.i64 p1, Value.int IntKind.i64 q0] 24) := ⟨_, rfl⟩
      have zb : Below w3.heap.size w3 W := by rw [hW]; exact below_later (below_box _ _) (below_box _ _)
      obtain ⟨hcW, _⟩ := bcell zb
      have G0 : W.cell? ⟨w1.heap.size, 0, none⟩ = some (.int .i64 p0) := by rw [hcW _ _ m9]; exact g0
      have G1 : W.cell? ⟨w1.heap.size, 1, none⟩ = some (.int .i64 y) := by rw [hcW _ _ m9]; exact g1
      have I0 : W.cell? ⟨w2.heap.size, 0, none⟩ = some (.int .i64 p0) := by rw [hcW _ _ m1]; exact h0
      have I1 : W.cell? ⟨w2.heap.size, 1, none⟩ = some (.int .i64 q0) := by rw [hcW _ _ m1]; exact h1
      have J0 : W.cell? ⟨w2.heap.size + 1, 0, none⟩ = some (.int .i64 p1) := by rw [hcW _ _ hs3]; exact i0
      have J1 : W.cell? ⟨w2.heap.size + 1, 1, none⟩ = some (.int .i64 q0) := by rw [hcW _ _ hs3]; exact i1
      have L1 : w1.heap.size < W.heap.size := by have := zb.size; omega
      have L2 : w2.heap.size < W.heap.size := by have := zb.size; omega
      have L3 : w2.heap.size + 1 < W.heap.size := by have := zb.size; omega
      have zW : Below w.heap.size w W := below_later z3 zb
      rw [← hW]
      clear hW zb hcW g0 g1 h0 h1 i0 i1 z3 m1 m2 m3 m4 m5 m6 m7 m8 m9 hs2 hs3 hlen
      refine wp_region_lat (Below.refl _ _) (by kernel_rfl) (by kernel_rfl) ?_
      intro hne hcl
      repeat (go_big_quiet_step (first | (go_at_call_of 24 (Value.agg #[Value.int IntKind.i64 p1, Value.int IntKind.i64 q0]); exact lat_of (inI p0 y p1 q0 _ _ t2.out)) | (go_at_call 24; exact lat_of (inI p0 y p0 q0 _ _ t1.out)) | (go_at_call 22; exact lat_of (meetsI p0 q0 p1 q0 _ _ t3.out)) | (go_at_call_of 17 (Value.agg #[Value.int IntKind.i64 p1, Value.int IntKind.i64 q0]); exact lat_of (sizeI p1 q0 _ _ t5.out)) | (go_at_call_of 17 (Value.agg #[Value.int IntKind.i64 p0, Value.int IntKind.i64 q0]); exact lat_of (sizeI p0 q0 _ _ t4.out)) | (go_at_call 17; exact lat_of (sizeI p0 y _ _ t6.out)) | (go_at_call 27; exact lat_of (overI p0 q0 p1 q0 _ p0 y t7.out t8.out))))
      refine wpQuiet_nil ?_
      intro w1 hb1
      obtain ⟨hc1, hf1⟩ := bcell hb1
      clear hne hcl
      go_wp2
      go_ret
      exact ⟨rfl, below_later zW hb1⟩
end Go.Proofs.Ytbcehchjinlacaa
