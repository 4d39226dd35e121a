/- What the functions of one rule answer, in the program and in the specification, as contracts. The conditions stand at each theorem. -/
import Derived.Test.YtbimfhlmcdpnmaaDoorBlkA
import Derived.Test.YtbimfhlmcdpnmaaDoorLat
import Derived.Test.YtbimfhlmcdpnmaaDoorMath
import Derived.WalkKit
import Derived.WalkSpells
import Derived.WalkLawsBesides
import Derived.BigQuiet
import Derived.Handy
import Derived.Deep.RegionWith
import Derived.Deep.RegionHeld3
import Derived.Laws.EntriesVeiled
namespace Go.Proofs.YtbimfhlmcdpnmaaDoor
open Go.RowKit Go.LatT Go.BlockM
set_option linter.unusedVariables false
set_option linter.unusedSimpArgs false
def vRule (o t a b c d l h : Int) : Value := .agg #[.int .i64 o, .int .i64 t, .int .i64 a, .int .i64 b, .int .i64 c, .int .i64 d, .int .i64 l, .int .i64 h]
set_option maxHeartbeats 1000000 in
set_option maxRecDepth 100000 in
theorem doings_any (w : World) :
    Calls Tryd.prog 18 #[] w fun e w' => ∃ B x0 x1, e = .returned (.slice (some ⟨B, 0, none⟩) 3 3) ∧ w.heap.size ≤ B ∧ B < w'.heap.size ∧ w'.cell? ⟨B, 0, none⟩ = some (.func (.func 39) #[] #[]) ∧ w'.cell? ⟨B, 1, none⟩ = some x0 ∧ w'.cell? ⟨B, 2, none⟩ = some (.func (.func 39) #[] #[]) ∧ w'.cell? ⟨B, 3, none⟩ = some x1 ∧ w'.cell? ⟨B, 4, none⟩ = some (.func (.func 41) #[] #[]) ∧ Below w.heap.size w w' := by
  go_enter Tryd.func18, Tryd.ntmps18
  go_wp2
  go_ret
  exact ⟨_, .func (.func 40) #[] #[.pointer (some ⟨w.heap.size, 0, none⟩)], .func (.func 40) #[] #[.pointer (some ⟨w.heap.size + 1 + 1, 0, none⟩)], rfl, by omega, by simp, by go_simp, by go_simp, by go_simp, by go_simp, by go_simp, by go_grown⟩
set_option maxHeartbeats 400000 in
set_option maxRecDepth 100000 in
theorem toRule_any (o t a b c d l h : Int) (w : World) :
    Calls Tryd.prog 16 #[.agg #[.int .i64 o, .int .i64 t, .int .i64 a, .int .i64 b, .int .i64 c, .int .i64 d, .int .i64 l, .int .i64 h]] w fun e w' => e = .returned (vRule o t a b c d l h) ∧ Below w.heap.size w w' := by
  go_enter Tryd.func16, Tryd.ntmps16
  go_wp2
  go_returns
  exact ⟨rfl, by go_grown⟩
set_option maxHeartbeats 400000 in
set_option maxRecDepth 100000 in
theorem eqRule_self (o t a b c d l h : Int) (w : World) :
    Calls Tryd.prog 24 #[.agg #[.int .i64 o, .int .i64 t, .int .i64 a, .int .i64 b, .int .i64 c, .int .i64 d, .int .i64 l, .int .i64 h], .agg #[.int .i64 o, .int .i64 t, .int .i64 a, .int .i64 b, .int .i64 c, .int .i64 d, .int .i64 l, .int .i64 h]] w fun e w' => e = .returned (.bool true) ∧ Below w.heap.size w w' := by
  go_enter Tryd.func24, Tryd.ntmps24
  go_wp2_with fail
  refine (eqBlock_any a b a b _ true (by simp)).mono ?_
  rintro e w1 ⟨rfl, hb1⟩
  obtain ⟨hc1, hf1⟩ := bcell hb1
  go_wp2_with fail
  refine (eqBlock_any c d c d _ true (by simp)).mono ?_
  rintro e w2 ⟨rfl, hq2⟩
  have hb2 := below_later hb1 hq2
  clear hq2 hc1 hf1
  obtain ⟨hc2, hf2⟩ := bcell hb2
  go_wp2_with fail
  go_ret
  exact ⟨rfl, below_under (below_under hb2)⟩
/-- Whether a deed is ok. -/
def deedB (o t : Int) : Bool := if o = 2 then inB t 0 3 else (decide (o = 0) || decide (o = 1)) && decide (t = 0)
set_option maxHeartbeats 400000 in
set_option maxRecDepth 100000 in
theorem deedOf_any (o t a b c d l h : Int) (w : World) :
    Calls Tryd.prog 60 #[.agg #[.int .i64 o, .int .i64 t, .int .i64 a, .int .i64 b, .int .i64 c, .int .i64 d, .int .i64 l, .int .i64 h]] w fun e w' => e = .returned (.agg #[.int .i64 o, .int .i64 t]) ∧ Below w.heap.size w w' := by
  go_enter Tryd.func60, Tryd.ntmps60
  go_wp2
  go_returns
  exact ⟨rfl, by go_grown⟩
set_option maxHeartbeats 1000000 in
set_option maxRecDepth 100000 in
theorem plainMay (t : Int) (w : World) (v : Bool) (hv : decide (t = 0) = v) : Calls Tryd.prog 39 #[.int .i64 t] w fun e w' => e = .returned (.bool v) ∧ w' = w := by
  have V := hid_in hv
  clear hv
  go_enter Tryd.func39, Tryd.ntmps39
  go_wp2
  go_ret
  exact ⟨ret_bool (by rw [← V.out, Bool.eq_iff_iff]; simp), rfl⟩
set_option maxHeartbeats 1000000 in
set_option maxRecDepth 100000 in
theorem guardMay (t : Int) (w : World) (v : Bool) (hv : inB t 0 3 = v) : Calls Tryd.prog 41 #[.int .i64 t] w fun e w' => e = .returned (.bool v) ∧ w' = w := by
  have V := hid_in hv
  clear hv
  by_cases h : 0 ≤ t
  · go_enter Tryd.func41, Tryd.ntmps41
    go_wp2
    go_ret
    exact ⟨ret_bool (by rw [← V.out, Bool.eq_iff_iff]; simp [inB]; omega), rfl⟩
  · go_enter Tryd.func41, Tryd.ntmps41
    go_wp2
    go_ret
    exact ⟨ret_bool (by rw [← V.out, Bool.eq_iff_iff]; simp [inB]; omega), rfl⟩
set_option maxHeartbeats 1000000 in
set_option maxRecDepth 100000 in
theorem deedOk_any (o t : Int) (w : World) (v : Bool) (hv : deedB o t = v) :
    Calls Tryd.prog 59 #[.agg #[.int .i64 o, .int .i64 t]] w fun e w' => e = .returned (.bool v) ∧ Below w.heap.size w w' := by
  have V := hid_in hv
  clear hv
  go_enter Tryd.func59, Tryd.ntmps59
  go_wp2_with fail
  refine (doings_any _).mono ?_
  rintro e w1 ⟨B, x0, x1, rfl, hB, hB', c0, c1, c2, c3, c4, hb1⟩
  obtain ⟨hc1, hf1⟩ := bcell hb1
  have d0 : w1.cell? ⟨w.heap.size, 0, none⟩ = some (.int .i64 o) := by rw [hc1 _ _ (by simp)]; go_simp
  have d1 : w1.cell? ⟨w.heap.size, 1, none⟩ = some (.int .i64 t) := by rw [hc1 _ _ (by simp)]; go_simp
  have m1 : w.heap.size < w1.heap.size := by have := hb1.size; simp at this; omega
  have z1 := hid_in (below_under hb1)
  clear hc1 hf1 hb1 hB
  by_cases h0 : 0 ≤ o
  · by_cases h3 : o < 3
    · rcases (by omega : o = 0 ∨ o = 1 ∨ o = 2) with rfl | rfl | rfl
      · have V2 : Hid (decide (t = 0) = v) := by show _ = v; rw [← V.out]; simp [deedB]
        go_wp2_with fail
        refine wp_region_lat (Below.refl _ _) (by kernel_rfl) (by kernel_rfl) ?_
        intro hne hcl
        repeat (go_big_quiet_step (first | (go_at_call 39; exact lat_same (plainMay _ _ _ V2.out))))
        refine wpQuiet_nil ?_
        intro w1 hb1
        obtain ⟨hc1, hf1⟩ := bcell hb1
        clear hne hcl
        go_wp2_with fail
        go_ret
        exact ⟨rfl, below_later z1.out hb1⟩
      · have V2 : Hid (decide (t = 0) = v) := by show _ = v; rw [← V.out]; simp [deedB]
        go_wp2_with fail
        refine wp_region_lat (Below.refl _ _) (by kernel_rfl) (by kernel_rfl) ?_
        intro hne hcl
        repeat (go_big_quiet_step (first | (go_at_call 39; exact lat_same (plainMay _ _ _ V2.out))))
        refine wpQuiet_nil ?_
        intro w1 hb1
        obtain ⟨hc1, hf1⟩ := bcell hb1
        clear hne hcl
        go_wp2_with fail
        go_ret
        exact ⟨rfl, below_later z1.out hb1⟩
      · have V2 : Hid (inB t 0 3 = v) := by show _ = v; rw [← V.out]; simp [deedB]
        go_wp2_with fail
        refine wp_region_lat (Below.refl _ _) (by kernel_rfl) (by kernel_rfl) ?_
        intro hne hcl
        repeat (go_big_quiet_step (first | (go_at_call 41; exact lat_same (guardMay _ _ _ V2.out))))
        refine wpQuiet_nil ?_
        intro w1 hb1
        obtain ⟨hc1, hf1⟩ := bcell hb1
        clear hne hcl
        go_wp2_with fail
        go_ret
        exact ⟨rfl, below_later z1.out hb1⟩
    · have hg : decide (o < 3) = false := by simp; omega
      go_wp2_with fail
      refine wp_region_lat (Below.refl _ _) (by kernel_rfl) (by kernel_rfl) ?_
      intro hne hcl
      repeat (go_big_quiet_step (fail))
      refine wpQuiet_nil ?_
      intro w1 hb1
      obtain ⟨hc1, hf1⟩ := bcell hb1
      clear hne hcl
      go_wp2_with fail
      go_ret
      exact ⟨ret_bool (by rw [← V.out, deedB, if_neg (by omega)]; simp; omega), below_later z1.out hb1⟩
  · have hg : decide (0 ≤ o) = false := by simp; omega
    go_wp2_with fail
    refine wp_region_lat (Below.refl _ _) (by kernel_rfl) (by kernel_rfl) ?_
    intro hne hcl
    repeat (go_big_quiet_step (fail))
    refine wpQuiet_nil ?_
    intro w1 hb1
    obtain ⟨hc1, hf1⟩ := bcell hb1
    clear hne hcl
    go_wp2_with fail
    go_ret
    exact ⟨ret_bool (by rw [← V.out, deedB, if_neg (by omega)]; simp; omega), below_later z1.out hb1⟩
end Go.Proofs.YtbimfhlmcdpnmaaDoor
