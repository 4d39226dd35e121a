/- What each function of blocks answers, in the program and in the specification, as contracts: the answer, and that nothing which was there has turned. The conditions stand at each theorem. -/
import Derived.Test.YtgolcjlogokbiaaProg
import Derived.Test.YtgolcjlogokbiaaLat
import Derived.Test.YtgolcjlogokbiaaMath
import Derived.WalkKit
import Derived.WalkSpells
import Derived.WalkLawsBesides
import Derived.BigQuiet
import Derived.Deep.RegionWith
namespace Go.Proofs.Ytgolcjlogokbiaa
open Go.RowKit Go.LatT Go.BlockM
set_option linter.unusedVariables false
set_option linter.unusedSimpArgs false
set_option maxHeartbeats 400000 in
set_option maxRecDepth 100000 in
theorem l1In_any (n lo hi : Int) (w : World) (v : Bool) (hv : inB n lo hi = v) :
    Calls Try.prog 50 #[.int .i64 n, .int .i64 lo, .int .i64 hi] w fun e w' => e = .returned (.bool v) ∧ w' = w := by
  subst hv
  by_cases h : lo ≤ n
  · go_enter Try.func50, Try.ntmps50
    go_wp2
    go_ret
    exact ⟨by simp [inB, h], rfl⟩
  · go_enter Try.func50, Try.ntmps50
    go_wp2
    go_ret
    exact ⟨by simp [inB]; omega, rfl⟩
set_option maxHeartbeats 400000 in
set_option maxRecDepth 100000 in
theorem l1Addr_any (a : Int) (w : World) (v : Bool) (hv : inB a 0 4294967295 = v) :
    Calls Try.prog 49 #[.int .i64 a] w fun e w' => e = .returned (.bool v) ∧ w' = w := by
  go_enter Try.func49, Try.ntmps49
  go_wp2_with (go_at_call 50; refine (l1In_any _ _ _ _ _ hv).mono ?_; rintro e w' ⟨rfl, rfl⟩)
  go_ret
  exact ⟨rfl, rfl⟩
set_option maxHeartbeats 400000 in
set_option maxRecDepth 100000 in
theorem eqBlock_any (a b c d : Int) (w : World) (v : Bool) (hv : decide (a = c ∧ b = d) = v) :
    Calls Try.prog 75 #[.agg #[.int .i64 a, .int .i64 b], .agg #[.int .i64 c, .int .i64 d]] w fun e w' => e = .returned (.bool v) ∧ Below w.heap.size w w' := by
  have hv1 := hid_in hv
  clear hv
  go_enter Try.func75, Try.ntmps75
  go_wp2
  · rename_i h
    go_ret
    exact ⟨ret_bool (by rw [← hv1.out]; simp at h; simp [h]), below_later (below_box _ _) (below_box _ _)⟩
  · rename_i h
    go_ret
    exact ⟨ret_bool (by rw [← hv1.out]; simp at h; simp [h]), below_later (below_box _ _) (below_box _ _)⟩
  · rename_i h1 h
    go_ret
    exact ⟨ret_bool (by rw [← hv1.out]; simp at h h1; simp [h, h1]), below_later (below_box _ _) (below_box _ _)⟩
end Go.Proofs.Ytgolcjlogokbiaa
