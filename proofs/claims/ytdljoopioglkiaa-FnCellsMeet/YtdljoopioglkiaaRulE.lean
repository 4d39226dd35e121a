/- Which rule is the first about a call, in the program and in the specification; and the exact law. The conditions stand at each theorem. -/
import Derived.Test.YtdljoopioglkiaaRulD
import Derived.Test.YtdljoopioglkiaaCalA
namespace Go.Proofs.Ytdljoopioglkiaa
open Go.RowKit Go.LatT Go.BlockM Go.OpnT
set_option linter.unusedVariables false
set_option linter.unusedSimpArgs false
/-- A rule is about a call. -/
def aboutB (a b c d l h x y z : Int) : Bool := inB x a (a + pw (32 - b) - 1) && inB y c (c + pw (32 - d) - 1) && inB z l h
set_option maxHeartbeats 2000000 in
set_option maxRecDepth 100000 in
theorem l4About_any (o t a b c d l h x y z : Int) (w : World) (v : Bool) (ha : 0 ≤ a ∧ a ≤ 4294967295 ∧ 0 ≤ b ∧ b ≤ 32) (hc : 0 ≤ c ∧ c ≤ 4294967295 ∧ 0 ≤ d ∧ d ≤ 32) (hv : aboutB a b c d l h x y z = v) :
    Calls Try.prog 42 #[.agg #[.int .i64 o, .int .i64 t, .int .i64 a, .int .i64 b, .int .i64 c, .int .i64 d, .int .i64 l, .int .i64 h], .agg #[.int .i64 x, .int .i64 y, .int .i64 z]] w fun e w' => e = .returned (.bool v) ∧ Below w.heap.size w w' := by
  have V := hid_in hv
  clear hv
  obtain ⟨a0, a1, b0, b1⟩ := ha
  obtain ⟨c0, c1, d0, d1⟩ := hc
  cases hA : inB x a (a + pw (32 - b) - 1)
  · have A := hid_in hA
    clear hA
    go_enter Try.func42, Try.ntmps42
    go_wp2_with fail
    refine wp_region_lat (Below.refl _ _) (by kernel_rfl) (by kernel_rfl) ?_
    intro hne hcl
    repeat (go_big_quiet_step (first | (go_at_call 45; exact lat_of (slast a b _ a0 a1 b0 b1)) | (go_at_call 30; exact lat_same (l1In_any _ _ _ _ _ A.out))))
    refine wpQuiet_nil ?_
    intro w1 hb1
    obtain ⟨hc1, hf1⟩ := bcell hb1
    clear hne hcl
    go_wp2_with fail
    go_ret
    exact ⟨ret_bool (by rw [← V.out]; simp [aboutB, A.out]), below_under (below_under hb1)⟩
  · have A := hid_in hA
    clear hA
    cases hB : inB y c (c + pw (32 - d) - 1)
    · have B := hid_in hB
      clear hB
      go_enter Try.func42, Try.ntmps42
      go_wp2_with fail
      refine wp_region_lat (Below.refl _ _) (by kernel_rfl) (by kernel_rfl) ?_
      intro hne hcl
      repeat (go_big_quiet_step (first | (go_at_call_of 45 (Value.agg #[Value.int IntKind.i64 a, Value.int IntKind.i64 b]); exact lat_of (slast a b _ a0 a1 b0 b1)) | (go_at_call 45; exact lat_of (slast c d _ c0 c1 d0 d1)) | (go_at_call_of 30 (Value.int IntKind.i64 x); exact lat_same (l1In_any x _ _ _ _ A.out)) | (go_at_call 30; exact lat_same (l1In_any y _ _ _ _ B.out))))
      refine wpQuiet_nil ?_
      intro w1 hb1
      obtain ⟨hc1, hf1⟩ := bcell hb1
      clear hne hcl
      go_wp2_with fail
      go_ret
      exact ⟨ret_bool (by rw [← V.out]; simp [aboutB, A.out, B.out]), below_under (below_under hb1)⟩
    · have B := hid_in hB
      clear hB
      have C : Hid (inB z l h = v) := by show _ = v; rw [← V.out]; simp [aboutB, A.out, B.out]
      go_enter Try.func42, Try.ntmps42
      go_wp2_with fail
      refine wp_region_lat (Below.refl _ _) (by kernel_rfl) (by kernel_rfl) ?_
      intro hne hcl
      repeat (go_big_quiet_step (first | (go_at_call_of 45 (Value.agg #[Value.int IntKind.i64 a, Value.int IntKind.i64 b]); exact lat_of (slast a b _ a0 a1 b0 b1)) | (go_at_call 45; exact lat_of (slast c d _ c0 c1 d0 d1)) | (go_at_call_of 30 (Value.int IntKind.i64 x); exact lat_same (l1In_any x _ _ _ _ A.out)) | (go_at_call_of 30 (Value.int IntKind.i64 y); exact lat_same (l1In_any y _ _ _ _ B.out)) | (go_at_call 30; exact lat_same (l1In_any z _ _ _ _ C.out))))
      refine wpQuiet_nil ?_
      intro w1 hb1
      obtain ⟨hc1, hf1⟩ := bcell hb1
      clear hne hcl
      go_wp2_with fail
      go_ret
      exact ⟨rfl, below_under (below_under hb1)⟩
end Go.Proofs.Ytdljoopioglkiaa
