/- Which rule is the first about a call, in the program and in the specification; and the exact law. The conditions stand at each theorem. -/
import Derived.Test.YtjiiodcikicpfaaDoorRulD
namespace Go.Proofs.YtjiiodcikicpfaaDoor
open Go.RowKit Go.LatT Go.BlockM Go.OpnT
set_option linter.unusedVariables false
set_option linter.unusedSimpArgs false
/-- A call may go. -/
def callB (x y z : Int) : Bool := inB x 0 4294967295 && inB y 0 4294967295 && inB z 0 65535
set_option maxHeartbeats 400000 in
set_option maxRecDepth 100000 in
theorem roomOfAll_any (w : World) : Calls Tryd.prog 64 #[] w fun e w' => e = .returned (vRoom 0 4294967295 0 4294967295 0 65535) ∧ Below w.heap.size w w' := by
  go_enter Tryd.func64, Tryd.ntmps64
  go_wp2
  go_returns
  exact ⟨rfl, by go_grown⟩
set_option maxHeartbeats 1000000 in
set_option maxRecDepth 100000 in
theorem callOk_any (x y z : Int) (w : World) (v : Bool) (hv : callB x y z = v) :
    Calls Tryd.prog 49 #[.agg #[.int .i64 x, .int .i64 y, .int .i64 z]] w fun e w' => e = .returned (.bool v) ∧ Below w.heap.size w w' := by
  have V := hid_in hv
  clear hv
  go_enter Tryd.func49, Tryd.ntmps49
  go_wp2_with fail
  refine wp_region_lat (Below.refl _ _) (by kernel_rfl) (by kernel_rfl) ?_
  intro hne hcl
  repeat (go_big_quiet_step (first | (go_at_call 64; exact lat_of (roomOfAll_any _)) | (go_at_call 65; exact lat_of (roomHas_any 0 4294967295 0 4294967295 0 65535 x y z _ _ V.out))))
  refine wpQuiet_nil ?_
  intro w1 hb1
  obtain ⟨hc1, hf1⟩ := bcell hb1
  clear hne hcl
  go_wp2_with fail
  go_ret
  exact ⟨rfl, below_under hb1⟩
set_option maxHeartbeats 1000000 in
set_option maxRecDepth 100000 in
theorem l4Call_any (x y z : Int) (w : World) (v : Bool) (hv : callB x y z = v) :
    Calls Tryd.prog 47 #[.agg #[.int .i64 x, .int .i64 y, .int .i64 z]] w fun e w' => e = .returned (.bool v) ∧ Below w.heap.size w w' := by
  have V := hid_in hv
  clear hv
  cases hA : inB x 0 4294967295
  · have A := hid_in hA
    clear hA
    go_enter Tryd.func47, Tryd.ntmps47
    go_wp2_with fail
    refine (l1Addr_any x _ _ A.out).mono ?_
    rintro e w' ⟨rfl, rfl⟩
    go_wp2_with fail
    go_ret
    exact ⟨ret_bool (by rw [← V.out]; simp [callB, A.out]), by go_grown⟩
  · have A := hid_in hA
    clear hA
    cases hB : inB y 0 4294967295
    · have B := hid_in hB
      clear hB
      go_enter Tryd.func47, Tryd.ntmps47
      go_wp2_with fail
      refine (l1Addr_any x _ _ A.out).mono ?_
      rintro e w' ⟨rfl, rfl⟩
      go_wp2_with fail
      refine (l1Addr_any y _ _ B.out).mono ?_
      rintro e w' ⟨rfl, rfl⟩
      go_wp2_with fail
      go_ret
      exact ⟨ret_bool (by rw [← V.out]; simp [callB, A.out, B.out]), by go_grown⟩
    · have B := hid_in hB
      clear hB
      have C : Hid (inB z 0 65535 = v) := by show _ = v; rw [← V.out]; simp [callB, A.out, B.out]
      go_enter Tryd.func47, Tryd.ntmps47
      go_wp2_with fail
      refine (l1Addr_any x _ _ A.out).mono ?_
      rintro e w' ⟨rfl, rfl⟩
      go_wp2_with fail
      refine (l1Addr_any y _ _ B.out).mono ?_
      rintro e w' ⟨rfl, rfl⟩
      go_wp2_with fail
      refine (l1In_any z 0 65535 _ _ C.out).mono ?_
      rintro e w' ⟨rfl, rfl⟩
      go_wp2_with fail
      go_ret
      exact ⟨rfl, by go_grown⟩
/-- A rule is about a call. -/
def aboutB (a b c d l h x y z : Int) : Bool := inB x a (a + pw (32 - b) - 1) && inB y c (c + pw (32 - d) - 1) && inB z l h
set_option maxHeartbeats 2000000 in
set_option maxRecDepth 100000 in
theorem l4About_any (o t a b c d l h x y z : Int) (w : World) (v : Bool) (ha : 0 ≤ a ∧ a ≤ 4294967295 ∧ 0 ≤ b ∧ b ≤ 32) (hc : 0 ≤ c ∧ c ≤ 4294967295 ∧ 0 ≤ d ∧ d ≤ 32) (hv : aboutB a b c d l h x y z = v) :
    Calls Tryd.prog 63 #[.agg #[.int .i64 o, .int .i64 t, .int .i64 a, .int .i64 b, .int .i64 c, .int .i64 d, .int .i64 l, .int .i64 h], .agg #[.int .i64 x, .int .i64 y, .int .i64 z]] w fun e w' => e = .returned (.bool v) ∧ Below w.heap.size w w' := by
  have V := hid_in hv
  clear hv
  obtain ⟨a0, a1, b0, b1⟩ := ha
  obtain ⟨c0, c1, d0, d1⟩ := hc
  cases hA : inB x a (a + pw (32 - b) - 1)
  · have A := hid_in hA
    clear hA
    go_enter Tryd.func63, Tryd.ntmps63
    go_wp2_with fail
    refine wp_region_lat (Below.refl _ _) (by kernel_rfl) (by kernel_rfl) ?_
    intro hne hcl
    repeat (go_big_quiet_step (first | (go_at_call 80; exact lat_of (slast a b _ a0 a1 b0 b1)) | (go_at_call 33; exact lat_same (l1In_any _ _ _ _ _ A.out))))
    refine wpQuiet_nil ?_
    intro w1 hb1
    obtain ⟨hc1, hf1⟩ := bcell hb1
    clear hne hcl
    go_wp2_with fail
    go_ret
    exact ⟨ret_bool (by rw [← V.out]; simp [aboutB, A.out]), below_under (below_under hb1)⟩
  · have A := hid_in hA
    clear hA
    cases hB : inB y c (c + pw (32 - d) - 1)
    · have B := hid_in hB
      clear hB
      go_enter Tryd.func63, Tryd.ntmps63
      go_wp2_with fail
      refine wp_region_lat (Below.refl _ _) (by kernel_rfl) (by kernel_rfl) ?_
      intro hne hcl
      repeat (go_big_quiet_step (first | (go_at_call_of 80 (Value.agg #[Value.int IntKind.i64 a, Value.int IntKind.i64 b]); exact lat_of (slast a b _ a0 a1 b0 b1)) | (go_at_call 80; exact lat_of (slast c d _ c0 c1 d0 d1)) | (go_at_call_of 33 (Value.int IntKind.i64 x); exact lat_same (l1In_any x _ _ _ _ A.out)) | (go_at_call 33; exact lat_same (l1In_any y _ _ _ _ B.out))))
      refine wpQuiet_nil ?_
      intro w1 hb1
      obtain ⟨hc1, hf1⟩ := bcell hb1
      clear hne hcl
      go_wp2_with fail
      go_ret
      exact ⟨ret_bool (by rw [← V.out]; simp [aboutB, A.out, B.out]), below_under (below_under hb1)⟩
    · have B := hid_in hB
      clear hB
      have C : Hid (inB z l h = v) := by show _ = v; rw [← V.out]; simp [aboutB, A.out, B.out]
      go_enter Tryd.func63, Tryd.ntmps63
      go_wp2_with fail
      refine wp_region_lat (Below.refl _ _) (by kernel_rfl) (by kernel_rfl) ?_
      intro hne hcl
      repeat (go_big_quiet_step (first | (go_at_call_of 80 (Value.agg #[Value.int IntKind.i64 a, Value.int IntKind.i64 b]); exact lat_of (slast a b _ a0 a1 b0 b1)) | (go_at_call 80; exact lat_of (slast c d _ c0 c1 d0 d1)) | (go_at_call_of 33 (Value.int IntKind.i64 x); exact lat_same (l1In_any x _ _ _ _ A.out)) | (go_at_call_of 33 (Value.int IntKind.i64 y); exact lat_same (l1In_any y _ _ _ _ B.out)) | (go_at_call 33; exact lat_same (l1In_any z _ _ _ _ C.out))))
      refine wpQuiet_nil ?_
      intro w1 hb1
      obtain ⟨hc1, hf1⟩ := bcell hb1
      clear hne hcl
      go_wp2_with fail
      go_ret
      exact ⟨rfl, below_under (below_under hb1)⟩
end Go.Proofs.YtjiiodcikicpfaaDoor
