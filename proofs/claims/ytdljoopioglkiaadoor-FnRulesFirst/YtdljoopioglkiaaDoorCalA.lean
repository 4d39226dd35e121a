/- Whether a call may go, in the program and in the specification, as contracts. The conditions stand at each theorem. -/
import Derived.Test.YtdljoopioglkiaaDoorCelA
namespace Go.Proofs.YtdljoopioglkiaaDoor
open Go.RowKit Go.LatT Go.BlockM
set_option linter.unusedVariables false
set_option linter.unusedSimpArgs false
/-- A call may go. -/
def callB (x y z : Int) : Bool := inB x 0 4294967295 && inB y 0 4294967295 && inB z 0 65535
set_option maxHeartbeats 400000 in
set_option maxRecDepth 100000 in
theorem roomOfAll_any (w : World) : Calls Tryd.prog 100 #[] w fun e w' => e = .returned (vRoom 0 4294967295 0 4294967295 0 65535) ∧ Below w.heap.size w w' := by
  go_enter Tryd.func100, Tryd.ntmps100
  go_wp2
  go_returns
  exact ⟨rfl, by go_grown⟩
set_option maxHeartbeats 1000000 in
set_option maxRecDepth 100000 in
theorem callOk_any (x y z : Int) (w : World) (v : Bool) (hv : callB x y z = v) :
    Calls Tryd.prog 59 #[.agg #[.int .i64 x, .int .i64 y, .int .i64 z]] w fun e w' => e = .returned (.bool v) ∧ Below w.heap.size w w' := by
  have V := hid_in hv
  clear hv
  go_enter Tryd.func59, Tryd.ntmps59
  go_wp2_with fail
  refine wp_region_lat (Below.refl _ _) (by kernel_rfl) (by kernel_rfl) ?_
  intro hne hcl
  repeat (go_big_quiet_step (first | (go_at_call 100; exact lat_of (roomOfAll_any _)) | (go_at_call 101; exact lat_of (roomHas_any 0 4294967295 0 4294967295 0 65535 x y z _ _ V.out))))
  refine wpQuiet_nil ?_
  intro w1 hb1
  obtain ⟨hc1, hf1⟩ := bcell hb1
  clear hne hcl
  go_wp2_with fail
  go_ret
  exact ⟨rfl, below_under hb1⟩
set_option maxHeartbeats 1000000 in
set_option maxRecDepth 100000 in
theorem l4Call_any (x y z : Int) (w : World) (v : Bool) (hv : callB x y z = v) :
    Calls Tryd.prog 62 #[.agg #[.int .i64 x, .int .i64 y, .int .i64 z]] w fun e w' => e = .returned (.bool v) ∧ Below w.heap.size w w' := by
  have V := hid_in hv
  clear hv
  cases hA : inB x 0 4294967295
  · have A := hid_in hA
    clear hA
    go_enter Tryd.func62, Tryd.ntmps62
    go_wp2_with fail
    refine (l1Addr_any x _ _ A.out).mono ?_
    rintro e w' ⟨rfl, rfl⟩
    go_wp2_with fail
    go_ret
    exact ⟨ret_bool (by rw [← V.out]; simp [callB, A.out]), by go_grown⟩
  · have A := hid_in hA
    clear hA
    cases hB : inB y 0 4294967295
    · have B := hid_in hB
      clear hB
      go_enter Tryd.func62, Tryd.ntmps62
      go_wp2_with fail
      refine (l1Addr_any x _ _ A.out).mono ?_
      rintro e w' ⟨rfl, rfl⟩
      go_wp2_with fail
      refine (l1Addr_any y _ _ B.out).mono ?_
      rintro e w' ⟨rfl, rfl⟩
      go_wp2_with fail
      go_ret
      exact ⟨ret_bool (by rw [← V.out]; simp [callB, A.out, B.out]), by go_grown⟩
    · have B := hid_in hB
      clear hB
      have C : Hid (inB z 0 65535 = v) := by show _ = v; rw [← V.out]; simp [callB, A.out, B.out]
      go_enter Tryd.func62, Tryd.ntmps62
      go_wp2_with fail
      refine (l1Addr_any x _ _ A.out).mono ?_
      rintro e w' ⟨rfl, rfl⟩
      go_wp2_with fail
      refine (l1Addr_any y _ _ B.out).mono ?_
      rintro e w' ⟨rfl, rfl⟩
      go_wp2_with fail
      refine (l1In_any z 0 65535 _ _ C.out).mono ?_
      rintro e w' ⟨rfl, rfl⟩
      go_wp2_with fail
      go_ret
      exact ⟨rfl, by go_grown⟩
end Go.Proofs.YtdljoopioglkiaaDoor
