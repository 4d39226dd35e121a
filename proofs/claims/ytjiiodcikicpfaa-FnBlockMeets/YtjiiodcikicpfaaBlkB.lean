/- What each function of blocks answers, in the program and in the specification, as contracts: the answer, and that nothing which was there has turned. The conditions stand at each theorem. -/
import Derived.Test.YtjiiodcikicpfaaBlkA
import Derived.Test.YtjiiodcikicpfaaLat
import Derived.Test.YtjiiodcikicpfaaMath
import Derived.WalkKit
import Derived.WalkSpells
import Derived.WalkLawsBesides
import Derived.BigQuiet
import Derived.Deep.RegionWith
namespace Go.Proofs.Ytjiiodcikicpfaa
open Go.RowKit Go.LatT Go.BlockM
set_option linter.unusedVariables false
set_option linter.unusedSimpArgs false
set_option maxHeartbeats 400000 in
set_option maxRecDepth 100000 in
theorem holds_any (a b x y : Int) (w : World) (v : Bool) (ha0 : 0 ≤ a) (ha1 : a ≤ 4294967295) (hb0 : 0 ≤ b) (hb1 : b ≤ 32) (hx0 : 0 ≤ x) (hx1 : x ≤ 4294967295) (hy0 : 0 ≤ y) (hy1 : y ≤ 32) (hv : holdB a b x y = v) :
    Calls Try.prog 54 #[.agg #[.int .i64 a, .int .i64 b], .agg #[.int .i64 x, .int .i64 y]] w fun e w' => e = .returned (.bool v) ∧ Below w.heap.size w w' := by
  have hv1 := hid_in hv
  clear hv
  cases h1 : inB x a (a + pw (32 - b) - 1)
  · have h2 := hid_in h1
    clear h1
    go_enter Try.func54, Try.ntmps54
    go_wp2_with fail
    refine wp_region_lat (Below.refl _ _) (by kernel_rfl) (by kernel_rfl) ?_
    intro hne hcl
    repeat (go_big_quiet_step (first | (go_at_call 46; exact lat_of (phas _ _ _ _ _ ha0 ha1 hb0 hb1 h2.out))))
    refine wpQuiet_nil ?_
    intro w1 hb1
    obtain ⟨hc1, hf1⟩ := bcell hb1
    clear hne hcl
    go_wp2
    go_ret
    exact ⟨ret_bool (by rw [← hv1.out]; simp [holdB, h2.out]), below_under (below_under hb1)⟩
  · have h2 := hid_in h1
    clear h1
    have h3 : Hid (inB (x + pw (32 - y) - 1) a (a + pw (32 - b) - 1) = v) := by show _ = v; rw [← hv1.out]; simp [holdB, h2.out]
    go_enter Try.func54, Try.ntmps54
    go_wp2_with fail
    refine wp_region_lat (Below.refl _ _) (by kernel_rfl) (by kernel_rfl) ?_
    intro hne hcl
    repeat (go_big_quiet_step (first | (go_at_call_of 46 (Value.int IntKind.i64 x); exact lat_of (phas _ _ _ _ _ ha0 ha1 hb0 hb1 h2.out)) | (go_at_call 75; exact lat_of (plast _ _ _ hx0 hx1 hy0 hy1)) | (go_at_call 46; exact lat_of (phas _ _ _ _ _ ha0 ha1 hb0 hb1 h3.out))))
    refine wpQuiet_nil ?_
    intro w1 hb1
    obtain ⟨hc1, hf1⟩ := bcell hb1
    clear hne hcl
    go_wp2
    go_ret
    exact ⟨rfl, below_under (below_under hb1)⟩
set_option maxHeartbeats 400000 in
set_option maxRecDepth 100000 in
theorem within_any (a b x y : Int) (w : World) (v : Bool) (ha0 : 0 ≤ a) (ha1 : a ≤ 4294967295) (hb0 : 0 ≤ b) (hb1 : b ≤ 32) (hv : withB a b x y = v) :
    Calls Try.prog 57 #[.agg #[.int .i64 a, .int .i64 b], .agg #[.int .i64 x, .int .i64 y]] w fun e w' => e = .returned (.bool v) ∧ Below w.heap.size w w' := by
  have hv1 := hid_in hv
  clear hv
  by_cases h : b ≤ y
  · have h3 : Hid (inB x a (a + pw (32 - b) - 1) = v) := by show _ = v; rw [← hv1.out]; simp [withB, h]
    go_enter Try.func57, Try.ntmps57
    go_wp2_with fail
    refine wp_region_lat (Below.refl _ _) (by kernel_rfl) (by kernel_rfl) ?_
    intro hne hcl
    repeat (go_big_quiet_step (first | (go_at_call 42; exact lat_of (slast _ _ _ ha0 ha1 hb0 hb1)) | (go_at_call 48; exact lat_same (l1In_any _ _ _ _ _ h3.out))))
    refine wpQuiet_nil ?_
    intro w1 hb1
    obtain ⟨hc1, hf1⟩ := bcell hb1
    clear hne hcl
    go_wp2
    go_ret
    exact ⟨rfl, below_under (below_under hb1)⟩
  · have hg : decide (b ≤ y) = false := by simpa using h
    go_enter Try.func57, Try.ntmps57
    go_wp2_with fail
    refine wp_region_lat (Below.refl _ _) (by kernel_rfl) (by kernel_rfl) ?_
    intro hne hcl
    repeat (go_big_quiet_step (fail))
    refine wpQuiet_nil ?_
    intro w1 hb1
    obtain ⟨hc1, hf1⟩ := bcell hb1
    clear hne hcl
    go_wp2
    go_ret
    exact ⟨ret_bool (by rw [← hv1.out]; simp [withB]; omega), below_under (below_under hb1)⟩
set_option maxHeartbeats 400000 in
set_option maxRecDepth 100000 in
theorem sizeI (a b : Int) (w : World) (v : Int) (hv : (if okB a b then pw (32 - b) else 0) = v) :
    Calls Try.prog 11 #[.agg #[.int .i64 a, .int .i64 b]] w fun e w' => e = .returned (.int .i64 v) ∧ Below w.heap.size w w' := by
  have hv1 := hid_in hv
  clear hv
  cases h1 : okB a b
  · have h2 := hid_in h1
    clear h1
    go_enter Try.func11, Try.ntmps11
    go_wp2_with (first | (go_at_call 44; refine (blockOkI _ _ _ _ h2.out).mono ?_; rintro e w1 ⟨rfl, hb1⟩; obtain ⟨hc1, hf1⟩ := bcell hb1))
    go_ret
    exact ⟨ret_int (by rw [← hv1.out]; simp [h2.out]), below_under ‹Below _ _ _›⟩
  · have h2 := hid_in h1
    obtain ⟨a0, a1, b0, b1, _⟩ := ok_of h1
    clear h1
    go_enter Try.func11, Try.ntmps11
    go_wp2_with (first | (go_at_call 44; refine (blockOkI _ _ _ _ h2.out).mono ?_; rintro e w1 ⟨rfl, hb1⟩; obtain ⟨hc1, hf1⟩ := bcell hb1) | (go_at_call 45; refine (prefixOf_any _ _ _).mono ?_; rintro e w2 ⟨rfl, hb2⟩) | (go_at_call 47; refine (psize _ _ _ b0 b1).mono ?_; rintro e w3 ⟨rfl, hb3⟩))
    go_ret
    exact ⟨ret_int (by rw [← hv1.out]; simp [h2.out]), below_later (below_later (below_under hb1) hb2) hb3⟩
set_option maxHeartbeats 400000 in
set_option maxRecDepth 100000 in
theorem sizeS (a b : Int) (w : World) (v : Int) (hv : (if okB a b then pw (32 - b) else 0) = v) :
    Calls Try.prog 13 #[.agg #[.int .i64 a, .int .i64 b]] w fun e w' => e = .returned (.int .i64 v) ∧ Below w.heap.size w w' := by
  have hv1 := hid_in hv
  clear hv
  cases h1 : okB a b
  · have h2 := hid_in h1
    clear h1
    go_enter Try.func13, Try.ntmps13
    go_wp2_with (first | (go_at_call 14; refine (specOk _ _ _ _ h2.out).mono ?_; rintro e w1 ⟨rfl, hb1⟩; obtain ⟨hc1, hf1⟩ := bcell hb1))
    go_ret
    exact ⟨ret_int (by rw [← hv1.out]; simp [h2.out]), below_under hb1⟩
  · have h2 := hid_in h1
    obtain ⟨a0, a1, b0, b1, _⟩ := ok_of h1
    clear h1
    go_enter Try.func13, Try.ntmps13
    go_wp2_with (first | (go_at_call 14; refine (specOk _ _ _ _ h2.out).mono ?_; rintro e w1 ⟨rfl, hb1⟩; obtain ⟨hc1, hf1⟩ := bcell hb1) | (go_at_call 49; refine (l1Size_any _ _ b0 b1).mono ?_; rintro e w2 ⟨rfl, rfl⟩))
    go_ret
    exact ⟨ret_int (by rw [← hv1.out]; simp [h2.out]), below_under hb1⟩
set_option maxHeartbeats 400000 in
set_option maxRecDepth 100000 in
theorem hasI (a b x : Int) (w : World) (v : Bool) (hv : (okB a b && inB x a (a + pw (32 - b) - 1)) = v) :
    Calls Try.prog 10 #[.agg #[.int .i64 a, .int .i64 b], .int .i64 x] w fun e w' => e = .returned (.bool v) ∧ Below w.heap.size w w' := by
  have hv1 := hid_in hv
  clear hv
  cases h1 : okB a b
  · have h2 := hid_in h1
    clear h1
    go_enter Try.func10, Try.ntmps10
    go_wp2_with (first | (go_at_call 44; refine (blockOkI _ _ _ _ h2.out).mono ?_; rintro e w1 ⟨rfl, hb1⟩; obtain ⟨hc1, hf1⟩ := bcell hb1))
    go_ret
    exact ⟨ret_bool (by rw [← hv1.out]; simp [h2.out]), below_under hb1⟩
  · have h2 := hid_in h1
    obtain ⟨a0, a1, b0, b1, _⟩ := ok_of h1
    clear h1
    have h3 : Hid (inB x a (a + pw (32 - b) - 1) = v) := by show _ = v; rw [← hv1.out]; simp [h2.out]
    go_enter Try.func10, Try.ntmps10
    go_wp2_with (first | (go_at_call 44; refine (blockOkI _ _ _ _ h2.out).mono ?_; rintro e w1 ⟨rfl, hb1⟩; obtain ⟨hc1, hf1⟩ := bcell hb1) | (go_at_call 45; refine (prefixOf_any _ _ _).mono ?_; rintro e w2 ⟨rfl, hb2⟩) | (go_at_call 46; refine (phas _ _ _ _ _ a0 a1 b0 b1 h3.out).mono ?_; rintro e w3 ⟨rfl, hb3⟩))
    go_ret
    exact ⟨rfl, below_later (below_later (below_under hb1) hb2) hb3⟩
set_option maxHeartbeats 400000 in
set_option maxRecDepth 100000 in
theorem hasS (a b x : Int) (w : World) (v : Bool) (hv : (okB a b && inB x a (a + pw (32 - b) - 1)) = v) :
    Calls Try.prog 12 #[.agg #[.int .i64 a, .int .i64 b], .int .i64 x] w fun e w' => e = .returned (.bool v) ∧ Below w.heap.size w w' := by
  have hv1 := hid_in hv
  clear hv
  cases h1 : okB a b
  · have h2 := hid_in h1
    clear h1
    go_enter Try.func12, Try.ntmps12
    go_wp2_with fail
    refine wp_region_lat (Below.refl _ _) (by kernel_rfl) (by kernel_rfl) ?_
    intro hne hcl
    repeat (go_big_quiet_step (first | (go_at_call 14; exact lat_of (specOk _ _ _ _ h2.out))))
    refine wpQuiet_nil ?_
    intro w1 hb1
    obtain ⟨hc1, hf1⟩ := bcell hb1
    clear hne hcl
    go_wp2
    go_ret
    exact ⟨ret_bool (by rw [← hv1.out]; simp [h2.out]), below_under hb1⟩
  · have h2 := hid_in h1
    obtain ⟨a0, a1, b0, b1, _⟩ := ok_of h1
    clear h1
    have h3 : Hid (inB x a (a + pw (32 - b) - 1) = v) := by show _ = v; rw [← hv1.out]; simp [h2.out]
    go_enter Try.func12, Try.ntmps12
    go_wp2_with fail
    refine wp_region_lat (Below.refl _ _) (by kernel_rfl) (by kernel_rfl) ?_
    intro hne hcl
    repeat (go_big_quiet_step (first | (go_at_call 14; exact lat_of (specOk _ _ _ _ h2.out)) | (go_at_call 42; exact lat_of (slast _ _ _ a0 a1 b0 b1)) | (go_at_call 48; exact lat_same (l1In_any _ _ _ _ _ h3.out))))
    refine wpQuiet_nil ?_
    intro w1 hb1
    obtain ⟨hc1, hf1⟩ := bcell hb1
    clear hne hcl
    go_wp2
    go_ret
    exact ⟨rfl, below_under hb1⟩
/-- What a block has all of. -/
def inBlk (a b x y : Int) : Bool := okB a b && okB x y && withB a b x y
set_option maxHeartbeats 400000 in
set_option maxRecDepth 100000 in
theorem inI (a b x y : Int) (w : World) (v : Bool) (hv : inBlk a b x y = v) :
    Calls Try.prog 21 #[.agg #[.int .i64 a, .int .i64 b], .agg #[.int .i64 x, .int .i64 y]] w fun e w' => e = .returned (.bool v) ∧ Below w.heap.size w w' := by
  have hv1 := hid_in hv
  clear hv
  cases h1 : okB a b
  · have h2 := hid_in h1
    clear h1
    go_enter Try.func21, Try.ntmps21
    go_wp2_with fail
    refine wp_region_lat (Below.refl _ _) (by kernel_rfl) (by kernel_rfl) ?_
    intro hne hcl
    repeat (go_big_quiet_step (first | (go_at_call 44; exact lat_of (blockOkI _ _ _ _ h2.out))))
    refine wpQuiet_nil ?_
    intro w1 hb1
    obtain ⟨hc1, hf1⟩ := bcell hb1
    clear hne hcl
    go_wp2
    go_ret
    exact ⟨ret_bool (by rw [← hv1.out]; simp [inBlk, h2.out]), below_under (below_under hb1)⟩
  · have h2 := hid_in h1
    obtain ⟨a0, a1, b0, b1, _⟩ := ok_of h1
    clear h1
    cases k1 : okB x y
    · have k2 := hid_in k1
      clear k1
      go_enter Try.func21, Try.ntmps21
      go_wp2_with fail
      refine wp_region_lat (Below.refl _ _) (by kernel_rfl) (by kernel_rfl) ?_
      intro hne hcl
      repeat (go_big_quiet_step (first | (go_at_call_of 44 (Value.agg #[Value.int IntKind.i64 a, Value.int IntKind.i64 b]); exact lat_of (blockOkI a b _ _ h2.out)) | (go_at_call 44; exact lat_of (blockOkI x y _ _ k2.out))))
      refine wpQuiet_nil ?_
      intro w1 hb1
      obtain ⟨hc1, hf1⟩ := bcell hb1
      clear hne hcl
      go_wp2
      go_ret
      exact ⟨ret_bool (by rw [← hv1.out]; simp [inBlk, h2.out, k2.out]), below_under (below_under hb1)⟩
    · have k2 := hid_in k1
      obtain ⟨x0, x1, y0, y1, _⟩ := ok_of k1
      clear k1
      have h3 : Hid (holdB a b x y = v) := by show _ = v; rw [← hv1.out]; simp [inBlk, h2.out, k2.out, with_hold h2.out k2.out]
      go_enter Try.func21, Try.ntmps21
      go_wp2_with fail
      refine wp_region_lat (Below.refl _ _) (by kernel_rfl) (by kernel_rfl) ?_
      intro hne hcl
      repeat (go_big_quiet_step (first | (go_at_call 44; first | exact lat_of (blockOkI a b _ _ h2.out) | exact lat_of (blockOkI x y _ _ k2.out)) | (go_at_call 45; exact lat_of (prefixOf_any _ _ _)) | (go_at_call 54; exact lat_of (holds_any _ _ _ _ _ _ a0 a1 b0 b1 x0 x1 y0 y1 h3.out))))
      refine wpQuiet_nil ?_
      intro w1 hb1
      obtain ⟨hc1, hf1⟩ := bcell hb1
      clear hne hcl
      go_wp2
      go_ret
      exact ⟨rfl, below_under (below_under hb1)⟩
end Go.Proofs.Ytjiiodcikicpfaa
