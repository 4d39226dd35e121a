/- What each function of blocks answers, in the program and in the specification, as contracts: the answer, and that nothing which was there has turned. The conditions stand at each theorem. -/
import Derived.Test.YtbcehchjinlacaaBlkC
import Derived.Test.YtbcehchjinlacaaLat
import Derived.Test.YtbcehchjinlacaaMath
import Derived.WalkKit
import Derived.WalkSpells
import Derived.WalkLawsBesides
import Derived.BigQuiet
import Derived.Deep.RegionWith
namespace Go.Proofs.Ytbcehchjinlacaa
open Go.RowKit Go.LatT Go.BlockM
set_option linter.unusedVariables false
set_option linter.unusedSimpArgs false
set_option maxHeartbeats 400000 in
theorem walk_FnExactBlockOk (a b : Int) (_ : (Lit.int .i64 a).wf = true) (_ : (Lit.int .i64 b).wf = true) (w : World) :
    Calls Try.prog 8 #[.agg #[.int .i64 a, .int .i64 b]] w fun e w' => e = .returned (.bool true) ∧ Below w.heap.size w w' := by
  go_enter Try.func8, Try.ntmps8
  go_wp2_with fail
  refine (toBlock_any a b _).mono ?_
  rintro e w1 ⟨rfl, hb1⟩
  obtain ⟨hc1, hf1⟩ := bcell hb1
  go_wp2_with fail
  refine (specOk a b _ (okB a b) rfl).mono ?_
  rintro e w2 ⟨rfl, hq2⟩
  have hb2 := below_later hb1 hq2
  clear hq2 hc1 hf1
  obtain ⟨hc2, hf2⟩ := bcell hb2
  go_wp2_with fail
  refine (toBlock_any a b _).mono ?_
  rintro e w3 ⟨rfl, hq3⟩
  have hb3 := below_later hb2 hq3
  clear hq3 hc2 hf2
  obtain ⟨hc3, hf3⟩ := bcell hb3
  go_wp2_with fail
  refine (blockOkI a b _ (okB a b) rfl).mono ?_
  rintro e w4 ⟨rfl, hq4⟩
  have hb4 := below_later hb3 hq4
  clear hq4 hc3 hf3
  obtain ⟨hc4, hf4⟩ := bcell hb4
  go_wp2_with fail
  go_ret
  exact ⟨rfl, below_under hb4⟩
set_option maxHeartbeats 400000 in
theorem walk_FnExactBlockSize (a b : Int) (_ : (Lit.int .i64 a).wf = true) (_ : (Lit.int .i64 b).wf = true) (w : World) :
    Calls Try.prog 9 #[.agg #[.int .i64 a, .int .i64 b]] w fun e w' => e = .returned (.bool true) ∧ Below w.heap.size w w' := by
  obtain ⟨v, hv⟩ : ∃ v, (if okB a b then pw (32 - b) else 0) = v := ⟨_, rfl⟩
  have hv1 := hid_in hv
  clear hv
  go_enter Try.func9, Try.ntmps9
  go_wp2_with fail
  refine (toBlock_any a b _).mono ?_
  rintro e w1 ⟨rfl, hb1⟩
  obtain ⟨hc1, hf1⟩ := bcell hb1
  go_wp2_with fail
  refine (sizeS a b _ v hv1.out).mono ?_
  rintro e w2 ⟨rfl, hq2⟩
  have hb2 := below_later hb1 hq2
  clear hq2 hc1 hf1
  obtain ⟨hc2, hf2⟩ := bcell hb2
  go_wp2_with fail
  refine (toBlock_any a b _).mono ?_
  rintro e w3 ⟨rfl, hq3⟩
  have hb3 := below_later hb2 hq3
  clear hq3 hc2 hf2
  obtain ⟨hc3, hf3⟩ := bcell hb3
  go_wp2_with fail
  refine (sizeI a b _ v hv1.out).mono ?_
  rintro e w4 ⟨rfl, hq4⟩
  have hb4 := below_later hb3 hq4
  clear hq4 hc3 hf3
  obtain ⟨hc4, hf4⟩ := bcell hb4
  go_wp2_with fail
  go_ret
  exact ⟨rfl, below_under hb4⟩
set_option maxHeartbeats 400000 in
theorem walk_FnExactBlockHas (a b : Int) (_ : (Lit.int .i64 a).wf = true) (_ : (Lit.int .i64 b).wf = true) (x : Int) (_ : (Lit.int .i64 x).wf = true) (w : World) :
    Calls Try.prog 10 #[.agg #[.int .i64 a, .int .i64 b], .int .i64 x] w fun e w' => e = .returned (.bool true) ∧ Below w.heap.size w w' := by
  obtain ⟨v, hv⟩ : ∃ v, (okB a b && inB x a (a + pw (32 - b) - 1)) = v := ⟨_, rfl⟩
  have hv1 := hid_in hv
  clear hv
  go_enter Try.func10, Try.ntmps10
  go_wp2_with fail
  refine (toBlock_any a b _).mono ?_
  rintro e w1 ⟨rfl, hb1⟩
  obtain ⟨hc1, hf1⟩ := bcell hb1
  go_wp2_with fail
  refine (hasS a b x _ v hv1.out).mono ?_
  rintro e w2 ⟨rfl, hq2⟩
  have hb2 := below_later hb1 hq2
  clear hq2 hc1 hf1
  obtain ⟨hc2, hf2⟩ := bcell hb2
  go_wp2_with fail
  refine (toBlock_any a b _).mono ?_
  rintro e w3 ⟨rfl, hq3⟩
  have hb3 := below_later hb2 hq3
  clear hq3 hc2 hf2
  obtain ⟨hc3, hf3⟩ := bcell hb3
  go_wp2_with fail
  refine (hasI a b x _ v hv1.out).mono ?_
  rintro e w4 ⟨rfl, hq4⟩
  have hb4 := below_later hb3 hq4
  clear hq4 hc3 hf3
  obtain ⟨hc4, hf4⟩ := bcell hb4
  go_wp2_with fail
  go_ret
  exact ⟨rfl, below_under hb4⟩
set_option maxHeartbeats 400000 in
theorem walk_FnExactBlockIn (a b : Int) (_ : (Lit.int .i64 a).wf = true) (_ : (Lit.int .i64 b).wf = true) (x y : Int) (_ : (Lit.int .i64 x).wf = true) (_ : (Lit.int .i64 y).wf = true) (w : World) :
    Calls Try.prog 11 #[.agg #[.int .i64 a, .int .i64 b], .agg #[.int .i64 x, .int .i64 y]] w fun e w' => e = .returned (.bool true) ∧ Below w.heap.size w w' := by
  obtain ⟨v, hv⟩ : ∃ v, inBlk a b x y = v := ⟨_, rfl⟩
  have hv1 := hid_in hv
  clear hv
  go_enter Try.func11, Try.ntmps11
  go_wp2_with fail
  refine wp_region_lat (Below.refl _ _) (by kernel_rfl) (by kernel_rfl) ?_
  intro hne hcl
  repeat (go_big_quiet_step (first | (go_at_call 34; exact lat_of (toBlock_any _ _ _)) | (go_at_call 25; exact lat_of (inS _ _ _ _ _ v hv1.out))))
  refine wpQuiet_nil ?_
  intro w1 hb1
  obtain ⟨hc1, hf1⟩ := bcell hb1
  clear hne hcl
  go_wp2_with fail
  clear hc1 hf1
  refine wp_region_lat hb1 (by kernel_rfl) (by kernel_rfl) ?_
  intro hne hcl
  repeat (go_big_quiet_step (first | (go_at_call 34; exact lat_of (toBlock_any _ _ _)) | (go_at_call 24; exact lat_of (inI _ _ _ _ _ v hv1.out))))
  refine wpQuiet_nil ?_
  intro w2 hb2
  obtain ⟨hc2, hf2⟩ := bcell hb2
  clear hne hcl
  go_wp2_with fail
  go_ret
  exact ⟨rfl, below_under (below_under hb2)⟩
set_option maxHeartbeats 400000 in
theorem walk_FnExactBlockMeets (a b : Int) (_ : (Lit.int .i64 a).wf = true) (_ : (Lit.int .i64 b).wf = true) (x y : Int) (_ : (Lit.int .i64 x).wf = true) (_ : (Lit.int .i64 y).wf = true) (w : World) :
    Calls Try.prog 12 #[.agg #[.int .i64 a, .int .i64 b], .agg #[.int .i64 x, .int .i64 y]] w fun e w' => e = .returned (.bool true) ∧ Below w.heap.size w w' := by
  obtain ⟨v, hv⟩ : ∃ v, meetB a b x y = v := ⟨_, rfl⟩
  have hv1 := hid_in hv
  clear hv
  go_enter Try.func12, Try.ntmps12
  go_wp2_with fail
  refine wp_region_lat (Below.refl _ _) (by kernel_rfl) (by kernel_rfl) ?_
  intro hne hcl
  repeat (go_big_quiet_step (first | (go_at_call 34; exact lat_of (toBlock_any _ _ _)) | (go_at_call 28; exact lat_of (meetsS _ _ _ _ _ v hv1.out))))
  refine wpQuiet_nil ?_
  intro w1 hb1
  obtain ⟨hc1, hf1⟩ := bcell hb1
  clear hne hcl
  go_wp2_with fail
  clear hc1 hf1
  refine wp_region_lat hb1 (by kernel_rfl) (by kernel_rfl) ?_
  intro hne hcl
  repeat (go_big_quiet_step (first | (go_at_call 34; exact lat_of (toBlock_any _ _ _)) | (go_at_call 22; exact lat_of (meetsI _ _ _ _ _ v hv1.out))))
  refine wpQuiet_nil ?_
  intro w2 hb2
  obtain ⟨hc2, hf2⟩ := bcell hb2
  clear hne hcl
  go_wp2_with fail
  go_ret
  exact ⟨rfl, below_under (below_under hb2)⟩
end Go.Proofs.Ytbcehchjinlacaa
