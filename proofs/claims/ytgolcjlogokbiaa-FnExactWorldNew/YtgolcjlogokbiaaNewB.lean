/- Two new gates, two new worlds, held against each other, as contracts, and the walks of the exact laws. No conditions. -/
import Derived.Test.YtgolcjlogokbiaaNewA
namespace Go.Proofs.Ytgolcjlogokbiaa
open Go.RowKit Go.LatT
set_option linter.unusedVariables false
set_option linter.unusedSimpArgs false

set_option maxHeartbeats 1000000 in
set_option maxRecDepth 100000 in
theorem eqGate_new (w : World) : Calls Try.prog 18 #[vG0, vG0] w fun e w' => e = .returned (.bool true) ∧ Below w.heap.size w w' := by
  go_enter Try.func18, Try.ntmps18
  go_wp2_with (first | (go_at_call 34; refine (eqRuleS_nil _).mono ?_; rintro e w9 ⟨rfl, rfl⟩))
  refine (eqCache_new _).mono ?_
  rintro e w1 ⟨rfl, hb1⟩
  obtain ⟨hc1, hf1⟩ := bcell hb1
  go_wp2_with (first | (go_at_call 36; refine (eqSaS_nil _).mono ?_; rintro e w9 ⟨rfl, rfl⟩))
  go_ret
  exact ⟨rfl, below_later (by go_grown) hb1⟩

set_option maxHeartbeats 1000000 in
set_option maxRecDepth 100000 in
theorem markGate_new (w : World) : Calls Try.prog 19 #[vG0, .int .i64 1] w fun e w' => e = .returned (.int .i64 1) ∧ Below w.heap.size w w' := by
  go_enter Try.func19, Try.ntmps19
  go_wp2_with (first | (go_at_call 37; refine (markRuleS_nil _).mono ?_; rintro e w9 ⟨rfl, rfl⟩))
  refine (markCache_new _).mono ?_
  rintro e w1 ⟨rfl, hb1⟩
  obtain ⟨hc1, hf1⟩ := bcell hb1
  go_wp2_with (first | (go_at_call 39; refine (markSaS_nil _).mono ?_; rintro e w9 ⟨rfl, rfl⟩))
  go_ret
  exact ⟨rfl, below_later (by go_grown) hb1⟩

set_option maxHeartbeats 1000000 in
set_option maxRecDepth 100000 in
theorem heldGate_new (w : World) : Calls Try.prog 20 #[vG0, .int .i64 1] w fun e w' => e = .returned (.int .i64 1) ∧ Below w.heap.size w w' := by
  go_enter Try.func20, Try.ntmps20
  go_wp2_with (first | (go_at_call 40; refine (heldRuleS_nil _).mono ?_; rintro e w9 ⟨rfl, rfl⟩))
  refine (heldCache_new _).mono ?_
  rintro e w1 ⟨rfl, hb1⟩
  obtain ⟨hc1, hf1⟩ := bcell hb1
  go_wp2_with (first | (go_at_call 42; refine (heldSaS_nil _).mono ?_; rintro e w9 ⟨rfl, rfl⟩))
  go_ret
  exact ⟨rfl, below_later (by go_grown) hb1⟩


set_option maxHeartbeats 1000000 in
set_option maxRecDepth 100000 in
theorem worldNew_spec (w : World) : Calls Try.prog 21 #[] w fun e w' => e = .returned vW0 ∧ Below w.heap.size w w' := by
  go_enter Try.func21, Try.ntmps21
  go_wp2_with fail
  refine (gateNew_spec _).mono ?_
  rintro e w1 ⟨rfl, hb1⟩
  go_wp2_with fail
  refine (gateNew_spec _).mono ?_
  rintro e w2 ⟨rfl, hb2⟩
  have hb := below_later hb1 hb2
  have hz : w.heap.size < w2.heap.size := by have := hb.size; simp at this; omega
  obtain ⟨hc1, hf1⟩ := bcell hb
  clear hb1 hb2
  go_wp2_with fail
  refine bodyPost_ret (v := vW0) (by simp [results, Try.results21, go_sem, hc1, hz]) rfl ⟨rfl, ?_⟩
  have h0 : Below w.heap.size w w2 := below_later (below_box w _) hb
  iterate 15 refine Below.setCell ?_ (by simp) _
  exact h0

set_option maxHeartbeats 1000000 in
set_option maxRecDepth 100000 in
theorem worldNew_impl (w : World) : Calls Try.prog 22 #[] w fun e w' => e = .returned vW0 ∧ Below w.heap.size w w' := by
  go_enter Try.func22, Try.ntmps22
  go_wp2_with fail
  refine (gateNew_impl _).mono ?_
  rintro e w1 ⟨rfl, hb1⟩
  go_wp2_with fail
  refine (gateNew_impl _).mono ?_
  rintro e w2 ⟨rfl, hb2⟩
  have hb := below_later hb1 hb2
  have hz : w.heap.size < w2.heap.size := by have := hb.size; simp at this; omega
  obtain ⟨hc1, hf1⟩ := bcell hb
  clear hb1 hb2
  go_wp2_with fail
  refine bodyPost_ret (v := vW0) (by simp [results, Try.results22, go_sem, hc1, hz]) rfl ⟨rfl, ?_⟩
  have h0 : Below w.heap.size w w2 := below_later (below_box w _) hb
  iterate 15 refine Below.setCell ?_ (by simp) _
  exact h0

set_option maxHeartbeats 1000000 in
set_option maxRecDepth 100000 in
theorem eqWorld_new (w : World) : Calls Try.prog 23 #[vW0, vW0] w fun e w' => e = .returned (.bool true) ∧ Below w.heap.size w w' := by
  go_enter Try.func23, Try.ntmps23
  go_wp2_with fail
  refine (eqGate_new _).mono ?_
  rintro e w1 ⟨rfl, hb1⟩
  obtain ⟨hc1, hf1⟩ := bcell hb1
  go_wp2_with fail
  refine (eqGate_new _).mono ?_
  rintro e w2 ⟨rfl, hb2⟩
  clear hc1 hf1
  have hb := below_later hb1 hb2
  clear hb1 hb2
  obtain ⟨hc1, hf1⟩ := bcell hb
  go_wp2_with (first | (go_at_call 43; refine (eqAirS_nil _).mono ?_; rintro e w9 ⟨rfl, rfl⟩) | (go_at_call 44; refine (eqSentS_nil _).mono ?_; rintro e w9 ⟨rfl, rfl⟩))
  go_ret
  exact ⟨rfl, below_later (by go_grown) hb⟩

set_option maxHeartbeats 1000000 in
set_option maxRecDepth 100000 in
theorem markWorld_new (w : World) : Calls Try.prog 24 #[vW0, .int .i64 1] w fun e w' => e = .returned (.int .i64 1) ∧ Below w.heap.size w w' := by
  go_enter Try.func24, Try.ntmps24
  go_wp2_with fail
  refine (markGate_new _).mono ?_
  rintro e w1 ⟨rfl, hb1⟩
  obtain ⟨hc1, hf1⟩ := bcell hb1
  go_wp2_with fail
  refine (markGate_new _).mono ?_
  rintro e w2 ⟨rfl, hb2⟩
  clear hc1 hf1
  have hb := below_later hb1 hb2
  clear hb1 hb2
  obtain ⟨hc1, hf1⟩ := bcell hb
  go_wp2_with (first | (go_at_call 45; refine (markAirS_nil _).mono ?_; rintro e w9 ⟨rfl, rfl⟩) | (go_at_call 46; refine (markSentS_nil _).mono ?_; rintro e w9 ⟨rfl, rfl⟩))
  go_ret
  exact ⟨rfl, below_later (by go_grown) hb⟩

set_option maxHeartbeats 1000000 in
set_option maxRecDepth 100000 in
theorem heldWorld_new (w : World) : Calls Try.prog 25 #[vW0, .int .i64 1] w fun e w' => e = .returned (.int .i64 1) ∧ Below w.heap.size w w' := by
  go_enter Try.func25, Try.ntmps25
  go_wp2_with fail
  refine (heldGate_new _).mono ?_
  rintro e w1 ⟨rfl, hb1⟩
  obtain ⟨hc1, hf1⟩ := bcell hb1
  go_wp2_with fail
  refine (heldGate_new _).mono ?_
  rintro e w2 ⟨rfl, hb2⟩
  clear hc1 hf1
  have hb := below_later hb1 hb2
  clear hb1 hb2
  obtain ⟨hc1, hf1⟩ := bcell hb
  go_wp2_with (first | (go_at_call 47; refine (heldAirS_nil _).mono ?_; rintro e w9 ⟨rfl, rfl⟩) | (go_at_call 48; refine (heldSentS_nil _).mono ?_; rintro e w9 ⟨rfl, rfl⟩))
  go_ret
  exact ⟨rfl, below_later (by go_grown) hb⟩
end Go.Proofs.Ytgolcjlogokbiaa
