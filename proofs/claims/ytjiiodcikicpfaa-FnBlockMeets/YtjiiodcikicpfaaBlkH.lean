/- What each function of blocks answers, in the program and in the specification, as contracts: the answer, and that nothing which was there has turned. The conditions stand at each theorem. -/
import Derived.Test.YtjiiodcikicpfaaBlkC
import Derived.Test.YtjiiodcikicpfaaRegE
import Derived.Test.YtjiiodcikicpfaaMath
import Derived.WalkKit
import Derived.WalkSpells
import Derived.WalkLawsBesides
import Derived.BigQuiet
import Derived.Deep.RegionWith
namespace Go.Proofs.Ytjiiodcikicpfaa
open Go.RowKit Go.LatT Go.BlockM Go.RegE
set_option linter.unusedVariables false
set_option linter.unusedSimpArgs false
def postHalf (a b p : Int) (f : FuncId) (args : Array Value) (u : Value) : Prop := (f = 52 → args = #[u]) ∧ (f = 51 → (args = #[.agg #[.int .i64 a, .int .i64 b], .int .i64 0] → u = .agg #[.int .i64 a, .int .i64 (b + 1)]) ∧ (args = #[.agg #[.int .i64 a, .int .i64 b], .int .i64 1] → u = .agg #[.int .i64 p, .int .i64 (b + 1)]))
set_option maxHeartbeats 1000000 in
set_option maxRecDepth 100000 in
theorem halvesI_yes (a b : Int) (w : World) (h : okB a b = true) (hb : b ≠ 32) :
    Calls Try.prog 15 #[.agg #[.int .i64 a, .int .i64 b]] w fun e w' => e = .returned (.tuple #[.agg #[.int .i64 a, .int .i64 (b + 1)], .agg #[.int .i64 (a + pw (32 - (b + 1))), .int .i64 (b + 1)], .bool true]) ∧ Below w.heap.size w w' := by
  have h2 := hid_in h
  obtain ⟨a0, a1, b0, b1, _⟩ := ok_of h
  have h3 : (b == 32) = false := by simp [hb]
  have hb31 : b ≤ 31 := by omega
  have he : Hid (pw (32 - b) / 2 = pw (32 - (b + 1))) := by show _ = _; rw [show 32 - b = 32 - (b + 1) + 1 by omega, pw_succ _ (by omega)]; omega
  have half0 : ∀ w, Calls Try.prog 51 #[.agg #[.int .i64 a, .int .i64 b], .int .i64 0] w fun e w' => e = .returned (.agg #[.int .i64 a, .int .i64 (b + 1)]) ∧ Below w.heap.size w w' := fun w => by
    have := half_any a b 0 w a0 a1 b0 hb31 (by omega) (by omega)
    simpa using this
  have half1 : ∀ w, Calls Try.prog 51 #[.agg #[.int .i64 a, .int .i64 b], .int .i64 1] w fun e w' => e = .returned (.agg #[.int .i64 (a + pw (32 - (b + 1))), .int .i64 (b + 1)]) ∧ Below w.heap.size w w' := fun w => by
    have := half_any a b 1 w a0 a1 b0 hb31 (by omega) (by omega)
    rw [he.out] at this
    simpa using this
  have H0 := hid_in half0
  have H1 := hid_in half1
  clear h hb half0 half1 he
  go_enter Try.func15, Try.ntmps15
  go_wp2_with fail
  refine (blockOkI a b _ _ h2.out).mono ?_
  rintro e w1 ⟨rfl, hb1⟩
  obtain ⟨hc1, hf1⟩ := bcell hb1
  go_wp2_with fail
  refine (prefixOf_any a b _).mono ?_
  rintro e w2 ⟨rfl, hq2⟩
  have hb2 := below_later hb1 hq2
  clear hq2 hc1 hf1
  obtain ⟨hc2, hf2⟩ := bcell hb2
  go_wp2_with fail
  have hs2 : w.heap.size + 1 + 1 < w2.heap.size := by have := hb2.size; simp at this; omega
  have q1 : w2.heap[w.heap.size + 1]? = some (.cells #[.int .i64 0, .int .i64 0] 24) := by rw [hb2.block _ (by simp), Below.heap_alloc _ _ _ (by simp)]; exact heap_new _ _ _ (by simp)
  have q2 : w2.heap[w.heap.size + 1 + 1]? = some (.cells #[.int .i64 0, .int .i64 0] 24) := by rw [hb2.block _ (by simp)]; exact heap_new _ _ _ (by simp)
  have hz2 : Below w.heap.size w w2 := below_under (below_under (below_under hb2))
  clear hc2 hf2 hb2 hb1
  obtain ⟨w3, hw3⟩ : ∃ w3, w3 = w2.alloc (Obj.cells #[Value.int IntKind.i64 a, Value.int IntKind.i64 b] 73) := ⟨_, rfl⟩
  have z3 : Below w.heap.size w w3 := by rw [hw3]; exact below_later hz2 (below_box _ _)
  have s3 : w3.heap.size = w2.heap.size + 1 := by rw [hw3]; simp
  have q1' : w3.heap[w.heap.size + 1]? = some (.cells #[.int .i64 0, .int .i64 0] 24) := by rw [hw3, Below.heap_alloc _ _ _ (by omega)]; exact q1
  have q2' : w3.heap[w.heap.size + 1 + 1]? = some (.cells #[.int .i64 0, .int .i64 0] 24) := by rw [hw3, Below.heap_alloc _ _ _ (by omega)]; exact q2
  have q3' : w3.heap[w2.heap.size]? = some (.cells #[.int .i64 a, .int .i64 b] 73) := by rw [hw3]; exact heap_new _ _ _ rfl
  rw [← hw3]
  clear hw3 q1 q2
  have hS : w.heap.size + 1 ≤ w3.heap.size := by omega
  have c0 : Cls w3 (w.heap.size + 1) [(w2.heap.size, .cells #[.int .i64 a, .int .i64 b] 73)] [w.heap.size + 1, w.heap.size + 1 + 1] 24 0 w3 := ⟨Below.refl _ _, fun p hp => by rcases List.mem_singleton.1 hp with rfl; exact q3', fun r hr => by
    rcases List.mem_cons.1 hr with rfl | hr
    · exact ⟨_, _, q1'⟩
    · rcases List.mem_singleton.1 hr with rfl; exact ⟨_, _, q2'⟩⟩
  refine wp_region_E0 (Cls w3 (w.heap.size + 1) [(w2.heap.size, .cells #[.int .i64 a, .int .i64 b] 73)] [w.heap.size + 1, w.heap.size + 1 + 1] 24) (w.heap.size + 1) (w.heap.size + 1 + 1 + 1) (postHalf a b (a + pw (32 - (b + 1)))) (pairSh 24) (ownBy [2, 3] (fun t => if t = 2 then w.heap.size + 1 else w.heap.size + 1 + 1))
    (by kernel_rfl) (by kernel_rfl) (by simp) c0.drew (Cls.alloc (Cls.size hS)) (Cls.size hS) (fun n v h => by have := h.below.size; omega)
    (ownB_of_key (by kernel_rfl) (by simp)) ?hp ?_
  case hp =>
    intro x _ g hg
    obtain ⟨t, ht, rfl⟩ := ownBy_mem hg
    rcases List.mem_cons.1 ht with rfl | ht
    · exact ⟨by simp, by simp <;> omega, Cls.put (by simp) (by simp <;> omega)⟩
    · rcases List.mem_singleton.1 ht with rfl
      exact ⟨by simp <;> omega, by simp <;> omega, Cls.put (by simp <;> omega) (by simp <;> omega)⟩
  have hne : Nonempty (LatC (Cls w3 (w.heap.size + 1) [(w2.heap.size, .cells #[.int .i64 a, .int .i64 b] 73)] [w.heap.size + 1, w.heap.size + 1 + 1] 24)) := ⟨⟨0, w3, c0⟩⟩
  have hk0 : ∀ l : LatC (Cls w3 (w.heap.size + 1) [(w2.heap.size, .cells #[.int .i64 a, .int .i64 b] 73)] [w.heap.size + 1, w.heap.size + 1 + 1] 24), l.x.cell? ⟨w2.heap.size, 0, none⟩ = some (.int .i64 a) := fun l => (pair_cells (l.h.known (w2.heap.size, .cells #[.int .i64 a, .int .i64 b] 73) (by simp))).1
  have hk1 : ∀ l : LatC (Cls w3 (w.heap.size + 1) [(w2.heap.size, .cells #[.int .i64 a, .int .i64 b] 73)] [w.heap.size + 1, w.heap.size + 1 + 1] 24), l.x.cell? ⟨w2.heap.size, 1, none⟩ = some (.int .i64 b) := fun l => (pair_cells (l.h.known (w2.heap.size, .cells #[.int .i64 a, .int .i64 b] 73) (by simp))).2.1
  refine wpE_one rfl rfl ?_
  go_big_quiet_step (fail)
  refine wpQuiet_nil ?_
  refine wpE_call (by rfl) (fun _ => by go_simp) (Cls.contract hS (.agg #[.int .i64 a, .int .i64 (b + 1)]) (fun w => H0.out w) ⟨by simp, fun _ => ⟨fun _ => rfl, by simp⟩⟩) ?_
  rintro u ⟨_, hu⟩
  obtain rfl : u = .agg #[.int .i64 a, .int .i64 (b + 1)] := (hu rfl).1 rfl
  clear hu
  simp only [Act.put, List.setIfInBounds_toArray, List.set_cons_succ, List.set_cons_zero]
  refine wpE_call (by rfl) (fun _ => by go_simp) (Cls.contract hS (.agg #[.int .i64 a, .int .i64 (b + 1)]) (fun w => pblock_any a (b + 1) w) ⟨fun _ => rfl, by simp⟩) ?_
  rintro u ⟨hu, _⟩
  obtain rfl : .agg #[.int .i64 a, .int .i64 (b + 1)] = u := by simpa using hu rfl
  clear hu
  simp only [Act.put, List.setIfInBounds_toArray, List.set_cons_succ, List.set_cons_zero]
  refine wpE_one rfl rfl ?_
  go_big_quiet_step (fail)
  refine wpQuiet_nil ?_
  refine wpE_call (by rfl) (fun _ => by go_simp) (Cls.contract hS (.agg #[.int .i64 (a + pw (32 - (b + 1))), .int .i64 (b + 1)]) (fun w => H1.out w) ⟨by simp, fun _ => ⟨by simp, fun _ => rfl⟩⟩) ?_
  rintro u ⟨_, hu⟩
  obtain rfl : u = .agg #[.int .i64 (a + pw (32 - (b + 1))), .int .i64 (b + 1)] := (hu rfl).2 rfl
  clear hu
  simp only [Act.put, List.setIfInBounds_toArray, List.set_cons_succ, List.set_cons_zero]
  refine wpE_call (by rfl) (fun _ => by go_simp) (Cls.contract hS (.agg #[.int .i64 (a + pw (32 - (b + 1))), .int .i64 (b + 1)]) (fun w => pblock_any (a + pw (32 - (b + 1))) (b + 1) w) ⟨fun _ => rfl, by simp⟩) ?_
  rintro u ⟨hu, _⟩
  obtain rfl : .agg #[.int .i64 (a + pw (32 - (b + 1))), .int .i64 (b + 1)] = u := by simpa using hu rfl
  clear hu
  simp only [Act.put, List.setIfInBounds_toArray, List.set_cons_succ, List.set_cons_zero]
  refine wpE_poke (g := w.heap.size + 1) (ob := .cells #[.int .i64 a, .int .i64 (b + 1)] 24) (by rfl) rfl ⟨_, _, rfl⟩ (fun n v h => by have := h.below.size; omega) (fun n v h => by
    obtain ⟨x0, x1, hx⟩ := h.pair (w.heap.size + 1) (by simp)
    obtain ⟨o0, o1, o2, o3⟩ := pair_cells hx
    rw [← set_pair _ _ hx]
    go_simp) ?_
  simp only [Act.put, List.setIfInBounds_toArray, List.set_cons_succ, List.set_cons_zero]
  refine wpE_poke (g := w.heap.size + 1 + 1) (ob := .cells #[.int .i64 (a + pw (32 - (b + 1))), .int .i64 (b + 1)] 24) (by rfl) rfl ⟨_, _, rfl⟩ (fun n v h => by have := h.below.size; omega) (fun n v h => by
    obtain ⟨x0, x1, hx⟩ := h.pair (w.heap.size + 1 + 1) (by simp)
    obtain ⟨o0, o1, o2, o3⟩ := pair_cells hx
    rw [← set_pair _ _ hx]
    go_simp) ?_
  simp only [Act.put, List.setIfInBounds_toArray, List.set_cons_succ, List.set_cons_zero]
  refine wpE_one rfl rfl ?_
  go_big_quiet_step (fail)
  refine wpQuiet_nil ?_
  refine wpE_nil ?_
  intro _ w4 hC hh
  obtain ⟨o0, o1, _, _⟩ := pair_cells (hh (w.heap.size + 1, .cells #[.int .i64 a, .int .i64 (b + 1)] 24) (by simp)).2
  obtain ⟨o2, o3, _, _⟩ := pair_cells (hh (w.heap.size + 1 + 1, .cells #[.int .i64 (a + pw (32 - (b + 1))), .int .i64 (b + 1)] 24) (by simp)).2
  have hz4 : Below w.heap.size w w4 := z3.trans (hC.below.mono (by omega))
  clear hh hC hne hk0 hk1 c0
  go_wp2_with fail
  exact bodyPost_ret (v := .tuple #[.agg #[.int .i64 a, .int .i64 (b + 1)], .agg #[.int .i64 (a + pw (32 - (b + 1))), .int .i64 (b + 1)], .bool true]) (by simp [results, Try.results15, go_sem, o0, o1, o2, o3]) rfl ⟨rfl, hz4⟩
end Go.Proofs.Ytjiiodcikicpfaa
