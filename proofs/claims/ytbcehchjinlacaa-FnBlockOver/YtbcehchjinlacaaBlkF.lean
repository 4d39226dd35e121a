/- What each function of blocks answers, in the program and in the specification, as contracts: the answer, and that nothing which was there has turned. The conditions stand at each theorem. -/
import Derived.Test.YtbcehchjinlacaaBlkE
import Derived.Deep.RegionHeld3
import Derived.Deep.DrawnRows
import Derived.Test.YtbcehchjinlacaaRegE
import Derived.Test.YtbcehchjinlacaaMath
import Derived.WalkKit
import Derived.WalkSpells
import Derived.WalkLawsBesides
import Derived.BigQuiet
import Derived.Deep.RegionWith
namespace Go.Proofs.Ytbcehchjinlacaa
open Go.RowKit Go.LatT Go.BlockM Go.RegE
set_option linter.unusedVariables false
set_option linter.unusedSimpArgs false
/-- The least block that has two; nothing where one is none. -/
def ovBase (a b x y : Int) : Int := if okB a b && okB x y then fl a (ovBits a x y b.toNat) else 0
def ovLen (a b x y : Int) : Int := if okB a b && okB x y then (ovBits a x y b.toNat : Int) else 0
theorem overS (a b x y : Int) (w : World) (p q : Int) (hp : ovBase a b x y = p) (hq : ovLen a b x y = q) :
    Calls Try.prog 29 #[.agg #[.int .i64 a, .int .i64 b], .agg #[.int .i64 x, .int .i64 y]] w fun e w' => e = .returned (.agg #[.int .i64 p, .int .i64 q]) ∧ Below w.heap.size w w' := by
  subst hp hq
  unfold ovBase ovLen
  cases h : okB a b && okB x y
  · exact overS_no a b x y w h
  · have h' := h
    rw [Bool.and_eq_true] at h'
    exact overS_yes a b x y w h'.1 h'.2
theorem overI (a b x y : Int) (w : World) (p q : Int) (hp : ovBase a b x y = p) (hq : ovLen a b x y = q) :
    Calls Try.prog 27 #[.agg #[.int .i64 a, .int .i64 b], .agg #[.int .i64 x, .int .i64 y]] w fun e w' => e = .returned (.agg #[.int .i64 p, .int .i64 q]) ∧ Below w.heap.size w w' := by
  subst hp hq
  unfold ovBase ovLen
  cases h : okB a b && okB x y
  · exact overI_no a b x y w h
  · have h' := h
    rw [Bool.and_eq_true] at h'
    exact overI_yes a b x y w h'.1 h'.2
theorem keep2 {a b x y : Int} {T : TypeId} {w w' : World} (hb : Below ((w.alloc (Obj.cells #[Value.int IntKind.i64 a, Value.int IntKind.i64 b] T)).alloc (Obj.cells #[Value.int IntKind.i64 x, Value.int IntKind.i64 y] T)).heap.size ((w.alloc (Obj.cells #[Value.int IntKind.i64 a, Value.int IntKind.i64 b] T)).alloc (Obj.cells #[Value.int IntKind.i64 x, Value.int IntKind.i64 y] T)) w') :
    Below ((w.alloc (Obj.cells #[Value.int IntKind.i64 a, Value.int IntKind.i64 b] T)).alloc (Obj.cells #[Value.int IntKind.i64 x, Value.int IntKind.i64 y] T)).heap.size ((w.alloc (Obj.cells #[Value.int IntKind.i64 a, Value.int IntKind.i64 b] T)).alloc (Obj.cells #[Value.int IntKind.i64 x, Value.int IntKind.i64 y] T)) w' ∧ w'.cell? ⟨w.heap.size, 0, none⟩ = some (.int .i64 a) ∧ w'.cell? ⟨w.heap.size, 1, none⟩ = some (.int .i64 b) ∧ w'.cell? ⟨w.heap.size + 1, 0, none⟩ = some (.int .i64 x) ∧ w'.cell? ⟨w.heap.size + 1, 1, none⟩ = some (.int .i64 y) := by
  obtain ⟨hc, _⟩ := bcell hb
  refine ⟨hb, ?_, ?_, ?_, ?_⟩
  · rw [hc _ _ (by simp <;> omega)]; go_simp
  · rw [hc _ _ (by simp <;> omega)]; go_simp
  · rw [hc _ _ (by simp <;> omega)]; go_simp
  · rw [hc _ _ (by simp <;> omega)]; go_simp
def postOver (p q : Int) (f : FuncId) (args : Array Value) (u : Value) : Prop := (f = 34 → args = #[u]) ∧ (f = 29 → u = .agg #[.int .i64 p, .int .i64 q]) ∧ (f = 27 → u = .agg #[.int .i64 p, .int .i64 q])
set_option maxHeartbeats 1000000 in
theorem walk_FnExactBlockOver (a b : Int) (_ : (Lit.int .i64 a).wf = true) (_ : (Lit.int .i64 b).wf = true) (x y : Int) (_ : (Lit.int .i64 x).wf = true) (_ : (Lit.int .i64 y).wf = true) (w : World) :
    Calls Try.prog 14 #[.agg #[.int .i64 a, .int .i64 b], .agg #[.int .i64 x, .int .i64 y]] w fun e w' => e = .returned (.bool true) ∧ Below w.heap.size w w' := by
  obtain ⟨p, hp⟩ : ∃ v, ovBase a b x y = v := ⟨_, rfl⟩
  obtain ⟨q, hq⟩ : ∃ v, ovLen a b x y = v := ⟨_, rfl⟩
  have hp1 := hid_in hp
  have hq1 := hid_in hq
  clear hp hq
  go_enter Try.func14, Try.ntmps14
  go_wp2_with fail
  refine wp_region_E (Bel ((w.alloc (Obj.cells #[Value.int IntKind.i64 a, Value.int IntKind.i64 b] 38)).alloc (Obj.cells #[Value.int IntKind.i64 x, Value.int IntKind.i64 y] 38))) ((w.alloc (Obj.cells #[Value.int IntKind.i64 a, Value.int IntKind.i64 b] 38)).alloc (Obj.cells #[Value.int IntKind.i64 x, Value.int IntKind.i64 y] 38)).heap.size (postOver p q) (by kernel_rfl) (by dsimp only [List.dropLast]) (by simp only [List.getLast?_cons_cons, List.getLast?_singleton]; rfl) (by kernel_rfl) ((Below.refl _ _).drew) (bel_alloc _) (bel_size _) ?_
  have hne := bel_some ((w.alloc (Obj.cells #[Value.int IntKind.i64 a, Value.int IntKind.i64 b] 38)).alloc (Obj.cells #[Value.int IntKind.i64 x, Value.int IntKind.i64 y] 38))
  have hcl := bel_cell ((w.alloc (Obj.cells #[Value.int IntKind.i64 a, Value.int IntKind.i64 b] 38)).alloc (Obj.cells #[Value.int IntKind.i64 x, Value.int IntKind.i64 y] 38))
  refine wpE_one rfl rfl ?_
  go_big_quiet_step (fail)
  refine wpQuiet_nil ?_
  refine wpE_call (by rfl) (fun _ => by go_simp) (bel_contract (.agg #[.int .i64 a, .int .i64 b]) (fun w => toBlock_any a b w) ⟨fun _ => rfl, by simp, by simp⟩) ?_
  rintro u ⟨hu, _⟩
  obtain rfl : .agg #[.int .i64 a, .int .i64 b] = u := by simpa using hu rfl
  clear hu
  simp only [Act.put, List.setIfInBounds_toArray, List.set_cons_succ, List.set_cons_zero]
  refine wpE_one rfl rfl ?_
  go_big_quiet_step (fail)
  refine wpQuiet_nil ?_
  refine wpE_call (by rfl) (fun _ => by go_simp) (bel_contract (.agg #[.int .i64 x, .int .i64 y]) (fun w => toBlock_any x y w) ⟨fun _ => rfl, by simp, by simp⟩) ?_
  rintro u ⟨hu, _⟩
  obtain rfl : .agg #[.int .i64 x, .int .i64 y] = u := by simpa using hu rfl
  clear hu
  simp only [Act.put, List.setIfInBounds_toArray, List.set_cons_succ, List.set_cons_zero]
  refine wpE_call (by rfl) (fun _ => by go_simp) (bel_contract (.agg #[.int .i64 p, .int .i64 q]) (fun w => overS a b x y w p q hp1.out hq1.out) ⟨by simp, fun _ => rfl, by simp⟩) ?_
  rintro u ⟨_, hu, _⟩
  obtain rfl : u = .agg #[.int .i64 p, .int .i64 q] := hu rfl
  clear hu
  simp only [Act.put, List.setIfInBounds_toArray, List.set_cons_succ, List.set_cons_zero]
  refine wpE_new (mk := fun g => .pointer (some ⟨g, 0, none⟩)) (ob := .cells #[.int .i64 0, .int .i64 0] 24) (by rfl) (bel_size _) (fun _ => by go_simp) ?_
  intro g1 hg1
  simp only [Act.put, List.setIfInBounds_toArray, List.set_cons_succ, List.set_cons_zero]
  refine wpE_nil ?_
  intro _ w1 hb1 hh
  have hh1 := hh (g1, .cells #[.int .i64 0, .int .i64 0] 24) (by simp)
  have c0 := held_cell hh1 0 (by simp)
  have c1 := held_cell hh1 1 (by simp)
  have f0 := held_frozen hh1 0
  have f1 := held_frozen hh1 1
  have hl1 := held_lt hh1
  clear hh hh1 hne hcl
  simp at c0 c1 hg1 hl1
  go_wp2_with fail
  obtain ⟨k0, k1, k2, k3, k4⟩ := keep2 hb1
  have hs1 := hb1.size
  simp at hs1
  have n1 : ¬ g1 = w.heap.size := by omega
  have n2 : ¬ g1 = w.heap.size + 1 := by omega
  have n3 : ¬ w.heap.size = g1 := by omega
  have n4 : ¬ w.heap.size + 1 = g1 := by omega
  obtain ⟨w2, hw2⟩ : ∃ w2, w2 = ((w1.setCell ⟨g1, 0, none⟩ (.int .i64 p)).setCell ⟨g1, 1, none⟩ (.int .i64 q)) := ⟨_, rfl⟩
  have d0 : w2.cell? ⟨w.heap.size, 0, none⟩ = some (.int .i64 a) := by rw [hw2]; go_simp
  have d1 : w2.cell? ⟨w.heap.size, 1, none⟩ = some (.int .i64 b) := by rw [hw2]; go_simp
  have d2 : w2.cell? ⟨w.heap.size + 1, 0, none⟩ = some (.int .i64 x) := by rw [hw2]; go_simp
  have d3 : w2.cell? ⟨w.heap.size + 1, 1, none⟩ = some (.int .i64 y) := by rw [hw2]; go_simp
  have d4 : w2.cell? ⟨g1, 0, none⟩ = some (.int .i64 p) := by rw [hw2]; go_simp
  have d5 : w2.cell? ⟨g1, 1, none⟩ = some (.int .i64 q) := by rw [hw2]; go_simp
  have d6 : w.heap.size < w2.heap.size := by rw [hw2]; simp; omega
  have d7 : w.heap.size + 1 < w2.heap.size := by rw [hw2]; simp; omega
  have d8 : g1 < w2.heap.size := by rw [hw2]; simpa using hl1
  have hz2 : Below w.heap.size w w2 := by rw [hw2]; exact ((below_under (below_under hb1)).setCell (by simp; omega) _).setCell (by simp; omega) _
  rw [← hw2]
  clear hw2 k0 k1 k2 k3 k4 c0 c1 f0 f1 hl1 hb1
  refine wp_region_E (Bel w2) w2.heap.size (postOver p q) (by kernel_rfl) (by dsimp only [List.dropLast]) (by simp only [List.getLast?_cons_cons, List.getLast?_singleton]; rfl) (by kernel_rfl) ((Below.refl _ _).drew) (bel_alloc _) (bel_size _) ?_
  have hne := bel_some w2
  have hcl := bel_cell w2
  refine wpE_one rfl rfl ?_
  go_big_quiet_step (fail)
  refine wpQuiet_nil ?_
  refine wpE_call (by rfl) (fun _ => by go_simp) (bel_contract (.agg #[.int .i64 a, .int .i64 b]) (fun w => toBlock_any a b w) ⟨fun _ => rfl, by simp, by simp⟩) ?_
  rintro u ⟨hu, _⟩
  obtain rfl : .agg #[.int .i64 a, .int .i64 b] = u := by simpa using hu rfl
  clear hu
  simp only [Act.put, List.setIfInBounds_toArray, List.set_cons_succ, List.set_cons_zero]
  refine wpE_one rfl rfl ?_
  go_big_quiet_step (fail)
  refine wpQuiet_nil ?_
  refine wpE_call (by rfl) (fun _ => by go_simp) (bel_contract (.agg #[.int .i64 x, .int .i64 y]) (fun w => toBlock_any x y w) ⟨fun _ => rfl, by simp, by simp⟩) ?_
  rintro u ⟨hu, _⟩
  obtain rfl : .agg #[.int .i64 x, .int .i64 y] = u := by simpa using hu rfl
  clear hu
  simp only [Act.put, List.setIfInBounds_toArray, List.set_cons_succ, List.set_cons_zero]
  refine wpE_call (by rfl) (fun _ => by go_simp) (bel_contract (.agg #[.int .i64 p, .int .i64 q]) (fun w => overI a b x y w p q hp1.out hq1.out) ⟨by simp, by simp, fun _ => rfl⟩) ?_
  rintro u ⟨_, _, hu⟩
  obtain rfl : u = .agg #[.int .i64 p, .int .i64 q] := hu rfl
  clear hu
  simp only [Act.put, List.setIfInBounds_toArray, List.set_cons_succ, List.set_cons_zero]
  refine wpE_new (mk := fun g => .pointer (some ⟨g, 0, none⟩)) (ob := .cells #[.int .i64 0, .int .i64 0] 24) (by rfl) (bel_size _) (fun _ => by go_simp) ?_
  intro g2 hg2
  simp only [Act.put, List.setIfInBounds_toArray, List.set_cons_succ, List.set_cons_zero]
  refine wpE_nil ?_
  intro _ w3 hb3 hh
  have hh1 := hh (g2, .cells #[.int .i64 0, .int .i64 0] 24) (by simp)
  have c0 := held_cell hh1 0 (by simp)
  have c1 := held_cell hh1 1 (by simp)
  have f0 := held_frozen hh1 0
  have f1 := held_frozen hh1 1
  have hl1 := held_lt hh1
  clear hh hh1 hne hcl
  simp at c0 c1 hg2 hl1
  obtain ⟨hc3, hf3⟩ := bcell hb3
  have e4 : w3.cell? ⟨g1, 0, none⟩ = some (.int .i64 p) := by rw [hc3 _ _ d8]; exact d4
  have e5 : w3.cell? ⟨g1, 1, none⟩ = some (.int .i64 q) := by rw [hc3 _ _ d8]; exact d5
  have n5 : ¬ g1 = g2 := by omega
  have n6 : ¬ g2 = g1 := by omega
  clear hc3 hf3 d0 d1 d2 d3 d4 d5
  go_wp2_with fail
  refine (eqBlock_any p q p q _ true (by simp)).mono ?_
  rintro e w1 ⟨rfl, hb1⟩
  obtain ⟨hc1, hf1⟩ := bcell hb1
  go_wp2_with fail
  go_ret
  exact ⟨rfl, below_later (((below_later hz2 hb3).setCell (by simp; omega) _).setCell (by simp; omega) _) hb1⟩
end Go.Proofs.Ytbcehchjinlacaa
