/- The walks of the exact laws of new gates and worlds. No conditions. -/
import Derived.Test.YtgolcjlogokbiaaNewB
namespace Go.Proofs.Ytgolcjlogokbiaa
open Go.RowKit Go.LatT
set_option linter.unusedVariables false
set_option linter.unusedSimpArgs false
/-- A new one lies in a block. -/
structure GBx (w : World) (g : Nat) : Prop where
  lt : g < w.heap.size
  c0 : w.cell? ⟨g, 0, none⟩ = some (.int .i64 0)
  c1 : w.cell? ⟨g, 1, none⟩ = some (.slice none 0 0)
  c2 : w.cell? ⟨g, 2, none⟩ = some (.int .i64 4)
  c3 : w.cell? ⟨g, 3, none⟩ = some (.slice none 0 0)
  c4 : w.cell? ⟨g, 4, none⟩ = some (.slice none 0 0)
  c5 : w.cell? ⟨g, 5, none⟩ = some (.slice none 0 0)
theorem GBx.later {w w' : World} {g : Nat} (h : GBx w g) (hb : Below w.heap.size w w') : GBx w' g :=
  have q := fun o => (bcell hb).1 g o h.lt
  ⟨Nat.lt_of_lt_of_le h.lt hb.size, (q _).trans h.c0, (q _).trans h.c1, (q _).trans h.c2, (q _).trans h.c3, (q _).trans h.c4, (q _).trans h.c5⟩
theorem GBx.new (w : World) (ty : TypeId) : GBx (w.alloc (.cells #[.int .i64 0, .slice none 0 0, .int .i64 4, .slice none 0 0, .slice none 0 0, .slice none 0 0] ty)) w.heap.size := ⟨by simp, by go_simp, by go_simp, by go_simp, by go_simp, by go_simp, by go_simp⟩
set_option maxHeartbeats 2000000 in
set_option maxRecDepth 100000 in
theorem walk_FnExactGateNew (w : World) : Calls Try.prog 6 #[] w fun e w' => e = .returned (.bool true) ∧ Below w.heap.size w w' := by
  go_enter Try.func6, Try.ntmps6
  go_wp2_with fail
  refine (gateNew_spec _).mono ?_
  rintro e w1 ⟨rfl, hb1⟩
  go_wp2_with fail
  have B1 := hid_in (GBx.new w1 38)
  have Z1 := hid_in (below_later hb1 (below_box w1 (.cells #[.int .i64 0, .slice none 0 0, .int .i64 4, .slice none 0 0, .slice none 0 0, .slice none 0 0] 38)))
  clear hb1
  refine (gateNew_impl _).mono ?_
  rintro e w2 ⟨rfl, hb2⟩
  replace B1 := hid_in (B1.out.later hb2)
  have Z2 := hid_in (below_later Z1.out hb2)
  obtain ⟨l1, a0, a1, a2, a3, a4, a5⟩ := B1.out
  clear hb2 Z1
  generalize w1.heap.size = g1 at *
  go_wp2_with fail
  have B2 := hid_in (GBx.new w2 38)
  have Z3 := hid_in (below_later Z2.out (below_box w2 (.cells #[.int .i64 0, .slice none 0 0, .int .i64 4, .slice none 0 0, .slice none 0 0, .slice none 0 0] 38)))
  replace B1 := hid_in (B1.out.later (below_box w2 (.cells #[.int .i64 0, .slice none 0 0, .int .i64 4, .slice none 0 0, .slice none 0 0, .slice none 0 0] 38)))
  clear l1 a0 a1 a2 a3 a4 a5 Z2
  refine (eqGate_new _).mono ?_
  rintro e w3 ⟨rfl, hb3⟩
  replace B1 := hid_in (B1.out.later hb3); replace B2 := hid_in (B2.out.later hb3); replace Z3 := hid_in (below_later Z3.out hb3)
  clear hb3
  generalize w2.heap.size = g2 at *
  obtain ⟨l2, b0, b1, b2, b3, b4, b5⟩ := B2.out
  go_wp2_with fail
  clear l2 b0 b1 b2 b3 b4 b5
  refine (markGate_new _).mono ?_
  rintro e w4 ⟨rfl, hb4⟩
  replace B1 := hid_in (B1.out.later hb4); replace B2 := hid_in (B2.out.later hb4); replace Z3 := hid_in (below_later Z3.out hb4)
  clear hb4
  obtain ⟨l2, b0, b1, b2, b3, b4, b5⟩ := B2.out
  go_wp2_with fail
  clear l2 b0 b1 b2 b3 b4 b5
  refine (heldGate_new _).mono ?_
  rintro e w5 ⟨rfl, hb5⟩
  replace B1 := hid_in (B1.out.later hb5); replace B2 := hid_in (B2.out.later hb5); replace Z3 := hid_in (below_later Z3.out hb5)
  clear hb5
  go_wp2_with fail
  refine (gateNew_impl _).mono ?_
  rintro e w6 ⟨rfl, hb6⟩
  replace B1 := hid_in (B1.out.later hb6); replace B2 := hid_in (B2.out.later hb6); replace Z3 := hid_in (below_later Z3.out hb6)
  clear hb6
  obtain ⟨l1, a0, a1, a2, a3, a4, a5⟩ := B1.out
  go_wp2_with fail
  replace B2 := hid_in (B2.out.later (below_box w6 (.cells #[.int .i64 0, .slice none 0 0, .int .i64 4, .slice none 0 0, .slice none 0 0, .slice none 0 0] 38))); replace Z3 := hid_in (below_later Z3.out (below_box w6 (.cells #[.int .i64 0, .slice none 0 0, .int .i64 4, .slice none 0 0, .slice none 0 0, .slice none 0 0] 38)))
  clear l1 a0 a1 a2 a3 a4 a5 B1
  refine (eqGate_new _).mono ?_
  rintro e w7 ⟨rfl, hb7⟩
  replace B2 := hid_in (B2.out.later hb7); replace Z3 := hid_in (below_later Z3.out hb7)
  clear hb7
  obtain ⟨l2, b0, b1, b2, b3, b4, b5⟩ := B2.out
  go_wp2_with fail
  clear l2 b0 b1 b2 b3 b4 b5
  refine (heldGate_new _).mono ?_
  rintro e w8 ⟨rfl, hb8⟩
  replace Z3 := hid_in (below_later Z3.out hb8)
  clear hb8
  go_wp2_with fail
  go_ret
  exact ⟨rfl, Z3.out⟩
end Go.Proofs.Ytgolcjlogokbiaa
