/- The walk of the exact law of new worlds. No conditions. -/
import Derived.Test.YtgolcjlogokbiaaNewB
import Derived.Laws.Rows
import Derived.Deep.Heap
namespace Go.Proofs.Ytgolcjlogokbiaa
open Go.RowKit Go.LatT
set_option linter.unusedVariables false
set_option linter.unusedSimpArgs false
/-- The cells of a new world. -/
@[reducible] def cW0 : Array Value := #[.int .i64 0, .slice none 0 0, .int .i64 4, .slice none 0 0, .slice none 0 0, .slice none 0 0, .int .i64 0, .slice none 0 0, .int .i64 4, .slice none 0 0, .slice none 0 0, .slice none 0 0, .slice none 0 0, .slice none 0 0, .slice none 0 0]
/-- A block of a world. -/
def Blk (w : World) (g : Nat) (cs : Array Value) (ty : TypeId) : Prop := w.heap[g]? = some (.cells cs ty)
theorem Blk.lt {w : World} {g : Nat} {cs : Array Value} {ty : TypeId} (h : Blk w g cs ty) : g < w.heap.size := (Array.getElem?_eq_some_iff.1 h).1
theorem Blk.later {w w' : World} {g : Nat} {cs : Array Value} {ty : TypeId} (h : Blk w g cs ty) (hb : Below w.heap.size w w') : Blk w' g cs ty := by
  unfold Blk; rw [hb.block g h.lt]; exact h
theorem Blk.new (w : World) (cs : Array Value) (ty : TypeId) : Blk (w.alloc (.cells cs ty)) w.heap.size cs ty := Go.Deep.blk_alloc_new _ _
theorem sizeW : (Try.prog.info? 46).map (·.size) = some 15 := by kernel_rfl
set_option maxHeartbeats 2000000 in
set_option maxRecDepth 100000 in
theorem walk_FnExactWorldNew (w : World) : Calls Try.prog 7 #[] w fun e w' => e = .returned (.bool true) ∧ Below w.heap.size w w' := by
  go_enter Try.func7, Try.ntmps7
  go_wp2_with fail
  refine (worldNew_spec _).mono ?_
  rintro e w1 ⟨rfl, hb1⟩
  go_wp2_with fail
  have B1 := hid_in (Blk.new w1 cW0 46)
  have Z1 := hid_in (below_later hb1 (below_box w1 (.cells cW0 46)))
  clear hb1
  refine (worldNew_impl _).mono ?_
  rintro e w2 ⟨rfl, hb2⟩
  replace B1 := hid_in (B1.out.later hb2)
  have Z2 := hid_in (below_later Z1.out hb2)
  clear hb2 Z1
  generalize w1.heap.size = g1 at *
  have B2 := hid_in (Blk.new w2 cW0 46)
  have Z3 := hid_in (below_later Z2.out (below_box w2 (.cells cW0 46)))
  replace B1 := hid_in (B1.out.later (below_box w2 (.cells cW0 46)))
  clear Z2
  go_wp2_with (first | (refine wpList_load_row rfl 46 _ rfl w2.heap.size rfl 46 cW0 (0, 0) _ B2.out Try.underlying46 rfl sizeW ?_) | (refine wpList_load_row rfl 46 _ rfl g1 rfl 46 cW0 (0, 0) _ B1.out Try.underlying46 rfl sizeW ?_))
  refine (eqWorld_new _).mono ?_
  rintro e w3 ⟨rfl, hb3⟩
  replace B1 := hid_in (B1.out.later hb3); replace B2 := hid_in (B2.out.later hb3); replace Z3 := hid_in (below_later Z3.out hb3)
  clear hb3
  generalize w2.heap.size = g2 at *
  go_wp2_with ((refine wpList_load_row rfl 46 _ rfl g2 rfl 46 cW0 (0, 0) _ B2.out Try.underlying46 rfl sizeW ?_))
  refine (markWorld_new _).mono ?_
  rintro e w4 ⟨rfl, hb4⟩
  replace B1 := hid_in (B1.out.later hb4); replace B2 := hid_in (B2.out.later hb4); replace Z3 := hid_in (below_later Z3.out hb4)
  clear hb4
  go_wp2_with ((refine wpList_load_row rfl 46 _ rfl g2 rfl 46 cW0 (0, 0) _ B2.out Try.underlying46 rfl sizeW ?_))
  refine (heldWorld_new _).mono ?_
  rintro e w5 ⟨rfl, hb5⟩
  replace B1 := hid_in (B1.out.later hb5); replace B2 := hid_in (B2.out.later hb5); replace Z3 := hid_in (below_later Z3.out hb5)
  clear hb5
  go_wp2_with fail
  refine (worldNew_impl _).mono ?_
  rintro e w6 ⟨rfl, hb6⟩
  replace B1 := hid_in ((B1.out.later hb6).later (below_box w6 (.cells cW0 46))); replace B2 := hid_in ((B2.out.later hb6).later (below_box w6 (.cells cW0 46))); replace Z3 := hid_in (below_later (below_later Z3.out hb6) (below_box w6 (.cells cW0 46)))
  have B3 := hid_in (Blk.new w6 cW0 46)
  clear hb6
  go_wp2_with (first | (refine wpList_load_row rfl 46 _ rfl w6.heap.size rfl 46 cW0 (0, 0) _ B3.out Try.underlying46 rfl sizeW ?_) | (refine wpList_load_row rfl 46 _ rfl g1 rfl 46 cW0 (0, 0) _ B1.out Try.underlying46 rfl sizeW ?_))
  refine (eqWorld_new _).mono ?_
  rintro e w7 ⟨rfl, hb7⟩
  replace B2 := hid_in (B2.out.later hb7); replace Z3 := hid_in (below_later Z3.out hb7)
  clear hb7 B1 B3
  go_wp2_with ((refine wpList_load_row rfl 46 _ rfl g2 rfl 46 cW0 (0, 0) _ B2.out Try.underlying46 rfl sizeW ?_))
  refine (heldWorld_new _).mono ?_
  rintro e w8 ⟨rfl, hb8⟩
  replace Z3 := hid_in (below_later Z3.out hb8)
  clear hb8
  go_wp2_with fail
  go_ret
  exact ⟨rfl, Z3.out⟩
end Go.Proofs.Ytgolcjlogokbiaa
