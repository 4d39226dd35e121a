/- What is proved: the contracts of ErrH, KonH, ErrK, one behind the other. The conditions stand at each theorem. -/
import Derived.Test.YtefmmopkikpnhaaGreatDoorRows
import Derived.Test.YtefmmopkikpnhaaGreatDoorVFrB
import Derived.LaidLaws
import Derived.LaidHandle
import Derived.ChangeSame
import Derived.ChangeVars
import Derived.JoinedOf
import Derived.RowKit
import Derived.RowKitTokens
import Derived.Stop.Joined
import Derived.Test.YtefmmopkikpnhaaGreatDoorVShC
import Derived.LaidMore
import Derived.OpenShut
import Derived.Lib.LaidTab
import Derived.Lay
namespace Go.Proofs.YtefmmopkikpnhaaGreatDoor
open Go.ChangeShapes Go.WideShapes Go.RowKit
theorem eh.et : Tryz.prog.globalNamed "errors.errorType" = some 0 := by kernel_rfl
theorem eh.rt : (Tryz.prog.cutTypes.find? (·.1 == "internal/reflectlite.rtype")).map (·.2) = some 204 := by kernel_rfl
theorem eh.size : Tryz.prog.types.size = 355 - 100 := by kernel_rfl
theorem eh.oneRow : ((List.range (355 - 100)).filter fun t => Tryz.prog.rowNamed t [101, 114, 114, 111, 114]) = [63] := by kernel_rfl
theorem err_of {W : World} (h : laidMetH Tryz.prog [("errors.errorType", Rows.laid_errors_errorType)] W) : ErrT W := by
  have h' : laidMet Tryz.prog [] W ∧ handlesMet Tryz.prog [("errors.errorType", Rows.laid_errors_errorType)] W := h
  obtain ⟨name, u, ty, e1, e2, e3, e4, e5⟩ := h'.2 _ (List.mem_singleton.2 rfl)
  have en : name = [101, 114, 114, 111, 114] := (Option.some.inj e1).symm
  subst en
  obtain rfl := Option.some.inj (eh.rt.symm.trans e2)
  have hm : ty ∈ (List.range (355 - 100)).filter fun t => Tryz.prog.rowNamed t [101, 114, 114, 111, 114] := List.mem_filter.2 ⟨List.mem_range.2 (by rw [← eh.size]; exact e3), e4⟩
  rw [eh.oneRow] at hm
  obtain rfl := List.mem_singleton.1 hm
  have hh : typeHandle Tryz.prog 63 = .pointer (some ⟨4, 63, none⟩) := by kernel_rfl
  rw [hh] at e5
  have := World.var?_cell eh.et e5 0
  unfold ErrT
  simpa using this
/-- A world that meets the condition. -/
noncomputable def laidWorld (os : Os) : World :=
  let w0 := World.holding Tryz.prog os ⟨#[], #[], []⟩
  { w0 with heap := w0.heap.modify 0 fun
      | .cells _ t frozen => .cells #[.iface 204 (.agg #[.pointer (some ⟨4, 63, none⟩)])] t frozen
      | o => o }
end Go.Proofs.YtefmmopkikpnhaaGreatDoor

namespace Go.Proofs.YtefmmopkikpnhaaGreatDoor
open Go.ChangeShapes Go.WideShapes Go.RowKit
theorem kon_of {W : World} (h : laidMetH Tryz.prog [("loop.example/overfare/impl.sumStart", Rows.laid_loop_example_overfare_impl_sumStart), ("loop.example/overfare/impl.sumSteps", Rows.laid_loop_example_overfare_impl_sumSteps)] W) : GK W := by
  rw [MakeChecks.laidMetH_plain _ _ _ (by kernel_rfl)] at h
  obtain ⟨ps, ⟨g, t, cs, fuel, p, q, hg, ht, hv, hd, ⟨g2, t2, cs2, fuel2, p2, q2, hg2, ht2, hv2, hd2, _, _⟩, _⟩, _⟩ := h
  obtain rfl := Option.some.inj ((show Tryz.prog.globalNamed "loop.example/overfare/impl.sumStart" = some 1 by kernel_rfl).symm.trans hg)
  obtain rfl := Option.some.inj ((show (Tryz.prog.globals[1]?).map (·.type) = some 187 by kernel_rfl).symm.trans ht)
  obtain rfl := Option.some.inj ((show Tryz.prog.globalNamed "loop.example/overfare/impl.sumSteps" = some 2 by kernel_rfl).symm.trans hg2)
  obtain rfl := Option.some.inj ((show (Tryz.prog.globals[2]?).map (·.type) = some 224 by kernel_rfl).symm.trans ht2)
  have e1 : (Rows.laid_loop_example_overfare_impl_sumStart : DataW Unit) = Lib.tabData .u32 ([1779033703, 3144134277, 1013904242, 2773480762, 1359893119, 2600822924, 528734635, 1541459225] : List Int) := by kernel_rfl
  have e2 : (Rows.laid_loop_example_overfare_impl_sumSteps : DataW Unit) = Lib.tabData .u32 KLZ := by kernel_rfl
  rw [e1] at hd
  rw [e2] at hd2
  have h1 := Lib.cells_of_tab (show Tryz.prog.underlying 187 = some (.array 8 131) by kernel_rfl) (show Tryz.prog.underlying 131 = some (.int .u32) by kernel_rfl) (by kernel_rfl) (by kernel_rfl) hd
  have h2 := Lib.cells_of_tab (show Tryz.prog.underlying 224 = some (.array 64 131) by kernel_rfl) (show Tryz.prog.underlying 131 = some (.int .u32) by kernel_rfl) (by kernel_rfl) (by kernel_rfl) hd2
  obtain rfl : cs = (List.map (fun z => Value.int .u32 z) ([1779033703, 3144134277, 1013904242, 2773480762, 1359893119, 2600822924, 528734635, 1541459225] : List Int)).toArray := by rw [← h1]
  obtain rfl : cs2 = (List.map (fun z => Value.int .u32 z) KLZ).toArray := by rw [← h2]
  have c1 := fun i => World.var?_cell hg hv i
  have c2 := fun i => World.var?_cell hg2 hv2 i
  have k1 : ∀ i, i < 8 → W.cell? ⟨1, i, none⟩ = some (.int .u32 (ini i : Int)) := fun i hi => by
    have e : (List.map (fun z => Value.int .u32 z) [1779033703, 3144134277, 1013904242, 2773480762, 1359893119, 2600822924, 528734635, 1541459225]) = uC 8 ini := by kernel_rfl
    have := c1 i
    rw [e] at this
    simpa [uC_get 8 ini i hi] using this
  have k2 : ∀ i, i < 64 → W.cell? ⟨2, i, none⟩ = some (.int .u32 (kst i : Int)) := fun i hi => by
    have := c2 i
    rw [show List.map (fun z => Value.int .u32 z) KLZ = uC 64 kst from klZ] at this
    simpa [uC_get 64 kst i hi] using this
  refine ⟨?_, k1, k2⟩
  have := k2 0 (by omega)
  unfold World.cell? at this
  rcases Nat.lt_or_ge 2 W.heap.size with h | h
  · exact h
  · simp [Array.getElem?_eq_none h] at this
end Go.Proofs.YtefmmopkikpnhaaGreatDoor

namespace Go.Proofs.YtefmmopkikpnhaaGreatDoor
open Go.ChangeShapes Go.WideShapes Go.RowKit
def laid2 : List (String × DataW Unit) := [("loop.example/overfare/impl.sumStart", Rows.laid_loop_example_overfare_impl_sumStart), ("loop.example/overfare/impl.sumSteps", Rows.laid_loop_example_overfare_impl_sumSteps)]
theorem both_of {W : World} (h : laidMetH Tryz.prog [("errors.errorType", Rows.laid_errors_errorType), ("loop.example/overfare/impl.sumStart", Rows.laid_loop_example_overfare_impl_sumStart), ("loop.example/overfare/impl.sumSteps", Rows.laid_loop_example_overfare_impl_sumSteps)] W) : laidMetH Tryz.prog [("errors.errorType", Rows.laid_errors_errorType)] W ∧ laidMetH Tryz.prog [("loop.example/overfare/impl.sumStart", Rows.laid_loop_example_overfare_impl_sumStart), ("loop.example/overfare/impl.sumSteps", Rows.laid_loop_example_overfare_impl_sumSteps)] W := by
  have h' : laidMet Tryz.prog [("loop.example/overfare/impl.sumStart", Rows.laid_loop_example_overfare_impl_sumStart), ("loop.example/overfare/impl.sumSteps", Rows.laid_loop_example_overfare_impl_sumSteps)] W ∧ handlesMet Tryz.prog [("errors.errorType", Rows.laid_errors_errorType)] W := h
  refine ⟨?_, ?_⟩
  · have : laidMet Tryz.prog [] W ∧ handlesMet Tryz.prog [("errors.errorType", Rows.laid_errors_errorType)] W := ⟨laidMet_nil _ _, h'.2⟩
    exact this
  · rw [MakeChecks.laidMetH_plain _ _ _ (by kernel_rfl)]
    exact h'.1
theorem err_of3 {W : World} (h : laidMetH Tryz.prog [("errors.errorType", Rows.laid_errors_errorType), ("loop.example/overfare/impl.sumStart", Rows.laid_loop_example_overfare_impl_sumStart), ("loop.example/overfare/impl.sumSteps", Rows.laid_loop_example_overfare_impl_sumSteps)] W) : ErrT W := err_of (both_of h).1
theorem kon_of3 {W : World} (h : laidMetH Tryz.prog [("errors.errorType", Rows.laid_errors_errorType), ("loop.example/overfare/impl.sumStart", Rows.laid_loop_example_overfare_impl_sumStart), ("loop.example/overfare/impl.sumSteps", Rows.laid_loop_example_overfare_impl_sumSteps)] W) : GK W := kon_of (both_of h).2
/-- A world that meets the conditions. -/
noncomputable def laidWorld3 (os : Os) : World := (laidWorld os).layVars Tryz.prog laid2
theorem laidWorld3_os (os : Os) : (laidWorld3 os).os = os := (World.layVars_os _ _ _).trans rfl
theorem laidWorld3_two (os : Os) : laidMet Tryz.prog laid2 (laidWorld3 os) := by
  have e1 : (laid2.filter fun x => (laid2.map (·.1)).contains x.1) = laid2 := List.filter_eq_self.2 fun x hx => List.contains_iff_mem.2 (List.mem_map.2 ⟨x, hx, rfl⟩)
  have e2 : (laid2.filter fun x => !(laid2.map (·.1)).contains x.1) = [] := List.filter_eq_nil_iff.2 fun x hx => by rw [List.contains_iff_mem.2 (List.mem_map.2 ⟨x, hx, rfl⟩)]; simp
  exact laidMet_layVars (w0 := laidWorld os) (laid2.map (·.1)) [] (by rw [e1]; rfl) (by rw [e1]; kernel_rfl) (by rw [e1]; kernel_rfl) (by rw [e2]; exact LaidIn.none)
theorem laidWorld3_met (os : Os) (args : Array Value) : laidMetH Tryz.prog [("errors.errorType", Rows.laid_errors_errorType), ("loop.example/overfare/impl.sumStart", Rows.laid_loop_example_overfare_impl_sumStart), ("loop.example/overfare/impl.sumSteps", Rows.laid_loop_example_overfare_impl_sumSteps)] ((laidWorld3 os).forCall (fun _ _ => 0) ⟨#[], args, []⟩).memory :=
  laidMetH_of_parts ((laidWorld3_two os).of_heap (by simp [World.memory, World.forCall, Input.heap])) (by kernel_rfl)
end Go.Proofs.YtefmmopkikpnhaaGreatDoor

