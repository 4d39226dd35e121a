/- What is proved: the contracts of ErrH, KonH, ErrK, one behind the other. The conditions stand at each theorem. -/
import Derived.Test.YtefmmopkikpnhaaGreatDoorRows
import Derived.Test.YtefmmopkikpnhaaGreatDoorGFrB
import Derived.LaidLaws
import Derived.LaidHandle
import Derived.ChangeSame
import Derived.ChangeVars
import Derived.JoinedOf
import Derived.RowKit
import Derived.RowKitTokens
import Derived.Stop.Joined
import Derived.Test.YtefmmopkikpnhaaGreatDoorGShC
import Derived.LaidMore
import Derived.OpenShut
import Derived.Lib.LaidTab
import Derived.Lay
namespace Go.Proofs.YtefmmopkikpnhaaGreatDoor
open Go.ChangeShapes Go.WideShapes Go.RowKit
theorem eh.size : Tryz.prog.types.size = 355 - 100 := by kernel_rfl
end Go.Proofs.YtefmmopkikpnhaaGreatDoor

namespace Go.Proofs.YtefmmopkikpnhaaGreatDoor
open Go.ChangeShapes Go.WideShapes Go.RowKit
theorem kon_of {W : World} (h : laidMetH Tryz.prog [("loop.example/overfare/impl.sumStart", Rows.laid_loop_example_overfare_impl_sumStart), ("loop.example/overfare/impl.sumSteps", Rows.laid_loop_example_overfare_impl_sumSteps)] W) : GK W := by
  rw [MakeChecks.laidMetH_plain _ _ _ (by kernel_rfl)] at h
  obtain ⟨ps, ⟨g, t, cs, fuel, p, q, hg, ht, hv, hd, ⟨g2, t2, cs2, fuel2, p2, q2, hg2, ht2, hv2, hd2, _, _⟩, _⟩, _⟩ := h
  obtain rfl := Option.some.inj ((show Tryz.prog.globalNamed "loop.example/overfare/impl.sumStart" = some 1 by kernel_rfl).symm.trans hg)
  obtain rfl := Option.some.inj ((show (Tryz.prog.globals[1]?).map (·.type) = some 187 by kernel_rfl).symm.trans ht)
  obtain rfl := Option.some.inj ((show Tryz.prog.globalNamed "loop.example/overfare/impl.sumSteps" = some 2 by kernel_rfl).symm.trans hg2)
  obtain rfl := Option.some.inj ((show (Tryz.prog.globals[2]?).map (·.type) = some 224 by kernel_rfl).symm.trans ht2)
  have e1 : (Rows.laid_loop_example_overfare_impl_sumStart : DataW Unit) = Lib.tabData .u32 ([1779033703, 3144134277, 1013904242, 2773480762, 1359893119, 2600822924, 528734635, 1541459225] : List Int) := by kernel_rfl
  have e2 : (Rows.laid_loop_example_overfare_impl_sumSteps : DataW Unit) = Lib.tabData .u32 KLZ := by kernel_rfl
  rw [e1] at hd
  rw [e2] at hd2
  have h1 := Lib.cells_of_tab (show Tryz.prog.underlying 187 = some (.array 8 131) by kernel_rfl) (show Tryz.prog.underlying 131 = some (.int .u32) by kernel_rfl) (by kernel_rfl) (by kernel_rfl) hd
  have h2 := Lib.cells_of_tab (show Tryz.prog.underlying 224 = some (.array 64 131) by kernel_rfl) (show Tryz.prog.underlying 131 = some (.int .u32) by kernel_rfl) (by kernel_rfl) (by kernel_rfl) hd2
  obtain rfl : cs = (List.map (fun z => Value.int .u32 z) ([1779033703, 3144134277, 1013904242, 2773480762, 1359893119, 2600822924, 528734635, 1541459225] : List Int)).toArray := by rw [← h1]
  obtain rfl : cs2 = (List.map (fun z => Value.int .u32 z) KLZ).toArray := by rw [← h2]
  have c1 := fun i => World.var?_cell hg hv i
  have c2 := fun i => World.var?_cell hg2 hv2 i
  have k1 : ∀ i, i < 8 → W.cell? ⟨1, i, none⟩ = some (.int .u32 (ini i : Int)) := fun i hi => by
    have e : (List.map (fun z => Value.int .u32 z) [1779033703, 3144134277, 1013904242, 2773480762, 1359893119, 2600822924, 528734635, 1541459225]) = uC 8 ini := by kernel_rfl
    have := c1 i
    rw [e] at this
    simpa [uC_get 8 ini i hi] using this
  have k2 : ∀ i, i < 64 → W.cell? ⟨2, i, none⟩ = some (.int .u32 (kst i : Int)) := fun i hi => by
    have := c2 i
    rw [show List.map (fun z => Value.int .u32 z) KLZ = uC 64 kst from klZ] at this
    simpa [uC_get 64 kst i hi] using this
  refine ⟨?_, k1, k2⟩
  have := k2 0 (by omega)
  unfold World.cell? at this
  rcases Nat.lt_or_ge 2 W.heap.size with h | h
  · exact h
  · simp [Array.getElem?_eq_none h] at this
end Go.Proofs.YtefmmopkikpnhaaGreatDoor

namespace Go.Proofs.YtefmmopkikpnhaaGreatDoor
open Go.ChangeShapes Go.WideShapes Go.RowKit
end Go.Proofs.YtefmmopkikpnhaaGreatDoor

