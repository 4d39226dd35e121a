/- What is proved: the contracts of DrwV, DrwW, one behind the other. The conditions stand at each theorem. -/
import Derived.Test.YtefmmopkikpnhaaGreatDoorGFrA
import Derived.Test.YtefmmopkikpnhaaGreatDoorGDrw
import Derived.Deep.RegionHeld3
namespace Go.Proofs.YtefmmopkikpnhaaGreatDoor
open Go.RowKit Go.LatT Go.BlockM Go.PlainAid Go.OpnT Go.RegE Go.ApdG Go.BytM
set_option linter.unusedVariables false
set_option linter.unusedSimpArgs false
end Go.Proofs.YtefmmopkikpnhaaGreatDoor

namespace Go.Proofs.YtefmmopkikpnhaaGreatDoor
open Go.RowKit Go.LatT Go.BlockM Go.RegE
set_option linter.unusedVariables false
set_option linter.unusedSimpArgs false
set_option maxHeartbeats 400000 in
set_option maxRecDepth 100000 in
theorem ofM (R G : Nat) (sl : Value) (p : Int) (vs : List ByteArray) (w : World) (h : Rdr w R sl p) (hG : G ≠ R) (hp : 0 ≤ p) (hp' : p ≤ 1099511627776) (hl : 1 ≤ vs.length) (hl' : vs.length ≤ 100) (hv : ∀ i, i < vs.length → w.cell? ⟨G, i, none⟩ = some (.string (vs.getD i ByteArray.empty))) :
    Calls Tryz.prog 109 #[.pointer (some ⟨R, 0, none⟩), .slice (some ⟨G, 0, none⟩) vs.length vs.length] w fun e w' => ∃ u : ByteArray, e = .returned (.string u) ∧ u ∈ vs ∧ Rdr w' R sl (p + 1) ∧ Mv R w w' := by
  have H := hid_in h
  have HV := hid_in hv
  clear h hv
  have hb1 : (1 : Int) ≤ (vs.length : Int) := by omega
  have hb2 : (vs.length : Int) ≤ 100 := by omega
  go_enter Tryz.func109, Tryz.ntmps109
  go_wp2_with fail
  refine (pickM R sl p _ _ H.out hp hp' hb1 (by omega)).mono ?_
  rintro e w' ⟨u, rfl, hu0, hu1, h1, m1⟩
  obtain ⟨un, rfl⟩ := Int.eq_ofNat_of_zero_le hu0
  have hc0 := HV.out un (by omega)
  have hc := (m1.cell G un (cell_lt hc0) hG).trans hc0
  have H1 := hid_in h1; have M1 := hid_in m1
  clear h1 m1 hc0
  go_wp2_with fail
  go_ret
  refine ⟨_, rfl, ?_, H1.out, M1.out⟩
  have hlt : un < vs.length := by omega
  simp [List.getElem?_eq_getElem hlt]
theorem new_strs (vs : List ByteArray) (t : TypeId) (w : World) (i : Nat) (hi : i < vs.length) : (w.alloc (.cells (vs.map fun v => Value.string v).toArray t)).cell? ⟨w.heap.size, i, none⟩ = some (.string (vs.getD i ByteArray.empty)) := by
  have h := heap_new w (.cells (vs.map fun v => Value.string v).toArray t) _ rfl
  unfold World.cell?
  simp only [h]
  simp [hi]
theorem ofN (R : Nat) (sl : Value) (p : Int) (vs : List ByteArray) (n : Nat) (arr : Array Value) (t : TypeId) (w : World) (harr : arr = (vs.map fun v => Value.string v).toArray) (hn : n = vs.length) (h : Rdr w R sl p) (hp : 0 ≤ p) (hp' : p ≤ 1099511627776) (hl : 1 ≤ vs.length) (hl' : vs.length ≤ 100) :
    Calls Tryz.prog 109 #[.pointer (some ⟨R, 0, none⟩), .slice (some ⟨w.heap.size, 0, none⟩) n n] (w.alloc (.cells arr t)) fun e w' => ∃ u : ByteArray, e = .returned (.string u) ∧ u ∈ vs ∧ Rdr w' R sl (p + 1) ∧ Mv R w w' := by
  subst harr hn
  have hlt := h.lt
  exact (ofM R w.heap.size sl p vs _ (h.later (below_box _ _)) (by omega) hp hp' hl hl' (fun i hi => new_strs vs t w i hi)).mono
    fun _ _ ⟨u, he, hu, h1, h2⟩ => ⟨u, he, hu, h1, (Mv.of_below (below_box _ _)).trans h2⟩
end Go.Proofs.YtefmmopkikpnhaaGreatDoor

