/- Whether a reading came to its end, as contracts. The conditions stand at each theorem. -/
import Derived.Test.YtgolcjlogokbiaaDoorErrB
import Derived.WalkSpells
import Derived.WalkLawsBesides
import Derived.BigQuiet
import Derived.Handy
namespace Go.Proofs.YtgolcjlogokbiaaDoor
open Go.RowKit Go.LatT
set_option linter.unusedVariables false
set_option linter.unusedSimpArgs false
set_option maxHeartbeats 1000000 in
set_option maxRecDepth 100000 in
theorem couldRead_nil (w : World) : Calls Tryd.prog 33 #[.nilIface] w fun e w' => e = .returned (.bool true) ∧ Below w.heap.size w w' := by
  go_enter Tryd.func33, Tryd.ntmps33
  go_wp2_with (go_at_call 54; refine (as_nil _ _).mono ?_; rintro e w9 ⟨rfl, rfl⟩)
  go_ret
  exact ⟨rfl, by go_grown⟩
/-- The variable of package errors that As reads. -/
def ErrT (w : World) : Prop := w.cell? ⟨0, 0, none⟩ = some (.iface 125 (.agg #[.pointer (some ⟨2, 50, none⟩)]))
theorem cell_lt' {w : World} {b o : Nat} {v : Value} (h : w.cell? ⟨b, o, none⟩ = some v) : b < w.heap.size := by
  rcases Nat.lt_or_ge b w.heap.size with h0 | h0
  · exact h0
  · simp [World.cell?, Array.getElem?_eq_none h0] at h
theorem ErrT.later {w w' : World} (h : ErrT w) (hb : Below w.heap.size w w') : ErrT w' := ((bcell hb).1 _ _ (cell_lt' h)).trans h
set_option maxHeartbeats 1000000 in
set_option maxRecDepth 100000 in
theorem couldRead_not (x : ByteArray) (w : World) (hE : ErrT w) : Calls Tryd.prog 33 #[.iface 84 (.agg #[.string x])] w fun e w' => e = .returned (.bool false) ∧ Below w.heap.size w w' := by
  have E1 := hid_in (hE.later (below_box w (.cells #[.string ⟨#[]⟩] 84)))
  clear hE
  go_enter Tryd.func33, Tryd.ntmps33
  go_wp2_with fail
  refine (as_hit x w.heap.size (.string ⟨#[]⟩) _ E1.out (by go_simp) (by go_simp)).mono ?_
  rintro e w9 ⟨rfl, w1, hb1, rfl⟩
  go_wp2_with fail
  go_ret
  exact ⟨rfl, (below_later (below_box w _) hb1).setCell (by simp) _⟩
end Go.Proofs.YtgolcjlogokbiaaDoor
