/- What is proved: the walk of the law FnExactAddrGet. The conditions stand at the theorem. -/
import Derived.Test.YtlfeedbnjhhmiaaDoorNumC
namespace Go.Proofs.YtlfeedbnjhhmiaaDoor
open Go.RowKit Go.LatT Go.BlockM Go.PlainAid Go.OpnT
set_option linter.unusedVariables false
set_option linter.unusedSimpArgs false
theorem cellLt {w : World} {b o : Nat} {v : Value} (h : w.cell? ⟨b, o, none⟩ = some v) : b < w.heap.size := by
  by_cases hb : b < w.heap.size
  · exact hb
  · simp [World.cell?, Array.getElem?_eq_none (Nat.le_of_not_lt hb)] at h
end Go.Proofs.YtlfeedbnjhhmiaaDoor
