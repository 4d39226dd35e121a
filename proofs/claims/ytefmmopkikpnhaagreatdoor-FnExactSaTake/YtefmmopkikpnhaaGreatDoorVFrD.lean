/- What is proved: the contracts of FrmD, one behind the other. The conditions stand at each theorem. -/
import Derived.Test.YtefmmopkikpnhaaGreatDoorVFrC
import Derived.Test.YtefmmopkikpnhaaGreatDoorVShC
import Derived.Test.YtefmmopkikpnhaaGreatDoorVAeF
import Derived.Test.YtefmmopkikpnhaaGreatDoorVWin
namespace Go.Proofs.YtefmmopkikpnhaaGreatDoor
open Go.RowKit Go.LatT Go.BlockM Go.PlainAid Go.OpnT Go.ApdG Go.BytM Go.AesM Go.RowQ
set_option linter.unusedVariables false
set_option linter.unusedSimpArgs false
theorem keysB_of {k m : ByteArray} (h : keysB k m = true) : k.size = 16 ∧ 1 ≤ m.size ∧ m.size ≤ 64 := by
  unfold keysB inB at h
  simp at h
  omega
end Go.Proofs.YtefmmopkikpnhaaGreatDoor

