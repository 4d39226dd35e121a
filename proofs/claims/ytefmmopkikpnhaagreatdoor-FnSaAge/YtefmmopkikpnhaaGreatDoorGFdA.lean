/- What is proved: the contracts of FrdA, one behind the other. The conditions stand at each theorem. -/
import Derived.Test.YtefmmopkikpnhaaGreatDoorGFrE
import Derived.Test.YtefmmopkikpnhaaGreatDoorGDrw
namespace Go.Proofs.YtefmmopkikpnhaaGreatDoor
open Go.RowKit Go.LatT Go.BlockM Go.PlainAid Go.OpnT Go.ApdG Go.BytM Go.AesM Go.RowQ Go.RegE
set_option linter.unusedVariables false
set_option linter.unusedSimpArgs false
end Go.Proofs.YtefmmopkikpnhaaGreatDoor

