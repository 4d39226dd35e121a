/- What is proved: the contracts of TxtN, FrmE, one behind the other. The conditions stand at each theorem. -/
import Derived.Test.YtefmmopkikpnhaaGreatDoorGBas
import Derived.Test.YtefmmopkikpnhaaGreatDoorGFrD
import Derived.Test.YtefmmopkikpnhaaGreatDoorGFrB
namespace Go.Proofs.YtefmmopkikpnhaaGreatDoor
open Go.BytM
end Go.Proofs.YtefmmopkikpnhaaGreatDoor

namespace Go.Proofs.YtefmmopkikpnhaaGreatDoor
open Go.RowKit Go.LatT Go.BlockM Go.PlainAid Go.OpnT Go.ApdG Go.BytM Go.AesM Go.RowQ
set_option linter.unusedVariables false
set_option linter.unusedSimpArgs false
end Go.Proofs.YtefmmopkikpnhaaGreatDoor

