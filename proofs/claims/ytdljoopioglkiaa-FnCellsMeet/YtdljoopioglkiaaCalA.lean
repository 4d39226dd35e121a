/- Whether a call may go, in the program and in the specification, as contracts. The conditions stand at each theorem. -/
import Derived.Test.YtdljoopioglkiaaCelA
namespace Go.Proofs.Ytdljoopioglkiaa
open Go.RowKit Go.LatT Go.BlockM
set_option linter.unusedVariables false
set_option linter.unusedSimpArgs false
/-- A call may go. -/
def callB (x y z : Int) : Bool := inB x 0 4294967295 && inB y 0 4294967295 && inB z 0 65535
end Go.Proofs.Ytdljoopioglkiaa
