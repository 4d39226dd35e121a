/- Lists of Rule: what measuring one, copying one, and holding two against each other answer. The conditions stand at each theorem. -/
import Derived.Test.YtdljoopioglkiaaRulA
import Derived.Test.YtdljoopioglkiaaOpn
import Derived.Deep.OwnRows
import Derived.Deep.LoopGhost
import Derived.Handy
namespace Go.Proofs.Ytdljoopioglkiaa
open Go.RowKit Go.LatT Go.BlockM Go.OpnT
set_option linter.unusedVariables false
set_option linter.unusedSimpArgs false
def zRule (n : Nat) : Array Value := madeCells #[.int .i64 0, .int .i64 0, .int .i64 0, .int .i64 0, .int .i64 0, .int .i64 0, .int .i64 0, .int .i64 0] n
end Go.Proofs.Ytdljoopioglkiaa
