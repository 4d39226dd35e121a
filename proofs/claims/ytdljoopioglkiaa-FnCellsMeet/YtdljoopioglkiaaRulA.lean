/- What the functions of one rule answer, in the program and in the specification, as contracts. The conditions stand at each theorem. -/
import Derived.Test.YtdljoopioglkiaaBlkA
import Derived.Test.YtdljoopioglkiaaLat
import Derived.Test.YtdljoopioglkiaaMath
import Derived.WalkKit
import Derived.WalkSpells
import Derived.WalkLawsBesides
import Derived.BigQuiet
import Derived.Handy
import Derived.Deep.RegionWith
import Derived.Deep.RegionHeld3
import Derived.Laws.EntriesVeiled
namespace Go.Proofs.Ytdljoopioglkiaa
open Go.RowKit Go.LatT Go.BlockM
set_option linter.unusedVariables false
set_option linter.unusedSimpArgs false
def vRule (o t a b c d l h : Int) : Value := .agg #[.int .i64 o, .int .i64 t, .int .i64 a, .int .i64 b, .int .i64 c, .int .i64 d, .int .i64 l, .int .i64 h]
/-- Whether a deed is ok. -/
def deedB (o t : Int) : Bool := if o = 2 then inB t 0 3 else (decide (o = 0) || decide (o = 1)) && decide (t = 0)
end Go.Proofs.Ytdljoopioglkiaa
