/- Windows: what measuring one, copying one, holding two against each other, and asking whether one is ok answer. The conditions stand at each theorem. -/
import Derived.Test.YtdljoopioglkiaaIntS
import Derived.Test.YtdljoopioglkiaaWinM
import Derived.Deep.RegionWith
namespace Go.Proofs.Ytdljoopioglkiaa
open Go.RowKit Go.LatT Go.BlockM Go.OpnT Go.WinMath
set_option linter.unusedVariables false
set_option linter.unusedSimpArgs false
theorem IRow.set {w : World} {b n g o : Nat} {E : Nat → Int} {v : Value} (h : IRow w b n E) (hg : b ≠ g) : IRow (w.setCell ⟨g, o, none⟩ v) b n E := h.of_block (Below.heap_setCell _ _ _ _ hg)
/-- A number of a window is out of place. -/
def wBad (t : Int) (E : Nat → Int) (i : Nat) : Prop := E i ≤ IntKind.i64.wrap (t - 16) ∨ E i < 1 ∨ (0 < i ∧ E i ≤ E (i - 1))
/-- A window is ok. -/
def WOk (t : Int) (len : Nat) (E : Nat → Int) : Prop := (len = 0 ∧ t = 0) ∨ (0 < len ∧ (∀ i, i < len → ¬ wBad t E i) ∧ E (len - 1) = t ∧ t ≤ 1000000)
end Go.Proofs.Ytdljoopioglkiaa
