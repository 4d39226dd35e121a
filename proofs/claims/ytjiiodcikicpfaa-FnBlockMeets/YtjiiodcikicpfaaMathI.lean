/- Plain mathematics of blocks that lie in each other. The conditions stand at the theorems. -/
import Derived.Test.YtjiiodcikicpfaaMathH
import Derived.Test.YtjiiodcikicpfaaBlkF
namespace Go.BlockM
set_option linter.unusedVariables false
open Go.Proofs.Ytjiiodcikicpfaa
theorem in_both {a b x y : Int} (h : okB a b = true) (k : okB x y = true) {p q : Bool} (hp : (okB a b && inB x a (a + pw (32 - b) - 1)) = p) (hq : (okB a b && inB (x + pw (32 - y) - 1) a (a + pw (32 - b) - 1)) = q) : inBlk a b x y = (p && q) := by
  subst hp hq
  simp only [inBlk, h, k, Bool.true_and, with_hold h k, holdB]
theorem in_self {a b : Int} (h : okB a b = true) : inBlk a b a b = true := by
  have hp := pw_pos (32 - b)
  simp only [inBlk, h, withB, inB, Bool.true_and, Bool.and_eq_true, decide_eq_true_eq]
  omega
theorem in_anti {a b x y : Int} (h : inBlk a b x y = true) (k : inBlk x y a b = true) : a = x ∧ b = y := by
  simp only [inBlk, withB, inB, Bool.and_eq_true, decide_eq_true_eq] at h k
  omega
end Go.BlockM
