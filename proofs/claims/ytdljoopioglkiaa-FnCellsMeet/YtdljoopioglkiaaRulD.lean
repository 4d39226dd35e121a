/- Rooms of rules, and which rule is the first about a call, as contracts. The conditions stand at each theorem. -/
import Derived.Test.YtdljoopioglkiaaRulC
import Derived.Test.YtdljoopioglkiaaCelA
import Derived.Test.YtdljoopioglkiaaOwn
import Derived.OwnWalk
import Derived.Deep.RegionHeld3
import Derived.Deep.RegionHeldLaw
namespace Go.Proofs.Ytdljoopioglkiaa
open Go.RowKit Go.LatT Go.BlockM Go.OpnT
set_option linter.unusedVariables false
set_option linter.unusedSimpArgs false
/-- The room of a rule. -/
def roomE (E : Nat → Nat → Int) (i j : Nat) : Int := match j with
  | 0 => E i 2
  | 1 => E i 2 + pw (32 - E i 3) - 1
  | 2 => E i 4
  | 3 => E i 4 + pw (32 - E i 5) - 1
  | 4 => E i 6
  | _ => E i 7
theorem infoRoom : (Try.prog.info? 46).map (fun i => (i.zero, i.size, i.bytes)) = some (some (.agg #[.int .i64 0, .int .i64 0, .int .i64 0, .int .i64 0, .int .i64 0, .int .i64 0]), 6, 48) := by kernel_rfl
theorem rok_bounds {E : Nat → Nat → Int} {k : Nat} (h : rbad E k = false) : (0 ≤ E k 2 ∧ E k 2 ≤ 4294967295 ∧ 0 ≤ E k 3 ∧ E k 3 ≤ 32) ∧ (0 ≤ E k 4 ∧ E k 4 ≤ 4294967295 ∧ 0 ≤ E k 5 ∧ E k 5 ≤ 32) := by
  simp only [rbad, Bool.not_eq_false', rokB, Bool.and_eq_true] at h
  obtain ⟨⟨⟨⟨⟨h1, h2⟩, _⟩, _⟩, _⟩, _⟩ := h
  obtain ⟨a, b, c, d, _⟩ := ok_of h1
  obtain ⟨a', b', c', d', _⟩ := ok_of h2
  exact ⟨⟨a, b, c, d⟩, a', b', c', d'⟩
end Go.Proofs.Ytdljoopioglkiaa
