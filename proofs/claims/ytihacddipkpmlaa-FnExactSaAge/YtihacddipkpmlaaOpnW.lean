/- What is proved: a slice of numbers, handed in as data, is numbers in cells. The conditions stand at the theorem. -/
import Derived.Test.YtihacddipkpmlaaIntS
import Derived.Test.YtihacddipkpmlaaOpn
namespace Go.Proofs.Ytihacddipkpmlaa
open Go.ChangeShapes Go.WideShapes Go.ChangeAt Go.RowKit Go.Joins Go.LatT Go.OpnT
set_option linter.unusedVariables false
theorem open_ints_slice {H : Type} {enc : TypeId × Value → H} {w : World} {base : Nat} {spare : Nat → Bool} {held : Bool} {t : TypeId} {fuel : Nat} {cs : List Value} {x : DataW H × List MemPlace}
    (ht : Try.prog.underlying t = some (.slice 3)) (h : DataW.trod enc Try.prog w base spare held fuel t cs = some x) :
    ∃ (a : Option Addr) (len cap : Nat) (E : Nat → Int), cs = [.slice a len cap] ∧ Ints w a len E ∧ len ≤ cap ∧ cap ≤ maxLen := by
  obtain ⟨a, len, cap, rfl⟩ : ∃ a len cap, cs = [.slice a len cap] := by
    rcases Deep.open_slice ht h with ⟨h0, _⟩ | ⟨b, l, c, m, f, D, Pl, h0, _⟩
    · exact ⟨_, _, _, h0⟩
    · exact ⟨_, _, _, h0⟩
  obtain ⟨E, hT, _, h1, h2⟩ := open_tab 6 1 ht (by kernel_rfl) (by kernel_rfl) (by decide) h
  refine ⟨a, len, cap, fun i => E i 0, rfl, ?_, h1, h2⟩
  rcases hT with h0 | ⟨bb, off, e, hlt, hc⟩
  · exact .inl h0
  · exact .inr ⟨bb, off, e, hlt, fun i hi => by have := hc i hi 0 (by omega); rw [Nat.mul_one, Nat.add_zero] at this; exact this⟩
end Go.Proofs.Ytihacddipkpmlaa
