/- Plain mathematics of blocks that meet. The conditions stand at the theorems. -/
import Derived.Test.YtjiiodcikicpfaaMathO
namespace Go.BlockM
set_option linter.unusedVariables false
open Go.Proofs.Ytjiiodcikicpfaa
theorem meet_symm (a b x y : Int) : meetB a b x y = meetB x y a b := by
  unfold meetB
  cases okB a b <;> cases okB x y <;> cases withB a b x y <;> cases withB x y a b <;> rfl
theorem meet_in {a b x y : Int} (h : okB a b = true) (k : okB x y = true) : meetB a b x y = (inBlk a b x y || inBlk x y a b) := by
  simp [meetB, inBlk, h, k]
theorem over_of_in {a b x y : Int} (h : inBlk a b x y = true) : ovBase a b x y = a ∧ ovLen a b x y = b := by
  simp only [inBlk, Bool.and_eq_true] at h
  obtain ⟨⟨h1, h2⟩, h3⟩ := h
  obtain ⟨a0, a1, b0, b1, _⟩ := ok_of h1
  have e : ((b.toNat : Nat) : Int) = b := Int.toNat_of_nonneg b0
  have : ovBits a x y b.toNat = b.toNat := ov_stop (by rw [e, fl_self h1]; exact h3)
  unfold ovBase ovLen
  simp only [h1, h2, Bool.and_self, if_true]
  rw [this, e]
  exact ⟨fl_self h1, rfl⟩
theorem meet_over {a b x y : Int} (h : okB a b = true) (k : okB x y = true) : meetB a b x y = true ↔ (ovBase a b x y = a ∧ ovLen a b x y = b) ∨ (ovBase a b x y = x ∧ ovLen a b x y = y) := by
  rw [meet_in h k, Bool.or_eq_true]
  constructor
  · rintro (h1 | h1)
    · exact .inl (over_of_in h1)
    · refine .inr ?_
      rw [(over_symm a b x y).1, (over_symm a b x y).2]
      exact over_of_in h1
  · rintro (⟨h1, h2⟩ | ⟨h1, h2⟩)
    · have := over_in2 h k
      rw [h1, h2] at this
      exact .inl this
    · have := over_in1 h k
      rw [h1, h2] at this
      exact .inr this
end Go.BlockM
