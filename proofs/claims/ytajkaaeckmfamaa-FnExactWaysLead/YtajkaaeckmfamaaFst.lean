/- Plain mathematics: the first place that serves, and whether all serve. -/
import Derived.Test.YtajkaaeckmfamaaLat
namespace Go.Proofs.Ytajkaaeckmfamaa
set_option linter.unusedVariables false
/-- v is what stands at the first place that serves, or -1. -/
def IsFirst (p : Nat → Bool) (r : Nat → Int) (n : Nat) (v : Int) : Prop := (∃ i, i < n ∧ p i = true ∧ (∀ j, j < i → p j = false) ∧ v = r i) ∨ ((∀ i, i < n → p i = false) ∧ v = -1)
theorem IsFirst.one {p : Nat → Bool} {r : Nat → Int} {n : Nat} {u v : Int} (h : IsFirst p r n u) (k : IsFirst p r n v) : u = v := by
  rcases h with ⟨i, hi, hp, hb, rfl⟩ | ⟨hn, rfl⟩
  · rcases k with ⟨j, hj, kp, kb, rfl⟩ | ⟨kn, rfl⟩
    · rcases Nat.lt_trichotomy i j with c | c | c
      · rw [kb i c] at hp; cases hp
      · rw [c]
      · rw [hb j c] at kp; cases kp
    · rw [kn i hi] at hp; cases hp
  · rcases k with ⟨j, hj, kp, kb, rfl⟩ | ⟨kn, rfl⟩
    · rw [hn j hj] at kp; cases kp
    · rfl
/-- v says whether all n serve, and are at most m. -/
def AllOk (bad : Nat → Bool) (n m : Nat) (v : Bool) : Prop := v = true ↔ (∀ i, i < n → bad i = false) ∧ n ≤ m
theorem AllOk.one {bad : Nat → Bool} {n m : Nat} {u v : Bool} (h : AllOk bad n m u) (k : AllOk bad n m v) : u = v := Bool.eq_iff_iff.2 (h.trans k.symm)
theorem AllOk.no {bad : Nat → Bool} {n m k : Nat} (hk : k < n) (h : bad k = true) : AllOk bad n m false := by
  constructor
  · intro h; cases h
  · intro ⟨h1, _⟩; rw [h1 k hk] at h; cases h
theorem AllOk.yes {bad : Nat → Bool} {n m : Nat} (h : ∀ i, i < n → bad i = false) : AllOk bad n m (decide (n ≤ m)) := by
  constructor
  · intro h'; exact ⟨h, by simpa using h'⟩
  · intro ⟨_, h1⟩; simpa using h1
end Go.Proofs.Ytajkaaeckmfamaa
