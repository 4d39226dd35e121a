/- Plain mathematics of the least block over two. The conditions stand at the theorems. -/
import Derived.Test.YtjiiodcikicpfaaMathI
namespace Go.BlockM
set_option linter.unusedVariables false
open Go.Proofs.Ytjiiodcikicpfaa
theorem floor_eq {a x s : Int} (hs : 1 ≤ s) : (a / s * s ≤ x ∧ x ≤ a / s * s + s - 1) ↔ a / s * s = x / s * s := by
  have e := Int.emod_add_mul_ediv x s
  have h0 := Int.emod_nonneg x (show s ≠ 0 by omega)
  have h1 := Int.emod_lt_of_pos x (show 0 < s by omega)
  generalize a / s = p at *
  generalize x / s = q at *
  have e2 : s * q = q * s := Int.mul_comm _ _
  constructor
  · rintro ⟨h2, h3⟩
    have : p = q := by
      rcases Int.lt_trichotomy p q with h | h | h
      · have := Int.mul_le_mul_of_nonneg_right (show p + 1 ≤ q by omega) (show 0 ≤ s by omega)
        rw [Int.add_mul, Int.one_mul] at this
        omega
      · exact h
      · have := Int.mul_le_mul_of_nonneg_right (show q + 1 ≤ p by omega) (show 0 ≤ s by omega)
        rw [Int.add_mul, Int.one_mul] at this
        omega
    rw [this]
  · intro h
    omega
theorem with_fl (a k x y : Int) : withB (fl a k) k x y = (decide (k ≤ y) && decide (fl a k = fl x k)) := by
  have hp := pw_pos (32 - k)
  have e : (fl a k ≤ x ∧ x ≤ fl a k + pw (32 - k) - 1) ↔ fl a k = fl x k := floor_eq hp
  rw [Bool.eq_iff_iff]
  simp only [withB, inB, Bool.and_eq_true, decide_eq_true_eq]
  rw [e]
/-- What ovBits is: the greatest number up to n that serves, or 0. -/
theorem ov_spec (a x y : Int) : ∀ n : Nat, (ovBits a x y n = 0 ∨ ((ovBits a x y n : Int) ≤ y ∧ fl a (ovBits a x y n : Int) = fl x (ovBits a x y n : Int))) ∧ ∀ j : Nat, ovBits a x y n < j → j ≤ n → (j : Int) ≤ y → fl a (j : Int) ≠ fl x (j : Int)
  | 0 => ⟨.inl rfl, fun j h1 h2 => by omega⟩
  | n + 1 => by
    by_cases h : withB (fl a ((n + 1 : Nat) : Int)) ((n + 1 : Nat) : Int) x y = true
    · rw [ov_stop h]
      rw [with_fl, Bool.and_eq_true, decide_eq_true_eq, decide_eq_true_eq] at h
      exact ⟨.inr h, fun j h1 h2 => by omega⟩
    · have h' : withB (fl a ((n + 1 : Nat) : Int)) ((n + 1 : Nat) : Int) x y = false := by simpa using h
      rw [ov_on h']
      obtain ⟨h1, h2⟩ := ov_spec a x y n
      refine ⟨h1, fun j h3 h4 h5 => ?_⟩
      by_cases hj : j = n + 1
      · subst hj
        rw [with_fl] at h'
        intro he
        rw [he] at h'
        simp only [decide_true, Bool.and_true, decide_eq_false_iff_not] at h'
        exact h' h5
      · exact h2 j h3 (by omega) h5
theorem ov_symm {a b x y : Int} (h : okB a b = true) (k : okB x y = true) : ovBits a x y b.toNat = ovBits x a b y.toNat := by
  obtain ⟨_, _, b0, b1, _⟩ := ok_of h
  obtain ⟨_, _, y0, y1, _⟩ := ok_of k
  obtain ⟨h1, h2⟩ := ov_spec a x y b.toNat
  obtain ⟨k1, k2⟩ := ov_spec x a b y.toNat
  have l1 := ovBits_le a x y b.toNat
  have l2 := ovBits_le x a b y.toNat
  rcases Nat.lt_trichotomy (ovBits a x y b.toNat) (ovBits x a b y.toNat) with c | c | c
  · rcases k1 with k1 | k1
    · omega
    · exact absurd k1.2.symm (h2 _ c (by omega) (by omega))
  · exact c
  · rcases h1 with h1 | h1
    · omega
    · exact absurd h1.2.symm (k2 _ c (by omega) (by omega))
theorem ov_base {a b x y : Int} (h : okB a b = true) (k : okB x y = true) : fl a (ovBits a x y b.toNat : Int) = fl x (ovBits a x y b.toNat : Int) := by
  obtain ⟨a0, a1, b0, b1, _⟩ := ok_of h
  obtain ⟨x0, x1, y0, y1, _⟩ := ok_of k
  obtain ⟨h1, _⟩ := ov_spec a x y b.toNat
  rcases h1 with h1 | h1
  · rw [h1]
    show fl a 0 = fl x 0
    rw [fl_zero a0 a1, fl_zero x0 x1]
  · exact h1.2
theorem over_symm (a b x y : Int) : ovBase a b x y = ovBase x y a b ∧ ovLen a b x y = ovLen x y a b := by
  unfold ovBase ovLen
  by_cases h : okB a b = true
  · by_cases k : okB x y = true
    · simp only [h, k, Bool.and_self, if_true]
      rw [← ov_symm h k]
      exact ⟨ov_base h k, rfl⟩
    · have k' : okB x y = false := by simpa using k
      simp [k']
  · have h' : okB a b = false := by simpa using h
    simp [h']
theorem over_ok {a b x y : Int} (h : okB a b = true) (k : okB x y = true) : okB (ovBase a b x y) (ovLen a b x y) = true := by
  obtain ⟨a0, a1, b0, b1, _⟩ := ok_of h
  have l1 := ovBits_le a x y b.toNat
  unfold ovBase ovLen
  simp only [h, k, Bool.and_self, if_true]
  exact fl_ok a0 a1 (by omega) (by omega)
theorem over_in1 {a b x y : Int} (h : okB a b = true) (k : okB x y = true) : inBlk (ovBase a b x y) (ovLen a b x y) a b = true := by
  have ho := over_ok h k
  obtain ⟨a0, a1, b0, b1, _⟩ := ok_of h
  have l1 := ovBits_le a x y b.toNat
  simp only [inBlk, ho, h, Bool.true_and]
  unfold ovBase ovLen
  simp only [h, k, Bool.and_self, if_true]
  rw [with_fl]
  simp
  omega
theorem over_in2 {a b x y : Int} (h : okB a b = true) (k : okB x y = true) : inBlk (ovBase a b x y) (ovLen a b x y) x y = true := by
  rw [(over_symm a b x y).1, (over_symm a b x y).2]
  exact over_in1 k h
theorem over_least {a b x y c : Int} (h : okB a b = true) (k : okB x y = true) (h1 : inBlk c (ovLen a b x y + 1) a b = true) (h2 : inBlk c (ovLen a b x y + 1) x y = true) : False := by
  obtain ⟨a0, a1, b0, b1, _⟩ := ok_of h
  obtain ⟨x0, x1, y0, y1, _⟩ := ok_of k
  have e : ovLen a b x y = (ovBits a x y b.toNat : Int) := by unfold ovLen; simp [h, k]
  rw [e] at h1 h2
  have e2 : ((ovBits a x y b.toNat : Int) + 1) = ((ovBits a x y b.toNat + 1 : Nat) : Int) := by omega
  rw [e2] at h1 h2
  simp only [inBlk, Bool.and_eq_true] at h1 h2
  obtain ⟨⟨hc, _⟩, h1⟩ := h1
  obtain ⟨_, h2⟩ := h2
  rw [← fl_self hc, with_fl, Bool.and_eq_true, decide_eq_true_eq, decide_eq_true_eq, fl_self hc] at h1 h2
  exact (ov_spec a x y b.toNat).2 _ (Nat.lt_succ_self _) (by omega) h2.1 (h1.2.symm.trans h2.2)
theorem over_self {a b : Int} (h : okB a b = true) : ovBase a b a b = a ∧ ovLen a b a b = b := by
  obtain ⟨a0, a1, b0, b1, _⟩ := ok_of h
  have e : ((b.toNat : Nat) : Int) = b := Int.toNat_of_nonneg b0
  have : ovBits a a b b.toNat = b.toNat := ov_stop (by rw [with_fl]; simp; omega)
  unfold ovBase ovLen
  simp only [h, Bool.and_self, if_true]
  rw [this, e]
  exact ⟨fl_self h, rfl⟩
end Go.BlockM
