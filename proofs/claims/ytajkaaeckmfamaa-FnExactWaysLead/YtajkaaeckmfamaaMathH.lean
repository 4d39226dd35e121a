/- Plain mathematics of the halves of a block. The conditions stand at the theorems. -/
import Derived.Test.YtajkaaeckmfamaaMath
namespace Go.BlockM
set_option linter.unusedVariables false
theorem ok_end {a b : Int} (h : okB a b = true) : a + pw (32 - b) ≤ 4294967296 := by
  obtain ⟨a0, a1, b0, b1, hm⟩ := ok_of h
  obtain ⟨c, hc, e⟩ := pw_dvd (a := 32 - b) (b := 32) (by omega) (by omega)
  obtain ⟨k, hk⟩ := Int.dvd_of_emod_eq_zero hm
  have hp := pw_pos (32 - b)
  rw [pw_32] at e
  have h1 : pw (32 - b) * k < pw (32 - b) * c := by omega
  have h2 : k < c := Int.lt_of_mul_lt_mul_left h1 (by omega)
  have h3 : pw (32 - b) * (k + 1) ≤ pw (32 - b) * c := Int.mul_le_mul_of_nonneg_left (by omega) (by omega)
  rw [Int.mul_add, Int.mul_one] at h3
  omega
theorem pw_half {b : Int} (h : b ≤ 31) : pw (32 - b) = pw (32 - (b + 1)) * 2 := by
  rw [show 32 - b = 32 - (b + 1) + 1 by omega, pw_succ _ (by omega)]
theorem half_mod {a b : Int} (h : okB a b = true) (hb : b ≤ 31) : a % pw (32 - (b + 1)) = 0 := by
  obtain ⟨a0, a1, b0, b1, hm⟩ := ok_of h
  rw [pw_half hb] at hm
  obtain ⟨k, hk⟩ := Int.dvd_of_emod_eq_zero hm
  rw [hk, Int.mul_assoc]
  exact Int.mul_emod_right _ _
theorem half_ok0 {a b : Int} (h : okB a b = true) (hb : b ≤ 31) : okB a (b + 1) = true := by
  obtain ⟨a0, a1, b0, b1, hm⟩ := ok_of h
  exact ok_mk ⟨a0, a1, by omega, by omega, half_mod h hb⟩
theorem half_ok1 {a b : Int} (h : okB a b = true) (hb : b ≤ 31) : okB (a + pw (32 - (b + 1))) (b + 1) = true := by
  obtain ⟨a0, a1, b0, b1, hm⟩ := ok_of h
  have he := ok_end h
  have hp := pw_pos (32 - (b + 1))
  rw [pw_half hb] at he
  refine ok_mk ⟨by omega, by omega, by omega, by omega, ?_⟩
  rw [Int.add_emod_right]
  exact half_mod h hb
theorem half_in0 {a b : Int} (hb : b ≤ 31) : withB a b a (b + 1) = true := by
  have hp := pw_pos (32 - b)
  simp only [withB, inB, Bool.and_eq_true, decide_eq_true_eq]
  omega
theorem half_in1 {a b : Int} (hb : b ≤ 31) : withB a b (a + pw (32 - (b + 1))) (b + 1) = true := by
  have hp := pw_pos (32 - (b + 1))
  simp only [withB, inB, Bool.and_eq_true, decide_eq_true_eq]
  rw [pw_half hb]
  omega
theorem half_apart0 {a b : Int} : withB a (b + 1) (a + pw (32 - (b + 1))) (b + 1) = false := by
  have : ¬ (a + pw (32 - (b + 1)) ≤ a + pw (32 - (b + 1)) - 1) := by omega
  simp [withB, inB, this]
theorem half_apart1 {a b : Int} : withB (a + pw (32 - (b + 1))) (b + 1) a (b + 1) = false := by
  have hp := pw_pos (32 - (b + 1))
  have : ¬ (a + pw (32 - (b + 1)) ≤ a) := by omega
  simp [withB, inB, this]
theorem half_over {a b : Int} (h : okB a b = true) (hb : b ≤ 31) : ovBits a (a + pw (32 - (b + 1))) (b + 1) (b + 1).toNat = b.toNat := by
  obtain ⟨a0, a1, b0, b1, hm⟩ := ok_of h
  obtain ⟨n, rfl⟩ := Int.eq_ofNat_of_zero_le b0
  have e1 : ((n : Int) + 1).toNat = n + 1 := by omega
  have e2 : ((n + 1 : Nat) : Int) = (n : Int) + 1 := by omega
  rw [e1, Int.toNat_natCast, ov_on (by rw [e2, fl_self (half_ok0 h hb)]; exact half_apart0)]
  exact ov_stop (by rw [fl_self h]; exact half_in1 hb)
end Go.BlockM
