/- Plain mathematics of blocks of addresses: powers of two, which blocks are ok, which has which. No conditions. -/
import Derived.IntWalk
import Derived.Laws.BitsAllLaws
namespace Go.BlockM
open Go.RowKit
def inB (n lo hi : Int) : Bool := decide (lo ≤ n ∧ n ≤ hi)
def pw (n : Int) : Int := 2 ^ n.toNat
theorem pw_succ (n : Int) (h : 0 ≤ n) : pw (n + 1) = pw n * 2 := by
  unfold pw; rw [show (n + 1).toNat = n.toNat + 1 by omega, Int.pow_succ]
theorem pw_pos (n : Int) : 1 ≤ pw n := by
  unfold pw; have := Int.pow_pos (n := 2) (m := n.toNat) (by omega); omega
theorem pw_add (a : Int) (k : Nat) (ha : 0 ≤ a) : pw (a + k) = pw a * pw k := by
  unfold pw; rw [show (a + k).toNat = a.toNat + k by omega, Int.pow_add]; rfl
theorem pw_dvd {a b : Int} (h0 : 0 ≤ a) (h : a ≤ b) : ∃ c, 1 ≤ c ∧ pw b = pw a * c := by
  obtain ⟨k, hk⟩ : ∃ k : Nat, b = a + k := ⟨(b - a).toNat, by omega⟩
  subst hk; exact ⟨pw k, pw_pos _, pw_add a k h0⟩
theorem pw_mono {a b : Int} (h0 : 0 ≤ a) (h : a ≤ b) : pw a ≤ pw b := by
  obtain ⟨c, hc, e⟩ := pw_dvd h0 h
  have := pw_pos a
  rw [e]; have := Int.mul_le_mul_of_nonneg_left hc (show 0 ≤ pw a by omega); omega
theorem pw_0 : pw 0 = 1 := rfl
theorem pw_62 : pw 62 = 4611686018427387904 := rfl
theorem pw_32 : pw 32 = 4294967296 := rfl
theorem pw_le {n : Int} (h0 : 0 ≤ n) (h : n ≤ 32) : pw n ≤ 4294967296 := by rw [← pw_32]; exact pw_mono h0 h
theorem pw_wrap (n : Int) (h0 : 0 ≤ n) (h : n ≤ 32) : wrap64 (2 ^ n.toNat) = pw n := by
  have h1 := pw_pos n; have h2 := pw_le h0 h
  show wrap64 (pw n) = pw n
  exact IntWalk.wrap64_in _ ⟨by omega, by omega⟩
def okB (base bits : Int) : Bool := decide (0 ≤ base ∧ base ≤ 4294967295 ∧ 0 ≤ bits ∧ bits ≤ 32 ∧ base % pw (32 - bits) = 0)
theorem floor_le (a s : Int) (h : 1 ≤ s) : a / s * s ≤ a := Int.ediv_mul_le a (by omega)
theorem floor_nonneg (a s : Int) (ha : 0 ≤ a) (h : 1 ≤ s) : 0 ≤ a / s * s := Int.mul_nonneg (Int.ediv_nonneg ha (by omega)) (by omega)
theorem ok_of {a b : Int} (h : okB a b = true) : 0 ≤ a ∧ a ≤ 4294967295 ∧ 0 ≤ b ∧ b ≤ 32 ∧ a % pw (32 - b) = 0 := by simpa [okB] using h
theorem ok_mk {a b : Int} (h : 0 ≤ a ∧ a ≤ 4294967295 ∧ 0 ≤ b ∧ b ≤ 32 ∧ a % pw (32 - b) = 0) : okB a b = true := by simpa [okB] using h
/-- The block of so many bits that has an address. -/
def fl (a b : Int) : Int := a / pw (32 - b) * pw (32 - b)
theorem fl_ok {a b : Int} (h0 : 0 ≤ a) (h1 : a ≤ 4294967295) (h2 : 0 ≤ b) (h3 : b ≤ 32) : okB (fl a b) b = true := by
  have hp := pw_pos (32 - b)
  refine ok_mk ⟨floor_nonneg _ _ h0 hp, ?_, h2, h3, Int.mul_emod_left _ _⟩
  have := floor_le a (pw (32 - b)) hp
  unfold fl; omega
theorem fl_self {a b : Int} (h : okB a b = true) : fl a b = a := by
  obtain ⟨_, _, _, _, h⟩ := ok_of h
  unfold fl
  have := Int.ediv_mul_add_emod a (pw (32 - b))
  omega
theorem fl_zero {a : Int} (h0 : 0 ≤ a) (h1 : a ≤ 4294967295) : fl a 0 = 0 := by
  have : a / pw (32 - 0) = 0 := Int.ediv_eq_zero_of_lt h0 (by show a < pw 32; rw [pw_32]; omega)
  unfold fl; rw [this]; simp
def withB (a b x y : Int) : Bool := decide (b ≤ y) && inB x a (a + pw (32 - b) - 1)
def holdB (a b x y : Int) : Bool := inB x a (a + pw (32 - b) - 1) && inB (x + pw (32 - y) - 1) a (a + pw (32 - b) - 1)
theorem with_hold {a b x y : Int} (h : okB a b = true) (k : okB x y = true) : withB a b x y = holdB a b x y := by
  obtain ⟨a0, a1, b0, b1, hm⟩ := ok_of h
  obtain ⟨x0, x1, y0, y1, km⟩ := ok_of k
  have hp := pw_pos (32 - b)
  have kp := pw_pos (32 - y)
  rw [Bool.eq_iff_iff]
  simp only [withB, holdB, inB, Bool.and_eq_true, decide_eq_true_eq]
  by_cases hby : b ≤ y
  · obtain ⟨c, hc, e⟩ := pw_dvd (a := 32 - y) (b := 32 - b) (by omega) (by omega)
    obtain ⟨p, hpp⟩ := Int.dvd_of_emod_eq_zero hm
    obtain ⟨q, hq⟩ := Int.dvd_of_emod_eq_zero km
    rw [e] at *
    generalize pw (32 - y) = s at *
    constructor
    · rintro ⟨_, h1, h2⟩
      refine ⟨⟨h1, h2⟩, by omega, ?_⟩
      have h3 : s * q < s * (c * p + c) := by rw [Int.mul_add, ← Int.mul_assoc]; omega
      have h4 : q < c * p + c := Int.lt_of_mul_lt_mul_left h3 (by omega)
      have h5 : s * (q + 1) ≤ s * (c * p + c) := Int.mul_le_mul_of_nonneg_left (by omega) (by omega)
      rw [Int.mul_add, Int.mul_add, ← Int.mul_assoc] at h5
      omega
    · rintro ⟨⟨h1, h2⟩, _⟩
      exact ⟨hby, h1, h2⟩
  · constructor
    · rintro ⟨h1, _⟩; exact absurd h1 hby
    · rintro ⟨⟨h1, h2⟩, h3, h4⟩
      have h5 := pw_mono (a := 32 - b + 1) (b := 32 - y) (by omega) (by omega)
      rw [pw_succ _ (by omega)] at h5
      omega
theorem fl_step_nat (A k : Nat) (hA : A < 2 ^ 32) (hk : k ≤ 31) : (A / 2 ^ k * 2 ^ k) &&& (2 ^ 64 - 1 - 2 ^ k) = A / 2 ^ (k + 1) * 2 ^ (k + 1) := by
  apply Nat.eq_of_testBit_eq
  intro i
  have e1 : 2 ^ 64 - 1 - 2 ^ k = 2 ^ 64 - (2 ^ k + 1) := by omega
  have hlt : 2 ^ k < 2 ^ 64 := Nat.pow_lt_pow_right (by omega) (by omega)
  rw [Nat.testBit_and, e1, Nat.testBit_two_pow_sub_succ hlt, Nat.testBit_two_pow, Nat.mul_comm, Nat.testBit_two_pow_mul, Nat.mul_comm, Nat.testBit_two_pow_mul, Nat.pow_succ, ← Nat.div_div_eq_div_mul, Nat.testBit_div_two]
  by_cases h1 : i ≤ k
  · by_cases h2 : i = k
    · subst h2; simp; omega
    · have : ¬ k ≤ i := by omega
      have : ¬ k + 1 ≤ i := by omega
      simp [*]
  · have h3 : k + 1 ≤ i := by omega
    have h4 : i - (k + 1) + 1 = i - k := by omega
    have h5 : k ≠ i := by omega
    by_cases h6 : i < 64
    · simp [h3, h4, h5, h6]; intro _; omega
    · have : (A / 2 ^ k).testBit (i - k) = false := by
        rw [Nat.testBit_div_two_pow]
        apply Nat.testBit_lt_two_pow
        have : 2 ^ 32 ≤ 2 ^ (k + (i - k)) := Nat.pow_le_pow_right (by omega) (by omega)
        have e2 : i - k + k = k + (i - k) := by omega
        first | omega | (rw [e2]; omega)
      simp [h4, this]
theorem wrap_i64_small (n : Int) (h0 : 0 ≤ n) (h1 : n < 9223372036854775808) : IntKind.i64.wrap n = n := by
  simp [IntKind.wrap, IntKind.bits, IntKind.signed]
  split <;> omega
theorem wrap_i64_in (n : Int) (h0 : -9223372036854775808 ≤ n) (h1 : n < 9223372036854775808) : IntKind.i64.wrap n = n := by
  simp [IntKind.wrap, IntKind.bits, IntKind.signed]
  split <;> omega
theorem pw_nat (k : Nat) : pw (k : Int) = ((2 ^ k : Nat) : Int) := by unfold pw; simp
theorem fl_step {a b : Int} (h0 : 0 ≤ a) (h1 : a ≤ 4294967295) (h2 : 1 ≤ b) (h3 : b ≤ 32) : bits .andNot .i64 (fl a b) (pw (32 - b)) = fl a (b - 1) := by
  obtain ⟨A, rfl⟩ := Int.eq_ofNat_of_zero_le h0
  obtain ⟨k, hk⟩ : ∃ k : Nat, 32 - b = k := ⟨(32 - b).toNat, by omega⟩
  have hk1 : 32 - (b - 1) = ((k + 1 : Nat) : Int) := by omega
  unfold fl
  rw [hk, hk1, pw_nat, pw_nat]
  have e : ((A : Int) / ((2 ^ k : Nat) : Int) * ((2 ^ k : Nat) : Int)) = ((A / 2 ^ k * 2 ^ k : Nat) : Int) := by simp
  have e2 : ((A : Int) / ((2 ^ (k + 1) : Nat) : Int) * ((2 ^ (k + 1) : Nat) : Int)) = ((A / 2 ^ (k + 1) * 2 ^ (k + 1) : Nat) : Int) := by simp
  have hA : A < 4294967296 := by omega
  have hle := Nat.div_mul_le_self A (2 ^ k)
  have hle2 := Nat.div_mul_le_self A (2 ^ (k + 1))
  have hlt : 2 ^ k < 2 ^ 64 := Nat.pow_lt_pow_right (by omega) (by omega)
  rw [e, e2]
  show IntKind.i64.wrap ((BitVec.ofInt 64 ((A / 2 ^ k * 2 ^ k : Nat) : Int) &&& ~~~BitVec.ofInt 64 ((2 ^ k : Nat) : Int)).toNat : Int) = _
  rw [BitVec.toNat_and, BitVec.toNat_not, ofInt_u64 _ (by omega), ofInt_u64 _ (by omega), fl_step_nat A k (by omega) (by omega)]
  exact wrap_i64_small _ (by omega) (by omega)
/-- How many bits the least block has that has two: looked for from n bits downward. -/
def ovBits (a x y : Int) : Nat → Nat
  | 0 => 0
  | n + 1 => if withB (fl a ((n + 1 : Nat) : Int)) ((n + 1 : Nat) : Int) x y then n + 1 else ovBits a x y n
theorem ovBits_le (a x y : Int) : ∀ n, ovBits a x y n ≤ n
  | 0 => Nat.le_refl _
  | n + 1 => by unfold ovBits; split; exact Nat.le_refl _; have := ovBits_le a x y n; omega
theorem with_zero {a x y : Int} (h0 : 0 ≤ a) (h1 : a ≤ 4294967295) (k : okB x y = true) : withB (fl a 0) 0 x y = true := by
  obtain ⟨x0, x1, y0, y1, _⟩ := ok_of k
  rw [fl_zero h0 h1]
  simp only [withB, inB, Bool.and_eq_true, decide_eq_true_eq]
  refine ⟨y0, x0, ?_⟩
  show x ≤ 0 + pw 32 - 1
  rw [pw_32]; omega
theorem ov_stop {a x y : Int} {n : Nat} (h : withB (fl a (n : Int)) (n : Int) x y = true) : ovBits a x y n = n := by
  cases n with
  | zero => rfl
  | succ n => unfold ovBits; rw [if_pos h]
theorem ov_on {a x y : Int} {n : Nat} (h : withB (fl a ((n + 1 : Nat) : Int)) ((n + 1 : Nat) : Int) x y = false) : ovBits a x y (n + 1) = ovBits a x y n := by
  show (if _ then _ else _) = _
  rw [if_neg (by rw [h]; exact Bool.false_ne_true)]
end Go.BlockM
