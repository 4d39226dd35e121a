/- What is proved: a number in so many bytes, the highest first, and the number of bytes, without Go. No conditions but those at each theorem. -/
import Derived.PlainAid
namespace Go.BytM
set_option linter.unusedVariables false
/-- A number in k bytes, the highest first. -/
def be : Nat → Nat → List UInt8
  | 0, _ => []
  | k + 1, n => be k (n / 256) ++ [UInt8.ofNat n]
theorem be_len : ∀ k n, (be k n).length = k
  | 0, _ => rfl
  | k + 1, n => by rw [be, List.length_append, be_len k]; rfl
theorem be_cons : ∀ k n, be (k + 1) n = UInt8.ofNat (n / 256 ^ k) :: be k n
  | 0, n => by simp [be]
  | k + 1, n => by
    rw [be, be_cons k (n / 256), be]
    simp [Nat.div_div_eq_div_mul, Nat.pow_succ, Nat.mul_comm]
/-- The number of bytes. -/
def num (l : List UInt8) : Nat := l.foldl (fun n b => n * 256 + b.toNat) 0
theorem num_nil : num [] = 0 := rfl
theorem num_snoc (l : List UInt8) (b : UInt8) : num (l ++ [b]) = num l * 256 + b.toNat := by simp [num]
theorem num_be : ∀ k n, n < 256 ^ k → num (be k n) = n
  | 0, n, h => by simp at h; subst h; rfl
  | k + 1, n, h => by
    rw [be, num_snoc, num_be k (n / 256) (by rw [Nat.pow_succ] at h; omega)]
    have : (UInt8.ofNat n).toNat = n % 256 := by simp
    omega
theorem snoc_cases (l : List UInt8) : l = [] ∨ ∃ m b, l = m ++ [b] := by
  rcases List.eq_nil_or_concat l with h | ⟨m, b, h⟩
  · exact .inl h
  · exact .inr ⟨m, b, by simpa using h⟩
theorem num_lt : ∀ (k : Nat) (l : List UInt8), l.length = k → num l < 256 ^ k
  | 0, l, h => by have := List.length_eq_zero_iff.1 h; subst this; simp [num]
  | k + 1, l, h => by
    rcases snoc_cases l with rfl | ⟨m, b, rfl⟩
    · simp at h
    · have h1 := num_lt k m (by simpa using h)
      have h2 : b.toNat < 256 := b.toNat_lt
      rw [num_snoc, Nat.pow_succ]; omega
theorem be_num : ∀ (k : Nat) (l : List UInt8), l.length = k → be k (num l) = l
  | 0, l, h => by have := List.length_eq_zero_iff.1 h; subst this; rfl
  | k + 1, l, h => by
    rcases snoc_cases l with rfl | ⟨m, b, rfl⟩
    · simp at h
    · have h2 : b.toNat < 256 := b.toNat_lt
      have e1 : num (m ++ [b]) / 256 = num m := by rw [num_snoc]; omega
      have e2 : UInt8.ofNat (num (m ++ [b])) = b := by
        apply UInt8.toNat_inj.1
        rw [num_snoc]; simp
      rw [be, e1, e2, be_num k m (by simpa using h)]
/-- The bytes of a text. -/
def bl (s : ByteArray) : List UInt8 := s.data.toList
theorem bl_len (s : ByteArray) : (bl s).length = s.size := s.data.length_toList
theorem of_bl (s : ByteArray) : (⟨(bl s).toArray⟩ : ByteArray) = s := by simp [bl]
theorem bl_of (l : List UInt8) : bl ⟨l.toArray⟩ = l := by simp [bl]
theorem bl_inj {s t : ByteArray} (h : bl s = bl t) : s = t := by rw [← of_bl s, ← of_bl t, h]
theorem bl_append (s t : ByteArray) : bl (s ++ t) = bl s ++ bl t := by simp [bl, ByteArray.data_append]
end Go.BytM
