/- What is proved: the bytes of a text as a list, and when two texts are unlike. No conditions but those at each theorem. -/
import Derived.Test.YtdbobeojbdcmdaaBytM
namespace Go.Proofs.Ytdbobeojbdcmdaa
open Go.BytM
theorem loop_eq (s : ByteArray) : ∀ k i r, s.size - i = k → ByteArray.toList.loop s i r = r.reverse ++ (bl s).drop i
  | 0, i, r, h => by
    rw [ByteArray.toList.loop, if_neg (by omega), List.drop_of_length_le (by rw [bl_len]; omega), List.append_nil]
  | k + 1, i, r, h => by
    have hi : i < s.size := by omega
    rw [ByteArray.toList.loop, if_pos hi, loop_eq s k (i + 1) _ (by omega)]
    have hl : i < (bl s).length := by rw [bl_len]; exact hi
    rw [List.drop_eq_getElem_cons hl]
    have hg : s.get! i = (bl s)[i] := by
      cases s with
      | mk d =>
        have hd : i < d.size := hi
        simp [ByteArray.get!, bl, hd]
    rw [hg]
    simp
theorem toList_eq (s : ByteArray) : s.toList = bl s := by
  unfold ByteArray.toList
  rw [loop_eq s s.size 0 [] (by omega)]
  simp
theorem toList_ne {x y : ByteArray} (h : x ≠ y) : ¬ x.toList = y.toList ∧ (x.toList == y.toList) = false := by
  have : ¬ x.toList = y.toList := by rw [toList_eq, toList_eq]; exact fun e => h (bl_inj e)
  exact ⟨this, by simpa using this⟩
theorem toList_nil {x : ByteArray} (h : x ≠ ⟨#[]⟩) : ¬ x.toList = [] ∧ x.toList.isEmpty = false ∧ (x.toList == []) = false := by
  have e : (⟨#[]⟩ : ByteArray).toList = [] := by rw [toList_eq]; rfl
  have h1 := (toList_ne h).1
  rw [e] at h1
  refine ⟨h1, ?_, ?_⟩
  · cases hx : x.toList with
    | nil => exact absurd hx h1
    | cons a l => rfl
  · simpa using h1
end Go.Proofs.Ytdbobeojbdcmdaa
