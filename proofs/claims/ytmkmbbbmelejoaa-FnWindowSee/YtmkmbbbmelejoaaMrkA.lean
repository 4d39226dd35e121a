/- Lists of numbers that are marked, and held against marks. The conditions stand at each theorem. -/
import Derived.Test.YtmkmbbbmelejoaaApdA
import Derived.Test.YtmkmbbbmelejoaaWinK
namespace Go.Proofs.Ytmkmbbbmelejoaa
open Go.RowKit Go.LatT Go.BlockM Go.OpnT Go.WinMath
set_option linter.unusedVariables false
set_option linter.unusedSimpArgs false
/-- Numbers that count on. -/
def upFrom (k : Int) (n : Nat) : List Int := (List.range n).map fun i : Nat => k + (i : Int)
theorem upFrom_len (k : Int) (n : Nat) : (upFrom k n).length = n := by simp [upFrom]
theorem upFrom_succ (k : Int) (n : Nat) : upFrom k (n + 1) = upFrom k n ++ [k + (n : Int)] := by simp [upFrom, List.range_succ]
theorem upFrom_get (k : Int) (n i : Nat) (h : i < n) : (upFrom k n).getD i 0 = k + (i : Int) := by simp [upFrom, h]
theorem mark_step (k : Int) (L : List Int) (i : Nat) (hi : i < L.length) : (i64s (upFrom k i ++ L.drop i)).set i (.int .i64 (k + (i : Int))) = i64s (upFrom k (i + 1) ++ L.drop (i + 1)) := by
  rw [List.drop_eq_getElem_cons hi, upFrom_succ]
  have h := upFrom_len k i
  simp only [i64s, List.map_append, List.map_cons, List.append_assoc, List.singleton_append]
  rw [List.set_append_right _ _ (by rw [List.length_map, h]; exact Nat.le_refl _)]
  simp [h]
theorem IRow.owns {w : World} {b n base : Nat} {E : Nat → Int} (h : IRow w b n E) (hb : base ≤ b) (hn : n ≤ maxLen) : w.ownsRow base 3 1 (.slice (some ⟨b, 0, none⟩) n n) n (i64s (LE E n)) := by
  obtain ⟨c, h1, h2, h3⟩ := h
  refine ⟨by simp [i64s, LE], .inr ⟨b, n, c, rfl, hb, h1, Nat.le_refl _, hn, by omega, ?_⟩⟩
  have hl : c.toList.length = n := by simpa using h2
  rw [Nat.mul_one, List.take_of_length_le (by omega)]
  apply List.ext_getElem?
  intro i
  by_cases hi : i < n
  · rw [show c.toList[i]? = c[i]? by simp, h3 i hi]
    simp [i64s, LE, hi]
  · rw [List.getElem?_eq_none (by omega), List.getElem?_eq_none (by simp [i64s, LE]; omega)]
end Go.Proofs.Ytmkmbbbmelejoaa
