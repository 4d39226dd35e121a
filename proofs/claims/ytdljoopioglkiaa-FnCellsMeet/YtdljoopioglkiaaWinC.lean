/- A window read as a word of bits, in the program, as a contract. The conditions stand at each theorem. -/
import Derived.Test.YtdljoopioglkiaaWinB
namespace Go.Proofs.Ytdljoopioglkiaa
open Go.RowKit Go.LatT Go.BlockM Go.OpnT Go.WinMath
set_option linter.unusedVariables false
set_option linter.unusedSimpArgs false
/-- The last of the first k numbers, or 0. -/
def topK (E : Nat → Int) (k : Nat) : Int := if k = 0 then 0 else E (k - 1)
/-- What was seen of the first k numbers. -/
def seenK (E : Nat → Int) : Nat → List Int
  | 0 => []
  | k + 1 => listL (topK E k) (seenK E k) (E k)
/-- The first k numbers as a list. -/
def LE (E : Nat → Int) (k : Nat) : List Int := (List.range k).map E
theorem LE_succ (E : Nat → Int) (k : Nat) : LE E (k + 1) = LE E k ++ [E k] := by simp [LE, List.range_succ]
theorem mem_LE {E : Nat → Int} {k : Nat} {x : Int} : x ∈ LE E k ↔ ∃ i, i < k ∧ E i = x := by simp [LE]
/-- A number may be the next. -/
def goodK (m : Int) (E : Nat → Int) (i : Nat) : Prop := topK E i < E i ∧ m < E i ∧ E i ≤ 1000000
theorem topK_nonneg {m : Int} {E : Nat → Int} : ∀ {k : Nat}, (∀ i, i < k → goodK m E i) → 0 ≤ topK E k
  | 0, _ => by simp [topK]
  | k + 1, h => by
    have h1 := topK_nonneg (m := m) (E := E) (k := k) (fun i hi => h i (by omega))
    have h2 := (h k (by omega)).1
    simp only [topK, Nat.add_sub_cancel, Nat.succ_ne_zero, if_false]
    omega
theorem topK_mono {m : Int} {E : Nat → Int} {k : Nat} : ∀ {n : Nat}, (∀ i, i < n → goodK m E i) → ∀ i, i < n → E i ≤ topK E n
  | 0, _, i, hi => by omega
  | n + 1, h, i, hi => by
    have hn := (h n (by omega)).1
    have e : topK E (n + 1) = E n := by simp [topK]
    rw [e]
    by_cases e2 : i = n
    · rw [e2]; omega
    · have := topK_mono (k := k) (n := n) (fun j hj => h j (by omega)) i (by omega)
      omega
theorem ins_last (n : Int) : ∀ L : List Int, (∀ x, x ∈ L → x < n) → ins n L = L ++ [n]
  | [], _ => rfl
  | x :: r, h => by
    have hx := h x (by simp)
    unfold ins
    rw [if_pos hx, ins_last n r (fun y hy => h y (by simp [hy]))]
    rfl
theorem code_good {m : Int} {E : Nat → Int} {k : Nat} {c : Nat} (h : ∀ i, i < k → goodK m E i) (hr : Rep (topK E k) c (seenK E k)) (hk : goodK m E k) : codeL (topK E k) (seenK E k) (E k) = 0 ∧ topL (topK E k) (seenK E k) (E k) = topK E (k + 1) := by
  have h0 := topK_nonneg h
  obtain ⟨g1, g2, g3⟩ := hk
  have hc : codeL (topK E k) (seenK E k) (E k) = 0 := by
    unfold codeL
    rw [if_neg (by omega), if_neg (by omega), if_neg (fun hm => by have := hr.mem _ hm; omega)]
  refine ⟨hc, ?_⟩
  unfold topL
  rw [if_pos ⟨hc, g1⟩]
  simp [topK]
theorem seen_all {m : Int} {E : Nat → Int} : ∀ {k : Nat}, (∀ i, i < k → goodK m E i) → (∀ i, i < k → topK E k - 16 < E i) → seenK E k = LE E k
  | 0, _, _ => rfl
  | k + 1, h, h2 => by
    have hlast := (h k (by omega))
    have e : topK E (k + 1) = E k := by simp [topK]
    rw [e] at h2
    have hle := fun i hi => topK_mono (k := 0) (n := k) (fun j hj => h j (by omega)) i hi
    have ih := seen_all (m := m) (E := E) (k := k) (fun i hi => h i (by omega)) (fun i hi => by have := h2 i (by omega); have := hlast.1; omega)
    have h0 := topK_nonneg (m := m) (E := E) (k := k) (fun i hi => h i (by omega))
    have hlt : ∀ x, x ∈ LE E k → x < E k := fun x hx => by
      obtain ⟨i, hi, rfl⟩ := mem_LE.1 hx
      have := hle i hi; have := hlast.1; omega
    have hc : codeL (topK E k) (LE E k) (E k) = 0 := by
      unfold codeL
      have := hlast.1; have := hlast.2.2
      rw [if_neg (by omega), if_neg (by omega), if_neg (fun hm => by have := hlt _ hm; omega)]
    have ht : topL (topK E k) (LE E k) (E k) = E k := by unfold topL; rw [if_pos ⟨hc, hlast.1⟩]
    show listL (topK E k) (seenK E k) (E k) = _
    rw [ih]
    unfold listL
    rw [if_pos hc, ht, ins_last _ _ hlt, LE_succ]
    apply List.filter_eq_self.2
    intro x hx
    rw [← LE_succ] at hx
    obtain ⟨i, hi, rfl⟩ := mem_LE.1 hx
    have := h2 i hi
    simp; omega
theorem wok_le {t : Int} {len : Nat} {E : Nat → Int} (h : WOk t len E) : ∀ (j i : Nat), i ≤ j → j < len → E i ≤ E j
  | 0, i, hij, hj => by rw [show i = 0 by omega]; exact Int.le_refl _
  | j + 1, i, hij, hj => by
    by_cases e : i = j + 1
    · rw [e]; exact Int.le_refl _
    · have h1 := wok_le h j i (by omega) (by omega)
      rcases h with ⟨h0, _⟩ | ⟨_, h2, _⟩
      · omega
      · have h3 := h2 (j + 1) hj
        have : ¬ E (j + 1) ≤ E (j + 1 - 1) := fun h4 => h3 (.inr (.inr ⟨by omega, h4⟩))
        rw [Nat.add_sub_cancel] at this
        omega
theorem wok_good {t : Int} {len : Nat} {E : Nat → Int} (h : WOk t len E) : (∀ i, i < len → goodK (IntKind.i64.wrap (t - 16)) E i) ∧ topK E len = t := by
  have hle := wok_le h
  rcases h with ⟨rfl, rfl⟩ | ⟨h0, h2, h3, h4⟩
  · exact ⟨fun i hi => by omega, rfl⟩
  · refine ⟨fun i hi => ?_, by rw [topK, if_neg (by omega)]; exact h3⟩
    have h5 := h2 i hi
    have h6 : ¬ E i < 1 := fun h => h5 (.inr (.inl h))
    have h7 : ¬ E i ≤ IntKind.i64.wrap (t - 16) := fun h => h5 (.inl h)
    have h8 := hle (len - 1) i (by omega) (by omega)
    refine ⟨?_, by omega, by omega⟩
    unfold topK
    split
    · omega
    · have : ¬ E i ≤ E (i - 1) := fun h => h5 (.inr (.inr ⟨by omega, h⟩))
      omega
theorem good_wok {t : Int} {len : Nat} {E : Nat → Int} (h : ∀ i, i < len → goodK (IntKind.i64.wrap (t - 16)) E i) (ht : topK E len = t) : WOk t len E := by
  by_cases h0 : len = 0
  · subst h0; exact .inl ⟨rfl, ht.symm⟩
  · have e : E (len - 1) = t := by rw [topK, if_neg h0] at ht; exact ht
    refine .inr ⟨by omega, fun i hi => ?_, e, by rw [← e]; exact (h (len - 1) (by omega)).2.2⟩
    obtain ⟨g1, g2, g3⟩ := h i hi
    have hz := topK_nonneg (m := IntKind.i64.wrap (t - 16)) (E := E) (k := i) (fun j hj => h j (by omega))
    rintro (a | a | ⟨a, b⟩)
    · omega
    · omega
    · rw [topK, if_neg (by omega)] at g1; omega
theorem wok_seen {t : Int} {len : Nat} {E : Nat → Int} (h : WOk t len E) : seenK E len = LE E len := by
  obtain ⟨h1, h2⟩ := wok_good h
  by_cases h0 : len = 0
  · subst h0; rfl
  · have hz := topK_nonneg h1
    have hl := (h1 (len - 1) (by omega)).2.2
    have e : E (len - 1) = t := by rw [topK, if_neg h0] at h2; exact h2
    have hw : IntKind.i64.wrap (t - 16) = t - 16 := by rw [IntKind.wrap_i64]; omega
    refine seen_all h1 fun i hi => ?_
    rw [h2]
    have := (h1 i hi).2.1
    rw [hw] at this
    exact this
end Go.Proofs.Ytdljoopioglkiaa
