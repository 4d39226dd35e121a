/- Plain mathematics: cells of a grid, one behind the other, and how they are joined. -/
import Derived.Test.YtdljoopioglkiaaWinM
import Derived.Test.YtdljoopioglkiaaFst
namespace Go.Proofs.Ytdljoopioglkiaa
open Go.WinMath
set_option linter.unusedVariables false
/-- A cell: from one to one, to such a one, at such a port; its rule. -/
structure Cv where
  a : Int
  b : Int
  c : Int
  d : Int
  l : Int
  h : Int
  r : Int
/-- Whether a cell goes on where one ends. -/
def goesOn (x c : Cv) : Bool := decide (x.r = c.r) && decide (x.a = c.a) && decide (x.c = c.c) && decide (x.h + 1 = c.l)
/-- A cell put behind others, the last turned first. -/
def joinR (out : List Cv) (c : Cv) : List Cv := match out with
  | [] => [c]
  | x :: r => if goesOn x c then { x with h := c.h } :: r else c :: x :: r
/-- The first place that serves, of n; -1 if none does. -/
def firstF (p : Nat → Bool) : Nat → Int
  | 0 => -1
  | n + 1 => if 0 ≤ firstF p n then firstF p n else if p n then n else -1
theorem firstF_lt (p : Nat → Bool) : ∀ n, -1 ≤ firstF p n ∧ firstF p n < n
  | 0 => by simp [firstF]
  | n + 1 => by
    have := firstF_lt p n
    unfold firstF
    split
    · omega
    · split <;> omega
theorem isFirst_firstF (p : Nat → Bool) : ∀ n, IsFirst p (fun i => (i : Int)) n (firstF p n)
  | 0 => .inr ⟨fun i hi => by omega, rfl⟩
  | n + 1 => by
    rcases isFirst_firstF p n with ⟨i, hi, hp, hb, he⟩ | ⟨hn, he⟩
    · replace he : firstF p n = (i : Int) := he
      refine .inl ⟨i, by omega, hp, hb, ?_⟩
      unfold firstF
      rw [if_pos (by omega), he]
    · by_cases h : p n = true
      · refine .inl ⟨n, by omega, h, hn, ?_⟩
        unfold firstF
        rw [if_neg (by omega), if_pos h]
      · refine .inr ⟨fun i hi => ?_, ?_⟩
        · by_cases e : i = n
          · subst e; simpa using h
          · exact hn i (by omega)
        · unfold firstF
          rw [if_neg (by omega), if_neg h]
theorem isFirst_eq {p : Nat → Bool} {n : Nat} {v : Int} (h : IsFirst p (fun i => (i : Int)) n v) : v = firstF p n := h.one (isFirst_firstF p n)
/-- The end of the part of a side that begins at a place. -/
def endAt (L : List Int) (most : Int) (i : Nat) : Int := if i + 1 < L.length then L.getD (i + 1) 0 - 1 else most
/-- One part of the grid put to the cells. -/
def stepP (F T P : List Int) (f : Int → Int → Int → Int) (i k j : Nat) (out : List Cv) : List Cv :=
  let n := f (F.getD i 0) (T.getD k 0) (P.getD j 0)
  if 0 ≤ n then joinR out ⟨F.getD i 0, endAt F 4294967295 i, T.getD k 0, endAt T 4294967295 k, P.getD j 0, endAt P 65535 j, n⟩ else out
/-- The first j parts of a row. -/
def rowP (F T P : List Int) (f : Int → Int → Int → Int) (i k : Nat) : Nat → List Cv → List Cv
  | 0, out => out
  | j + 1, out => stepP F T P f i k j (rowP F T P f i k j out)
/-- The first k rows. -/
def colP (F T P : List Int) (f : Int → Int → Int → Int) (i : Nat) : Nat → List Cv → List Cv
  | 0, out => out
  | k + 1, out => rowP F T P f i k P.length (colP F T P f i k out)
/-- The first i planes. -/
def allP (F T P : List Int) (f : Int → Int → Int → Int) : Nat → List Cv
  | 0 => []
  | i + 1 => colP F T P f i T.length (allP F T P f i)
theorem joinR_len (out : List Cv) (c : Cv) : (joinR out c).length ≤ out.length + 1 := by
  unfold joinR
  split
  · simp
  · split <;> simp
theorem stepP_len (F T P : List Int) (f : Int → Int → Int → Int) (i k j : Nat) (out : List Cv) : (stepP F T P f i k j out).length ≤ out.length + 1 := by
  unfold stepP
  simp only
  split
  · exact joinR_len _ _
  · omega
theorem rowP_len (F T P : List Int) (f : Int → Int → Int → Int) (i k : Nat) (out : List Cv) : ∀ j, (rowP F T P f i k j out).length ≤ out.length + j
  | 0 => by simp [rowP]
  | j + 1 => by
    have h1 := stepP_len F T P f i k j (rowP F T P f i k j out)
    have h2 := rowP_len F T P f i k out j
    show (stepP F T P f i k j (rowP F T P f i k j out)).length ≤ _
    omega
theorem colP_len (F T P : List Int) (f : Int → Int → Int → Int) (i : Nat) (out : List Cv) : ∀ k, (colP F T P f i k out).length ≤ out.length + k * P.length
  | 0 => by simp [colP]
  | k + 1 => by
    have h1 := rowP_len F T P f i k (colP F T P f i k out) P.length
    have h2 := colP_len F T P f i out k
    show (rowP F T P f i k P.length (colP F T P f i k out)).length ≤ _
    rw [Nat.succ_mul]
    omega
theorem allP_len (F T P : List Int) (f : Int → Int → Int → Int) : ∀ i, (allP F T P f i).length ≤ i * (T.length * P.length)
  | 0 => by simp [allP]
  | i + 1 => by
    have h1 := colP_len F T P f i (allP F T P f i) T.length
    have h2 := allP_len F T P f i
    show (colP F T P f i T.length (allP F T P f i)).length ≤ _
    rw [Nat.succ_mul]
    omega
/-- All at which a side may change: the beginnings, and what lies behind the ends. -/
def edgR (lo hi : Nat → Int) (most : Int) (L : List Int) : Nat → List Int
  | 0 => L
  | n + 1 => let M := ins (lo n) (edgR lo hi most L n); if hi n < most then ins (hi n + 1) M else M
theorem ins_len (n : Int) : ∀ L : List Int, (ins n L).length ≤ L.length + 1
  | [] => by simp [ins]
  | x :: r => by
    have := ins_len n r
    unfold ins
    split
    · simp; omega
    · split <;> simp
theorem edgR_len (lo hi : Nat → Int) (most : Int) (L : List Int) : ∀ n, (edgR lo hi most L n).length ≤ L.length + 2 * n
  | 0 => by simp [edgR]
  | n + 1 => by
    have h1 := edgR_len lo hi most L n
    have h2 := ins_len (lo n) (edgR lo hi most L n)
    have h3 := ins_len (hi n + 1) (ins (lo n) (edgR lo hi most L n))
    unfold edgR
    simp only
    split <;> omega
theorem edgR_asc (lo hi : Nat → Int) (most : Int) (L : List Int) (h : L.Pairwise (· < ·)) : ∀ n, (edgR lo hi most L n).Pairwise (· < ·)
  | 0 => h
  | n + 1 => by
    have h1 := asc_ins (lo n) _ (edgR_asc lo hi most L h n)
    unfold edgR
    simp only
    split
    · exact asc_ins _ _ h1
    · exact h1
theorem edgR_ne (lo hi : Nat → Int) (most : Int) (L : List Int) (h : L ≠ []) : ∀ n, edgR lo hi most L n ≠ []
  | 0 => h
  | n + 1 => by
    have hn : ∀ (x : Int) (M : List Int), ins x M ≠ [] := fun x M e => by have := (mem_ins x x M).2 (.inl rfl); rw [e] at this; cases this
    unfold edgR
    simp only
    split <;> exact hn _ _
theorem ins_mem {n : Int} : ∀ {L : List Int}, L.Pairwise (· < ·) → n ∈ L → ins n L = L
  | [], _, h => by cases h
  | x :: r, hp, h => by
    have hp1 := List.pairwise_cons.1 hp
    unfold ins
    rcases List.mem_cons.1 h with rfl | h
    · rw [if_neg (by omega), if_pos rfl]
    · have := hp1.1 n h
      rw [if_pos (by omega), ins_mem hp1.2 h]
/-- The cells as values. -/
def cvL (L : List Cv) : List Value := L.flatMap fun x => [.int .i64 x.a, .int .i64 x.b, .int .i64 x.c, .int .i64 x.d, .int .i64 x.l, .int .i64 x.h, .int .i64 x.r]
theorem cvL_append (A B : List Cv) : cvL (A ++ B) = cvL A ++ cvL B := by simp [cvL]
theorem cvL_len : ∀ L : List Cv, (cvL L).length = L.length * 7
  | [] => rfl
  | x :: r => by
    have := cvL_len r
    simp only [cvL, List.flatMap_cons, List.length_append, List.length_cons, List.length_nil] at this ⊢
    omega
def cvF (x : Cv) (j : Nat) : Int := match j with
  | 0 => x.a | 1 => x.b | 2 => x.c | 3 => x.d | 4 => x.l | 5 => x.h | _ => x.r
theorem cvL_get : ∀ (L : List Cv) (i : Nat) (x : Cv), L[i]? = some x → ∀ j, j < 7 → (cvL L)[i * 7 + j]? = some (.int .i64 (cvF x j))
  | [], i, x, h, _, _ => by simp at h
  | y :: r, 0, x, h, j, hj => by
    simp at h
    subst h
    rcases (by omega : j = 0 ∨ j = 1 ∨ j = 2 ∨ j = 3 ∨ j = 4 ∨ j = 5 ∨ j = 6) with rfl | rfl | rfl | rfl | rfl | rfl | rfl <;> rfl
  | y :: r, i + 1, x, h, j, hj => by
    have ih := cvL_get r i x (by simpa using h) j hj
    have e : (i + 1) * 7 + j = i * 7 + j + 7 := by omega
    rw [e]
    simpa [cvL] using ih
end Go.Proofs.Ytdljoopioglkiaa
