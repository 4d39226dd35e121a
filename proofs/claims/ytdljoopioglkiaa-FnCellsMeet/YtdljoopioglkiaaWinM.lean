/- Plain mathematics: a window as a list of numbers, and as a word of sixteen bits; what seeing a number makes of both. No conditions of its own. -/
import Derived.Test.YtdljoopioglkiaaLat
namespace Go.WinMath
set_option linter.unusedVariables false
def shl (c k : Nat) : Nat := c * 2 ^ min k 16 % 65536
theorem shl_lt (c k : Nat) : shl c k < 65536 := Nat.mod_lt _ (by decide)
theorem shl_bit (c k j : Nat) (hj : j < 16) : (shl c k).testBit j = (decide (k ≤ j) && c.testBit (j - k)) := by
  unfold shl
  rw [show (65536 : Nat) = 2 ^ 16 from rfl, Nat.testBit_mod_two_pow, ← Nat.shiftLeft_eq, Nat.testBit_shiftLeft]
  by_cases hk : k ≤ 16
  · rw [Nat.min_eq_left hk]; simp [hj]
  · rw [Nat.min_eq_right (by omega)]
    have h1 : ¬ 16 ≤ j := by omega
    have h2 : ¬ k ≤ j := by omega
    simp [h1, h2]
theorem one_pow (k : Nat) (hk : k < 16) : shl 1 k = 2 ^ k := by
  unfold shl
  rw [Nat.min_eq_left (by omega), Nat.one_mul]
  exact Nat.mod_eq_of_lt (by rw [show (65536 : Nat) = 2 ^ 16 from rfl]; exact Nat.pow_lt_pow_right (by decide) hk)
theorem and_bit (c k : Nat) (hk : k < 16) : (c &&& shl 1 k = 0) ↔ c.testBit k = false := by
  rw [one_pow k hk]
  constructor
  · intro h
    have : (c &&& 2 ^ k).testBit k = false := by rw [h]; simp
    rw [Nat.testBit_and, Nat.testBit_two_pow] at this
    simpa using this
  · intro h
    apply Nat.eq_of_testBit_eq
    intro i
    rw [Nat.testBit_and, Nat.testBit_two_pow]
    by_cases e : k = i
    · subst e; simp [h]
    · simp [e]
theorem or_bit (c k j : Nat) (hk : k < 16) : (c ||| shl 1 k).testBit j = (c.testBit j || decide (j = k)) := by
  rw [Nat.testBit_or, one_pow k hk, Nat.testBit_two_pow]
  congr 1
  rw [Bool.eq_iff_iff]; simp; omega
theorem or_lt (c k : Nat) (hc : c < 65536) : c ||| shl 1 k < 65536 := by
  rw [show (65536 : Nat) = 2 ^ 16 from rfl] at *
  exact Nat.or_lt_two_pow hc (shl_lt 1 k)
/-- A word of bits, as of a top, is just the numbers of a list, which ascends, and reaches sixteen back at most. -/
structure Rep (T : Int) (c : Nat) (L : List Int) : Prop where
  lt : c < 65536
  t0 : 0 ≤ T
  t1 : T ≤ 1000000
  mem : ∀ x, x ∈ L → 1 ≤ x ∧ x ≤ T ∧ T - 16 < x
  asc : L.Pairwise (· < ·)
  bit : ∀ j : Nat, j < 16 → (c.testBit j = true ↔ T - j ∈ L)
theorem rep_nil : Rep 0 0 [] := ⟨by decide, by decide, by decide, fun x h => (by cases h), .nil, fun j _ => by simp⟩
/-- A number put among others, ascending. -/
def ins (n : Int) : List Int → List Int
  | [] => [n]
  | x :: r => if x < n then x :: ins n r else if x = n then x :: r else n :: x :: r
theorem mem_ins (n x : Int) : ∀ L : List Int, x ∈ ins n L ↔ x = n ∨ x ∈ L
  | [] => by simp [ins]
  | y :: r => by
    have ih := mem_ins n x r
    unfold ins
    split
    · simp only [List.mem_cons, ih]; constructor
      · rintro (h | h | h) <;> simp [h]
      · rintro (h | h | h) <;> simp [h]
    · split
      · rename_i h1 h2; subst h2; simp
      · simp only [List.mem_cons]
theorem asc_ins (n : Int) : ∀ L : List Int, L.Pairwise (· < ·) → (ins n L).Pairwise (· < ·)
  | [], _ => by simp [ins]
  | y :: r, h => by
    have h1 := List.pairwise_cons.1 h
    unfold ins
    split
    · rename_i hy
      refine List.pairwise_cons.2 ⟨fun z hz => ?_, asc_ins n r h1.2⟩
      rcases (mem_ins n z r).1 hz with rfl | hz
      · exact hy
      · exact h1.1 z hz
    · split
      · exact h
      · rename_i h2 h3
        refine List.pairwise_cons.2 ⟨fun z hz => ?_, h⟩
        rcases List.mem_cons.1 hz with rfl | hz
        · omega
        · have := h1.1 z hz; omega
/-- What the list says to a number: a code; and the top and the list behind it. -/
def codeL (T : Int) (L : List Int) (n : Int) : Int := if n < 1 ∨ 1000000 < n then 1 else if n ≤ T - 16 then 2 else if n ∈ L then 3 else 0
def topL (T : Int) (L : List Int) (n : Int) : Int := if codeL T L n = 0 ∧ T < n then n else T
def listL (T : Int) (L : List Int) (n : Int) : List Int := if codeL T L n = 0 then (ins n L).filter (fun x => decide (topL T L n - 16 < x)) else L
/-- What the word says. -/
def wordT (T : Int) (n : Int) : Int := if T < n then n else T
def wordC (T : Int) (c : Nat) (n : Int) : Nat := if T < n then shl c (n - T).toNat else c
def wordB (T : Int) (n : Int) : Nat := shl 1 (wordT T n - n).toNat
theorem rep_word {T n : Int} {c : Nat} {L : List Int} (h : Rep T c L) (h1 : 1 ≤ n) (h2 : n ≤ 1000000) (h3 : T - 16 < n) :
    (wordC T c n < 65536) ∧ (wordT T n - n).toNat < 16 ∧ (∀ j : Nat, j < 16 → ((wordC T c n).testBit j = true ↔ wordT T n - j ∈ L)) := by
  unfold wordC wordT
  by_cases hn : T < n
  · simp only [hn, if_true]
    refine ⟨shl_lt _ _, by omega, fun j hj => ?_⟩
    rw [shl_bit _ _ _ hj]
    simp only [Bool.and_eq_true, decide_eq_true_eq]
    constructor
    · rintro ⟨a, b⟩
      have := (h.bit (j - (n - T).toNat) (by omega)).1 b
      rw [show n - (j : Int) = T - ((j - (n - T).toNat : Nat) : Int) by omega]
      exact this
    · intro hm
      have hb := h.mem _ hm
      refine ⟨by omega, (h.bit _ (by omega)).2 ?_⟩
      rw [show T - ((j - (n - T).toNat : Nat) : Int) = n - (j : Int) by omega]
      exact hm
  · simp only [hn, if_false]
    exact ⟨h.lt, by omega, h.bit⟩
theorem word_again {T n : Int} {c : Nat} {L : List Int} (h : Rep T c L) (h1 : 1 ≤ n) (h2 : n ≤ 1000000) (h3 : T - 16 < n) :
    (wordC T c n &&& wordB T n = 0) ↔ n ∉ L := by
  obtain ⟨_, hk, hb⟩ := rep_word h h1 h2 h3
  unfold wordB
  rw [and_bit _ _ hk]
  have := hb _ hk
  rw [show wordT T n - (((wordT T n - n).toNat : Nat) : Int) = n by
    have : n ≤ wordT T n := by unfold wordT; split <;> omega
    omega] at this
  rw [← this]
  simp
theorem again_same {T n : Int} {c : Nat} {L : List Int} (h : Rep T c L) (hn : n ∈ L) : wordT T n = T ∧ wordC T c n = c := by
  have := h.mem n hn
  unfold wordT wordC
  have : ¬ T < n := by omega
  simp [this]
theorem rep_see {T n : Int} {c : Nat} {L : List Int} (h : Rep T c L) (h1 : 1 ≤ n) (h2 : n ≤ 1000000) (h3 : T - 16 < n) (h4 : n ∉ L) :
    Rep (topL T L n) (wordC T c n ||| wordB T n) (listL T L n) ∧ topL T L n = wordT T n ∧ codeL T L n = 0 := by
  obtain ⟨hc, hk, hb⟩ := rep_word h h1 h2 h3
  have hcode : codeL T L n = 0 := by
    unfold codeL
    rw [if_neg (by omega), if_neg (by omega), if_neg h4]
  have htop : topL T L n = wordT T n := by
    unfold topL wordT
    simp [hcode]
  have hle : n ≤ wordT T n ∧ T ≤ wordT T n ∧ wordT T n ≤ 1000000 ∧ 0 ≤ wordT T n := by
    have := h.t0; have := h.t1
    unfold wordT; split <;> omega
  have hmem : ∀ x, x ∈ listL T L n ↔ (x = n ∨ x ∈ L) ∧ wordT T n - 16 < x := by
    intro x
    unfold listL
    simp only [hcode, if_true, List.mem_filter, mem_ins, decide_eq_true_eq, htop]
  refine ⟨⟨or_lt _ _ hc, by rw [htop]; omega, by rw [htop]; omega, ?_, ?_, ?_⟩, htop, hcode⟩
  · intro x hx
    rw [htop]
    obtain ⟨a, b⟩ := (hmem x).1 hx
    rcases a with rfl | a
    · omega
    · have := h.mem x a; omega
  · unfold listL
    simp only [hcode, if_true]
    exact (asc_ins n L h.asc).filter _
  · intro j hj
    rw [htop, hmem]
    unfold wordB
    rw [or_bit _ _ _ hk, Bool.or_eq_true, hb j hj, decide_eq_true_eq]
    constructor
    · rintro (a | rfl)
      · exact ⟨.inr a, by omega⟩
      · exact ⟨.inl (by omega), by omega⟩
    · rintro ⟨a | a, _⟩
      · exact .inr (by omega)
      · exact .inl a
/-- Two lists that ascend, and have the same, are the same. -/
theorem asc_eq : ∀ (L M : List Int), L.Pairwise (· < ·) → M.Pairwise (· < ·) → (∀ x, x ∈ L ↔ x ∈ M) → L = M
  | [], [], _, _, _ => rfl
  | [], y :: M, _, _, h => by have := (h y).2 (by simp); cases this
  | x :: L, [], _, _, h => by have := (h x).1 (by simp); cases this
  | x :: L, y :: M, hL, hM, h => by
    have a := List.pairwise_cons.1 hL
    have b := List.pairwise_cons.1 hM
    have hxy : x = y := by
      rcases List.mem_cons.1 ((h x).1 (by simp)) with e | e
      · exact e
      · rcases List.mem_cons.1 ((h y).2 (by simp)) with e' | e'
        · exact e'.symm
        · have := b.1 x e; have := a.1 y e'; omega
    subst hxy
    rw [asc_eq L M a.2 b.2 fun z => ?_]
    constructor
    · intro hz
      rcases List.mem_cons.1 ((h z).1 (by simp [hz])) with e | e
      · have := a.1 z hz; omega
      · exact e
    · intro hz
      rcases List.mem_cons.1 ((h z).2 (by simp [hz])) with e | e
      · have := b.1 z hz; omega
      · exact e
end Go.WinMath
