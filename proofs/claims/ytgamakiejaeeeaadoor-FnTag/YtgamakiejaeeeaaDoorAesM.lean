/- What is proved: AES of bytes as numbers, without Go: taking times in the field, the table, rows, columns, keys. No conditions but those at each theorem. -/
import Derived.WalkKit
import Derived.Laws.Rows
import Derived.Laws.Tables
namespace Go.AesM
open Go.RowKit
set_option linter.unusedVariables false
/-- A byte times two. -/
def xt (a : Nat) : Nat := if 255 < a * 2 then a * 2 ^^^ 283 else a * 2
/-- What is left of taking times. -/
def mulF : Nat → Nat → Nat → Nat → Nat
  | 0, _, _, o => o
  | f + 1, a, b, o => if b = 0 then o else mulF f (xt a) (b / 2) (if b % 2 = 1 then o ^^^ a else o)
/-- Two bytes taken times each other. -/
def mul (a b : Nat) : Nat := mulF 8 a b 0
theorem xt_lt (a : Nat) (h : a < 256) : xt a < 256 := by
  have : ∀ a : Fin 256, xt a.1 < 256 := by decide +kernel
  exact this ⟨a, h⟩
theorem xor_lt {a b : Nat} (ha : a < 256) (hb : b < 256) : a ^^^ b < 256 := Nat.xor_lt_two_pow (n := 8) ha hb
theorem mulF_lt : ∀ f a b o, a < 256 → o < 256 → mulF f a b o < 256
  | 0, _, _, _, _, ho => ho
  | f + 1, a, b, o, ha, ho => by
    unfold mulF
    split
    · exact ho
    · refine mulF_lt f _ _ _ (xt_lt a ha) ?_
      split
      · exact xor_lt ho ha
      · exact ho
theorem mul_lt {a b : Nat} (ha : a < 256) : mul a b < 256 := mulF_lt 8 a b 0 ha (by decide)
/-- n bytes as cells. -/
def rC (n : Nat) (f : Nat → Nat) : Array Value := ((List.range n).map fun i => Value.int .u8 (f i : Int)).toArray
theorem rC_size (n : Nat) (f : Nat → Nat) : (rC n f).size = n := by simp [rC]
theorem rC_get (n : Nat) (f : Nat → Nat) (i : Nat) (h : i < n) : (rC n f)[i]? = some (.int .u8 (f i : Int)) := by simp [rC, h]
theorem rC_congr {n : Nat} {f g : Nat → Nat} (h : ∀ i, i < n → f i = g i) : rC n f = rC n g := by
  unfold rC
  congr 1
  apply List.map_congr_left
  intro i hi
  rw [h i (List.mem_range.1 hi)]
theorem rC_set (n : Nat) (f : Nat → Nat) (k b : Nat) : (rC n f).setIfInBounds k (.int .u8 (b : Int)) = rC n (fun i => if i = k then b else f i) := by
  apply Array.ext
  · simp [rC]
  · intro i h1 h2
    by_cases h : k = i
    · subst h; simp [rC]
    · have : ¬ i = k := fun e => h e.symm
      rw [Array.getElem_setIfInBounds_ne (by simpa [rC] using h1) h]
      simp [rC, this]
theorem rC_one (n : Nat) (f : Nat → Nat) : (rC n f).all (·.oneCell') = true := by
  rw [Array.all_eq_true_iff_forall_mem]
  intro x hx
  simp [rC] at hx
  obtain ⟨i, _, rfl⟩ := hx
  rfl
/-- Bytes that lie in a block of their own. -/
def RB (w : World) (g n : Nat) (t : TypeId) (f : Nat → Nat) : Prop := w.heap[g]? = some (.cells (rC n f) t (0, 0))
section
variable {w w' : World} {g n : Nat} {t : TypeId} {f f' : Nat → Nat}
theorem RB.lt (h : RB w g n t f) : g < w.heap.size := (Array.getElem?_eq_some_iff.1 h).1
theorem RB.cell (h : RB w g n t f) (i : Nat) (hi : i < n) : w.cell? ⟨g, i, none⟩ = some (.int .u8 (f i : Int)) := by
  rw [cell_of_row w g i _ _ _ h, rC_get n f i hi]
theorem RB.frozen (h : RB w g n t f) (i : Nat) : w.frozen? ⟨g, i, none⟩ = false := frozen_of_row w g i _ _ h
theorem RB.set (h : RB w g n t f) (k b : Nat) : RB (w.setCell ⟨g, k, none⟩ (.int .u8 (b : Int))) g n t (fun i => if i = k then b else f i) := by
  unfold RB
  rw [heap_setCell_same w g k _ t _ h, rC_set]
theorem RB.other (h : RB w g n t f) (b o : Nat) (v : Value) (hb : b ≠ g) : RB (w.setCell ⟨b, o, none⟩ v) g n t f := by
  unfold RB
  rw [heap_setCell_other w ⟨b, o, none⟩ g v (Ne.symm hb)]; exact h
theorem RB.congr (h : RB w g n t f) (e : ∀ i, i < n → f i = f' i) : RB w g n t f' := by
  unfold RB; rw [← rC_congr e]; exact h
end
theorem RB.new (w : World) (n : Nat) (t : TypeId) (f : Nat → Nat) : RB (w.alloc (.cells (rC n f) t)) w.heap.size n t f := heap_alloc_new w _
end Go.AesM
