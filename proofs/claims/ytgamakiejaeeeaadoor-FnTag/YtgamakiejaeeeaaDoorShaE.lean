/- Blocks of words, and the words of a block in the program, as contracts. The conditions stand at each theorem. -/
import Derived.Test.YtgamakiejaeeeaaDoorShaD
import Derived.Test.YtgamakiejaeeeaaDoorRowQ
import Derived.Test.YtgamakiejaeeeaaDoorDrwA
import Derived.Laws.Rows
import Derived.Laws.Tables
namespace Go.Proofs.YtgamakiejaeeeaaDoor
open Go.RowKit Go.LatT Go.BlockM Go.PlainAid Go.OpnT Go.ApdG Go.BytM Go.AesM Go.RowQ
set_option linter.unusedVariables false
set_option linter.unusedSimpArgs false
/-- n words as an array. -/
def uA (n : Nat) (f : Nat → Nat) : Array Value := (uC n f).toArray
theorem uA_size (n : Nat) (f : Nat → Nat) : (uA n f).size = n := by simp [uA, uC_len]
theorem uA_get (n : Nat) (f : Nat → Nat) (i : Nat) (h : i < n) : (uA n f)[i]? = some (.int .u32 (f i : Int)) := by simp [uA, uC_get n f i h]
theorem uA_one (n : Nat) (f : Nat → Nat) : (uA n f).all (·.oneCell') = true := by
  rw [Array.all_eq_true_iff_forall_mem]
  intro x hx
  simp [uA, uC] at hx
  obtain ⟨i, _, rfl⟩ := hx
  rfl
theorem uA_congr {n : Nat} {f g : Nat → Nat} (h : ∀ i, i < n → f i = g i) : uA n f = uA n g := by unfold uA; rw [uC_congr h]
theorem uC_set (n : Nat) (f : Nat → Nat) (k b : Nat) : (uC n f).set k (.int .u32 (b : Int)) = uC n (fun i => if i = k then b else f i) := by
  apply List.ext_getElem?
  intro i
  by_cases hi : i < n
  · rw [uC_get n _ i hi]
    by_cases h : k = i
    · subst h
      rw [List.getElem?_set_self (by rw [uC_len]; exact hi), if_pos rfl]
    · rw [List.getElem?_set_ne h, uC_get n f i hi, if_neg (fun e => h e.symm)]
  · rw [List.getElem?_eq_none (by rw [List.length_set, uC_len]; omega), List.getElem?_eq_none (by rw [uC_len]; omega)]
/-- Words that lie in a block of their own. -/
def UB (w : World) (g n : Nat) (t : TypeId) (f : Nat → Nat) : Prop := w.heap[g]? = some (.cells (uA n f) t (0, 0))
section
variable {w w' : World} {g n : Nat} {t : TypeId} {f f' : Nat → Nat}
theorem UB.lt (h : UB w g n t f) : g < w.heap.size := (Array.getElem?_eq_some_iff.1 h).1
theorem UB.cell (h : UB w g n t f) (i : Nat) (hi : i < n) : w.cell? ⟨g, i, none⟩ = some (.int .u32 (f i : Int)) := by
  rw [cell_of_row w g i _ _ _ h, uA_get n f i hi]
theorem UB.frozen (h : UB w g n t f) (i : Nat) : w.frozen? ⟨g, i, none⟩ = false := frozen_of_row w g i _ _ h
theorem UB.set (h : UB w g n t f) (k b : Nat) : UB (w.setCell ⟨g, k, none⟩ (.int .u32 (b : Int))) g n t (fun i => if i = k then b else f i) := by
  unfold UB
  rw [heap_setCell_same w g k _ t _ h, uA, List.setIfInBounds_toArray, uC_set, uA]
theorem UB.other (h : UB w g n t f) (b o : Nat) (v : Value) (hb : b ≠ g) : UB (w.setCell ⟨b, o, none⟩ v) g n t f := by
  unfold UB
  rw [heap_setCell_other w ⟨b, o, none⟩ g v (Ne.symm hb)]; exact h
theorem UB.congr (h : UB w g n t f) (e : ∀ i, i < n → f i = f' i) : UB w g n t f' := by
  unfold UB; rw [← uA_congr e]; exact h
theorem UB.later (h : UB w g n t f) (hb : Below w.heap.size w w') : UB w' g n t f := by
  unfold UB
  rw [hb.block g h.lt]; exact h
theorem UB.below {B : Nat} (h : UB w g n t f) (hb : Below B w w') (hg : g < B) : UB w' g n t f := by
  unfold UB
  rw [hb.block g hg]; exact h
end
theorem UB.new (w : World) (n : Nat) (t : TypeId) (f : Nat → Nat) : UB (w.alloc (.cells (uA n f) t)) w.heap.size n t f := heap_alloc_new w _
theorem zeroU64 : (#[.int .u32 0, .int .u32 0, .int .u32 0, .int .u32 0, .int .u32 0, .int .u32 0, .int .u32 0, .int .u32 0, .int .u32 0, .int .u32 0, .int .u32 0, .int .u32 0, .int .u32 0, .int .u32 0, .int .u32 0, .int .u32 0, .int .u32 0, .int .u32 0, .int .u32 0, .int .u32 0, .int .u32 0, .int .u32 0, .int .u32 0, .int .u32 0, .int .u32 0, .int .u32 0, .int .u32 0, .int .u32 0, .int .u32 0, .int .u32 0, .int .u32 0, .int .u32 0, .int .u32 0, .int .u32 0, .int .u32 0, .int .u32 0, .int .u32 0, .int .u32 0, .int .u32 0, .int .u32 0, .int .u32 0, .int .u32 0, .int .u32 0, .int .u32 0, .int .u32 0, .int .u32 0, .int .u32 0, .int .u32 0, .int .u32 0, .int .u32 0, .int .u32 0, .int .u32 0, .int .u32 0, .int .u32 0, .int .u32 0, .int .u32 0, .int .u32 0, .int .u32 0, .int .u32 0, .int .u32 0, .int .u32 0, .int .u32 0, .int .u32 0, .int .u32 0] : Array Value) = uA 64 (fun _ => 0) := by kernel_rfl
theorem sizeU64 : (Tryd.prog.info? 59).map (·.size) = some 64 := by kernel_rfl
theorem sizeU8 : (Tryd.prog.info? 48).map (·.size) = some 8 := by kernel_rfl
theorem sizeB64 : (Tryd.prog.info? 49).map (·.size) = some 64 := by kernel_rfl
theorem aggB64 : AggT Tryd.prog 49 64 := ⟨fun w => by kernel_rfl, fun w => by kernel_rfl⟩
theorem aggU8 : AggT Tryd.prog 48 8 := ⟨fun w => by kernel_rfl, fun w => by kernel_rfl⟩
/-- The first m bytes of a word. -/
def pwk (b : Nat → Nat) (j : Nat) : Nat → Nat
  | 0 => 0
  | m + 1 => pwk b j m * 256 + b (4 * j + m)
/-- A word behind i bytes. -/
def pw (b : Nat → Nat) (i j : Nat) : Nat := pwk b j (min (i - 4 * j) 4)
theorem pwk_lt {b : Nat → Nat} (hb : ∀ i, i < 64 → b i < 256) (j : Nat) (hj : j < 16) : ∀ m, m ≤ 4 → pwk b j m < 256 ^ m
  | 0, _ => by simp [pwk]
  | m + 1, h => by
    have h1 := pwk_lt hb j hj m (by omega)
    have h2 := hb (4 * j + m) (by omega)
    rw [pwk, Nat.pow_succ]; omega
theorem pw_zero (b : Nat → Nat) (j : Nat) : pw b 0 j = 0 := by simp [pw, pwk]
theorem pw_all (b : Nat → Nat) (j : Nat) (h : j < 16) : pw b 64 j = wds b j := by
  have e : min (64 - 4 * j) 4 = 4 := by omega
  rw [wds_low b j h, pw, e]
  simp [pwk]
theorem pw_step (b : Nat → Nat) (i j : Nat) : pw b (i + 1) j = if j = i / 4 then pw b i j * 256 + b i else pw b i j := by
  by_cases h : j = i / 4
  · subst h
    rw [if_pos rfl]
    have e1 : min (i + 1 - 4 * (i / 4)) 4 = min (i - 4 * (i / 4)) 4 + 1 := by omega
    have e2 : 4 * (i / 4) + min (i - 4 * (i / 4)) 4 = i := by omega
    rw [pw, pw, e1, pwk, e2]
  · rw [if_neg h, pw, pw]
    congr 1
    omega
theorem pw_at {b : Nat → Nat} (hb : ∀ i, i < 64 → b i < 256) (i : Nat) (hi : i < 64) : pw b i (i / 4) < 16777216 := by
  have e1 : min (i - 4 * (i / 4)) 4 = i % 4 := by omega
  rw [pw, e1]
  have h := pwk_lt hb (i / 4) (by omega) (i % 4) (by omega)
  have : (256 : Nat) ^ (i % 4) ≤ 256 ^ 3 := Nat.pow_le_pow_right (by decide) (by omega)
  omega
/-- What lies where while the words are made. -/
structure WS (w W : World) (f : Nat → Nat) : Prop where
  zer : UB W w.heap.size 64 59 (fun _ => 0)
  wrd : UB W (w.heap.size + 1) 64 59 f
  bel : Below w.heap.size w W
section
variable {w W W' : World} {f f' : Nat → Nat}
theorem WS.later (h : WS w W f) (hb : Below W.heap.size W W') : WS w W' f := ⟨h.zer.later hb, h.wrd.later hb, below_later h.bel hb⟩
theorem WS.drew (h : WS w W f) : WS w W.drew f := ⟨h.zer, h.wrd, h.bel.drew⟩
theorem WS.set (h : WS w W f) (k b : Nat) : WS w (W.setCell ⟨w.heap.size + 1, k, none⟩ (.int .u32 (b : Int))) (fun i => if i = k then b else f i) :=
  ⟨h.zer.other _ _ _ (by omega), h.wrd.set k b, h.bel.setCell (by simp) _⟩
theorem WS.congr (h : WS w W f) (e : ∀ i, i < 64 → f i = f' i) : WS w W f' := ⟨h.zer, h.wrd.congr e, h.bel⟩
theorem WS.new (w : World) : WS w ((w.alloc (.cells (uA 64 fun _ => 0) 59)).alloc (.cells (uA 64 fun _ => 0) 59)) (fun _ => 0) := by
  refine ⟨(UB.new w 64 _ _).later (below_box _ _), ?_, ((Below.refl _ _).alloc (Nat.le_refl _) _).alloc (by simp) _⟩
  have := UB.new (w.alloc (.cells (uA 64 fun _ => 0) 59)) 64 59 (fun _ => 0)
  simpa using this
end
end Go.Proofs.YtgamakiejaeeeaaDoor
