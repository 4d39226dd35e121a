/- The keys of AES, in the program, as contracts. The conditions stand at each theorem. -/
import Derived.Test.YtdbobeojbdcmdaaAesE
namespace Go.Proofs.Ytdbobeojbdcmdaa
open Go.RowKit Go.LatT Go.BlockM Go.PlainAid Go.OpnT Go.ApdG Go.BytM Go.AesM
set_option linter.unusedVariables false
set_option linter.unusedSimpArgs false
/-- The word that goes through a key. -/
def w0 (f : Nat → Nat) (r j : Nat) : Nat := if j = 0 then there (f (12 + (j + 1) % 4)) ^^^ r else there (f (12 + (j + 1) % 4))
/-- Byte j of word m of the next key. -/
def nkc (f : Nat → Nat) (r j : Nat) : Nat → Nat
  | 0 => w0 f r j ^^^ f j
  | m + 1 => nkc f r j m ^^^ f (4 * (m + 1) + j)
/-- The next key. -/
def nk (f : Nat → Nat) (r i : Nat) : Nat := nkc f r (i % 4) (i / 4)
/-- The word behind k steps. -/
def wk (f : Nat → Nat) (r k j : Nat) : Nat := if (k + 3 - j) / 4 = 0 then w0 f r j else nkc f r j ((k + 3 - j) / 4 - 1)
theorem there_lt (j : Nat) (h : j < 256) : there j < 256 := (sub_by ⟨j, h⟩).1
theorem w0_lt {f : Nat → Nat} {r : Nat} (hf : By 16 f) (hr : r < 256) (j : Nat) (hj : j < 4) : w0 f r j < 256 := by
  have h := there_lt _ (hf (12 + (j + 1) % 4) (by omega))
  unfold w0
  split
  · exact xor_lt h hr
  · exact h
theorem nkc_lt {f : Nat → Nat} {r : Nat} (hf : By 16 f) (hr : r < 256) (j : Nat) (hj : j < 4) : ∀ m, m < 4 → nkc f r j m < 256
  | 0, _ => xor_lt (w0_lt hf hr j hj) (hf j (by omega))
  | m + 1, h => xor_lt (nkc_lt hf hr j hj m (by omega)) (hf _ (by omega))
theorem nk_lt {f : Nat → Nat} {r : Nat} (hf : By 16 f) (hr : r < 256) (i : Nat) (hi : i < 16) : nk f r i < 256 := nkc_lt hf hr _ (by omega) _ (by omega)
theorem wk_lt {f : Nat → Nat} {r : Nat} (hf : By 16 f) (hr : r < 256) (k j : Nat) (hk : k ≤ 16) (hj : j < 4) : wk f r k j < 256 := by
  unfold wk
  split
  · exact w0_lt hf hr j hj
  · exact nkc_lt hf hr j hj _ (by omega)
theorem wk_step (f : Nat → Nat) (r k : Nat) (hk : k < 16) : wk f r k (k % 4) ^^^ f k = nk f r k := by
  unfold wk nk
  have e1 : (k + 3 - k % 4) / 4 = k / 4 := by omega
  rw [e1]
  by_cases h : k / 4 = 0
  · rw [if_pos h, h, nkc, show k % 4 = k by omega]
  · obtain ⟨m, hm⟩ : ∃ m, k / 4 = m + 1 := ⟨k / 4 - 1, by omega⟩
    rw [if_neg h, hm, nkc, show 4 * (m + 1) + k % 4 = k by omega]
    rfl
theorem wk_next (f : Nat → Nat) (r k j : Nat) (hk : k < 16) (hj : j < 4) : wk f r (k + 1) j = if j = k % 4 then nk f r k else wk f r k j := by
  by_cases h : j = k % 4
  · rw [if_pos h]
    unfold wk nk
    rw [if_neg (by omega), show (k + 1 + 3 - j) / 4 - 1 = k / 4 by omega, h]
  · rw [if_neg h]
    unfold wk
    rw [show (k + 1 + 3 - j) / 4 = (k + 3 - j) / 4 by omega]
theorem wk_zero (f : Nat → Nat) (r j : Nat) (hj : j < 4) : wk f r 0 j = w0 f r j := by
  unfold wk
  rw [if_pos (by omega)]
/-- What lies where while the next key is made. -/
structure NS (w W : World) (gt : Nat) (sl : Value) (key word : Nat → Nat) : Prop where
  c0 : W.cell? ⟨w.heap.size, 0, none⟩ = some (.pointer (some ⟨gt, 0, none⟩))
  tab : RB W gt 512 69 (tabF 255)
  key : RB W (w.heap.size + 1) 16 41 key
  res : RB W (w.heap.size + 1 + 1) 16 41 (fun _ => 0)
  word : RB W (w.heap.size + 1 + 1 + 1) 4 72 word
  old : gt < w.heap.size
  bel : Below w.heap.size w W
section
variable {w W : World} {gt : Nat} {sl : Value} {key word h : Nat → Nat}
theorem NS.drew (s : NS w W gt sl key word) : NS w W.drew gt sl key word := ⟨s.c0, s.tab, s.key, s.res, s.word, s.old, s.bel.drew⟩
theorem NS.setW (s : NS w W gt sl key word) (k b : Nat) : NS w (W.setCell ⟨w.heap.size + 1 + 1 + 1, k, none⟩ (.int .u8 (b : Int))) gt sl key (fun i => if i = k then b else word i) :=
  ⟨by have := s.c0; unfold World.cell? at this ⊢; rw [heap_setCell_other _ ⟨w.heap.size + 1 + 1 + 1, k, none⟩ _ _ (by simp; omega)]; exact this, s.tab.other _ _ _ (by have := s.old; omega), s.key.other _ _ _ (by omega), s.res.other _ _ _ (by omega), s.word.set k b, s.old, s.bel.setCell (by simp; omega) _⟩
theorem NS.setK (s : NS w W gt sl key word) (k b : Nat) : NS w (W.setCell ⟨w.heap.size + 1, k, none⟩ (.int .u8 (b : Int))) gt sl (fun i => if i = k then b else key i) word :=
  ⟨by have := s.c0; unfold World.cell? at this ⊢; rw [heap_setCell_other _ ⟨w.heap.size + 1, k, none⟩ _ _ (by simp)]; exact this, s.tab.other _ _ _ (by have := s.old; omega), s.key.set k b, s.res.other _ _ _ (by omega), s.word.other _ _ _ (by omega), s.old, s.bel.setCell (by simp) _⟩
theorem NS.congrW (s : NS w W gt sl key word) (e : ∀ i, i < 4 → word i = h i) : NS w W gt sl key h := ⟨s.c0, s.tab, s.key, s.res, s.word.congr e, s.old, s.bel⟩
theorem NS.congrK (s : NS w W gt sl key word) (e : ∀ i, i < 16 → key i = h i) : NS w W gt sl h word := ⟨s.c0, s.tab, s.key.congr e, s.res, s.word, s.old, s.bel⟩
end
theorem zero4 : (#[.int .u8 0, .int .u8 0, .int .u8 0, .int .u8 0] : Array Value) = rC 4 (fun _ => 0) := by rfl
theorem NS.new (w : World) (gt : Nat) (sl : Value) (f : Nat → Nat) (t1 : TypeId) (hT : RB w gt 512 69 (tabF 255)) :
    NS w ((((w.alloc (.cells #[.pointer (some ⟨gt, 0, none⟩), sl] t1)).alloc (.cells (rC 16 f) 41)).alloc (.cells (rC 16 fun _ => 0) 41)).alloc (.cells (rC 4 fun _ => 0) 72)) gt sl f (fun _ => 0) := by
  have hl := hT.lt
  refine ⟨by go_simp, ?_, ?_, ?_, ?_, hl, by go_grown⟩
  · exact RBlater (RBlater (RBlater (RBlater hT (below_box _ _)) (below_box _ _)) (below_box _ _)) (below_box _ _)
  · have := RB.new (w.alloc (.cells #[.pointer (some ⟨gt, 0, none⟩), sl] t1)) 16 41 f
    have e : (w.alloc (.cells #[.pointer (some ⟨gt, 0, none⟩), sl] t1)).heap.size = w.heap.size + 1 := by simp
    rw [e] at this
    exact RBlater (RBlater this (below_box _ _)) (below_box _ _)
  · have := RB.new ((w.alloc (.cells #[.pointer (some ⟨gt, 0, none⟩), sl] t1)).alloc (.cells (rC 16 f) 41)) 16 41 (fun _ => 0)
    have e : ((w.alloc (.cells #[.pointer (some ⟨gt, 0, none⟩), sl] t1)).alloc (.cells (rC 16 f) 41)).heap.size = w.heap.size + 1 + 1 := by simp
    rw [e] at this
    exact RBlater this (below_box _ _)
  · have := RB.new (((w.alloc (.cells #[.pointer (some ⟨gt, 0, none⟩), sl] t1)).alloc (.cells (rC 16 f) 41)).alloc (.cells (rC 16 fun _ => 0) 41)) 4 72 (fun _ => 0)
    have e : (((w.alloc (.cells #[.pointer (some ⟨gt, 0, none⟩), sl] t1)).alloc (.cells (rC 16 f) 41)).alloc (.cells (rC 16 fun _ => 0) 41)).heap.size = w.heap.size + 1 + 1 + 1 := by simp
    rw [e] at this
    exact this
end Go.Proofs.Ytdbobeojbdcmdaa
