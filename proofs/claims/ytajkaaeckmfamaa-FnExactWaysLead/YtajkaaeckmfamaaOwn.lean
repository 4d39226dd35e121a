/- What is proved: a row of structs of numbers that a call has built by append is a table; and a row that the call owns stays through what only makes memory. -/
import Derived.Test.YtajkaaeckmfamaaOpn
import Derived.Laws.AppendOwn
import Derived.Deep.Heap
namespace Go.OpnT
open Go.LatT Go.RowKit
set_option linter.unusedVariables false
/-- The cells of n structs of k numbers, one behind the other. -/
def flatC (R : Nat → Nat → Int) (k n : Nat) : List Value := (List.range n).flatMap fun i => (List.range k).map fun j => .int .i64 (R i j)
theorem flatC_succ (R : Nat → Nat → Int) (k n : Nat) : flatC R k (n + 1) = flatC R k n ++ (List.range k).map fun j => .int .i64 (R n j) := by
  simp [flatC, List.range_succ]
theorem flatC_length (R : Nat → Nat → Int) (k : Nat) : ∀ n, (flatC R k n).length = n * k
  | 0 => by simp [flatC]
  | n + 1 => by rw [flatC_succ, List.length_append, flatC_length R k n]; simp [Nat.succ_mul]
theorem flatC_get (R : Nat → Nat → Int) (k : Nat) : ∀ n i j, i < n → j < k → (flatC R k n)[i * k + j]? = some (.int .i64 (R i j))
  | 0, i, j, hi, _ => by omega
  | n + 1, i, j, hi, hj => by
    have hlen := flatC_length R k n
    rw [flatC_succ]
    by_cases h : i < n
    · have hm : i * k + j < n * k := by
        have h1 := Nat.mul_le_mul_right k (show i + 1 ≤ n by omega)
        rw [Nat.succ_mul] at h1
        omega
      rw [List.getElem?_append_left (by omega)]
      exact flatC_get R k n i j h hj
    · have e : i = n := by omega
      subst e
      rw [List.getElem?_append_right (by omega), hlen, show i * k + j - i * k = j by omega]
      simp [hj]
theorem flatC_congr {R R' : Nat → Nat → Int} {k n : Nat} (h : ∀ i, i < n → ∀ j, j < k → R i j = R' i j) : flatC R k n = flatC R' k n := by
  unfold flatC
  rw [List.flatMap_def, List.flatMap_def, List.map_congr_left fun i hi => List.map_congr_left fun j hj => by rw [h i (List.mem_range.1 hi) j (List.mem_range.1 hj)]]
theorem owns_below {w w' : World} {base size n : Nat} {e : TypeId} {v : Value} {xs : List Value} (h : w.ownsRow base e size v n xs) (hb : Below w.heap.size w w') : w'.ownsRow base e size v n xs := by
  obtain ⟨h1, h2⟩ := h
  refine ⟨h1, ?_⟩
  rcases h2 with h2 | ⟨g, cap, cur, e1, e2, e3, e4, e5, e6, e7⟩
  · exact .inl h2
  · exact .inr ⟨g, cap, cur, e1, e2, by rw [hb.block _ (Array.getElem?_eq_some_iff.1 e3).1]; exact e3, e4, e5, e6, e7⟩
theorem owns_drew {w : World} {base size n : Nat} {e : TypeId} {v : Value} {xs : List Value} (h : w.ownsRow base e size v n xs) : w.drew.ownsRow base e size v n xs := h
theorem tab_of_owns {w : World} {base k n : Nat} {e : TypeId} {v : Value} {R : Nat → Nat → Int} (h : w.ownsRow base e k v n (flatC R k n)) : ∃ a c, v = .slice a n c ∧ n ≤ c ∧ Tab w a n k R := by
  have hcells := fun g hg => World.ownsRow.cells h (g := g) hg
  obtain ⟨h1, h2⟩ := h
  rcases h2 with ⟨rfl, rfl⟩ | ⟨g, cap, cur, rfl, e2, e3, e4, e5, e6, e7⟩
  · exact ⟨none, 0, rfl, Nat.le_refl _, .inl rfl⟩
  · refine ⟨_, cap, rfl, e4, .inr ⟨g, 0, rfl, (Array.getElem?_eq_some_iff.1 e3).1, fun i hi j hj => ?_⟩⟩
    have := hcells g rfl (i * k + j) _ (flatC_get R k n i j hi hj)
    unfold Addr.add at this
    by_cases hz : i * k + j = 0
    · rw [if_pos hz] at this
      rw [show 0 + i * k + j = 0 by omega]
      exact this
    · rw [if_neg hz] at this
      rw [show 0 + i * k + j = 0 + (i * k + j) by omega]
      exact this
/-- Behind an append: all that lay below B, and every block but the row's own, is as it was. -/
theorem grown_below {w w' : World} {B : Nat} {row : Option Nat} (hg : w.grownBy w' row) (hB : B ≤ w.heap.size) (hr : ∀ k, row = some k → B ≤ k) : Below B w w' :=
  (Below.refl B w).grown hg hB hr
theorem owns_own {w : World} {base size n : Nat} {e : TypeId} {v : Value} {xs : List Value} (h : w.ownsRow base e size v n xs) : ∀ k, v.ownBlock = some k → base ≤ k ∧ k < w.heap.size := World.ownsRow.lt h
theorem cells_new (w : World) (vs : List Value) (t : TypeId) : ∀ (j : Nat) (u : Value), vs[j]? = some u → (w.alloc (.cells vs.toArray t)).cell? ((⟨w.heap.size, 0, none⟩ : Addr).add j) = some u := by
  intro j u h
  have hb : (w.alloc (.cells vs.toArray t)).heap[w.heap.size]? = some (.cells vs.toArray t) := Go.Deep.blk_alloc_new _ _
  have : ((⟨w.heap.size, 0, none⟩ : Addr).add j) = ⟨w.heap.size, j, none⟩ := by
    unfold Addr.add
    by_cases hj : j = 0
    · rw [if_pos hj, hj]
    · rw [if_neg hj, Nat.zero_add]
  rw [this]
  unfold World.cell?
  rw [hb]
  simpa using h
theorem one_cells (zs : List Int) : ∀ u ∈ zs.map (fun z => Value.int .i64 z), u.oneCell' = true := by
  intro u hu
  obtain ⟨z, _, rfl⟩ := List.mem_map.1 hu
  rfl
end Go.OpnT
