/- What lies where while bytes are summed, and a block taken into the state, in the program. The conditions stand at each theorem. -/
import Derived.Test.YtgamakiejaeeeaaDoorShaF
namespace Go.Proofs.YtgamakiejaeeeaaDoor
open Go.RowKit Go.LatT Go.BlockM Go.PlainAid Go.OpnT Go.ApdG Go.BytM Go.AesM Go.RowQ
set_option linter.unusedVariables false
set_option linter.unusedSimpArgs false
/-- The cells of a sum. -/
def sL (s b : Nat → Nat) (h z : Nat) : List Value := uC 8 s ++ ((rC 64 b).toList ++ [.int .i64 (h : Int), .int .u64 (z : Int)])
theorem sL_st (s b : Nat → Nat) (h z i : Nat) (hi : i < 8) : (sL s b h z)[i]? = some (.int .u32 (s i : Int)) := by
  unfold sL
  rw [List.getElem?_append_left (by rw [uC_len]; exact hi), uC_get 8 s i hi]
theorem sL_bk (s b : Nat → Nat) (h z i : Nat) (hi : i < 64) : (sL s b h z)[8 + i]? = some (.int .u8 (b i : Int)) := by
  unfold sL
  rw [List.getElem?_append_right (by rw [uC_len]; omega), uC_len, show 8 + i - 8 = i by omega, List.getElem?_append_left (by rw [Array.length_toList, rC_size]; exact hi), Array.getElem?_toList, rC_get 64 b i hi]
theorem sL_h (s b : Nat → Nat) (h z : Nat) : (sL s b h z)[72]? = some (.int .i64 (h : Int)) := by
  unfold sL
  rw [List.getElem?_append_right (by rw [uC_len]; omega), uC_len, List.getElem?_append_right (by rw [Array.length_toList, rC_size]; omega), Array.length_toList, rC_size]
  rfl
theorem sL_z (s b : Nat → Nat) (h z : Nat) : (sL s b h z)[73]? = some (.int .u64 (z : Int)) := by
  unfold sL
  rw [List.getElem?_append_right (by rw [uC_len]; omega), uC_len, List.getElem?_append_right (by rw [Array.length_toList, rC_size]; omega), Array.length_toList, rC_size]
  rfl
theorem sL_len (s b : Nat → Nat) (h z : Nat) : (sL s b h z).length = 74 := by simp [sL, uC_len, rC_size]
/-- A sum lies in a block of its own. -/
def SX (W : World) (g : Nat) (s b : Nat → Nat) (h z : Nat) : Prop := W.heap[g]? = some (.cells (sL s b h z).toArray 52 (0, 0))
section
variable {W W' : World} {g : Nat} {s b s' b' : Nat → Nat} {h z : Nat}
theorem SX.lt (x : SX W g s b h z) : g < W.heap.size := (Array.getElem?_eq_some_iff.1 x).1
theorem SX.st (x : SX W g s b h z) (i : Nat) (hi : i < 8) : W.cell? ⟨g, i, none⟩ = some (.int .u32 (s i : Int)) := by
  rw [cell_of_row W g i _ _ _ x, List.getElem?_toArray, sL_st s b h z i hi]
theorem SX.bk (x : SX W g s b h z) (i : Nat) (hi : i < 64) : W.cell? ⟨g, 8 + i, none⟩ = some (.int .u8 (b i : Int)) := by
  rw [cell_of_row W g (8 + i) _ _ _ x, List.getElem?_toArray, sL_bk s b h z i hi]
theorem SX.ch (x : SX W g s b h z) : W.cell? ⟨g, 72, none⟩ = some (.int .i64 (h : Int)) := by
  rw [cell_of_row W g 72 _ _ _ x, List.getElem?_toArray, sL_h]
theorem SX.cz (x : SX W g s b h z) : W.cell? ⟨g, 73, none⟩ = some (.int .u64 (z : Int)) := by
  rw [cell_of_row W g 73 _ _ _ x, List.getElem?_toArray, sL_z]
theorem SX.frozen (x : SX W g s b h z) (i : Nat) : W.frozen? ⟨g, i, none⟩ = false := frozen_of_row W g i _ _ x
theorem SX.congr (x : SX W g s b h z) (e1 : ∀ i, i < 8 → s i = s' i) (e2 : ∀ i, i < 64 → b i = b' i) : SX W g s' b' h z := by
  unfold SX sL at *
  rw [← uC_congr e1, ← rC_congr e2]; exact x
theorem SX.block (x : SX W g s b h z) (e : W'.heap[g]? = W.heap[g]?) : SX W' g s b h z := by unfold SX; rw [e]; exact x
theorem SX.setL (x : SX W g s b h z) (k : Nat) (v : Value) (l : List Value) (e : (sL s b h z).set k v = l) : (W.setCell ⟨g, k, none⟩ v).heap[g]? = some (.cells l.toArray 52 (0, 0)) := by
  rw [heap_setCell_same W g k _ _ _ x, List.setIfInBounds_toArray, e]
theorem sL_set_st (s b : Nat → Nat) (h z k v : Nat) (hk : k < 8) : (sL s b h z).set k (.int .u32 (v : Int)) = sL (fun i => if i = k then v else s i) b h z := by
  unfold sL
  rw [List.set_append_left _ _ (by rw [uC_len]; exact hk), uC_set]
theorem sL_set_h (s b : Nat → Nat) (h z h' : Nat) : (sL s b h z).set 72 (.int .i64 (h' : Int)) = sL s b h' z := by
  unfold sL
  rw [List.set_append_right _ _ (by rw [uC_len]; omega), uC_len, List.set_append_right _ _ (by rw [Array.length_toList, rC_size]; omega), Array.length_toList, rC_size]
  rfl
theorem sL_set_z (s b : Nat → Nat) (h z z' : Nat) : (sL s b h z).set 73 (.int .u64 (z' : Int)) = sL s b h z' := by
  unfold sL
  rw [List.set_append_right _ _ (by rw [uC_len]; omega), uC_len, List.set_append_right _ _ (by rw [Array.length_toList, rC_size]; omega), Array.length_toList, rC_size]
  rfl
theorem SX.setS (x : SX W g s b h z) (k v : Nat) (hk : k < 8) : SX (W.setCell ⟨g, k, none⟩ (.int .u32 (v : Int))) g (fun i => if i = k then v else s i) b h z := x.setL k _ _ (sL_set_st s b h z k v hk)
theorem SX.setH (x : SX W g s b h z) (h' : Nat) : SX (W.setCell ⟨g, 72, none⟩ (.int .i64 (h' : Int))) g s b h' z := x.setL 72 _ _ (sL_set_h s b h z h')
theorem SX.setZ (x : SX W g s b h z) (z' : Nat) : SX (W.setCell ⟨g, 73, none⟩ (.int .u64 (z' : Int))) g s b h z' := x.setL 73 _ _ (sL_set_z s b h z z')
theorem SX.row8 (x : SX W g s b h z) : ∀ j, j < 8 → W.cell? ((⟨g, 0, none⟩ : Addr).add j) = (uA 8 s)[j]? := fun j hj => by rw [add_at, Nat.zero_add, x.st j hj, uA_get 8 s j hj]
end
theorem Mv.setC {g : Nat} {w W : World} (m : Mv g w W) (o : Nat) (v : Value) : Mv g w (W.setCell ⟨g, o, none⟩ v) :=
  ⟨m.os, m.tape, m.output, by simpa using m.size, fun k hk hne => (heap_setCell_other W ⟨g, o, none⟩ k v hne).trans (m.block k hk hne)⟩
theorem Mv.drew {g : Nat} {w W : World} (m : Mv g w W) : Mv g w W.drew := ⟨m.os, m.tape, m.output, m.size, m.block⟩
theorem Mv.later {g : Nat} {w W W' : World} (m : Mv g w W) (hb : Below W.heap.size W W') : Mv g w W' := m.trans (Mv.of_below hb)
/-- The constants of the steps lie in their table. -/
structure GK (W : World) : Prop where
  lt : 1 < W.heap.size
  st : ∀ i, i < 8 → W.cell? ⟨0, i, none⟩ = some (.int .u32 (ini i : Int))
  cell : ∀ i, i < 64 → W.cell? ⟨1, i, none⟩ = some (.int .u32 (kst i : Int))
theorem GK.mv {g : Nat} {w W : World} (h : GK w) (m : Mv g w W) (hg : 1 < g) : GK W :=
  ⟨Nat.lt_of_lt_of_le h.lt m.size, fun i hi => (m.cell 0 i (by have := h.lt; omega) (by omega)).trans (h.st i hi), fun i hi => (m.cell 1 i h.lt (by omega)).trans (h.cell i hi)⟩
theorem GK.below {B : Nat} {w W : World} (h : GK w) (m : Below B w W) (hB : 1 < B) : GK W :=
  ⟨Nat.lt_of_lt_of_le h.lt m.size, fun i hi => (m.cell (p := ⟨0, i, none⟩) (by show 0 < B; omega)).trans (h.st i hi), fun i hi => (m.cell (p := ⟨1, i, none⟩) hB).trans (h.cell i hi)⟩
end Go.Proofs.YtgamakiejaeeeaaDoor
