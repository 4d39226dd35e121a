/- Texts as blocks of bytes, in the program, as contracts. The conditions stand at each theorem. -/
import Derived.Test.YtdbobeojbdcmdaaAesD
import Derived.Lib.BufferWrite
namespace Go.Proofs.Ytdbobeojbdcmdaa
open Go.RowKit Go.LatT Go.BlockM Go.PlainAid Go.OpnT Go.ApdG Go.BytM Go.AesM
set_option linter.unusedVariables false
set_option linter.unusedSimpArgs false
/-- A byte of a text. -/
def bn (s : ByteArray) (i : Nat) : Nat := (bt s i).toNat
theorem bn_lt (s : ByteArray) (i : Nat) : bn s i < 256 := by
  have h1 := bt_nonneg s i; have h2 := bt_le s i
  unfold bn; omega
theorem bn_int (s : ByteArray) (i : Nat) : ((bn s i : Nat) : Int) = bt s i := by
  have h1 := bt_nonneg s i
  unfold bn; omega
theorem sizeByte : (Try.prog.info? 5).map (·.size) = some 1 := by kernel_rfl
theorem bytes_rC (s : ByteArray) (h : s.size = 16) : ((rC 16 fun _ => 0).toList.take 0 ++ Lib.byteCells s.data.toList ++ (rC 16 fun _ => 0).toList.drop (0 + s.size)).toArray = rC 16 (bn s) := by
  have h2 : s.data.toList.length = 16 := by rw [← h]; exact s.data.length_toList
  have e1 : (rC 16 fun _ => 0).toList.drop (0 + s.size) = [] := List.drop_of_length_le (by rw [Array.length_toList, rC_size, h]; omega)
  rw [e1, List.take_zero, List.append_nil, List.nil_append]
  apply Array.ext
  · simp [Lib.byteCells, rC_size, h2]
  · intro i h3 h4
    have hi : i < 16 := by rw [rC_size] at h4; exact h4
    have e2 := rC_get 16 (bn s) i hi
    rw [Array.getElem?_eq_getElem h4] at e2
    rw [Option.some.inj e2]
    have his : i < s.size := by omega
    rw [bn_int]
    unfold bt
    rw [dif_pos his]
    simp [Lib.byteCells]
    rfl
theorem setRow_other {W : World} {g k : Nat} {cs : Array Value} (h : k ≠ g) : (W.setRow g cs).heap[k]? = W.heap[k]? := by
  simp only [World.setRow, Array.getElem?_modify]
  rw [if_neg (fun e => h e.symm)]
set_option maxHeartbeats 2000000 in
set_option maxRecDepth 100000 in
theorem gridOf_ok (s : ByteArray) (w : World) (h : s.size = 16) :
    Calls Try.prog 36 #[.string s] w fun e w' => e = .returned (.agg (rC 16 (bn s))) ∧ Below w.heap.size w w' := by
  have R0 : Hid (RB ((w.alloc (.cells #[.int .u8 0, .int .u8 0, .int .u8 0, .int .u8 0, .int .u8 0, .int .u8 0, .int .u8 0, .int .u8 0, .int .u8 0, .int .u8 0, .int .u8 0, .int .u8 0, .int .u8 0, .int .u8 0, .int .u8 0, .int .u8 0] 41)).alloc (.cells #[.int .u8 0, .int .u8 0, .int .u8 0, .int .u8 0, .int .u8 0, .int .u8 0, .int .u8 0, .int .u8 0, .int .u8 0, .int .u8 0, .int .u8 0, .int .u8 0, .int .u8 0, .int .u8 0, .int .u8 0, .int .u8 0] 41)) w.heap.size 16 41 (fun _ => 0)) := by
    rw [zeroG]; exact RBlater (RB.new w 16 _ _) (below_box _ _)
  have R1 : Hid (RB ((w.alloc (.cells #[.int .u8 0, .int .u8 0, .int .u8 0, .int .u8 0, .int .u8 0, .int .u8 0, .int .u8 0, .int .u8 0, .int .u8 0, .int .u8 0, .int .u8 0, .int .u8 0, .int .u8 0, .int .u8 0, .int .u8 0, .int .u8 0] 41)).alloc (.cells #[.int .u8 0, .int .u8 0, .int .u8 0, .int .u8 0, .int .u8 0, .int .u8 0, .int .u8 0, .int .u8 0, .int .u8 0, .int .u8 0, .int .u8 0, .int .u8 0, .int .u8 0, .int .u8 0, .int .u8 0, .int .u8 0] 41)) (w.heap.size + 1) 16 41 (fun _ => 0)) := by
    rw [zeroG]
    have := RB.new (w.alloc (.cells (rC 16 fun _ => 0) 41)) 16 41 (fun _ => 0)
    have e : (w.alloc (.cells (rC 16 fun _ => 0) 41)).heap.size = w.heap.size + 1 := by simp
    rw [e] at this
    exact this
  have Z0 : Hid (Below w.heap.size w ((w.alloc (.cells #[.int .u8 0, .int .u8 0, .int .u8 0, .int .u8 0, .int .u8 0, .int .u8 0, .int .u8 0, .int .u8 0, .int .u8 0, .int .u8 0, .int .u8 0, .int .u8 0, .int .u8 0, .int .u8 0, .int .u8 0, .int .u8 0] 41)).alloc (.cells #[.int .u8 0, .int .u8 0, .int .u8 0, .int .u8 0, .int .u8 0, .int .u8 0, .int .u8 0, .int .u8 0, .int .u8 0, .int .u8 0, .int .u8 0, .int .u8 0, .int .u8 0, .int .u8 0, .int .u8 0, .int .u8 0] 41))) := by
    show Below _ _ _; go_grown
  have hcp := fun W (hg : RB W (w.heap.size + 1) 16 41 (fun _ => 0)) ty => Lib.run_copy_row_string (P := Try.prog) W 28 9 ty 5 (w.heap.size + 1) 0 16 16 s _ 41 Try.underlying28 sizeByte hg (by omega) (by rw [rC_size]; omega)
  rw [bytes_rC s h] at hcp
  have hc1 := hcp _ R1.out 3
  clear hcp
  have h' : (s.size : Int) = 16 := by omega
  have B1 := hid_in (setRow_at (cs := rC 16 (bn s)) R1.out)
  have B0 : Hid ((World.setRow _ (w.heap.size + 1) (rC 16 (bn s))).heap[w.heap.size]? = some (.cells (rC 16 fun _ => 0) 41 (0, 0))) := (setRow_other (by omega)).trans R0.out
  have Z1 := hid_in (Below_setRow (cs := rC 16 (bn s)) (g := w.heap.size + 1) Z0.out (by omega))
  clear R0 R1 Z0
  go_enter Try.func36, Try.ntmps36
  go_wp2_with (first | (refine wpList_load_row rfl 41 _ rfl (w.heap.size + 1) rfl 41 _ (0, 0) _ B1.out Try.underlying41 rfl sizeG ?_) | (refine wpList_store_row rfl 41 _ _ rfl w.heap.size _ rfl rfl 41 _ B0.out sizeG rfl (rC_one _ _) ?_))
  refine bodyPost_ret (v := .agg (rC 16 (bn s))) (results_cell_row Try.results36 _ _ w.heap.size 41 _ (0, 0) _ rfl (setRow_at B0.out) Try.underlying41 rfl sizeG) rfl ⟨rfl, Below_setRow Z1.out (Nat.le_refl _)⟩
end Go.Proofs.Ytdbobeojbdcmdaa
