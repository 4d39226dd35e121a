/- The constants of SHA in the specification, as a contract. The conditions stand at the theorem. -/
import Derived.Test.YtgamakiejaeeeaaDoorShaB
import Derived.Great.BuildSlice
namespace Go.Proofs.YtgamakiejaeeeaaDoor
open Go.RowKit Go.LatT Go.BlockM Go.PlainAid Go.OpnT Go.ApdG Go.BytM Go.AesM
set_option linter.unusedVariables false
set_option linter.unusedSimpArgs false
def KL : List Nat := [1116352408, 1899447441, 3049323471, 3921009573, 961987163, 1508970993, 2453635748, 2870763221, 3624381080, 310598401, 607225278, 1426881987, 1925078388, 2162078206, 2614888103, 3248222580, 3835390401, 4022224774, 264347078, 604807628, 770255983, 1249150122, 1555081692, 1996064986, 2554220882, 2821834349, 2952996808, 3210313671, 3336571891, 3584528711, 113926993, 338241895, 666307205, 773529912, 1294757372, 1396182291, 1695183700, 1986661051, 2177026350, 2456956037, 2730485921, 2820302411, 3259730800, 3345764771, 3516065817, 3600352804, 4094571909, 275423344, 430227734, 506948616, 659060556, 883997877, 958139571, 1322822218, 1537002063, 1747873779, 1955562222, 2024104815, 2227730452, 2361852424, 2428436474, 2756734187, 3204031479, 3329325298]
/-- The constants of the steps. -/
def kst (i : Nat) : Nat := KL.getD i 0
def KLZ : List Int := KL.map fun (x : Nat) => (x : Int)
theorem klZ : KLZ.map (Value.int .u32) = uC 64 kst := by kernel_rfl
theorem kst_lt (i : Nat) : kst i < 4294967296 := by
  by_cases h : i < 64
  · have : ∀ j : Fin 64, kst j.1 < 4294967296 := by decide +kernel
    exact this ⟨i, h⟩
  · have : kst i = 0 := by
      unfold kst
      rw [List.getD_eq_getElem?_getD, List.getElem?_eq_none (by show 64 ≤ i; omega)]
      rfl
    omega
set_option maxHeartbeats 2000000 in
set_option maxRecDepth 100000 in
theorem l7Consts_any (w : World) :
    Calls Tryd.prog 30 #[] w fun e w' => MkU w 64 kst e w' := by
  go_enter Tryd.func30, Tryd.ntmps30
  go_wp2_with (first | (refine wpList_buildFlat rfl 45 44 64 _ rfl .u32 KLZ (by kernel_rfl) (by kernel_rfl) (by kernel_rfl) (by kernel_rfl) (by decide) (by decide) (by kernel_rfl) ?_))
  go_ret
  refine ⟨_, rfl, ?_, below_box _ _⟩
  have h := World.ownsRow_lit (base := w.heap.size) (e := 44) (size := 1) w (uC 64 kst).toArray 64 (Nat.le_refl _) (by unfold maxLen; omega) (by rw [List.size_toArray, uC_len])
  rw [klZ]
  exact h
end Go.Proofs.YtgamakiejaeeeaaDoor
