/- The table of AES in the specification, as a contract. The conditions stand at the theorem. -/
import Derived.Test.YtdbobeojbdcmdaaAesP
import Derived.Great.BuildSlice
namespace Go.Proofs.Ytdbobeojbdcmdaa
open Go.RowKit Go.LatT Go.BlockM Go.PlainAid Go.OpnT Go.ApdG Go.BytM Go.AesM
set_option linter.unusedVariables false
set_option linter.unusedSimpArgs false
def SUBZ : List Int := SUBL.map fun (x : Nat) => (x : Int)
theorem subZ : SUBZ.map (Value.int .i64) = nC 256 there := by kernel_rfl
set_option maxHeartbeats 2000000 in
set_option maxRecDepth 100000 in
theorem l6Sub_any (w : World) :
    Calls Try.prog 53 #[] w fun e w' => MkP w 256 there e w' := by
  go_enter Try.func53, Try.ntmps53
  go_wp2_with (first | (refine wpList_buildFlat rfl 37 3 256 _ rfl .i64 SUBZ (by kernel_rfl) (by kernel_rfl) (by kernel_rfl) (by kernel_rfl) (by decide) (by decide) (by kernel_rfl) ?_))
  go_ret
  refine ⟨_, rfl, ?_, below_box _ _⟩
  have h := World.ownsRow_lit (base := w.heap.size) (e := 3) (size := 1) w (nC 256 there).toArray 256 (Nat.le_refl _) (by unfold maxLen; omega) (by rw [List.size_toArray, nC_len])
  rw [← subZ] at h
  rw [subZ] at h ⊢
  exact h
end Go.Proofs.Ytdbobeojbdcmdaa
