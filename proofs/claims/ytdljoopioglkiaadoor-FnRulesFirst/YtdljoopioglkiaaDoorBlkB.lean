/- What each function of blocks answers, in the program and in the specification, as contracts: the answer, and that nothing which was there has turned. The conditions stand at each theorem. -/
import Derived.Test.YtdljoopioglkiaaDoorBlkA
import Derived.Test.YtdljoopioglkiaaDoorLat
import Derived.Test.YtdljoopioglkiaaDoorMath
import Derived.WalkKit
import Derived.WalkSpells
import Derived.WalkLawsBesides
import Derived.BigQuiet
import Derived.Deep.RegionWith
namespace Go.Proofs.YtdljoopioglkiaaDoor
open Go.RowKit Go.LatT Go.BlockM
set_option linter.unusedVariables false
set_option linter.unusedSimpArgs false
set_option maxHeartbeats 400000 in
set_option maxRecDepth 100000 in
theorem hasI (a b x : Int) (w : World) (v : Bool) (hv : (okB a b && inB x a (a + pw (32 - b) - 1)) = v) :
    Calls Tryd.prog 68 #[.agg #[.int .i64 a, .int .i64 b], .int .i64 x] w fun e w' => e = .returned (.bool v) ∧ Below w.heap.size w w' := by
  have hv1 := hid_in hv
  clear hv
  cases h1 : okB a b
  · have h2 := hid_in h1
    clear h1
    go_enter Tryd.func68, Tryd.ntmps68
    go_wp2_with (first | (go_at_call 108; refine (blockOkI _ _ _ _ h2.out).mono ?_; rintro e w1 ⟨rfl, hb1⟩; obtain ⟨hc1, hf1⟩ := bcell hb1))
    go_ret
    exact ⟨ret_bool (by rw [← hv1.out]; simp [h2.out]), below_under hb1⟩
  · have h2 := hid_in h1
    obtain ⟨a0, a1, b0, b1, _⟩ := ok_of h1
    clear h1
    have h3 : Hid (inB x a (a + pw (32 - b) - 1) = v) := by show _ = v; rw [← hv1.out]; simp [h2.out]
    go_enter Tryd.func68, Tryd.ntmps68
    go_wp2_with (first | (go_at_call 108; refine (blockOkI _ _ _ _ h2.out).mono ?_; rintro e w1 ⟨rfl, hb1⟩; obtain ⟨hc1, hf1⟩ := bcell hb1) | (go_at_call 112; refine (prefixOf_any _ _ _).mono ?_; rintro e w2 ⟨rfl, hb2⟩) | (go_at_call 113; refine (phas _ _ _ _ _ a0 a1 b0 b1 h3.out).mono ?_; rintro e w3 ⟨rfl, hb3⟩))
    go_ret
    exact ⟨rfl, below_later (below_later (below_under hb1) hb2) hb3⟩
/-- What a block has all of. -/
def inBlk (a b x y : Int) : Bool := okB a b && okB x y && withB a b x y
end Go.Proofs.YtdljoopioglkiaaDoor
