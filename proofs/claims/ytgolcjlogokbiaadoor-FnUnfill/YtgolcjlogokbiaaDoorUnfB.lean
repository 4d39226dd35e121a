/- What filled bytes is taken away, in the program, as a contract, and the walk of the exact law. The conditions stand at each theorem. -/
import Derived.Test.YtgolcjlogokbiaaDoorUnfA
namespace Go.Proofs.YtgolcjlogokbiaaDoor
open Go.RowKit Go.LatT Go.BlockM Go.PlainAid Go.OpnT Go.ApdG Go.BytM
set_option linter.unusedVariables false
set_option linter.unusedSimpArgs false
set_option maxHeartbeats 1000000 in
set_option maxRecDepth 100000 in
theorem unfillI (s : ByteArray) (w : World) (hs : s.size ≤ 1048576) (hE : ErrT w) (b : Bool) (t : ByteArray) (hb : unfB s = b) (ht : unfT s = t) :
    Calls Tryd.prog 11 #[.string s] w fun e w' => e = .returned (.tuple #[.string t, .bool b]) ∧ Below w.heap.size w w' := by
  have U := unfilledI s
  rw [hb, ht] at U
  have HU := hid_in U
  have HE := hid_in hE
  have HS := hid_in hs
  clear hb ht U hE hs
  cases b
  · go_enter Tryd.func11, Tryd.ntmps11
    go_wp2_with fail
    refine (HU.out _ HS.out).mono ?_
    rintro e w1 ⟨rfl, hb1⟩
    go_wp2_with fail
    refine (couldRead_not _ _ (HE.out.later hb1)).mono ?_
    rintro e w2 ⟨rfl, hb2⟩
    go_wp2_with fail
    go_ret2
    exact ⟨rfl, below_later hb1 hb2⟩
  · go_enter Tryd.func11, Tryd.ntmps11
    go_wp2_with fail
    refine (HU.out _ HS.out).mono ?_
    rintro e w1 ⟨rfl, hb1⟩
    go_wp2_with fail
    refine (couldRead_nil _).mono ?_
    rintro e w2 ⟨rfl, hb2⟩
    go_wp2_with fail
    go_ret2
    exact ⟨rfl, below_later hb1 hb2⟩
set_option maxHeartbeats 1000000 in
set_option maxRecDepth 100000 in
theorem walk_FnExactUnfill (s : ByteArray) (w : World) (hz : s.size ≤ maxLen) (hE : ErrT w) :
    Calls Tryd.prog 5 #[.string s] w fun e w' => e = .returned (.bool true) ∧ Below w.heap.size w w' := by
  have hz' : (s.size : Int) ≤ 9223372036854775807 := by unfold maxLen at hz; omega
  have HE := hid_in hE
  clear hz hE
  obtain ⟨b, hb⟩ : ∃ b, unfB s = b := ⟨_, rfl⟩
  obtain ⟨t, ht⟩ : ∃ t, unfT s = t := ⟨_, rfl⟩
  have HB := hid_in hb; have HT := hid_in ht
  clear hb ht
  by_cases hs : s.size ≤ 1048576
  · have HS := hid_in hs
    go_enter Tryd.func5, Tryd.ntmps5
    go_wp2_with fail
    refine (unfillS s _ HS.out b t HB.out HT.out).mono ?_
    rintro e w1 ⟨rfl, hb1⟩
    go_wp2_with fail
    refine (unfillI s _ HS.out (HE.out.later hb1) b t HB.out HT.out).mono ?_
    rintro e w2 ⟨rfl, hb2⟩
    cases b
    all_goals
      go_wp2_with fail
      go_ret
      exact ⟨rfl, below_later hb1 hb2⟩
  · have hs' : (1048576 : Int) < s.size := by omega
    go_enter Tryd.func5, Tryd.ntmps5
    go_wp2_with fail
    go_ret
    exact ⟨rfl, Below.refl _ _⟩
end Go.Proofs.YtgolcjlogokbiaaDoor
