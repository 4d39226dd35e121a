/- What the functions of cells answer, in the program and in the specification, as contracts: the answer, and that nothing which was there has turned. The conditions stand at each theorem. -/
import Derived.Test.YtdljoopioglkiaaDoorBlkA
import Derived.Test.YtdljoopioglkiaaDoorLat
import Derived.Test.YtdljoopioglkiaaDoorMath
import Derived.WalkKit
import Derived.WalkSpells
import Derived.WalkLawsBesides
import Derived.BigQuiet
import Derived.Handy
import Derived.Deep.RegionWith
namespace Go.Proofs.YtdljoopioglkiaaDoor
open Go.RowKit Go.LatT Go.BlockM
set_option linter.unusedVariables false
set_option linter.unusedSimpArgs false
/-- Two spans have a number in common. -/
def overB (a b c d : Int) : Bool := decide (a ≤ b) && decide (c ≤ d) && decide (a ≤ d) && decide (c ≤ b)
set_option maxHeartbeats 400000 in
set_option maxRecDepth 100000 in
theorem rhas_any (a b x : Int) (w : World) (v : Bool) (hv : inB x a b = v) :
    Calls Tryd.prog 134 #[.agg #[.int .i64 a, .int .i64 b], .int .i64 x] w fun e w' => e = .returned (.bool v) ∧ Below w.heap.size w w' := by
  have hv1 := hid_in hv
  clear hv
  by_cases h1 : a ≤ x
  · go_enter Tryd.func134, Tryd.ntmps134
    go_wp2
    go_ret
    exact ⟨ret_bool (by rw [← hv1.out]; simp [inB, h1]), below_box _ _⟩
  · go_enter Tryd.func134, Tryd.ntmps134
    go_wp2
    go_ret
    exact ⟨ret_bool (by rw [← hv1.out]; simp [inB]; omega), below_box _ _⟩
/-- The value of a cell, of a room, of a call. -/
def vCell (a b c d l h r : Int) : Value := .agg #[.int .i64 a, .int .i64 b, .int .i64 c, .int .i64 d, .int .i64 l, .int .i64 h, .int .i64 r]
def vRoom (a b c d l h : Int) : Value := .agg #[.int .i64 a, .int .i64 b, .int .i64 c, .int .i64 d, .int .i64 l, .int .i64 h]
def vCall (a b c : Int) : Value := .agg #[.int .i64 a, .int .i64 b, .int .i64 c]
set_option maxHeartbeats 400000 in
set_option maxRecDepth 100000 in
theorem roomHas_any (a b c d l h x y z : Int) (w : World) (v : Bool) (hv : (inB x a b && inB y c d && inB z l h) = v) :
    Calls Tryd.prog 101 #[vRoom a b c d l h, vCall x y z] w fun e w' => e = .returned (.bool v) ∧ Below w.heap.size w w' := by
  have hv1 := hid_in hv
  clear hv
  unfold vRoom vCall
  cases h1 : inB x a b
  · have h2 := hid_in h1
    clear h1
    go_enter Tryd.func101, Tryd.ntmps101
    go_wp2_with fail
    refine (rhas_any a b x _ _ h2.out).mono ?_
    rintro e w1 ⟨rfl, hb1⟩
    obtain ⟨hc1, hf1⟩ := bcell hb1
    go_wp2_with fail
    go_ret
    exact ⟨ret_bool (by rw [← hv1.out]; simp [h2.out]), below_under (below_under hb1)⟩
  · have h2 := hid_in h1
    clear h1
    cases k1 : inB y c d
    · have k2 := hid_in k1
      clear k1
      go_enter Tryd.func101, Tryd.ntmps101
      go_wp2_with fail
      refine (rhas_any a b x _ _ h2.out).mono ?_
      rintro e w1 ⟨rfl, hb1⟩
      obtain ⟨hc1, hf1⟩ := bcell hb1
      go_wp2_with fail
      refine (rhas_any c d y _ _ k2.out).mono ?_
      rintro e w2 ⟨rfl, hq2⟩
      have hb2 := below_later hb1 hq2
      clear hq2 hc1 hf1
      obtain ⟨hc2, hf2⟩ := bcell hb2
      go_wp2_with fail
      go_ret
      exact ⟨ret_bool (by rw [← hv1.out]; simp [h2.out, k2.out]), below_under (below_under hb2)⟩
    · have k2 := hid_in k1
      clear k1
      have h3 : Hid (inB z l h = v) := by show _ = v; rw [← hv1.out]; simp [h2.out, k2.out]
      go_enter Tryd.func101, Tryd.ntmps101
      go_wp2_with fail
      refine (rhas_any a b x _ _ h2.out).mono ?_
      rintro e w1 ⟨rfl, hb1⟩
      obtain ⟨hc1, hf1⟩ := bcell hb1
      go_wp2_with fail
      refine (rhas_any c d y _ _ k2.out).mono ?_
      rintro e w2 ⟨rfl, hq2⟩
      have hb2 := below_later hb1 hq2
      clear hq2 hc1 hf1
      obtain ⟨hc2, hf2⟩ := bcell hb2
      go_wp2_with fail
      refine (rhas_any l h z _ _ h3.out).mono ?_
      rintro e w3 ⟨rfl, hq3⟩
      have hb3 := below_later hb2 hq3
      clear hq3 hc2 hf2
      obtain ⟨hc3, hf3⟩ := bcell hb3
      go_wp2_with fail
      go_ret
      exact ⟨rfl, below_under (below_under hb3)⟩
/-- Two cells have a call in common. -/
def cellsB (a b c d l h a' b' c' d' l' h' : Int) : Bool := overB a b a' b' && overB c d c' d' && overB l h l' h'
set_option maxHeartbeats 400000 in
set_option maxRecDepth 100000 in
theorem toCall_any (a b c : Int) (w : World) :
    Calls Tryd.prog 28 #[.agg #[.int .i64 a, .int .i64 b, .int .i64 c]] w fun e w' => e = .returned (vCall a b c) ∧ Below w.heap.size w w' := by
  go_enter Tryd.func28, Tryd.ntmps28
  go_wp2
  go_returns
  exact ⟨rfl, by go_grown⟩
end Go.Proofs.YtdljoopioglkiaaDoor
