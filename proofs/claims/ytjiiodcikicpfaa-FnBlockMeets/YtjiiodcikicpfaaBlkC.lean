/- What each function of blocks answers, in the program and in the specification, as contracts: the answer, and that nothing which was there has turned. The conditions stand at each theorem. -/
import Derived.Test.YtjiiodcikicpfaaBlkB
import Derived.Test.YtjiiodcikicpfaaLat
import Derived.Test.YtjiiodcikicpfaaMath
import Derived.WalkKit
import Derived.WalkSpells
import Derived.WalkLawsBesides
import Derived.BigQuiet
import Derived.Deep.RegionWith
namespace Go.Proofs.Ytjiiodcikicpfaa
open Go.RowKit Go.LatT Go.BlockM
set_option linter.unusedVariables false
set_option linter.unusedSimpArgs false
set_option maxHeartbeats 400000 in
set_option maxRecDepth 100000 in
theorem smeets_any (a b x y : Int) (w : World) (v : Bool) (ha0 : 0 ≤ a) (ha1 : a ≤ 4294967295) (hb0 : 0 ≤ b) (hb1 : b ≤ 32) (hx0 : 0 ≤ x) (hx1 : x ≤ 4294967295) (hy0 : 0 ≤ y) (hy1 : y ≤ 32) (hv : (withB a b x y || withB x y a b) = v) :
    Calls Try.prog 56 #[.agg #[.int .i64 a, .int .i64 b], .agg #[.int .i64 x, .int .i64 y]] w fun e w' => e = .returned (.bool v) ∧ Below w.heap.size w w' := by
  have hv1 := hid_in hv
  clear hv
  cases h1 : withB a b x y
  · have h2 := hid_in h1
    clear h1
    have h3 : Hid (withB x y a b = v) := by show _ = v; rw [← hv1.out]; simp [h2.out]
    go_enter Try.func56, Try.ntmps56
    go_wp2_with fail
    refine (within_any a b x y _ _ ha0 ha1 hb0 (by assumption) h2.out).mono ?_
    rintro e w1 ⟨rfl, hb1⟩
    obtain ⟨hc1, hf1⟩ := bcell hb1
    go_wp2_with fail
    refine (within_any x y a b _ _ hx0 hx1 hy0 hy1 h3.out).mono ?_
    rintro e w2 ⟨rfl, hq2⟩
    have hb2 := below_later hb1 hq2
    clear hq2 hc1 hf1
    obtain ⟨hc2, hf2⟩ := bcell hb2
    go_wp2_with fail
    go_ret
    exact ⟨rfl, below_under (below_under hb2)⟩
  · have h2 := hid_in h1
    clear h1
    go_enter Try.func56, Try.ntmps56
    go_wp2_with fail
    refine (within_any a b x y _ _ ha0 ha1 hb0 (by assumption) h2.out).mono ?_
    rintro e w1 ⟨rfl, hb1⟩
    obtain ⟨hc1, hf1⟩ := bcell hb1
    go_wp2_with fail
    go_ret
    exact ⟨ret_bool (by rw [← hv1.out]; simp [h2.out]), below_under (below_under hb1)⟩
def meetB (a b x y : Int) : Bool := okB a b && okB x y && (withB a b x y || withB x y a b)
set_option maxHeartbeats 400000 in
set_option maxRecDepth 100000 in
theorem meetsS (a b x y : Int) (w : World) (v : Bool) (hv : meetB a b x y = v) :
    Calls Try.prog 19 #[.agg #[.int .i64 a, .int .i64 b], .agg #[.int .i64 x, .int .i64 y]] w fun e w' => e = .returned (.bool v) ∧ Below w.heap.size w w' := by
  have hv1 := hid_in hv
  clear hv
  cases h1 : okB a b
  · have h2 := hid_in h1
    clear h1
    go_enter Try.func19, Try.ntmps19
    go_wp2_with fail
    refine (specOk a b _ _ h2.out).mono ?_
    rintro e w1 ⟨rfl, hb1⟩
    obtain ⟨hc1, hf1⟩ := bcell hb1
    go_wp2_with fail
    go_ret
    exact ⟨ret_bool (by rw [← hv1.out]; simp [meetB, h2.out]), below_under (below_under hb1)⟩
  · have h2 := hid_in h1
    obtain ⟨a0, a1, b0, b1, _⟩ := ok_of h1
    clear h1
    cases k1 : okB x y
    · have k2 := hid_in k1
      clear k1
      go_enter Try.func19, Try.ntmps19
      go_wp2_with fail
      refine (specOk a b _ _ h2.out).mono ?_
      rintro e w1 ⟨rfl, hb1⟩
      obtain ⟨hc1, hf1⟩ := bcell hb1
      go_wp2_with fail
      refine (specOk x y _ _ k2.out).mono ?_
      rintro e w2 ⟨rfl, hq2⟩
      have hb2 := below_later hb1 hq2
      clear hq2 hc1 hf1
      obtain ⟨hc2, hf2⟩ := bcell hb2
      go_wp2_with fail
      go_ret
      exact ⟨ret_bool (by rw [← hv1.out]; simp [meetB, h2.out, k2.out]), below_under (below_under hb2)⟩
    · have k2 := hid_in k1
      obtain ⟨x0, x1, y0, y1, _⟩ := ok_of k1
      clear k1
      have h3 : Hid ((withB a b x y || withB x y a b) = v) := by show _ = v; rw [← hv1.out]; simp [meetB, h2.out, k2.out]
      go_enter Try.func19, Try.ntmps19
      go_wp2_with fail
      refine (specOk a b _ _ h2.out).mono ?_
      rintro e w1 ⟨rfl, hb1⟩
      obtain ⟨hc1, hf1⟩ := bcell hb1
      go_wp2_with fail
      refine (specOk x y _ _ k2.out).mono ?_
      rintro e w2 ⟨rfl, hq2⟩
      have hb2 := below_later hb1 hq2
      clear hq2 hc1 hf1
      obtain ⟨hc2, hf2⟩ := bcell hb2
      go_wp2_with fail
      refine (smeets_any a b x y _ _ a0 a1 b0 b1 x0 x1 y0 y1 h3.out).mono ?_
      rintro e w3 ⟨rfl, hq3⟩
      have hb3 := below_later hb2 hq3
      clear hq3 hc2 hf2
      obtain ⟨hc3, hf3⟩ := bcell hb3
      go_wp2_with fail
      go_ret
      exact ⟨rfl, below_under (below_under hb3)⟩
set_option maxHeartbeats 400000 in
set_option maxRecDepth 100000 in
theorem meetsI (a b x y : Int) (w : World) (v : Bool) (hv : meetB a b x y = v) :
    Calls Try.prog 16 #[.agg #[.int .i64 a, .int .i64 b], .agg #[.int .i64 x, .int .i64 y]] w fun e w' => e = .returned (.bool v) ∧ Below w.heap.size w w' := by
  have hv1 : Hid ((inBlk a b x y || inBlk x y a b) = v) := by
    show _ = v; rw [← hv]; simp only [meetB, inBlk]; cases okB a b <;> cases okB x y <;> rfl
  clear hv
  cases h1 : inBlk a b x y
  · have h2 := hid_in h1
    clear h1
    have h3 : Hid (inBlk x y a b = v) := by show _ = v; rw [← hv1.out]; simp [h2.out]
    go_enter Try.func16, Try.ntmps16
    go_wp2_with fail
    refine (inI a b x y _ _ h2.out).mono ?_
    rintro e w1 ⟨rfl, hb1⟩
    obtain ⟨hc1, hf1⟩ := bcell hb1
    go_wp2_with fail
    refine (inI x y a b _ _ h3.out).mono ?_
    rintro e w2 ⟨rfl, hq2⟩
    have hb2 := below_later hb1 hq2
    clear hq2 hc1 hf1
    obtain ⟨hc2, hf2⟩ := bcell hb2
    go_wp2_with fail
    go_ret
    exact ⟨rfl, below_under (below_under hb2)⟩
  · have h2 := hid_in h1
    clear h1
    go_enter Try.func16, Try.ntmps16
    go_wp2_with fail
    refine (inI a b x y _ _ h2.out).mono ?_
    rintro e w1 ⟨rfl, hb1⟩
    obtain ⟨hc1, hf1⟩ := bcell hb1
    go_wp2_with fail
    go_ret
    exact ⟨ret_bool (by rw [← hv1.out]; simp [h2.out]), below_under (below_under hb1)⟩
end Go.Proofs.Ytjiiodcikicpfaa
