/- What the functions of one way answer, in the program and in the specification, as contracts. The conditions stand at each theorem. -/
import Derived.Test.YtajkaaeckmfamaaBlkA
import Derived.Test.YtajkaaeckmfamaaLat
import Derived.Test.YtajkaaeckmfamaaMath
import Derived.WalkKit
import Derived.WalkSpells
import Derived.WalkLawsBesides
import Derived.BigQuiet
import Derived.Handy
import Derived.Deep.RegionWith
namespace Go.Proofs.Ytajkaaeckmfamaa
open Go.RowKit Go.LatT Go.BlockM
set_option linter.unusedVariables false
set_option linter.unusedSimpArgs false
def vWay (a b h : Int) : Value := .agg #[.int .i64 a, .int .i64 b, .int .i64 h]
def wokB (a b h : Int) : Bool := okB a b && inB h 0 99
def aheadB (a b c d : Int) : Bool := if a = c then decide (b < d) else decide (a < c)
set_option maxHeartbeats 400000 in
set_option maxRecDepth 100000 in
theorem toWay_any (a b h : Int) (w : World) :
    Calls Try.prog 15 #[.agg #[.int .i64 a, .int .i64 b, .int .i64 h]] w fun e w' => e = .returned (vWay a b h) ∧ Below w.heap.size w w' := by
  go_enter Try.func15, Try.ntmps15
  go_wp2_with fail
  refine (toBlock_any a b _).mono ?_
  rintro e w1 ⟨rfl, hb1⟩
  obtain ⟨hc1, hf1⟩ := bcell hb1
  go_wp2_with fail
  have zb := below_under (below_under (below_under hb1))
  exact bodyPost_ret (v := .agg #[.int .i64 a, .int .i64 b, .int .i64 h]) (by simp [results, Try.results15, go_sem, hc1]) rfl ⟨rfl, by go_grown⟩
set_option maxHeartbeats 400000 in
set_option maxRecDepth 100000 in
theorem eqWay_self (a b h : Int) (w : World) :
    Calls Try.prog 20 #[.agg #[.int .i64 a, .int .i64 b, .int .i64 h], .agg #[.int .i64 a, .int .i64 b, .int .i64 h]] w fun e w' => e = .returned (.bool true) ∧ Below w.heap.size w w' := by
  go_enter Try.func20, Try.ntmps20
  go_wp2_with fail
  refine (eqBlock_any a b a b _ true (by simp)).mono ?_
  rintro e w1 ⟨rfl, hb1⟩
  obtain ⟨hc1, hf1⟩ := bcell hb1
  go_wp2_with fail
  go_ret
  exact ⟨rfl, below_under (below_under hb1)⟩
set_option maxHeartbeats 400000 in
set_option maxRecDepth 100000 in
theorem wayOk_any (a b h : Int) (w : World) (v : Bool) (hv : wokB a b h = v) :
    Calls Try.prog 33 #[.agg #[.int .i64 a, .int .i64 b, .int .i64 h]] w fun e w' => e = .returned (.bool v) ∧ Below w.heap.size w w' := by
  have hv1 := hid_in hv
  clear hv
  cases h1 : okB a b
  · have h2 := hid_in h1
    clear h1
    go_enter Try.func33, Try.ntmps33
    go_wp2_with fail
    refine (blockOkI a b _ _ h2.out).mono ?_
    rintro e w1 ⟨rfl, hb1⟩
    obtain ⟨hc1, hf1⟩ := bcell hb1
    go_wp2_with fail
    go_ret
    exact ⟨ret_bool (by rw [← hv1.out]; simp [wokB, h2.out]), below_under hb1⟩
  · have h2 := hid_in h1
    clear h1
    by_cases k : 0 ≤ h
    · go_enter Try.func33, Try.ntmps33
      go_wp2_with fail
      refine (blockOkI a b _ _ h2.out).mono ?_
      rintro e w1 ⟨rfl, hb1⟩
      obtain ⟨hc1, hf1⟩ := bcell hb1
      go_wp2_with fail
      go_ret
      exact ⟨ret_bool (by rw [← hv1.out]; simp [wokB, inB, h2.out, k]), below_under hb1⟩
    · have hg : decide (0 ≤ h) = false := by simp; omega
      go_enter Try.func33, Try.ntmps33
      go_wp2_with fail
      refine (blockOkI a b _ _ h2.out).mono ?_
      rintro e w1 ⟨rfl, hb1⟩
      obtain ⟨hc1, hf1⟩ := bcell hb1
      go_wp2_with fail
      go_ret
      exact ⟨ret_bool (by rw [← hv1.out]; simp [wokB, inB, h2.out]; omega), below_under hb1⟩
set_option maxHeartbeats 400000 in
set_option maxRecDepth 100000 in
theorem wayAhead_any (a b h c d g : Int) (w : World) (v : Bool) (hv : aheadB a b c d = v) :
    Calls Try.prog 34 #[.agg #[.int .i64 a, .int .i64 b, .int .i64 h], .agg #[.int .i64 c, .int .i64 d, .int .i64 g]] w fun e w' => e = .returned (.bool v) ∧ Below w.heap.size w w' := by
  have hv1 := hid_in hv
  clear hv
  by_cases k : a = c
  · have kb : (a != c) = false := by simp [k]
    have K := hid_in k
    clear k
    go_enter Try.func34, Try.ntmps34
    go_wp2
    go_ret
    exact ⟨ret_bool (by rw [← hv1.out]; simp [aheadB, K.out]), by go_grown⟩
  · have kb : (a != c) = true := by simp [k]
    go_enter Try.func34, Try.ntmps34
    go_wp2
    go_ret
    exact ⟨ret_bool (by rw [← hv1.out]; simp [aheadB, k]), by go_grown⟩
def cmpV (a b c d : Int) : Int := if a = c then b - d else a - c
theorem cmp_ahead {a b c d : Int} : decide (0 ≤ cmpV a b c d) = !aheadB a b c d := by
  rw [Bool.eq_iff_iff]
  by_cases k : a = c
  · simp [cmpV, aheadB, k]; try omega
  · simp [cmpV, aheadB, k]; try omega
set_option maxHeartbeats 400000 in
set_option maxRecDepth 100000 in
theorem l3Cmp_any (a b c d : Int) (w : World) (ha : 0 ≤ a ∧ a ≤ 4294967295) (hb : 0 ≤ b ∧ b ≤ 32) (hc : 0 ≤ c ∧ c ≤ 4294967295) (hd : 0 ≤ d ∧ d ≤ 32) (n : Int) (hn : cmpV a b c d = n) :
    Calls Try.prog 27 #[.agg #[.int .i64 a, .int .i64 b], .agg #[.int .i64 c, .int .i64 d]] w fun e w' => e = .returned (.int .i64 n) ∧ Below w.heap.size w w' := by
  have hv1 := hid_in hn
  clear hn
  obtain ⟨ha0, ha1⟩ := ha; obtain ⟨hb0, hb1⟩ := hb; obtain ⟨hc0, hc1⟩ := hc; obtain ⟨hd0, hd1⟩ := hd
  by_cases k : a = c
  · have kb : (a != c) = false := by simp [k]
    have K := hid_in k
    clear k
    go_enter Try.func27, Try.ntmps27
    go_wp2
    go_ret
    exact ⟨ret_int (by rw [← hv1.out]; simp [cmpV, K.out]), by go_grown⟩
  · have kb : (a != c) = true := by simp [k]
    go_enter Try.func27, Try.ntmps27
    go_wp2
    go_ret
    exact ⟨ret_int (by rw [← hv1.out]; simp [cmpV, k]), by go_grown⟩
end Go.Proofs.Ytajkaaeckmfamaa
