/- Whether a packet is ok, in the program and in the specification, as contracts, and the walk of the exact law. The conditions stand at each theorem. -/
import Derived.Test.YtgolcjlogokbiaaDoorCalA
import Derived.PlainAid
import Derived.Deep.RegionHeld3
namespace Go.Proofs.YtgolcjlogokbiaaDoor
open Go.RowKit Go.LatT Go.BlockM
set_option linter.unusedVariables false
set_option linter.unusedSimpArgs false
/-- The value of a packet. -/
@[reducible] def vPak (f t p : Int) (s : ByteArray) : Value := .agg #[.int .i64 f, .int .i64 t, .int .i64 p, .string s]
/-- A packet is ok. -/
def pokB (f t p : Int) (s : ByteArray) : Bool := callB f t p && decide ((s.size : Int) ≤ 40)
set_option maxHeartbeats 1000000 in
set_option maxRecDepth 100000 in
theorem packetOkS (f t p : Int) (s : ByteArray) (w : World) (v : Bool) (hv : pokB f t p s = v) :
    Calls Tryd.prog 24 #[.agg #[.int .i64 f, .int .i64 t, .int .i64 p, .string s]] w fun e w' => e = .returned (.bool v) ∧ Below w.heap.size w w' := by
  have V := hid_in hv
  clear hv
  cases hA : callB f t p
  · have A := hid_in hA
    clear hA
    go_enter Tryd.func24, Tryd.ntmps24
    go_wp2_with fail
    refine (l4Call_any f t p _ _ A.out).mono ?_
    rintro e w1 ⟨rfl, hb1⟩
    obtain ⟨hc1, hf1⟩ := bcell hb1
    go_wp2_with fail
    go_ret
    exact ⟨ret_bool (by rw [← V.out]; simp [pokB, A.out]), below_later (by go_grown) hb1⟩
  · have A := hid_in hA
    clear hA
    go_enter Tryd.func24, Tryd.ntmps24
    go_wp2_with fail
    refine (l4Call_any f t p _ _ A.out).mono ?_
    rintro e w1 ⟨rfl, hb1⟩
    obtain ⟨hc1, hf1⟩ := bcell hb1
    have k : w1.cell? ⟨w.heap.size, 3, none⟩ = some (.string s) := by rw [hc1 _ _ (by simp; try omega)]; go_simp
    go_wp2_with fail
    go_ret
    exact ⟨ret_bool (by rw [← V.out]; simp [pokB, A.out]), below_later (by go_grown) hb1⟩
set_option maxHeartbeats 400000 in
set_option maxRecDepth 100000 in
theorem callOf_any (f t p : Int) (s : ByteArray) (w : World) :
    Calls Tryd.prog 44 #[.agg #[.int .i64 f, .int .i64 t, .int .i64 p, .string s]] w fun e w' => e = .returned (.agg #[.int .i64 f, .int .i64 t, .int .i64 p]) ∧ Below w.heap.size w w' := by
  go_enter Tryd.func44, Tryd.ntmps44
  go_wp2
  exact bodyPost_ret (v := .agg #[.int .i64 f, .int .i64 t, .int .i64 p]) (by simp [results, Tryd.results44, go_sem]) rfl ⟨rfl, by go_grown⟩
set_option maxHeartbeats 1000000 in
set_option maxRecDepth 100000 in
theorem packetOkI (f t p : Int) (s : ByteArray) (w : World) (v : Bool) (hv : pokB f t p s = v) :
    Calls Tryd.prog 23 #[.agg #[.int .i64 f, .int .i64 t, .int .i64 p, .string s]] w fun e w' => e = .returned (.bool v) ∧ Below w.heap.size w w' := by
  have V := hid_in hv
  clear hv
  cases hA : callB f t p
  · have A := hid_in hA
    clear hA
    go_enter Tryd.func23, Tryd.ntmps23
    go_wp2_with fail
    refine (callOf_any f t p s _).mono ?_
    rintro e w0 ⟨rfl, hb0⟩
    go_wp2_with fail
    refine (callOk_any f t p _ _ A.out).mono ?_
    rintro e w1 ⟨rfl, hb1⟩
    go_wp2_with fail
    go_ret
    exact ⟨ret_bool (by rw [← V.out]; simp [pokB, A.out]), below_later (below_later (by go_grown) hb0) hb1⟩
  · have A := hid_in hA
    clear hA
    go_enter Tryd.func23, Tryd.ntmps23
    go_wp2_with fail
    refine (callOf_any f t p s _).mono ?_
    rintro e w0 ⟨rfl, hb0⟩
    go_wp2_with fail
    refine (callOk_any f t p _ _ A.out).mono ?_
    rintro e w1 ⟨rfl, hb1⟩
    have k : w1.cell? ⟨w.heap.size, 3, none⟩ = some (.string s) := by
      rw [(bcell hb1).1 _ _ (Nat.lt_of_lt_of_le (by simp) hb0.size), (bcell hb0).1 _ _ (by simp)]; go_simp
    go_wp2_with fail
    go_ret
    exact ⟨ret_bool (by rw [← V.out]; simp [pokB, A.out]), below_later (below_later (by go_grown) hb0) hb1⟩
end Go.Proofs.YtgolcjlogokbiaaDoor
