/- Packets read from bytes, in the specification, as contracts, and the walk of the exact law. The conditions stand at each theorem. -/
import Derived.Test.YtgolcjlogokbiaaDoorPkgC
import Derived.Deep.RegionWith
namespace Go.Proofs.YtgolcjlogokbiaaDoor
open Go.RowKit Go.LatT Go.BlockM Go.PlainAid Go.OpnT Go.RegE Go.ApdG Go.BytM
set_option linter.unusedVariables false
set_option linter.unusedSimpArgs false
set_option maxHeartbeats 2000000 in
set_option maxRecDepth 100000 in
theorem packetGetS (x : ByteArray) (w : World) (hx : x.size ≤ 1048576) :
    Calls Tryd.prog 15 #[.string x] w fun e w' => e = .returned (.tuple #[pgV x, .bool (goodB x)]) ∧ Below w.heap.size w w' := by
  have nogood : goodB x = false → Hid (goodB x = false ∧ pgV x = .agg #[.int .i64 0, .int .i64 0, .int .i64 0, .string ⟨#[]⟩]) := fun h => ⟨h, by rw [pgV, h]; rfl⟩
  by_cases h1 : 11 ≤ x.size
  · by_cases h2 : x.size ≤ 51
    · have N4 := hid_in (fun w => l8Num_any (x.extract 10 11) w (by rw [ByteArray.size_extract]; omega))
      by_cases h3 : num (bl (x.extract 10 11)) = x.size - 11
      · have hg : goodB x = true := by rw [goodB, decide_eq_true h1, decide_eq_true h2, decide_eq_true h3]; rfl
        have EV : Hid (pgV x = .agg #[.int .i64 (numX x 0 4), .int .i64 (numX x 4 8), .int .i64 (numX x 8 10), .string (x.extract 11 x.size)]) := by show _ = _; rw [pgV, hg]; rfl
        have GH := hid_in hg
        obtain ⟨x0, hx0⟩ : ∃ y, x.extract 0 4 = y := ⟨_, rfl⟩
        obtain ⟨x1, hx1⟩ : ∃ y, x.extract 4 8 = y := ⟨_, rfl⟩
        obtain ⟨x2, hx2⟩ : ∃ y, x.extract 8 10 = y := ⟨_, rfl⟩
        obtain ⟨x3, hx3⟩ : ∃ y, x.extract 11 x.size = y := ⟨_, rfl⟩
        have N1 : Hid (∀ w, Calls Tryd.prog 38 #[.string x0] w fun e w' => e = .returned (.int .i64 (numX x 0 4)) ∧ w' = w) := fun w => by rw [← hx0]; exact l8Num_any (x.extract 0 4) w (by rw [ByteArray.size_extract]; omega)
        have N2 : Hid (∀ w, Calls Tryd.prog 38 #[.string x1] w fun e w' => e = .returned (.int .i64 (numX x 4 8)) ∧ w' = w) := fun w => by rw [← hx1]; exact l8Num_any (x.extract 4 8) w (by rw [ByteArray.size_extract]; omega)
        have N3 : Hid (∀ w, Calls Tryd.prog 38 #[.string x2] w fun e w' => e = .returned (.int .i64 (numX x 8 10)) ∧ w' = w) := fun w => by rw [← hx2]; exact l8Num_any (x.extract 8 10) w (by rw [ByteArray.size_extract]; omega)
        have c4 : (4 : Int) ≤ (x.size : Int) := by omega
        have c8 : (8 : Int) ≤ (x.size : Int) := by omega
        have c10 : (10 : Int) ≤ (x.size : Int) := by omega
        have c11 : (11 : Int) ≤ (x.size : Int) := by omega
        have h3' : ((num (bl (x.extract 10 11)) : Nat) : Int) = (x.size : Int) - 11 := by omega
        clear hg nogood h3
        generalize numX x 0 4 = f at *
        generalize numX x 4 8 = t at *
        generalize numX x 8 10 = p at *
        go_enter Tryd.func15, Tryd.ntmps15
        go_wp2_with fail
        refine (N4.out _).mono ?_
        rintro e w1 ⟨rfl, rfl⟩
        go_wp2_with fail
        go_region_held3 (fun w' => True) (go_keep) (first | (go_at_call_of 38 (Value.string x0); refine (N1.out _).mono ?_; rintro e w1 ⟨rfl, rfl⟩) | (go_at_call_of 38 (Value.string x1); refine (N2.out _).mono ?_; rintro e w1 ⟨rfl, rfl⟩) | (go_at_call_of 38 (Value.string x2); refine (N3.out _).mono ?_; rintro e w1 ⟨rfl, rfl⟩))
        go_wp2_with fail
        refine bodyPost_ret (v := .tuple #[.agg #[.int .i64 f, .int .i64 t, .int .i64 p, .string x3], .bool true]) (by simp [results, Tryd.results15, go_sem]) rfl ⟨by rw [EV.out, GH.out, hx3], ?_⟩
        exact (below_box w _).drew
      · have hg : goodB x = false := by rw [goodB, decide_eq_false h3]; simp
        have NG := nogood hg
        generalize num (bl (x.extract 10 11)) = n4 at *
        have h3' : ((n4 : Int) == (x.size : Int) - 11) = false := by simp; omega
        have h3'' : ((n4 : Int) != (x.size : Int) - 11) = true := by simp; omega
        clear hg nogood h3
        go_enter Tryd.func15, Tryd.ntmps15
        go_wp2_with fail
        refine (N4.out _).mono ?_
        rintro e w1 ⟨rfl, rfl⟩
        go_wp2_with fail
        exact bodyPost_ret (v := .tuple #[.agg #[.int .i64 0, .int .i64 0, .int .i64 0, .string ⟨#[]⟩], .bool false]) (by simp [results, Tryd.results15, go_sem]) rfl ⟨by rw [NG.out.1, NG.out.2], by go_grown⟩
    · have hg : goodB x = false := by rw [goodB, decide_eq_false h2]; simp
      have NG := nogood hg
      clear hg nogood
      go_enter Tryd.func15, Tryd.ntmps15
      go_wp2_with fail
      exact bodyPost_ret (v := .tuple #[.agg #[.int .i64 0, .int .i64 0, .int .i64 0, .string ⟨#[]⟩], .bool false]) (by simp [results, Tryd.results15, go_sem]) rfl ⟨by rw [NG.out.1, NG.out.2], by go_grown⟩
  · have hg : goodB x = false := by rw [goodB, decide_eq_false h1]; simp
    have NG := nogood hg
    clear hg nogood
    go_enter Tryd.func15, Tryd.ntmps15
    go_wp2_with fail
    exact bodyPost_ret (v := .tuple #[.agg #[.int .i64 0, .int .i64 0, .int .i64 0, .string ⟨#[]⟩], .bool false]) (by simp [results, Tryd.results15, go_sem]) rfl ⟨by rw [NG.out.1, NG.out.2], by go_grown⟩
set_option maxHeartbeats 1000000 in
set_option maxRecDepth 100000 in
theorem eqPacket_self (f t p : Int) (s : ByteArray) (w : World) :
    Calls Tryd.prog 17 #[.agg #[.int .i64 f, .int .i64 t, .int .i64 p, .string s], .agg #[.int .i64 f, .int .i64 t, .int .i64 p, .string s]] w fun e w' => e = .returned (.bool true) ∧ Below w.heap.size w w' := by
  go_enter Tryd.func17, Tryd.ntmps17
  go_wp2_with fail
  go_ret
  exact ⟨rfl, by go_grown⟩
theorem pgV_form (x : ByteArray) : ∃ f t p s, pgV x = .agg #[.int .i64 f, .int .i64 t, .int .i64 p, .string s] := by
  unfold pgV
  split
  · exact ⟨_, _, _, _, rfl⟩
  · exact ⟨_, _, _, _, rfl⟩
set_option maxHeartbeats 2000000 in
set_option maxRecDepth 100000 in
theorem walk_FnExactPacketGet (x : ByteArray) (w : World) (hz : x.size ≤ maxLen) (hE : ErrT w) :
    Calls Tryd.prog 6 #[.string x] w fun e w' => e = .returned (.bool true) ∧ Below w.heap.size w w' := by
  have hz' : (x.size : Int) ≤ 9223372036854775807 := by unfold maxLen at hz; omega
  clear hz
  by_cases hs : x.size ≤ 1048576
  · have S := fun w => packetGetS x w hs
    have I := fun w hE => packetGetI x w hs hE
    obtain ⟨f, t, p, s, hf⟩ := pgV_form x
    rw [hf] at S I
    have HS := hid_in S; have HI := hid_in I; have HE := hid_in hE
    generalize goodB x = b at *
    clear S I hf hE
    go_enter Tryd.func6, Tryd.ntmps6
    go_wp2_with fail
    refine (HS.out _).mono ?_
    rintro e w1 ⟨rfl, hb1⟩
    go_wp2_with fail
    have P1 := hid_in (PBf.new w1 f t p s 30)
    have Z1 := hid_in (below_later hb1 (below_box w1 (.cells #[.int .i64 f, .int .i64 t, .int .i64 p, .string s] 30)))
    clear hb1
    refine (HI.out _ (HE.out.later Z1.out)).mono ?_
    rintro e w2 ⟨rfl, hb2⟩
    replace P1 := hid_in (P1.out.later hb2); replace Z1 := hid_in (below_later Z1.out hb2)
    clear hb2
    obtain ⟨hlt, i0, i1, i2, i3, if_⟩ := P1.out
    go_wp2_with fail
    refine (eqPacket_self f t p s _).mono ?_
    rintro e w3 ⟨rfl, hb3⟩
    have Z3 := hid_in (below_later (below_later Z1.out (below_box w2 _)) hb3)
    clear hb3
    cases b
    all_goals
      go_wp2_with fail
      go_ret
      exact ⟨rfl, Z3.out⟩
  · have hs' : (1048576 : Int) < x.size := by omega
    go_enter Tryd.func6, Tryd.ntmps6
    go_wp2_with fail
    go_ret
    exact ⟨rfl, Below.refl _ _⟩
end Go.Proofs.YtgolcjlogokbiaaDoor
