/- What each function of blocks answers, in the program and in the specification, as contracts: the answer, and that nothing which was there has turned. The conditions stand at each theorem. -/
import Derived.Test.YtbimfhlmcdpnmaaDoorProg
import Derived.Test.YtbimfhlmcdpnmaaDoorLat
import Derived.Test.YtbimfhlmcdpnmaaDoorMath
import Derived.WalkKit
import Derived.WalkSpells
import Derived.WalkLawsBesides
import Derived.BigQuiet
import Derived.Deep.RegionWith
namespace Go.Proofs.YtbimfhlmcdpnmaaDoor
open Go.RowKit Go.LatT Go.BlockM
set_option linter.unusedVariables false
set_option linter.unusedSimpArgs false
set_option maxHeartbeats 400000 in
set_option maxRecDepth 100000 in
theorem l1In_any (n lo hi : Int) (w : World) (v : Bool) (hv : inB n lo hi = v) :
    Calls Tryd.prog 56 #[.int .i64 n, .int .i64 lo, .int .i64 hi] w fun e w' => e = .returned (.bool v) ∧ w' = w := by
  subst hv
  by_cases h : lo ≤ n
  · go_enter Tryd.func56, Tryd.ntmps56
    go_wp2
    go_ret
    exact ⟨by simp [inB, h], rfl⟩
  · go_enter Tryd.func56, Tryd.ntmps56
    go_wp2
    go_ret
    exact ⟨by simp [inB]; omega, rfl⟩
set_option maxHeartbeats 400000 in
set_option maxRecDepth 100000 in
theorem l1Two_any (n : Int) (w : World) (h0 : 0 ≤ n) (h : n ≤ 32) :
    Calls Tryd.prog 83 #[.int .i64 n] w fun e w' => e = .returned (.int .i64 (pw n)) ∧ w' = w := by
  go_enter Tryd.func83, Tryd.ntmps83
  go_wp2
  go_loop [0, 3] (fun a o => ∃ k : Int, 0 ≤ k ∧ k ≤ n ∧ a = .int .i64 (n - k) ∧ o = .int .i64 (pw k)) (fun a _ => (intOf a).toNat)
  case atStart => exact ⟨0, by omega, by omega, by simp, rfl⟩
  case round =>
    obtain ⟨k, hk0, hk1, rfl, rfl⟩ := hrel
    have hp := pw_pos k
    have hq := pw_le hk0 (by omega)
    by_cases hlt : k < n
    · go_wp2
      go_round
      case rel => exact ⟨k + 1, by omega, by omega, by congr 1; omega, by rw [pw_succ k hk0]⟩
      case measure => simp [intOf]; omega
    · go_wp2
      go_ret
      exact ⟨ret_int (by congr 1; omega), rfl⟩
set_option maxHeartbeats 400000 in
set_option maxRecDepth 100000 in
theorem l1Size_any (b : Int) (w : World) (h0 : 0 ≤ b) (h : b ≤ 32) :
    Calls Tryd.prog 74 #[.int .i64 b] w fun e w' => e = .returned (.int .i64 (pw (32 - b))) ∧ w' = w := by
  go_enter Tryd.func74, Tryd.ntmps74
  go_wp2_with (go_at_call 83; refine (l1Two_any _ _ (by omega) (by omega)).mono ?_; rintro e w' ⟨rfl, rfl⟩)
  go_ret
  exact ⟨rfl, rfl⟩
set_option maxHeartbeats 400000 in
set_option maxRecDepth 100000 in
theorem l1Addr_any (a : Int) (w : World) (v : Bool) (hv : inB a 0 4294967295 = v) :
    Calls Tryd.prog 73 #[.int .i64 a] w fun e w' => e = .returned (.bool v) ∧ w' = w := by
  go_enter Tryd.func73, Tryd.ntmps73
  go_wp2_with (go_at_call 56; refine (l1In_any _ _ _ _ _ hv).mono ?_; rintro e w' ⟨rfl, rfl⟩)
  go_ret
  exact ⟨rfl, rfl⟩
set_option maxHeartbeats 400000 in
set_option maxRecDepth 100000 in
theorem addrOk (a : Int) (w : World) (v : Bool) (hv : inB a 0 4294967295 = v) :
    Calls Tryd.prog 64 #[.int .i64 a] w fun e w' => e = .returned (.bool v) ∧ w' = w := by
  subst hv
  by_cases h : 0 ≤ a
  · go_enter Tryd.func64, Tryd.ntmps64
    go_wp2
    go_ret
    exact ⟨by simp [inB, h], rfl⟩
  · go_enter Tryd.func64, Tryd.ntmps64
    go_wp2
    go_ret
    exact ⟨by simp [inB]; omega, rfl⟩
set_option maxHeartbeats 400000 in
set_option maxRecDepth 100000 in
theorem psize (a b : Int) (w : World) (h0 : 0 ≤ b) (h : b ≤ 32) :
    Calls Tryd.prog 79 #[.agg #[.int .i64 a, .int .i64 b]] w fun e w' => e = .returned (.int .i64 (pw (32 - b))) ∧ Below w.heap.size w w' := by
  go_enter Tryd.func79, Tryd.ntmps79
  go_wp2
  go_ret
  exact ⟨ret_int (pw_wrap _ (by omega) (by omega)), (Below.refl _ _).alloc (Nat.le_refl _) _⟩
set_option maxHeartbeats 400000 in
set_option maxRecDepth 100000 in
theorem prefOk (a b : Int) (w : World) (v : Bool) (hv : okB a b = v) :
    Calls Tryd.prog 63 #[.agg #[.int .i64 a, .int .i64 b]] w fun e w' => e = .returned (.bool v) ∧ Below w.heap.size w w' := by
  by_cases hA : 0 ≤ a ∧ a ≤ 4294967295
  · have hA1 : Hid (inB a 0 4294967295 = true) := by show _ = _; simp [inB, hA]
    obtain ⟨ha0, ha1⟩ := hA
    by_cases hb0 : 0 ≤ b
    · by_cases hb1 : b ≤ 32
      · have hp := pw_pos (32 - b)
        have hr : Hid ((a % pw (32 - b) == 0) = v) := by show _ = v; rw [← hv]; simp [okB, ha0, ha1, hb0, hb1]; rfl
        clear hv
        go_enter Tryd.func63, Tryd.ntmps63
        go_wp2_with fail
        refine wp_region_lat (Below.refl _ _) (by kernel_rfl) (by kernel_rfl) ?_
        intro hne hcl
        repeat (go_big_quiet_step (first | (go_at_call 64; exact lat_same (addrOk _ _ _ hA1.out)) | (go_at_call 79; exact lat_of (psize _ _ _ hb0 hb1))))
        refine wpQuiet_nil ?_
        intro w1 hb1
        obtain ⟨hc1, hf1⟩ := bcell hb1
        clear hne hcl
        go_wp2
        go_ret
        exact ⟨ret_bool hr.out, below_under hb1⟩
      · have hr : Hid (false = v) := by show _ = v; rw [← hv]; simp [okB]; omega
        have hg : decide (b ≤ 32) = false := by simp; omega
        clear hv
        go_enter Tryd.func63, Tryd.ntmps63
        go_wp2_with fail
        refine wp_region_lat (Below.refl _ _) (by kernel_rfl) (by kernel_rfl) ?_
        intro hne hcl
        repeat (go_big_quiet_step (first | (go_at_call 64; exact lat_same (addrOk _ _ _ hA1.out))))
        refine wpQuiet_nil ?_
        intro w1 hb1
        obtain ⟨hc1, hf1⟩ := bcell hb1
        clear hne hcl
        go_wp2
        go_ret
        exact ⟨ret_bool hr.out, below_under hb1⟩
    · have hr : Hid (false = v) := by show _ = v; rw [← hv]; simp [okB]; omega
      have hg : decide (0 ≤ b) = false := by simp; omega
      clear hv
      go_enter Tryd.func63, Tryd.ntmps63
      go_wp2_with fail
      refine wp_region_lat (Below.refl _ _) (by kernel_rfl) (by kernel_rfl) ?_
      intro hne hcl
      repeat (go_big_quiet_step (first | (go_at_call 64; exact lat_same (addrOk _ _ _ hA1.out))))
      refine wpQuiet_nil ?_
      intro w1 hb1
      obtain ⟨hc1, hf1⟩ := bcell hb1
      clear hne hcl
      go_wp2
      go_ret
      exact ⟨ret_bool hr.out, below_under hb1⟩
  · have hA1 : Hid (inB a 0 4294967295 = false) := by show _ = _; simp [inB]; omega
    have hr : Hid (false = v) := by show _ = v; rw [← hv]; simp [okB]; omega
    clear hv
    go_enter Tryd.func63, Tryd.ntmps63
    go_wp2_with fail
    refine wp_region_lat (Below.refl _ _) (by kernel_rfl) (by kernel_rfl) ?_
    intro hne hcl
    repeat (go_big_quiet_step (first | (go_at_call 64; exact lat_same (addrOk _ _ _ hA1.out))))
    refine wpQuiet_nil ?_
    intro w1 hb1
    obtain ⟨hc1, hf1⟩ := bcell hb1
    clear hne hcl
    go_wp2
    go_ret
    exact ⟨ret_bool hr.out, below_under hb1⟩
set_option maxHeartbeats 400000 in
set_option maxRecDepth 100000 in
theorem specOk (a b : Int) (w : World) (v : Bool) (hv : okB a b = v) :
    Calls Tryd.prog 55 #[.agg #[.int .i64 a, .int .i64 b]] w fun e w' => e = .returned (.bool v) ∧ Below w.heap.size w w' := by
  cases hA : inB a 0 4294967295
  · have hr : Hid (false = v) := by show _ = v; simp [inB] at hA; rw [← hv]; simp [okB]; omega
    have hA1 := hid_in hA
    clear hA hv
    go_enter Tryd.func55, Tryd.ntmps55
    go_wp2_with fail
    refine wp_region_lat (Below.refl _ _) (by kernel_rfl) (by kernel_rfl) ?_
    intro hne hcl
    repeat (go_big_quiet_step (first | (go_at_call 73; exact lat_same (l1Addr_any _ _ _ hA1.out))))
    refine wpQuiet_nil ?_
    intro w1 hb1
    obtain ⟨hc1, hf1⟩ := bcell hb1
    clear hne hcl
    go_wp2
    go_ret
    exact ⟨ret_bool hr.out, below_under hb1⟩
  · cases hB : inB b 0 32
    · have hr : Hid (false = v) := by show _ = v; simp [inB] at hB; rw [← hv]; simp [okB]; omega
      have hA1 := hid_in hA
      have hB1 := hid_in hB
      clear hA hv hB
      go_enter Tryd.func55, Tryd.ntmps55
      go_wp2_with fail
      refine wp_region_lat (Below.refl _ _) (by kernel_rfl) (by kernel_rfl) ?_
      intro hne hcl
      repeat (go_big_quiet_step (first | (go_at_call 73; exact lat_same (l1Addr_any _ _ _ hA1.out)) | (go_at_call 56; exact lat_same (l1In_any _ _ _ _ _ hB1.out))))
      refine wpQuiet_nil ?_
      intro w1 hb1
      obtain ⟨hc1, hf1⟩ := bcell hb1
      clear hne hcl
      go_wp2
      go_ret
      exact ⟨ret_bool hr.out, below_under hb1⟩
    · have hA' : 0 ≤ a ∧ a ≤ 4294967295 := by simpa [inB] using hA
      have hB' : 0 ≤ b ∧ b ≤ 32 := by simpa [inB] using hB
      obtain ⟨ha0, ha1⟩ := hA'
      obtain ⟨hb0, hb1⟩ := hB'
      have hA1 := hid_in hA
      have hB1 := hid_in hB
      have hp := pw_pos (32 - b)
      have hr : Hid ((a % pw (32 - b) == 0) = v) := by show _ = v; rw [← hv]; simp [okB, ha0, ha1, hb0, hb1]; rfl
      clear hv hA hB
      go_enter Tryd.func55, Tryd.ntmps55
      go_wp2_with fail
      refine wp_region_lat (Below.refl _ _) (by kernel_rfl) (by kernel_rfl) ?_
      intro hne hcl
      repeat (go_big_quiet_step (first | (go_at_call 73; exact lat_same (l1Addr_any _ _ _ hA1.out)) | (go_at_call 56; exact lat_same (l1In_any _ _ _ _ _ hB1.out)) | (go_at_call 74; exact lat_same (l1Size_any _ _ hb0 hb1))))
      refine wpQuiet_nil ?_
      intro w1 hb1
      obtain ⟨hc1, hf1⟩ := bcell hb1
      clear hne hcl
      go_wp2
      go_ret
      exact ⟨ret_bool hr.out, below_under hb1⟩
set_option maxHeartbeats 400000 in
set_option maxRecDepth 100000 in
theorem prefixOf_any (a b : Int) (w : World) :
    Calls Tryd.prog 62 #[.agg #[.int .i64 a, .int .i64 b]] w fun e w' => e = .returned (.agg #[.int .i64 a, .int .i64 b]) ∧ Below w.heap.size w w' := by
  go_enter Tryd.func62, Tryd.ntmps62
  go_wp2
  exact bodyPost_ret (v := .agg #[.int .i64 a, .int .i64 b]) (by simp [results, Tryd.results62, go_sem]) rfl ⟨rfl, below_later (below_box _ _) (below_box _ _)⟩
set_option maxHeartbeats 400000 in
set_option maxRecDepth 100000 in
theorem toBlock_any (a b : Int) (w : World) :
    Calls Tryd.prog 34 #[.agg #[.int .i64 a, .int .i64 b]] w fun e w' => e = .returned (.agg #[.int .i64 a, .int .i64 b]) ∧ Below w.heap.size w w' := by
  go_enter Tryd.func34, Tryd.ntmps34
  go_wp2
  exact bodyPost_ret (v := .agg #[.int .i64 a, .int .i64 b]) (by simp [results, Tryd.results34, go_sem]) rfl ⟨rfl, below_later (below_later (below_box _ _) (below_box _ _)) (below_box _ _)⟩
set_option maxHeartbeats 400000 in
set_option maxRecDepth 100000 in
theorem eqBlock_any (a b c d : Int) (w : World) (v : Bool) (hv : decide (a = c ∧ b = d) = v) :
    Calls Tryd.prog 48 #[.agg #[.int .i64 a, .int .i64 b], .agg #[.int .i64 c, .int .i64 d]] w fun e w' => e = .returned (.bool v) ∧ Below w.heap.size w w' := by
  have hv1 := hid_in hv
  clear hv
  go_enter Tryd.func48, Tryd.ntmps48
  go_wp2
  · rename_i h
    go_ret
    exact ⟨ret_bool (by rw [← hv1.out]; simp at h; simp [h]), below_later (below_box _ _) (below_box _ _)⟩
  · rename_i h
    go_ret
    exact ⟨ret_bool (by rw [← hv1.out]; simp at h; simp [h]), below_later (below_box _ _) (below_box _ _)⟩
  · rename_i h1 h
    go_ret
    exact ⟨ret_bool (by rw [← hv1.out]; simp at h h1; simp [h, h1]), below_later (below_box _ _) (below_box _ _)⟩
set_option maxHeartbeats 400000 in
set_option maxRecDepth 100000 in
theorem blockOkI (a b : Int) (w : World) (v : Bool) (hv : okB a b = v) :
    Calls Tryd.prog 44 #[.agg #[.int .i64 a, .int .i64 b]] w fun e w' => e = .returned (.bool v) ∧ Below w.heap.size w w' := by
  have hv1 := hid_in hv
  clear hv
  go_enter Tryd.func44, Tryd.ntmps44
  go_wp2_with (first | (go_at_call 62; refine (prefixOf_any _ _ _).mono ?_; rintro e w1 ⟨rfl, hb1⟩) | (go_at_call 63; refine (prefOk _ _ _ _ hv1.out).mono ?_; rintro e w2 ⟨rfl, hb2⟩))
  go_ret
  exact ⟨rfl, below_later (below_later (below_box _ _) ‹Below _ _ _›) ‹Below _ _ _›⟩
end Go.Proofs.YtbimfhlmcdpnmaaDoor
