/- What each function of blocks answers, in the program and in the specification, as contracts: the answer, and that nothing which was there has turned. The conditions stand at each theorem. -/
import Derived.Test.YtajkaaeckmfamaaProg
import Derived.Test.YtajkaaeckmfamaaLat
import Derived.Test.YtajkaaeckmfamaaMath
import Derived.WalkKit
import Derived.WalkSpells
import Derived.WalkLawsBesides
import Derived.BigQuiet
import Derived.Deep.RegionWith
namespace Go.Proofs.Ytajkaaeckmfamaa
open Go.RowKit Go.LatT Go.BlockM
set_option linter.unusedVariables false
set_option linter.unusedSimpArgs false
set_option maxHeartbeats 400000 in
set_option maxRecDepth 100000 in
theorem l1In_any (n lo hi : Int) (w : World) (v : Bool) (hv : inB n lo hi = v) :
    Calls Try.prog 26 #[.int .i64 n, .int .i64 lo, .int .i64 hi] w fun e w' => e = .returned (.bool v) ∧ w' = w := by
  subst hv
  by_cases h : lo ≤ n
  · go_enter Try.func26, Try.ntmps26
    go_wp2
    go_ret
    exact ⟨by simp [inB, h], rfl⟩
  · go_enter Try.func26, Try.ntmps26
    go_wp2
    go_ret
    exact ⟨by simp [inB]; omega, rfl⟩
set_option maxHeartbeats 400000 in
set_option maxRecDepth 100000 in
theorem l1Two_any (n : Int) (w : World) (h0 : 0 ≤ n) (h : n ≤ 32) :
    Calls Try.prog 49 #[.int .i64 n] w fun e w' => e = .returned (.int .i64 (pw n)) ∧ w' = w := by
  go_enter Try.func49, Try.ntmps49
  go_wp2
  go_loop [0, 3] (fun a o => ∃ k : Int, 0 ≤ k ∧ k ≤ n ∧ a = .int .i64 (n - k) ∧ o = .int .i64 (pw k)) (fun a _ => (intOf a).toNat)
  case atStart => exact ⟨0, by omega, by omega, by simp, rfl⟩
  case round =>
    obtain ⟨k, hk0, hk1, rfl, rfl⟩ := hrel
    have hp := pw_pos k
    have hq := pw_le hk0 (by omega)
    by_cases hlt : k < n
    · go_wp2
      go_round
      case rel => exact ⟨k + 1, by omega, by omega, by congr 1; omega, by rw [pw_succ k hk0]⟩
      case measure => simp [intOf]; omega
    · go_wp2
      go_ret
      exact ⟨ret_int (by congr 1; omega), rfl⟩
set_option maxHeartbeats 400000 in
set_option maxRecDepth 100000 in
theorem l1Size_any (b : Int) (w : World) (h0 : 0 ≤ b) (h : b ≤ 32) :
    Calls Try.prog 43 #[.int .i64 b] w fun e w' => e = .returned (.int .i64 (pw (32 - b))) ∧ w' = w := by
  go_enter Try.func43, Try.ntmps43
  go_wp2_with (go_at_call 49; refine (l1Two_any _ _ (by omega) (by omega)).mono ?_; rintro e w' ⟨rfl, rfl⟩)
  go_ret
  exact ⟨rfl, rfl⟩
set_option maxHeartbeats 400000 in
set_option maxRecDepth 100000 in
theorem l1Addr_any (a : Int) (w : World) (v : Bool) (hv : inB a 0 4294967295 = v) :
    Calls Try.prog 13 #[.int .i64 a] w fun e w' => e = .returned (.bool v) ∧ w' = w := by
  go_enter Try.func13, Try.ntmps13
  go_wp2_with (go_at_call 26; refine (l1In_any _ _ _ _ _ hv).mono ?_; rintro e w' ⟨rfl, rfl⟩)
  go_ret
  exact ⟨rfl, rfl⟩
set_option maxHeartbeats 400000 in
set_option maxRecDepth 100000 in
theorem addrOk (a : Int) (w : World) (v : Bool) (hv : inB a 0 4294967295 = v) :
    Calls Try.prog 17 #[.int .i64 a] w fun e w' => e = .returned (.bool v) ∧ w' = w := by
  subst hv
  by_cases h : 0 ≤ a
  · go_enter Try.func17, Try.ntmps17
    go_wp2
    go_ret
    exact ⟨by simp [inB, h], rfl⟩
  · go_enter Try.func17, Try.ntmps17
    go_wp2
    go_ret
    exact ⟨by simp [inB]; omega, rfl⟩
set_option maxHeartbeats 400000 in
set_option maxRecDepth 100000 in
theorem psize (a b : Int) (w : World) (h0 : 0 ≤ b) (h : b ≤ 32) :
    Calls Try.prog 50 #[.agg #[.int .i64 a, .int .i64 b]] w fun e w' => e = .returned (.int .i64 (pw (32 - b))) ∧ Below w.heap.size w w' := by
  go_enter Try.func50, Try.ntmps50
  go_wp2
  go_ret
  exact ⟨ret_int (pw_wrap _ (by omega) (by omega)), (Below.refl _ _).alloc (Nat.le_refl _) _⟩
set_option maxHeartbeats 400000 in
set_option maxRecDepth 100000 in
theorem prefOk (a b : Int) (w : World) (v : Bool) (hv : okB a b = v) :
    Calls Try.prog 44 #[.agg #[.int .i64 a, .int .i64 b]] w fun e w' => e = .returned (.bool v) ∧ Below w.heap.size w w' := by
  by_cases hA : 0 ≤ a ∧ a ≤ 4294967295
  · have hA1 : Hid (inB a 0 4294967295 = true) := by show _ = _; simp [inB, hA]
    obtain ⟨ha0, ha1⟩ := hA
    by_cases hb0 : 0 ≤ b
    · by_cases hb1 : b ≤ 32
      · have hp := pw_pos (32 - b)
        have hr : Hid ((a % pw (32 - b) == 0) = v) := by show _ = v; rw [← hv]; simp [okB, ha0, ha1, hb0, hb1]; rfl
        clear hv
        go_enter Try.func44, Try.ntmps44
        go_wp2_with fail
        refine wp_region_lat (Below.refl _ _) (by kernel_rfl) (by kernel_rfl) ?_
        intro hne hcl
        repeat (go_big_quiet_step (first | (go_at_call 17; exact lat_same (addrOk _ _ _ hA1.out)) | (go_at_call 50; exact lat_of (psize _ _ _ hb0 hb1))))
        refine wpQuiet_nil ?_
        intro w1 hb1
        obtain ⟨hc1, hf1⟩ := bcell hb1
        clear hne hcl
        go_wp2
        go_ret
        exact ⟨ret_bool hr.out, below_under hb1⟩
      · have hr : Hid (false = v) := by show _ = v; rw [← hv]; simp [okB]; omega
        have hg : decide (b ≤ 32) = false := by simp; omega
        clear hv
        go_enter Try.func44, Try.ntmps44
        go_wp2_with fail
        refine wp_region_lat (Below.refl _ _) (by kernel_rfl) (by kernel_rfl) ?_
        intro hne hcl
        repeat (go_big_quiet_step (first | (go_at_call 17; exact lat_same (addrOk _ _ _ hA1.out))))
        refine wpQuiet_nil ?_
        intro w1 hb1
        obtain ⟨hc1, hf1⟩ := bcell hb1
        clear hne hcl
        go_wp2
        go_ret
        exact ⟨ret_bool hr.out, below_under hb1⟩
    · have hr : Hid (false = v) := by show _ = v; rw [← hv]; simp [okB]; omega
      have hg : decide (0 ≤ b) = false := by simp; omega
      clear hv
      go_enter Try.func44, Try.ntmps44
      go_wp2_with fail
      refine wp_region_lat (Below.refl _ _) (by kernel_rfl) (by kernel_rfl) ?_
      intro hne hcl
      repeat (go_big_quiet_step (first | (go_at_call 17; exact lat_same (addrOk _ _ _ hA1.out))))
      refine wpQuiet_nil ?_
      intro w1 hb1
      obtain ⟨hc1, hf1⟩ := bcell hb1
      clear hne hcl
      go_wp2
      go_ret
      exact ⟨ret_bool hr.out, below_under hb1⟩
  · have hA1 : Hid (inB a 0 4294967295 = false) := by show _ = _; simp [inB]; omega
    have hr : Hid (false = v) := by show _ = v; rw [← hv]; simp [okB]; omega
    clear hv
    go_enter Try.func44, Try.ntmps44
    go_wp2_with fail
    refine wp_region_lat (Below.refl _ _) (by kernel_rfl) (by kernel_rfl) ?_
    intro hne hcl
    repeat (go_big_quiet_step (first | (go_at_call 17; exact lat_same (addrOk _ _ _ hA1.out))))
    refine wpQuiet_nil ?_
    intro w1 hb1
    obtain ⟨hc1, hf1⟩ := bcell hb1
    clear hne hcl
    go_wp2
    go_ret
    exact ⟨ret_bool hr.out, below_under hb1⟩
set_option maxHeartbeats 400000 in
set_option maxRecDepth 100000 in
theorem specOk (a b : Int) (w : World) (v : Bool) (hv : okB a b = v) :
    Calls Try.prog 25 #[.agg #[.int .i64 a, .int .i64 b]] w fun e w' => e = .returned (.bool v) ∧ Below w.heap.size w w' := by
  cases hA : inB a 0 4294967295
  · have hr : Hid (false = v) := by show _ = v; simp [inB] at hA; rw [← hv]; simp [okB]; omega
    have hA1 := hid_in hA
    clear hA hv
    go_enter Try.func25, Try.ntmps25
    go_wp2_with fail
    refine wp_region_lat (Below.refl _ _) (by kernel_rfl) (by kernel_rfl) ?_
    intro hne hcl
    repeat (go_big_quiet_step (first | (go_at_call 13; exact lat_same (l1Addr_any _ _ _ hA1.out))))
    refine wpQuiet_nil ?_
    intro w1 hb1
    obtain ⟨hc1, hf1⟩ := bcell hb1
    clear hne hcl
    go_wp2
    go_ret
    exact ⟨ret_bool hr.out, below_under hb1⟩
  · cases hB : inB b 0 32
    · have hr : Hid (false = v) := by show _ = v; simp [inB] at hB; rw [← hv]; simp [okB]; omega
      have hA1 := hid_in hA
      have hB1 := hid_in hB
      clear hA hv hB
      go_enter Try.func25, Try.ntmps25
      go_wp2_with fail
      refine wp_region_lat (Below.refl _ _) (by kernel_rfl) (by kernel_rfl) ?_
      intro hne hcl
      repeat (go_big_quiet_step (first | (go_at_call 13; exact lat_same (l1Addr_any _ _ _ hA1.out)) | (go_at_call 26; exact lat_same (l1In_any _ _ _ _ _ hB1.out))))
      refine wpQuiet_nil ?_
      intro w1 hb1
      obtain ⟨hc1, hf1⟩ := bcell hb1
      clear hne hcl
      go_wp2
      go_ret
      exact ⟨ret_bool hr.out, below_under hb1⟩
    · have hA' : 0 ≤ a ∧ a ≤ 4294967295 := by simpa [inB] using hA
      have hB' : 0 ≤ b ∧ b ≤ 32 := by simpa [inB] using hB
      obtain ⟨ha0, ha1⟩ := hA'
      obtain ⟨hb0, hb1⟩ := hB'
      have hA1 := hid_in hA
      have hB1 := hid_in hB
      have hp := pw_pos (32 - b)
      have hr : Hid ((a % pw (32 - b) == 0) = v) := by show _ = v; rw [← hv]; simp [okB, ha0, ha1, hb0, hb1]; rfl
      clear hv hA hB
      go_enter Try.func25, Try.ntmps25
      go_wp2_with fail
      refine wp_region_lat (Below.refl _ _) (by kernel_rfl) (by kernel_rfl) ?_
      intro hne hcl
      repeat (go_big_quiet_step (first | (go_at_call 13; exact lat_same (l1Addr_any _ _ _ hA1.out)) | (go_at_call 26; exact lat_same (l1In_any _ _ _ _ _ hB1.out)) | (go_at_call 43; exact lat_same (l1Size_any _ _ hb0 hb1))))
      refine wpQuiet_nil ?_
      intro w1 hb1
      obtain ⟨hc1, hf1⟩ := bcell hb1
      clear hne hcl
      go_wp2
      go_ret
      exact ⟨ret_bool hr.out, below_under hb1⟩
set_option maxHeartbeats 400000 in
set_option maxRecDepth 100000 in
theorem prefixOf_any (a b : Int) (w : World) :
    Calls Try.prog 29 #[.agg #[.int .i64 a, .int .i64 b]] w fun e w' => e = .returned (.agg #[.int .i64 a, .int .i64 b]) ∧ Below w.heap.size w w' := by
  go_enter Try.func29, Try.ntmps29
  go_wp2
  exact bodyPost_ret (v := .agg #[.int .i64 a, .int .i64 b]) (by simp [results, Try.results29, go_sem]) rfl ⟨rfl, below_later (below_box _ _) (below_box _ _)⟩
set_option maxHeartbeats 400000 in
set_option maxRecDepth 100000 in
theorem toBlock_any (a b : Int) (w : World) :
    Calls Try.prog 32 #[.agg #[.int .i64 a, .int .i64 b]] w fun e w' => e = .returned (.agg #[.int .i64 a, .int .i64 b]) ∧ Below w.heap.size w w' := by
  go_enter Try.func32, Try.ntmps32
  go_wp2
  exact bodyPost_ret (v := .agg #[.int .i64 a, .int .i64 b]) (by simp [results, Try.results32, go_sem]) rfl ⟨rfl, below_later (below_later (below_box _ _) (below_box _ _)) (below_box _ _)⟩
set_option maxHeartbeats 400000 in
set_option maxRecDepth 100000 in
theorem eqBlock_any (a b c d : Int) (w : World) (v : Bool) (hv : decide (a = c ∧ b = d) = v) :
    Calls Try.prog 38 #[.agg #[.int .i64 a, .int .i64 b], .agg #[.int .i64 c, .int .i64 d]] w fun e w' => e = .returned (.bool v) ∧ Below w.heap.size w w' := by
  have hv1 := hid_in hv
  clear hv
  go_enter Try.func38, Try.ntmps38
  go_wp2
  · rename_i h
    go_ret
    exact ⟨ret_bool (by rw [← hv1.out]; simp at h; simp [h]), below_later (below_box _ _) (below_box _ _)⟩
  · rename_i h
    go_ret
    exact ⟨ret_bool (by rw [← hv1.out]; simp at h; simp [h]), below_later (below_box _ _) (below_box _ _)⟩
  · rename_i h1 h
    go_ret
    exact ⟨ret_bool (by rw [← hv1.out]; simp at h h1; simp [h, h1]), below_later (below_box _ _) (below_box _ _)⟩
set_option maxHeartbeats 400000 in
set_option maxRecDepth 100000 in
theorem l1Over_any (a b : Int) (w : World) (ha0 : 0 ≤ a) (ha1 : a ≤ 4294967295) (hb0 : 0 ≤ b) (hb1 : b ≤ 32) :
    Calls Try.prog 53 #[.int .i64 a, .int .i64 b] w fun e w' => e = .returned (.agg #[.int .i64 (a / pw (32 - b) * pw (32 - b)), .int .i64 b]) ∧ Below w.heap.size w w' := by
  have hp := pw_pos (32 - b)
  have hp2 := pw_le (n := 32 - b) (by omega) (by omega)
  have hm := floor_le a (pw (32 - b)) hp
  have hm0 := floor_nonneg a (pw (32 - b)) ha0 hp
  go_enter Try.func53, Try.ntmps53
  go_wp2_with fail
  refine wp_region_lat_tail (Below.refl _ _) (by kernel_rfl) (by dsimp only [List.dropLast]) (by exact rfl) (by kernel_rfl) ?_
  intro hne hcl
  repeat (go_big_quiet_step (first | (go_at_call 43; exact lat_same (l1Size_any _ _ (by omega) (by omega)))))
  refine wpQuiet_nil ?_
  intro w1 hb1
  obtain ⟨hc1, hf1⟩ := bcell hb1
  clear hne hcl
  go_wp2
  exact bodyPost_ret (v := .agg #[.int .i64 (a / pw (32 - b) * pw (32 - b)), .int .i64 b]) (by simp [results, Try.results53, go_sem, hc1]) rfl
    ⟨rfl, ((below_later (below_box _ _) hb1).setCell (by simp) _).setCell (by simp) _⟩
set_option maxHeartbeats 400000 in
set_option maxRecDepth 100000 in
theorem blockOkI (a b : Int) (w : World) (v : Bool) (hv : okB a b = v) :
    Calls Try.prog 28 #[.agg #[.int .i64 a, .int .i64 b]] w fun e w' => e = .returned (.bool v) ∧ Below w.heap.size w w' := by
  have hv1 := hid_in hv
  clear hv
  go_enter Try.func28, Try.ntmps28
  go_wp2_with (first | (go_at_call 29; refine (prefixOf_any _ _ _).mono ?_; rintro e w1 ⟨rfl, hb1⟩) | (go_at_call 44; refine (prefOk _ _ _ _ hv1.out).mono ?_; rintro e w2 ⟨rfl, hb2⟩))
  go_ret
  exact ⟨rfl, below_later (below_later (below_box _ _) ‹Below _ _ _›) ‹Below _ _ _›⟩
set_option maxHeartbeats 400000 in
set_option maxRecDepth 100000 in
theorem plast (a b : Int) (w : World) (ha0 : 0 ≤ a) (ha1 : a ≤ 4294967295) (hb0 : 0 ≤ b) (hb1 : b ≤ 32) :
    Calls Try.prog 45 #[.agg #[.int .i64 a, .int .i64 b]] w fun e w' => e = .returned (.int .i64 (a + pw (32 - b) - 1)) ∧ Below w.heap.size w w' := by
  have hp := pw_pos (32 - b)
  have hp2 := pw_le (n := 32 - b) (by omega) (by omega)
  go_enter Try.func45, Try.ntmps45
  go_wp2_with fail
  refine wp_region_lat (Below.refl _ _) (by kernel_rfl) (by kernel_rfl) ?_
  intro hne hcl
  repeat (go_big_quiet_step (first | (go_at_call 50; exact lat_of (psize _ _ _ (by omega) (by omega)))))
  refine wpQuiet_nil ?_
  intro w1 hb1
  obtain ⟨hc1, hf1⟩ := bcell hb1
  clear hne hcl
  go_wp2
  go_ret
  exact ⟨rfl, below_under hb1⟩
set_option maxHeartbeats 400000 in
set_option maxRecDepth 100000 in
theorem slast (a b : Int) (w : World) (ha0 : 0 ≤ a) (ha1 : a ≤ 4294967295) (hb0 : 0 ≤ b) (hb1 : b ≤ 32) :
    Calls Try.prog 31 #[.agg #[.int .i64 a, .int .i64 b]] w fun e w' => e = .returned (.int .i64 (a + pw (32 - b) - 1)) ∧ Below w.heap.size w w' := by
  have hp := pw_pos (32 - b)
  have hp2 := pw_le (n := 32 - b) (by omega) (by omega)
  go_enter Try.func31, Try.ntmps31
  go_wp2_with fail
  refine wp_region_lat (Below.refl _ _) (by kernel_rfl) (by kernel_rfl) ?_
  intro hne hcl
  repeat (go_big_quiet_step (first | (go_at_call 43; exact lat_same (l1Size_any _ _ (by omega) (by omega)))))
  refine wpQuiet_nil ?_
  intro w1 hb1
  obtain ⟨hc1, hf1⟩ := bcell hb1
  clear hne hcl
  go_wp2
  go_ret
  exact ⟨rfl, below_under hb1⟩
set_option maxHeartbeats 400000 in
set_option maxRecDepth 100000 in
theorem phas (a b x : Int) (w : World) (v : Bool) (ha0 : 0 ≤ a) (ha1 : a ≤ 4294967295) (hb0 : 0 ≤ b) (hb1 : b ≤ 32) (hv : inB x a (a + pw (32 - b) - 1) = v) :
    Calls Try.prog 30 #[.agg #[.int .i64 a, .int .i64 b], .int .i64 x] w fun e w' => e = .returned (.bool v) ∧ Below w.heap.size w w' := by
  have hv1 := hid_in hv
  clear hv
  by_cases h : a ≤ x
  · go_enter Try.func30, Try.ntmps30
    go_wp2_with (go_at_call 45; refine (plast _ _ _ ha0 ha1 hb0 hb1).mono ?_; rintro e w1 ⟨rfl, hb1⟩)
    go_ret
    exact ⟨ret_bool (by rw [← hv1.out]; simp [inB, h]), below_under ‹Below _ _ _›⟩
  · go_enter Try.func30, Try.ntmps30
    go_wp2_with (go_at_call 45; refine (plast _ _ _ ha0 ha1 hb0 hb1).mono ?_; rintro e w1 ⟨rfl, hb1⟩)
    go_ret
    exact ⟨ret_bool (by rw [← hv1.out]; simp [inB]; omega), below_box _ _⟩
end Go.Proofs.Ytajkaaeckmfamaa
