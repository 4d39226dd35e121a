/- What each function of blocks answers, in the program and in the specification, as contracts: the answer, and that nothing which was there has turned. The conditions stand at each theorem. -/
import Derived.Test.YtdljoopioglkiaaProg
import Derived.Test.YtdljoopioglkiaaLat
import Derived.Test.YtdljoopioglkiaaMath
import Derived.WalkKit
import Derived.WalkSpells
import Derived.WalkLawsBesides
import Derived.BigQuiet
import Derived.Deep.RegionWith
namespace Go.Proofs.Ytdljoopioglkiaa
open Go.RowKit Go.LatT Go.BlockM
set_option linter.unusedVariables false
set_option linter.unusedSimpArgs false
set_option maxHeartbeats 400000 in
set_option maxRecDepth 100000 in
theorem l1In_any (n lo hi : Int) (w : World) (v : Bool) (hv : inB n lo hi = v) :
    Calls Try.prog 30 #[.int .i64 n, .int .i64 lo, .int .i64 hi] w fun e w' => e = .returned (.bool v) ∧ w' = w := by
  subst hv
  by_cases h : lo ≤ n
  · go_enter Try.func30, Try.ntmps30
    go_wp2
    go_ret
    exact ⟨by simp [inB, h], rfl⟩
  · go_enter Try.func30, Try.ntmps30
    go_wp2
    go_ret
    exact ⟨by simp [inB]; omega, rfl⟩
set_option maxHeartbeats 400000 in
set_option maxRecDepth 100000 in
theorem l1Two_any (n : Int) (w : World) (h0 : 0 ≤ n) (h : n ≤ 32) :
    Calls Try.prog 43 #[.int .i64 n] w fun e w' => e = .returned (.int .i64 (pw n)) ∧ w' = w := by
  go_enter Try.func43, Try.ntmps43
  go_wp2
  go_loop [0, 3] (fun a o => ∃ k : Int, 0 ≤ k ∧ k ≤ n ∧ a = .int .i64 (n - k) ∧ o = .int .i64 (pw k)) (fun a _ => (intOf a).toNat)
  case atStart => exact ⟨0, by omega, by omega, by simp, rfl⟩
  case round =>
    obtain ⟨k, hk0, hk1, rfl, rfl⟩ := hrel
    have hp := pw_pos k
    have hq := pw_le hk0 (by omega)
    by_cases hlt : k < n
    · go_wp2
      go_round
      case rel => exact ⟨k + 1, by omega, by omega, by congr 1; omega, by rw [pw_succ k hk0]⟩
      case measure => simp [intOf]; omega
    · go_wp2
      go_ret
      exact ⟨ret_int (by congr 1; omega), rfl⟩
set_option maxHeartbeats 400000 in
set_option maxRecDepth 100000 in
theorem l1Size_any (b : Int) (w : World) (h0 : 0 ≤ b) (h : b ≤ 32) :
    Calls Try.prog 38 #[.int .i64 b] w fun e w' => e = .returned (.int .i64 (pw (32 - b))) ∧ w' = w := by
  go_enter Try.func38, Try.ntmps38
  go_wp2_with (go_at_call 43; refine (l1Two_any _ _ (by omega) (by omega)).mono ?_; rintro e w' ⟨rfl, rfl⟩)
  go_ret
  exact ⟨rfl, rfl⟩
set_option maxHeartbeats 400000 in
set_option maxRecDepth 100000 in
theorem l1Addr_any (a : Int) (w : World) (v : Bool) (hv : inB a 0 4294967295 = v) :
    Calls Try.prog 44 #[.int .i64 a] w fun e w' => e = .returned (.bool v) ∧ w' = w := by
  go_enter Try.func44, Try.ntmps44
  go_wp2_with (go_at_call 30; refine (l1In_any _ _ _ _ _ hv).mono ?_; rintro e w' ⟨rfl, rfl⟩)
  go_ret
  exact ⟨rfl, rfl⟩
set_option maxHeartbeats 400000 in
set_option maxRecDepth 100000 in
theorem specOk (a b : Int) (w : World) (v : Bool) (hv : okB a b = v) :
    Calls Try.prog 40 #[.agg #[.int .i64 a, .int .i64 b]] w fun e w' => e = .returned (.bool v) ∧ Below w.heap.size w w' := by
  cases hA : inB a 0 4294967295
  · have hr : Hid (false = v) := by show _ = v; simp [inB] at hA; rw [← hv]; simp [okB]; omega
    have hA1 := hid_in hA
    clear hA hv
    go_enter Try.func40, Try.ntmps40
    go_wp2_with fail
    refine wp_region_lat (Below.refl _ _) (by kernel_rfl) (by kernel_rfl) ?_
    intro hne hcl
    repeat (go_big_quiet_step (first | (go_at_call 44; exact lat_same (l1Addr_any _ _ _ hA1.out))))
    refine wpQuiet_nil ?_
    intro w1 hb1
    obtain ⟨hc1, hf1⟩ := bcell hb1
    clear hne hcl
    go_wp2
    go_ret
    exact ⟨ret_bool hr.out, below_under hb1⟩
  · cases hB : inB b 0 32
    · have hr : Hid (false = v) := by show _ = v; simp [inB] at hB; rw [← hv]; simp [okB]; omega
      have hA1 := hid_in hA
      have hB1 := hid_in hB
      clear hA hv hB
      go_enter Try.func40, Try.ntmps40
      go_wp2_with fail
      refine wp_region_lat (Below.refl _ _) (by kernel_rfl) (by kernel_rfl) ?_
      intro hne hcl
      repeat (go_big_quiet_step (first | (go_at_call 44; exact lat_same (l1Addr_any _ _ _ hA1.out)) | (go_at_call 30; exact lat_same (l1In_any _ _ _ _ _ hB1.out))))
      refine wpQuiet_nil ?_
      intro w1 hb1
      obtain ⟨hc1, hf1⟩ := bcell hb1
      clear hne hcl
      go_wp2
      go_ret
      exact ⟨ret_bool hr.out, below_under hb1⟩
    · have hA' : 0 ≤ a ∧ a ≤ 4294967295 := by simpa [inB] using hA
      have hB' : 0 ≤ b ∧ b ≤ 32 := by simpa [inB] using hB
      obtain ⟨ha0, ha1⟩ := hA'
      obtain ⟨hb0, hb1⟩ := hB'
      have hA1 := hid_in hA
      have hB1 := hid_in hB
      have hp := pw_pos (32 - b)
      have hr : Hid ((a % pw (32 - b) == 0) = v) := by show _ = v; rw [← hv]; simp [okB, ha0, ha1, hb0, hb1]; rfl
      clear hv hA hB
      go_enter Try.func40, Try.ntmps40
      go_wp2_with fail
      refine wp_region_lat (Below.refl _ _) (by kernel_rfl) (by kernel_rfl) ?_
      intro hne hcl
      repeat (go_big_quiet_step (first | (go_at_call 44; exact lat_same (l1Addr_any _ _ _ hA1.out)) | (go_at_call 30; exact lat_same (l1In_any _ _ _ _ _ hB1.out)) | (go_at_call 38; exact lat_same (l1Size_any _ _ hb0 hb1))))
      refine wpQuiet_nil ?_
      intro w1 hb1
      obtain ⟨hc1, hf1⟩ := bcell hb1
      clear hne hcl
      go_wp2
      go_ret
      exact ⟨ret_bool hr.out, below_under hb1⟩
set_option maxHeartbeats 400000 in
set_option maxRecDepth 100000 in
theorem l1Over_any (a b : Int) (w : World) (ha0 : 0 ≤ a) (ha1 : a ≤ 4294967295) (hb0 : 0 ≤ b) (hb1 : b ≤ 32) :
    Calls Try.prog 26 #[.int .i64 a, .int .i64 b] w fun e w' => e = .returned (.agg #[.int .i64 (a / pw (32 - b) * pw (32 - b)), .int .i64 b]) ∧ Below w.heap.size w w' := by
  have hp := pw_pos (32 - b)
  have hp2 := pw_le (n := 32 - b) (by omega) (by omega)
  have hm := floor_le a (pw (32 - b)) hp
  have hm0 := floor_nonneg a (pw (32 - b)) ha0 hp
  go_enter Try.func26, Try.ntmps26
  go_wp2_with fail
  refine wp_region_lat_tail (Below.refl _ _) (by kernel_rfl) (by dsimp only [List.dropLast]) (by exact rfl) (by kernel_rfl) ?_
  intro hne hcl
  repeat (go_big_quiet_step (first | (go_at_call 38; exact lat_same (l1Size_any _ _ (by omega) (by omega)))))
  refine wpQuiet_nil ?_
  intro w1 hb1
  obtain ⟨hc1, hf1⟩ := bcell hb1
  clear hne hcl
  go_wp2
  exact bodyPost_ret (v := .agg #[.int .i64 (a / pw (32 - b) * pw (32 - b)), .int .i64 b]) (by simp [results, Try.results26, go_sem, hc1]) rfl
    ⟨rfl, ((below_later (below_box _ _) hb1).setCell (by simp) _).setCell (by simp) _⟩
set_option maxHeartbeats 400000 in
set_option maxRecDepth 100000 in
theorem slast (a b : Int) (w : World) (ha0 : 0 ≤ a) (ha1 : a ≤ 4294967295) (hb0 : 0 ≤ b) (hb1 : b ≤ 32) :
    Calls Try.prog 45 #[.agg #[.int .i64 a, .int .i64 b]] w fun e w' => e = .returned (.int .i64 (a + pw (32 - b) - 1)) ∧ Below w.heap.size w w' := by
  have hp := pw_pos (32 - b)
  have hp2 := pw_le (n := 32 - b) (by omega) (by omega)
  go_enter Try.func45, Try.ntmps45
  go_wp2_with fail
  refine wp_region_lat (Below.refl _ _) (by kernel_rfl) (by kernel_rfl) ?_
  intro hne hcl
  repeat (go_big_quiet_step (first | (go_at_call 38; exact lat_same (l1Size_any _ _ (by omega) (by omega)))))
  refine wpQuiet_nil ?_
  intro w1 hb1
  obtain ⟨hc1, hf1⟩ := bcell hb1
  clear hne hcl
  go_wp2
  go_ret
  exact ⟨rfl, below_under hb1⟩
end Go.Proofs.Ytdljoopioglkiaa
