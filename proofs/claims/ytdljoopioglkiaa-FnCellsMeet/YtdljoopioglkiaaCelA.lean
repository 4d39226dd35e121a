/- What the functions of cells answer, in the program and in the specification, as contracts: the answer, and that nothing which was there has turned. The conditions stand at each theorem. -/
import Derived.Test.YtdljoopioglkiaaBlkA
import Derived.Test.YtdljoopioglkiaaLat
import Derived.Test.YtdljoopioglkiaaMath
import Derived.WalkKit
import Derived.WalkSpells
import Derived.WalkLawsBesides
import Derived.BigQuiet
import Derived.Handy
import Derived.Deep.RegionWith
namespace Go.Proofs.Ytdljoopioglkiaa
open Go.RowKit Go.LatT Go.BlockM
set_option linter.unusedVariables false
set_option linter.unusedSimpArgs false
/-- Two spans have a number in common. -/
def overB (a b c d : Int) : Bool := decide (a ≤ b) && decide (c ≤ d) && decide (a ≤ d) && decide (c ≤ b)
set_option maxHeartbeats 400000 in
set_option maxRecDepth 100000 in
theorem l5Over_any (a b c d : Int) (w : World) (v : Bool) (hv : overB a b c d = v) :
    Calls Try.prog 21 #[.int .i64 a, .int .i64 b, .int .i64 c, .int .i64 d] w fun e w' => e = .returned (.bool v) ∧ w' = w := by
  have hv1 := hid_in hv
  clear hv
  by_cases h1 : a ≤ b
  · by_cases h2 : c ≤ d
    · by_cases h3 : a ≤ d
      · go_enter Try.func21, Try.ntmps21
        go_wp2
        go_ret
        exact ⟨ret_bool (by rw [← hv1.out]; simp [overB, h1, h2, h3]), rfl⟩
      · go_enter Try.func21, Try.ntmps21
        go_wp2
        go_ret
        exact ⟨ret_bool (by rw [← hv1.out]; simp [overB]; omega), rfl⟩
    · go_enter Try.func21, Try.ntmps21
      go_wp2
      go_ret
      exact ⟨ret_bool (by rw [← hv1.out]; simp [overB]; omega), rfl⟩
  · go_enter Try.func21, Try.ntmps21
    go_wp2
    go_ret
    exact ⟨ret_bool (by rw [← hv1.out]; simp [overB]; omega), rfl⟩
set_option maxHeartbeats 400000 in
set_option maxRecDepth 100000 in
theorem rmeets_any (a b c d : Int) (w : World) (v : Bool) (hv : overB a b c d = v) :
    Calls Try.prog 31 #[.agg #[.int .i64 a, .int .i64 b], .agg #[.int .i64 c, .int .i64 d]] w fun e w' => e = .returned (.bool v) ∧ Below w.heap.size w w' := by
  have hv1 := hid_in hv
  clear hv
  go_enter Try.func31, Try.ntmps31
  go_wp2
  all_goals
    go_ret
    exact ⟨ret_bool (by rw [← hv1.out]; simp only [overB]; rw [Bool.eq_iff_iff]; simp; omega), below_later (below_box _ _) (below_box _ _)⟩
set_option maxHeartbeats 400000 in
set_option maxRecDepth 100000 in
theorem rhas_any (a b x : Int) (w : World) (v : Bool) (hv : inB x a b = v) :
    Calls Try.prog 29 #[.agg #[.int .i64 a, .int .i64 b], .int .i64 x] w fun e w' => e = .returned (.bool v) ∧ Below w.heap.size w w' := by
  have hv1 := hid_in hv
  clear hv
  by_cases h1 : a ≤ x
  · go_enter Try.func29, Try.ntmps29
    go_wp2
    go_ret
    exact ⟨ret_bool (by rw [← hv1.out]; simp [inB, h1]), below_box _ _⟩
  · go_enter Try.func29, Try.ntmps29
    go_wp2
    go_ret
    exact ⟨ret_bool (by rw [← hv1.out]; simp [inB]; omega), below_box _ _⟩
/-- The value of a cell, of a room, of a call. -/
def vCell (a b c d l h r : Int) : Value := .agg #[.int .i64 a, .int .i64 b, .int .i64 c, .int .i64 d, .int .i64 l, .int .i64 h, .int .i64 r]
def vRoom (a b c d l h : Int) : Value := .agg #[.int .i64 a, .int .i64 b, .int .i64 c, .int .i64 d, .int .i64 l, .int .i64 h]
def vCall (a b c : Int) : Value := .agg #[.int .i64 a, .int .i64 b, .int .i64 c]
set_option maxHeartbeats 400000 in
set_option maxRecDepth 100000 in
theorem cellRoom_any (a b c d l h r : Int) (w : World) :
    Calls Try.prog 16 #[.agg #[.int .i64 a, .int .i64 b, .int .i64 c, .int .i64 d, .int .i64 l, .int .i64 h, .int .i64 r]] w fun e w' => e = .returned (vRoom a b c d l h) ∧ Below w.heap.size w w' := by
  go_enter Try.func16, Try.ntmps16
  go_wp2
  go_returns
  exact ⟨rfl, by go_grown⟩
set_option maxHeartbeats 400000 in
set_option maxRecDepth 100000 in
theorem roomHas_any (a b c d l h x y z : Int) (w : World) (v : Bool) (hv : (inB x a b && inB y c d && inB z l h) = v) :
    Calls Try.prog 17 #[vRoom a b c d l h, vCall x y z] w fun e w' => e = .returned (.bool v) ∧ Below w.heap.size w w' := by
  have hv1 := hid_in hv
  clear hv
  unfold vRoom vCall
  cases h1 : inB x a b
  · have h2 := hid_in h1
    clear h1
    go_enter Try.func17, Try.ntmps17
    go_wp2_with fail
    refine (rhas_any a b x _ _ h2.out).mono ?_
    rintro e w1 ⟨rfl, hb1⟩
    obtain ⟨hc1, hf1⟩ := bcell hb1
    go_wp2_with fail
    go_ret
    exact ⟨ret_bool (by rw [← hv1.out]; simp [h2.out]), below_under (below_under hb1)⟩
  · have h2 := hid_in h1
    clear h1
    cases k1 : inB y c d
    · have k2 := hid_in k1
      clear k1
      go_enter Try.func17, Try.ntmps17
      go_wp2_with fail
      refine (rhas_any a b x _ _ h2.out).mono ?_
      rintro e w1 ⟨rfl, hb1⟩
      obtain ⟨hc1, hf1⟩ := bcell hb1
      go_wp2_with fail
      refine (rhas_any c d y _ _ k2.out).mono ?_
      rintro e w2 ⟨rfl, hq2⟩
      have hb2 := below_later hb1 hq2
      clear hq2 hc1 hf1
      obtain ⟨hc2, hf2⟩ := bcell hb2
      go_wp2_with fail
      go_ret
      exact ⟨ret_bool (by rw [← hv1.out]; simp [h2.out, k2.out]), below_under (below_under hb2)⟩
    · have k2 := hid_in k1
      clear k1
      have h3 : Hid (inB z l h = v) := by show _ = v; rw [← hv1.out]; simp [h2.out, k2.out]
      go_enter Try.func17, Try.ntmps17
      go_wp2_with fail
      refine (rhas_any a b x _ _ h2.out).mono ?_
      rintro e w1 ⟨rfl, hb1⟩
      obtain ⟨hc1, hf1⟩ := bcell hb1
      go_wp2_with fail
      refine (rhas_any c d y _ _ k2.out).mono ?_
      rintro e w2 ⟨rfl, hq2⟩
      have hb2 := below_later hb1 hq2
      clear hq2 hc1 hf1
      obtain ⟨hc2, hf2⟩ := bcell hb2
      go_wp2_with fail
      refine (rhas_any l h z _ _ h3.out).mono ?_
      rintro e w3 ⟨rfl, hq3⟩
      have hb3 := below_later hb2 hq3
      clear hq3 hc2 hf2
      obtain ⟨hc3, hf3⟩ := bcell hb3
      go_wp2_with fail
      go_ret
      exact ⟨rfl, below_under (below_under hb3)⟩
set_option maxHeartbeats 400000 in
set_option maxRecDepth 100000 in
theorem roomMeets_any (a b c d l h a' b' c' d' l' h' : Int) (w : World) (v : Bool) (hv : (overB a b a' b' && overB c d c' d' && overB l h l' h') = v) :
    Calls Try.prog 19 #[vRoom a b c d l h, vRoom a' b' c' d' l' h'] w fun e w' => e = .returned (.bool v) ∧ Below w.heap.size w w' := by
  have hv1 := hid_in hv
  clear hv
  unfold vRoom
  cases h1 : overB a b a' b'
  · have h2 := hid_in h1
    clear h1
    go_enter Try.func19, Try.ntmps19
    go_wp2_with fail
    refine wp_loop_rounds 4 ?_
    rw [rounds_succ]
    go_wp2_with fail
    refine wp_region_lat (Below.refl _ _) (by kernel_rfl) (by kernel_rfl) ?_
    intro hne hcl
    repeat (go_big_quiet_step (first | (go_at_call 31; exact lat_of (rmeets_any a b a' b' _ _ h2.out))))
    refine wpQuiet_nil ?_
    intro w1 hb1
    obtain ⟨hc1, hf1⟩ := bcell hb1
    clear hne hcl
    go_wp2_with fail
    go_ret
    exact ⟨ret_bool (by rw [← hv1.out]; simp [h2.out]), below_under (below_under hb1)⟩
  · have h2 := hid_in h1
    clear h1
    cases k1 : overB c d c' d'
    · have k2 := hid_in k1
      clear k1
      go_enter Try.func19, Try.ntmps19
      go_wp2_with fail
      refine wp_loop_rounds 4 ?_
      rw [rounds_succ]
      go_wp2_with fail
      refine wp_region_lat (Below.refl _ _) (by kernel_rfl) (by kernel_rfl) ?_
      intro hne hcl
      repeat (go_big_quiet_step (first | (go_at_call 31; exact lat_of (rmeets_any a b a' b' _ _ h2.out))))
      refine wpQuiet_nil ?_
      intro w1 hb1
      obtain ⟨hc1, hf1⟩ := bcell hb1
      clear hne hcl
      go_wp2_with fail
      rw [rounds_succ]
      go_wp2_with fail
      clear hc1 hf1
      refine wp_region_lat hb1 (by kernel_rfl) (by kernel_rfl) ?_
      intro hne hcl
      repeat (go_big_quiet_step (first | (go_at_call 31; exact lat_of (rmeets_any c d c' d' _ _ k2.out))))
      refine wpQuiet_nil ?_
      intro w2 hb2
      obtain ⟨hc2, hf2⟩ := bcell hb2
      clear hne hcl
      go_wp2_with fail
      go_ret
      exact ⟨ret_bool (by rw [← hv1.out]; simp [h2.out, k2.out]), below_under (below_under hb2)⟩
    · have k2 := hid_in k1
      clear k1
      have h3 : Hid (overB l h l' h' = v) := by show _ = v; rw [← hv1.out]; simp [h2.out, k2.out]
      cases v
      · go_enter Try.func19, Try.ntmps19
        go_wp2_with fail
        refine wp_loop_rounds 4 ?_
        rw [rounds_succ]
        go_wp2_with fail
        refine wp_region_lat (Below.refl _ _) (by kernel_rfl) (by kernel_rfl) ?_
        intro hne hcl
        repeat (go_big_quiet_step (first | (go_at_call 31; exact lat_of (rmeets_any a b a' b' _ _ h2.out))))
        refine wpQuiet_nil ?_
        intro w1 hb1
        obtain ⟨hc1, hf1⟩ := bcell hb1
        clear hne hcl
        go_wp2_with fail
        rw [rounds_succ]
        go_wp2_with fail
        clear hc1 hf1
        refine wp_region_lat hb1 (by kernel_rfl) (by kernel_rfl) ?_
        intro hne hcl
        repeat (go_big_quiet_step (first | (go_at_call 31; exact lat_of (rmeets_any c d c' d' _ _ k2.out))))
        refine wpQuiet_nil ?_
        intro w2 hb2
        obtain ⟨hc2, hf2⟩ := bcell hb2
        clear hne hcl
        go_wp2_with fail
        rw [rounds_succ]
        go_wp2_with fail
        clear hc2 hf2
        refine wp_region_lat hb2 (by kernel_rfl) (by kernel_rfl) ?_
        intro hne hcl
        repeat (go_big_quiet_step (first | (go_at_call 31; exact lat_of (rmeets_any l h l' h' _ _ h3.out))))
        refine wpQuiet_nil ?_
        intro w3 hb3
        obtain ⟨hc3, hf3⟩ := bcell hb3
        clear hne hcl
        go_wp2_with fail
        go_ret
        exact ⟨rfl, below_under (below_under hb3)⟩
      · go_enter Try.func19, Try.ntmps19
        go_wp2_with fail
        refine wp_loop_rounds 4 ?_
        rw [rounds_succ]
        go_wp2_with fail
        refine wp_region_lat (Below.refl _ _) (by kernel_rfl) (by kernel_rfl) ?_
        intro hne hcl
        repeat (go_big_quiet_step (first | (go_at_call 31; exact lat_of (rmeets_any a b a' b' _ _ h2.out))))
        refine wpQuiet_nil ?_
        intro w1 hb1
        obtain ⟨hc1, hf1⟩ := bcell hb1
        clear hne hcl
        go_wp2_with fail
        rw [rounds_succ]
        go_wp2_with fail
        clear hc1 hf1
        refine wp_region_lat hb1 (by kernel_rfl) (by kernel_rfl) ?_
        intro hne hcl
        repeat (go_big_quiet_step (first | (go_at_call 31; exact lat_of (rmeets_any c d c' d' _ _ k2.out))))
        refine wpQuiet_nil ?_
        intro w2 hb2
        obtain ⟨hc2, hf2⟩ := bcell hb2
        clear hne hcl
        go_wp2_with fail
        rw [rounds_succ]
        go_wp2_with fail
        clear hc2 hf2
        refine wp_region_lat hb2 (by kernel_rfl) (by kernel_rfl) ?_
        intro hne hcl
        repeat (go_big_quiet_step (first | (go_at_call 31; exact lat_of (rmeets_any l h l' h' _ _ h3.out))))
        refine wpQuiet_nil ?_
        intro w3 hb3
        obtain ⟨hc3, hf3⟩ := bcell hb3
        clear hne hcl
        go_wp2_with fail
        rw [rounds_succ]
        go_wp2_with fail
        go_ret
        exact ⟨rfl, below_under (below_under hb3)⟩
/-- Two cells have a call in common. -/
def cellsB (a b c d l h a' b' c' d' l' h' : Int) : Bool := overB a b a' b' && overB c d c' d' && overB l h l' h'
set_option maxHeartbeats 400000 in
set_option maxRecDepth 100000 in
theorem cellsMeetI (a b c d l h r a' b' c' d' l' h' r' : Int) (w : World) (v : Bool) (hv : cellsB a b c d l h a' b' c' d' l' h' = v) :
    Calls Try.prog 8 #[vCell a b c d l h r, vCell a' b' c' d' l' h' r'] w fun e w' => e = .returned (.bool v) ∧ Below w.heap.size w w' := by
  have hv1 := hid_in hv
  clear hv
  unfold vCell
  go_enter Try.func8, Try.ntmps8
  go_wp2_with fail
  refine wp_region_lat (Below.refl _ _) (by kernel_rfl) (by kernel_rfl) ?_
  intro hne hcl
  repeat (go_big_quiet_step (first | (go_at_call 16; exact lat_of (cellRoom_any _ _ _ _ _ _ _ _)) | (go_at_call 19; exact lat_of (roomMeets_any a b c d l h a' b' c' d' l' h' _ _ hv1.out))))
  refine wpQuiet_nil ?_
  intro w1 hb1
  obtain ⟨hc1, hf1⟩ := bcell hb1
  clear hne hcl
  go_wp2_with fail
  go_ret
  exact ⟨rfl, below_under (below_under hb1)⟩
set_option maxHeartbeats 400000 in
set_option maxRecDepth 100000 in
theorem cellsMeetS (a b c d l h r a' b' c' d' l' h' r' : Int) (w : World) (v : Bool) (hv : cellsB a b c d l h a' b' c' d' l' h' = v) :
    Calls Try.prog 10 #[vCell a b c d l h r, vCell a' b' c' d' l' h' r'] w fun e w' => e = .returned (.bool v) ∧ Below w.heap.size w w' := by
  have hv1 := hid_in hv
  clear hv
  unfold vCell
  cases h1 : overB a b a' b'
  · have h2 := hid_in h1
    clear h1
    go_enter Try.func10, Try.ntmps10
    go_wp2_with fail
    refine (l5Over_any a b a' b' _ _ h2.out).mono ?_
    rintro e w' ⟨rfl, rfl⟩
    go_wp2_with fail
    go_ret
    exact ⟨ret_bool (by rw [← hv1.out]; simp [cellsB, h2.out]), by go_grown⟩
  · have h2 := hid_in h1
    clear h1
    cases k1 : overB c d c' d'
    · have k2 := hid_in k1
      clear k1
      go_enter Try.func10, Try.ntmps10
      go_wp2_with fail
      refine (l5Over_any a b a' b' _ _ h2.out).mono ?_
      rintro e w' ⟨rfl, rfl⟩
      go_wp2_with fail
      refine (l5Over_any c d c' d' _ _ k2.out).mono ?_
      rintro e w' ⟨rfl, rfl⟩
      go_wp2_with fail
      go_ret
      exact ⟨ret_bool (by rw [← hv1.out]; simp [cellsB, h2.out, k2.out]), by go_grown⟩
    · have k2 := hid_in k1
      clear k1
      have h3 : Hid (overB l h l' h' = v) := by show _ = v; rw [← hv1.out]; simp [cellsB, h2.out, k2.out]
      go_enter Try.func10, Try.ntmps10
      go_wp2_with fail
      refine (l5Over_any a b a' b' _ _ h2.out).mono ?_
      rintro e w' ⟨rfl, rfl⟩
      go_wp2_with fail
      refine (l5Over_any c d c' d' _ _ k2.out).mono ?_
      rintro e w' ⟨rfl, rfl⟩
      go_wp2_with fail
      refine (l5Over_any l h l' h' _ _ h3.out).mono ?_
      rintro e w' ⟨rfl, rfl⟩
      go_wp2_with fail
      go_ret
      exact ⟨rfl, by go_grown⟩
set_option maxHeartbeats 400000 in
set_option maxRecDepth 100000 in
theorem l5Has_any (a b c d l h r x y z : Int) (w : World) (v : Bool) (hv : (inB x a b && inB y c d && inB z l h) = v) :
    Calls Try.prog 18 #[vCell a b c d l h r, vCall x y z] w fun e w' => e = .returned (.bool v) ∧ Below w.heap.size w w' := by
  have hv1 := hid_in hv
  clear hv
  unfold vCell vCall
  cases h1 : inB x a b
  · have h2 := hid_in h1
    clear h1
    go_enter Try.func18, Try.ntmps18
    go_wp2_with (first | (go_at_call 30; refine (l1In_any _ _ _ _ _ h2.out).mono ?_; rintro e w' ⟨rfl, rfl⟩))
    go_ret
    exact ⟨ret_bool (by rw [← hv1.out]; simp [h2.out]), by go_grown⟩
  · have h2 := hid_in h1
    clear h1
    cases k1 : inB y c d
    · have k2 := hid_in k1
      clear k1
      go_enter Try.func18, Try.ntmps18
      go_wp2_with fail
      refine (l1In_any x a b _ _ h2.out).mono ?_
      rintro e w' ⟨rfl, rfl⟩
      go_wp2_with fail
      refine (l1In_any y c d _ _ k2.out).mono ?_
      rintro e w' ⟨rfl, rfl⟩
      go_wp2_with fail
      go_ret
      exact ⟨ret_bool (by rw [← hv1.out]; simp [h2.out, k2.out]), by go_grown⟩
    · have k2 := hid_in k1
      clear k1
      have h3 : Hid (inB z l h = v) := by show _ = v; rw [← hv1.out]; simp [h2.out, k2.out]
      go_enter Try.func18, Try.ntmps18
      go_wp2_with fail
      refine (l1In_any x a b _ _ h2.out).mono ?_
      rintro e w' ⟨rfl, rfl⟩
      go_wp2_with fail
      refine (l1In_any y c d _ _ k2.out).mono ?_
      rintro e w' ⟨rfl, rfl⟩
      go_wp2_with fail
      refine (l1In_any z l h _ _ h3.out).mono ?_
      rintro e w' ⟨rfl, rfl⟩
      go_wp2_with fail
      go_ret
      exact ⟨rfl, by go_grown⟩
end Go.Proofs.Ytdljoopioglkiaa
