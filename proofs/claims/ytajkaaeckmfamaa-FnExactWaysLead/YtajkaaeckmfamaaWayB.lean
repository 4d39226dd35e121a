/- Whether ways are ok: in the program and in the specification; and the exact law. The conditions stand at each theorem. -/
import Derived.Test.YtajkaaeckmfamaaTabW
import Derived.Test.YtajkaaeckmfamaaWayA
import Derived.Test.YtajkaaeckmfamaaFst
import Derived.Deep.RegionHeld3
namespace Go.Proofs.Ytajkaaeckmfamaa
open Go.RowKit Go.LatT Go.BlockM Go.OpnT
set_option linter.unusedVariables false
set_option linter.unusedSimpArgs false
/-- The way at a place is not ok there. -/
def wbad (E : Nat → Nat → Int) : Nat → Bool
  | 0 => !wokB (E 0 0) (E 0 1) (E 0 2)
  | k + 1 => !wokB (E (k + 1) 0) (E (k + 1) 1) (E (k + 1) 2) || !aheadB (E k 0) (E k 1) (E (k + 1) 0) (E (k + 1) 1)
theorem wok_ok {E : Nat → Nat → Int} {k : Nat} (h : wbad E k = false) : 0 ≤ E k 0 ∧ E k 0 ≤ 4294967295 ∧ 0 ≤ E k 1 ∧ E k 1 ≤ 32 := by
  have h1 : wokB (E k 0) (E k 1) (E k 2) = true := by cases k <;> simp [wbad] at h <;> simp [h]
  simp only [wokB, Bool.and_eq_true] at h1
  obtain ⟨a, b, c, d, _⟩ := ok_of h1.1
  exact ⟨a, b, c, d⟩
set_option maxHeartbeats 2000000 in
set_option maxRecDepth 100000 in
theorem waysOkS_some (bb off len cap : Nat) (E : Nat → Nat → Int) (w : World) (hlt : bb < w.heap.size) (hc : ∀ i, i < len → ∀ j, j < 3 → w.cell? ⟨bb, off + i * 3 + j, none⟩ = some (.int .i64 (E i j))) (hl : len ≤ 1048576) :
    Calls Try.prog 11 #[.slice (some ⟨bb, off, none⟩) len cap] w fun e w' => ∃ v, e = .returned (.bool v) ∧ AllOk (wbad E) len 40 v ∧ Below w.heap.size w w' := by
  have HC := hid_in hc
  clear hc
  go_enter Try.func11, Try.ntmps11
  go_wp2_with fail
  go_loopw [3] (fun v wr => ∃ k : Nat, k ≤ len ∧ v = .int .i64 (k : Int) ∧ Hid (Below w.heap.size w wr ∧ ∀ i, i < k → wbad E i = false)) (fun v _ => len - (intOf v).toNat)
  case atStart => exact ⟨0, Nat.zero_le _, rfl, by show _ ∧ _; exact ⟨Below.refl _ _, fun i hi => by omega⟩⟩
  case round =>
    obtain ⟨k, hk, rfl, HW⟩ := hrel
    by_cases hlt' : k < len
    · have hd : (k : Int) < (len : Int) := by omega
      have hg := fun i (hi : i < len) j hj => ((bcell HW.out.1).1 bb (off + i * 3 + j) hlt).trans (HC.out i hi j hj)
      have HG := hid_in hg
      have g0 : wr.cell? ⟨bb, off + k * 3, none⟩ = _ := hg k hlt' 0 (by omega)
      have g1 := hg k hlt' 1 (by omega); have g2 := hg k hlt' 2 (by omega)
      have hm1 : bb < wr.heap.size := Nat.lt_of_lt_of_le hlt HW.out.1.size
      clear hg
      have endBad : Hid (wbad E k = true → AllOk (wbad E) len 40 false) := by show _ → _; exact fun h => AllOk.no hlt' h
      cases hA : okB (E k 0) (E k 1)
      · have A := hid_in hA
        clear hA
        go_wp2_with fail
        refine wp_region_lat (Below.refl _ _) (by kernel_rfl) (by kernel_rfl) ?_
        intro hne hcl
        repeat (go_big_quiet_step (first | (go_at_call 25; exact lat_of (specOk _ _ _ _ A.out))))
        refine wpQuiet_nil ?_
        intro w1 hb1
        obtain ⟨hc1, hf1⟩ := bcell hb1
        clear hne hcl
        go_wp2_with fail
        go_ret
        exact ⟨_, rfl, endBad.out (by cases k <;> simp [wbad, wokB, A.out]), below_later HW.out.1 hb1⟩
      · have A := hid_in hA
        obtain ⟨a0, a1, b0, b1, _⟩ := ok_of hA
        clear hA
        cases hB : inB (E k 2) 0 99
        · have B := hid_in hB
          clear hB a0 a1 b0 b1
          go_wp2_with fail
          refine wp_region_lat (Below.refl _ _) (by kernel_rfl) (by kernel_rfl) ?_
          intro hne hcl
          repeat (go_big_quiet_step (first | (go_at_call 25; exact lat_of (specOk _ _ _ _ A.out)) | (go_at_call 26; exact lat_same (l1In_any _ _ _ _ _ B.out))))
          refine wpQuiet_nil ?_
          intro w1 hb1
          obtain ⟨hc1, hf1⟩ := bcell hb1
          clear hne hcl
          go_wp2_with fail
          go_ret
          exact ⟨_, rfl, endBad.out (by cases k <;> simp [wbad, wokB, A.out, B.out]), below_later HW.out.1 hb1⟩
        · have B := hid_in hB
          clear hB
          cases k with
          | zero =>
            clear a0 a1 b0 b1
            simp only [Nat.zero_mul, Nat.add_zero] at g0 g1 g2
            go_wp2_with fail
            refine wp_region_lat (Below.refl _ _) (by kernel_rfl) (by kernel_rfl) ?_
            intro hne hcl
            repeat (go_big_quiet_step (first | (go_at_call 25; exact lat_of (specOk _ _ _ _ A.out)) | (go_at_call 26; exact lat_same (l1In_any _ _ _ _ _ B.out))))
            refine wpQuiet_nil ?_
            intro w1 hb1
            obtain ⟨hc1, hf1⟩ := bcell hb1
            clear hne hcl
            go_wp2_with fail
            refine ⟨⟨1, by omega, by simp, ?_⟩, by simp [intOf]; omega⟩
            show _ ∧ _
            refine ⟨below_later HW.out.1 hb1, fun i hi => ?_⟩
            obtain rfl : i = 0 := by omega
            simp [wbad, wokB, A.out, B.out]
          | succ m =>
            obtain ⟨p0, p1, p2, p3⟩ := wok_ok (HW.out.2 m (by omega))
            have h0 : wr.cell? ⟨bb, off + m * 3, none⟩ = _ := HG.out m (by omega) 0 (by omega)
            have h1 := HG.out m (by omega) 1 (by omega)
            obtain ⟨n, hn⟩ : ∃ n, cmpV (E m 0) (E m 1) (E (m + 1) 0) (E (m + 1) 1) = n := ⟨_, rfl⟩
            have hn2 := cmp_ahead (a := E m 0) (b := E m 1) (c := E (m + 1) 0) (d := E (m + 1) 1)
            rw [hn] at hn2
            have N := hid_in hn
            clear hn
            have hpos : decide ((0 : Int) < (m : Int) + 1) = true := by simp; try omega
            have hpos2 : (m : Int) < len := by omega
            cases hC : aheadB (E m 0) (E m 1) (E (m + 1) 0) (E (m + 1) 1)
            · have C := hid_in hC
              rw [hC] at hn2
              clear hC
              have hn3 : 0 ≤ n := by simpa using hn2
              clear hn2
              go_wp2_with fail
              refine wp_region_lat (Below.refl _ _) (by kernel_rfl) (by kernel_rfl) ?_
              intro hne hcl
              repeat (go_big_quiet_step (first | (go_at_call 25; exact lat_of (specOk _ _ _ _ A.out)) | (go_at_call 26; exact lat_same (l1In_any _ _ _ _ _ B.out)) | (go_at_call 27; exact lat_of (l3Cmp_any _ _ _ _ _ ⟨p0, p1⟩ ⟨p2, p3⟩ ⟨a0, a1⟩ ⟨b0, b1⟩ n N.out))))
              refine wpQuiet_nil ?_
              intro w1 hb1
              obtain ⟨hc1, hf1⟩ := bcell hb1
              clear hne hcl
              go_wp2_with fail
              go_ret
              exact ⟨_, rfl, endBad.out (by simp [wbad, C.out]), below_later HW.out.1 hb1⟩
            · have C := hid_in hC
              rw [hC] at hn2
              clear hC
              have hn3 : n < 0 := by simpa using hn2
              clear hn2
              go_wp2_with fail
              refine wp_region_lat (Below.refl _ _) (by kernel_rfl) (by kernel_rfl) ?_
              intro hne hcl
              repeat (go_big_quiet_step (first | (go_at_call 25; exact lat_of (specOk _ _ _ _ A.out)) | (go_at_call 26; exact lat_same (l1In_any _ _ _ _ _ B.out)) | (go_at_call 27; exact lat_of (l3Cmp_any _ _ _ _ _ ⟨p0, p1⟩ ⟨p2, p3⟩ ⟨a0, a1⟩ ⟨b0, b1⟩ n N.out))))
              refine wpQuiet_nil ?_
              intro w1 hb1
              obtain ⟨hc1, hf1⟩ := bcell hb1
              clear hne hcl
              go_wp2_with fail
              refine ⟨⟨m + 2, by omega, by simp; omega, ?_⟩, by simp [intOf]; omega⟩
              show _ ∧ _
              refine ⟨below_later HW.out.1 hb1, fun i hi => ?_⟩
              by_cases hik : i < m + 1
              · exact HW.out.2 i hik
              · obtain rfl : i = m + 1 := by omega
                simp [wbad, wokB, A.out, B.out, C.out]
    · have hd : decide ((k : Int) < (len : Int)) = false := by simp; omega
      have e : k = len := by omega
      have HE := hid_in e
      clear e
      go_wp2_with fail
      go_ret
      refine ⟨_, rfl, ?_, HW.out.1⟩
      have := AllOk.yes (m := 40) (fun i hi => HW.out.2 i (by rw [HE.out]; exact hi))
      rw [show decide ((len : Int) ≤ 40) = decide (len ≤ 40) by rw [Bool.eq_iff_iff]; simp; omega]
      exact this
set_option maxHeartbeats 2000000 in
set_option maxRecDepth 100000 in
theorem waysOkI_some (bb off len cap : Nat) (E : Nat → Nat → Int) (w : World) (hlt : bb < w.heap.size) (hc : ∀ i, i < len → ∀ j, j < 3 → w.cell? ⟨bb, off + i * 3 + j, none⟩ = some (.int .i64 (E i j))) (hl : len ≤ 1048576) :
    Calls Try.prog 16 #[.slice (some ⟨bb, off, none⟩) len cap] w fun e w' => ∃ v, e = .returned (.bool v) ∧ AllOk (wbad E) len 40 v ∧ Below w.heap.size w w' := by
  have HC := hid_in hc
  clear hc
  go_enter Try.func16, Try.ntmps16
  go_wp2_with fail
  go_loopw [7] (fun v wr => ∃ k : Nat, k ≤ len ∧ v = .int .i64 (k : Int) ∧ Hid (Below w.heap.size w wr ∧ ∀ i, i < k → wbad E i = false)) (fun v _ => len - (intOf v).toNat)
  case atStart => exact ⟨0, Nat.zero_le _, rfl, by show _ ∧ _; exact ⟨Below.refl _ _, fun i hi => by omega⟩⟩
  case round =>
    obtain ⟨k, hk, rfl, HW⟩ := hrel
    by_cases hlt' : k < len
    · have hd : (k : Int) < (len : Int) := by omega
      have hg := fun i (hi : i < len) j hj => ((bcell HW.out.1).1 bb (off + i * 3 + j) hlt).trans (HC.out i hi j hj)
      have HG := hid_in hg
      have g0 : wr.cell? ⟨bb, off + k * 3, none⟩ = _ := hg k hlt' 0 (by omega)
      have g1 := hg k hlt' 1 (by omega); have g2 := hg k hlt' 2 (by omega)
      have hm1 : bb < wr.heap.size := Nat.lt_of_lt_of_le hlt HW.out.1.size
      have hm2 : ¬ bb = wr.heap.size := by omega
      clear hg
      have endBad : Hid (wbad E k = true → AllOk (wbad E) len 40 false) := by show _ → _; exact fun h => AllOk.no hlt' h
      cases hA : wokB (E k 0) (E k 1) (E k 2)
      · have A := hid_in hA
        clear hA
        go_wp2_with fail
        refine wp_region_lat (Below.refl _ _) (by kernel_rfl) (by kernel_rfl) ?_
        intro hne hcl
        repeat (go_big_quiet_step (first | (go_at_call 33; exact lat_of (wayOk_any _ _ _ _ _ A.out))))
        refine wpQuiet_nil ?_
        intro w1 hb1
        obtain ⟨hc1, hf1⟩ := bcell hb1
        clear hne hcl
        go_wp2_with fail
        go_ret
        exact ⟨_, rfl, endBad.out (by cases k <;> simp [wbad, A.out]), below_later HW.out.1 (below_under hb1)⟩
      · have A := hid_in hA
        clear hA
        cases k with
        | zero =>
          simp only [Nat.zero_mul, Nat.add_zero] at g0 g1 g2
          go_wp2_with fail
          refine wp_region_lat (Below.refl _ _) (by kernel_rfl) (by kernel_rfl) ?_
          intro hne hcl
          repeat (go_big_quiet_step (first | (go_at_call 33; exact lat_of (wayOk_any _ _ _ _ _ A.out))))
          refine wpQuiet_nil ?_
          intro w1 hb1
          obtain ⟨hc1, hf1⟩ := bcell hb1
          clear hne hcl
          go_wp2_with fail
          refine ⟨⟨1, by omega, by simp, ?_⟩, by simp [intOf]; omega⟩
          show _ ∧ _
          refine ⟨below_later HW.out.1 (below_under hb1), fun i hi => ?_⟩
          obtain rfl : i = 0 := by omega
          simp [wbad, A.out]
        | succ m =>
          have h0 : wr.cell? ⟨bb, off + m * 3, none⟩ = _ := HG.out m (by omega) 0 (by omega)
          have h1 := HG.out m (by omega) 1 (by omega)
          have h2 := HG.out m (by omega) 2 (by omega)
          have hpos : decide ((0 : Int) < (m : Int) + 1) = true := by simp; try omega
          have hpos2 : (m : Int) < len := by omega
          cases hC : aheadB (E m 0) (E m 1) (E (m + 1) 0) (E (m + 1) 1)
          · have C := hid_in hC
            clear hC
            go_wp2_with fail
            refine wp_region_lat (Below.refl _ _) (by kernel_rfl) (by kernel_rfl) ?_
            intro hne hcl
            repeat (go_big_quiet_step (first | (go_at_call 33; exact lat_of (wayOk_any _ _ _ _ _ A.out)) | (go_at_call 34; exact lat_of (wayAhead_any _ _ _ _ _ _ _ _ C.out))))
            refine wpQuiet_nil ?_
            intro w1 hb1
            obtain ⟨hc1, hf1⟩ := bcell hb1
            clear hne hcl
            go_wp2_with fail
            go_ret
            exact ⟨_, rfl, endBad.out (by simp [wbad, C.out]), below_later HW.out.1 (below_under hb1)⟩
          · have C := hid_in hC
            clear hC
            go_wp2_with fail
            refine wp_region_lat (Below.refl _ _) (by kernel_rfl) (by kernel_rfl) ?_
            intro hne hcl
            repeat (go_big_quiet_step (first | (go_at_call 33; exact lat_of (wayOk_any _ _ _ _ _ A.out)) | (go_at_call 34; exact lat_of (wayAhead_any _ _ _ _ _ _ _ _ C.out))))
            refine wpQuiet_nil ?_
            intro w1 hb1
            obtain ⟨hc1, hf1⟩ := bcell hb1
            clear hne hcl
            go_wp2_with fail
            refine ⟨⟨m + 2, by omega, by simp; omega, ?_⟩, by simp [intOf]; omega⟩
            show _ ∧ _
            refine ⟨below_later HW.out.1 (below_under hb1), fun i hi => ?_⟩
            by_cases hik : i < m + 1
            · exact HW.out.2 i hik
            · obtain rfl : i = m + 1 := by omega
              simp [wbad, A.out, C.out]
    · have hd : decide ((k : Int) < (len : Int)) = false := by simp; omega
      have e : k = len := by omega
      have HE := hid_in e
      clear e
      go_wp2_with fail
      go_ret
      refine ⟨_, rfl, ?_, HW.out.1⟩
      have := AllOk.yes (m := 40) (fun i hi => HW.out.2 i (by rw [HE.out]; exact hi))
      rw [show decide ((len : Int) ≤ 40) = decide (len ≤ 40) by rw [Bool.eq_iff_iff]; simp; omega]
      exact this
set_option maxHeartbeats 1000000 in
set_option maxRecDepth 100000 in
theorem waysOkS (a : Option Addr) (len cap : Nat) (E : Nat → Nat → Int) (w : World) (hT : Tab w a len 3 E) (hl : len ≤ 1048576) :
    Calls Try.prog 11 #[.slice a len cap] w fun e w' => ∃ v, e = .returned (.bool v) ∧ AllOk (wbad E) len 40 v ∧ Below w.heap.size w w' := by
  rcases hT with rfl | ⟨bb, off, rfl, h1, k1⟩
  · go_enter Try.func11, Try.ntmps11
    go_wp2_with fail
    refine wp_loop_rounds 1 ?_
    rw [rounds_succ]
    go_wp2_with fail
    go_ret
    exact ⟨_, rfl, AllOk.yes (fun i hi => by omega), Below.refl _ _⟩
  · exact waysOkS_some bb off len cap E w h1 k1 hl
set_option maxHeartbeats 1000000 in
set_option maxRecDepth 100000 in
theorem waysOkI (a : Option Addr) (len cap : Nat) (E : Nat → Nat → Int) (w : World) (hT : Tab w a len 3 E) (hl : len ≤ 1048576) :
    Calls Try.prog 16 #[.slice a len cap] w fun e w' => ∃ v, e = .returned (.bool v) ∧ AllOk (wbad E) len 40 v ∧ Below w.heap.size w w' := by
  rcases hT with rfl | ⟨bb, off, rfl, h1, k1⟩
  · go_enter Try.func16, Try.ntmps16
    go_wp2_with fail
    refine wp_loop_rounds 1 ?_
    rw [rounds_succ]
    go_wp2_with fail
    go_ret
    exact ⟨_, rfl, AllOk.yes (fun i hi => by omega), Below.refl _ _⟩
  · exact waysOkI_some bb off len cap E w h1 k1 hl
end Go.Proofs.Ytajkaaeckmfamaa
