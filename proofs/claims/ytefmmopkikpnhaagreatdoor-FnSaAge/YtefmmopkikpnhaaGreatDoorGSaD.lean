/- What is proved: the contracts of SaD, SaE, one behind the other. The conditions stand at each theorem. -/
import Derived.Test.YtefmmopkikpnhaaGreatDoorGSCA
import Derived.Test.YtefmmopkikpnhaaGreatDoorGSCB
import Derived.Test.YtefmmopkikpnhaaGreatDoorGSCC
import Derived.Test.YtefmmopkikpnhaaGreatDoorGSCD
namespace Go.Proofs.YtefmmopkikpnhaaGreatDoor
open Go.RowKit Go.LatT Go.BlockM Go.OpnT Go.WinMath
set_option linter.unusedVariables false
set_option linter.unusedSimpArgs false
theorem boolOf (p : Prop) : ∃ v : Bool, (v = true ↔ p) := by
  by_cases h : p
  · exact ⟨true, by simp [h]⟩
  · exact ⟨false, by simp [h]⟩
theorem kok_any (g : Nat) (x : SaV) (a : Option Addr) (len cap : Nat) (E : Nat → Int) (w : World) (hB : SaBox w g x (.slice a len cap)) (hT : Ints w a len E) (hl : len ≤ 1048576) :
    Calls Tryz.prog 76 #[.pointer (some ⟨g, 0, none⟩)] w fun e w' => ∃ v, e = .returned (.bool v) ∧ (v = true ↔ saB x = true ∧ WOk x.top len E) ∧ Below w.heap.size w w' := by
  obtain ⟨c0, C0⟩ : ∃ c, inB x.spi 1 999 = c := ⟨_, rfl⟩
  obtain ⟨c1, C1⟩ : ∃ c, inB x.tun 0 3 = c := ⟨_, rfl⟩
  obtain ⟨c2, C2⟩ : ∃ c, keysB x.key x.mac = c := ⟨_, rfl⟩
  obtain ⟨c3, C3⟩ : ∃ c, inB x.since 0 1000000 = c := ⟨_, rfl⟩
  obtain ⟨c4, C4⟩ : ∃ c, inB x.soft 1 x.hard = c := ⟨_, rfl⟩
  obtain ⟨c5, C5⟩ : ∃ c, inB x.hard 1 1000000 = c := ⟨_, rfl⟩
  obtain ⟨c6, C6⟩ : ∃ c, inB x.ticks 1 1000000 = c := ⟨_, rfl⟩
  obtain ⟨c7, C7⟩ : ∃ c, inB x.sent 0 x.hard = c := ⟨_, rfl⟩
  have HS : saB x = (c0 && c1 && c2 && c3 && c4 && c5 && c6 && c7) := by rw [← C0, ← C1, ← C2, ← C3, ← C4, ← C5, ← C6, ← C7]; rfl
  rcases path3 c0 c1 c2 with rfl | ⟨rfl, rfl⟩ | ⟨rfl, rfl, rfl⟩ | ⟨rfl, rfl, rfl⟩
  · rcases path4 c3 c4 c5 c6 with rfl | ⟨rfl, rfl⟩ | ⟨rfl, rfl, rfl⟩ | ⟨rfl, rfl, rfl, rfl⟩ | ⟨rfl, rfl, rfl, rfl⟩
    · exact kok_A1 g x a len cap E w hB hT hl c1 c2 c4 c5 c6 c7 C0 C1 C2 C3 C4 C5 C6 C7 HS
    · exact kok_A2 g x a len cap E w hB hT hl c1 c2 c5 c6 c7 C0 C1 C2 C3 C4 C5 C6 C7 HS
    · exact kok_A3 g x a len cap E w hB hT hl c1 c2 c6 c7 C0 C1 C2 C3 C4 C5 C6 C7 HS
    · exact kok_A4 g x a len cap E w hB hT hl c1 c2 c7 C0 C1 C2 C3 C4 C5 C6 C7 HS
    · exact kok_A5 g x a len cap E w hB hT hl c1 c2 c7 C0 C1 C2 C3 C4 C5 C6 C7 HS
  · rcases path4 c3 c4 c5 c6 with rfl | ⟨rfl, rfl⟩ | ⟨rfl, rfl, rfl⟩ | ⟨rfl, rfl, rfl, rfl⟩ | ⟨rfl, rfl, rfl, rfl⟩
    · exact kok_B1 g x a len cap E w hB hT hl c2 c4 c5 c6 c7 C0 C1 C2 C3 C4 C5 C6 C7 HS
    · exact kok_B2 g x a len cap E w hB hT hl c2 c5 c6 c7 C0 C1 C2 C3 C4 C5 C6 C7 HS
    · exact kok_B3 g x a len cap E w hB hT hl c2 c6 c7 C0 C1 C2 C3 C4 C5 C6 C7 HS
    · exact kok_B4 g x a len cap E w hB hT hl c2 c7 C0 C1 C2 C3 C4 C5 C6 C7 HS
    · exact kok_B5 g x a len cap E w hB hT hl c2 c7 C0 C1 C2 C3 C4 C5 C6 C7 HS
  · rcases path4 c3 c4 c5 c6 with rfl | ⟨rfl, rfl⟩ | ⟨rfl, rfl, rfl⟩ | ⟨rfl, rfl, rfl, rfl⟩ | ⟨rfl, rfl, rfl, rfl⟩
    · exact kok_C1 g x a len cap E w hB hT hl c4 c5 c6 c7 C0 C1 C2 C3 C4 C5 C6 C7 HS
    · exact kok_C2 g x a len cap E w hB hT hl c5 c6 c7 C0 C1 C2 C3 C4 C5 C6 C7 HS
    · exact kok_C3 g x a len cap E w hB hT hl c6 c7 C0 C1 C2 C3 C4 C5 C6 C7 HS
    · exact kok_C4 g x a len cap E w hB hT hl c7 C0 C1 C2 C3 C4 C5 C6 C7 HS
    · exact kok_C5 g x a len cap E w hB hT hl c7 C0 C1 C2 C3 C4 C5 C6 C7 HS
  · rcases path4 c3 c4 c5 c6 with rfl | ⟨rfl, rfl⟩ | ⟨rfl, rfl, rfl⟩ | ⟨rfl, rfl, rfl, rfl⟩ | ⟨rfl, rfl, rfl, rfl⟩
    · exact kok_D1 g x a len cap E w hB hT hl c4 c5 c6 c7 C0 C1 C2 C3 C4 C5 C6 C7 HS
    · exact kok_D2 g x a len cap E w hB hT hl c5 c6 c7 C0 C1 C2 C3 C4 C5 C6 C7 HS
    · exact kok_D3 g x a len cap E w hB hT hl c6 c7 C0 C1 C2 C3 C4 C5 C6 C7 HS
    · exact kok_D4 g x a len cap E w hB hT hl c7 C0 C1 C2 C3 C4 C5 C6 C7 HS
    · cases c7
      · exact kok_sent g x a len cap E w hB hT hl C0 C1 C2 C3 C4 C5 C6 C7 HS
      · obtain ⟨v, V⟩ := boolOf (WOk x.top len E)
        exact kok_all g x a len cap E w hB hT hl C0 C1 C2 C3 C4 C5 C6 C7 HS v V
theorem owns_ints {w : World} {base len c : Nat} {a : Option Addr} {E : Nat → Int} (h : w.ownsRow base 3 1 (.slice a len c) len (i64s (LE E len))) : Ints w a len E := by
  obtain ⟨a', cap', e, hc, h2⟩ := IL.of_owns h (by simp [LE])
  simp [LE] at e
  obtain ⟨rfl, rfl⟩ := e
  rcases h2 with ⟨rfl, rfl⟩ | ⟨bb, off, rfl, hlt, hcell⟩
  · exact .inl (by simp [LE] at hc; exact hc)
  · exact .inr ⟨bb, off, rfl, hlt, fun i hi => by have := hcell i (by simpa [LE] using hi); rw [this]; simp [LE, hi]⟩
set_option maxHeartbeats 2000000 in
set_option maxRecDepth 100000 in
theorem saOkI (x : SaV) (a : Option Addr) (len cap : Nat) (E : Nat → Int) (w : World) (hT : Ints w a len E) (hl : len ≤ 1048576) (hk : x.key.size ≤ 1048576) (hm : x.mac.size ≤ 1048576) :
    Calls Tryz.prog 36 #[vSa x a len cap] w fun e w' => ∃ v, e = .returned (.bool v) ∧ (v = true ↔ saB x = true ∧ WOk x.top len E) ∧ Below w.heap.size w w' := by
  have HT := hid_in hT
  clear hT
  go_enter Tryz.func36, Tryz.ntmps36
  go_wp2_with fail
  refine (keysOf_any x a len cap E _ (HT.out.later (by go_grown)) hl hk hm).mono ?_
  rintro e w1 ⟨g, v', rfl, hg, hB, ho, _, hb1⟩
  obtain ⟨a', c', rfl⟩ := owns_form ho
  have B1 := hid_in hB; have T1 := hid_in (owns_ints ho); have Z1 := hid_in (below_later (below_box w _) hb1)
  clear hB ho hb1
  go_wp2_with fail
  refine (kok_any g x a' len c' E w1 B1.out T1.out hl).mono ?_
  rintro e w2 ⟨v, rfl, hv, hb2⟩
  go_wp2_with fail
  go_ret
  exact ⟨_, rfl, hv, below_later Z1.out hb2⟩
/-- How old keys are. -/
def ageV (x : SaV) (now : Int) : Int := if x.hard ≤ x.sent ∨ x.since + 2 * x.ticks ≤ now then 3 else if x.soft ≤ x.sent ∨ x.since + x.ticks ≤ now then 2 else 1
theorem saB_bounds {x : SaV} (h : saB x = true) : 0 ≤ x.since ∧ x.since ≤ 1000000 ∧ 1 ≤ x.ticks ∧ x.ticks ≤ 1000000 := by
  simp [saB, inB] at h
  omega
set_option maxHeartbeats 1000000 in
set_option maxRecDepth 100000 in
theorem l9Age_any (x : SaV) (a : Option Addr) (len cap : Nat) (now : Int) (w : World) (hx : saB x = true) (v : Int) (hv : ageV x now = v) :
    Calls Tryz.prog 78 #[vSa x a len cap, .int .i64 now] w fun e w' => e = .returned (.int .i64 v) ∧ Below w.heap.size w w' := by
  obtain ⟨b0, b1, b2, b3⟩ := saB_bounds hx
  have V := hid_in hv
  clear hv hx
  have e1 : IntKind.i64.wrap (2 * x.ticks) = 2 * x.ticks := by rw [IntKind.wrap_i64]; omega
  have e2 : IntKind.i64.wrap (x.since + 2 * x.ticks) = x.since + 2 * x.ticks := by rw [IntKind.wrap_i64]; omega
  have e3 : IntKind.i64.wrap (x.since + x.ticks) = x.since + x.ticks := by rw [IntKind.wrap_i64]; omega
  by_cases h1 : x.hard ≤ x.sent
  · go_enter Tryz.func78, Tryz.ntmps78
    go_wp2_with fail
    go_ret
    exact ⟨ret_int (by rw [← V.out]; unfold ageV; rw [if_pos (.inl h1)]), by go_grown⟩
  have h1' : decide (x.hard ≤ x.sent) = false := by simpa using h1
  by_cases h2 : x.since + 2 * x.ticks ≤ now
  · go_enter Tryz.func78, Tryz.ntmps78
    go_wp2_with fail
    go_ret
    exact ⟨ret_int (by rw [← V.out]; unfold ageV; rw [if_pos (.inr h2)]), by go_grown⟩
  have h2' : decide (x.since + 2 * x.ticks ≤ now) = false := by simpa using h2
  by_cases h3 : x.soft ≤ x.sent
  · go_enter Tryz.func78, Tryz.ntmps78
    go_wp2_with fail
    go_ret
    exact ⟨ret_int (by rw [← V.out]; unfold ageV; rw [if_neg (by omega), if_pos (.inl h3)]), by go_grown⟩
  have h3' : decide (x.soft ≤ x.sent) = false := by simpa using h3
  by_cases h4 : x.since + x.ticks ≤ now
  · go_enter Tryz.func78, Tryz.ntmps78
    go_wp2_with fail
    go_ret
    exact ⟨ret_int (by rw [← V.out]; unfold ageV; rw [if_neg (by omega), if_pos (.inr h4)]), by go_grown⟩
  have h4' : decide (x.since + x.ticks ≤ now) = false := by simpa using h4
  go_enter Tryz.func78, Tryz.ntmps78
  go_wp2_with fail
  go_ret
  exact ⟨ret_int (by rw [← V.out]; unfold ageV; rw [if_neg (by omega), if_neg (by omega)]), by go_grown⟩
set_option maxHeartbeats 1000000 in
set_option maxRecDepth 100000 in
theorem saAgeS (x : SaV) (a : Option Addr) (len cap : Nat) (E : Nat → Int) (now : Int) (w : World) (hT : Ints w a len E) (hl : len ≤ 1048576) (u : Bool) (hu : u = true ↔ saB x = true ∧ WOk x.top len E) (v : Int) (hv : (if u = true then ageV x now else 0) = v) :
    Calls Tryz.prog 35 #[vSa x a len cap, .int .i64 now] w fun e w' => e = .returned (.int .i64 v) ∧ Below w.heap.size w w' := by
  have HT := hid_in hT; have V := hid_in hv; have U := hid_in hu
  clear hT hv hu
  have B0 := SaBox.new w x (.slice a len cap) 45
  go_enter Tryz.func35, Tryz.ntmps35
  go_wp2_with fail
  refine (saOkS x a len cap E _ (HT.out.later (by go_grown)) hl).mono ?_
  rintro e w1 ⟨u', rfl, hu', hb1⟩
  obtain rfl : u' = u := Bool.eq_iff_iff.2 (hu'.trans U.out.symm)
  obtain ⟨l0, p0, p1, p2, p3, p4, p5, p6, p7, p8, p9, p10, pf⟩ := B0.later hb1
  have Z1 := hid_in (below_later (below_box w _) hb1)
  clear hu' hb1 B0 pf
  cases u'
  · go_wp2_with fail
    go_ret
    exact ⟨ret_int (by rw [← V.out]; simp), Z1.out⟩
  · go_wp2_with fail
    refine (l9Age_any x a len cap now _ (U.out.1 (by simp)).1 v (by rw [← V.out]; simp)).mono ?_
    rintro e w2 ⟨rfl, hb2⟩
    go_wp2_with fail
    go_ret
    exact ⟨rfl, below_later Z1.out hb2⟩
set_option maxHeartbeats 1000000 in
set_option maxRecDepth 100000 in
theorem kover_any (g : Nat) (x : SaV) (sv : Value) (now : Int) (w : World) (hB : SaBox w g x sv) (hx : saB x = true) (v : Bool) (hv : decide (x.since + 2 * x.ticks ≤ now) = v) :
    Calls Tryz.prog 123 #[.pointer (some ⟨g, 0, none⟩), .int .i64 now] w fun e w' => e = .returned (.bool v) ∧ Below w.heap.size w w' := by
  obtain ⟨b0, b1, b2, b3⟩ := saB_bounds hx
  have V := hid_in hv
  clear hv hx
  have e1 : IntKind.i64.wrap (2 * x.ticks) = 2 * x.ticks := by rw [IntKind.wrap_i64]; omega
  have e2 : IntKind.i64.wrap (x.since + 2 * x.ticks) = x.since + 2 * x.ticks := by rw [IntKind.wrap_i64]; omega
  obtain ⟨l0, p0, p1, p2, p3, p4, p5, p6, p7, p8, p9, p10, pf⟩ := hB
  clear pf
  go_enter Tryz.func123, Tryz.ntmps123
  go_wp2_with fail
  refine wp_region_lat (Below.refl _ _) (by kernel_rfl) (by kernel_rfl) ?_
  intro hne hcl
  repeat (go_big_quiet_step (first | (fail)))
  refine wpQuiet_nil ?_
  intro w1 hb1
  obtain ⟨hc1, hf1⟩ := bcell hb1
  clear hne hcl
  go_wp2_with fail
  go_ret
  exact ⟨ret_bool (by rw [← V.out]), hb1⟩
set_option maxHeartbeats 2000000 in
set_option maxRecDepth 100000 in
theorem kage_any (g : Nat) (x : SaV) (sv : Value) (now : Int) (w : World) (hB : SaBox w g x sv) (hx : saB x = true) (v : Int) (hv : ageV x now = v) :
    Calls Tryz.prog 77 #[.pointer (some ⟨g, 0, none⟩), .int .i64 now] w fun e w' => e = .returned (.int .i64 v) ∧ Below w.heap.size w w' := by
  obtain ⟨b0, b1, b2, b3⟩ := saB_bounds hx
  have V := hid_in hv; have HX := hid_in hx; have HB := hid_in hB
  clear hv hx
  have e3 : IntKind.i64.wrap (x.since + x.ticks) = x.since + x.ticks := by rw [IntKind.wrap_i64]; omega
  obtain ⟨l0, p0, p1, p2, p3, p4, p5, p6, p7, p8, p9, p10, pf⟩ := hB
  clear pf
  by_cases h1 : x.hard ≤ x.sent
  · go_enter Tryz.func77, Tryz.ntmps77
    go_wp2_with fail
    refine wp_region_lat (Below.refl _ _) (by kernel_rfl) (by kernel_rfl) ?_
    intro hne hcl
    repeat (go_big_quiet_step (first | (fail)))
    refine wpQuiet_nil ?_
    intro w1 hb1
    obtain ⟨hc1, hf1⟩ := bcell hb1
    clear hne hcl
    go_wp2_with fail
    go_ret
    exact ⟨ret_int (by rw [← V.out]; unfold ageV; rw [if_pos (.inl h1)]), hb1⟩
  have h1' : decide (x.hard ≤ x.sent) = false := by simpa using h1
  by_cases h2 : x.since + 2 * x.ticks ≤ now
  · have O : Hid (decide (x.since + 2 * x.ticks ≤ now) = true) := by show _ = _; simpa using h2
    go_enter Tryz.func77, Tryz.ntmps77
    go_wp2_with fail
    refine wp_region_lat (Below.refl _ _) (by kernel_rfl) (by kernel_rfl) ?_
    intro hne hcl
    repeat (go_big_quiet_step (first | (go_at_call 123; exact lat_of (kover_any g x sv now _ (HB.out.later (Lat.h _)) HX.out _ O.out))))
    refine wpQuiet_nil ?_
    intro w1 hb1
    obtain ⟨hc1, hf1⟩ := bcell hb1
    clear hne hcl
    go_wp2_with fail
    go_ret
    exact ⟨ret_int (by rw [← V.out]; unfold ageV; rw [if_pos (.inr h2)]), hb1⟩
  have O : Hid (decide (x.since + 2 * x.ticks ≤ now) = false) := by show _ = _; simpa using h2
  by_cases h3 : x.soft ≤ x.sent
  · go_enter Tryz.func77, Tryz.ntmps77
    go_wp2_with fail
    refine wp_region_lat (Below.refl _ _) (by kernel_rfl) (by kernel_rfl) ?_
    intro hne hcl
    repeat (go_big_quiet_step (first | (go_at_call 123; exact lat_of (kover_any g x sv now _ (HB.out.later (Lat.h _)) HX.out _ O.out))))
    refine wpQuiet_nil ?_
    intro w1 hb1
    obtain ⟨hc1, hf1⟩ := bcell hb1
    clear hne hcl
    go_wp2_with fail
    clear hc1 hf1
    refine wp_region_lat hb1 (by kernel_rfl) (by kernel_rfl) ?_
    intro hne hcl
    repeat (go_big_quiet_step (first | (fail)))
    refine wpQuiet_nil ?_
    intro w2 hb2
    obtain ⟨hc2, hf2⟩ := bcell hb2
    clear hne hcl
    go_wp2_with fail
    go_ret
    exact ⟨ret_int (by rw [← V.out]; unfold ageV; rw [if_neg (by omega), if_pos (.inl h3)]), hb2⟩
  have h3' : decide (x.soft ≤ x.sent) = false := by simpa using h3
  by_cases h4 : x.since + x.ticks ≤ now
  · go_enter Tryz.func77, Tryz.ntmps77
    go_wp2_with fail
    refine wp_region_lat (Below.refl _ _) (by kernel_rfl) (by kernel_rfl) ?_
    intro hne hcl
    repeat (go_big_quiet_step (first | (go_at_call 123; exact lat_of (kover_any g x sv now _ (HB.out.later (Lat.h _)) HX.out _ O.out))))
    refine wpQuiet_nil ?_
    intro w1 hb1
    obtain ⟨hc1, hf1⟩ := bcell hb1
    clear hne hcl
    go_wp2_with fail
    clear hc1 hf1
    refine wp_region_lat hb1 (by kernel_rfl) (by kernel_rfl) ?_
    intro hne hcl
    repeat (go_big_quiet_step (first | (fail)))
    refine wpQuiet_nil ?_
    intro w2 hb2
    obtain ⟨hc2, hf2⟩ := bcell hb2
    clear hne hcl
    go_wp2_with fail
    go_ret
    exact ⟨ret_int (by rw [← V.out]; unfold ageV; rw [if_neg (by omega), if_pos (.inr h4)]), hb2⟩
  have h4' : decide (x.since + x.ticks ≤ now) = false := by simpa using h4
  go_enter Tryz.func77, Tryz.ntmps77
  go_wp2_with fail
  refine wp_region_lat (Below.refl _ _) (by kernel_rfl) (by kernel_rfl) ?_
  intro hne hcl
  repeat (go_big_quiet_step (first | (go_at_call 123; exact lat_of (kover_any g x sv now _ (HB.out.later (Lat.h _)) HX.out _ O.out))))
  refine wpQuiet_nil ?_
  intro w1 hb1
  obtain ⟨hc1, hf1⟩ := bcell hb1
  clear hne hcl
  go_wp2_with fail
  clear hc1 hf1
  refine wp_region_lat hb1 (by kernel_rfl) (by kernel_rfl) ?_
  intro hne hcl
  repeat (go_big_quiet_step (first | (fail)))
  refine wpQuiet_nil ?_
  intro w2 hb2
  obtain ⟨hc2, hf2⟩ := bcell hb2
  clear hne hcl
  go_wp2_with fail
  go_ret
  exact ⟨ret_int (by rw [← V.out]; unfold ageV; rw [if_neg (by omega), if_neg (by omega)]), hb2⟩
set_option maxHeartbeats 2000000 in
set_option maxRecDepth 100000 in
theorem saAgeI (x : SaV) (a : Option Addr) (len cap : Nat) (E : Nat → Int) (now : Int) (w : World) (hT : Ints w a len E) (hl : len ≤ 1048576) (hk : x.key.size ≤ 1048576) (hm : x.mac.size ≤ 1048576) (u : Bool) (hu : u = true ↔ saB x = true ∧ WOk x.top len E) (v : Int) (hv : (if u = true then ageV x now else 0) = v) :
    Calls Tryz.prog 34 #[vSa x a len cap, .int .i64 now] w fun e w' => e = .returned (.int .i64 v) ∧ Below w.heap.size w w' := by
  have HT := hid_in hT; have V := hid_in hv; have U := hid_in hu
  clear hT hv hu
  go_enter Tryz.func34, Tryz.ntmps34
  go_wp2_with fail
  refine (keysOf_any x a len cap E _ (HT.out.later (by go_grown)) hl hk hm).mono ?_
  rintro e w1 ⟨g, v', rfl, hg, hB, ho, _, hb1⟩
  obtain ⟨a', c', rfl⟩ := owns_form ho
  have B1 := hid_in hB; have T1 := hid_in (owns_ints ho); have Z1 := hid_in (below_later (below_box w _) hb1)
  clear hB ho hb1
  go_wp2_with fail
  refine (kok_any g x a' len c' E w1 B1.out T1.out hl).mono ?_
  rintro e w2 ⟨u', rfl, hu', hb2⟩
  obtain rfl : u' = u := Bool.eq_iff_iff.2 (hu'.trans U.out.symm)
  have B2 := hid_in (B1.out.later hb2); have Z2 := hid_in (below_later Z1.out hb2)
  clear hu' hb2
  cases u'
  · go_wp2_with fail
    go_ret
    exact ⟨ret_int (by rw [← V.out]; simp), Z2.out⟩
  · go_wp2_with fail
    refine (kage_any g x _ now _ B2.out (U.out.1 (by simp)).1 v (by rw [← V.out]; simp)).mono ?_
    rintro e w3 ⟨rfl, hb3⟩
    go_wp2_with fail
    go_ret
    exact ⟨rfl, below_later Z2.out hb3⟩
end Go.Proofs.YtefmmopkikpnhaaGreatDoor

namespace Go.Proofs.YtefmmopkikpnhaaGreatDoor
open Go.RowKit Go.LatT Go.BlockM Go.OpnT Go.WinMath
set_option linter.unusedVariables false
set_option linter.unusedSimpArgs false
theorem SaBox.newAt (w : World) (x : SaV) (v : Value) (ty : TypeId) (g : Nat) (hg : g = w.heap.size) : SaBox (w.alloc (.cells #[.int .i64 x.spi, .int .i64 x.tun, .string x.key, .string x.mac, .int .i64 x.since, .int .i64 x.soft, .int .i64 x.hard, .int .i64 x.ticks, .int .i64 x.sent, .int .i64 x.top, v] ty)) g x v := by
  rw [hg]; exact SaBox.new w x v ty
/-- No keys at all. -/
@[reducible] def zeroSa : SaV := ⟨0, 0, ⟨#[]⟩, ⟨#[]⟩, 0, 0, 0, 0, 0, 0⟩
end Go.Proofs.YtefmmopkikpnhaaGreatDoor

