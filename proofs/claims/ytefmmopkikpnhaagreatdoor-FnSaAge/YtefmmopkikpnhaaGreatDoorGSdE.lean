/- What is proved: the contracts of SadE, one behind the other. The conditions stand at each theorem. -/
import Derived.Test.YtefmmopkikpnhaaGreatDoorGSdD
namespace Go.Proofs.YtefmmopkikpnhaaGreatDoor
open Go.RowKit Go.LatT Go.BlockM Go.PlainAid Go.OpnT Go.ApdG Go.BytM Go.AesM Go.RowQ Go.WinMath
set_option linter.unusedVariables false
set_option linter.unusedSimpArgs false
theorem saOkIu (x : SaV) (a : Option Addr) (len cap : Nat) (E : Nat → Int) (w : World) (hT : Ints w a len E) (hl : len ≤ 1048576) (hk : x.key.size ≤ 1048576) (hm : x.mac.size ≤ 1048576) (u : Bool) (hu : u = true ↔ saB x = true ∧ WOk x.top len E) :
    Calls Tryz.prog 36 #[vSa x a len cap] w fun e w' => e = .returned (.bool u) ∧ Below w.heap.size w w' := by
  refine (saOkI x a len cap E w hT hl hk hm).mono ?_
  rintro e w' ⟨v, rfl, hv, hb⟩
  obtain rfl : v = u := Bool.eq_iff_iff.2 (hv.trans hu.symm)
  exact ⟨rfl, hb⟩
theorem saOkSu (x : SaV) (a : Option Addr) (len cap : Nat) (E : Nat → Int) (w : World) (hT : Ints w a len E) (hl : len ≤ 1048576) (u : Bool) (hu : u = true ↔ saB x = true ∧ WOk x.top len E) :
    Calls Tryz.prog 37 #[vSa x a len cap] w fun e w' => e = .returned (.bool u) ∧ Below w.heap.size w w' := by
  refine (saOkS x a len cap E w hT hl).mono ?_
  rintro e w' ⟨v, rfl, hv, hb⟩
  obtain rfl : v = u := Bool.eq_iff_iff.2 (hv.trans hu.symm)
  exact ⟨rfl, hb⟩
theorem age_range (x : SaV) (now : Int) : 1 ≤ ageV x now ∧ ageV x now ≤ 3 := by
  unfold ageV
  split
  · omega
  · split <;> omega
theorem age_later (x : SaV) (now : Int) : ageV x now ≤ ageV x (now + 1) := by
  unfold ageV
  repeat' split
  all_goals omega
theorem age_more (x : SaV) (now : Int) : ageV x now ≤ ageV (moreS x) now := by
  unfold ageV
  show (if x.hard ≤ x.sent ∨ x.since + 2 * x.ticks ≤ now then (3 : Int) else if x.soft ≤ x.sent ∨ x.since + x.ticks ≤ now then 2 else 1) ≤ (if x.hard ≤ x.sent + 1 ∨ x.since + 2 * x.ticks ≤ now then 3 else if x.soft ≤ x.sent + 1 ∨ x.since + x.ticks ≤ now then 2 else 1)
  repeat' split
  all_goals omega
theorem saB_more {x : SaV} {now : Int} (h : saB x = true) (hy : ageV x now ≠ 3) : saB (moreS x) = true := by
  have hs := young_sent hy
  unfold saB inB at h ⊢
  simp only [Bool.and_eq_true, decide_eq_true_eq] at h ⊢
  obtain ⟨h1, h2, h3⟩ := h
  exact ⟨h1, by show 0 ≤ x.sent + 1; omega, by show x.sent + 1 ≤ x.hard; omega⟩
set_option maxRecDepth 100000 in
set_option maxHeartbeats 8000000 in
set_option maxRecDepth 100000 in
theorem walk_FnSaAge (a : Option Addr) (len cap : Nat) (z : List Int) (w : World) (h : RowC w a len cap z) (hK : GK w) :
    Calls Tryz.prog 10 #[.slice a len cap] w fun e w' => e = .returned (.bool true) ∧ Below w.heap.size w w' := by
  have hm : (len : Int) ≤ 9223372036854775807 := by
    rcases h with ⟨rfl, _⟩ | ⟨_, _, _, h1, h2, _⟩
    · omega
    · unfold maxLen at h2; omega
  have HR := hid_in h
  have HK := hid_in hK
  clear h hK
  by_cases hl : len ≤ 1048576
  · go_enter Tryz.func10, Tryz.ntmps10
    go_wp2_with fail
    refine (drawSaAge a len cap z _ HR.out hl).mono ?_
    rintro e w1 ⟨x, v, L, now, rfl, ad, hL17, hL, hn0, hn1, hb1⟩
    obtain ⟨a1, c1, rfl, hI⟩ := hL.ints
    have hkz : x.key.size ≤ 1048576 := by have := ad.k; omega
    have hmz : x.mac.size ≤ 1048576 := by have := ad.m; omega
    have hlz : L.length ≤ 1048576 := by omega
    have D1 := hid_in hb1; have I1 := hid_in hI
    obtain ⟨u, hu⟩ := boolOf (saB x = true ∧ WOk x.top L.length (gE L))
    have en : IntKind.i64.wrap (now + 1) = now + 1 := by rw [IntKind.wrap_i64]; omega
    obtain ⟨g0, hg0⟩ : ∃ g, (if u = true then ageV x now else 0) = g := ⟨_, rfl⟩
    obtain ⟨g1, hg1⟩ : ∃ g, (if u = true then ageV x (now + 1) else 0) = g := ⟨_, rfl⟩
    obtain ⟨n1, hn1'⟩ : ∃ n, now + 1 = n := ⟨_, rfl⟩
    have AI := hid_in (fun W (h : Ints W a1 L.length (gE L)) => saAgeI x a1 L.length c1 (gE L) now W h hlz hkz hmz u hu g0 hg0)
    have AS := hid_in (fun W (h : Ints W a1 L.length (gE L)) => saAgeS x a1 L.length c1 (gE L) now W h hlz u hu g0 hg0)
    have A1 := hid_in (fun W (h : Ints W a1 L.length (gE L)) => saAgeI x a1 L.length c1 (gE L) (now + 1) W h hlz hkz hmz u hu g1 hg1)
    have OI := hid_in (fun W (h : Ints W a1 L.length (gE L)) => saOkIu x a1 L.length c1 (gE L) W h hlz hkz hmz u hu)
    have OS := hid_in (fun W (h : Ints W a1 L.length (gE L)) => saOkSu x a1 L.length c1 (gE L) W h hlz u hu)
    rw [hn1'] at A1 en
    have B1 := hid_in (SaBox.new w1 x (.slice a1 L.length c1) 45)
    have hbx := below_box w1 (.cells #[.int .i64 x.spi, .int .i64 x.tun, .string x.key, .string x.mac, .int .i64 x.since, .int .i64 x.soft, .int .i64 x.hard, .int .i64 x.ticks, .int .i64 x.sent, .int .i64 x.top, .slice a1 L.length c1] 45)
    have I2 := hid_in (hI.later hbx); have D2 := hid_in (below_later hb1 hbx)
    clear hI hb1 hbx hL
    go_wp2_with fail
    refine (AI.out _ I2.out).mono ?_
    rintro e w3 ⟨rfl, hb3⟩
    have B3 := hid_in (B1.out.later hb3); have I3 := hid_in (I2.out.later hb3); have D3 := hid_in (below_later D2.out hb3)
    clear hb3 B1 I2 D2 D1 I1
    generalize hww : w3 = w4 at *
    clear hww
    obtain ⟨l0, p0, p1, p2, p3, p4, p5, p6, p7, p8, p9, p10, pf⟩ := B3.out
    have q1 : ¬ g0 ≠ g0 := fun h => h rfl
    cases u
    · go_wp2_with fail
      refine wp_region_lat (Below.refl _ _) (by kernel_rfl) (by kernel_rfl) ?_
      intro hne hcl
      repeat (go_big_quiet_step (first | (go_at_call 35; exact lat_of (AS.out _ (I3.out.later (Lat.h _)))) | (go_at_call 36; exact lat_of (OI.out _ (I3.out.later (Lat.h _)))) | (go_at_call 37; exact lat_of (OS.out _ (I3.out.later (Lat.h _))))))
      refine wpQuiet_nil ?_
      intro w1 hb1
      obtain ⟨hc1, hf1⟩ := bcell hb1
      clear hne hcl
      have B5 := hid_in (B3.out.later hb1); have I5 := hid_in (I3.out.later hb1); have D5 := hid_in (below_later D3.out hb1)
      clear l0 p0 p1 p2 p3 p4 p5 p6 p7 p8 p9 p10 pf hb1 B3 I3 D3 hc1 hf1
      obtain ⟨l0, p0, p1, p2, p3, p4, p5, p6, p7, p8, p9, p10, pf⟩ := B5.out
      go_wp2_with fail
      refine wp_region_lat (Below.refl _ _) (by kernel_rfl) (by kernel_rfl) ?_
      intro hne hcl
      repeat (go_big_quiet_step (first | (go_at_call 35; exact lat_of (AS.out _ (I5.out.later (Lat.h _)))) | (go_at_call 36; exact lat_of (OI.out _ (I5.out.later (Lat.h _)))) | (go_at_call 37; exact lat_of (OS.out _ (I5.out.later (Lat.h _))))))
      refine wpQuiet_nil ?_
      intro w1 hb1
      obtain ⟨hc1, hf1⟩ := bcell hb1
      clear hne hcl
      go_wp2_with fail
      go_ret
      exact ⟨rfl, below_later D5.out hb1⟩
    · obtain ⟨hx, hw⟩ := hu.1 rfl
      clear hu
      have HXW := hid_in hx
      rw [if_pos rfl] at hg0 hg1
      obtain ⟨r0, r1⟩ := age_range x now
      have r2 := age_later x now
      rw [hg0] at r0 r1 r2
      rw [hg1] at r2
      have E1 : (LE (gE L) L.length) = L := LE_gE L
      have SI : Hid (∀ W, GK W → Ints W a1 L.length (gE L) → Calls Tryz.prog 27 #[vSa x a1 L.length c1, .int .i64 now, .string ⟨#[120]⟩] W (SaAns (sdX x now ⟨#[120]⟩) L (sdT x now ⟨#[120]⟩) (sdK x now ⟨#[120]⟩) W)) := fun W k h => by
        have := saSendI_yes x a1 L.length c1 (gE L) now ⟨#[120]⟩ W k h hlz hkz hmz (by decide) hx hw
        rw [E1] at this
        exact this
      go_wp2_with fail
      refine wp_region_lat (Below.refl _ _) (by kernel_rfl) (by kernel_rfl) ?_
      intro hne hcl
      repeat (go_big_quiet_step (first | (go_at_call 35; exact lat_of (AS.out _ (I3.out.later (Lat.h _)))) | (go_at_call 36; exact lat_of (OI.out _ (I3.out.later (Lat.h _)))) | (go_at_call 37; exact lat_of (OS.out _ (I3.out.later (Lat.h _))))))
      refine wpQuiet_nil ?_
      intro w1 hb1
      obtain ⟨hc1, hf1⟩ := bcell hb1
      clear hne hcl
      have B5 := hid_in (B3.out.later hb1); have I5 := hid_in (I3.out.later hb1); have D5 := hid_in (below_later D3.out hb1)
      clear l0 p0 p1 p2 p3 p4 p5 p6 p7 p8 p9 p10 pf hb1 B3 I3 D3 hc1 hf1 AS OI OS
      obtain ⟨l0, p0, p1, p2, p3, p4, p5, p6, p7, p8, p9, p10, pf⟩ := B5.out
      by_cases h3 : ageV x now = 3
      · have hk3 : sdK x now ⟨#[120]⟩ = 3 := by unfold sdK; rw [if_neg (by decide), if_pos h3]
        have ht3 : sdT x now ⟨#[120]⟩ = ⟨#[]⟩ := by unfold sdT; rw [hk3]; rfl
        rw [hk3, ht3] at SI
        generalize sdX x now ⟨#[120]⟩ = X at *
        obtain rfl : g0 = 3 := by rw [← hg0]; exact h3
        clear hg0 hg1 h3 hx hw hk3 ht3
        have q2 : (3 : Int) ≤ g1 := r2
        go_wp2_with fail
        refine (SI.out _ (HK.out.below D5.out HK.out.lt) I5.out).mono ?_
        rintro e w7 ⟨v7, rfl, o7, hb7⟩
        obtain ⟨a7, c7, rfl⟩ := owns_form o7
        have B7 := hid_in (B5.out.later hb7); have I7 := hid_in (I5.out.later hb7); have D7 := hid_in (below_later D5.out hb7)
        clear l0 p0 p1 p2 p3 p4 p5 p6 p7 p8 p9 p10 pf hb7 B5 I5 D5 o7
        obtain ⟨l0, p0, p1, p2, p3, p4, p5, p6, p7, p8, p9, p10, pf⟩ := B7.out
        go_wp2_with fail
        refine (A1.out _ (I7.out.later (below_box _ _))).mono ?_
        rintro e w9 ⟨rfl, hb9⟩
        go_wp2_with fail
        go_ret
        exact ⟨rfl, below_later (below_later D7.out (below_box _ _)) hb9⟩
      · have hk0 : sdK x now ⟨#[120]⟩ = 0 := by unfold sdK; rw [if_neg (by decide), if_neg h3]
        have hX : sdX x now ⟨#[120]⟩ = moreS x := by unfold sdX; rw [if_pos hk0]
        have q3 : (g0 == 3) = false := by rw [← hg0]; simpa using h3
        have r3 := age_more x now
        rw [hg0] at r3
        obtain ⟨g2, hg2⟩ : ∃ g, ageV (moreS x) now = g := ⟨_, rfl⟩
        rw [hg2] at r3
        have AX := hid_in (fun (a7 : Option Addr) (c7 : Nat) W (h : Ints W a7 L.length (gE L)) => saAgeI (moreS x) a7 L.length c7 (gE L) now W h hlz hkz hmz true ⟨fun _ => ⟨saB_more hx h3, hw⟩, fun _ => rfl⟩ g2 (by rw [if_pos rfl]; exact hg2))
        rw [hk0, hX] at SI
        generalize sdT x now ⟨#[120]⟩ = T at *
        generalize moreS x = X at *
        clear hg0 hg1 hg2 h3 hx hw hk0 hX
        go_wp2_with fail
        refine (SI.out _ (HK.out.below D5.out HK.out.lt) I5.out).mono ?_
        rintro e w7 ⟨v7, rfl, o7, hb7⟩
        obtain ⟨a7', c7', e7, J7⟩ := (owns_il o7).ints
        subst e7
        have B7 := hid_in (B5.out.later hb7); have I7 := hid_in (I5.out.later hb7); have D7 := hid_in (below_later D5.out hb7); have J7' := hid_in (J7.later (below_box w7 (.cells #[.int .i64 X.spi, .int .i64 X.tun, .string X.key, .string X.mac, .int .i64 X.since, .int .i64 X.soft, .int .i64 X.hard, .int .i64 X.ticks, .int .i64 X.sent, .int .i64 X.top, .slice a7' L.length c7'] 45)))
        have BX := hid_in (SaBox.new w7 X (.slice a7' L.length c7') 45)
        clear l0 p0 p1 p2 p3 p4 p5 p6 p7 p8 p9 p10 pf hb7 B5 I5 D5 o7 J7
        obtain ⟨l0, p0, p1, p2, p3, p4, p5, p6, p7, p8, p9, p10, pf⟩ := B7.out
        go_wp2_with fail
        refine (A1.out _ (I7.out.later (below_box _ _))).mono ?_
        rintro e w9 ⟨rfl, hb9⟩
        have B9 := hid_in (BX.out.later hb9); have J9 := hid_in (J7'.out.later hb9); have D9 := hid_in (below_later (below_later D7.out (below_box _ _)) hb9)
        clear l0 p0 p1 p2 p3 p4 p5 p6 p7 p8 p9 p10 pf BX J7' hb9 B7 I7 D7
        obtain ⟨l0, p0, p1, p2, p3, p4, p5, p6, p7, p8, p9, p10, pf⟩ := B9.out
        go_wp2_with fail
        refine (AX.out _ _ _ J9.out).mono ?_
        rintro e w10 ⟨rfl, hb10⟩
        go_wp2_with fail
        go_ret
        exact ⟨rfl, below_later D9.out hb10⟩
  · have hl' : (1048576 : Int) < len := by omega
    go_enter Tryz.func10, Tryz.ntmps10
    go_wp2_with fail
    go_ret
    exact ⟨rfl, Below.refl _ _⟩
end Go.Proofs.YtefmmopkikpnhaaGreatDoor

