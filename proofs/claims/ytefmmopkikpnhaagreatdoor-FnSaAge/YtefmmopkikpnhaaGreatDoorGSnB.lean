/- What is proved: the contracts of SndB, one behind the other. The conditions stand at each theorem. -/
import Derived.Test.YtefmmopkikpnhaaGreatDoorGSnG
namespace Go.Proofs.YtefmmopkikpnhaaGreatDoor
open Go.RowKit Go.LatT Go.BlockM Go.PlainAid Go.OpnT Go.ApdG Go.BytM Go.AesM Go.RowQ Go.WinMath
set_option linter.unusedVariables false
set_option linter.unusedSimpArgs false
set_option maxHeartbeats 2000000 in
set_option maxRecDepth 100000 in
theorem ksend_any (g : Nat) (x : SaV) (v : Value) (now : Int) (t : ByteArray) (w : World) (hK : GK w) (hg : 2 < g) (hB : SaBox w g x v) (hx : saB x = true) (ht : (t.size : Int) ≤ 9223372036854775807) :
    Calls Tryz.prog 69 #[.pointer (some ⟨g, 0, none⟩), .int .i64 now, .string t] w fun e w' => e = .returned (.tuple #[.string (sdT x now t), .int .i64 (sdK x now t)]) ∧ SaBox w' g (sdX x now t) v ∧ Mv g w w' := by
  have HK := hid_in hK; have HB := hid_in hB; have HX := hid_in hx
  clear hK hB
  by_cases h1 : 51 < t.size
  · have hk : sdK x now t = 1 := by unfold sdK; rw [if_pos h1]
    have E1 := hid_in hk
    have E2 := hid_in (show sdX x now t = x by unfold sdX; rw [hk]; rfl)
    have E3 := hid_in (show sdT x now t = ⟨#[]⟩ by unfold sdT; rw [hk]; rfl)
    have h1' : (51 : Int) < t.size := by omega
    rw [E1.out, E2.out, E3.out]
    clear hx hk h1
    go_enter Tryz.func69, Tryz.ntmps69
    go_wp2_with fail
    go_ret2
    exact ⟨rfl, HB.out, Mv.refl _ _⟩
  have h1' : ¬ (51 : Int) < t.size := by omega
  by_cases h2 : ageV x now = 3
  · have hk : sdK x now t = 3 := by unfold sdK; rw [if_neg h1, if_pos h2]
    have E1 := hid_in hk
    have E2 := hid_in (show sdX x now t = x by unfold sdX; rw [hk]; rfl)
    have E3 := hid_in (show sdT x now t = ⟨#[]⟩ by unfold sdT; rw [hk]; rfl)
    have A := hid_in h2
    rw [E1.out, E2.out, E3.out]
    clear hx hk h1 h2
    go_enter Tryz.func69, Tryz.ntmps69
    go_wp2_with fail
    refine (kage_any g x v now _ HB.out HX.out 3 A.out).mono ?_
    rintro e w1 ⟨rfl, hb1⟩
    have B1 := hid_in (HB.out.later hb1); have M1 := hid_in (Mv.of_below (R := g) hb1)
    clear hb1
    go_wp2_with fail
    go_ret2
    exact ⟨rfl, B1.out, M1.out⟩
  have hk : sdK x now t = 0 := by unfold sdK; rw [if_neg h1, if_neg h2]
  obtain ⟨s1, hs1⟩ : ∃ s, x.sent + 1 = s := ⟨_, rfl⟩
  obtain ⟨a1, a2, a3, a4, a5, a6, a7, a8, a9, a10, a11, a12, a13, a14⟩ := saB_all hx
  have hlt := young_sent h2
  obtain ⟨k16, m1, m64⟩ := keysB_of a3
  have E1 := hid_in hk
  have E2 := hid_in (show sdX x now t = moreS x by unfold sdX; rw [if_pos hk])
  have E3 := hid_in (show sdT x now t = frmT x.key x.mac x.spi.toNat s1.toNat (bgnT x s1.toNat) t by unfold sdT; rw [if_pos hk, hs1])
  obtain ⟨va, hva⟩ : ∃ a, ageV x now = a := ⟨_, rfl⟩
  rw [hva] at h2
  have A := hid_in hva
  have u1 : IntKind.u64.wrap x.spi = x.spi := by rw [IntKind.wrap_u64]; omega
  have u2 : IntKind.u64.wrap s1 = s1 := by rw [IntKind.wrap_u64]; omega
  have u3 : IntKind.i64.wrap (x.sent + 1) = s1 := by rw [IntKind.wrap_i64]; omega
  have u4 : decide (va = 3) = false := by simpa using h2
  have n1 := Int.toNat_of_nonneg (show 0 ≤ x.spi by omega)
  have n2 := Int.toNat_of_nonneg (show 0 ≤ s1 by omega)
  have C1 := hid_in (fun W => by have := bytesOf_any x.spi.toNat 8 W (by omega) (by decide); rw [n1] at this; exact this)
  have C2 := hid_in (fun W => by have := bytesOf_any s1.toNat 8 W (by omega) (by decide); rw [n2] at this; exact this)
  have z1 := nbT_size x.spi.toNat 8
  have z2 := nbT_size s1.toNat 8
  have C3 := hid_in (fun W => putI x.key (nbT x.spi.toNat 8 ++ nbT s1.toNat 8) W (by omega) (by rw [ByteArray.size_append]; omega))
  have C4 := hid_in (fun W (k : GK W) => by
    have := frmI_ok x.key x.mac x.spi.toNat s1.toNat (bgnT x s1.toNat) t W k a3 (by omega) (by omega) (bgnT_size k16) (by omega)
    rw [n1, n2] at this
    exact this)
  rw [show putT x.key (nbT x.spi.toNat 8 ++ nbT s1.toNat 8) = bgnT x s1.toNat from rfl] at C3
  rw [show (⟨(be 8 x.spi.toNat).toArray⟩ : ByteArray) = nbT x.spi.toNat 8 from rfl] at C1
  rw [show (⟨(be 8 s1.toNat).toArray⟩ : ByteArray) = nbT s1.toNat 8 from rfl] at C2
  have S1 := hid_in hs1
  rw [E1.out, E2.out, E3.out]
  clear E1 E2 E3 hx hk h1 hva hs1 n1 n2 a1 a2 a3 a4 a5 a6 a7 a8 a9 a10 a11 a12 a13 a14 m1 m64 hlt
  generalize frmT x.key x.mac x.spi.toNat s1.toNat (bgnT x s1.toNat) t = F at *
  generalize bgnT x s1.toNat = Bg at *
  generalize nbT x.spi.toNat 8 = N1 at *
  generalize nbT s1.toNat 8 = N2 at *
  go_enter Tryz.func69, Tryz.ntmps69
  go_wp2_with fail
  refine (kage_any g x v now _ HB.out HX.out va A.out).mono ?_
  rintro e w1 ⟨rfl, hb1⟩
  have B1 := hid_in (HB.out.later hb1); have M1 := hid_in (Mv.of_below (R := g) hb1)
  have K1 := hid_in (HK.out.below hb1 HK.out.lt)
  clear hb1
  obtain ⟨l0, p0, p1, p2, p3, p4, p5, p6, p7, p8, p9, p10, pf⟩ := B1.out
  go_wp2_with fail
  have B2 := hid_in (SaBox.set8 (s := s1) B1.out)
  have M2 := hid_in (M1.out.setC 8 (.int .i64 s1))
  clear l0 p0 p1 p2 p3 p4 p5 p6 p7 p8 p9 p10 pf B1 M1 K1
  generalize w1.setCell ⟨g, 8, none⟩ (.int .i64 s1) = W2 at *
  have K2 := hid_in (HK.out.mv M2.out hg)
  obtain ⟨l0, p0, p1, p2, p3, p4, p5, p6, p7, p8, p9, p10, pf⟩ := B2.out
  refine wp_region_lat (Below.refl _ _) (by kernel_rfl) (by kernel_rfl) ?_
  intro hne hcl
  repeat (go_big_quiet_step (first | (go_at_call_of 53 (Value.int .u64 x.spi); exact lat_of (C1.out _)) | (go_at_call_of 53 (Value.int .u64 s1); exact lat_of (C2.out _))))
  refine wpQuiet_nil ?_
  intro w1 hb1
  obtain ⟨hc1, hf1⟩ := bcell hb1
  clear hne hcl
  have B3 := hid_in (B2.out.later hb1); have M3 := hid_in (M2.out.later hb1); have K3 := hid_in (HK.out.mv M3.out hg)
  clear l0 p0 p1 p2 p3 p4 p5 p6 p7 p8 p9 p10 pf B2 M2 K2 hb1
  obtain ⟨l0, p0, p1, p2, p3, p4, p5, p6, p7, p8, p9, p10, pf⟩ := B3.out
  go_wp2_with fail
  refine wp_region_lat (Below.refl _ _) (by kernel_rfl) (by kernel_rfl) ?_
  intro hne hcl
  repeat (go_big_quiet_step (first | (go_at_call 118; exact lat_of (C3.out _)) | (go_at_call 17; exact lat_of (C4.out _ (K3.out.below (Lat.h _) K3.out.lt)))))
  refine wpQuiet_nil ?_
  intro w1 hb1
  obtain ⟨hc1, hf1⟩ := bcell hb1
  clear hne hcl
  have B4 := hid_in (B3.out.later hb1); have M4 := hid_in (M3.out.later hb1)
  clear l0 p0 p1 p2 p3 p4 p5 p6 p7 p8 p9 p10 pf B3 M3 K3 hb1
  go_wp2_with fail
  go_ret2
  refine ⟨rfl, ?_, M4.out⟩
  have := B4.out
  rw [← S1.out] at this
  exact this
end Go.Proofs.YtefmmopkikpnhaaGreatDoor

