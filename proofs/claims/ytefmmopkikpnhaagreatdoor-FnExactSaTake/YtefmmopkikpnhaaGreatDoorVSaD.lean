/- What is proved: the contracts of SaD, SaE, one behind the other. The conditions stand at each theorem. -/
import Derived.Test.YtefmmopkikpnhaaGreatDoorVSCA
import Derived.Test.YtefmmopkikpnhaaGreatDoorVSCB
import Derived.Test.YtefmmopkikpnhaaGreatDoorVSCC
import Derived.Test.YtefmmopkikpnhaaGreatDoorVSCD
namespace Go.Proofs.YtefmmopkikpnhaaGreatDoor
open Go.RowKit Go.LatT Go.BlockM Go.OpnT Go.WinMath
set_option linter.unusedVariables false
set_option linter.unusedSimpArgs false
theorem boolOf (p : Prop) : ∃ v : Bool, (v = true ↔ p) := by
  by_cases h : p
  · exact ⟨true, by simp [h]⟩
  · exact ⟨false, by simp [h]⟩
theorem kok_any (g : Nat) (x : SaV) (a : Option Addr) (len cap : Nat) (E : Nat → Int) (w : World) (hB : SaBox w g x (.slice a len cap)) (hT : Ints w a len E) (hl : len ≤ 1048576) :
    Calls Tryz.prog 76 #[.pointer (some ⟨g, 0, none⟩)] w fun e w' => ∃ v, e = .returned (.bool v) ∧ (v = true ↔ saB x = true ∧ WOk x.top len E) ∧ Below w.heap.size w w' := by
  obtain ⟨c0, C0⟩ : ∃ c, inB x.spi 1 999 = c := ⟨_, rfl⟩
  obtain ⟨c1, C1⟩ : ∃ c, inB x.tun 0 3 = c := ⟨_, rfl⟩
  obtain ⟨c2, C2⟩ : ∃ c, keysB x.key x.mac = c := ⟨_, rfl⟩
  obtain ⟨c3, C3⟩ : ∃ c, inB x.since 0 1000000 = c := ⟨_, rfl⟩
  obtain ⟨c4, C4⟩ : ∃ c, inB x.soft 1 x.hard = c := ⟨_, rfl⟩
  obtain ⟨c5, C5⟩ : ∃ c, inB x.hard 1 1000000 = c := ⟨_, rfl⟩
  obtain ⟨c6, C6⟩ : ∃ c, inB x.ticks 1 1000000 = c := ⟨_, rfl⟩
  obtain ⟨c7, C7⟩ : ∃ c, inB x.sent 0 x.hard = c := ⟨_, rfl⟩
  have HS : saB x = (c0 && c1 && c2 && c3 && c4 && c5 && c6 && c7) := by rw [← C0, ← C1, ← C2, ← C3, ← C4, ← C5, ← C6, ← C7]; rfl
  rcases path3 c0 c1 c2 with rfl | ⟨rfl, rfl⟩ | ⟨rfl, rfl, rfl⟩ | ⟨rfl, rfl, rfl⟩
  · rcases path4 c3 c4 c5 c6 with rfl | ⟨rfl, rfl⟩ | ⟨rfl, rfl, rfl⟩ | ⟨rfl, rfl, rfl, rfl⟩ | ⟨rfl, rfl, rfl, rfl⟩
    · exact kok_A1 g x a len cap E w hB hT hl c1 c2 c4 c5 c6 c7 C0 C1 C2 C3 C4 C5 C6 C7 HS
    · exact kok_A2 g x a len cap E w hB hT hl c1 c2 c5 c6 c7 C0 C1 C2 C3 C4 C5 C6 C7 HS
    · exact kok_A3 g x a len cap E w hB hT hl c1 c2 c6 c7 C0 C1 C2 C3 C4 C5 C6 C7 HS
    · exact kok_A4 g x a len cap E w hB hT hl c1 c2 c7 C0 C1 C2 C3 C4 C5 C6 C7 HS
    · exact kok_A5 g x a len cap E w hB hT hl c1 c2 c7 C0 C1 C2 C3 C4 C5 C6 C7 HS
  · rcases path4 c3 c4 c5 c6 with rfl | ⟨rfl, rfl⟩ | ⟨rfl, rfl, rfl⟩ | ⟨rfl, rfl, rfl, rfl⟩ | ⟨rfl, rfl, rfl, rfl⟩
    · exact kok_B1 g x a len cap E w hB hT hl c2 c4 c5 c6 c7 C0 C1 C2 C3 C4 C5 C6 C7 HS
    · exact kok_B2 g x a len cap E w hB hT hl c2 c5 c6 c7 C0 C1 C2 C3 C4 C5 C6 C7 HS
    · exact kok_B3 g x a len cap E w hB hT hl c2 c6 c7 C0 C1 C2 C3 C4 C5 C6 C7 HS
    · exact kok_B4 g x a len cap E w hB hT hl c2 c7 C0 C1 C2 C3 C4 C5 C6 C7 HS
    · exact kok_B5 g x a len cap E w hB hT hl c2 c7 C0 C1 C2 C3 C4 C5 C6 C7 HS
  · rcases path4 c3 c4 c5 c6 with rfl | ⟨rfl, rfl⟩ | ⟨rfl, rfl, rfl⟩ | ⟨rfl, rfl, rfl, rfl⟩ | ⟨rfl, rfl, rfl, rfl⟩
    · exact kok_C1 g x a len cap E w hB hT hl c4 c5 c6 c7 C0 C1 C2 C3 C4 C5 C6 C7 HS
    · exact kok_C2 g x a len cap E w hB hT hl c5 c6 c7 C0 C1 C2 C3 C4 C5 C6 C7 HS
    · exact kok_C3 g x a len cap E w hB hT hl c6 c7 C0 C1 C2 C3 C4 C5 C6 C7 HS
    · exact kok_C4 g x a len cap E w hB hT hl c7 C0 C1 C2 C3 C4 C5 C6 C7 HS
    · exact kok_C5 g x a len cap E w hB hT hl c7 C0 C1 C2 C3 C4 C5 C6 C7 HS
  · rcases path4 c3 c4 c5 c6 with rfl | ⟨rfl, rfl⟩ | ⟨rfl, rfl, rfl⟩ | ⟨rfl, rfl, rfl, rfl⟩ | ⟨rfl, rfl, rfl, rfl⟩
    · exact kok_D1 g x a len cap E w hB hT hl c4 c5 c6 c7 C0 C1 C2 C3 C4 C5 C6 C7 HS
    · exact kok_D2 g x a len cap E w hB hT hl c5 c6 c7 C0 C1 C2 C3 C4 C5 C6 C7 HS
    · exact kok_D3 g x a len cap E w hB hT hl c6 c7 C0 C1 C2 C3 C4 C5 C6 C7 HS
    · exact kok_D4 g x a len cap E w hB hT hl c7 C0 C1 C2 C3 C4 C5 C6 C7 HS
    · cases c7
      · exact kok_sent g x a len cap E w hB hT hl C0 C1 C2 C3 C4 C5 C6 C7 HS
      · obtain ⟨v, V⟩ := boolOf (WOk x.top len E)
        exact kok_all g x a len cap E w hB hT hl C0 C1 C2 C3 C4 C5 C6 C7 HS v V
theorem owns_ints {w : World} {base len c : Nat} {a : Option Addr} {E : Nat → Int} (h : w.ownsRow base 3 1 (.slice a len c) len (i64s (LE E len))) : Ints w a len E := by
  obtain ⟨a', cap', e, hc, h2⟩ := IL.of_owns h (by simp [LE])
  simp [LE] at e
  obtain ⟨rfl, rfl⟩ := e
  rcases h2 with ⟨rfl, rfl⟩ | ⟨bb, off, rfl, hlt, hcell⟩
  · exact .inl (by simp [LE] at hc; exact hc)
  · exact .inr ⟨bb, off, rfl, hlt, fun i hi => by have := hcell i (by simpa [LE] using hi); rw [this]; simp [LE, hi]⟩
theorem saB_bounds {x : SaV} (h : saB x = true) : 0 ≤ x.since ∧ x.since ≤ 1000000 ∧ 1 ≤ x.ticks ∧ x.ticks ≤ 1000000 := by
  simp [saB, inB] at h
  omega
set_option maxHeartbeats 1000000 in
set_option maxRecDepth 100000 in
theorem kover_any (g : Nat) (x : SaV) (sv : Value) (now : Int) (w : World) (hB : SaBox w g x sv) (hx : saB x = true) (v : Bool) (hv : decide (x.since + 2 * x.ticks ≤ now) = v) :
    Calls Tryz.prog 123 #[.pointer (some ⟨g, 0, none⟩), .int .i64 now] w fun e w' => e = .returned (.bool v) ∧ Below w.heap.size w w' := by
  obtain ⟨b0, b1, b2, b3⟩ := saB_bounds hx
  have V := hid_in hv
  clear hv hx
  have e1 : IntKind.i64.wrap (2 * x.ticks) = 2 * x.ticks := by rw [IntKind.wrap_i64]; omega
  have e2 : IntKind.i64.wrap (x.since + 2 * x.ticks) = x.since + 2 * x.ticks := by rw [IntKind.wrap_i64]; omega
  obtain ⟨l0, p0, p1, p2, p3, p4, p5, p6, p7, p8, p9, p10, pf⟩ := hB
  clear pf
  go_enter Tryz.func123, Tryz.ntmps123
  go_wp2_with fail
  refine wp_region_lat (Below.refl _ _) (by kernel_rfl) (by kernel_rfl) ?_
  intro hne hcl
  repeat (go_big_quiet_step (first | (fail)))
  refine wpQuiet_nil ?_
  intro w1 hb1
  obtain ⟨hc1, hf1⟩ := bcell hb1
  clear hne hcl
  go_wp2_with fail
  go_ret
  exact ⟨ret_bool (by rw [← V.out]), hb1⟩
end Go.Proofs.YtefmmopkikpnhaaGreatDoor

namespace Go.Proofs.YtefmmopkikpnhaaGreatDoor
open Go.RowKit Go.LatT Go.BlockM Go.OpnT Go.WinMath
set_option linter.unusedVariables false
set_option linter.unusedSimpArgs false
set_option maxHeartbeats 1000000 in
set_option maxRecDepth 100000 in
theorem szSa_any (x : SaV) (a : Option Addr) (len cap : Nat) (w : World) (hk : (x.key.size : Int) ≤ 9223372036854775807) (hm : (x.mac.size : Int) ≤ 9223372036854775807) (hl : (len : Int) ≤ 9223372036854775807) (v : Int) (hv : (if (1048576 : Int) - x.key.size - x.mac.size - len < 0 then (-1 : Int) else (1048576 : Int) - x.key.size - x.mac.size - len) = v) :
    Calls Tryz.prog 24 #[vSa x a len cap, .int .i64 1048576] w fun e w' => e = .returned (.int .i64 v) ∧ Below w.heap.size w w' := by
  have V := hid_in hv
  clear hv
  by_cases h1 : (1048576 : Int) - x.key.size < 0
  · go_enter Tryz.func24, Tryz.ntmps24
    go_wp2_with fail
    go_ret
    exact ⟨ret_int (by rw [← V.out, if_pos (by omega)]), by go_grown⟩
  by_cases h2 : (1048576 : Int) - x.key.size - x.mac.size < 0
  · go_enter Tryz.func24, Tryz.ntmps24
    go_wp2_with fail
    go_ret
    exact ⟨ret_int (by rw [← V.out, if_pos (by omega)]), by go_grown⟩
  obtain ⟨n, hn⟩ : ∃ n, (1048576 : Int) - x.key.size - x.mac.size = n := ⟨_, rfl⟩
  have hn0 : 0 ≤ n := by omega
  have hn1 : n ≤ 1048576 := by omega
  have V2 : Hid ((if n - len < 0 then -1 else n - len) = v) := by show _ = v; rw [← V.out, ← hn]
  have NN := hid_in hn
  by_cases h3 : n - len < 0
  · have hv2 : v < 0 := by rw [← V2.out, if_pos h3]; omega
    have hv3 : Hid (v = -1) := by show _ = _; rw [← V2.out, if_pos h3]
    go_enter Tryz.func24, Tryz.ntmps24
    go_wp2_with fail
    refine (szWindow_any x.top a len cap _ n hn0 hn1 hl v V2.out).mono ?_
    rintro e w1 ⟨rfl, hb1⟩
    go_wp2_with fail
    go_ret
    exact ⟨ret_int hv3.out.symm, below_later (by go_grown) hb1⟩
  · have hv2 : ¬ v < 0 := by rw [← V2.out, if_neg h3]; omega
    go_enter Tryz.func24, Tryz.ntmps24
    go_wp2_with fail
    refine (szWindow_any x.top a len cap _ n hn0 hn1 hl v V2.out).mono ?_
    rintro e w1 ⟨rfl, hb1⟩
    go_wp2_with fail
    go_ret
    exact ⟨rfl, below_later (by go_grown) hb1⟩
theorem SaBox.newAt (w : World) (x : SaV) (v : Value) (ty : TypeId) (g : Nat) (hg : g = w.heap.size) : SaBox (w.alloc (.cells #[.int .i64 x.spi, .int .i64 x.tun, .string x.key, .string x.mac, .int .i64 x.since, .int .i64 x.soft, .int .i64 x.hard, .int .i64 x.ticks, .int .i64 x.sent, .int .i64 x.top, v] ty)) g x v := by
  rw [hg]; exact SaBox.new w x v ty
/-- No keys at all. -/
@[reducible] def zeroSa : SaV := ⟨0, 0, ⟨#[]⟩, ⟨#[]⟩, 0, 0, 0, 0, 0, 0⟩
/-- Keys whose window has no top yet. -/
@[reducible] def noTop (x : SaV) : SaV := ⟨x.spi, x.tun, x.key, x.mac, x.since, x.soft, x.hard, x.ticks, x.sent, 0⟩
set_option maxHeartbeats 2000000 in
set_option maxRecDepth 100000 in
theorem toSa_any (x : SaV) (a : Option Addr) (len cap : Nat) (E : Nat → Int) (w : World) (hT : Ints w a len E) (hl : len ≤ 1048576) :
    Calls Tryz.prog 26 #[vSa x a len cap] w fun e w' => ∃ b, e = .returned (vSa x (some ⟨b, 0, none⟩) len len) ∧ w.heap.size ≤ b ∧ IRow w' b len E ∧ Below w.heap.size w w' := by
  have HT := hid_in hT
  clear hT
  go_enter Tryz.func26, Tryz.ntmps26
  go_wp2_with fail
  refine (toWindow_any x.top a len cap E _ (HT.out.later (by go_grown)) hl).mono ?_
  rintro e w1 ⟨b, rfl, hb, hrow, hb1⟩
  have qR : SaBox w1 (w.heap.size + 1) zeroSa (.slice none 0 0) := by
    refine SaBox.later ?_ hb1
    refine SaBox.later ?_ (below_box _ _)
    refine SaBox.newAt _ zeroSa (.slice none 0 0) _ _ ?_
    simp
  have qO : SaBox w1 (w.heap.size + 1 + 1) (noTop x) (.slice none 0 0) := by
    refine SaBox.later ?_ hb1
    refine SaBox.newAt _ (noTop x) (.slice none 0 0) _ _ ?_
    simp
  obtain ⟨k0, r0, r1, r2, r3, r4, r5, r6, r7, r8, r9, r10, rf⟩ := qR
  obtain ⟨l0, p0, p1, p2, p3, p4, p5, p6, p7, p8, p9, p10, pf⟩ := qO
  have m1 : w.heap.size + 1 + 1 + 1 ≤ w1.heap.size := by have := hb1.size; simp at this; omega
  have m2 : w.heap.size + 1 + 1 + 1 ≤ b := by simp at hb; omega
  have Z1 : Hid (Below w.heap.size w w1) := below_later (by go_grown) hb1
  have M2 := hid_in m2; have HR := hid_in hrow
  clear hb1 hb hrow m2
  go_wp2_with fail
  have m2 := M2.out
  have ZW : Hid (Below w.heap.size w (((((((((((((w1.setCell ⟨w.heap.size + 1 + 1, 9, none⟩ (.int .i64 x.top)).setCell ⟨w.heap.size + 1 + 1, 10, none⟩ (.slice (some ⟨b, 0, none⟩) len len)).setCell ⟨w.heap.size + 1, 0, none⟩ (.int .i64 x.spi)).setCell ⟨w.heap.size + 1, 1, none⟩ (.int .i64 x.tun)).setCell ⟨w.heap.size + 1, 2, none⟩ (.string x.key)).setCell ⟨w.heap.size + 1, 3, none⟩ (.string x.mac)).setCell ⟨w.heap.size + 1, 4, none⟩ (.int .i64 x.since)).setCell ⟨w.heap.size + 1, 5, none⟩ (.int .i64 x.soft)).setCell ⟨w.heap.size + 1, 6, none⟩ (.int .i64 x.hard)).setCell ⟨w.heap.size + 1, 7, none⟩ (.int .i64 x.ticks)).setCell ⟨w.heap.size + 1, 8, none⟩ (.int .i64 x.sent)).setCell ⟨w.heap.size + 1, 9, none⟩ (.int .i64 x.top)).setCell ⟨w.heap.size + 1, 10, none⟩ (.slice (some ⟨b, 0, none⟩) len len))) := by
    show Below _ _ _
    iterate 13 refine Below.setCell ?_ (by simp; try omega) _
    exact Z1.out
  have RW : Hid (IRow (((((((((((((w1.setCell ⟨w.heap.size + 1 + 1, 9, none⟩ (.int .i64 x.top)).setCell ⟨w.heap.size + 1 + 1, 10, none⟩ (.slice (some ⟨b, 0, none⟩) len len)).setCell ⟨w.heap.size + 1, 0, none⟩ (.int .i64 x.spi)).setCell ⟨w.heap.size + 1, 1, none⟩ (.int .i64 x.tun)).setCell ⟨w.heap.size + 1, 2, none⟩ (.string x.key)).setCell ⟨w.heap.size + 1, 3, none⟩ (.string x.mac)).setCell ⟨w.heap.size + 1, 4, none⟩ (.int .i64 x.since)).setCell ⟨w.heap.size + 1, 5, none⟩ (.int .i64 x.soft)).setCell ⟨w.heap.size + 1, 6, none⟩ (.int .i64 x.hard)).setCell ⟨w.heap.size + 1, 7, none⟩ (.int .i64 x.ticks)).setCell ⟨w.heap.size + 1, 8, none⟩ (.int .i64 x.sent)).setCell ⟨w.heap.size + 1, 9, none⟩ (.int .i64 x.top)).setCell ⟨w.heap.size + 1, 10, none⟩ (.slice (some ⟨b, 0, none⟩) len len)) b len E) := by
    show IRow _ _ _ _
    iterate 13 refine IRow.set ?_ (by omega)
    exact HR.out
  have d0 : (((((((((((((w1.setCell ⟨w.heap.size + 1 + 1, 9, none⟩ (.int .i64 x.top)).setCell ⟨w.heap.size + 1 + 1, 10, none⟩ (.slice (some ⟨b, 0, none⟩) len len)).setCell ⟨w.heap.size + 1, 0, none⟩ (.int .i64 x.spi)).setCell ⟨w.heap.size + 1, 1, none⟩ (.int .i64 x.tun)).setCell ⟨w.heap.size + 1, 2, none⟩ (.string x.key)).setCell ⟨w.heap.size + 1, 3, none⟩ (.string x.mac)).setCell ⟨w.heap.size + 1, 4, none⟩ (.int .i64 x.since)).setCell ⟨w.heap.size + 1, 5, none⟩ (.int .i64 x.soft)).setCell ⟨w.heap.size + 1, 6, none⟩ (.int .i64 x.hard)).setCell ⟨w.heap.size + 1, 7, none⟩ (.int .i64 x.ticks)).setCell ⟨w.heap.size + 1, 8, none⟩ (.int .i64 x.sent)).setCell ⟨w.heap.size + 1, 9, none⟩ (.int .i64 x.top)).setCell ⟨w.heap.size + 1, 10, none⟩ (.slice (some ⟨b, 0, none⟩) len len)).cell? ⟨w.heap.size + 1, 0, none⟩ = some (.int .i64 x.spi) := by go_simp
  have d1 : (((((((((((((w1.setCell ⟨w.heap.size + 1 + 1, 9, none⟩ (.int .i64 x.top)).setCell ⟨w.heap.size + 1 + 1, 10, none⟩ (.slice (some ⟨b, 0, none⟩) len len)).setCell ⟨w.heap.size + 1, 0, none⟩ (.int .i64 x.spi)).setCell ⟨w.heap.size + 1, 1, none⟩ (.int .i64 x.tun)).setCell ⟨w.heap.size + 1, 2, none⟩ (.string x.key)).setCell ⟨w.heap.size + 1, 3, none⟩ (.string x.mac)).setCell ⟨w.heap.size + 1, 4, none⟩ (.int .i64 x.since)).setCell ⟨w.heap.size + 1, 5, none⟩ (.int .i64 x.soft)).setCell ⟨w.heap.size + 1, 6, none⟩ (.int .i64 x.hard)).setCell ⟨w.heap.size + 1, 7, none⟩ (.int .i64 x.ticks)).setCell ⟨w.heap.size + 1, 8, none⟩ (.int .i64 x.sent)).setCell ⟨w.heap.size + 1, 9, none⟩ (.int .i64 x.top)).setCell ⟨w.heap.size + 1, 10, none⟩ (.slice (some ⟨b, 0, none⟩) len len)).cell? ⟨w.heap.size + 1, 1, none⟩ = some (.int .i64 x.tun) := by go_simp
  have d2 : (((((((((((((w1.setCell ⟨w.heap.size + 1 + 1, 9, none⟩ (.int .i64 x.top)).setCell ⟨w.heap.size + 1 + 1, 10, none⟩ (.slice (some ⟨b, 0, none⟩) len len)).setCell ⟨w.heap.size + 1, 0, none⟩ (.int .i64 x.spi)).setCell ⟨w.heap.size + 1, 1, none⟩ (.int .i64 x.tun)).setCell ⟨w.heap.size + 1, 2, none⟩ (.string x.key)).setCell ⟨w.heap.size + 1, 3, none⟩ (.string x.mac)).setCell ⟨w.heap.size + 1, 4, none⟩ (.int .i64 x.since)).setCell ⟨w.heap.size + 1, 5, none⟩ (.int .i64 x.soft)).setCell ⟨w.heap.size + 1, 6, none⟩ (.int .i64 x.hard)).setCell ⟨w.heap.size + 1, 7, none⟩ (.int .i64 x.ticks)).setCell ⟨w.heap.size + 1, 8, none⟩ (.int .i64 x.sent)).setCell ⟨w.heap.size + 1, 9, none⟩ (.int .i64 x.top)).setCell ⟨w.heap.size + 1, 10, none⟩ (.slice (some ⟨b, 0, none⟩) len len)).cell? ⟨w.heap.size + 1, 2, none⟩ = some (.string x.key) := by go_simp
  have d3 : (((((((((((((w1.setCell ⟨w.heap.size + 1 + 1, 9, none⟩ (.int .i64 x.top)).setCell ⟨w.heap.size + 1 + 1, 10, none⟩ (.slice (some ⟨b, 0, none⟩) len len)).setCell ⟨w.heap.size + 1, 0, none⟩ (.int .i64 x.spi)).setCell ⟨w.heap.size + 1, 1, none⟩ (.int .i64 x.tun)).setCell ⟨w.heap.size + 1, 2, none⟩ (.string x.key)).setCell ⟨w.heap.size + 1, 3, none⟩ (.string x.mac)).setCell ⟨w.heap.size + 1, 4, none⟩ (.int .i64 x.since)).setCell ⟨w.heap.size + 1, 5, none⟩ (.int .i64 x.soft)).setCell ⟨w.heap.size + 1, 6, none⟩ (.int .i64 x.hard)).setCell ⟨w.heap.size + 1, 7, none⟩ (.int .i64 x.ticks)).setCell ⟨w.heap.size + 1, 8, none⟩ (.int .i64 x.sent)).setCell ⟨w.heap.size + 1, 9, none⟩ (.int .i64 x.top)).setCell ⟨w.heap.size + 1, 10, none⟩ (.slice (some ⟨b, 0, none⟩) len len)).cell? ⟨w.heap.size + 1, 3, none⟩ = some (.string x.mac) := by go_simp
  have d4 : (((((((((((((w1.setCell ⟨w.heap.size + 1 + 1, 9, none⟩ (.int .i64 x.top)).setCell ⟨w.heap.size + 1 + 1, 10, none⟩ (.slice (some ⟨b, 0, none⟩) len len)).setCell ⟨w.heap.size + 1, 0, none⟩ (.int .i64 x.spi)).setCell ⟨w.heap.size + 1, 1, none⟩ (.int .i64 x.tun)).setCell ⟨w.heap.size + 1, 2, none⟩ (.string x.key)).setCell ⟨w.heap.size + 1, 3, none⟩ (.string x.mac)).setCell ⟨w.heap.size + 1, 4, none⟩ (.int .i64 x.since)).setCell ⟨w.heap.size + 1, 5, none⟩ (.int .i64 x.soft)).setCell ⟨w.heap.size + 1, 6, none⟩ (.int .i64 x.hard)).setCell ⟨w.heap.size + 1, 7, none⟩ (.int .i64 x.ticks)).setCell ⟨w.heap.size + 1, 8, none⟩ (.int .i64 x.sent)).setCell ⟨w.heap.size + 1, 9, none⟩ (.int .i64 x.top)).setCell ⟨w.heap.size + 1, 10, none⟩ (.slice (some ⟨b, 0, none⟩) len len)).cell? ⟨w.heap.size + 1, 4, none⟩ = some (.int .i64 x.since) := by go_simp
  have d5 : (((((((((((((w1.setCell ⟨w.heap.size + 1 + 1, 9, none⟩ (.int .i64 x.top)).setCell ⟨w.heap.size + 1 + 1, 10, none⟩ (.slice (some ⟨b, 0, none⟩) len len)).setCell ⟨w.heap.size + 1, 0, none⟩ (.int .i64 x.spi)).setCell ⟨w.heap.size + 1, 1, none⟩ (.int .i64 x.tun)).setCell ⟨w.heap.size + 1, 2, none⟩ (.string x.key)).setCell ⟨w.heap.size + 1, 3, none⟩ (.string x.mac)).setCell ⟨w.heap.size + 1, 4, none⟩ (.int .i64 x.since)).setCell ⟨w.heap.size + 1, 5, none⟩ (.int .i64 x.soft)).setCell ⟨w.heap.size + 1, 6, none⟩ (.int .i64 x.hard)).setCell ⟨w.heap.size + 1, 7, none⟩ (.int .i64 x.ticks)).setCell ⟨w.heap.size + 1, 8, none⟩ (.int .i64 x.sent)).setCell ⟨w.heap.size + 1, 9, none⟩ (.int .i64 x.top)).setCell ⟨w.heap.size + 1, 10, none⟩ (.slice (some ⟨b, 0, none⟩) len len)).cell? ⟨w.heap.size + 1, 5, none⟩ = some (.int .i64 x.soft) := by go_simp
  have d6 : (((((((((((((w1.setCell ⟨w.heap.size + 1 + 1, 9, none⟩ (.int .i64 x.top)).setCell ⟨w.heap.size + 1 + 1, 10, none⟩ (.slice (some ⟨b, 0, none⟩) len len)).setCell ⟨w.heap.size + 1, 0, none⟩ (.int .i64 x.spi)).setCell ⟨w.heap.size + 1, 1, none⟩ (.int .i64 x.tun)).setCell ⟨w.heap.size + 1, 2, none⟩ (.string x.key)).setCell ⟨w.heap.size + 1, 3, none⟩ (.string x.mac)).setCell ⟨w.heap.size + 1, 4, none⟩ (.int .i64 x.since)).setCell ⟨w.heap.size + 1, 5, none⟩ (.int .i64 x.soft)).setCell ⟨w.heap.size + 1, 6, none⟩ (.int .i64 x.hard)).setCell ⟨w.heap.size + 1, 7, none⟩ (.int .i64 x.ticks)).setCell ⟨w.heap.size + 1, 8, none⟩ (.int .i64 x.sent)).setCell ⟨w.heap.size + 1, 9, none⟩ (.int .i64 x.top)).setCell ⟨w.heap.size + 1, 10, none⟩ (.slice (some ⟨b, 0, none⟩) len len)).cell? ⟨w.heap.size + 1, 6, none⟩ = some (.int .i64 x.hard) := by go_simp
  have d7 : (((((((((((((w1.setCell ⟨w.heap.size + 1 + 1, 9, none⟩ (.int .i64 x.top)).setCell ⟨w.heap.size + 1 + 1, 10, none⟩ (.slice (some ⟨b, 0, none⟩) len len)).setCell ⟨w.heap.size + 1, 0, none⟩ (.int .i64 x.spi)).setCell ⟨w.heap.size + 1, 1, none⟩ (.int .i64 x.tun)).setCell ⟨w.heap.size + 1, 2, none⟩ (.string x.key)).setCell ⟨w.heap.size + 1, 3, none⟩ (.string x.mac)).setCell ⟨w.heap.size + 1, 4, none⟩ (.int .i64 x.since)).setCell ⟨w.heap.size + 1, 5, none⟩ (.int .i64 x.soft)).setCell ⟨w.heap.size + 1, 6, none⟩ (.int .i64 x.hard)).setCell ⟨w.heap.size + 1, 7, none⟩ (.int .i64 x.ticks)).setCell ⟨w.heap.size + 1, 8, none⟩ (.int .i64 x.sent)).setCell ⟨w.heap.size + 1, 9, none⟩ (.int .i64 x.top)).setCell ⟨w.heap.size + 1, 10, none⟩ (.slice (some ⟨b, 0, none⟩) len len)).cell? ⟨w.heap.size + 1, 7, none⟩ = some (.int .i64 x.ticks) := by go_simp
  have d8 : (((((((((((((w1.setCell ⟨w.heap.size + 1 + 1, 9, none⟩ (.int .i64 x.top)).setCell ⟨w.heap.size + 1 + 1, 10, none⟩ (.slice (some ⟨b, 0, none⟩) len len)).setCell ⟨w.heap.size + 1, 0, none⟩ (.int .i64 x.spi)).setCell ⟨w.heap.size + 1, 1, none⟩ (.int .i64 x.tun)).setCell ⟨w.heap.size + 1, 2, none⟩ (.string x.key)).setCell ⟨w.heap.size + 1, 3, none⟩ (.string x.mac)).setCell ⟨w.heap.size + 1, 4, none⟩ (.int .i64 x.since)).setCell ⟨w.heap.size + 1, 5, none⟩ (.int .i64 x.soft)).setCell ⟨w.heap.size + 1, 6, none⟩ (.int .i64 x.hard)).setCell ⟨w.heap.size + 1, 7, none⟩ (.int .i64 x.ticks)).setCell ⟨w.heap.size + 1, 8, none⟩ (.int .i64 x.sent)).setCell ⟨w.heap.size + 1, 9, none⟩ (.int .i64 x.top)).setCell ⟨w.heap.size + 1, 10, none⟩ (.slice (some ⟨b, 0, none⟩) len len)).cell? ⟨w.heap.size + 1, 8, none⟩ = some (.int .i64 x.sent) := by go_simp
  have d9 : (((((((((((((w1.setCell ⟨w.heap.size + 1 + 1, 9, none⟩ (.int .i64 x.top)).setCell ⟨w.heap.size + 1 + 1, 10, none⟩ (.slice (some ⟨b, 0, none⟩) len len)).setCell ⟨w.heap.size + 1, 0, none⟩ (.int .i64 x.spi)).setCell ⟨w.heap.size + 1, 1, none⟩ (.int .i64 x.tun)).setCell ⟨w.heap.size + 1, 2, none⟩ (.string x.key)).setCell ⟨w.heap.size + 1, 3, none⟩ (.string x.mac)).setCell ⟨w.heap.size + 1, 4, none⟩ (.int .i64 x.since)).setCell ⟨w.heap.size + 1, 5, none⟩ (.int .i64 x.soft)).setCell ⟨w.heap.size + 1, 6, none⟩ (.int .i64 x.hard)).setCell ⟨w.heap.size + 1, 7, none⟩ (.int .i64 x.ticks)).setCell ⟨w.heap.size + 1, 8, none⟩ (.int .i64 x.sent)).setCell ⟨w.heap.size + 1, 9, none⟩ (.int .i64 x.top)).setCell ⟨w.heap.size + 1, 10, none⟩ (.slice (some ⟨b, 0, none⟩) len len)).cell? ⟨w.heap.size + 1, 9, none⟩ = some (.int .i64 x.top) := by go_simp
  have d10 : (((((((((((((w1.setCell ⟨w.heap.size + 1 + 1, 9, none⟩ (.int .i64 x.top)).setCell ⟨w.heap.size + 1 + 1, 10, none⟩ (.slice (some ⟨b, 0, none⟩) len len)).setCell ⟨w.heap.size + 1, 0, none⟩ (.int .i64 x.spi)).setCell ⟨w.heap.size + 1, 1, none⟩ (.int .i64 x.tun)).setCell ⟨w.heap.size + 1, 2, none⟩ (.string x.key)).setCell ⟨w.heap.size + 1, 3, none⟩ (.string x.mac)).setCell ⟨w.heap.size + 1, 4, none⟩ (.int .i64 x.since)).setCell ⟨w.heap.size + 1, 5, none⟩ (.int .i64 x.soft)).setCell ⟨w.heap.size + 1, 6, none⟩ (.int .i64 x.hard)).setCell ⟨w.heap.size + 1, 7, none⟩ (.int .i64 x.ticks)).setCell ⟨w.heap.size + 1, 8, none⟩ (.int .i64 x.sent)).setCell ⟨w.heap.size + 1, 9, none⟩ (.int .i64 x.top)).setCell ⟨w.heap.size + 1, 10, none⟩ (.slice (some ⟨b, 0, none⟩) len len)).cell? ⟨w.heap.size + 1, 10, none⟩ = some (.slice (some ⟨b, 0, none⟩) len len) := by go_simp
  generalize (((((((((((((w1.setCell ⟨w.heap.size + 1 + 1, 9, none⟩ (.int .i64 x.top)).setCell ⟨w.heap.size + 1 + 1, 10, none⟩ (.slice (some ⟨b, 0, none⟩) len len)).setCell ⟨w.heap.size + 1, 0, none⟩ (.int .i64 x.spi)).setCell ⟨w.heap.size + 1, 1, none⟩ (.int .i64 x.tun)).setCell ⟨w.heap.size + 1, 2, none⟩ (.string x.key)).setCell ⟨w.heap.size + 1, 3, none⟩ (.string x.mac)).setCell ⟨w.heap.size + 1, 4, none⟩ (.int .i64 x.since)).setCell ⟨w.heap.size + 1, 5, none⟩ (.int .i64 x.soft)).setCell ⟨w.heap.size + 1, 6, none⟩ (.int .i64 x.hard)).setCell ⟨w.heap.size + 1, 7, none⟩ (.int .i64 x.ticks)).setCell ⟨w.heap.size + 1, 8, none⟩ (.int .i64 x.sent)).setCell ⟨w.heap.size + 1, 9, none⟩ (.int .i64 x.top)).setCell ⟨w.heap.size + 1, 10, none⟩ (.slice (some ⟨b, 0, none⟩) len len)) = W at *
  clear r0 r1 r2 r3 r4 r5 r6 r7 r8 r9 r10 rf p0 p1 p2 p3 p4 p5 p6 p7 p8 p9 p10 pf
  exact bodyPost_ret (v := vSa x (some ⟨b, 0, none⟩) len len) (by simp [results, Tryz.results26, go_sem, d0, d1, d2, d3, d4, d5, d6, d7, d8, d9, d10]) rfl ⟨b, rfl, by omega, RW.out, ZW.out⟩
set_option maxHeartbeats 2000000 in
set_option maxRecDepth 100000 in
theorem eqSa_self (x : SaV) (a1 a2 : Option Addr) (len c1 c2 : Nat) (E : Nat → Int) (w : World) (hT : Ints w a1 len E) (hU : Ints w a2 len E) (hl : len ≤ 1048576) :
    Calls Tryz.prog 28 #[vSa x a1 len c1, vSa x a2 len c2] w fun e w' => e = .returned (.bool true) ∧ Below w.heap.size w w' := by
  have HT := hid_in hT; have HU := hid_in hU
  clear hT hU
  go_enter Tryz.func28, Tryz.ntmps28
  go_wp2_with fail
  refine (eqWindow_self x.top a1 a2 len c1 c2 E _ (HT.out.later (by go_grown)) (HU.out.later (by go_grown)) hl).mono ?_
  rintro e w1 ⟨rfl, hb1⟩
  go_wp2_with fail
  go_ret
  exact ⟨rfl, below_later (by go_grown) hb1⟩
end Go.Proofs.YtefmmopkikpnhaaGreatDoor

