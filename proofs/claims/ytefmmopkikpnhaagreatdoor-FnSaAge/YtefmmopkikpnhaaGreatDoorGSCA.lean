/- What is proved: the contracts of SaCA, one behind the other. The conditions stand at each theorem. -/
import Derived.Test.YtefmmopkikpnhaaGreatDoorGSaB
namespace Go.Proofs.YtefmmopkikpnhaaGreatDoor
open Go.RowKit Go.LatT Go.BlockM Go.OpnT Go.WinMath
set_option linter.unusedVariables false
set_option linter.unusedSimpArgs false
set_option maxHeartbeats 8000000 in
set_option maxRecDepth 100000 in
theorem kok_A1 (g : Nat) (x : SaV) (a : Option Addr) (len cap : Nat) (E : Nat → Int) (w : World) (hB : SaBox w g x (.slice a len cap)) (hT : Ints w a len E) (hl : len ≤ 1048576) (c1 c2 c4 c5 c6 c7 : Bool) (C0 : Hid (inB x.spi 1 999 = false)) (C1 : Hid (inB x.tun 0 3 = c1)) (C2 : Hid (keysB x.key x.mac = c2)) (C3 : Hid (inB x.since 0 1000000 = false)) (C4 : Hid (inB x.soft 1 x.hard = c4)) (C5 : Hid (inB x.hard 1 1000000 = c5)) (C6 : Hid (inB x.ticks 1 1000000 = c6)) (C7 : Hid (inB x.sent 0 x.hard = c7)) (HS : Hid (saB x = (false && c1 && c2 && false && c4 && c5 && c6 && c7))) :
    Calls Tryz.prog 76 #[.pointer (some ⟨g, 0, none⟩)] w fun e w' => ∃ v, e = .returned (.bool v) ∧ (v = true ↔ saB x = true ∧ WOk x.top len E) ∧ Below w.heap.size w w' := by
  have HT := hid_in hT
  have HB := hid_in hB
  clear hT
  obtain ⟨l0, p0, p1, p2, p3, p4, p5, p6, p7, p8, p9, p10, pf⟩ := hB
  clear pf
  go_enter Tryz.func76, Tryz.ntmps76
  go_wp2_with fail
  have zW : Below w.heap.size w ((w.alloc (Obj.cells #[.int .i64 1, .int .i64 x.hard] 105)).alloc (Obj.cells #[.int .i64 1, .int .i64 1000000] 105)) := by go_grown
  have sW : ((w.alloc (Obj.cells #[.int .i64 1, .int .i64 x.hard] 105)).alloc (Obj.cells #[.int .i64 1, .int .i64 1000000] 105)).heap.size = w.heap.size + 1 + 1 := by simp
  have Wc0 : ((w.alloc (Obj.cells #[.int .i64 1, .int .i64 x.hard] 105)).alloc (Obj.cells #[.int .i64 1, .int .i64 1000000] 105)).cell? ⟨w.heap.size, 0, none⟩ = some (.int .i64 1) := by go_simp
  have Wc1 : ((w.alloc (Obj.cells #[.int .i64 1, .int .i64 x.hard] 105)).alloc (Obj.cells #[.int .i64 1, .int .i64 1000000] 105)).cell? ⟨w.heap.size, 1, none⟩ = some (.int .i64 x.hard) := by go_simp
  have Wc2 : ((w.alloc (Obj.cells #[.int .i64 1, .int .i64 x.hard] 105)).alloc (Obj.cells #[.int .i64 1, .int .i64 1000000] 105)).cell? ⟨w.heap.size + 1, 0, none⟩ = some (.int .i64 1) := by go_simp
  have Wc3 : ((w.alloc (Obj.cells #[.int .i64 1, .int .i64 x.hard] 105)).alloc (Obj.cells #[.int .i64 1, .int .i64 1000000] 105)).cell? ⟨w.heap.size + 1, 1, none⟩ = some (.int .i64 1000000) := by go_simp
  generalize ((w.alloc (Obj.cells #[.int .i64 1, .int .i64 x.hard] 105)).alloc (Obj.cells #[.int .i64 1, .int .i64 1000000] 105)) = W at *
  have HZ := hid_in zW
  have BW := hid_in (HB.out.later zW)
  clear l0 p0 p1 p2 p3 p4 p5 p6 p7 p8 p9 p10
  obtain ⟨l0, p0, p1, p2, p3, p4, p5, p6, p7, p8, p9, p10, pf⟩ := HB.out.later zW
  clear pf zW
  have l1 : w.heap.size < W.heap.size := by omega
  have l2 : w.heap.size + 1 < W.heap.size := by omega
  have SW := hid_in sW
  clear sW
  refine wp_region_lat (Below.refl _ _) (by kernel_rfl) (by kernel_rfl) ?_
  intro hne hcl
  repeat (go_big_quiet_step (first | (go_at_call 94; exact lat_of (spiOk_any x.spi _ _ C0.out)) | (go_at_call 90; exact lat_of (rhas_any 0 3 x.tun _ _ C1.out)) | (go_at_call 46; exact lat_of (keysOk_any x.key x.mac _ _ C2.out))))
  refine wpQuiet_nil ?_
  intro w1 hb1
  obtain ⟨hc1, hf1⟩ := bcell hb1
  clear hne hcl
  go_wp2_with fail
  clear hc1 hf1
  refine wp_region_lat hb1 (by kernel_rfl) (by kernel_rfl) ?_
  intro hne hcl
  repeat (go_big_quiet_step (first | (go_at_call_of 90 (Value.int IntKind.i64 x.since); exact lat_of (rhas_any 0 1000000 x.since _ _ C3.out)) | (go_at_call_of 90 (Value.int IntKind.i64 x.soft); exact lat_of (rhas_any 1 x.hard x.soft _ _ C4.out)) | (go_at_call_of 90 (Value.int IntKind.i64 x.ticks); exact lat_of (rhas_any 1 1000000 x.ticks _ _ C6.out)) | (go_at_call 90; exact lat_of (rhas_any 1 1000000 x.hard _ _ C5.out))))
  refine wpQuiet_nil ?_
  intro w2 hb2
  obtain ⟨hc2, hf2⟩ := bcell hb2
  clear hne hcl
  go_wp2_with fail
  clear hc2 hf2
  refine wp_region_lat hb2 (by kernel_rfl) (by kernel_rfl) ?_
  intro hne hcl
  repeat (go_big_quiet_step (first | (fail)))
  refine wpQuiet_nil ?_
  intro w3 hb3
  obtain ⟨hc3, hf3⟩ := bcell hb3
  clear hne hcl
  go_wp2_with fail
  go_ret
  exact ⟨_, rfl, sa_no (by rw [HS.out]; simp), below_later HZ.out hb3⟩
set_option maxHeartbeats 8000000 in
set_option maxRecDepth 100000 in
theorem kok_A2 (g : Nat) (x : SaV) (a : Option Addr) (len cap : Nat) (E : Nat → Int) (w : World) (hB : SaBox w g x (.slice a len cap)) (hT : Ints w a len E) (hl : len ≤ 1048576) (c1 c2 c5 c6 c7 : Bool) (C0 : Hid (inB x.spi 1 999 = false)) (C1 : Hid (inB x.tun 0 3 = c1)) (C2 : Hid (keysB x.key x.mac = c2)) (C3 : Hid (inB x.since 0 1000000 = true)) (C4 : Hid (inB x.soft 1 x.hard = false)) (C5 : Hid (inB x.hard 1 1000000 = c5)) (C6 : Hid (inB x.ticks 1 1000000 = c6)) (C7 : Hid (inB x.sent 0 x.hard = c7)) (HS : Hid (saB x = (false && c1 && c2 && true && false && c5 && c6 && c7))) :
    Calls Tryz.prog 76 #[.pointer (some ⟨g, 0, none⟩)] w fun e w' => ∃ v, e = .returned (.bool v) ∧ (v = true ↔ saB x = true ∧ WOk x.top len E) ∧ Below w.heap.size w w' := by
  have HT := hid_in hT
  have HB := hid_in hB
  clear hT
  obtain ⟨l0, p0, p1, p2, p3, p4, p5, p6, p7, p8, p9, p10, pf⟩ := hB
  clear pf
  go_enter Tryz.func76, Tryz.ntmps76
  go_wp2_with fail
  have zW : Below w.heap.size w ((w.alloc (Obj.cells #[.int .i64 1, .int .i64 x.hard] 105)).alloc (Obj.cells #[.int .i64 1, .int .i64 1000000] 105)) := by go_grown
  have sW : ((w.alloc (Obj.cells #[.int .i64 1, .int .i64 x.hard] 105)).alloc (Obj.cells #[.int .i64 1, .int .i64 1000000] 105)).heap.size = w.heap.size + 1 + 1 := by simp
  have Wc0 : ((w.alloc (Obj.cells #[.int .i64 1, .int .i64 x.hard] 105)).alloc (Obj.cells #[.int .i64 1, .int .i64 1000000] 105)).cell? ⟨w.heap.size, 0, none⟩ = some (.int .i64 1) := by go_simp
  have Wc1 : ((w.alloc (Obj.cells #[.int .i64 1, .int .i64 x.hard] 105)).alloc (Obj.cells #[.int .i64 1, .int .i64 1000000] 105)).cell? ⟨w.heap.size, 1, none⟩ = some (.int .i64 x.hard) := by go_simp
  have Wc2 : ((w.alloc (Obj.cells #[.int .i64 1, .int .i64 x.hard] 105)).alloc (Obj.cells #[.int .i64 1, .int .i64 1000000] 105)).cell? ⟨w.heap.size + 1, 0, none⟩ = some (.int .i64 1) := by go_simp
  have Wc3 : ((w.alloc (Obj.cells #[.int .i64 1, .int .i64 x.hard] 105)).alloc (Obj.cells #[.int .i64 1, .int .i64 1000000] 105)).cell? ⟨w.heap.size + 1, 1, none⟩ = some (.int .i64 1000000) := by go_simp
  generalize ((w.alloc (Obj.cells #[.int .i64 1, .int .i64 x.hard] 105)).alloc (Obj.cells #[.int .i64 1, .int .i64 1000000] 105)) = W at *
  have HZ := hid_in zW
  have BW := hid_in (HB.out.later zW)
  clear l0 p0 p1 p2 p3 p4 p5 p6 p7 p8 p9 p10
  obtain ⟨l0, p0, p1, p2, p3, p4, p5, p6, p7, p8, p9, p10, pf⟩ := HB.out.later zW
  clear pf zW
  have l1 : w.heap.size < W.heap.size := by omega
  have l2 : w.heap.size + 1 < W.heap.size := by omega
  have SW := hid_in sW
  clear sW
  refine wp_region_lat (Below.refl _ _) (by kernel_rfl) (by kernel_rfl) ?_
  intro hne hcl
  repeat (go_big_quiet_step (first | (go_at_call 94; exact lat_of (spiOk_any x.spi _ _ C0.out)) | (go_at_call 90; exact lat_of (rhas_any 0 3 x.tun _ _ C1.out)) | (go_at_call 46; exact lat_of (keysOk_any x.key x.mac _ _ C2.out))))
  refine wpQuiet_nil ?_
  intro w1 hb1
  obtain ⟨hc1, hf1⟩ := bcell hb1
  clear hne hcl
  go_wp2_with fail
  clear hc1 hf1
  refine wp_region_lat hb1 (by kernel_rfl) (by kernel_rfl) ?_
  intro hne hcl
  repeat (go_big_quiet_step (first | (go_at_call_of 90 (Value.int IntKind.i64 x.since); exact lat_of (rhas_any 0 1000000 x.since _ _ C3.out)) | (go_at_call_of 90 (Value.int IntKind.i64 x.soft); exact lat_of (rhas_any 1 x.hard x.soft _ _ C4.out)) | (go_at_call_of 90 (Value.int IntKind.i64 x.ticks); exact lat_of (rhas_any 1 1000000 x.ticks _ _ C6.out)) | (go_at_call 90; exact lat_of (rhas_any 1 1000000 x.hard _ _ C5.out))))
  refine wpQuiet_nil ?_
  intro w2 hb2
  obtain ⟨hc2, hf2⟩ := bcell hb2
  clear hne hcl
  go_wp2_with fail
  clear hc2 hf2
  refine wp_region_lat hb2 (by kernel_rfl) (by kernel_rfl) ?_
  intro hne hcl
  repeat (go_big_quiet_step (first | (fail)))
  refine wpQuiet_nil ?_
  intro w3 hb3
  obtain ⟨hc3, hf3⟩ := bcell hb3
  clear hne hcl
  go_wp2_with fail
  go_ret
  exact ⟨_, rfl, sa_no (by rw [HS.out]; simp), below_later HZ.out hb3⟩
set_option maxHeartbeats 8000000 in
set_option maxRecDepth 100000 in
theorem kok_A3 (g : Nat) (x : SaV) (a : Option Addr) (len cap : Nat) (E : Nat → Int) (w : World) (hB : SaBox w g x (.slice a len cap)) (hT : Ints w a len E) (hl : len ≤ 1048576) (c1 c2 c6 c7 : Bool) (C0 : Hid (inB x.spi 1 999 = false)) (C1 : Hid (inB x.tun 0 3 = c1)) (C2 : Hid (keysB x.key x.mac = c2)) (C3 : Hid (inB x.since 0 1000000 = true)) (C4 : Hid (inB x.soft 1 x.hard = true)) (C5 : Hid (inB x.hard 1 1000000 = false)) (C6 : Hid (inB x.ticks 1 1000000 = c6)) (C7 : Hid (inB x.sent 0 x.hard = c7)) (HS : Hid (saB x = (false && c1 && c2 && true && true && false && c6 && c7))) :
    Calls Tryz.prog 76 #[.pointer (some ⟨g, 0, none⟩)] w fun e w' => ∃ v, e = .returned (.bool v) ∧ (v = true ↔ saB x = true ∧ WOk x.top len E) ∧ Below w.heap.size w w' := by
  have HT := hid_in hT
  have HB := hid_in hB
  clear hT
  obtain ⟨l0, p0, p1, p2, p3, p4, p5, p6, p7, p8, p9, p10, pf⟩ := hB
  clear pf
  go_enter Tryz.func76, Tryz.ntmps76
  go_wp2_with fail
  have zW : Below w.heap.size w ((w.alloc (Obj.cells #[.int .i64 1, .int .i64 x.hard] 105)).alloc (Obj.cells #[.int .i64 1, .int .i64 1000000] 105)) := by go_grown
  have sW : ((w.alloc (Obj.cells #[.int .i64 1, .int .i64 x.hard] 105)).alloc (Obj.cells #[.int .i64 1, .int .i64 1000000] 105)).heap.size = w.heap.size + 1 + 1 := by simp
  have Wc0 : ((w.alloc (Obj.cells #[.int .i64 1, .int .i64 x.hard] 105)).alloc (Obj.cells #[.int .i64 1, .int .i64 1000000] 105)).cell? ⟨w.heap.size, 0, none⟩ = some (.int .i64 1) := by go_simp
  have Wc1 : ((w.alloc (Obj.cells #[.int .i64 1, .int .i64 x.hard] 105)).alloc (Obj.cells #[.int .i64 1, .int .i64 1000000] 105)).cell? ⟨w.heap.size, 1, none⟩ = some (.int .i64 x.hard) := by go_simp
  have Wc2 : ((w.alloc (Obj.cells #[.int .i64 1, .int .i64 x.hard] 105)).alloc (Obj.cells #[.int .i64 1, .int .i64 1000000] 105)).cell? ⟨w.heap.size + 1, 0, none⟩ = some (.int .i64 1) := by go_simp
  have Wc3 : ((w.alloc (Obj.cells #[.int .i64 1, .int .i64 x.hard] 105)).alloc (Obj.cells #[.int .i64 1, .int .i64 1000000] 105)).cell? ⟨w.heap.size + 1, 1, none⟩ = some (.int .i64 1000000) := by go_simp
  generalize ((w.alloc (Obj.cells #[.int .i64 1, .int .i64 x.hard] 105)).alloc (Obj.cells #[.int .i64 1, .int .i64 1000000] 105)) = W at *
  have HZ := hid_in zW
  have BW := hid_in (HB.out.later zW)
  clear l0 p0 p1 p2 p3 p4 p5 p6 p7 p8 p9 p10
  obtain ⟨l0, p0, p1, p2, p3, p4, p5, p6, p7, p8, p9, p10, pf⟩ := HB.out.later zW
  clear pf zW
  have l1 : w.heap.size < W.heap.size := by omega
  have l2 : w.heap.size + 1 < W.heap.size := by omega
  have SW := hid_in sW
  clear sW
  refine wp_region_lat (Below.refl _ _) (by kernel_rfl) (by kernel_rfl) ?_
  intro hne hcl
  repeat (go_big_quiet_step (first | (go_at_call 94; exact lat_of (spiOk_any x.spi _ _ C0.out)) | (go_at_call 90; exact lat_of (rhas_any 0 3 x.tun _ _ C1.out)) | (go_at_call 46; exact lat_of (keysOk_any x.key x.mac _ _ C2.out))))
  refine wpQuiet_nil ?_
  intro w1 hb1
  obtain ⟨hc1, hf1⟩ := bcell hb1
  clear hne hcl
  go_wp2_with fail
  clear hc1 hf1
  refine wp_region_lat hb1 (by kernel_rfl) (by kernel_rfl) ?_
  intro hne hcl
  repeat (go_big_quiet_step (first | (go_at_call_of 90 (Value.int IntKind.i64 x.since); exact lat_of (rhas_any 0 1000000 x.since _ _ C3.out)) | (go_at_call_of 90 (Value.int IntKind.i64 x.soft); exact lat_of (rhas_any 1 x.hard x.soft _ _ C4.out)) | (go_at_call_of 90 (Value.int IntKind.i64 x.ticks); exact lat_of (rhas_any 1 1000000 x.ticks _ _ C6.out)) | (go_at_call 90; exact lat_of (rhas_any 1 1000000 x.hard _ _ C5.out))))
  refine wpQuiet_nil ?_
  intro w2 hb2
  obtain ⟨hc2, hf2⟩ := bcell hb2
  clear hne hcl
  go_wp2_with fail
  clear hc2 hf2
  refine wp_region_lat hb2 (by kernel_rfl) (by kernel_rfl) ?_
  intro hne hcl
  repeat (go_big_quiet_step (first | (fail)))
  refine wpQuiet_nil ?_
  intro w3 hb3
  obtain ⟨hc3, hf3⟩ := bcell hb3
  clear hne hcl
  go_wp2_with fail
  go_ret
  exact ⟨_, rfl, sa_no (by rw [HS.out]; simp), below_later HZ.out hb3⟩
set_option maxHeartbeats 8000000 in
set_option maxRecDepth 100000 in
theorem kok_A4 (g : Nat) (x : SaV) (a : Option Addr) (len cap : Nat) (E : Nat → Int) (w : World) (hB : SaBox w g x (.slice a len cap)) (hT : Ints w a len E) (hl : len ≤ 1048576) (c1 c2 c7 : Bool) (C0 : Hid (inB x.spi 1 999 = false)) (C1 : Hid (inB x.tun 0 3 = c1)) (C2 : Hid (keysB x.key x.mac = c2)) (C3 : Hid (inB x.since 0 1000000 = true)) (C4 : Hid (inB x.soft 1 x.hard = true)) (C5 : Hid (inB x.hard 1 1000000 = true)) (C6 : Hid (inB x.ticks 1 1000000 = false)) (C7 : Hid (inB x.sent 0 x.hard = c7)) (HS : Hid (saB x = (false && c1 && c2 && true && true && true && false && c7))) :
    Calls Tryz.prog 76 #[.pointer (some ⟨g, 0, none⟩)] w fun e w' => ∃ v, e = .returned (.bool v) ∧ (v = true ↔ saB x = true ∧ WOk x.top len E) ∧ Below w.heap.size w w' := by
  have HT := hid_in hT
  have HB := hid_in hB
  clear hT
  obtain ⟨l0, p0, p1, p2, p3, p4, p5, p6, p7, p8, p9, p10, pf⟩ := hB
  clear pf
  go_enter Tryz.func76, Tryz.ntmps76
  go_wp2_with fail
  have zW : Below w.heap.size w ((w.alloc (Obj.cells #[.int .i64 1, .int .i64 x.hard] 105)).alloc (Obj.cells #[.int .i64 1, .int .i64 1000000] 105)) := by go_grown
  have sW : ((w.alloc (Obj.cells #[.int .i64 1, .int .i64 x.hard] 105)).alloc (Obj.cells #[.int .i64 1, .int .i64 1000000] 105)).heap.size = w.heap.size + 1 + 1 := by simp
  have Wc0 : ((w.alloc (Obj.cells #[.int .i64 1, .int .i64 x.hard] 105)).alloc (Obj.cells #[.int .i64 1, .int .i64 1000000] 105)).cell? ⟨w.heap.size, 0, none⟩ = some (.int .i64 1) := by go_simp
  have Wc1 : ((w.alloc (Obj.cells #[.int .i64 1, .int .i64 x.hard] 105)).alloc (Obj.cells #[.int .i64 1, .int .i64 1000000] 105)).cell? ⟨w.heap.size, 1, none⟩ = some (.int .i64 x.hard) := by go_simp
  have Wc2 : ((w.alloc (Obj.cells #[.int .i64 1, .int .i64 x.hard] 105)).alloc (Obj.cells #[.int .i64 1, .int .i64 1000000] 105)).cell? ⟨w.heap.size + 1, 0, none⟩ = some (.int .i64 1) := by go_simp
  have Wc3 : ((w.alloc (Obj.cells #[.int .i64 1, .int .i64 x.hard] 105)).alloc (Obj.cells #[.int .i64 1, .int .i64 1000000] 105)).cell? ⟨w.heap.size + 1, 1, none⟩ = some (.int .i64 1000000) := by go_simp
  generalize ((w.alloc (Obj.cells #[.int .i64 1, .int .i64 x.hard] 105)).alloc (Obj.cells #[.int .i64 1, .int .i64 1000000] 105)) = W at *
  have HZ := hid_in zW
  have BW := hid_in (HB.out.later zW)
  clear l0 p0 p1 p2 p3 p4 p5 p6 p7 p8 p9 p10
  obtain ⟨l0, p0, p1, p2, p3, p4, p5, p6, p7, p8, p9, p10, pf⟩ := HB.out.later zW
  clear pf zW
  have l1 : w.heap.size < W.heap.size := by omega
  have l2 : w.heap.size + 1 < W.heap.size := by omega
  have SW := hid_in sW
  clear sW
  refine wp_region_lat (Below.refl _ _) (by kernel_rfl) (by kernel_rfl) ?_
  intro hne hcl
  repeat (go_big_quiet_step (first | (go_at_call 94; exact lat_of (spiOk_any x.spi _ _ C0.out)) | (go_at_call 90; exact lat_of (rhas_any 0 3 x.tun _ _ C1.out)) | (go_at_call 46; exact lat_of (keysOk_any x.key x.mac _ _ C2.out))))
  refine wpQuiet_nil ?_
  intro w1 hb1
  obtain ⟨hc1, hf1⟩ := bcell hb1
  clear hne hcl
  go_wp2_with fail
  clear hc1 hf1
  refine wp_region_lat hb1 (by kernel_rfl) (by kernel_rfl) ?_
  intro hne hcl
  repeat (go_big_quiet_step (first | (go_at_call_of 90 (Value.int IntKind.i64 x.since); exact lat_of (rhas_any 0 1000000 x.since _ _ C3.out)) | (go_at_call_of 90 (Value.int IntKind.i64 x.soft); exact lat_of (rhas_any 1 x.hard x.soft _ _ C4.out)) | (go_at_call_of 90 (Value.int IntKind.i64 x.ticks); exact lat_of (rhas_any 1 1000000 x.ticks _ _ C6.out)) | (go_at_call 90; exact lat_of (rhas_any 1 1000000 x.hard _ _ C5.out))))
  refine wpQuiet_nil ?_
  intro w2 hb2
  obtain ⟨hc2, hf2⟩ := bcell hb2
  clear hne hcl
  go_wp2_with fail
  clear hc2 hf2
  refine wp_region_lat hb2 (by kernel_rfl) (by kernel_rfl) ?_
  intro hne hcl
  repeat (go_big_quiet_step (first | (fail)))
  refine wpQuiet_nil ?_
  intro w3 hb3
  obtain ⟨hc3, hf3⟩ := bcell hb3
  clear hne hcl
  go_wp2_with fail
  go_ret
  exact ⟨_, rfl, sa_no (by rw [HS.out]; simp), below_later HZ.out hb3⟩
set_option maxHeartbeats 8000000 in
set_option maxRecDepth 100000 in
theorem kok_A5 (g : Nat) (x : SaV) (a : Option Addr) (len cap : Nat) (E : Nat → Int) (w : World) (hB : SaBox w g x (.slice a len cap)) (hT : Ints w a len E) (hl : len ≤ 1048576) (c1 c2 c7 : Bool) (C0 : Hid (inB x.spi 1 999 = false)) (C1 : Hid (inB x.tun 0 3 = c1)) (C2 : Hid (keysB x.key x.mac = c2)) (C3 : Hid (inB x.since 0 1000000 = true)) (C4 : Hid (inB x.soft 1 x.hard = true)) (C5 : Hid (inB x.hard 1 1000000 = true)) (C6 : Hid (inB x.ticks 1 1000000 = true)) (C7 : Hid (inB x.sent 0 x.hard = c7)) (HS : Hid (saB x = (false && c1 && c2 && true && true && true && true && c7))) :
    Calls Tryz.prog 76 #[.pointer (some ⟨g, 0, none⟩)] w fun e w' => ∃ v, e = .returned (.bool v) ∧ (v = true ↔ saB x = true ∧ WOk x.top len E) ∧ Below w.heap.size w w' := by
  have HT := hid_in hT
  have HB := hid_in hB
  clear hT
  obtain ⟨l0, p0, p1, p2, p3, p4, p5, p6, p7, p8, p9, p10, pf⟩ := hB
  clear pf
  go_enter Tryz.func76, Tryz.ntmps76
  go_wp2_with fail
  have zW : Below w.heap.size w ((w.alloc (Obj.cells #[.int .i64 1, .int .i64 x.hard] 105)).alloc (Obj.cells #[.int .i64 1, .int .i64 1000000] 105)) := by go_grown
  have sW : ((w.alloc (Obj.cells #[.int .i64 1, .int .i64 x.hard] 105)).alloc (Obj.cells #[.int .i64 1, .int .i64 1000000] 105)).heap.size = w.heap.size + 1 + 1 := by simp
  have Wc0 : ((w.alloc (Obj.cells #[.int .i64 1, .int .i64 x.hard] 105)).alloc (Obj.cells #[.int .i64 1, .int .i64 1000000] 105)).cell? ⟨w.heap.size, 0, none⟩ = some (.int .i64 1) := by go_simp
  have Wc1 : ((w.alloc (Obj.cells #[.int .i64 1, .int .i64 x.hard] 105)).alloc (Obj.cells #[.int .i64 1, .int .i64 1000000] 105)).cell? ⟨w.heap.size, 1, none⟩ = some (.int .i64 x.hard) := by go_simp
  have Wc2 : ((w.alloc (Obj.cells #[.int .i64 1, .int .i64 x.hard] 105)).alloc (Obj.cells #[.int .i64 1, .int .i64 1000000] 105)).cell? ⟨w.heap.size + 1, 0, none⟩ = some (.int .i64 1) := by go_simp
  have Wc3 : ((w.alloc (Obj.cells #[.int .i64 1, .int .i64 x.hard] 105)).alloc (Obj.cells #[.int .i64 1, .int .i64 1000000] 105)).cell? ⟨w.heap.size + 1, 1, none⟩ = some (.int .i64 1000000) := by go_simp
  generalize ((w.alloc (Obj.cells #[.int .i64 1, .int .i64 x.hard] 105)).alloc (Obj.cells #[.int .i64 1, .int .i64 1000000] 105)) = W at *
  have HZ := hid_in zW
  have BW := hid_in (HB.out.later zW)
  clear l0 p0 p1 p2 p3 p4 p5 p6 p7 p8 p9 p10
  obtain ⟨l0, p0, p1, p2, p3, p4, p5, p6, p7, p8, p9, p10, pf⟩ := HB.out.later zW
  clear pf zW
  have l1 : w.heap.size < W.heap.size := by omega
  have l2 : w.heap.size + 1 < W.heap.size := by omega
  have SW := hid_in sW
  clear sW
  refine wp_region_lat (Below.refl _ _) (by kernel_rfl) (by kernel_rfl) ?_
  intro hne hcl
  repeat (go_big_quiet_step (first | (go_at_call 94; exact lat_of (spiOk_any x.spi _ _ C0.out)) | (go_at_call 90; exact lat_of (rhas_any 0 3 x.tun _ _ C1.out)) | (go_at_call 46; exact lat_of (keysOk_any x.key x.mac _ _ C2.out))))
  refine wpQuiet_nil ?_
  intro w1 hb1
  obtain ⟨hc1, hf1⟩ := bcell hb1
  clear hne hcl
  go_wp2_with fail
  clear hc1 hf1
  refine wp_region_lat hb1 (by kernel_rfl) (by kernel_rfl) ?_
  intro hne hcl
  repeat (go_big_quiet_step (first | (go_at_call_of 90 (Value.int IntKind.i64 x.since); exact lat_of (rhas_any 0 1000000 x.since _ _ C3.out)) | (go_at_call_of 90 (Value.int IntKind.i64 x.soft); exact lat_of (rhas_any 1 x.hard x.soft _ _ C4.out)) | (go_at_call_of 90 (Value.int IntKind.i64 x.ticks); exact lat_of (rhas_any 1 1000000 x.ticks _ _ C6.out)) | (go_at_call 90; exact lat_of (rhas_any 1 1000000 x.hard _ _ C5.out))))
  refine wpQuiet_nil ?_
  intro w2 hb2
  obtain ⟨hc2, hf2⟩ := bcell hb2
  clear hne hcl
  go_wp2_with fail
  clear hc2 hf2
  refine wp_region_lat hb2 (by kernel_rfl) (by kernel_rfl) ?_
  intro hne hcl
  repeat (go_big_quiet_step (first | (fail)))
  refine wpQuiet_nil ?_
  intro w3 hb3
  obtain ⟨hc3, hf3⟩ := bcell hb3
  clear hne hcl
  go_wp2_with fail
  go_ret
  exact ⟨_, rfl, sa_no (by rw [HS.out]; simp), below_later HZ.out hb3⟩
end Go.Proofs.YtefmmopkikpnhaaGreatDoor

