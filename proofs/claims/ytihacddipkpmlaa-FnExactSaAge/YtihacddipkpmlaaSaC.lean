/- Whether keys are ok, and how old they are, in the program and in the specification. The conditions stand at each theorem. -/
import Derived.Test.YtihacddipkpmlaaSaB
namespace Go.Proofs.Ytihacddipkpmlaa
open Go.RowKit Go.LatT Go.BlockM Go.OpnT Go.WinMath
set_option linter.unusedVariables false
set_option linter.unusedSimpArgs false
theorem path3 (a b c : Bool) : (a = false) ∨ (a = true ∧ b = false) ∨ (a = true ∧ b = true ∧ c = false) ∨ (a = true ∧ b = true ∧ c = true) := by cases a <;> cases b <;> cases c <;> simp
theorem path4 (a b c d : Bool) : (a = false) ∨ (a = true ∧ b = false) ∨ (a = true ∧ b = true ∧ c = false) ∨ (a = true ∧ b = true ∧ c = true ∧ d = false) ∨ (a = true ∧ b = true ∧ c = true ∧ d = true) := by cases a <;> cases b <;> cases c <;> cases d <;> simp
theorem windowOkV (t : Int) (a : Option Addr) (len cap : Nat) (E : Nat → Int) (w : World) (hT : Ints w a len E) (hl : len ≤ 1048576) (v : Bool) (hv : v = true ↔ WOk t len E) :
    Calls Try.prog 39 #[.agg #[.int .i64 t, .slice a len cap]] w fun e w' => e = .returned (.bool v) ∧ Below w.heap.size w w' := by
  refine (windowOkI t a len cap E w hT hl).mono ?_
  rintro e w1 ⟨v1, rfl, h1, hb⟩
  exact ⟨ret_bool (Bool.eq_iff_iff.2 (h1.trans hv.symm)), hb⟩
set_option maxHeartbeats 8000000 in
set_option maxRecDepth 100000 in
theorem kok_sent (g : Nat) (x : SaV) (a : Option Addr) (len cap : Nat) (E : Nat → Int) (w : World) (hB : SaBox w g x (.slice a len cap)) (hT : Ints w a len E) (hl : len ≤ 1048576) (C0 : Hid (inB x.spi 1 999 = true)) (C1 : Hid (inB x.tun 0 3 = true)) (C2 : Hid (keysB x.key x.mac = true)) (C3 : Hid (inB x.since 0 1000000 = true)) (C4 : Hid (inB x.soft 1 x.hard = true)) (C5 : Hid (inB x.hard 1 1000000 = true)) (C6 : Hid (inB x.ticks 1 1000000 = true)) (C7 : Hid (inB x.sent 0 x.hard = false)) (HS : Hid (saB x = (true && true && true && true && true && true && true && false))) :
    Calls Try.prog 25 #[.pointer (some ⟨g, 0, none⟩)] w fun e w' => ∃ v, e = .returned (.bool v) ∧ (v = true ↔ saB x = true ∧ WOk x.top len E) ∧ Below w.heap.size w w' := by
  have HT := hid_in hT
  have HB := hid_in hB
  clear hT
  obtain ⟨l0, p0, p1, p2, p3, p4, p5, p6, p7, p8, p9, p10, pf⟩ := hB
  clear pf
  go_enter Try.func25, Try.ntmps25
  go_wp2_with fail
  have zW : Below w.heap.size w ((w.alloc (Obj.cells #[.int .i64 1, .int .i64 x.hard] 59)).alloc (Obj.cells #[.int .i64 1, .int .i64 1000000] 59)) := by go_grown
  have sW : ((w.alloc (Obj.cells #[.int .i64 1, .int .i64 x.hard] 59)).alloc (Obj.cells #[.int .i64 1, .int .i64 1000000] 59)).heap.size = w.heap.size + 1 + 1 := by simp
  have Wc0 : ((w.alloc (Obj.cells #[.int .i64 1, .int .i64 x.hard] 59)).alloc (Obj.cells #[.int .i64 1, .int .i64 1000000] 59)).cell? ⟨w.heap.size, 0, none⟩ = some (.int .i64 1) := by go_simp
  have Wc1 : ((w.alloc (Obj.cells #[.int .i64 1, .int .i64 x.hard] 59)).alloc (Obj.cells #[.int .i64 1, .int .i64 1000000] 59)).cell? ⟨w.heap.size, 1, none⟩ = some (.int .i64 x.hard) := by go_simp
  have Wc2 : ((w.alloc (Obj.cells #[.int .i64 1, .int .i64 x.hard] 59)).alloc (Obj.cells #[.int .i64 1, .int .i64 1000000] 59)).cell? ⟨w.heap.size + 1, 0, none⟩ = some (.int .i64 1) := by go_simp
  have Wc3 : ((w.alloc (Obj.cells #[.int .i64 1, .int .i64 x.hard] 59)).alloc (Obj.cells #[.int .i64 1, .int .i64 1000000] 59)).cell? ⟨w.heap.size + 1, 1, none⟩ = some (.int .i64 1000000) := by go_simp
  generalize ((w.alloc (Obj.cells #[.int .i64 1, .int .i64 x.hard] 59)).alloc (Obj.cells #[.int .i64 1, .int .i64 1000000] 59)) = W at *
  have HZ := hid_in zW
  have BW := hid_in (HB.out.later zW)
  clear l0 p0 p1 p2 p3 p4 p5 p6 p7 p8 p9 p10
  obtain ⟨l0, p0, p1, p2, p3, p4, p5, p6, p7, p8, p9, p10, pf⟩ := HB.out.later zW
  clear pf zW
  have l1 : w.heap.size < W.heap.size := by omega
  have l2 : w.heap.size + 1 < W.heap.size := by omega
  have SW := hid_in sW
  clear sW
  refine wp_region_lat (Below.refl _ _) (by kernel_rfl) (by kernel_rfl) ?_
  intro hne hcl
  repeat (go_big_quiet_step (first | (go_at_call 36; exact lat_of (spiOk_any x.spi _ _ C0.out)) | (go_at_call 37; exact lat_of (rhas_any 0 3 x.tun _ _ C1.out)) | (go_at_call 38; exact lat_of (keysOk_any x.key x.mac _ _ C2.out))))
  refine wpQuiet_nil ?_
  intro w1 hb1
  obtain ⟨hc1, hf1⟩ := bcell hb1
  clear hne hcl
  have q6 := (hc1 g 6 l0).trans p6; have q8 := (hc1 g 8 l0).trans p8
  go_wp2_with fail
  clear hc1 hf1
  refine wp_region_lat hb1 (by kernel_rfl) (by kernel_rfl) ?_
  intro hne hcl
  repeat (go_big_quiet_step (first | (go_at_call_of 37 (Value.int IntKind.i64 x.since); exact lat_of (rhas_any 0 1000000 x.since _ _ C3.out)) | (go_at_call_of 37 (Value.int IntKind.i64 x.soft); exact lat_of (rhas_any 1 x.hard x.soft _ _ C4.out)) | (go_at_call_of 37 (Value.int IntKind.i64 x.ticks); exact lat_of (rhas_any 1 1000000 x.ticks _ _ C6.out)) | (go_at_call 37; exact lat_of (rhas_any 1 1000000 x.hard _ _ C5.out))))
  refine wpQuiet_nil ?_
  intro w2 hb2
  obtain ⟨hc2, hf2⟩ := bcell hb2
  clear hne hcl
  go_wp2_with fail
  clear hc2 hf2
  refine wp_region_lat hb2 (by kernel_rfl) (by kernel_rfl) ?_
  intro hne hcl
  repeat (go_big_quiet_step (first | (go_at_call 37; exact lat_of (rhas_any 0 x.hard x.sent _ _ C7.out))))
  refine wpQuiet_nil ?_
  intro w3 hb3
  obtain ⟨hc3, hf3⟩ := bcell hb3
  clear hne hcl
  go_wp2_with fail
  go_ret
  exact ⟨_, rfl, sa_no (by rw [HS.out]; rfl), below_later HZ.out hb3⟩
set_option maxHeartbeats 8000000 in
set_option maxRecDepth 100000 in
theorem kok_all (g : Nat) (x : SaV) (a : Option Addr) (len cap : Nat) (E : Nat → Int) (w : World) (hB : SaBox w g x (.slice a len cap)) (hT : Ints w a len E) (hl : len ≤ 1048576) (C0 : Hid (inB x.spi 1 999 = true)) (C1 : Hid (inB x.tun 0 3 = true)) (C2 : Hid (keysB x.key x.mac = true)) (C3 : Hid (inB x.since 0 1000000 = true)) (C4 : Hid (inB x.soft 1 x.hard = true)) (C5 : Hid (inB x.hard 1 1000000 = true)) (C6 : Hid (inB x.ticks 1 1000000 = true)) (C7 : Hid (inB x.sent 0 x.hard = true)) (HS : Hid (saB x = (true && true && true && true && true && true && true && true))) (v : Bool) (V : Hid (v = true ↔ WOk x.top len E)) :
    Calls Try.prog 25 #[.pointer (some ⟨g, 0, none⟩)] w fun e w' => ∃ v, e = .returned (.bool v) ∧ (v = true ↔ saB x = true ∧ WOk x.top len E) ∧ Below w.heap.size w w' := by
  have HT := hid_in hT
  have HB := hid_in hB
  clear hT
  obtain ⟨l0, p0, p1, p2, p3, p4, p5, p6, p7, p8, p9, p10, pf⟩ := hB
  clear pf
  go_enter Try.func25, Try.ntmps25
  go_wp2_with fail
  have zW : Below w.heap.size w ((w.alloc (Obj.cells #[.int .i64 1, .int .i64 x.hard] 59)).alloc (Obj.cells #[.int .i64 1, .int .i64 1000000] 59)) := by go_grown
  have sW : ((w.alloc (Obj.cells #[.int .i64 1, .int .i64 x.hard] 59)).alloc (Obj.cells #[.int .i64 1, .int .i64 1000000] 59)).heap.size = w.heap.size + 1 + 1 := by simp
  have Wc0 : ((w.alloc (Obj.cells #[.int .i64 1, .int .i64 x.hard] 59)).alloc (Obj.cells #[.int .i64 1, .int .i64 1000000] 59)).cell? ⟨w.heap.size, 0, none⟩ = some (.int .i64 1) := by go_simp
  have Wc1 : ((w.alloc (Obj.cells #[.int .i64 1, .int .i64 x.hard] 59)).alloc (Obj.cells #[.int .i64 1, .int .i64 1000000] 59)).cell? ⟨w.heap.size, 1, none⟩ = some (.int .i64 x.hard) := by go_simp
  have Wc2 : ((w.alloc (Obj.cells #[.int .i64 1, .int .i64 x.hard] 59)).alloc (Obj.cells #[.int .i64 1, .int .i64 1000000] 59)).cell? ⟨w.heap.size + 1, 0, none⟩ = some (.int .i64 1) := by go_simp
  have Wc3 : ((w.alloc (Obj.cells #[.int .i64 1, .int .i64 x.hard] 59)).alloc (Obj.cells #[.int .i64 1, .int .i64 1000000] 59)).cell? ⟨w.heap.size + 1, 1, none⟩ = some (.int .i64 1000000) := by go_simp
  generalize ((w.alloc (Obj.cells #[.int .i64 1, .int .i64 x.hard] 59)).alloc (Obj.cells #[.int .i64 1, .int .i64 1000000] 59)) = W at *
  have HZ := hid_in zW
  have BW := hid_in (HB.out.later zW)
  clear l0 p0 p1 p2 p3 p4 p5 p6 p7 p8 p9 p10
  obtain ⟨l0, p0, p1, p2, p3, p4, p5, p6, p7, p8, p9, p10, pf⟩ := HB.out.later zW
  clear pf zW
  have l1 : w.heap.size < W.heap.size := by omega
  have l2 : w.heap.size + 1 < W.heap.size := by omega
  have SW := hid_in sW
  clear sW
  refine wp_region_lat (Below.refl _ _) (by kernel_rfl) (by kernel_rfl) ?_
  intro hne hcl
  repeat (go_big_quiet_step (first | (go_at_call 36; exact lat_of (spiOk_any x.spi _ _ C0.out)) | (go_at_call 37; exact lat_of (rhas_any 0 3 x.tun _ _ C1.out)) | (go_at_call 38; exact lat_of (keysOk_any x.key x.mac _ _ C2.out))))
  refine wpQuiet_nil ?_
  intro w1 hb1
  obtain ⟨hc1, hf1⟩ := bcell hb1
  clear hne hcl
  have q6 := (hc1 g 6 l0).trans p6; have q8 := (hc1 g 8 l0).trans p8
  go_wp2_with fail
  clear hc1 hf1
  refine wp_region_lat hb1 (by kernel_rfl) (by kernel_rfl) ?_
  intro hne hcl
  repeat (go_big_quiet_step (first | (go_at_call_of 37 (Value.int IntKind.i64 x.since); exact lat_of (rhas_any 0 1000000 x.since _ _ C3.out)) | (go_at_call_of 37 (Value.int IntKind.i64 x.soft); exact lat_of (rhas_any 1 x.hard x.soft _ _ C4.out)) | (go_at_call_of 37 (Value.int IntKind.i64 x.ticks); exact lat_of (rhas_any 1 1000000 x.ticks _ _ C6.out)) | (go_at_call 37; exact lat_of (rhas_any 1 1000000 x.hard _ _ C5.out))))
  refine wpQuiet_nil ?_
  intro w2 hb2
  obtain ⟨hc2, hf2⟩ := bcell hb2
  clear hne hcl
  go_wp2_with fail
  clear hc2 hf2
  refine wp_region_lat hb2 (by kernel_rfl) (by kernel_rfl) ?_
  intro hne hcl
  repeat (go_big_quiet_step (first | (go_at_call 37; exact lat_of (rhas_any 0 x.hard x.sent _ _ C7.out)) | (go_at_call 39; exact lat_of (windowOkV x.top a len cap E _ (HT.out.later (below_later HZ.out (Lat.h _))) hl v V.out))))
  refine wpQuiet_nil ?_
  intro w3 hb3
  obtain ⟨hc3, hf3⟩ := bcell hb3
  clear hne hcl
  go_wp2_with fail
  go_ret
  exact ⟨_, rfl, sa_win (by rw [HS.out]; rfl) V.out, below_later HZ.out hb3⟩
end Go.Proofs.Ytihacddipkpmlaa
