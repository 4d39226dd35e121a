/- What is proved: the contracts of SaB, SaC, one behind the other. The conditions stand at each theorem. -/
import Derived.Test.YtefmmopkikpnhaaGreatDoorGWin
import Derived.Test.YtefmmopkikpnhaaGreatDoorGWnB
import Derived.Test.YtefmmopkikpnhaaGreatDoorShelf
import Derived.Test.YtefmmopkikpnhaaGreatDoorGFrB
namespace Go.Proofs.YtefmmopkikpnhaaGreatDoor
open Go.RowKit Go.LatT Go.BlockM Go.OpnT Go.WinMath
set_option linter.unusedVariables false
set_option linter.unusedSimpArgs false
theorem below_drew {w w' : World} {B : Nat} (h : Below B w w') : Below B w w'.drew := h.drew
theorem iclone_any (a : Option Addr) (len cap : Nat) (E : Nat → Int) (w : World) (hT : Ints w a len E) (hl : len ≤ 1048576) :
    Calls Tryz.prog 117 #[.slice a len cap] w fun e w' => ∃ v', e = .returned v' ∧ w'.ownsRow w.heap.size 3 1 v' len (i64s (LE E len)) ∧ Below w.heap.size w w' := by
  rcases hT with rfl | ⟨bb, off, rfl, h1, h2⟩
  · cases a with
    | none =>
      refine (Tryz.slices_Clone_int_nil 0 cap w).mono ?_
      rintro e w1 ⟨rfl, rfl⟩
      exact ⟨_, rfl, World.ownsRow_nil _ _ _ _, Below.refl _ _⟩
    | some a =>
      refine (Tryz.slices_Clone_int_zero a cap w).mono ?_
      rintro e w1 ⟨v', rfl, h, _, hb⟩
      exact ⟨_, rfl, h, hb⟩
  · refine (Tryz.slices_Clone_int bb off len cap (LE E len) w (by simp [LE]) (by omega) (fun j hj => ?_)).mono ?_
    · have hj' : j < len := by simpa [LE] using hj
      rw [h2 j hj']
      simp [LE, hj']
    · rintro e w1 ⟨v', rfl, h, _, hb⟩
      refine ⟨_, rfl, ?_, hb⟩
      have e1 : (LE E len).take len = LE E len := List.take_of_length_le (by simp [LE])
      rw [e1] at h
      exact h
/-- Keys lie in a block. -/
structure SaBox (w : World) (g : Nat) (x : SaV) (v : Value) : Prop where
  lt : g < w.heap.size
  c0 : w.cell? ⟨g, 0, none⟩ = some (.int .i64 x.spi)
  c1 : w.cell? ⟨g, 1, none⟩ = some (.int .i64 x.tun)
  c2 : w.cell? ⟨g, 2, none⟩ = some (.string x.key)
  c3 : w.cell? ⟨g, 3, none⟩ = some (.string x.mac)
  c4 : w.cell? ⟨g, 4, none⟩ = some (.int .i64 x.since)
  c5 : w.cell? ⟨g, 5, none⟩ = some (.int .i64 x.soft)
  c6 : w.cell? ⟨g, 6, none⟩ = some (.int .i64 x.hard)
  c7 : w.cell? ⟨g, 7, none⟩ = some (.int .i64 x.ticks)
  c8 : w.cell? ⟨g, 8, none⟩ = some (.int .i64 x.sent)
  c9 : w.cell? ⟨g, 9, none⟩ = some (.int .i64 x.top)
  c10 : w.cell? ⟨g, 10, none⟩ = some v
  f : ∀ o, w.frozen? ⟨g, o, none⟩ = false
theorem SaBox.later {w w' : World} {g : Nat} {x : SaV} {v : Value} (h : SaBox w g x v) (hb : Below w.heap.size w w') : SaBox w' g x v :=
  have q := fun o => (bcell hb).1 g o h.lt
  ⟨Nat.lt_of_lt_of_le h.lt hb.size, (q _).trans h.c0, (q _).trans h.c1, (q _).trans h.c2, (q _).trans h.c3, (q _).trans h.c4, (q _).trans h.c5, (q _).trans h.c6, (q _).trans h.c7, (q _).trans h.c8, (q _).trans h.c9, (q _).trans h.c10, fun o => ((bcell hb).2 g o h.lt).trans (h.f o)⟩
theorem SaBox.drew {w : World} {g : Nat} {x : SaV} {v : Value} (h : SaBox w g x v) : SaBox w.drew g x v := ⟨h.lt, h.c0, h.c1, h.c2, h.c3, h.c4, h.c5, h.c6, h.c7, h.c8, h.c9, h.c10, h.f⟩
theorem SaBox.new (w : World) (x : SaV) (v : Value) (ty : TypeId) : SaBox (w.alloc (.cells #[.int .i64 x.spi, .int .i64 x.tun, .string x.key, .string x.mac, .int .i64 x.since, .int .i64 x.soft, .int .i64 x.hard, .int .i64 x.ticks, .int .i64 x.sent, .int .i64 x.top, v] ty)) w.heap.size x v :=
  ⟨by simp, by go_simp, by go_simp, by go_simp, by go_simp, by go_simp, by go_simp, by go_simp, by go_simp, by go_simp, by go_simp, by go_simp, fun o => by go_simp⟩
theorem SaBox.set2 {w : World} {g : Nat} {x : SaV} {v : Value} (h : SaBox w g x v) : SaBox (w.setCell ⟨g, 2, none⟩ (.string x.key)) g x v := by
  obtain ⟨l0, p0, p1, p2, p3, p4, p5, p6, p7, p8, p9, p10, pf⟩ := h
  exact ⟨by simpa using l0, by go_simp, by go_simp, by go_simp, by go_simp, by go_simp, by go_simp, by go_simp, by go_simp, by go_simp, by go_simp, by go_simp, fun o => by go_simp⟩
theorem SaBox.set3 {w : World} {g : Nat} {x : SaV} {v : Value} (h : SaBox w g x v) : SaBox (w.setCell ⟨g, 3, none⟩ (.string x.mac)) g x v := by
  obtain ⟨l0, p0, p1, p2, p3, p4, p5, p6, p7, p8, p9, p10, pf⟩ := h
  exact ⟨by simpa using l0, by go_simp, by go_simp, by go_simp, by go_simp, by go_simp, by go_simp, by go_simp, by go_simp, by go_simp, by go_simp, by go_simp, fun o => by go_simp⟩
theorem SaBox.set10 {w : World} {g : Nat} {x : SaV} {v : Value} (u : Value) (h : SaBox w g x v) : SaBox (w.setCell ⟨g, 10, none⟩ u) g x u := by
  obtain ⟨l0, p0, p1, p2, p3, p4, p5, p6, p7, p8, p9, p10, pf⟩ := h
  exact ⟨by simpa using l0, by go_simp, by go_simp, by go_simp, by go_simp, by go_simp, by go_simp, by go_simp, by go_simp, by go_simp, by go_simp, by go_simp, fun o => by go_simp⟩
set_option maxHeartbeats 2000000 in
set_option maxRecDepth 100000 in
theorem keysOf_any (x : SaV) (a : Option Addr) (len cap : Nat) (E : Nat → Int) (w : World) (hT : Ints w a len E) (hl : len ≤ 1048576) (hk : x.key.size ≤ 1048576) (hm : x.mac.size ≤ 1048576) :
    Calls Tryz.prog 67 #[vSa x a len cap] w fun e w' => ∃ g v', e = .returned (.pointer (some ⟨g, 0, none⟩)) ∧ w.heap.size ≤ g ∧ SaBox w' g x v' ∧ w'.ownsRow w.heap.size 3 1 v' len (i64s (LE E len)) ∧ (∀ k, v'.ownBlock = some k → k < g) ∧ Below w.heap.size w w' := by
  have HT := hid_in hT
  clear hT
  go_enter Tryz.func67, Tryz.ntmps67
  go_wp2_with fail
  have b0 := SaBox.new w x (.slice a len cap) 45
  have B0 := hid_in b0
  obtain ⟨l0, p0, p1, p2, p3, p4, p5, p6, p7, p8, p9, p10, pf⟩ := b0
  go_region_held3 (fun w' => w'.cell? ⟨w.heap.size, 2, none⟩ = some (.string x.key) ∧ w'.cell? ⟨w.heap.size, 3, none⟩ = some (.string x.mac)) (first | go_keep | (refine ⟨?_, ?_⟩ <;> go_simp)) (first | (go_at_call_of 116 (Value.string x.key); refine (sclone_any x.key _ hk).mono ?_; rintro e w1 ⟨rfl, hb1⟩; have B1 := hid_in (SaBox.later (SaBox.drew B0.out) hb1); have u2 := B1.out.c2; have u3 := B1.out.c3; have Z1 := hid_in hb1; clear hb1) | (go_at_call 116; refine (sclone_any x.mac _ hm).mono ?_; rintro e w2 ⟨rfl, hb2⟩; have B2 := hid_in (SaBox.later B1.out hb2); have u2 := B2.out.c2; have u3 := B2.out.c3; have uf := B2.out.f; have ul := B2.out.lt; have Z2 := hid_in hb2; clear hb2))
  have B3 := hid_in (SaBox.set3 (SaBox.set2 B2.out))
  have Z3 : Hid (Below w.heap.size w ((w2.setCell ⟨w.heap.size, 2, none⟩ (.string x.key)).setCell ⟨w.heap.size, 3, none⟩ (.string x.mac))) := ((below_later (below_later (below_drew (below_box w _)) Z1.out) Z2.out).setCell (by simp) _).setCell (by simp) _
  clear Z1 Z2 B1 B2 B0 p0 p1 p2 p3 p4 p5 p6 p7 p8 p9 p10 pf l0
  try clear u2 u3 uf ul
  generalize ((w2.setCell ⟨w.heap.size, 2, none⟩ (.string x.key)).setCell ⟨w.heap.size, 3, none⟩ (.string x.mac)) = W at *
  obtain ⟨l0, p0, p1, p2, p3, p4, p5, p6, p7, p8, p9, p10, pf⟩ := B3.out
  go_wp2_with fail
  clear l0 p0 p1 p2 p3 p4 p5 p6 p7 p8 p9 p10 pf
  refine (iclone_any a len cap E W (HT.out.later Z3.out) hl).mono ?_
  rintro e w4 ⟨v', rfl, ho, hb4⟩
  obtain ⟨a', c', rfl⟩ := owns_form ho
  have B4 := hid_in (B3.out.later hb4)
  have O4 := hid_in ho
  have Z4 := hid_in (below_later Z3.out hb4)
  have X4 := hid_in (Nat.lt_of_lt_of_le B3.out.lt (Nat.le_refl _))
  clear ho hb4
  obtain ⟨l0, p0, p1, p2, p3, p4, p5, p6, p7, p8, p9, p10, pf⟩ := B4.out
  go_wp2_with fail
  have B5 := hid_in (SaBox.set10 (.slice a' len c') B4.out)
  have O5 := hid_in (owns_set (o := 10) (b := w.heap.size) (u := .slice a' len c') O4.out X4.out)
  have Z5 := hid_in (Z4.out.setCell (p := ⟨w.heap.size, 10, none⟩) (by simp) (.slice a' len c'))
  clear l0 p0 p1 p2 p3 p4 p5 p6 p7 p8 p9 p10 pf B4 O4 Z4
  have e5 : (w4.setCell ⟨w.heap.size, 10, none⟩ (.slice a' len c')).heap.size = w4.heap.size := by simp
  have hw4 : w.heap.size ≤ w4.heap.size := by have := Z5.out.size; rw [e5] at this; exact this
  go_ret
  refine ⟨w4.heap.size, .slice a' len c', rfl, hw4, ?_, (ownsW_base O5.out (Nat.le_of_lt X4.out)).alloc _, fun k hk => by have := (owns_own O5.out k hk).2; rw [e5] at this; exact this, below_later Z5.out (below_box _ _)⟩
  rw [← e5]
  exact SaBox.new _ x _ _
end Go.Proofs.YtefmmopkikpnhaaGreatDoor

namespace Go.Proofs.YtefmmopkikpnhaaGreatDoor
open Go.RowKit Go.LatT Go.BlockM Go.OpnT Go.WinMath
set_option linter.unusedVariables false
set_option linter.unusedSimpArgs false
theorem path3 (a b c : Bool) : (a = false) ∨ (a = true ∧ b = false) ∨ (a = true ∧ b = true ∧ c = false) ∨ (a = true ∧ b = true ∧ c = true) := by cases a <;> cases b <;> cases c <;> simp
theorem path4 (a b c d : Bool) : (a = false) ∨ (a = true ∧ b = false) ∨ (a = true ∧ b = true ∧ c = false) ∨ (a = true ∧ b = true ∧ c = true ∧ d = false) ∨ (a = true ∧ b = true ∧ c = true ∧ d = true) := by cases a <;> cases b <;> cases c <;> cases d <;> simp
theorem windowOkV (t : Int) (a : Option Addr) (len cap : Nat) (E : Nat → Int) (w : World) (hT : Ints w a len E) (hl : len ≤ 1048576) (v : Bool) (hv : v = true ↔ WOk t len E) :
    Calls Tryz.prog 127 #[.agg #[.int .i64 t, .slice a len cap]] w fun e w' => e = .returned (.bool v) ∧ Below w.heap.size w w' := by
  refine (windowOkI t a len cap E w hT hl).mono ?_
  rintro e w1 ⟨v1, rfl, h1, hb⟩
  exact ⟨ret_bool (Bool.eq_iff_iff.2 (h1.trans hv.symm)), hb⟩
set_option maxHeartbeats 8000000 in
set_option maxRecDepth 100000 in
theorem kok_sent (g : Nat) (x : SaV) (a : Option Addr) (len cap : Nat) (E : Nat → Int) (w : World) (hB : SaBox w g x (.slice a len cap)) (hT : Ints w a len E) (hl : len ≤ 1048576) (C0 : Hid (inB x.spi 1 999 = true)) (C1 : Hid (inB x.tun 0 3 = true)) (C2 : Hid (keysB x.key x.mac = true)) (C3 : Hid (inB x.since 0 1000000 = true)) (C4 : Hid (inB x.soft 1 x.hard = true)) (C5 : Hid (inB x.hard 1 1000000 = true)) (C6 : Hid (inB x.ticks 1 1000000 = true)) (C7 : Hid (inB x.sent 0 x.hard = false)) (HS : Hid (saB x = (true && true && true && true && true && true && true && false))) :
    Calls Tryz.prog 76 #[.pointer (some ⟨g, 0, none⟩)] w fun e w' => ∃ v, e = .returned (.bool v) ∧ (v = true ↔ saB x = true ∧ WOk x.top len E) ∧ Below w.heap.size w w' := by
  have HT := hid_in hT
  have HB := hid_in hB
  clear hT
  obtain ⟨l0, p0, p1, p2, p3, p4, p5, p6, p7, p8, p9, p10, pf⟩ := hB
  clear pf
  go_enter Tryz.func76, Tryz.ntmps76
  go_wp2_with fail
  have zW : Below w.heap.size w ((w.alloc (Obj.cells #[.int .i64 1, .int .i64 x.hard] 105)).alloc (Obj.cells #[.int .i64 1, .int .i64 1000000] 105)) := by go_grown
  have sW : ((w.alloc (Obj.cells #[.int .i64 1, .int .i64 x.hard] 105)).alloc (Obj.cells #[.int .i64 1, .int .i64 1000000] 105)).heap.size = w.heap.size + 1 + 1 := by simp
  have Wc0 : ((w.alloc (Obj.cells #[.int .i64 1, .int .i64 x.hard] 105)).alloc (Obj.cells #[.int .i64 1, .int .i64 1000000] 105)).cell? ⟨w.heap.size, 0, none⟩ = some (.int .i64 1) := by go_simp
  have Wc1 : ((w.alloc (Obj.cells #[.int .i64 1, .int .i64 x.hard] 105)).alloc (Obj.cells #[.int .i64 1, .int .i64 1000000] 105)).cell? ⟨w.heap.size, 1, none⟩ = some (.int .i64 x.hard) := by go_simp
  have Wc2 : ((w.alloc (Obj.cells #[.int .i64 1, .int .i64 x.hard] 105)).alloc (Obj.cells #[.int .i64 1, .int .i64 1000000] 105)).cell? ⟨w.heap.size + 1, 0, none⟩ = some (.int .i64 1) := by go_simp
  have Wc3 : ((w.alloc (Obj.cells #[.int .i64 1, .int .i64 x.hard] 105)).alloc (Obj.cells #[.int .i64 1, .int .i64 1000000] 105)).cell? ⟨w.heap.size + 1, 1, none⟩ = some (.int .i64 1000000) := by go_simp
  generalize ((w.alloc (Obj.cells #[.int .i64 1, .int .i64 x.hard] 105)).alloc (Obj.cells #[.int .i64 1, .int .i64 1000000] 105)) = W at *
  have HZ := hid_in zW
  have BW := hid_in (HB.out.later zW)
  clear l0 p0 p1 p2 p3 p4 p5 p6 p7 p8 p9 p10
  obtain ⟨l0, p0, p1, p2, p3, p4, p5, p6, p7, p8, p9, p10, pf⟩ := HB.out.later zW
  clear pf zW
  have l1 : w.heap.size < W.heap.size := by omega
  have l2 : w.heap.size + 1 < W.heap.size := by omega
  have SW := hid_in sW
  clear sW
  refine wp_region_lat (Below.refl _ _) (by kernel_rfl) (by kernel_rfl) ?_
  intro hne hcl
  repeat (go_big_quiet_step (first | (go_at_call 94; exact lat_of (spiOk_any x.spi _ _ C0.out)) | (go_at_call 90; exact lat_of (rhas_any 0 3 x.tun _ _ C1.out)) | (go_at_call 46; exact lat_of (keysOk_any x.key x.mac _ _ C2.out))))
  refine wpQuiet_nil ?_
  intro w1 hb1
  obtain ⟨hc1, hf1⟩ := bcell hb1
  clear hne hcl
  have q6 := (hc1 g 6 l0).trans p6; have q8 := (hc1 g 8 l0).trans p8
  go_wp2_with fail
  clear hc1 hf1
  refine wp_region_lat hb1 (by kernel_rfl) (by kernel_rfl) ?_
  intro hne hcl
  repeat (go_big_quiet_step (first | (go_at_call_of 90 (Value.int IntKind.i64 x.since); exact lat_of (rhas_any 0 1000000 x.since _ _ C3.out)) | (go_at_call_of 90 (Value.int IntKind.i64 x.soft); exact lat_of (rhas_any 1 x.hard x.soft _ _ C4.out)) | (go_at_call_of 90 (Value.int IntKind.i64 x.ticks); exact lat_of (rhas_any 1 1000000 x.ticks _ _ C6.out)) | (go_at_call 90; exact lat_of (rhas_any 1 1000000 x.hard _ _ C5.out))))
  refine wpQuiet_nil ?_
  intro w2 hb2
  obtain ⟨hc2, hf2⟩ := bcell hb2
  clear hne hcl
  go_wp2_with fail
  clear hc2 hf2
  refine wp_region_lat hb2 (by kernel_rfl) (by kernel_rfl) ?_
  intro hne hcl
  repeat (go_big_quiet_step (first | (go_at_call 90; exact lat_of (rhas_any 0 x.hard x.sent _ _ C7.out))))
  refine wpQuiet_nil ?_
  intro w3 hb3
  obtain ⟨hc3, hf3⟩ := bcell hb3
  clear hne hcl
  go_wp2_with fail
  go_ret
  exact ⟨_, rfl, sa_no (by rw [HS.out]; rfl), below_later HZ.out hb3⟩
set_option maxHeartbeats 8000000 in
set_option maxRecDepth 100000 in
theorem kok_all (g : Nat) (x : SaV) (a : Option Addr) (len cap : Nat) (E : Nat → Int) (w : World) (hB : SaBox w g x (.slice a len cap)) (hT : Ints w a len E) (hl : len ≤ 1048576) (C0 : Hid (inB x.spi 1 999 = true)) (C1 : Hid (inB x.tun 0 3 = true)) (C2 : Hid (keysB x.key x.mac = true)) (C3 : Hid (inB x.since 0 1000000 = true)) (C4 : Hid (inB x.soft 1 x.hard = true)) (C5 : Hid (inB x.hard 1 1000000 = true)) (C6 : Hid (inB x.ticks 1 1000000 = true)) (C7 : Hid (inB x.sent 0 x.hard = true)) (HS : Hid (saB x = (true && true && true && true && true && true && true && true))) (v : Bool) (V : Hid (v = true ↔ WOk x.top len E)) :
    Calls Tryz.prog 76 #[.pointer (some ⟨g, 0, none⟩)] w fun e w' => ∃ v, e = .returned (.bool v) ∧ (v = true ↔ saB x = true ∧ WOk x.top len E) ∧ Below w.heap.size w w' := by
  have HT := hid_in hT
  have HB := hid_in hB
  clear hT
  obtain ⟨l0, p0, p1, p2, p3, p4, p5, p6, p7, p8, p9, p10, pf⟩ := hB
  clear pf
  go_enter Tryz.func76, Tryz.ntmps76
  go_wp2_with fail
  have zW : Below w.heap.size w ((w.alloc (Obj.cells #[.int .i64 1, .int .i64 x.hard] 105)).alloc (Obj.cells #[.int .i64 1, .int .i64 1000000] 105)) := by go_grown
  have sW : ((w.alloc (Obj.cells #[.int .i64 1, .int .i64 x.hard] 105)).alloc (Obj.cells #[.int .i64 1, .int .i64 1000000] 105)).heap.size = w.heap.size + 1 + 1 := by simp
  have Wc0 : ((w.alloc (Obj.cells #[.int .i64 1, .int .i64 x.hard] 105)).alloc (Obj.cells #[.int .i64 1, .int .i64 1000000] 105)).cell? ⟨w.heap.size, 0, none⟩ = some (.int .i64 1) := by go_simp
  have Wc1 : ((w.alloc (Obj.cells #[.int .i64 1, .int .i64 x.hard] 105)).alloc (Obj.cells #[.int .i64 1, .int .i64 1000000] 105)).cell? ⟨w.heap.size, 1, none⟩ = some (.int .i64 x.hard) := by go_simp
  have Wc2 : ((w.alloc (Obj.cells #[.int .i64 1, .int .i64 x.hard] 105)).alloc (Obj.cells #[.int .i64 1, .int .i64 1000000] 105)).cell? ⟨w.heap.size + 1, 0, none⟩ = some (.int .i64 1) := by go_simp
  have Wc3 : ((w.alloc (Obj.cells #[.int .i64 1, .int .i64 x.hard] 105)).alloc (Obj.cells #[.int .i64 1, .int .i64 1000000] 105)).cell? ⟨w.heap.size + 1, 1, none⟩ = some (.int .i64 1000000) := by go_simp
  generalize ((w.alloc (Obj.cells #[.int .i64 1, .int .i64 x.hard] 105)).alloc (Obj.cells #[.int .i64 1, .int .i64 1000000] 105)) = W at *
  have HZ := hid_in zW
  have BW := hid_in (HB.out.later zW)
  clear l0 p0 p1 p2 p3 p4 p5 p6 p7 p8 p9 p10
  obtain ⟨l0, p0, p1, p2, p3, p4, p5, p6, p7, p8, p9, p10, pf⟩ := HB.out.later zW
  clear pf zW
  have l1 : w.heap.size < W.heap.size := by omega
  have l2 : w.heap.size + 1 < W.heap.size := by omega
  have SW := hid_in sW
  clear sW
  refine wp_region_lat (Below.refl _ _) (by kernel_rfl) (by kernel_rfl) ?_
  intro hne hcl
  repeat (go_big_quiet_step (first | (go_at_call 94; exact lat_of (spiOk_any x.spi _ _ C0.out)) | (go_at_call 90; exact lat_of (rhas_any 0 3 x.tun _ _ C1.out)) | (go_at_call 46; exact lat_of (keysOk_any x.key x.mac _ _ C2.out))))
  refine wpQuiet_nil ?_
  intro w1 hb1
  obtain ⟨hc1, hf1⟩ := bcell hb1
  clear hne hcl
  have q6 := (hc1 g 6 l0).trans p6; have q8 := (hc1 g 8 l0).trans p8
  go_wp2_with fail
  clear hc1 hf1
  refine wp_region_lat hb1 (by kernel_rfl) (by kernel_rfl) ?_
  intro hne hcl
  repeat (go_big_quiet_step (first | (go_at_call_of 90 (Value.int IntKind.i64 x.since); exact lat_of (rhas_any 0 1000000 x.since _ _ C3.out)) | (go_at_call_of 90 (Value.int IntKind.i64 x.soft); exact lat_of (rhas_any 1 x.hard x.soft _ _ C4.out)) | (go_at_call_of 90 (Value.int IntKind.i64 x.ticks); exact lat_of (rhas_any 1 1000000 x.ticks _ _ C6.out)) | (go_at_call 90; exact lat_of (rhas_any 1 1000000 x.hard _ _ C5.out))))
  refine wpQuiet_nil ?_
  intro w2 hb2
  obtain ⟨hc2, hf2⟩ := bcell hb2
  clear hne hcl
  go_wp2_with fail
  clear hc2 hf2
  refine wp_region_lat hb2 (by kernel_rfl) (by kernel_rfl) ?_
  intro hne hcl
  repeat (go_big_quiet_step (first | (go_at_call 90; exact lat_of (rhas_any 0 x.hard x.sent _ _ C7.out)) | (go_at_call 127; exact lat_of (windowOkV x.top a len cap E _ (HT.out.later (below_later HZ.out (Lat.h _))) hl v V.out))))
  refine wpQuiet_nil ?_
  intro w3 hb3
  obtain ⟨hc3, hf3⟩ := bcell hb3
  clear hne hcl
  go_wp2_with fail
  go_ret
  exact ⟨_, rfl, sa_win (by rw [HS.out]; rfl) V.out, below_later HZ.out hb3⟩
end Go.Proofs.YtefmmopkikpnhaaGreatDoor

