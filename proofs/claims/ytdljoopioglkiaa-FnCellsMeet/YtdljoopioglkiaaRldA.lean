/- Rules drawn. The conditions stand at each theorem. -/
import Derived.Test.YtdljoopioglkiaaCldA
import Derived.Test.YtdljoopioglkiaaRulF
namespace Go.Proofs.Ytdljoopioglkiaa
open Go.RowKit Go.LatT Go.BlockM Go.OpnT Go.RegE Go.ApdG
set_option linter.unusedVariables false
set_option linter.unusedSimpArgs false
/-- A struct lies in a block that may be written. -/
structure RBf (w : World) (g : Nat) (a0 : Int) (a1 : Int) (a2 : Int) (a3 : Int) (a4 : Int) (a5 : Int) (a6 : Int) (a7 : Int) : Prop where
  lt : g < w.heap.size
  c0 : w.cell? ⟨g, 0, none⟩ = some (.int .i64 a0)
  c1 : w.cell? ⟨g, 1, none⟩ = some (.int .i64 a1)
  c2 : w.cell? ⟨g, 2, none⟩ = some (.int .i64 a2)
  c3 : w.cell? ⟨g, 3, none⟩ = some (.int .i64 a3)
  c4 : w.cell? ⟨g, 4, none⟩ = some (.int .i64 a4)
  c5 : w.cell? ⟨g, 5, none⟩ = some (.int .i64 a5)
  c6 : w.cell? ⟨g, 6, none⟩ = some (.int .i64 a6)
  c7 : w.cell? ⟨g, 7, none⟩ = some (.int .i64 a7)
  fz : ∀ o, w.frozen? ⟨g, o, none⟩ = false
section
variable {w w' : World} {g R : Nat} {a0 : Int} {a1 : Int} {a2 : Int} {a3 : Int} {a4 : Int} {a5 : Int} {a6 : Int} {a7 : Int}
theorem RBf.mv (h : RBf w g a0 a1 a2 a3 a4 a5 a6 a7) (m : Mv R w w') (hg : g ≠ R) : RBf w' g a0 a1 a2 a3 a4 a5 a6 a7 :=
  have q := fun o => m.cell g o h.lt hg
  ⟨Nat.lt_of_lt_of_le h.lt m.size, (q _).trans h.c0, (q _).trans h.c1, (q _).trans h.c2, (q _).trans h.c3, (q _).trans h.c4, (q _).trans h.c5, (q _).trans h.c6, (q _).trans h.c7, fun o => (m.frozen g o h.lt hg).trans (h.fz o)⟩
theorem RBf.later (h : RBf w g a0 a1 a2 a3 a4 a5 a6 a7) (hb : Below w.heap.size w w') : RBf w' g a0 a1 a2 a3 a4 a5 a6 a7 :=
  have q := fun o => (bcell hb).1 g o h.lt
  ⟨Nat.lt_of_lt_of_le h.lt hb.size, (q _).trans h.c0, (q _).trans h.c1, (q _).trans h.c2, (q _).trans h.c3, (q _).trans h.c4, (q _).trans h.c5, (q _).trans h.c6, (q _).trans h.c7, fun o => ((bcell hb).2 g o h.lt).trans (h.fz o)⟩
theorem RBf.set0 (b : Int) (h : RBf w g a0 a1 a2 a3 a4 a5 a6 a7) : RBf (w.setCell ⟨g, 0, none⟩ (.int .i64 b)) g b a1 a2 a3 a4 a5 a6 a7 := by
  obtain ⟨l0, p0, p1, p2, p3, p4, p5, p6, p7, pf⟩ := h
  exact ⟨by simpa using l0, by go_simp, by go_simp, by go_simp, by go_simp, by go_simp, by go_simp, by go_simp, by go_simp, fun o => by go_simp⟩
theorem RBf.set1 (b : Int) (h : RBf w g a0 a1 a2 a3 a4 a5 a6 a7) : RBf (w.setCell ⟨g, 1, none⟩ (.int .i64 b)) g a0 b a2 a3 a4 a5 a6 a7 := by
  obtain ⟨l0, p0, p1, p2, p3, p4, p5, p6, p7, pf⟩ := h
  exact ⟨by simpa using l0, by go_simp, by go_simp, by go_simp, by go_simp, by go_simp, by go_simp, by go_simp, by go_simp, fun o => by go_simp⟩
theorem RBf.set2 (b : Int) (h : RBf w g a0 a1 a2 a3 a4 a5 a6 a7) : RBf (w.setCell ⟨g, 2, none⟩ (.int .i64 b)) g a0 a1 b a3 a4 a5 a6 a7 := by
  obtain ⟨l0, p0, p1, p2, p3, p4, p5, p6, p7, pf⟩ := h
  exact ⟨by simpa using l0, by go_simp, by go_simp, by go_simp, by go_simp, by go_simp, by go_simp, by go_simp, by go_simp, fun o => by go_simp⟩
theorem RBf.set3 (b : Int) (h : RBf w g a0 a1 a2 a3 a4 a5 a6 a7) : RBf (w.setCell ⟨g, 3, none⟩ (.int .i64 b)) g a0 a1 a2 b a4 a5 a6 a7 := by
  obtain ⟨l0, p0, p1, p2, p3, p4, p5, p6, p7, pf⟩ := h
  exact ⟨by simpa using l0, by go_simp, by go_simp, by go_simp, by go_simp, by go_simp, by go_simp, by go_simp, by go_simp, fun o => by go_simp⟩
theorem RBf.set4 (b : Int) (h : RBf w g a0 a1 a2 a3 a4 a5 a6 a7) : RBf (w.setCell ⟨g, 4, none⟩ (.int .i64 b)) g a0 a1 a2 a3 b a5 a6 a7 := by
  obtain ⟨l0, p0, p1, p2, p3, p4, p5, p6, p7, pf⟩ := h
  exact ⟨by simpa using l0, by go_simp, by go_simp, by go_simp, by go_simp, by go_simp, by go_simp, by go_simp, by go_simp, fun o => by go_simp⟩
theorem RBf.set5 (b : Int) (h : RBf w g a0 a1 a2 a3 a4 a5 a6 a7) : RBf (w.setCell ⟨g, 5, none⟩ (.int .i64 b)) g a0 a1 a2 a3 a4 b a6 a7 := by
  obtain ⟨l0, p0, p1, p2, p3, p4, p5, p6, p7, pf⟩ := h
  exact ⟨by simpa using l0, by go_simp, by go_simp, by go_simp, by go_simp, by go_simp, by go_simp, by go_simp, by go_simp, fun o => by go_simp⟩
theorem RBf.set6 (b : Int) (h : RBf w g a0 a1 a2 a3 a4 a5 a6 a7) : RBf (w.setCell ⟨g, 6, none⟩ (.int .i64 b)) g a0 a1 a2 a3 a4 a5 b a7 := by
  obtain ⟨l0, p0, p1, p2, p3, p4, p5, p6, p7, pf⟩ := h
  exact ⟨by simpa using l0, by go_simp, by go_simp, by go_simp, by go_simp, by go_simp, by go_simp, by go_simp, by go_simp, fun o => by go_simp⟩
theorem RBf.set7 (b : Int) (h : RBf w g a0 a1 a2 a3 a4 a5 a6 a7) : RBf (w.setCell ⟨g, 7, none⟩ (.int .i64 b)) g a0 a1 a2 a3 a4 a5 a6 b := by
  obtain ⟨l0, p0, p1, p2, p3, p4, p5, p6, p7, pf⟩ := h
  exact ⟨by simpa using l0, by go_simp, by go_simp, by go_simp, by go_simp, by go_simp, by go_simp, by go_simp, by go_simp, fun o => by go_simp⟩
end
theorem RBf.new (w : World) (a0 : Int) (a1 : Int) (a2 : Int) (a3 : Int) (a4 : Int) (a5 : Int) (a6 : Int) (a7 : Int) (ty : TypeId) : RBf (w.alloc (.cells #[.int .i64 a0, .int .i64 a1, .int .i64 a2, .int .i64 a3, .int .i64 a4, .int .i64 a5, .int .i64 a6, .int .i64 a7] ty)) w.heap.size a0 a1 a2 a3 a4 a5 a6 a7 := ⟨by simp, by go_simp, by go_simp, by go_simp, by go_simp, by go_simp, by go_simp, by go_simp, by go_simp, fun o => by go_simp⟩

/-- What drawing a rule answers: one that is ok. -/
def RulP (R : Nat) (sl : Value) (p : Int) (w : World) (e : Ending) (w' : World) : Prop :=
  ∃ o t a b c d l h : Int, e = .returned (.agg #[.int .i64 o, .int .i64 t, .int .i64 a, .int .i64 b, .int .i64 c, .int .i64 d, .int .i64 l, .int .i64 h]) ∧ rokB o t a b c d l h = true ∧ (∃ q, p ≤ q ∧ q ≤ p + 100 ∧ Rdr w' R sl q) ∧ Mv R w w'
/-- Eight numbers stored into a new block. -/
def put8 (w : World) (g : Nat) (o t a b c d l h : Int) : World :=
  (((((((w.setCell ⟨g, 0, none⟩ (.int .i64 o)).setCell ⟨g, 1, none⟩ (.int .i64 t)).setCell ⟨g, 2, none⟩ (.int .i64 a)).setCell ⟨g, 3, none⟩ (.int .i64 b)).setCell ⟨g, 4, none⟩ (.int .i64 c)).setCell ⟨g, 5, none⟩ (.int .i64 d)).setCell ⟨g, 6, none⟩ (.int .i64 l)).setCell ⟨g, 7, none⟩ (.int .i64 h)
theorem put8_rdr {w w5 : World} {R g : Nat} {sl : Value} {p q : Int} (h0 : Rdr w R sl p) (h5 : Rdr w5 R sl q) (m5 : Mv R w w5) (hg : w.heap.size ≤ g) (o t a b c d l h : Int) : Rdr (put8 w5 g o t a b c d l h) R sl q ∧ Mv R w (put8 w5 g o t a b c d l h) := by
  have r1 := h0.poke (o := 0) h5 m5 hg (.int .i64 o)
  have m1 := m5.poke (o := 0) hg (.int .i64 o)
  have r2 := h0.poke (o := 1) r1 m1 hg (.int .i64 t)
  have m2 := m1.poke (o := 1) hg (.int .i64 t)
  have r3 := h0.poke (o := 2) r2 m2 hg (.int .i64 a)
  have m3 := m2.poke (o := 2) hg (.int .i64 a)
  have r4 := h0.poke (o := 3) r3 m3 hg (.int .i64 b)
  have m4 := m3.poke (o := 3) hg (.int .i64 b)
  have r5 := h0.poke (o := 4) r4 m4 hg (.int .i64 c)
  have m5 := m4.poke (o := 4) hg (.int .i64 c)
  have r6 := h0.poke (o := 5) r5 m5 hg (.int .i64 d)
  have m6 := m5.poke (o := 5) hg (.int .i64 d)
  have r7 := h0.poke (o := 6) r6 m6 hg (.int .i64 l)
  have m7 := m6.poke (o := 6) hg (.int .i64 l)
  exact ⟨h0.poke (o := 7) r7 m7 hg (.int .i64 h), m7.poke (o := 7) hg (.int .i64 h)⟩
theorem rok_mk {o t a b c d l h : Int} (h1 : okB a b = true) (h2 : okB c d = true) (h3 : 0 ≤ l) (h4 : l ≤ h) (h5 : h ≤ 65535) (h6 : deedB o t = true) : rokB o t a b c d l h = true := by
  simp [rokB, h1, h2, h3, h4, h5, h6]
set_option maxHeartbeats 1000000 in
set_option maxRecDepth 100000 in
theorem l12Rule_any (R : Nat) (sl : Value) (p : Int) (w : World) (h : Rdr w R sl p) (hp : 0 ≤ p) (hp' : p ≤ 800000000) :
    Calls Try.prog 24 #[.pointer (some ⟨R, 0, none⟩)] w fun e w' => RulP R sl p w e w' := by
  have hlt := h.lt
  have HH := hid_in h
  have H0 := hid_in (h.later (below_box w (.cells #[.int .i64 0, .int .i64 0, .int .i64 0, .int .i64 0, .int .i64 0, .int .i64 0, .int .i64 0, .int .i64 0] 60)))
  have M0 : Hid (Mv R w (w.alloc (.cells #[.int .i64 0, .int .i64 0, .int .i64 0, .int .i64 0, .int .i64 0, .int .i64 0, .int .i64 0, .int .i64 0] 60))) := Mv.of_below (below_box w _)
  have B0 := hid_in (RBf.new w 0 0 0 0 0 0 0 0 60)
  clear h
  go_enter Try.func24, Try.ntmps24
  go_wp2_with fail
  refine (oneG R _ sl p [0, 1, 2, 2, 2] 5 _ 3 _ (by simp) rfl rfl H0.out (by omega) (by omega) (by simp) (by simp)).mono ?_
  rintro e w1 ⟨o, rfl, ho, h1, m1⟩
  have H1 := hid_in h1; have M1 := hid_in (M0.out.trans m1); have B1 := hid_in (B0.out.mv m1 (by omega)); clear h1 m1 H0 M0 B0
  have ho2 : o = 0 ∨ o = 1 ∨ o = 2 := by simpa using ho
  have HO := hid_in ho2
  clear ho ho2
  go_wp2_with fail
  refine (l12Block_any R sl _ _ H1.out (by omega) (by omega)).mono ?_
  rintro e w2 ⟨a, b, rfl, hab, ⟨q2, c2, d2, h2⟩, m2⟩
  have H2 := hid_in h2; have M2 := hid_in (M1.out.trans m2); have B2 := hid_in (B1.out.mv m2 (by omega)); have AB := hid_in hab; clear h2 m2 H1 M1 B1 hab
  go_wp2_with fail
  refine (l12Block_any R sl _ _ H2.out (by omega) (by omega)).mono ?_
  rintro e w3 ⟨c, d, rfl, hcd, ⟨q3, c3, d3, h3⟩, m3⟩
  have H3 := hid_in h3; have M3 := hid_in (M2.out.trans m3); have B3 := hid_in (B2.out.mv m3 (by omega)); have CD := hid_in hcd; clear h3 m3 H2 M2 B2 hcd
  go_wp2_with fail
  refine (oneG R w3.heap.size sl _ [0, 0, 80, 100] 4 _ 3 w3 rfl rfl rfl H3.out (by omega) (by omega) (by simp) (by simp)).mono ?_
  rintro e w4 ⟨l, rfl, hl, h4, m4⟩
  have H4 := hid_in h4; have M4 := hid_in (M3.out.trans m4); have B4 := hid_in (B3.out.mv m4 (by omega)); clear h4 m4 H3 M3 B3
  have hl2 : 0 ≤ l ∧ l ≤ 100 := by simp only [List.mem_cons, List.not_mem_nil, or_false] at hl; omega
  clear hl
  obtain ⟨hl0, hl1⟩ := hl2
  go_wp2_with fail
  refine (oneG R w4.heap.size sl _ [65535, 80, 100, 443] 4 _ 3 w4 rfl rfl rfl H4.out (by omega) (by omega) (by simp) (by simp)).mono ?_
  rintro e w5 ⟨h, rfl, hh, h5, m5⟩
  have hs5 : w.heap.size < w5.heap.size := by have := B4.out.lt; have := m5.size; omega
  have H5 := hid_in h5; have M5 := hid_in (M4.out.trans m5); have B5 := hid_in (B4.out.mv m5 (by omega))
  have hr5 := h5.lt
  clear h5 m5 H4 M4 B4
  have hh2 : 80 ≤ h ∧ h ≤ 65535 := by simp only [List.mem_cons, List.not_mem_nil, or_false] at hh; omega
  clear hh
  obtain ⟨hh0, hh1⟩ := hh2
  have hne1 : ¬ w5.heap.size = w.heap.size := by omega
  have hne2 : ¬ w.heap.size = w5.heap.size := by omega
  by_cases hlh : h < l
  · skip
    have he2 : (o = 0 ∨ o = 1) ∨ o = 2 := by have := HO.out; omega
    rcases he2 with ho | rfl
    · have hob : (o == 2) = false := by simp; omega
      have HO2 := hid_in ho
      clear ho HO
      obtain ⟨l0, p0, p1, p2, p3, p4, p5, p6, p7, pf⟩ := B5.out
      obtain ⟨r7, m7⟩ := put8_rdr (g := w.heap.size) HH.out H5.out M5.out (Nat.le_refl _) o 0 a b c d l l
      unfold put8 at r7 m7
      go_wp2_with (exact bodyPost_ret (v := .agg #[.int .i64 o, .int .i64 0, .int .i64 a, .int .i64 b, .int .i64 c, .int .i64 d, .int .i64 l, .int .i64 l]) (by simp [results, Try.results24, go_sem, p0, p1, p2, p3, p4, p5, p6, p7, l0, hne1, hne2]) rfl ⟨o, 0, a, b, c, d, l, l, rfl, rok_mk AB.out CD.out hl0 (Int.le_refl _) (by omega) (by have := HO2.out; unfold deedB; rw [if_neg (by omega)]; simp; omega), ⟨_, by omega, by omega, r7.later (below_box _ _)⟩, m7.trans (Mv.of_below (below_box _ _))⟩)
    · obtain ⟨l0, p0, p1, p2, p3, p4, p5, p6, p7, pf⟩ := B5.out
      have bx := below_box w5 (.cells #[.int .i64 2, .int .i64 0, .int .i64 a, .int .i64 b, .int .i64 c, .int .i64 d, .int .i64 l, .int .i64 l] 60)
      have B6 := hid_in (B5.out.later bx); have K6 := hid_in (RBf.new w5 2 0 a b c d l l 60); have H6 := hid_in (H5.out.later bx); have M6 := hid_in (M5.out.trans (Mv.of_below bx))
      clear bx
      go_wp2_with fail
      refine (pickM R sl _ 2 _ H6.out (by omega) (by omega) (by omega) (by omega)).mono ?_
      rintro e w7 ⟨t, rfl, t0, t1, h7, m7⟩
      have H7 := hid_in h7; have M7 := hid_in (M6.out.trans m7); have X7 := hid_in (K6.out.mv m7 (by omega)); have Y7 := hid_in (B6.out.mv m7 (by omega)); clear h7 m7 H6 M6 H5 M5 B5 B6 K6 l0 p0 p1 p2 p3 p4 p5 p6 p7 pf
      obtain ⟨x0, y0, y1, y2, y3, y4, y5, y6, y7, yf⟩ := X7.out
      obtain ⟨l0, p0, p1, p2, p3, p4, p5, p6, p7, pf⟩ := Y7.out
      have r8 := HH.out.poke (o := 1) H7.out M7.out (show w.heap.size ≤ w5.heap.size by omega) (.int .i64 t)
      have m8 := M7.out.poke (o := 1) (show w.heap.size ≤ w5.heap.size by omega) (.int .i64 t)
      obtain ⟨r9, m9⟩ := put8_rdr (g := w.heap.size) HH.out r8 m8 (Nat.le_refl _) 2 t a b c d l l
      unfold put8 at r9 m9
      go_wp2_with (exact bodyPost_ret (v := .agg #[.int .i64 2, .int .i64 t, .int .i64 a, .int .i64 b, .int .i64 c, .int .i64 d, .int .i64 l, .int .i64 l]) (by simp [results, Try.results24, go_sem, p0, p1, p2, p3, p4, p5, p6, p7, l0, hne1, hne2]) rfl ⟨2, t, a, b, c, d, l, l, rfl, rok_mk AB.out CD.out hl0 (Int.le_refl _) (by omega) (by unfold deedB; rw [if_pos rfl]; simp [inB]; omega), ⟨_, by omega, by omega, r9⟩, m9⟩)
  · have hlh' : decide (h < l) = false := by simp; omega
    have he2 : (o = 0 ∨ o = 1) ∨ o = 2 := by have := HO.out; omega
    rcases he2 with ho | rfl
    · have hob : (o == 2) = false := by simp; omega
      have HO2 := hid_in ho
      clear ho HO
      obtain ⟨l0, p0, p1, p2, p3, p4, p5, p6, p7, pf⟩ := B5.out
      obtain ⟨r7, m7⟩ := put8_rdr (g := w.heap.size) HH.out H5.out M5.out (Nat.le_refl _) o 0 a b c d l h
      unfold put8 at r7 m7
      go_wp2_with (exact bodyPost_ret (v := .agg #[.int .i64 o, .int .i64 0, .int .i64 a, .int .i64 b, .int .i64 c, .int .i64 d, .int .i64 l, .int .i64 h]) (by simp [results, Try.results24, go_sem, p0, p1, p2, p3, p4, p5, p6, p7, l0, hne1, hne2]) rfl ⟨o, 0, a, b, c, d, l, h, rfl, rok_mk AB.out CD.out hl0 (by omega) (by omega) (by have := HO2.out; unfold deedB; rw [if_neg (by omega)]; simp; omega), ⟨_, by omega, by omega, r7.later (below_box _ _)⟩, m7.trans (Mv.of_below (below_box _ _))⟩)
    · obtain ⟨l0, p0, p1, p2, p3, p4, p5, p6, p7, pf⟩ := B5.out
      have bx := below_box w5 (.cells #[.int .i64 2, .int .i64 0, .int .i64 a, .int .i64 b, .int .i64 c, .int .i64 d, .int .i64 l, .int .i64 h] 60)
      have B6 := hid_in (B5.out.later bx); have K6 := hid_in (RBf.new w5 2 0 a b c d l h 60); have H6 := hid_in (H5.out.later bx); have M6 := hid_in (M5.out.trans (Mv.of_below bx))
      clear bx
      go_wp2_with fail
      refine (pickM R sl _ 2 _ H6.out (by omega) (by omega) (by omega) (by omega)).mono ?_
      rintro e w7 ⟨t, rfl, t0, t1, h7, m7⟩
      have H7 := hid_in h7; have M7 := hid_in (M6.out.trans m7); have X7 := hid_in (K6.out.mv m7 (by omega)); have Y7 := hid_in (B6.out.mv m7 (by omega)); clear h7 m7 H6 M6 H5 M5 B5 B6 K6 l0 p0 p1 p2 p3 p4 p5 p6 p7 pf
      obtain ⟨x0, y0, y1, y2, y3, y4, y5, y6, y7, yf⟩ := X7.out
      obtain ⟨l0, p0, p1, p2, p3, p4, p5, p6, p7, pf⟩ := Y7.out
      have r8 := HH.out.poke (o := 1) H7.out M7.out (show w.heap.size ≤ w5.heap.size by omega) (.int .i64 t)
      have m8 := M7.out.poke (o := 1) (show w.heap.size ≤ w5.heap.size by omega) (.int .i64 t)
      obtain ⟨r9, m9⟩ := put8_rdr (g := w.heap.size) HH.out r8 m8 (Nat.le_refl _) 2 t a b c d l h
      unfold put8 at r9 m9
      go_wp2_with (exact bodyPost_ret (v := .agg #[.int .i64 2, .int .i64 t, .int .i64 a, .int .i64 b, .int .i64 c, .int .i64 d, .int .i64 l, .int .i64 h]) (by simp [results, Try.results24, go_sem, p0, p1, p2, p3, p4, p5, p6, p7, l0, hne1, hne2]) rfl ⟨2, t, a, b, c, d, l, h, rfl, rok_mk AB.out CD.out hl0 (by omega) (by omega) (by unfold deedB; rw [if_pos rfl]; simp [inB]; omega), ⟨_, by omega, by omega, r9⟩, m9⟩)
end Go.Proofs.Ytdljoopioglkiaa
