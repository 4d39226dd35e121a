/- What is proved: the contracts of SadC, one behind the other. The conditions stand at each theorem. -/
import Derived.Test.YtefmmopkikpnhaaGreatDoorGSdB
namespace Go.Proofs.YtefmmopkikpnhaaGreatDoor
open Go.RowKit Go.LatT Go.BlockM Go.PlainAid Go.OpnT Go.ApdG Go.BytM Go.AesM Go.RowQ Go.WinMath
set_option linter.unusedVariables false
set_option linter.unusedSimpArgs false
@[reducible] def spiS (x : SaV) (s : Int) : SaV := ⟨s, x.tun, x.key, x.mac, x.since, x.soft, x.hard, x.ticks, x.sent, x.top⟩
@[reducible] def keyS (x : SaV) (s : ByteArray) : SaV := ⟨x.spi, x.tun, s, x.mac, x.since, x.soft, x.hard, x.ticks, x.sent, x.top⟩
@[reducible] def softS (x : SaV) (s : Int) : SaV := ⟨x.spi, x.tun, x.key, x.mac, x.since, s, x.hard, x.ticks, x.sent, x.top⟩
/-- What any keys that are drawn keep to. -/
structure Anyd (x : SaV) : Prop where
  s0 : 0 ≤ x.since
  s1 : x.since ≤ 3
  k : x.key.size ≤ 16
  m : x.mac.size ≤ 3
  h0 : 1 ≤ x.hard
  h1 : x.hard ≤ 34
  t0 : 1 ≤ x.ticks
  t1 : x.ticks ≤ 9
theorem Usd.any {x : SaV} (h : Usd x) : Anyd x := by
  have := saB_all h.ok
  exact ⟨h.s0, h.s1, by have := h.k; omega, h.m, by omega, h.h, by omega, h.t⟩
/-- What is drawn: any keys. -/
def DAny (R : Nat) (sl : Value) (w : World) (e : Ending) (w' : World) : Prop :=
  ∃ (x : SaV) (v : Value) (L : List Int) (q : Int), e = .returned (vSv x v) ∧ Anyd x ∧ L.length ≤ 17 ∧ w'.ownsRow w.heap.size 3 1 v L.length (i64s L) ∧ 0 ≤ q ∧ q ≤ 2000 ∧ Rdr w' R sl q ∧ Mv R w w'
set_option maxHeartbeats 8000000 in
set_option maxRecDepth 100000 in
theorem l12AnySa_any (R : Nat) (sl : Value) (p : Int) (w : World) (h : Rdr w R sl p) (hp : 0 ≤ p) (hp' : p ≤ 10) :
    Calls Tryz.prog 75 #[.pointer (some ⟨R, 0, none⟩)] w (DAny R sl w) := by
  have hlt := h.lt
  have HH := hid_in h
  have H0 := hid_in (h.later (below_box w (.cells #[.int .i64 0, .int .i64 0, .string ⟨#[]⟩, .string ⟨#[]⟩, .int .i64 0, .int .i64 0, .int .i64 0, .int .i64 0, .int .i64 0, .int .i64 0, .slice none 0 0] 45)))
  have M0 := hid_in (Mv.of_below (R := R) (below_box w (.cells #[.int .i64 0, .int .i64 0, .string ⟨#[]⟩, .string ⟨#[]⟩, .int .i64 0, .int .i64 0, .int .i64 0, .int .i64 0, .int .i64 0, .int .i64 0, .slice none 0 0] 45)))
  have S0 := hid_in (SaBox.new w zeroSa (.slice none 0 0) 45)
  clear h
  go_enter Tryz.func75, Tryz.ntmps75
  go_wp2_with fail
  refine (l12Used_any R sl p _ H0.out hp hp').mono ?_
  rintro e w1 ⟨x, v1, L, c, q1, rfl, us, rep, o1, hq0, hq1, h1, m1⟩
  obtain ⟨a1, c1, rfl⟩ := owns_form o1
  have US := hid_in us
  have hL17 : L.length ≤ 16 := repW_len rep
  have O1 : Hid (w1.ownsRow (w.heap.size + 1) 3 1 (.slice a1 L.length c1) L.length (i64s L)) := by show World.ownsRow _ _ _ _ _ _ _; have h := o1; simpa using h
  have M1 := hid_in (M0.out.trans m1); have S1 := hid_in (S0.out.mv m1 (by omega)); have H1 := hid_in h1
  have hz1 : w.heap.size + 1 ≤ w1.heap.size := by have := m1.size; simpa using this
  clear us rep o1 h1 m1 H0 M0 S0
  go_wp2_with fail
  have hbx := below_box w1 (.cells #[.int .i64 x.spi, .int .i64 x.tun, .string x.key, .string x.mac, .int .i64 x.since, .int .i64 x.soft, .int .i64 x.hard, .int .i64 x.ticks, .int .i64 x.sent, .int .i64 x.top, .slice a1 L.length c1] 45)
  have B2 := hid_in (SaBox.new w1 x (.slice a1 L.length c1) 45)
  have H2 := hid_in (H1.out.later hbx); have M2 := hid_in (M1.out.later hbx); have S2 := hid_in (S1.out.later hbx); have O2 := hid_in (owns_below O1.out hbx)
  clear hbx
  refine (pickM R sl _ 16 _ H2.out (by omega) (by omega) (by omega) (by omega)).mono ?_
  rintro e w3 ⟨u, rfl, au, bu, h3, m3⟩
  have H3 := hid_in h3; have M3 := hid_in (M2.out.trans m3); have S3 := hid_in (S2.out.mv m3 (by omega)); have B3 := hid_in (B2.out.mv m3 (by omega))
  have O3 := hid_in (owns_mvS O2.out m3 (fun k hk => by have := (owns_own O2.out k hk).1; omega))
  have hz3 := m3.size
  have hw13 : w1.heap.size < w3.heap.size := B3.out.lt
  have nbG := hid_in (show (Value.slice a1 L.length c1).ownBlock ≠ some w1.heap.size from fun h => by have := (owns_own O1.out _ h).2; omega)
  have nbW := hid_in (show (Value.slice a1 L.length c1).ownBlock ≠ some w.heap.size from fun h => by have := (owns_own O1.out _ h).1; omega)
  have nbR := hid_in (show ∀ k, (Value.slice a1 L.length c1).ownBlock = some k → k ≠ R from fun k hk => by have := (owns_own O1.out k hk).1; omega)
  clear h3 m3 H2 M2 S2 B2 O2 H1 M1 S1
  by_cases c0 : u = 0
  · subst c0
    obtain ⟨l0, p0, p1, p2, p3, p4, p5, p6, p7, p8, p9, p10, pf⟩ := B3.out
    obtain ⟨r0, q0', q1', q2', q3', q4', q5', q6', q7', q8', q9', q10', qf⟩ := S3.out
    go_wp2_with fail
    refine (oneN R sl _ [0, 1000] 2 _ _ w3 rfl rfl H3.out (by omega) (by omega) (by simp) (by simp)).mono ?_
    rintro e w4 ⟨y, rfl, hy, h4, m4⟩
    have H4 := hid_in h4; have M4 := hid_in (M3.out.trans m4); have S4 := hid_in (S3.out.mv m4 (by omega)); have B4 := hid_in (B3.out.mv m4 (by omega)); have O4 := hid_in (owns_mvS O3.out m4 nbR.out)
    have hz4 := m4.size
    clear h4 m4 S3 B3 O3 l0 p0 p1 p2 p3 p4 p5 p6 p7 p8 p9 p10 pf r0 q0' q1' q2' q3' q4' q5' q6' q7' q8' q9' q10' qf
    obtain ⟨l0, p0, p1, p2, p3, p4, p5, p6, p7, p8, p9, p10, pf⟩ := B4.out
    obtain ⟨r0, q0', q1', q2', q3', q4', q5', q6', q7', q8', q9', q10', qf⟩ := S4.out
    have S5 := hid_in (SaBox.other8 (k := w1.heap.size) (o := 0) (u := .int .i64 y) (show w.heap.size ≠ w1.heap.size by omega) S4.out)
    have O5 := hid_in (owns_set2 (o := 0) (u := .int .i64 y) O4.out nbG.out)
    have M5 := hid_in (mv_cell2 (o := 0) (u := .int .i64 y) M4.out (show w.heap.size ≤ w1.heap.size by omega))
    have MF := hid_in (mv_putSa M5.out (Nat.le_refl _) (spiS x y) (.slice a1 L.length c1))
    have HF := hid_in (HH.out.mkS H4.out MF.out (by rw [heap_putSa _ R w.heap.size _ _ (by omega), heap_setCell_other _ _ _ _ (show R ≠ w1.heap.size by omega)]))
    go_wp2_with (exact bodyPost_ret (v := vSv (spiS x y) (.slice a1 L.length c1)) (by
      have X4 := SaBox.put S5.out (spiS x y) (.slice a1 L.length c1)
      simp only [putSa] at X4
      obtain ⟨_, d0, d1, d2, d3, d4, d5, d6, d7, d8, d9, d10, _⟩ := X4
      simp [results, Tryz.results75, go_sem, d0, d1, d2, d3, d4, d5, d6, d7, d8, d9, d10]) rfl ⟨(spiS x y), _, L, q1 + 1 + 1, rfl, ⟨US.out.any.s0, US.out.any.s1, US.out.any.k, US.out.any.m, US.out.any.h0, US.out.any.h1, US.out.any.t0, US.out.any.t1⟩, by omega, ownsW_base (owns_putSa O5.out nbW.out (spiS x y) (.slice a1 L.length c1)) (by omega), by omega, by omega, HF.out, MF.out⟩)
  by_cases c1' : u = 1
  · subst c1'
    obtain ⟨l0, p0, p1, p2, p3, p4, p5, p6, p7, p8, p9, p10, pf⟩ := B3.out
    obtain ⟨r0, q0', q1', q2', q3', q4', q5', q6', q7', q8', q9', q10', qf⟩ := S3.out
    go_wp2_with fail
    refine (oneN R sl _ [16, 15] 2 _ _ w3 rfl rfl H3.out (by omega) (by omega) (by simp) (by simp)).mono ?_
    rintro e w4 ⟨y, rfl, hy, h4, m4⟩
    have H4 := hid_in h4; have M4 := hid_in (M3.out.trans m4); have S4 := hid_in (S3.out.mv m4 (by omega)); have B4 := hid_in (B3.out.mv m4 (by omega)); have O4 := hid_in (owns_mvS O3.out m4 nbR.out)
    have hz4 := m4.size
    clear h4 m4 S3 B3 O3 l0 p0 p1 p2 p3 p4 p5 p6 p7 p8 p9 p10 pf r0 q0' q1' q2' q3' q4' q5' q6' q7' q8' q9' q10' qf
    obtain ⟨n, rfl⟩ := Int.eq_ofNat_of_zero_le (show 0 ≤ y by simp at hy; omega)
    have hn16 : n ≤ 16 := by simp at hy; omega
    go_wp2_with fail
    refine (l12Bytes_any R sl _ n _ H4.out (by omega) (by omega) (by omega)).mono ?_
    rintro e w6 ⟨ll, rfl, hll, ⟨q6, hq6, hq6', h6⟩, m6⟩
    have ZK : Hid ((⟨ll.toArray⟩ : ByteArray).size ≤ 16) := by show (Array.size _) ≤ _; rw [List.size_toArray, hll]; exact hn16
    generalize (⟨ll.toArray⟩ : ByteArray) = key at *
    have H6 := hid_in h6; have M6 := hid_in (M4.out.trans m6); have S6 := hid_in (S4.out.mv m6 (by omega)); have B6 := hid_in (B4.out.mv m6 (by omega)); have O6 := hid_in (owns_mvS O4.out m6 nbR.out)
    have hz6 := m6.size
    clear h6 m6 S4 B4 O4 M4 H4 hll
    obtain ⟨l0, p0, p1, p2, p3, p4, p5, p6, p7, p8, p9, p10, pf⟩ := B6.out
    obtain ⟨r0, q0', q1', q2', q3', q4', q5', q6', q7', q8', q9', q10', qf⟩ := S6.out
    have S5 := hid_in (SaBox.other8 (k := w1.heap.size) (o := 2) (u := .string key) (show w.heap.size ≠ w1.heap.size by omega) S6.out)
    have O5 := hid_in (owns_set2 (o := 2) (u := .string key) O6.out nbG.out)
    have M5 := hid_in (mv_cell2 (o := 2) (u := .string key) M6.out (show w.heap.size ≤ w1.heap.size by omega))
    have MF := hid_in (mv_putSa M5.out (Nat.le_refl _) (keyS x key) (.slice a1 L.length c1))
    have HF := hid_in (HH.out.mkS H6.out MF.out (by rw [heap_putSa _ R w.heap.size _ _ (by omega), heap_setCell_other _ _ _ _ (show R ≠ w1.heap.size by omega)]))
    go_wp2_with (exact bodyPost_ret (v := vSv (keyS x key) (.slice a1 L.length c1)) (by
      have X4 := SaBox.put S5.out (keyS x key) (.slice a1 L.length c1)
      simp only [putSa] at X4
      obtain ⟨_, d0, d1, d2, d3, d4, d5, d6, d7, d8, d9, d10, _⟩ := X4
      simp [results, Tryz.results75, go_sem, d0, d1, d2, d3, d4, d5, d6, d7, d8, d9, d10]) rfl ⟨(keyS x key), _, L, q6, rfl, ⟨US.out.any.s0, US.out.any.s1, ZK.out, US.out.any.m, US.out.any.h0, US.out.any.h1, US.out.any.t0, US.out.any.t1⟩, by omega, ownsW_base (owns_putSa O5.out nbW.out (keyS x key) (.slice a1 L.length c1)) (by omega), by omega, by omega, HF.out, MF.out⟩)
  by_cases c2 : u = 2
  · subst c2
    have hw34 : IntKind.i64.wrap (x.hard + 1) = x.hard + 1 := by have := US.out.h; have := US.out.any.h0; rw [IntKind.wrap_i64]; omega
    obtain ⟨l0, p0, p1, p2, p3, p4, p5, p6, p7, p8, p9, p10, pf⟩ := B3.out
    obtain ⟨r0, q0', q1', q2', q3', q4', q5', q6', q7', q8', q9', q10', qf⟩ := S3.out
    go_wp2_with fail
    refine (oneN R sl _ [0, x.hard, x.hard + 1] 3 _ _ w3 rfl rfl H3.out (by omega) (by omega) (by simp) (by simp)).mono ?_
    rintro e w4 ⟨y, rfl, hy, h4, m4⟩
    have H4 := hid_in h4; have M4 := hid_in (M3.out.trans m4); have S4 := hid_in (S3.out.mv m4 (by omega)); have B4 := hid_in (B3.out.mv m4 (by omega)); have O4 := hid_in (owns_mvS O3.out m4 nbR.out)
    have hz4 := m4.size
    clear h4 m4 S3 B3 O3 l0 p0 p1 p2 p3 p4 p5 p6 p7 p8 p9 p10 pf r0 q0' q1' q2' q3' q4' q5' q6' q7' q8' q9' q10' qf
    obtain ⟨l0, p0, p1, p2, p3, p4, p5, p6, p7, p8, p9, p10, pf⟩ := B4.out
    obtain ⟨r0, q0', q1', q2', q3', q4', q5', q6', q7', q8', q9', q10', qf⟩ := S4.out
    have S5 := hid_in (SaBox.other8 (k := w1.heap.size) (o := 5) (u := .int .i64 y) (show w.heap.size ≠ w1.heap.size by omega) S4.out)
    have O5 := hid_in (owns_set2 (o := 5) (u := .int .i64 y) O4.out nbG.out)
    have M5 := hid_in (mv_cell2 (o := 5) (u := .int .i64 y) M4.out (show w.heap.size ≤ w1.heap.size by omega))
    have MF := hid_in (mv_putSa M5.out (Nat.le_refl _) (softS x y) (.slice a1 L.length c1))
    have HF := hid_in (HH.out.mkS H4.out MF.out (by rw [heap_putSa _ R w.heap.size _ _ (by omega), heap_setCell_other _ _ _ _ (show R ≠ w1.heap.size by omega)]))
    go_wp2_with (exact bodyPost_ret (v := vSv (softS x y) (.slice a1 L.length c1)) (by
      have X4 := SaBox.put S5.out (softS x y) (.slice a1 L.length c1)
      simp only [putSa] at X4
      obtain ⟨_, d0, d1, d2, d3, d4, d5, d6, d7, d8, d9, d10, _⟩ := X4
      simp [results, Tryz.results75, go_sem, d0, d1, d2, d3, d4, d5, d6, d7, d8, d9, d10]) rfl ⟨(softS x y), _, L, q1 + 1 + 1, rfl, ⟨US.out.any.s0, US.out.any.s1, US.out.any.k, US.out.any.m, US.out.any.h0, US.out.any.h1, US.out.any.t0, US.out.any.t1⟩, by omega, ownsW_base (owns_putSa O5.out nbW.out (softS x y) (.slice a1 L.length c1)) (by omega), by omega, by omega, HF.out, MF.out⟩)
  by_cases c3 : u = 3
  · subst c3
    obtain ⟨l0, p0, p1, p2, p3, p4, p5, p6, p7, p8, p9, p10, pf⟩ := B3.out
    obtain ⟨r0, q0', q1', q2', q3', q4', q5', q6', q7', q8', q9', q10', qf⟩ := S3.out
    go_wp2_with fail
    refine (l12AnyWindow_any R sl _ _ H3.out (by omega) (by omega)).mono ?_
    rintro e w4 ⟨T, M, v4, q4, rfl, hT0, hT1, hM17, o4, hq4, hq4', h4, m4⟩
    obtain ⟨a4, c4, rfl⟩ := owns_form o4
    have H4 := hid_in h4; have M4 := hid_in (M3.out.trans m4); have S4 := hid_in (S3.out.mv m4 (by omega)); have B4 := hid_in (B3.out.mv m4 (by omega)); have O4 := hid_in o4
    have hz4 := m4.size
    have nb4 := hid_in (show (Value.slice a4 M.length c4).ownBlock ≠ some w1.heap.size from fun h => by have := (owns_own O4.out _ h).1; omega)
    have nb5 := hid_in (show (Value.slice a4 M.length c4).ownBlock ≠ some w.heap.size from fun h => by have := (owns_own O4.out _ h).1; omega)
    clear h4 m4 S3 B3 O3 o4 l0 p0 p1 p2 p3 p4 p5 p6 p7 p8 p9 p10 pf r0 q0' q1' q2' q3' q4' q5' q6' q7' q8' q9' q10' qf
    obtain ⟨l0, p0, p1, p2, p3, p4, p5, p6, p7, p8, p9, p10, pf⟩ := B4.out
    obtain ⟨r0, q0', q1', q2', q3', q4', q5', q6', q7', q8', q9', q10', qf⟩ := S4.out
    have S5 := hid_in (SaBox.other8 (k := w1.heap.size) (o := 10) (u := .slice a4 M.length c4) (show w.heap.size ≠ w1.heap.size by omega) (SaBox.other8 (k := w1.heap.size) (o := 9) (u := .int .i64 T) (show w.heap.size ≠ w1.heap.size by omega) S4.out))
    have O5 := hid_in (owns_set2 (o := 10) (u := .slice a4 M.length c4) (owns_set2 (o := 9) (u := .int .i64 T) O4.out nb4.out) nb4.out)
    have M5 := hid_in (mv_cell2 (o := 10) (u := .slice a4 M.length c4) (mv_cell2 (o := 9) (u := .int .i64 T) M4.out (show w.heap.size ≤ w1.heap.size by omega)) (show w.heap.size ≤ w1.heap.size by omega))
    have MF := hid_in (mv_putSa M5.out (Nat.le_refl _) (topS x T) (.slice a4 M.length c4))
    have HF := hid_in (HH.out.mkS H4.out MF.out (by rw [heap_putSa _ R w.heap.size _ _ (by omega), heap_setCell_other _ _ _ _ (show R ≠ w1.heap.size by omega), heap_setCell_other _ _ _ _ (show R ≠ w1.heap.size by omega)]))
    go_wp2_with (exact bodyPost_ret (v := vSv (topS x T) (.slice a4 M.length c4)) (by
      have X4 := SaBox.put S5.out (topS x T) (.slice a4 M.length c4)
      simp only [putSa] at X4
      obtain ⟨_, d0, d1, d2, d3, d4, d5, d6, d7, d8, d9, d10, _⟩ := X4
      simp [results, Tryz.results75, go_sem, d0, d1, d2, d3, d4, d5, d6, d7, d8, d9, d10]) rfl ⟨(topS x T), _, M, q4, rfl, ⟨US.out.any.s0, US.out.any.s1, US.out.any.k, US.out.any.m, US.out.any.h0, US.out.any.h1, US.out.any.t0, US.out.any.t1⟩, hM17, ownsW_base (owns_putSa O5.out nb5.out (topS x T) (.slice a4 M.length c4)) (by omega), by omega, by omega, HF.out, MF.out⟩)
  by_cases c4 : u = 4
  · subst c4
    have hw34 : IntKind.i64.wrap (x.hard + 1) = x.hard + 1 := by have := US.out.h; have := US.out.any.h0; rw [IntKind.wrap_i64]; omega
    obtain ⟨l0, p0, p1, p2, p3, p4, p5, p6, p7, p8, p9, p10, pf⟩ := B3.out
    obtain ⟨r0, q0', q1', q2', q3', q4', q5', q6', q7', q8', q9', q10', qf⟩ := S3.out
    go_wp2_with fail
    refine (oneN R sl _ [x.hard, x.hard + 1, -1] 3 _ _ w3 rfl rfl H3.out (by omega) (by omega) (by simp) (by simp)).mono ?_
    rintro e w4 ⟨y, rfl, hy, h4, m4⟩
    have H4 := hid_in h4; have M4 := hid_in (M3.out.trans m4); have S4 := hid_in (S3.out.mv m4 (by omega)); have B4 := hid_in (B3.out.mv m4 (by omega)); have O4 := hid_in (owns_mvS O3.out m4 nbR.out)
    have hz4 := m4.size
    clear h4 m4 S3 B3 O3 l0 p0 p1 p2 p3 p4 p5 p6 p7 p8 p9 p10 pf r0 q0' q1' q2' q3' q4' q5' q6' q7' q8' q9' q10' qf
    obtain ⟨l0, p0, p1, p2, p3, p4, p5, p6, p7, p8, p9, p10, pf⟩ := B4.out
    obtain ⟨r0, q0', q1', q2', q3', q4', q5', q6', q7', q8', q9', q10', qf⟩ := S4.out
    have S5 := hid_in (SaBox.other8 (k := w1.heap.size) (o := 8) (u := .int .i64 y) (show w.heap.size ≠ w1.heap.size by omega) S4.out)
    have O5 := hid_in (owns_set2 (o := 8) (u := .int .i64 y) O4.out nbG.out)
    have M5 := hid_in (mv_cell2 (o := 8) (u := .int .i64 y) M4.out (show w.heap.size ≤ w1.heap.size by omega))
    have MF := hid_in (mv_putSa M5.out (Nat.le_refl _) (sntS x y) (.slice a1 L.length c1))
    have HF := hid_in (HH.out.mkS H4.out MF.out (by rw [heap_putSa _ R w.heap.size _ _ (by omega), heap_setCell_other _ _ _ _ (show R ≠ w1.heap.size by omega)]))
    go_wp2_with (exact bodyPost_ret (v := vSv (sntS x y) (.slice a1 L.length c1)) (by
      have X4 := SaBox.put S5.out (sntS x y) (.slice a1 L.length c1)
      simp only [putSa] at X4
      obtain ⟨_, d0, d1, d2, d3, d4, d5, d6, d7, d8, d9, d10, _⟩ := X4
      simp [results, Tryz.results75, go_sem, d0, d1, d2, d3, d4, d5, d6, d7, d8, d9, d10]) rfl ⟨(sntS x y), _, L, q1 + 1 + 1, rfl, ⟨US.out.any.s0, US.out.any.s1, US.out.any.k, US.out.any.m, US.out.any.h0, US.out.any.h1, US.out.any.t0, US.out.any.t1⟩, by omega, ownsW_base (owns_putSa O5.out nbW.out (sntS x y) (.slice a1 L.length c1)) (by omega), by omega, by omega, HF.out, MF.out⟩)
  · have d0 : decide (u = 0) = false := by simpa using c0
    have d1 : decide (u = 1) = false := by simpa using c1'
    have d2 : decide (u = 2) = false := by simpa using c2
    have d3 : decide (u = 3) = false := by simpa using c3
    have d4 : decide (u = 4) = false := by simpa using c4
    obtain ⟨l0, p0, p1, p2, p3, p4, p5, p6, p7, p8, p9, p10, pf⟩ := B3.out
    obtain ⟨r0, q0', q1', q2', q3', q4', q5', q6', q7', q8', q9', q10', qf⟩ := S3.out
    have MF := hid_in (mv_putSa M3.out (Nat.le_refl _) x (.slice a1 L.length c1))
    have HF := hid_in (HH.out.mkS H3.out MF.out (by rw [heap_putSa _ R w.heap.size _ _ (by omega)]))
    go_wp2_with (exact bodyPost_ret (v := vSv x (.slice a1 L.length c1)) (by
      have X4 := SaBox.put S3.out x (.slice a1 L.length c1)
      simp only [putSa] at X4
      obtain ⟨_, d0, d1, d2, d3, d4, d5, d6, d7, d8, d9, d10, _⟩ := X4
      simp [results, Tryz.results75, go_sem, d0, d1, d2, d3, d4, d5, d6, d7, d8, d9, d10]) rfl ⟨x, _, L, q1 + 1, rfl, US.out.any, by omega, ownsW_base (owns_putSa O3.out nbW.out x (.slice a1 L.length c1)) (by omega), by omega, by omega, HF.out, MF.out⟩)
end Go.Proofs.YtefmmopkikpnhaaGreatDoor

