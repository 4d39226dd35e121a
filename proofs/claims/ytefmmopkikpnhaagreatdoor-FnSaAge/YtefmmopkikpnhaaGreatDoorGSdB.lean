/- What is proved: the contracts of SadB, one behind the other. The conditions stand at each theorem. -/
import Derived.Test.YtefmmopkikpnhaaGreatDoorGSdA
import Derived.Test.YtefmmopkikpnhaaGreatDoorGWnR
import Derived.Test.YtefmmopkikpnhaaGreatDoorGTkA
namespace Go.Proofs.YtefmmopkikpnhaaGreatDoor
open Go.RowKit Go.LatT Go.BlockM Go.PlainAid Go.OpnT Go.ApdG Go.BytM Go.AesM Go.RowQ Go.WinMath
set_option linter.unusedVariables false
set_option linter.unusedSimpArgs false
/-- What keys that are drawn keep to. -/
structure Usd (x : SaV) : Prop where
  ok : saB x = true
  s0 : 0 ≤ x.since
  s1 : x.since ≤ 3
  k : x.key.size = 16
  m : x.mac.size ≤ 3
  h : x.hard ≤ 34
  t : x.ticks ≤ 9
theorem NewSa.usd {x : SaV} {now : Int} (h : NewSa x now) (h0 : 0 ≤ now) (h1 : now ≤ 3) : Usd x := by
  obtain ⟨a, b, c, d, e, f, g⟩ := h
  exact ⟨a, by omega, by omega, d, e, f, g⟩
theorem Usd.sent {x : SaV} {now : Int} {t : ByteArray} (h : Usd x) : Usd (sdX x now t) := by
  unfold sdX
  split
  · rename_i hk
    have hy : ageV x now ≠ 3 := by
      intro e
      unfold sdK at hk
      rw [if_pos e] at hk
      split at hk <;> simp at hk
    have hs := young_sent hy
    have ok := h.ok
    refine ⟨?_, h.s0, h.s1, h.k, h.m, h.h, h.t⟩
    unfold saB inB at ok ⊢
    simp only [Bool.and_eq_true, decide_eq_true_eq] at ok ⊢
    obtain ⟨h1, h2, h3⟩ := ok
    exact ⟨h1, by show 0 ≤ x.sent + 1; omega, by show x.sent + 1 ≤ x.hard; omega⟩
  · exact h
theorem Usd.top {x : SaV} {T : Int} (h : Usd x) : Usd (topS x T) := ⟨h.ok, h.s0, h.s1, h.k, h.m, h.h, h.t⟩
theorem il_nil {w w' : World} {v : Value} (h : IL w v []) (hz : w.heap.size ≤ w'.heap.size) : IL w' v [] := by
  obtain ⟨a, cap, e, hc, h2⟩ := h
  refine ⟨a, cap, e, hc, ?_⟩
  rcases h2 with h2 | ⟨bb, off, e2, hl, hh⟩
  · exact .inl h2
  · exact .inr ⟨bb, off, e2, by omega, fun i hi => by simp at hi⟩
/-- What holds behind some frames. -/
def UW (R : Nat) (sl : Value) (q : Int) (w : World) (G : Nat) (x : SaV) (v : Value) (wr : World) : Prop :=
  Mv R w wr ∧ SaBox wr G x v ∧ SaBox wr w.heap.size zeroSa (.slice none 0 0) ∧ IL wr v [] ∧ Rdr wr R sl q ∧ Usd x
theorem UW.put {R : Nat} {sl : Value} {q : Int} {w : World} {G : Nat} {x : SaV} {v : Value} {wr wn : World} (h : UW R sl q w G x v wr) (h0 : ∃ p, Rdr w R sl p) (hR : R < w.heap.size) (hG : w.heap.size < G) (hb : Below wr.heap.size wr wn) {X : SaV} {u : Value} (hu : IL wn u []) (hX : Usd X) : UW R sl q w G X u (putSa wn G X u) := by
  obtain ⟨m, b, z, _, r, _⟩ := h
  obtain ⟨p, hp⟩ := h0
  have m2 : Mv R w wn := m.trans (Mv.of_below hb)
  have m3 := mv_putSa m2 (show w.heap.size ≤ G by omega) X u
  refine ⟨m3, SaBox.put (b.later hb) X u, ?_, il_nil hu (by simp), hp.mkS (r.later hb) m3 (heap_putSa wn R G X u (by omega)), hX⟩
  have z2 := z.later hb
  have e : ∀ o, (putSa wn G X u).cell? ⟨w.heap.size, o, none⟩ = wn.cell? ⟨w.heap.size, o, none⟩ := fun o => by unfold World.cell?; rw [heap_putSa wn w.heap.size G X u (by omega)]
  have f : ∀ o, (putSa wn G X u).frozen? ⟨w.heap.size, o, none⟩ = wn.frozen? ⟨w.heap.size, o, none⟩ := fun o => by unfold World.frozen?; rw [heap_putSa wn w.heap.size G X u (by omega)]
  exact ⟨by simpa using z2.lt, (e _).trans z2.c0, (e _).trans z2.c1, (e _).trans z2.c2, (e _).trans z2.c3, (e _).trans z2.c4, (e _).trans z2.c5, (e _).trans z2.c6, (e _).trans z2.c7, (e _).trans z2.c8, (e _).trans z2.c9, (e _).trans z2.c10, fun o => (f o).trans (z2.f o)⟩
/-- What is drawn. -/
def DUsd (R : Nat) (sl : Value) (w : World) (e : Ending) (w' : World) : Prop :=
  ∃ (x : SaV) (v : Value) (L : List Int) (c : Nat) (q : Int), e = .returned (vSv x v) ∧ Usd x ∧ Rep x.top c L ∧ w'.ownsRow w.heap.size 3 1 v L.length (i64s L) ∧ 0 ≤ q ∧ q ≤ 1000 ∧ Rdr w' R sl q ∧ Mv R w w'
set_option maxHeartbeats 4000000 in
set_option maxRecDepth 100000 in
theorem l12Used_any (R : Nat) (sl : Value) (p : Int) (w : World) (h : Rdr w R sl p) (hp : 0 ≤ p) (hp' : p ≤ 10) :
    Calls Tryz.prog 125 #[.pointer (some ⟨R, 0, none⟩)] w (DUsd R sl w) := by
  have hlt := h.lt
  have HH := hid_in h
  have H0 := hid_in (h.later (below_box w (.cells #[.int .i64 0, .int .i64 0, .string ⟨#[]⟩, .string ⟨#[]⟩, .int .i64 0, .int .i64 0, .int .i64 0, .int .i64 0, .int .i64 0, .int .i64 0, .slice none 0 0] 45)))
  have M0 := hid_in (Mv.of_below (R := R) (below_box w (.cells #[.int .i64 0, .int .i64 0, .string ⟨#[]⟩, .string ⟨#[]⟩, .int .i64 0, .int .i64 0, .int .i64 0, .int .i64 0, .int .i64 0, .int .i64 0, .slice none 0 0] 45)))
  have S0 := hid_in (SaBox.new w zeroSa (.slice none 0 0) 45)
  clear h
  go_enter Tryz.func125, Tryz.ntmps125
  go_wp2_with fail
  refine (pickM R sl p 4 _ H0.out (by omega) (by omega) (by omega) (by omega)).mono ?_
  rintro e w1 ⟨u1, rfl, a1, b1, h1, m1⟩
  have H1 := hid_in h1; have M1 := hid_in (M0.out.trans m1); have S1 := hid_in (S0.out.mv m1 (by omega)); clear h1 m1 H0 M0 S0
  go_wp2_with fail
  refine (l12Sa_any R sl _ u1 _ H1.out (by omega) (by omega) a1 (by omega)).mono ?_
  rintro e w2 ⟨x0, rfl, n2, h2, m2⟩
  have H2 := hid_in h2; have M2 := hid_in (M1.out.trans m2); have S2 := hid_in (S1.out.mv m2 (by omega)); have US0 := hid_in (n2.usd a1 (by omega))
  have hz2 := M2.out.size
  have hs2 := S2.out.lt
  clear h2 m2 H1 M1 S1 n2
  go_wp2_with fail
  have hbx := below_box w2 (.cells #[.int .i64 x0.spi, .int .i64 x0.tun, .string x0.key, .string x0.mac, .int .i64 x0.since, .int .i64 x0.soft, .int .i64 x0.hard, .int .i64 x0.ticks, .int .i64 x0.sent, .int .i64 x0.top, .slice none 0 0] 45)
  have BX := hid_in (SaBox.new w2 x0 (.slice none 0 0) 45)
  have H3 := hid_in (H2.out.later hbx); have M3 := hid_in (M2.out.later hbx); have S3 := hid_in (S2.out.later hbx)
  clear hbx
  refine (pickM R sl _ 4 _ H3.out (by omega) (by omega) (by omega) (by omega)).mono ?_
  rintro e w4 ⟨u4, rfl, a4, b4, h4, m4⟩
  obtain ⟨N, rfl⟩ := Int.eq_ofNat_of_zero_le a4
  have I0 : Hid (UW R sl (p + 1 + 1 + 1 + 1 + 1 + 1 + 1 + 1 + 1) w w2.heap.size x0 (.slice none 0 0) w4) := by
    show UW _ _ _ _ _ _ _ _
    exact ⟨M3.out.trans m4, BX.out.mv m4 (by omega), S3.out.mv m4 (by omega), ⟨none, 0, rfl, Nat.le_refl _, .inl ⟨rfl, rfl⟩⟩, h4, US0.out⟩
  clear H2 H3 M2 M3 S2 S3 BX h4 m4 US0
  go_wp2_with fail
  go_loopw [4] (fun vn wr => ∃ (k : Nat) (x : SaV) (a : Option Addr) (cap : Nat), vn = .int .i64 (k : Int) ∧ k ≤ N ∧ Hid (UW R sl (p + 1 + 1 + 1 + 1 + 1 + 1 + 1 + 1 + 1) w w2.heap.size x (.slice a 0 cap) wr)) (fun vn _ => (intOf vn).toNat)
  case atStart => exact ⟨N, x0, none, 0, rfl, Nat.le_refl _, I0⟩
  case round =>
    obtain ⟨k, x, a, cap, rfl, hk, HW⟩ := hrel
    have hB := HW.out.2.1
    have hZ := HW.out.2.2.1
    obtain ⟨l0, p0, p1, p2, p3, p4, p5, p6, p7, p8, p9, p10, pf⟩ := hB
    by_cases hk0 : k = 0
    · subst hk0
      go_wp2_with fail
      refine (l12Window_any R sl _ _ HW.out.2.2.2.2.1 (by omega) (by omega)).mono ?_
      rintro e w5 ⟨T, L, v5, q5, c5, rfl, rep5, o5, hq0, hq1, h5, m5⟩
      obtain ⟨a6, c6, rfl⟩ := owns_form o5
      have hzr := HW.out.1.size
      have lG := l0
      have B5 := hid_in (HW.out.2.1.mv m5 (show w2.heap.size ≠ R by omega)); have Z5 := hid_in (HW.out.2.2.1.mv m5 (show w.heap.size ≠ R by omega))
      have M5 := hid_in (HW.out.1.trans m5); have H5 := hid_in h5; have O5 := hid_in o5; have R5 := hid_in rep5; have UX := hid_in HW.out.2.2.2.2.2
      have nb1 := hid_in (show (Value.slice a6 L.length c6).ownBlock ≠ some w2.heap.size from fun h => by have := (owns_own O5.out _ h).1; omega)
      have nb2 := hid_in (show (Value.slice a6 L.length c6).ownBlock ≠ some w.heap.size from fun h => by have := (owns_own O5.out _ h).1; omega)
      clear l0 p0 p1 p2 p3 p4 p5 p6 p7 p8 p9 p10 pf hZ HW h5 m5 o5 rep5
      obtain ⟨l0, p0, p1, p2, p3, p4, p5, p6, p7, p8, p9, p10, pf⟩ := B5.out
      obtain ⟨r0, q0, q1, q2, q3, q4, q5', q6, q7, q8, q9, q10, qf⟩ := Z5.out
      have S6 := hid_in (SaBox.set9 T (.slice a6 L.length c6) B5.out)
      have Z6 := hid_in (SaBox.other8 (k := w2.heap.size) (o := 10) (u := .slice a6 L.length c6) (show w.heap.size ≠ w2.heap.size by omega) (SaBox.other8 (k := w2.heap.size) (o := 9) (u := .int .i64 T) (show w.heap.size ≠ w2.heap.size by omega) Z5.out))
      have O6 := hid_in (owns_set2 (o := 10) (u := .slice a6 L.length c6) (owns_set2 (o := 9) (u := .int .i64 T) O5.out nb1.out) nb1.out)
      have M6 := hid_in (mv_putSa (mv_cell2 (o := 10) (u := .slice a6 L.length c6) (mv_cell2 (o := 9) (u := .int .i64 T) M5.out (show w.heap.size ≤ w2.heap.size by omega)) (show w.heap.size ≤ w2.heap.size by omega)) (Nat.le_refl _) (topS x T) (.slice a6 L.length c6))
      have H6 := hid_in (HH.out.mkS H5.out M6.out (by rw [heap_putSa _ R w.heap.size _ _ (by omega), heap_setCell_other _ _ _ _ (show R ≠ w2.heap.size by omega), heap_setCell_other _ _ _ _ (show R ≠ w2.heap.size by omega)]))
      go_wp2_with (exact bodyPost_ret (v := vSv (topS x T) (.slice a6 L.length c6)) (by
        have X4 := SaBox.put Z6.out (topS x T) (.slice a6 L.length c6)
        simp only [putSa] at X4
        obtain ⟨_, d0, d1, d2, d3, d4, d5, d6, d7, d8, d9, d10, _⟩ := X4
        simp [results, Tryz.results125, go_sem, d0, d1, d2, d3, d4, d5, d6, d7, d8, d9, d10]) rfl ⟨topS x T, _, L, c5, q5, rfl, UX.out.top, R5.out, ownsW_base (owns_putSa O6.out nb2.out (topS x T) (.slice a6 L.length c6)) (by omega), hq0, by omega, H6.out, M6.out⟩)
    · have hk1 : (0 : Int) < (k : Int) := by omega
      have hk2 : (k : Int) - 1 = ((k - 1 : Nat) : Int) := by omega
      go_wp2_with fail
      refine (l9Send_any x (.slice a 0 cap) [] x.since ⟨#[116, 101, 120, 116]⟩ _ HW.out.2.2.2.1 (by simp) HW.out.2.2.2.2.2.ok (by decide)).mono ?_
      rintro e w5 ⟨v5, rfl, o5, hb5⟩
      obtain ⟨a5, c5, rfl⟩ := owns_form o5
      have U5 := hid_in (HW.out.put ⟨p, HH.out⟩ hlt (by omega) hb5 (owns_il o5) (HW.out.2.2.2.2.2.sent (now := x.since) (t := ⟨#[116, 101, 120, 116]⟩)))
      have B5 := HW.out.2.1.later hb5
      clear l0 p0 p1 p2 p3 p4 p5 p6 p7 p8 p9 p10 pf o5 hb5 hZ HW
      generalize sdX x x.since ⟨#[116, 101, 120, 116]⟩ = X at *
      obtain ⟨l0, p0, p1, p2, p3, p4, p5, p6, p7, p8, p9, p10, pf⟩ := B5
      go_wp2_with fail
      exact ⟨⟨k - 1, X, a5, c5, rfl, by omega, U5.out⟩, by simp [intOf]; omega⟩
end Go.Proofs.YtefmmopkikpnhaaGreatDoor

