/- What is proved: the contracts of SndG, one behind the other. The conditions stand at each theorem. -/
import Derived.Test.YtefmmopkikpnhaaGreatDoorGSnF
import Derived.Test.YtefmmopkikpnhaaGreatDoorGTai
namespace Go.Proofs.YtefmmopkikpnhaaGreatDoor
open Go.RowKit Go.LatT Go.BlockM Go.PlainAid Go.OpnT Go.ApdG Go.BytM Go.AesM Go.RowQ Go.WinMath
set_option linter.unusedVariables false
set_option linter.unusedSimpArgs false
/-- Keys behind so many frames. -/
@[reducible] def sntS (x : SaV) (s : Int) : SaV := ⟨x.spi, x.tun, x.key, x.mac, x.since, x.soft, x.hard, x.ticks, s, x.top⟩
theorem sndP_yes {x : SaV} {L : List Int} {now : Int} {t : ByteArray} {w w' : World} {v : Value} {s1 : Int} (hk : sdK x now t = 0) (hs : x.sent + 1 = s1) (ho : w'.ownsRow w.heap.size 3 1 v L.length (i64s L)) (hb : Below w.heap.size w w') : sndP x L now t w (.returned (.tuple #[vSv (sntS x s1) v, .string (frmT x.key x.mac x.spi.toNat s1.toNat (bgnT x s1.toNat) t), .int .i64 0])) w' := by
  subst hs
  have e1 : sdX x now t = moreS x := by unfold sdX; rw [if_pos hk]
  have e2 : sdT x now t = frmT x.key x.mac x.spi.toNat (x.sent + 1).toNat (bgnT x (x.sent + 1).toNat) t := by unfold sdT; rw [if_pos hk]
  unfold sndP
  rw [e1, e2, hk]
  exact ⟨v, rfl, ho, hb⟩
theorem SaBox.set8 {w : World} {g : Nat} {x : SaV} {v : Value} {s : Int} (h : SaBox w g x v) : SaBox (w.setCell ⟨g, 8, none⟩ (.int .i64 s)) g (sntS x s) v := by
  obtain ⟨l0, p0, p1, p2, p3, p4, p5, p6, p7, p8, p9, p10, pf⟩ := h
  exact ⟨by simpa using l0, by go_simp, by go_simp, by go_simp, by go_simp, by go_simp, by go_simp, by go_simp, by go_simp, by go_simp, by go_simp, by go_simp, fun o => by go_simp⟩
theorem SaBox.other8 {w : World} {g k o : Nat} {x : SaV} {v u : Value} (hk : g ≠ k) (h : SaBox w g x v) : SaBox (w.setCell ⟨k, o, none⟩ u) g x v := by
  obtain ⟨l0, p0, p1, p2, p3, p4, p5, p6, p7, p8, p9, p10, pf⟩ := h
  exact ⟨by simpa using l0, by go_simp, by go_simp, by go_simp, by go_simp, by go_simp, by go_simp, by go_simp, by go_simp, by go_simp, by go_simp, by go_simp, fun o => by go_simp⟩
set_option maxHeartbeats 4000000 in
set_option maxRecDepth 100000 in
theorem l9Send_yes (x : SaV) (v : Value) (L : List Int) (now : Int) (t : ByteArray) (w : World) (hL : IL w v L) (hl : L.length ≤ 100) (hx : saB x = true) (h1 : ¬ 51 < t.size) (h2 : ageV x now ≠ 3) :
    Calls Tryz.prog 65 #[vSv x v, .int .i64 now, .string t] w (sndP x L now t w) := by
  obtain ⟨a, cap, rfl⟩ := hL.form
  have HL := hid_in hL; have HX := hid_in hx
  clear hL
  have HK := hid_in (show sdK x now t = 0 by unfold sdK; rw [if_neg h1, if_neg h2])
  obtain ⟨s1, hs1⟩ : ∃ s, x.sent + 1 = s := ⟨_, rfl⟩
  obtain ⟨a1, a2, a3, a4, a5, a6, a7, a8, a9, a10, a11, a12, a13, a14⟩ := saB_all hx
  have hlt := young_sent h2
  obtain ⟨k16, m1, m64⟩ := keysB_of a3
  obtain ⟨va, hva⟩ : ∃ a, ageV x now = a := ⟨_, rfl⟩
  rw [hva] at h2
  have A := hid_in hva
  have h1' : ¬ (51 : Int) < t.size := by omega
  have ht : (t.size : Int) ≤ 9223372036854775807 := by omega
  have u3 : IntKind.i64.wrap (x.sent + 1) = s1 := by rw [IntKind.wrap_i64]; omega
  have u4 : ¬ va = 3 := h2
  have n1 := Int.toNat_of_nonneg (show 0 ≤ x.spi by omega)
  have n2 := Int.toNat_of_nonneg (show 0 ≤ s1 by omega)
  have C3 := hid_in (fun W u => l9Begin_any x u s1 W (by omega) (by omega) (by omega) (by omega) k16)
  have C4 := hid_in (fun W => by
    have := l8Frame_any x.key x.mac x.spi.toNat s1.toNat (bgnT x s1.toNat) t W a3 (by omega) (by omega) (bgnT_size k16) (by omega)
    rw [n1, n2] at this
    exact this)
  have S1 := hid_in hs1
  have FIN := hid_in (fun w' u ho hb => sndP_yes (x := x) (L := L) (now := now) (t := t) (w := w) (w' := w') (v := u) HK.out hs1 ho hb)
  clear hx h1 hva hs1 n1 n2 a1 a2 a3 a4 a5 a6 a7 a8 a9 a10 a11 a12 a13 a14 m1 m64 hlt
  generalize frmT x.key x.mac x.spi.toNat s1.toNat (bgnT x s1.toNat) t = F at *
  generalize bgnT x s1.toNat = Bg at *
  have B0 := hid_in (SaBox.new w x (.slice a L.length cap) 45)
  have B1 := hid_in (SaBox.newAt (w.alloc (.cells #[.int .i64 x.spi, .int .i64 x.tun, .string x.key, .string x.mac, .int .i64 x.since, .int .i64 x.soft, .int .i64 x.hard, .int .i64 x.ticks, .int .i64 x.sent, .int .i64 x.top, .slice a L.length cap] 45)) zeroSa (.slice none 0 0) 45 (w.heap.size + 1) (by simp))
  go_enter Tryz.func65, Tryz.ntmps65
  go_wp2_with fail
  refine (l9Copy_any x _ L _ (HL.out.later (by go_grown)) hl).mono ?_
  rintro e w1 ⟨v', rfl, o, hb1⟩
  obtain ⟨a', c', rfl⟩ := owns_form o
  have P1 := hid_in ((B0.out.later (below_box _ _)).later hb1)
  have P2 := hid_in (B1.out.later hb1)
  have Z1 : Hid (Below w.heap.size w w1) := below_later (by go_grown) hb1
  have OW : Hid (w1.ownsRow (w.heap.size + 1 + 1) 3 1 (.slice a' L.length c') L.length (i64s L)) := by show World.ownsRow _ _ _ _ _ _ _; have h := o; simpa using h
  have zz : w.heap.size + 1 + 1 ≤ w1.heap.size := by have := hb1.size; simpa using this
  have nb1 := hid_in (show (Value.slice a' L.length c').ownBlock ≠ some (w.heap.size + 1) from fun h => by have := (owns_own OW.out _ h).1; omega)
  have nb2 := hid_in (show (Value.slice a' L.length c').ownBlock ≠ some w1.heap.size from fun h => by have := (owns_own OW.out _ h).2; omega)
  clear o hb1 B0 B1
  obtain ⟨l0, p0, p1, p2, p3, p4, p5, p6, p7, p8, p9, p10, pf⟩ := P1.out
  go_wp2_with fail
  refine (l9Age_any x a L.length cap now _ HX.out va A.out).mono ?_
  rintro e w2 ⟨rfl, hb2⟩
  have hb12 := hid_in (below_later (below_box w1 (.cells #[.int .i64 x.spi, .int .i64 x.tun, .string x.key, .string x.mac, .int .i64 x.since, .int .i64 x.soft, .int .i64 x.hard, .int .i64 x.ticks, .int .i64 x.sent, .int .i64 x.top, .slice a' L.length c'] 45)) hb2)
  have P1' := hid_in (P1.out.later hb12.out)
  have P2' := hid_in (P2.out.later hb12.out)
  have S2 := hid_in ((SaBox.new w1 x (.slice a' L.length c') 45).later hb2)
  have OW2 := hid_in (owns_below OW.out hb12.out)
  have Z2 := hid_in (below_later Z1.out hb12.out)
  have zz2 : w1.heap.size < w2.heap.size := by have := hb2.size; simp at this; omega
  clear l0 p0 p1 p2 p3 p4 p5 p6 p7 p8 p9 p10 pf hb2
  obtain ⟨l0, p0, p1, p2, p3, p4, p5, p6, p7, p8, p9, p10, pf⟩ := P1'.out
  obtain ⟨s0, t0, t1, t2, t3, t4, t5, t6, t7, t8, t9, t10, tf⟩ := S2.out
  go_wp2_with fail
  have P3 := hid_in (SaBox.other8 (k := w1.heap.size) (o := 8) (u := .int .i64 s1) (by omega) P1'.out)
  have R3 := hid_in (SaBox.other8 (k := w1.heap.size) (o := 8) (u := .int .i64 s1) (by omega) P2'.out)
  have S3 := hid_in (SaBox.set8 (s := s1) S2.out)
  have OW3 := hid_in (owns_set2 (o := 8) (u := .int .i64 s1) OW2.out nb2.out)
  have Z3 := hid_in (Z2.out.setCell (p := ⟨w1.heap.size, 8, none⟩) (show w.heap.size ≤ w1.heap.size by omega) (.int .i64 s1))
  clear l0 p0 p1 p2 p3 p4 p5 p6 p7 p8 p9 p10 pf s0 t0 t1 t2 t3 t4 t5 t6 t7 t8 t9 t10 tf P1' P2' S2 OW2 Z2
  generalize w2.setCell ⟨w1.heap.size, 8, none⟩ (.int .i64 s1) = W3 at *
  obtain ⟨l0, p0, p1, p2, p3, p4, p5, p6, p7, p8, p9, p10, pf⟩ := P3.out
  obtain ⟨s0, t0, t1, t2, t3, t4, t5, t6, t7, t8, t9, t10, tf⟩ := S3.out
  refine wp_region_lat_tail3 (Below.refl _ _) (by kernel_rfl) (by dsimp only [List.dropLast]) (by dsimp only [List.dropLast]; simp only [List.getLast?_cons_cons, List.getLast?_singleton]; rfl) (by dsimp only [List.dropLast]; simp only [List.getLast?_cons_cons, List.getLast?_singleton]; rfl) (by simp only [List.getLast?_cons_cons, List.getLast?_singleton]; rfl) (by kernel_rfl) ?_
  intro hne hcl
  repeat (go_big_quiet_step (first | (go_at_call 114; exact lat_of (C3.out _ _)) | (go_at_call 58; exact lat_of (C4.out _))))
  refine wpQuiet_nil ?_
  intro w4 hb4
  clear hne hcl l0 p0 p1 p2 p3 p4 p5 p6 p7 p8 p9 p10 pf s0 t0 t1 t2 t3 t4 t5 t6 t7 t8 t9 t10 tf
  have R4 := hid_in (R3.out.later hb4)
  have OW4 := hid_in (owns_below OW3.out hb4)
  have Z4 := hid_in (below_later Z3.out hb4)
  clear hb4 R3 OW3 Z3
  obtain ⟨r0, q0, q1, q2, q3, q4, q5, q6, q7, q8, q9, q10, qf⟩ := R4.out
  go_wp2_with (exact bodyPost_ret (v := .tuple #[vSv (sntS x s1) (.slice a' L.length c'), .string F, .int .i64 0]) (by
    have X4 := SaBox.put R4.out (sntS x s1) (.slice a' L.length c')
    simp only [putSa] at X4
    obtain ⟨_, d0, d1, d2, d3, d4, d5, d6, d7, d8, d9, d10, _⟩ := X4
    simp [results, Tryz.results65, go_sem, d0, d1, d2, d3, d4, d5, d6, d7, d8, d9, d10]) rfl (FIN.out _ _ (ownsW_base (owns_putSa OW4.out nb1.out (sntS x s1) (.slice a' L.length c')) (by omega)) (below_putSa Z4.out (by omega) (sntS x s1) (.slice a' L.length c'))))
end Go.Proofs.YtefmmopkikpnhaaGreatDoor

