/- What is proved: the contracts of TakE, one behind the other. The conditions stand at each theorem. -/
import Derived.Test.YtefmmopkikpnhaaGreatDoorVTkH
import Derived.Test.YtefmmopkikpnhaaGreatDoorVSnC
namespace Go.Proofs.YtefmmopkikpnhaaGreatDoor
open Go.RowKit Go.LatT Go.BlockM Go.PlainAid Go.OpnT Go.ApdG Go.BytM Go.AesM Go.RowQ Go.WinMath
set_option linter.unusedVariables false
set_option linter.unusedSimpArgs false
set_option maxHeartbeats 8000000 in
set_option maxRecDepth 100000 in
theorem walk_FnExactSaTake (x : SaV) (a : Option Addr) (len cap : Nat) (E : Nat → Int) (now : Int) (t : ByteArray) (w : World) (hk : x.key.size ≤ maxLen) (hm : x.mac.size ≤ maxLen) (hT : Ints w a len E) (h1 : len ≤ cap) (h2 : cap ≤ maxLen) (ht : t.size ≤ maxLen) (hE : ErrT w) (hK : GK w) :
    Calls Tryz.prog 9 #[vSa x a len cap, .int .i64 now, .string t] w fun e w' => e = .returned (.bool true) ∧ Below w.heap.size w w' := by
  have HT := hid_in hT; have HK := hid_in hK; have HE := hid_in hE
  have gl : (len : Int) ≤ 9223372036854775807 := by unfold maxLen at h2; omega
  have gk : (x.key.size : Int) ≤ 9223372036854775807 := by unfold maxLen at hk; omega
  have gm : (x.mac.size : Int) ≤ 9223372036854775807 := by unfold maxLen at hm; omega
  have gt : (t.size : Int) ≤ 9223372036854775807 := by unfold maxLen at ht; omega
  clear hT hk hm h1 h2 ht
  by_cases hnt : 1048576 < t.size
  · have htt' : (1048576 : Int) < t.size := by omega
    go_enter Tryz.func9, Tryz.ntmps9
    go_wp2_with fail
    go_ret
    exact ⟨rfl, by go_grown⟩
  have htt : t.size ≤ 1048576 := by omega
  have htt' : ¬ (1048576 : Int) < t.size := by omega
  clear hnt
  obtain ⟨n, hn⟩ : ∃ n, (if (1048576 : Int) - x.key.size - x.mac.size - len < 0 then (-1 : Int) else (1048576 : Int) - x.key.size - x.mac.size - len) = n := ⟨_, rfl⟩
  have HN := hid_in hn
  by_cases hall : (1048576 : Int) - x.key.size - x.mac.size - len < 0
  · have hn2 : n < 0 := by rw [← hn, if_pos hall]; omega
    clear hn
    go_enter Tryz.func9, Tryz.ntmps9
    go_wp2_with fail
    refine (szSa_any x a len cap _ gk gm gl n HN.out).mono ?_
    rintro e w0 ⟨rfl, hb0⟩
    go_wp2_with fail
    go_ret
    exact ⟨rfl, below_later (below_box w _) hb0⟩
  · have hn2 : 0 ≤ n := by rw [← hn, if_neg hall]; omega
    have hlen : len ≤ 1048576 := by omega
    have hk' : x.key.size ≤ 1048576 := by omega
    have hm' : x.mac.size ≤ 1048576 := by omega
    have hLE : (LE E len).length = len := by simp [LE]
    have HLE := hid_in hLE
    clear hn hall hLE
    obtain ⟨u, hu⟩ := boolOf (saB x = true ∧ WOk x.top len E)
    have SS := hid_in (fun W A C (h : Ints W A len E) (hi : IL W (.slice A len C) (LE E len)) => saTakeS x A len C E now t W h hi hlen htt hk' hm' u hu)
    have SI := hid_in (fun W A C (h : Ints W A len E) (k : GK W) (er : ErrT W) => saTakeI x A len C E now t W k er h hlen hk' hm' htt u hu)
    have hl' : (tL u x E len now t).length ≤ 1048576 := tL_len hlen hu
    generalize tX u x E len now t = X at *
    generalize tL u x E len now t = L' at *
    generalize tT u x E len now t = T at *
    generalize tK u x E len now t = K at *
    clear hu
    go_enter Tryz.func9, Tryz.ntmps9
    go_wp2_with fail
    refine (szSa_any x a len cap _ gk gm gl n HN.out).mono ?_
    rintro e w0 ⟨rfl, hb0⟩
    have Z0 := hid_in (below_later (below_box w _) hb0)
    have B0 := (SaBox.new w x (.slice a len cap) 41).later hb0
    have W0 := hid_in B0
    obtain ⟨a_l, a_0, a_1, a_2, a_3, a_4, a_5, a_6, a_7, a_8, a_9, a_10, a_f⟩ := B0
    clear hb0 a_f
    go_wp2_with fail
    clear a_l a_0 a_1 a_2 a_3 a_4 a_5 a_6 a_7 a_8 a_9 a_10
    refine (toSa_any x a len cap E _ (HT.out.later Z0.out) hlen).mono ?_
    rintro e w1 ⟨b1, rfl, lb1, r1, hb1⟩
    have Z1 := hid_in (below_later Z0.out hb1); have W1 := hid_in (W0.out.later hb1); have R1 := hid_in r1
    clear hb1 W0 Z0 r1
    go_wp2_with fail
    refine (SS.out _ _ _ R1.out.ints (R1.out.il hlen)).mono ?_
    rintro e w2 ⟨v2, rfl, o2, hb2⟩
    obtain ⟨a2, c2, rfl⟩ := owns_form o2
    have hs2 : ∀ k, (Value.slice a2 L'.length c2).ownBlock = some k → k < w2.heap.size := fun k hk => (owns_own o2 k hk).2
    have HS2 := hid_in hs2
    have l0' : w.heap.size ≤ w2.heap.size := by have := Z1.out.size; have := hb2.size; omega
    clear hs2
    have Z2 := hid_in (below_later Z1.out hb2); have B2 := W1.out.later hb2; have O2 := hid_in o2
    have W2 := hid_in B2
    obtain ⟨a_l, a_0, a_1, a_2, a_3, a_4, a_5, a_6, a_7, a_8, a_9, a_10, a_f⟩ := B2
    clear hb2 W1 Z1 R1 o2 a_f lb1
    go_wp2_with fail
    clear a_l a_0 a_1 a_2 a_3 a_4 a_5 a_6 a_7 a_8 a_9 a_10
    refine (toSa_any x a len cap E _ (HT.out.later (below_later Z2.out (below_box _ _))) hlen).mono ?_
    rintro e w3 ⟨b3, rfl, lb3, r3, hb3⟩
    have hb23 := below_later (below_box w2 _) hb3
    have Z3 := hid_in (below_later Z2.out hb23); have W3 := hid_in (W2.out.later hb23); have D3 := hid_in ((SaBox.new w2 X (.slice a2 L'.length c2) 45).later hb3)
    have O3 := hid_in (owns_below O2.out hb23); have R3 := hid_in r3
    have lb3' : w2.heap.size + 1 ≤ b3 := by simp at lb3; omega
    have n3 : w2.heap.size + 1 ≤ w3.heap.size := by have := hb3.size; simp at this; omega
    clear hb3 hb23 Z2 W2 O2 r3 lb3
    go_wp2_with fail
    refine (SI.out _ _ _ (R3.out.ints.later (below_box _ _)) (HK.out.below (below_later Z3.out (below_box _ _)) HK.out.lt) (HE.out.later (below_later Z3.out (below_box _ _)))).mono ?_
    rintro e w4 ⟨v4, rfl, o4, hb4⟩
    obtain ⟨a4, c4, rfl⟩ := owns_form o4
    have hb34 := below_later (below_box w3 _) hb4
    have Z4 := hid_in (below_later Z3.out hb34); have W4 := hid_in (W3.out.later hb34); have D4 := hid_in (D3.out.later hb34); have X4 := hid_in ((SaBox.new w3 x (.slice (some ⟨b3, 0, none⟩) len len) 45).later hb4)
    have O4 := hid_in (owns_below O3.out hb34); have R4 := hid_in (R3.out.later hb34)
    have G4 := hid_in (show w4.ownsRow (w3.heap.size + 1) 3 1 (.slice a4 L'.length c4) L'.length (i64s L') by simpa using o4)
    have n4 : w3.heap.size + 1 ≤ w4.heap.size := by have := hb4.size; simp at this; omega
    have lb4 : b3 < w3.heap.size := R3.out.lt
    clear hb4 hb34 Z3 W3 D3 O3 R3 o4
    have hwn : w.heap.size ≤ w2.heap.size := l0'
    have S4 : Hid (SSt w x X (.slice a len cap) (.slice a2 L'.length c2) (.slice a4 L'.length c4) (.slice (some ⟨b3, 0, none⟩) len len) L' L' (LE E len) w.heap.size w2.heap.size w3.heap.size w4.heap.size w1.heap.size (w3.heap.size + 1) (w2.heap.size + 1) (w4.alloc (Obj.cells #[.int .i64 X.spi, .int .i64 X.tun, .string X.key, .string X.mac, .int .i64 X.since, .int .i64 X.soft, .int .i64 X.hard, .int .i64 X.ticks, .int .i64 X.sent, .int .i64 X.top, .slice a4 L'.length c4] 45))) := by
      show SSt _ _ _ _ _ _ _ _ _ _ _ _ _ _ _ _ _ _
      have hb := below_box w4 (Obj.cells #[.int .i64 X.spi, .int .i64 X.tun, .string X.key, .string X.mac, .int .i64 X.since, .int .i64 X.soft, .int .i64 X.hard, .int .i64 X.ticks, .int .i64 X.sent, .int .i64 X.top, .slice a4 L'.length c4] 45)
      exact ⟨below_later Z4.out hb, W4.out.later hb, D4.out.later hb, X4.out.later hb, SaBox.new _ _ _ _, owns_below O4.out hb, owns_below G4.out hb, by have h := (R4.out.later hb).owns lb3' (by unfold maxLen; omega); rw [HLE.out]; exact h⟩
    have gb : ∀ k, (Value.slice a4 L'.length c4).ownBlock = some k → w3.heap.size + 1 ≤ k ∧ k < w4.heap.size := fun k hk => owns_own G4.out k hk
    have GB := hid_in gb
    have D4' := D4.out; have X4' := X4.out; have W4' := W4.out
    obtain ⟨d_l, d_0, d_1, d_2, d_3, d_4, d_5, d_6, d_7, d_8, d_9, d_10, d_f⟩ := D4'
    obtain ⟨x_l, x_0, x_1, x_2, x_3, x_4, x_5, x_6, x_7, x_8, x_9, x_10, x_f⟩ := X4'
    obtain ⟨a_l, a_0, a_1, a_2, a_3, a_4, a_5, a_6, a_7, a_8, a_9, a_10, a_f⟩ := W4'
    clear d_f x_f a_f
    go_wp2_with fail
    clear d_l d_0 d_1 d_2 d_3 d_4 d_5 d_6 d_7 d_8 d_9 d_10 x_l x_0 x_1 x_2 x_3 x_4 x_5 x_6 x_7 x_8 x_9 x_10 a_l a_0 a_1 a_2 a_3 a_4 a_5 a_6 a_7 a_8 a_9 a_10
    clear D4 X4 W4 O4 R4 G4 Z4 gb
    refine (eqSv_any X _ _ L' _ (owns_il S4.out.og) (owns_il S4.out.os) hl').mono ?_
    rintro e w5 ⟨rfl, hb5⟩
    have S5 := hid_in (S4.out.later hb5)
    clear hb5 S4
    obtain ⟨d_l, d_0, d_1, d_2, d_3, d_4, d_5, d_6, d_7, d_8, d_9, d_10, d_f⟩ := S5.out.d
    obtain ⟨x_l, x_0, x_1, x_2, x_3, x_4, x_5, x_6, x_7, x_8, x_9, x_10, x_f⟩ := S5.out.bx
    obtain ⟨a_l, a_0, a_1, a_2, a_3, a_4, a_5, a_6, a_7, a_8, a_9, a_10, a_f⟩ := S5.out.a
    obtain ⟨g_l, g_0, g_1, g_2, g_3, g_4, g_5, g_6, g_7, g_8, g_9, g_10, g_f⟩ := S5.out.g
    clear d_f x_f a_f g_f
    go_wp2_with fail
    go_region_held3 (fun w' => (∀ o, w'.cell? ⟨w.heap.size, o, none⟩ = w5.cell? ⟨w.heap.size, o, none⟩) ∧ (∀ o, w'.cell? ⟨w3.heap.size, o, none⟩ = w5.cell? ⟨w3.heap.size, o, none⟩)) (first | exact ⟨fun _ => rfl, fun _ => rfl⟩ | go_keep) (first | (go_at_call 26; refine (toSa_any x a len cap E _ (HT.out.later (by exact S5.out.drew.z)) hlen).mono ?_; rintro e w6 ⟨b6, rfl, lb6, r6, hb6⟩; have u0 : ∀ o, w6.cell? ⟨w.heap.size, o, none⟩ = w5.cell? ⟨w.heap.size, o, none⟩ := (fun o => (bcell hb6).1 _ _ a_l); have u1 : ∀ o, w6.cell? ⟨w3.heap.size, o, none⟩ = w5.cell? ⟨w3.heap.size, o, none⟩ := (fun o => (bcell hb6).1 _ _ x_l); have S6 := hid_in (S5.out.drew.later hb6); have Q6 := hid_in r6; have L6 := hid_in hb6.size; clear hb6 r6 lb6) | (go_at_call 28; refine (eqSv_any x _ _ (LE E len) _ (IL.of_owns S6.out.ox (by simp [LE])) (Q6.out.il hlen) (by rw [HLE.out]; exact hlen)).mono ?_; rintro e w7 ⟨rfl, hb7⟩; have u2 : ∀ o, w7.cell? ⟨w.heap.size, o, none⟩ = w5.cell? ⟨w.heap.size, o, none⟩ := (fun o => ((bcell hb7).1 _ _ (Nat.lt_of_lt_of_le a_l L6.out)).trans (u0 o)); have u3 : ∀ o, w7.cell? ⟨w3.heap.size, o, none⟩ = w5.cell? ⟨w3.heap.size, o, none⟩ := (fun o => ((bcell hb7).1 _ _ (Nat.lt_of_lt_of_le x_l L6.out)).trans (u1 o)); have S7 := hid_in (S6.out.later hb7); clear hb7))
    clear d_l d_0 d_1 d_2 d_3 d_4 d_5 d_6 d_7 d_8 d_9 d_10 x_l x_0 x_1 x_2 x_3 x_4 x_5 x_6 x_7 x_8 x_9 x_10 a_l a_0 a_1 a_2 a_3 a_4 a_5 a_6 a_7 a_8 a_9 a_10 g_l g_0 g_1 g_2 g_3 g_4 g_5 g_6 g_7 g_8 g_9 g_10
    rename_i hHeld
    clear hHeld
    try clear u2
    try clear u3
    try clear u0
    try clear u1
    clear S5 S6
    obtain ⟨d_l, d_0, d_1, d_2, d_3, d_4, d_5, d_6, d_7, d_8, d_9, d_10, d_f⟩ := S7.out.d
    obtain ⟨x_l, x_0, x_1, x_2, x_3, x_4, x_5, x_6, x_7, x_8, x_9, x_10, x_f⟩ := S7.out.bx
    obtain ⟨a_l, a_0, a_1, a_2, a_3, a_4, a_5, a_6, a_7, a_8, a_9, a_10, a_f⟩ := S7.out.a
    obtain ⟨g_l, g_0, g_1, g_2, g_3, g_4, g_5, g_6, g_7, g_8, g_9, g_10, g_f⟩ := S7.out.g
    clear d_f x_f a_f g_f
    have hp1 : decide (1 + ((LE E len).length : Int) < 0) = false := by simp; omega
    have hp2 : decide (1 + (L'.length : Int) < 0) = false := by simp; omega
    go_wp2_with fail
    clear d_l d_0 d_1 d_2 d_3 d_4 d_5 d_6 d_7 d_8 d_9 d_10 x_l x_0 x_1 x_2 x_3 x_4 x_5 x_6 x_7 x_8 x_9 x_10 a_l a_0 a_1 a_2 a_3 a_4 a_5 a_6 a_7 a_8 a_9 a_10 g_l g_0 g_1 g_2 g_3 g_4 g_5 g_6 g_7 g_8 g_9 g_10
    refine (markSa_any x (w2.heap.size + 1) _ (LE E len) 1 _ S7.out.ox (by rw [HLE.out]; exact hlen) (by omega) (by omega)).mono ?_
    rintro e w8 ⟨rfl, o8, g8⟩
    have S8 := hid_in (S7.out.markX (XL' := upFrom 1 (LE E len).length) g8 (by rw [upFrom_len]; exact o8) (by omega) (fun k hk => by have h : b3 = k := Option.some.inj hk; subst h; exact ⟨by omega, by omega, by omega, by omega, fun e => by have := HS2.out _ e; omega, fun e => by have := GB.out _ e; omega⟩))
    clear S7 o8 g8
    obtain ⟨d_l, d_0, d_1, d_2, d_3, d_4, d_5, d_6, d_7, d_8, d_9, d_10, d_f⟩ := S8.out.d
    obtain ⟨x_l, x_0, x_1, x_2, x_3, x_4, x_5, x_6, x_7, x_8, x_9, x_10, x_f⟩ := S8.out.bx
    obtain ⟨a_l, a_0, a_1, a_2, a_3, a_4, a_5, a_6, a_7, a_8, a_9, a_10, a_f⟩ := S8.out.a
    obtain ⟨g_l, g_0, g_1, g_2, g_3, g_4, g_5, g_6, g_7, g_8, g_9, g_10, g_f⟩ := S8.out.g
    clear d_f x_f a_f g_f
    go_wp2_with fail
    clear d_l d_0 d_1 d_2 d_3 d_4 d_5 d_6 d_7 d_8 d_9 d_10 x_l x_0 x_1 x_2 x_3 x_4 x_5 x_6 x_7 x_8 x_9 x_10 a_l a_0 a_1 a_2 a_3 a_4 a_5 a_6 a_7 a_8 a_9 a_10 g_l g_0 g_1 g_2 g_3 g_4 g_5 g_6 g_7 g_8 g_9 g_10
    refine (eqSv_any X _ _ L' _ (owns_il S8.out.og) (owns_il S8.out.os) hl').mono ?_
    rintro e w9 ⟨rfl, hb9⟩
    have S9 := hid_in (S8.out.later hb9)
    clear hb9 S8
    obtain ⟨d_l, d_0, d_1, d_2, d_3, d_4, d_5, d_6, d_7, d_8, d_9, d_10, d_f⟩ := S9.out.d
    obtain ⟨x_l, x_0, x_1, x_2, x_3, x_4, x_5, x_6, x_7, x_8, x_9, x_10, x_f⟩ := S9.out.bx
    obtain ⟨a_l, a_0, a_1, a_2, a_3, a_4, a_5, a_6, a_7, a_8, a_9, a_10, a_f⟩ := S9.out.a
    obtain ⟨g_l, g_0, g_1, g_2, g_3, g_4, g_5, g_6, g_7, g_8, g_9, g_10, g_f⟩ := S9.out.g
    clear d_f x_f a_f g_f
    go_wp2_with fail
    clear d_l d_0 d_1 d_2 d_3 d_4 d_5 d_6 d_7 d_8 d_9 d_10 x_l x_0 x_1 x_2 x_3 x_4 x_5 x_6 x_7 x_8 x_9 x_10 a_l a_0 a_1 a_2 a_3 a_4 a_5 a_6 a_7 a_8 a_9 a_10 g_l g_0 g_1 g_2 g_3 g_4 g_5 g_6 g_7 g_8 g_9 g_10
    refine (markSa_any X (w3.heap.size + 1) _ L' 1 _ S9.out.og hl' (by omega) (by omega)).mono ?_
    rintro e w10 ⟨rfl, o10, g10⟩
    have S10 := hid_in (S9.out.markG (GL' := upFrom 1 L'.length) g10 (by rw [upFrom_len]; exact o10) (by omega) (fun k hk => by have := GB.out k hk; exact ⟨by omega, by omega, by omega, by omega, fun e => by have := HS2.out _ e; omega, fun e => by have h : b3 = k := Option.some.inj e; omega⟩))
    clear S9 o10 g10
    obtain ⟨d_l, d_0, d_1, d_2, d_3, d_4, d_5, d_6, d_7, d_8, d_9, d_10, d_f⟩ := S10.out.d
    obtain ⟨x_l, x_0, x_1, x_2, x_3, x_4, x_5, x_6, x_7, x_8, x_9, x_10, x_f⟩ := S10.out.bx
    obtain ⟨a_l, a_0, a_1, a_2, a_3, a_4, a_5, a_6, a_7, a_8, a_9, a_10, a_f⟩ := S10.out.a
    obtain ⟨g_l, g_0, g_1, g_2, g_3, g_4, g_5, g_6, g_7, g_8, g_9, g_10, g_f⟩ := S10.out.g
    clear d_f x_f a_f g_f
    go_wp2_with fail
    clear d_l d_0 d_1 d_2 d_3 d_4 d_5 d_6 d_7 d_8 d_9 d_10 x_l x_0 x_1 x_2 x_3 x_4 x_5 x_6 x_7 x_8 x_9 x_10 a_l a_0 a_1 a_2 a_3 a_4 a_5 a_6 a_7 a_8 a_9 a_10 g_l g_0 g_1 g_2 g_3 g_4 g_5 g_6 g_7 g_8 g_9 g_10
    refine (heldSa_any X (w3.heap.size + 1) _ L'.length 1 _ (by have h := S10.out.og; rw [upFrom_len] at h; exact h) hl' (by omega) (by omega)).mono ?_
    rintro e w11 ⟨rfl, hb11⟩
    have S11 := hid_in (S10.out.later hb11)
    clear hb11 S10
    obtain ⟨d_l, d_0, d_1, d_2, d_3, d_4, d_5, d_6, d_7, d_8, d_9, d_10, d_f⟩ := S11.out.d
    obtain ⟨x_l, x_0, x_1, x_2, x_3, x_4, x_5, x_6, x_7, x_8, x_9, x_10, x_f⟩ := S11.out.bx
    obtain ⟨a_l, a_0, a_1, a_2, a_3, a_4, a_5, a_6, a_7, a_8, a_9, a_10, a_f⟩ := S11.out.a
    obtain ⟨g_l, g_0, g_1, g_2, g_3, g_4, g_5, g_6, g_7, g_8, g_9, g_10, g_f⟩ := S11.out.g
    clear d_f x_f a_f g_f
    go_wp2_with fail
    clear d_l d_0 d_1 d_2 d_3 d_4 d_5 d_6 d_7 d_8 d_9 d_10 x_l x_0 x_1 x_2 x_3 x_4 x_5 x_6 x_7 x_8 x_9 x_10 a_l a_0 a_1 a_2 a_3 a_4 a_5 a_6 a_7 a_8 a_9 a_10 g_l g_0 g_1 g_2 g_3 g_4 g_5 g_6 g_7 g_8 g_9 g_10
    refine (toSa_any x a len cap E _ (HT.out.later S11.out.z) hlen).mono ?_
    rintro e w12 ⟨b12, rfl, lb12, r12, hb12⟩
    have S12 := hid_in (S11.out.later hb12); have R12 := hid_in r12
    clear hb12 r12 S11
    go_wp2_with fail
    refine (SI.out _ _ _ R12.out.ints (HK.out.below S12.out.z HK.out.lt) (HE.out.later S12.out.z)).mono ?_
    rintro e w13 ⟨v13, rfl, o13, hb13⟩
    obtain ⟨a13, c13, rfl⟩ := owns_form o13
    have S13 := hid_in (S12.out.later hb13); have O13 := hid_in o13
    clear hb13 o13 S12 R12
    obtain ⟨d_l, d_0, d_1, d_2, d_3, d_4, d_5, d_6, d_7, d_8, d_9, d_10, d_f⟩ := S13.out.d
    obtain ⟨x_l, x_0, x_1, x_2, x_3, x_4, x_5, x_6, x_7, x_8, x_9, x_10, x_f⟩ := S13.out.bx
    obtain ⟨a_l, a_0, a_1, a_2, a_3, a_4, a_5, a_6, a_7, a_8, a_9, a_10, a_f⟩ := S13.out.a
    obtain ⟨g_l, g_0, g_1, g_2, g_3, g_4, g_5, g_6, g_7, g_8, g_9, g_10, g_f⟩ := S13.out.g
    clear d_f x_f a_f g_f
    go_wp2_with fail
    clear d_l d_0 d_1 d_2 d_3 d_4 d_5 d_6 d_7 d_8 d_9 d_10 x_l x_0 x_1 x_2 x_3 x_4 x_5 x_6 x_7 x_8 x_9 x_10 a_l a_0 a_1 a_2 a_3 a_4 a_5 a_6 a_7 a_8 a_9 a_10 g_l g_0 g_1 g_2 g_3 g_4 g_5 g_6 g_7 g_8 g_9 g_10
    have S14 := hid_in (S13.out.later (below_box _ (Obj.cells #[.int .i64 X.spi, .int .i64 X.tun, .string X.key, .string X.mac, .int .i64 X.since, .int .i64 X.soft, .int .i64 X.hard, .int .i64 X.ticks, .int .i64 X.sent, .int .i64 X.top, .slice a13 L'.length c13] 45)))
    refine (eqSv_any X _ _ L' _ ((owns_il O13.out).later (below_box _ _)) (owns_il S14.out.os) hl').mono ?_
    rintro e w15 ⟨rfl, hb15⟩
    have S15 := hid_in (S14.out.later hb15)
    clear hb15 S14 S13 O13
    obtain ⟨d_l, d_0, d_1, d_2, d_3, d_4, d_5, d_6, d_7, d_8, d_9, d_10, d_f⟩ := S15.out.d
    obtain ⟨x_l, x_0, x_1, x_2, x_3, x_4, x_5, x_6, x_7, x_8, x_9, x_10, x_f⟩ := S15.out.bx
    obtain ⟨a_l, a_0, a_1, a_2, a_3, a_4, a_5, a_6, a_7, a_8, a_9, a_10, a_f⟩ := S15.out.a
    obtain ⟨g_l, g_0, g_1, g_2, g_3, g_4, g_5, g_6, g_7, g_8, g_9, g_10, g_f⟩ := S15.out.g
    clear d_f x_f a_f g_f
    go_wp2_with fail
    clear d_l d_0 d_1 d_2 d_3 d_4 d_5 d_6 d_7 d_8 d_9 d_10 x_l x_0 x_1 x_2 x_3 x_4 x_5 x_6 x_7 x_8 x_9 x_10 a_l a_0 a_1 a_2 a_3 a_4 a_5 a_6 a_7 a_8 a_9 a_10 g_l g_0 g_1 g_2 g_3 g_4 g_5 g_6 g_7 g_8 g_9 g_10
    refine (heldSa_any X (w3.heap.size + 1) _ L'.length 1 _ (by have h := S15.out.og; rw [upFrom_len] at h; exact h) hl' (by omega) (by omega)).mono ?_
    rintro e w16 ⟨rfl, hb16⟩
    have S16 := hid_in (S15.out.later hb16)
    clear hb16 S15
    go_wp2_with fail
    go_ret
    exact ⟨rfl, S16.out.z⟩
end Go.Proofs.YtefmmopkikpnhaaGreatDoor

