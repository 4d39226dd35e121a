/- What is proved: the contracts of TakB, one behind the other. The conditions stand at each theorem. -/
import Derived.Test.YtefmmopkikpnhaaGreatDoorVTkA
namespace Go.Proofs.YtefmmopkikpnhaaGreatDoor
open Go.RowKit Go.LatT Go.BlockM Go.PlainAid Go.OpnT Go.ApdG Go.BytM Go.AesM Go.RowQ Go.WinMath
set_option linter.unusedVariables false
set_option linter.unusedSimpArgs false
set_option maxHeartbeats 4000000 in
set_option maxRecDepth 100000 in
theorem l9Take_1 (x : SaV) (v : Value) (L : List Int) (now : Int) (t : ByteArray) (w : World) (hL : IL w v L) (hl : L.length ≤ 100) (hx : saB x = true) (ht : t.size ≤ 1048576) (h1 : fhB t = false) :
    Calls Tryz.prog 73 #[vSv x v, .int .i64 now, .string t] w (takP x L now t w) := by
  obtain ⟨a, cap, rfl⟩ := hL.form
  have HL := hid_in hL
  clear hL
  have FH := hid_in (fun W => frameHeadS t W ht)
  obtain ⟨b0, b1, b2, b3⟩ := saB_bounds hx
  have e1 : IntKind.i64.wrap (2 * x.ticks) = 2 * x.ticks := by rw [IntKind.wrap_i64]; omega
  have e2 : IntKind.i64.wrap (x.since + 2 * x.ticks) = x.since + 2 * x.ticks := by rw [IntKind.wrap_i64]; omega
  have B0 := hid_in (SaBox.new w x (.slice a L.length cap) 45)
  have B1 := hid_in (SaBox.newAt (w.alloc (.cells #[.int .i64 x.spi, .int .i64 x.tun, .string x.key, .string x.mac, .int .i64 x.since, .int .i64 x.soft, .int .i64 x.hard, .int .i64 x.ticks, .int .i64 x.sent, .int .i64 x.top, .slice a L.length cap] 45)) zeroSa (.slice none 0 0) 45 (w.heap.size + 1) (by simp))
  have HK := hid_in (show tkK x L now t = 1 by unfold tkK; rw [if_pos h1])
  rw [h1] at FH
  clear h1 hx
  go_enter Tryz.func73, Tryz.ntmps73
  go_wp2_with fail
  refine (l9Copy_any x _ L _ (HL.out.later (by go_grown)) hl).mono ?_
  rintro e w1 ⟨v', rfl, o, hb1⟩
  obtain ⟨a', c', rfl⟩ := owns_form o
  have P1 := hid_in ((B0.out.later (below_box _ _)).later hb1)
  have P2 := hid_in (B1.out.later hb1)
  have Z1 : Hid (Below w.heap.size w w1) := below_later (by go_grown) hb1
  have OW : Hid (w1.ownsRow (w.heap.size + 1 + 1) 3 1 (.slice a' L.length c') L.length (i64s L)) := by show World.ownsRow _ _ _ _ _ _ _; have h := o; simpa using h
  have zz : w.heap.size + 1 + 1 ≤ w1.heap.size := by have := hb1.size; simpa using this
  have nb1 := hid_in (show (Value.slice a' L.length c').ownBlock ≠ some (w.heap.size + 1) from fun h => by have := (owns_own OW.out _ h).1; omega)
  have nb2 := hid_in (show (Value.slice a' L.length c').ownBlock ≠ some w1.heap.size from fun h => by have := (owns_own OW.out _ h).2; omega)
  have HL1 := hid_in (HL.out.later (Z1.out.trans (Below.mono (below_box w1 (.cells #[.int .i64 x.spi, .int .i64 x.tun, .string x.key, .string x.mac, .int .i64 x.since, .int .i64 x.soft, .int .i64 x.hard, .int .i64 x.ticks, .int .i64 x.sent, .int .i64 x.top, (.slice a' L.length c')] 45)) (by omega))))
  clear o hb1 B0 B1
  obtain ⟨l0, p0, p1, p2, p3, p4, p5, p6, p7, p8, p9, p10, pf⟩ := P1.out
  obtain ⟨r0, q0, q1, q2, q3, q4, q5, q6, q7, q8, q9, q10, qf⟩ := P2.out
  go_wp2_with fail
  refine (FH.out _).mono ?_
  rintro e w2 ⟨rfl, rfl⟩
  go_wp2_with (exact bodyPost_ret (v := .tuple #[vSv x (.slice a' L.length c'), .string ⟨#[]⟩, .int .i64 1]) (by
    have X4 := (SaBox.put P2.out x (.slice a' L.length c')).later (below_box _ (.cells #[.int .i64 x.spi, .int .i64 x.tun, .string x.key, .string x.mac, .int .i64 x.since, .int .i64 x.soft, .int .i64 x.hard, .int .i64 x.ticks, .int .i64 x.sent, .int .i64 x.top, (.slice a' L.length c')] 45))
    simp only [putSa] at X4
    obtain ⟨_, d0, d1, d2, d3, d4, d5, d6, d7, d8, d9, d10, _⟩ := X4
    simp [results, Tryz.results73, go_sem, d0, d1, d2, d3, d4, d5, d6, d7, d8, d9, d10]) rfl (takP_no HK.out (by decide) (ownsW_base (owns_below (owns_putSa OW.out nb1.out x (.slice a' L.length c')) (below_box _ (.cells #[.int .i64 x.spi, .int .i64 x.tun, .string x.key, .string x.mac, .int .i64 x.since, .int .i64 x.soft, .int .i64 x.hard, .int .i64 x.ticks, .int .i64 x.sent, .int .i64 x.top, (.slice a' L.length c')] 45))) (by omega)) (below_later (below_putSa Z1.out (by omega) x (.slice a' L.length c')) (below_box _ (.cells #[.int .i64 x.spi, .int .i64 x.tun, .string x.key, .string x.mac, .int .i64 x.since, .int .i64 x.soft, .int .i64 x.hard, .int .i64 x.ticks, .int .i64 x.sent, .int .i64 x.top, (.slice a' L.length c')] 45)))))
set_option maxHeartbeats 4000000 in
set_option maxRecDepth 100000 in
theorem l9Take_2 (x : SaV) (v : Value) (L : List Int) (now : Int) (t : ByteArray) (w : World) (hL : IL w v L) (hl : L.length ≤ 100) (hx : saB x = true) (ht : t.size ≤ 1048576) (h1 : fhB t = true) (h2 : ¬ fhN t 0 4 = x.spi) :
    Calls Tryz.prog 73 #[vSv x v, .int .i64 now, .string t] w (takP x L now t w) := by
  obtain ⟨a, cap, rfl⟩ := hL.form
  have HL := hid_in hL
  clear hL
  have FH := hid_in (fun W => frameHeadS t W ht)
  obtain ⟨b0, b1, b2, b3⟩ := saB_bounds hx
  have e1 : IntKind.i64.wrap (2 * x.ticks) = 2 * x.ticks := by rw [IntKind.wrap_i64]; omega
  have e2 : IntKind.i64.wrap (x.since + 2 * x.ticks) = x.since + 2 * x.ticks := by rw [IntKind.wrap_i64]; omega
  have B0 := hid_in (SaBox.new w x (.slice a L.length cap) 45)
  have B1 := hid_in (SaBox.newAt (w.alloc (.cells #[.int .i64 x.spi, .int .i64 x.tun, .string x.key, .string x.mac, .int .i64 x.since, .int .i64 x.soft, .int .i64 x.hard, .int .i64 x.ticks, .int .i64 x.sent, .int .i64 x.top, .slice a L.length cap] 45)) zeroSa (.slice none 0 0) 45 (w.heap.size + 1) (by simp))
  have HK := hid_in (show tkK x L now t = 2 by unfold tkK; rw [if_neg (by rw [h1]; decide), if_pos h2])
  rw [h1] at FH
  clear h1 hx
  have h2' : decide (fhN t 0 4 = x.spi) = false := by simpa using h2
  have h2'' : (fhN t 0 4 != x.spi) = true := by simpa using h2
  go_enter Tryz.func73, Tryz.ntmps73
  go_wp2_with fail
  refine (l9Copy_any x _ L _ (HL.out.later (by go_grown)) hl).mono ?_
  rintro e w1 ⟨v', rfl, o, hb1⟩
  obtain ⟨a', c', rfl⟩ := owns_form o
  have P1 := hid_in ((B0.out.later (below_box _ _)).later hb1)
  have P2 := hid_in (B1.out.later hb1)
  have Z1 : Hid (Below w.heap.size w w1) := below_later (by go_grown) hb1
  have OW : Hid (w1.ownsRow (w.heap.size + 1 + 1) 3 1 (.slice a' L.length c') L.length (i64s L)) := by show World.ownsRow _ _ _ _ _ _ _; have h := o; simpa using h
  have zz : w.heap.size + 1 + 1 ≤ w1.heap.size := by have := hb1.size; simpa using this
  have nb1 := hid_in (show (Value.slice a' L.length c').ownBlock ≠ some (w.heap.size + 1) from fun h => by have := (owns_own OW.out _ h).1; omega)
  have nb2 := hid_in (show (Value.slice a' L.length c').ownBlock ≠ some w1.heap.size from fun h => by have := (owns_own OW.out _ h).2; omega)
  have HL1 := hid_in (HL.out.later (Z1.out.trans (Below.mono (below_box w1 (.cells #[.int .i64 x.spi, .int .i64 x.tun, .string x.key, .string x.mac, .int .i64 x.since, .int .i64 x.soft, .int .i64 x.hard, .int .i64 x.ticks, .int .i64 x.sent, .int .i64 x.top, (.slice a' L.length c')] 45)) (by omega))))
  clear o hb1 B0 B1
  obtain ⟨l0, p0, p1, p2, p3, p4, p5, p6, p7, p8, p9, p10, pf⟩ := P1.out
  obtain ⟨r0, q0, q1, q2, q3, q4, q5, q6, q7, q8, q9, q10, qf⟩ := P2.out
  go_wp2_with fail
  refine (FH.out _).mono ?_
  rintro e w2 ⟨rfl, rfl⟩
  go_wp2_with (exact bodyPost_ret (v := .tuple #[vSv x (.slice a' L.length c'), .string ⟨#[]⟩, .int .i64 2]) (by
    have X4 := (SaBox.put P2.out x (.slice a' L.length c')).later (below_box _ (.cells #[.int .i64 x.spi, .int .i64 x.tun, .string x.key, .string x.mac, .int .i64 x.since, .int .i64 x.soft, .int .i64 x.hard, .int .i64 x.ticks, .int .i64 x.sent, .int .i64 x.top, (.slice a' L.length c')] 45))
    simp only [putSa] at X4
    obtain ⟨_, d0, d1, d2, d3, d4, d5, d6, d7, d8, d9, d10, _⟩ := X4
    simp [results, Tryz.results73, go_sem, d0, d1, d2, d3, d4, d5, d6, d7, d8, d9, d10]) rfl (takP_no HK.out (by decide) (ownsW_base (owns_below (owns_putSa OW.out nb1.out x (.slice a' L.length c')) (below_box _ (.cells #[.int .i64 x.spi, .int .i64 x.tun, .string x.key, .string x.mac, .int .i64 x.since, .int .i64 x.soft, .int .i64 x.hard, .int .i64 x.ticks, .int .i64 x.sent, .int .i64 x.top, (.slice a' L.length c')] 45))) (by omega)) (below_later (below_putSa Z1.out (by omega) x (.slice a' L.length c')) (below_box _ (.cells #[.int .i64 x.spi, .int .i64 x.tun, .string x.key, .string x.mac, .int .i64 x.since, .int .i64 x.soft, .int .i64 x.hard, .int .i64 x.ticks, .int .i64 x.sent, .int .i64 x.top, (.slice a' L.length c')] 45)))))
set_option maxHeartbeats 4000000 in
set_option maxRecDepth 100000 in
theorem l9Take_3 (x : SaV) (v : Value) (L : List Int) (now : Int) (t : ByteArray) (w : World) (hL : IL w v L) (hl : L.length ≤ 100) (hx : saB x = true) (ht : t.size ≤ 1048576) (h1 : fhB t = true) (h2 : fhN t 0 4 = x.spi) (h3 : x.since + 2 * x.ticks ≤ now) :
    Calls Tryz.prog 73 #[vSv x v, .int .i64 now, .string t] w (takP x L now t w) := by
  obtain ⟨a, cap, rfl⟩ := hL.form
  have HL := hid_in hL
  clear hL
  have FH := hid_in (fun W => frameHeadS t W ht)
  obtain ⟨b0, b1, b2, b3⟩ := saB_bounds hx
  have e1 : IntKind.i64.wrap (2 * x.ticks) = 2 * x.ticks := by rw [IntKind.wrap_i64]; omega
  have e2 : IntKind.i64.wrap (x.since + 2 * x.ticks) = x.since + 2 * x.ticks := by rw [IntKind.wrap_i64]; omega
  have B0 := hid_in (SaBox.new w x (.slice a L.length cap) 45)
  have B1 := hid_in (SaBox.newAt (w.alloc (.cells #[.int .i64 x.spi, .int .i64 x.tun, .string x.key, .string x.mac, .int .i64 x.since, .int .i64 x.soft, .int .i64 x.hard, .int .i64 x.ticks, .int .i64 x.sent, .int .i64 x.top, .slice a L.length cap] 45)) zeroSa (.slice none 0 0) 45 (w.heap.size + 1) (by simp))
  have HK := hid_in (show tkK x L now t = 3 by unfold tkK; rw [if_neg (by rw [h1]; decide), if_neg (fun h => h h2), if_pos (.inl h3)])
  rw [h1, h2] at FH
  clear h1 h2 hx
  go_enter Tryz.func73, Tryz.ntmps73
  go_wp2_with fail
  refine (l9Copy_any x _ L _ (HL.out.later (by go_grown)) hl).mono ?_
  rintro e w1 ⟨v', rfl, o, hb1⟩
  obtain ⟨a', c', rfl⟩ := owns_form o
  have P1 := hid_in ((B0.out.later (below_box _ _)).later hb1)
  have P2 := hid_in (B1.out.later hb1)
  have Z1 : Hid (Below w.heap.size w w1) := below_later (by go_grown) hb1
  have OW : Hid (w1.ownsRow (w.heap.size + 1 + 1) 3 1 (.slice a' L.length c') L.length (i64s L)) := by show World.ownsRow _ _ _ _ _ _ _; have h := o; simpa using h
  have zz : w.heap.size + 1 + 1 ≤ w1.heap.size := by have := hb1.size; simpa using this
  have nb1 := hid_in (show (Value.slice a' L.length c').ownBlock ≠ some (w.heap.size + 1) from fun h => by have := (owns_own OW.out _ h).1; omega)
  have nb2 := hid_in (show (Value.slice a' L.length c').ownBlock ≠ some w1.heap.size from fun h => by have := (owns_own OW.out _ h).2; omega)
  have HL1 := hid_in (HL.out.later (Z1.out.trans (Below.mono (below_box w1 (.cells #[.int .i64 x.spi, .int .i64 x.tun, .string x.key, .string x.mac, .int .i64 x.since, .int .i64 x.soft, .int .i64 x.hard, .int .i64 x.ticks, .int .i64 x.sent, .int .i64 x.top, (.slice a' L.length c')] 45)) (by omega))))
  clear o hb1 B0 B1
  obtain ⟨l0, p0, p1, p2, p3, p4, p5, p6, p7, p8, p9, p10, pf⟩ := P1.out
  obtain ⟨r0, q0, q1, q2, q3, q4, q5, q6, q7, q8, q9, q10, qf⟩ := P2.out
  go_wp2_with fail
  refine (FH.out _).mono ?_
  rintro e w2 ⟨rfl, rfl⟩
  go_wp2_with (exact bodyPost_ret (v := .tuple #[vSv x (.slice a' L.length c'), .string ⟨#[]⟩, .int .i64 3]) (by
    have X4 := (SaBox.put P2.out x (.slice a' L.length c')).later (below_box _ (.cells #[.int .i64 x.spi, .int .i64 x.tun, .string x.key, .string x.mac, .int .i64 x.since, .int .i64 x.soft, .int .i64 x.hard, .int .i64 x.ticks, .int .i64 x.sent, .int .i64 x.top, (.slice a' L.length c')] 45))
    simp only [putSa] at X4
    obtain ⟨_, d0, d1, d2, d3, d4, d5, d6, d7, d8, d9, d10, _⟩ := X4
    simp [results, Tryz.results73, go_sem, d0, d1, d2, d3, d4, d5, d6, d7, d8, d9, d10]) rfl (takP_no HK.out (by decide) (ownsW_base (owns_below (owns_putSa OW.out nb1.out x (.slice a' L.length c')) (below_box _ (.cells #[.int .i64 x.spi, .int .i64 x.tun, .string x.key, .string x.mac, .int .i64 x.since, .int .i64 x.soft, .int .i64 x.hard, .int .i64 x.ticks, .int .i64 x.sent, .int .i64 x.top, (.slice a' L.length c')] 45))) (by omega)) (below_later (below_putSa Z1.out (by omega) x (.slice a' L.length c')) (below_box _ (.cells #[.int .i64 x.spi, .int .i64 x.tun, .string x.key, .string x.mac, .int .i64 x.since, .int .i64 x.soft, .int .i64 x.hard, .int .i64 x.ticks, .int .i64 x.sent, .int .i64 x.top, (.slice a' L.length c')] 45)))))
set_option maxHeartbeats 4000000 in
set_option maxRecDepth 100000 in
theorem l9Take_3b (x : SaV) (v : Value) (L : List Int) (now : Int) (t : ByteArray) (w : World) (hL : IL w v L) (hl : L.length ≤ 100) (hx : saB x = true) (ht : t.size ≤ 1048576) (h1 : fhB t = true) (h2 : fhN t 0 4 = x.spi) (h3 : ¬ x.since + 2 * x.ticks ≤ now) (h4 : x.hard < fhN t 4 8) :
    Calls Tryz.prog 73 #[vSv x v, .int .i64 now, .string t] w (takP x L now t w) := by
  obtain ⟨a, cap, rfl⟩ := hL.form
  have HL := hid_in hL
  clear hL
  have FH := hid_in (fun W => frameHeadS t W ht)
  obtain ⟨b0, b1, b2, b3⟩ := saB_bounds hx
  have e1 : IntKind.i64.wrap (2 * x.ticks) = 2 * x.ticks := by rw [IntKind.wrap_i64]; omega
  have e2 : IntKind.i64.wrap (x.since + 2 * x.ticks) = x.since + 2 * x.ticks := by rw [IntKind.wrap_i64]; omega
  have B0 := hid_in (SaBox.new w x (.slice a L.length cap) 45)
  have B1 := hid_in (SaBox.newAt (w.alloc (.cells #[.int .i64 x.spi, .int .i64 x.tun, .string x.key, .string x.mac, .int .i64 x.since, .int .i64 x.soft, .int .i64 x.hard, .int .i64 x.ticks, .int .i64 x.sent, .int .i64 x.top, .slice a L.length cap] 45)) zeroSa (.slice none 0 0) 45 (w.heap.size + 1) (by simp))
  have HK := hid_in (show tkK x L now t = 3 by unfold tkK; rw [if_neg (by rw [h1]; decide), if_neg (fun h => h h2), if_pos (.inr h4)])
  rw [h1, h2] at FH
  clear h1 h2 hx
  have h3' : decide (x.since + 2 * x.ticks ≤ now) = false := by simpa using h3
  go_enter Tryz.func73, Tryz.ntmps73
  go_wp2_with fail
  refine (l9Copy_any x _ L _ (HL.out.later (by go_grown)) hl).mono ?_
  rintro e w1 ⟨v', rfl, o, hb1⟩
  obtain ⟨a', c', rfl⟩ := owns_form o
  have P1 := hid_in ((B0.out.later (below_box _ _)).later hb1)
  have P2 := hid_in (B1.out.later hb1)
  have Z1 : Hid (Below w.heap.size w w1) := below_later (by go_grown) hb1
  have OW : Hid (w1.ownsRow (w.heap.size + 1 + 1) 3 1 (.slice a' L.length c') L.length (i64s L)) := by show World.ownsRow _ _ _ _ _ _ _; have h := o; simpa using h
  have zz : w.heap.size + 1 + 1 ≤ w1.heap.size := by have := hb1.size; simpa using this
  have nb1 := hid_in (show (Value.slice a' L.length c').ownBlock ≠ some (w.heap.size + 1) from fun h => by have := (owns_own OW.out _ h).1; omega)
  have nb2 := hid_in (show (Value.slice a' L.length c').ownBlock ≠ some w1.heap.size from fun h => by have := (owns_own OW.out _ h).2; omega)
  have HL1 := hid_in (HL.out.later (Z1.out.trans (Below.mono (below_box w1 (.cells #[.int .i64 x.spi, .int .i64 x.tun, .string x.key, .string x.mac, .int .i64 x.since, .int .i64 x.soft, .int .i64 x.hard, .int .i64 x.ticks, .int .i64 x.sent, .int .i64 x.top, (.slice a' L.length c')] 45)) (by omega))))
  clear o hb1 B0 B1
  obtain ⟨l0, p0, p1, p2, p3, p4, p5, p6, p7, p8, p9, p10, pf⟩ := P1.out
  obtain ⟨r0, q0, q1, q2, q3, q4, q5, q6, q7, q8, q9, q10, qf⟩ := P2.out
  go_wp2_with fail
  refine (FH.out _).mono ?_
  rintro e w2 ⟨rfl, rfl⟩
  go_wp2_with (exact bodyPost_ret (v := .tuple #[vSv x (.slice a' L.length c'), .string ⟨#[]⟩, .int .i64 3]) (by
    have X4 := (SaBox.put P2.out x (.slice a' L.length c')).later (below_box _ (.cells #[.int .i64 x.spi, .int .i64 x.tun, .string x.key, .string x.mac, .int .i64 x.since, .int .i64 x.soft, .int .i64 x.hard, .int .i64 x.ticks, .int .i64 x.sent, .int .i64 x.top, (.slice a' L.length c')] 45))
    simp only [putSa] at X4
    obtain ⟨_, d0, d1, d2, d3, d4, d5, d6, d7, d8, d9, d10, _⟩ := X4
    simp [results, Tryz.results73, go_sem, d0, d1, d2, d3, d4, d5, d6, d7, d8, d9, d10]) rfl (takP_no HK.out (by decide) (ownsW_base (owns_below (owns_putSa OW.out nb1.out x (.slice a' L.length c')) (below_box _ (.cells #[.int .i64 x.spi, .int .i64 x.tun, .string x.key, .string x.mac, .int .i64 x.since, .int .i64 x.soft, .int .i64 x.hard, .int .i64 x.ticks, .int .i64 x.sent, .int .i64 x.top, (.slice a' L.length c')] 45))) (by omega)) (below_later (below_putSa Z1.out (by omega) x (.slice a' L.length c')) (below_box _ (.cells #[.int .i64 x.spi, .int .i64 x.tun, .string x.key, .string x.mac, .int .i64 x.since, .int .i64 x.soft, .int .i64 x.hard, .int .i64 x.ticks, .int .i64 x.sent, .int .i64 x.top, (.slice a' L.length c')] 45)))))
set_option maxHeartbeats 4000000 in
set_option maxRecDepth 100000 in
theorem l9Take_4 (x : SaV) (v : Value) (L : List Int) (now : Int) (t : ByteArray) (w : World) (hL : IL w v L) (hl : L.length ≤ 100) (hx : saB x = true) (ht : t.size ≤ 1048576) (c : Nat) (hr : Rep x.top c L) (h1 : fhB t = true) (h2 : fhN t 0 4 = x.spi) (h3 : ¬ x.since + 2 * x.ticks ≤ now) (h4 : ¬ x.hard < fhN t 4 8) (h5 : codeL x.top L (fhN t 4 8) = 2) :
    Calls Tryz.prog 73 #[vSv x v, .int .i64 now, .string t] w (takP x L now t w) := by
  obtain ⟨a, cap, rfl⟩ := hL.form
  have HL := hid_in hL
  clear hL
  have FH := hid_in (fun W => frameHeadS t W ht)
  obtain ⟨b0, b1, b2, b3⟩ := saB_bounds hx
  have e1 : IntKind.i64.wrap (2 * x.ticks) = 2 * x.ticks := by rw [IntKind.wrap_i64]; omega
  have e2 : IntKind.i64.wrap (x.since + 2 * x.ticks) = x.since + 2 * x.ticks := by rw [IntKind.wrap_i64]; omega
  have B0 := hid_in (SaBox.new w x (.slice a L.length cap) 45)
  have B1 := hid_in (SaBox.newAt (w.alloc (.cells #[.int .i64 x.spi, .int .i64 x.tun, .string x.key, .string x.mac, .int .i64 x.since, .int .i64 x.soft, .int .i64 x.hard, .int .i64 x.ticks, .int .i64 x.sent, .int .i64 x.top, .slice a L.length cap] 45)) zeroSa (.slice none 0 0) 45 (w.heap.size + 1) (by simp))
  have HK := hid_in (show tkK x L now t = 4 by unfold tkK; rw [if_neg (by rw [h1]; decide), if_neg (fun h => h h2), if_neg (fun h => h.elim h3 h4), if_pos h5])
  rw [h1, h2] at FH
  have h3' : decide (x.since + 2 * x.ticks ≤ now) = false := by simpa using h3
  have h4' : decide (x.hard < fhN t 4 8) = false := by simpa using h4
  have SE : Hid (∀ W, IL W (.slice a L.length cap) L → Calls Tryz.prog 122 #[.agg #[.int .i64 x.top, .slice a L.length cap], .int .i64 (fhN t 4 8)] W (SeeR x.top (fhN t 4 8) L W)) := fun W h => l7SeeR x.top (fhN t 4 8) c L _ W h hr
  unfold SeeR at SE
  rw [h5] at SE
  clear h1 h2 hr h5 hx
  generalize topL x.top L (fhN t 4 8) = TT at *
  generalize listL x.top L (fhN t 4 8) = M at *
  generalize codeL x.top L (fhN t 4 8) = cc at *
  go_enter Tryz.func73, Tryz.ntmps73
  go_wp2_with fail
  refine (l9Copy_any x _ L _ (HL.out.later (by go_grown)) hl).mono ?_
  rintro e w1 ⟨v', rfl, o, hb1⟩
  obtain ⟨a', c', rfl⟩ := owns_form o
  have P1 := hid_in ((B0.out.later (below_box _ _)).later hb1)
  have P2 := hid_in (B1.out.later hb1)
  have Z1 : Hid (Below w.heap.size w w1) := below_later (by go_grown) hb1
  have OW : Hid (w1.ownsRow (w.heap.size + 1 + 1) 3 1 (.slice a' L.length c') L.length (i64s L)) := by show World.ownsRow _ _ _ _ _ _ _; have h := o; simpa using h
  have zz : w.heap.size + 1 + 1 ≤ w1.heap.size := by have := hb1.size; simpa using this
  have nb1 := hid_in (show (Value.slice a' L.length c').ownBlock ≠ some (w.heap.size + 1) from fun h => by have := (owns_own OW.out _ h).1; omega)
  have nb2 := hid_in (show (Value.slice a' L.length c').ownBlock ≠ some w1.heap.size from fun h => by have := (owns_own OW.out _ h).2; omega)
  have HL1 := hid_in (HL.out.later (Z1.out.trans (Below.mono (below_box w1 (.cells #[.int .i64 x.spi, .int .i64 x.tun, .string x.key, .string x.mac, .int .i64 x.since, .int .i64 x.soft, .int .i64 x.hard, .int .i64 x.ticks, .int .i64 x.sent, .int .i64 x.top, (.slice a' L.length c')] 45)) (by omega))))
  clear o hb1 B0 B1
  obtain ⟨l0, p0, p1, p2, p3, p4, p5, p6, p7, p8, p9, p10, pf⟩ := P1.out
  obtain ⟨r0, q0, q1, q2, q3, q4, q5, q6, q7, q8, q9, q10, qf⟩ := P2.out
  go_wp2_with fail
  refine (FH.out _).mono ?_
  rintro e w2 ⟨rfl, rfl⟩
  go_wp2_with fail
  refine (SE.out _ HL1.out).mono ?_
  rintro e w3 ⟨a5, c5, rfl, o5, hb3⟩
  have hb13 := hid_in (below_later (below_box w1 (.cells #[.int .i64 x.spi, .int .i64 x.tun, .string x.key, .string x.mac, .int .i64 x.since, .int .i64 x.soft, .int .i64 x.hard, .int .i64 x.ticks, .int .i64 x.sent, .int .i64 x.top, (.slice a' L.length c')] 45)) hb3)
  have P1' := hid_in (P1.out.later hb13.out)
  have P2' := hid_in (P2.out.later hb13.out)
  have S2 := hid_in ((SaBox.new w1 x (.slice a' L.length c') 45).later hb3)
  have OW2 := hid_in (owns_below OW.out hb13.out)
  have Z2 := hid_in (below_later Z1.out hb13.out)
  have zz2 : w1.heap.size + 1 ≤ w3.heap.size := by have := hb3.size; simp at this; omega
  have O5 : Hid (w3.ownsRow (w1.heap.size + 1) 3 1 (.slice a5 M.length c5) M.length (i64s M)) := by show World.ownsRow _ _ _ _ _ _ _; have h := o5; simpa using h
  clear l0 p0 p1 p2 p3 p4 p5 p6 p7 p8 p9 p10 pf r0 q0 q1 q2 q3 q4 q5 q6 q7 q8 q9 q10 qf hb3 o5 P1 P2 Z1 OW hb13
  obtain ⟨l0, p0, p1, p2, p3, p4, p5, p6, p7, p8, p9, p10, pf⟩ := P1'.out
  obtain ⟨r0, q0, q1, q2, q3, q4, q5, q6, q7, q8, q9, q10, qf⟩ := P2'.out
  obtain ⟨s0, t0, t1, t2, t3, t4, t5, t6, t7, t8, t9, t10, tf⟩ := S2.out
  go_wp2_with (exact bodyPost_ret (v := .tuple #[vSv x (.slice a' L.length c'), .string ⟨#[]⟩, .int .i64 4]) (by
    have X4 := (SaBox.put P2'.out x (.slice a' L.length c')).later (below_box _ (.cells #[.int .i64 TT, .slice a5 M.length c5] 43))
    simp only [putSa] at X4
    obtain ⟨_, d0, d1, d2, d3, d4, d5, d6, d7, d8, d9, d10, _⟩ := X4
    simp [results, Tryz.results73, go_sem, d0, d1, d2, d3, d4, d5, d6, d7, d8, d9, d10]) rfl (takP_no HK.out (by decide) (ownsW_base (owns_below (owns_putSa OW2.out nb1.out x (.slice a' L.length c')) (below_box _ (.cells #[.int .i64 TT, .slice a5 M.length c5] 43))) (by omega)) (below_later (below_putSa Z2.out (by omega) x (.slice a' L.length c')) (below_box _ (.cells #[.int .i64 TT, .slice a5 M.length c5] 43)))))
set_option maxHeartbeats 4000000 in
set_option maxRecDepth 100000 in
theorem l9Take_5 (x : SaV) (v : Value) (L : List Int) (now : Int) (t : ByteArray) (w : World) (hL : IL w v L) (hl : L.length ≤ 100) (hx : saB x = true) (ht : t.size ≤ 1048576) (c : Nat) (hr : Rep x.top c L) (h1 : fhB t = true) (h2 : fhN t 0 4 = x.spi) (h3 : ¬ x.since + 2 * x.ticks ≤ now) (h4 : ¬ x.hard < fhN t 4 8) (h5 : codeL x.top L (fhN t 4 8) = 3) :
    Calls Tryz.prog 73 #[vSv x v, .int .i64 now, .string t] w (takP x L now t w) := by
  obtain ⟨a, cap, rfl⟩ := hL.form
  have HL := hid_in hL
  clear hL
  have FH := hid_in (fun W => frameHeadS t W ht)
  obtain ⟨b0, b1, b2, b3⟩ := saB_bounds hx
  have e1 : IntKind.i64.wrap (2 * x.ticks) = 2 * x.ticks := by rw [IntKind.wrap_i64]; omega
  have e2 : IntKind.i64.wrap (x.since + 2 * x.ticks) = x.since + 2 * x.ticks := by rw [IntKind.wrap_i64]; omega
  have B0 := hid_in (SaBox.new w x (.slice a L.length cap) 45)
  have B1 := hid_in (SaBox.newAt (w.alloc (.cells #[.int .i64 x.spi, .int .i64 x.tun, .string x.key, .string x.mac, .int .i64 x.since, .int .i64 x.soft, .int .i64 x.hard, .int .i64 x.ticks, .int .i64 x.sent, .int .i64 x.top, .slice a L.length cap] 45)) zeroSa (.slice none 0 0) 45 (w.heap.size + 1) (by simp))
  have HK := hid_in (show tkK x L now t = 5 by unfold tkK; rw [if_neg (by rw [h1]; decide), if_neg (fun h => h h2), if_neg (fun h => h.elim h3 h4), if_neg (by rw [h5]; decide), if_pos h5])
  rw [h1, h2] at FH
  have h3' : decide (x.since + 2 * x.ticks ≤ now) = false := by simpa using h3
  have h4' : decide (x.hard < fhN t 4 8) = false := by simpa using h4
  have SE : Hid (∀ W, IL W (.slice a L.length cap) L → Calls Tryz.prog 122 #[.agg #[.int .i64 x.top, .slice a L.length cap], .int .i64 (fhN t 4 8)] W (SeeR x.top (fhN t 4 8) L W)) := fun W h => l7SeeR x.top (fhN t 4 8) c L _ W h hr
  unfold SeeR at SE
  rw [h5] at SE
  clear h1 h2 hr h5 hx
  generalize topL x.top L (fhN t 4 8) = TT at *
  generalize listL x.top L (fhN t 4 8) = M at *
  generalize codeL x.top L (fhN t 4 8) = cc at *
  go_enter Tryz.func73, Tryz.ntmps73
  go_wp2_with fail
  refine (l9Copy_any x _ L _ (HL.out.later (by go_grown)) hl).mono ?_
  rintro e w1 ⟨v', rfl, o, hb1⟩
  obtain ⟨a', c', rfl⟩ := owns_form o
  have P1 := hid_in ((B0.out.later (below_box _ _)).later hb1)
  have P2 := hid_in (B1.out.later hb1)
  have Z1 : Hid (Below w.heap.size w w1) := below_later (by go_grown) hb1
  have OW : Hid (w1.ownsRow (w.heap.size + 1 + 1) 3 1 (.slice a' L.length c') L.length (i64s L)) := by show World.ownsRow _ _ _ _ _ _ _; have h := o; simpa using h
  have zz : w.heap.size + 1 + 1 ≤ w1.heap.size := by have := hb1.size; simpa using this
  have nb1 := hid_in (show (Value.slice a' L.length c').ownBlock ≠ some (w.heap.size + 1) from fun h => by have := (owns_own OW.out _ h).1; omega)
  have nb2 := hid_in (show (Value.slice a' L.length c').ownBlock ≠ some w1.heap.size from fun h => by have := (owns_own OW.out _ h).2; omega)
  have HL1 := hid_in (HL.out.later (Z1.out.trans (Below.mono (below_box w1 (.cells #[.int .i64 x.spi, .int .i64 x.tun, .string x.key, .string x.mac, .int .i64 x.since, .int .i64 x.soft, .int .i64 x.hard, .int .i64 x.ticks, .int .i64 x.sent, .int .i64 x.top, (.slice a' L.length c')] 45)) (by omega))))
  clear o hb1 B0 B1
  obtain ⟨l0, p0, p1, p2, p3, p4, p5, p6, p7, p8, p9, p10, pf⟩ := P1.out
  obtain ⟨r0, q0, q1, q2, q3, q4, q5, q6, q7, q8, q9, q10, qf⟩ := P2.out
  go_wp2_with fail
  refine (FH.out _).mono ?_
  rintro e w2 ⟨rfl, rfl⟩
  go_wp2_with fail
  refine (SE.out _ HL1.out).mono ?_
  rintro e w3 ⟨a5, c5, rfl, o5, hb3⟩
  have hb13 := hid_in (below_later (below_box w1 (.cells #[.int .i64 x.spi, .int .i64 x.tun, .string x.key, .string x.mac, .int .i64 x.since, .int .i64 x.soft, .int .i64 x.hard, .int .i64 x.ticks, .int .i64 x.sent, .int .i64 x.top, (.slice a' L.length c')] 45)) hb3)
  have P1' := hid_in (P1.out.later hb13.out)
  have P2' := hid_in (P2.out.later hb13.out)
  have S2 := hid_in ((SaBox.new w1 x (.slice a' L.length c') 45).later hb3)
  have OW2 := hid_in (owns_below OW.out hb13.out)
  have Z2 := hid_in (below_later Z1.out hb13.out)
  have zz2 : w1.heap.size + 1 ≤ w3.heap.size := by have := hb3.size; simp at this; omega
  have O5 : Hid (w3.ownsRow (w1.heap.size + 1) 3 1 (.slice a5 M.length c5) M.length (i64s M)) := by show World.ownsRow _ _ _ _ _ _ _; have h := o5; simpa using h
  clear l0 p0 p1 p2 p3 p4 p5 p6 p7 p8 p9 p10 pf r0 q0 q1 q2 q3 q4 q5 q6 q7 q8 q9 q10 qf hb3 o5 P1 P2 Z1 OW hb13
  obtain ⟨l0, p0, p1, p2, p3, p4, p5, p6, p7, p8, p9, p10, pf⟩ := P1'.out
  obtain ⟨r0, q0, q1, q2, q3, q4, q5, q6, q7, q8, q9, q10, qf⟩ := P2'.out
  obtain ⟨s0, t0, t1, t2, t3, t4, t5, t6, t7, t8, t9, t10, tf⟩ := S2.out
  go_wp2_with (exact bodyPost_ret (v := .tuple #[vSv x (.slice a' L.length c'), .string ⟨#[]⟩, .int .i64 5]) (by
    have X4 := (SaBox.put P2'.out x (.slice a' L.length c')).later (below_box _ (.cells #[.int .i64 TT, .slice a5 M.length c5] 43))
    simp only [putSa] at X4
    obtain ⟨_, d0, d1, d2, d3, d4, d5, d6, d7, d8, d9, d10, _⟩ := X4
    simp [results, Tryz.results73, go_sem, d0, d1, d2, d3, d4, d5, d6, d7, d8, d9, d10]) rfl (takP_no HK.out (by decide) (ownsW_base (owns_below (owns_putSa OW2.out nb1.out x (.slice a' L.length c')) (below_box _ (.cells #[.int .i64 TT, .slice a5 M.length c5] 43))) (by omega)) (below_later (below_putSa Z2.out (by omega) x (.slice a' L.length c')) (below_box _ (.cells #[.int .i64 TT, .slice a5 M.length c5] 43)))))
set_option maxHeartbeats 4000000 in
set_option maxRecDepth 100000 in
theorem l9Take_6 (x : SaV) (v : Value) (L : List Int) (now : Int) (t : ByteArray) (w : World) (hL : IL w v L) (hl : L.length ≤ 100) (hx : saB x = true) (ht : t.size ≤ 1048576) (c : Nat) (hr : Rep x.top c L) (h1 : fhB t = true) (h2 : fhN t 0 4 = x.spi) (h3 : ¬ x.since + 2 * x.ticks ≤ now) (h4 : ¬ x.hard < fhN t 4 8) (h5 : ¬ codeL x.top L (fhN t 4 8) = 2) (h6 : ¬ codeL x.top L (fhN t 4 8) = 3) (hk : x.key.size ≤ 1048576) (hm : x.mac.size ≤ 1048576) (h7 : fgB x.key x.mac t = false) :
    Calls Tryz.prog 73 #[vSv x v, .int .i64 now, .string t] w (takP x L now t w) := by
  obtain ⟨a, cap, rfl⟩ := hL.form
  have HL := hid_in hL
  clear hL
  have FH := hid_in (fun W => frameHeadS t W ht)
  obtain ⟨b0, b1, b2, b3⟩ := saB_bounds hx
  have e1 : IntKind.i64.wrap (2 * x.ticks) = 2 * x.ticks := by rw [IntKind.wrap_i64]; omega
  have e2 : IntKind.i64.wrap (x.since + 2 * x.ticks) = x.since + 2 * x.ticks := by rw [IntKind.wrap_i64]; omega
  have B0 := hid_in (SaBox.new w x (.slice a L.length cap) 45)
  have B1 := hid_in (SaBox.newAt (w.alloc (.cells #[.int .i64 x.spi, .int .i64 x.tun, .string x.key, .string x.mac, .int .i64 x.since, .int .i64 x.soft, .int .i64 x.hard, .int .i64 x.ticks, .int .i64 x.sent, .int .i64 x.top, .slice a L.length cap] 45)) zeroSa (.slice none 0 0) 45 (w.heap.size + 1) (by simp))
  have HK := hid_in (show tkK x L now t = 6 by unfold tkK; rw [if_neg (by rw [h1]; decide), if_neg (fun h => h h2), if_neg (fun h => h.elim h3 h4), if_neg h5, if_neg h6, if_neg (by rw [h7]; decide)])
  rw [h1, h2] at FH
  have h3' : decide (x.since + 2 * x.ticks ≤ now) = false := by simpa using h3
  have h4' : decide (x.hard < fhN t 4 8) = false := by simpa using h4
  have SE : Hid (∀ W, IL W (.slice a L.length cap) L → Calls Tryz.prog 122 #[.agg #[.int .i64 x.top, .slice a L.length cap], .int .i64 (fhN t 4 8)] W (SeeR x.top (fhN t 4 8) L W)) := fun W h => l7SeeR x.top (fhN t 4 8) c L _ W h hr
  unfold SeeR at SE
  have FG := hid_in (fun W => frameGetS x.key x.mac t W hk hm ht)
  have h5' : decide (codeL x.top L (fhN t 4 8) = 2) = false := by simpa using h5
  have h6' : decide (codeL x.top L (fhN t 4 8) = 3) = false := by simpa using h6
  rw [h7] at FG
  clear h1 h2 hr h7 hx
  generalize topL x.top L (fhN t 4 8) = TT at *
  generalize listL x.top L (fhN t 4 8) = M at *
  generalize codeL x.top L (fhN t 4 8) = cc at *
  generalize fgT x.key x.mac t = U at *
  go_enter Tryz.func73, Tryz.ntmps73
  go_wp2_with fail
  refine (l9Copy_any x _ L _ (HL.out.later (by go_grown)) hl).mono ?_
  rintro e w1 ⟨v', rfl, o, hb1⟩
  obtain ⟨a', c', rfl⟩ := owns_form o
  have P1 := hid_in ((B0.out.later (below_box _ _)).later hb1)
  have P2 := hid_in (B1.out.later hb1)
  have Z1 : Hid (Below w.heap.size w w1) := below_later (by go_grown) hb1
  have OW : Hid (w1.ownsRow (w.heap.size + 1 + 1) 3 1 (.slice a' L.length c') L.length (i64s L)) := by show World.ownsRow _ _ _ _ _ _ _; have h := o; simpa using h
  have zz : w.heap.size + 1 + 1 ≤ w1.heap.size := by have := hb1.size; simpa using this
  have nb1 := hid_in (show (Value.slice a' L.length c').ownBlock ≠ some (w.heap.size + 1) from fun h => by have := (owns_own OW.out _ h).1; omega)
  have nb2 := hid_in (show (Value.slice a' L.length c').ownBlock ≠ some w1.heap.size from fun h => by have := (owns_own OW.out _ h).2; omega)
  have HL1 := hid_in (HL.out.later (Z1.out.trans (Below.mono (below_box w1 (.cells #[.int .i64 x.spi, .int .i64 x.tun, .string x.key, .string x.mac, .int .i64 x.since, .int .i64 x.soft, .int .i64 x.hard, .int .i64 x.ticks, .int .i64 x.sent, .int .i64 x.top, (.slice a' L.length c')] 45)) (by omega))))
  clear o hb1 B0 B1
  obtain ⟨l0, p0, p1, p2, p3, p4, p5, p6, p7, p8, p9, p10, pf⟩ := P1.out
  obtain ⟨r0, q0, q1, q2, q3, q4, q5, q6, q7, q8, q9, q10, qf⟩ := P2.out
  go_wp2_with fail
  refine (FH.out _).mono ?_
  rintro e w2 ⟨rfl, rfl⟩
  go_wp2_with fail
  refine (SE.out _ HL1.out).mono ?_
  rintro e w3 ⟨a5, c5, rfl, o5, hb3⟩
  have hb13 := hid_in (below_later (below_box w1 (.cells #[.int .i64 x.spi, .int .i64 x.tun, .string x.key, .string x.mac, .int .i64 x.since, .int .i64 x.soft, .int .i64 x.hard, .int .i64 x.ticks, .int .i64 x.sent, .int .i64 x.top, (.slice a' L.length c')] 45)) hb3)
  have P1' := hid_in (P1.out.later hb13.out)
  have P2' := hid_in (P2.out.later hb13.out)
  have S2 := hid_in ((SaBox.new w1 x (.slice a' L.length c') 45).later hb3)
  have OW2 := hid_in (owns_below OW.out hb13.out)
  have Z2 := hid_in (below_later Z1.out hb13.out)
  have zz2 : w1.heap.size + 1 ≤ w3.heap.size := by have := hb3.size; simp at this; omega
  have O5 : Hid (w3.ownsRow (w1.heap.size + 1) 3 1 (.slice a5 M.length c5) M.length (i64s M)) := by show World.ownsRow _ _ _ _ _ _ _; have h := o5; simpa using h
  clear l0 p0 p1 p2 p3 p4 p5 p6 p7 p8 p9 p10 pf r0 q0 q1 q2 q3 q4 q5 q6 q7 q8 q9 q10 qf hb3 o5 P1 P2 Z1 OW hb13
  obtain ⟨l0, p0, p1, p2, p3, p4, p5, p6, p7, p8, p9, p10, pf⟩ := P1'.out
  obtain ⟨r0, q0, q1, q2, q3, q4, q5, q6, q7, q8, q9, q10, qf⟩ := P2'.out
  obtain ⟨s0, t0, t1, t2, t3, t4, t5, t6, t7, t8, t9, t10, tf⟩ := S2.out
  go_wp2_with fail
  refine (FG.out _).mono ?_
  rintro e w4 ⟨rfl, hb4⟩
  have hb34 := hid_in (below_later (below_box w3 (.cells #[.int .i64 TT, .slice a5 M.length c5] 43)) hb4)
  have W4 := hid_in ((WBox.new w3 TT (.slice a5 M.length c5) 43).later hb4)
  have P4 := hid_in (P2'.out.later hb34.out)
  have S4 := hid_in (S2.out.later hb34.out)
  have OW4 := hid_in (owns_below OW2.out hb34.out)
  have O54 := hid_in (owns_below O5.out hb34.out)
  have Z4 := hid_in (below_later Z2.out hb34.out)
  clear l0 p0 p1 p2 p3 p4 p5 p6 p7 p8 p9 p10 pf r0 q0 q1 q2 q3 q4 q5 q6 q7 q8 q9 q10 qf s0 t0 t1 t2 t3 t4 t5 t6 t7 t8 t9 t10 tf hb4 hb34 P1' P2' S2 OW2 O5 Z2
  obtain ⟨r0, q0, q1, q2, q3, q4, q5, q6, q7, q8, q9, q10, qf⟩ := P4.out
  obtain ⟨s0, t0, t1, t2, t3, t4, t5, t6, t7, t8, t9, t10, tf⟩ := S4.out
  obtain ⟨l0, p0, p1⟩ := W4.out
  go_wp2_with (exact bodyPost_ret (v := .tuple #[vSv x (.slice a' L.length c'), .string ⟨#[]⟩, .int .i64 6]) (by
    have X4 := SaBox.put P4.out x (.slice a' L.length c')
    simp only [putSa] at X4
    obtain ⟨_, d0, d1, d2, d3, d4, d5, d6, d7, d8, d9, d10, _⟩ := X4
    simp [results, Tryz.results73, go_sem, d0, d1, d2, d3, d4, d5, d6, d7, d8, d9, d10]) rfl (takP_no HK.out (by decide) (ownsW_base (owns_putSa OW4.out nb1.out x (.slice a' L.length c')) (by omega)) (below_putSa Z4.out (by omega) x (.slice a' L.length c'))))
set_option maxHeartbeats 4000000 in
set_option maxRecDepth 100000 in
theorem l9Take_0 (x : SaV) (v : Value) (L : List Int) (now : Int) (t : ByteArray) (w : World) (hL : IL w v L) (hl : L.length ≤ 100) (hx : saB x = true) (ht : t.size ≤ 1048576) (c : Nat) (hr : Rep x.top c L) (h1 : fhB t = true) (h2 : fhN t 0 4 = x.spi) (h3 : ¬ x.since + 2 * x.ticks ≤ now) (h4 : ¬ x.hard < fhN t 4 8) (h5 : ¬ codeL x.top L (fhN t 4 8) = 2) (h6 : ¬ codeL x.top L (fhN t 4 8) = 3) (hk : x.key.size ≤ 1048576) (hm : x.mac.size ≤ 1048576) (h7 : fgB x.key x.mac t = true) :
    Calls Tryz.prog 73 #[vSv x v, .int .i64 now, .string t] w (takP x L now t w) := by
  obtain ⟨a, cap, rfl⟩ := hL.form
  have HL := hid_in hL
  clear hL
  have FH := hid_in (fun W => frameHeadS t W ht)
  obtain ⟨b0, b1, b2, b3⟩ := saB_bounds hx
  have e1 : IntKind.i64.wrap (2 * x.ticks) = 2 * x.ticks := by rw [IntKind.wrap_i64]; omega
  have e2 : IntKind.i64.wrap (x.since + 2 * x.ticks) = x.since + 2 * x.ticks := by rw [IntKind.wrap_i64]; omega
  have B0 := hid_in (SaBox.new w x (.slice a L.length cap) 45)
  have B1 := hid_in (SaBox.newAt (w.alloc (.cells #[.int .i64 x.spi, .int .i64 x.tun, .string x.key, .string x.mac, .int .i64 x.since, .int .i64 x.soft, .int .i64 x.hard, .int .i64 x.ticks, .int .i64 x.sent, .int .i64 x.top, .slice a L.length cap] 45)) zeroSa (.slice none 0 0) 45 (w.heap.size + 1) (by simp))
  have HK := hid_in (show tkK x L now t = 0 by unfold tkK; rw [if_neg (by rw [h1]; decide), if_neg (fun h => h h2), if_neg (fun h => h.elim h3 h4), if_neg h5, if_neg h6, if_pos h7])
  rw [h1, h2] at FH
  have h3' : decide (x.since + 2 * x.ticks ≤ now) = false := by simpa using h3
  have h4' : decide (x.hard < fhN t 4 8) = false := by simpa using h4
  have SE : Hid (∀ W, IL W (.slice a L.length cap) L → Calls Tryz.prog 122 #[.agg #[.int .i64 x.top, .slice a L.length cap], .int .i64 (fhN t 4 8)] W (SeeR x.top (fhN t 4 8) L W)) := fun W h => l7SeeR x.top (fhN t 4 8) c L _ W h hr
  unfold SeeR at SE
  have FG := hid_in (fun W => frameGetS x.key x.mac t W hk hm ht)
  have h5' : decide (codeL x.top L (fhN t 4 8) = 2) = false := by simpa using h5
  have h6' : decide (codeL x.top L (fhN t 4 8) = 3) = false := by simpa using h6
  rw [h7] at FG
  obtain ⟨TT, hTT⟩ : ∃ T, topL x.top L (fhN t 4 8) = T := ⟨_, rfl⟩
  obtain ⟨M, hM⟩ : ∃ M, listL x.top L (fhN t 4 8) = M := ⟨_, rfl⟩
  obtain ⟨U, hU⟩ : ∃ U, fgT x.key x.mac t = U := ⟨_, rfl⟩
  rw [hTT, hM] at SE
  rw [hU] at FG
  have FIN := hid_in (fun w' u ho hb => takP_yes (x := x) (L := L) (now := now) (t := t) (w := w) (w' := w') (v := u) HK.out hTT hM hU ho hb)
  clear h1 h2 hr h7 hx hTT hM hU
  generalize codeL x.top L (fhN t 4 8) = cc at *
  go_enter Tryz.func73, Tryz.ntmps73
  go_wp2_with fail
  refine (l9Copy_any x _ L _ (HL.out.later (by go_grown)) hl).mono ?_
  rintro e w1 ⟨v', rfl, o, hb1⟩
  obtain ⟨a', c', rfl⟩ := owns_form o
  have P1 := hid_in ((B0.out.later (below_box _ _)).later hb1)
  have P2 := hid_in (B1.out.later hb1)
  have Z1 : Hid (Below w.heap.size w w1) := below_later (by go_grown) hb1
  have OW : Hid (w1.ownsRow (w.heap.size + 1 + 1) 3 1 (.slice a' L.length c') L.length (i64s L)) := by show World.ownsRow _ _ _ _ _ _ _; have h := o; simpa using h
  have zz : w.heap.size + 1 + 1 ≤ w1.heap.size := by have := hb1.size; simpa using this
  have nb1 := hid_in (show (Value.slice a' L.length c').ownBlock ≠ some (w.heap.size + 1) from fun h => by have := (owns_own OW.out _ h).1; omega)
  have nb2 := hid_in (show (Value.slice a' L.length c').ownBlock ≠ some w1.heap.size from fun h => by have := (owns_own OW.out _ h).2; omega)
  have HL1 := hid_in (HL.out.later (Z1.out.trans (Below.mono (below_box w1 (.cells #[.int .i64 x.spi, .int .i64 x.tun, .string x.key, .string x.mac, .int .i64 x.since, .int .i64 x.soft, .int .i64 x.hard, .int .i64 x.ticks, .int .i64 x.sent, .int .i64 x.top, (.slice a' L.length c')] 45)) (by omega))))
  clear o hb1 B0 B1
  obtain ⟨l0, p0, p1, p2, p3, p4, p5, p6, p7, p8, p9, p10, pf⟩ := P1.out
  obtain ⟨r0, q0, q1, q2, q3, q4, q5, q6, q7, q8, q9, q10, qf⟩ := P2.out
  go_wp2_with fail
  refine (FH.out _).mono ?_
  rintro e w2 ⟨rfl, rfl⟩
  go_wp2_with fail
  refine (SE.out _ HL1.out).mono ?_
  rintro e w3 ⟨a5, c5, rfl, o5, hb3⟩
  have hb13 := hid_in (below_later (below_box w1 (.cells #[.int .i64 x.spi, .int .i64 x.tun, .string x.key, .string x.mac, .int .i64 x.since, .int .i64 x.soft, .int .i64 x.hard, .int .i64 x.ticks, .int .i64 x.sent, .int .i64 x.top, (.slice a' L.length c')] 45)) hb3)
  have P1' := hid_in (P1.out.later hb13.out)
  have P2' := hid_in (P2.out.later hb13.out)
  have S2 := hid_in ((SaBox.new w1 x (.slice a' L.length c') 45).later hb3)
  have OW2 := hid_in (owns_below OW.out hb13.out)
  have Z2 := hid_in (below_later Z1.out hb13.out)
  have zz2 : w1.heap.size + 1 ≤ w3.heap.size := by have := hb3.size; simp at this; omega
  have O5 : Hid (w3.ownsRow (w1.heap.size + 1) 3 1 (.slice a5 M.length c5) M.length (i64s M)) := by show World.ownsRow _ _ _ _ _ _ _; have h := o5; simpa using h
  clear l0 p0 p1 p2 p3 p4 p5 p6 p7 p8 p9 p10 pf r0 q0 q1 q2 q3 q4 q5 q6 q7 q8 q9 q10 qf hb3 o5 P1 P2 Z1 OW hb13
  obtain ⟨l0, p0, p1, p2, p3, p4, p5, p6, p7, p8, p9, p10, pf⟩ := P1'.out
  obtain ⟨r0, q0, q1, q2, q3, q4, q5, q6, q7, q8, q9, q10, qf⟩ := P2'.out
  obtain ⟨s0, t0, t1, t2, t3, t4, t5, t6, t7, t8, t9, t10, tf⟩ := S2.out
  go_wp2_with fail
  refine (FG.out _).mono ?_
  rintro e w4 ⟨rfl, hb4⟩
  have hb34 := hid_in (below_later (below_box w3 (.cells #[.int .i64 TT, .slice a5 M.length c5] 43)) hb4)
  have W4 := hid_in ((WBox.new w3 TT (.slice a5 M.length c5) 43).later hb4)
  have P4 := hid_in (P2'.out.later hb34.out)
  have S4 := hid_in (S2.out.later hb34.out)
  have OW4 := hid_in (owns_below OW2.out hb34.out)
  have O54 := hid_in (owns_below O5.out hb34.out)
  have Z4 := hid_in (below_later Z2.out hb34.out)
  clear l0 p0 p1 p2 p3 p4 p5 p6 p7 p8 p9 p10 pf r0 q0 q1 q2 q3 q4 q5 q6 q7 q8 q9 q10 qf s0 t0 t1 t2 t3 t4 t5 t6 t7 t8 t9 t10 tf hb4 hb34 P1' P2' S2 OW2 O5 Z2
  obtain ⟨r0, q0, q1, q2, q3, q4, q5, q6, q7, q8, q9, q10, qf⟩ := P4.out
  obtain ⟨s0, t0, t1, t2, t3, t4, t5, t6, t7, t8, t9, t10, tf⟩ := S4.out
  obtain ⟨l0, p0, p1⟩ := W4.out
  have nb5 := hid_in (show ((.slice a5 M.length c5) : Value).ownBlock ≠ some w1.heap.size from fun h => by have := (owns_own O54.out _ h).1; omega)
  have nb6 := hid_in (show ((.slice a5 M.length c5) : Value).ownBlock ≠ some (w.heap.size + 1) from fun h => by have := (owns_own O54.out _ h).1; omega)
  have S5 := hid_in (SaBox.set9 TT (.slice a5 M.length c5) S4.out)
  have P5 := hid_in (SaBox.other8 (k := w1.heap.size) (o := 10) (u := (.slice a5 M.length c5)) (show w.heap.size + 1 ≠ w1.heap.size by omega) (SaBox.other8 (k := w1.heap.size) (o := 9) (u := .int .i64 TT) (show w.heap.size + 1 ≠ w1.heap.size by omega) P4.out))
  have O6 := hid_in (owns_set2 (o := 10) (u := (.slice a5 M.length c5)) (owns_set2 (o := 9) (u := .int .i64 TT) O54.out nb5.out) nb5.out)
  have Z6 := hid_in ((Z4.out.setCell (p := ⟨w1.heap.size, 9, none⟩) (show w.heap.size ≤ w1.heap.size by omega) (.int .i64 TT)).setCell (p := ⟨w1.heap.size, 10, none⟩) (show w.heap.size ≤ w1.heap.size by omega) (.slice a5 M.length c5))
  go_wp2_with (exact bodyPost_ret (v := .tuple #[vSv (topS x TT) (.slice a5 M.length c5), .string U, .int .i64 0]) (by
    have X4 := SaBox.put P5.out (topS x TT) (.slice a5 M.length c5)
    simp only [putSa] at X4
    obtain ⟨_, d0, d1, d2, d3, d4, d5, d6, d7, d8, d9, d10, _⟩ := X4
    simp [results, Tryz.results73, go_sem, d0, d1, d2, d3, d4, d5, d6, d7, d8, d9, d10]) rfl (FIN.out _ _ (ownsW_base (owns_putSa O6.out nb6.out (topS x TT) (.slice a5 M.length c5)) (by omega)) (below_putSa Z6.out (by omega) (topS x TT) (.slice a5 M.length c5))))
theorem l9Take_any (x : SaV) (v : Value) (L : List Int) (now : Int) (t : ByteArray) (w : World) (hL : IL w v L) (hl : L.length ≤ 100) (hx : saB x = true) (ht : t.size ≤ 1048576) (c : Nat) (hr : Rep x.top c L) (hk : x.key.size ≤ 1048576) (hm : x.mac.size ≤ 1048576) :
    Calls Tryz.prog 73 #[vSv x v, .int .i64 now, .string t] w (takP x L now t w) := by
  cases h1 : fhB t
  · exact l9Take_1 x v L now t w hL hl hx ht h1
  · by_cases h2 : fhN t 0 4 = x.spi
    · by_cases h3 : x.since + 2 * x.ticks ≤ now
      · exact l9Take_3 x v L now t w hL hl hx ht h1 h2 h3
      · by_cases h4 : x.hard < fhN t 4 8
        · exact l9Take_3b x v L now t w hL hl hx ht h1 h2 h3 h4
        · by_cases h5 : codeL x.top L (fhN t 4 8) = 2
          · exact l9Take_4 x v L now t w hL hl hx ht c hr h1 h2 h3 h4 h5
          · by_cases h6 : codeL x.top L (fhN t 4 8) = 3
            · exact l9Take_5 x v L now t w hL hl hx ht c hr h1 h2 h3 h4 h6
            · cases h7 : fgB x.key x.mac t
              · exact l9Take_6 x v L now t w hL hl hx ht c hr h1 h2 h3 h4 h5 h6 hk hm h7
              · exact l9Take_0 x v L now t w hL hl hx ht c hr h1 h2 h3 h4 h5 h6 hk hm h7
    · exact l9Take_2 x v L now t w hL hl hx ht h1 h2
end Go.Proofs.YtefmmopkikpnhaaGreatDoor

