/- What is proved: the contracts of SndF, one behind the other. The conditions stand at each theorem. -/
import Derived.Test.YtefmmopkikpnhaaGreatDoorGSnA
namespace Go.Proofs.YtefmmopkikpnhaaGreatDoor
open Go.RowKit Go.LatT Go.BlockM Go.PlainAid Go.OpnT Go.ApdG Go.BytM Go.AesM Go.RowQ Go.WinMath
set_option linter.unusedVariables false
set_option linter.unusedSimpArgs false
set_option maxHeartbeats 4000000 in
set_option maxRecDepth 100000 in
theorem l9Send_no (x : SaV) (v : Value) (L : List Int) (now : Int) (t : ByteArray) (w : World) (hL : IL w v L) (hl : L.length ≤ 100) (hx : saB x = true) (ht : (t.size : Int) ≤ 9223372036854775807) (h0 : sdK x now t ≠ 0) :
    Calls Tryz.prog 65 #[vSv x v, .int .i64 now, .string t] w (sndP x L now t w) := by
  obtain ⟨a, cap, rfl⟩ := hL.form
  have HL := hid_in hL; have HX := hid_in hx; have H0 := hid_in h0
  clear hL h0
  have B0 := hid_in (SaBox.new w x (.slice a L.length cap) 45)
  have B1 := hid_in (SaBox.newAt (w.alloc (.cells #[.int .i64 x.spi, .int .i64 x.tun, .string x.key, .string x.mac, .int .i64 x.since, .int .i64 x.soft, .int .i64 x.hard, .int .i64 x.ticks, .int .i64 x.sent, .int .i64 x.top, .slice a L.length cap] 45)) zeroSa (.slice none 0 0) 45 (w.heap.size + 1) (by simp))
  go_enter Tryz.func65, Tryz.ntmps65
  go_wp2_with fail
  refine (l9Copy_any x _ L _ (HL.out.later (by go_grown)) hl).mono ?_
  rintro e w1 ⟨v', rfl, o, hb1⟩
  obtain ⟨a', c', rfl⟩ := owns_form o
  have P1 := hid_in ((B0.out.later (below_box _ _)).later hb1)
  have P2 := hid_in (B1.out.later hb1)
  have Z1 : Hid (Below w.heap.size w w1) := below_later (by go_grown) hb1
  have OW : Hid (w1.ownsRow (w.heap.size + 1 + 1) 3 1 (.slice a' L.length c') L.length (i64s L)) := by show World.ownsRow _ _ _ _ _ _ _; have h := o; simpa using h
  have zz : w.heap.size + 1 + 1 ≤ w1.heap.size := by have := hb1.size; simpa using this
  have nb1 := hid_in (show (Value.slice a' L.length c').ownBlock ≠ some (w.heap.size + 1) from fun h => by have := (owns_own OW.out _ h).1; omega)
  clear o hb1 B0 B1
  by_cases h1 : 51 < t.size
  · have h1' : (51 : Int) < t.size := by omega
    have HK := hid_in (show sdK x now t = 1 by unfold sdK; rw [if_pos h1])
    clear h1
    obtain ⟨r0, q0, q1, q2, q3, q4, q5, q6, q7, q8, q9, q10, qf⟩ := P2.out
    go_wp2_with (exact bodyPost_ret (v := .tuple #[vSv x (.slice a' L.length c'), .string ⟨#[]⟩, .int .i64 1]) (by
      have X4 := (SaBox.put P2.out x (.slice a' L.length c')).later (below_box _ (.cells #[.int .i64 x.spi, .int .i64 x.tun, .string x.key, .string x.mac, .int .i64 x.since, .int .i64 x.soft, .int .i64 x.hard, .int .i64 x.ticks, .int .i64 x.sent, .int .i64 x.top, .slice a' L.length c'] 45))
      simp only [putSa] at X4
      obtain ⟨_, d0, d1, d2, d3, d4, d5, d6, d7, d8, d9, d10, _⟩ := X4
      simp [results, Tryz.results65, go_sem, d0, d1, d2, d3, d4, d5, d6, d7, d8, d9, d10]) rfl (sndP_no HK.out (by decide) (ownsW_base (owns_below (owns_putSa OW.out nb1.out x (.slice a' L.length c')) (below_box _ (.cells #[.int .i64 x.spi, .int .i64 x.tun, .string x.key, .string x.mac, .int .i64 x.since, .int .i64 x.soft, .int .i64 x.hard, .int .i64 x.ticks, .int .i64 x.sent, .int .i64 x.top, .slice a' L.length c'] 45))) (by omega)) (below_later (below_putSa Z1.out (by omega) x (.slice a' L.length c')) (below_box _ (.cells #[.int .i64 x.spi, .int .i64 x.tun, .string x.key, .string x.mac, .int .i64 x.since, .int .i64 x.soft, .int .i64 x.hard, .int .i64 x.ticks, .int .i64 x.sent, .int .i64 x.top, .slice a' L.length c'] 45)))))
  · have h1' : ¬ (51 : Int) < t.size := by omega
    by_cases h2 : ageV x now = 3
    · have HK := hid_in (show sdK x now t = 3 by unfold sdK; rw [if_neg h1, if_pos h2])
      have A := hid_in h2
      clear h1 h2
      obtain ⟨l0, p0, p1, p2, p3, p4, p5, p6, p7, p8, p9, p10, pf⟩ := P1.out
      go_wp2_with fail
      refine (l9Age_any x a L.length cap now _ HX.out 3 A.out).mono ?_
      rintro e w2 ⟨rfl, hb2⟩
      have hb12 := hid_in (below_later (below_box w1 (.cells #[.int .i64 x.spi, .int .i64 x.tun, .string x.key, .string x.mac, .int .i64 x.since, .int .i64 x.soft, .int .i64 x.hard, .int .i64 x.ticks, .int .i64 x.sent, .int .i64 x.top, .slice a' L.length c'] 45)) hb2)
      have P2' := hid_in (P2.out.later hb12.out)
      have S2 := hid_in ((SaBox.new w1 x (.slice a' L.length c') 45).later hb2)
      have OW2 := hid_in (owns_below OW.out hb12.out)
      have Z2 := hid_in (below_later Z1.out hb12.out)
      clear l0 p0 p1 p2 p3 p4 p5 p6 p7 p8 p9 p10 pf hb2
      obtain ⟨r0, q0, q1, q2, q3, q4, q5, q6, q7, q8, q9, q10, qf⟩ := P2'.out
      obtain ⟨s0, t0, t1, t2, t3, t4, t5, t6, t7, t8, t9, t10, tf⟩ := S2.out
      go_wp2_with (exact bodyPost_ret (v := .tuple #[vSv x (.slice a' L.length c'), .string ⟨#[]⟩, .int .i64 3]) (by
        have X4 := (SaBox.put P2'.out x (.slice a' L.length c'))
        simp only [putSa] at X4
        obtain ⟨_, d0, d1, d2, d3, d4, d5, d6, d7, d8, d9, d10, _⟩ := X4
        simp [results, Tryz.results65, go_sem, d0, d1, d2, d3, d4, d5, d6, d7, d8, d9, d10]) rfl (sndP_no HK.out (by decide) (ownsW_base (owns_putSa OW2.out nb1.out x (.slice a' L.length c')) (by omega)) (below_putSa Z2.out (by omega) x (.slice a' L.length c'))))
    · exact absurd (show sdK x now t = 0 by unfold sdK; rw [if_neg h1, if_neg h2]) H0.out
end Go.Proofs.YtefmmopkikpnhaaGreatDoor

