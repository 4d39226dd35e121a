/- What is proved: the walks of the exact laws of SaOk and SaAge. The conditions stand at the theorems. -/
import Derived.Test.YtihacddipkpmlaaSaE
import Derived.Deep.RegionHeld3
namespace Go.Proofs.Ytihacddipkpmlaa
open Go.RowKit Go.LatT Go.BlockM Go.OpnT Go.WinMath
set_option linter.unusedVariables false
set_option linter.unusedSimpArgs false
set_option maxHeartbeats 4000000 in
set_option maxRecDepth 100000 in
theorem walk_FnExactSaAge (x : SaV) (a : Option Addr) (len cap : Nat) (E : Nat → Int) (now : Int) (w : World) (hk : x.key.size ≤ maxLen) (hm : x.mac.size ≤ maxLen) (hT : Ints w a len E) (h1 : len ≤ cap) (h2 : cap ≤ maxLen) :
    Calls Try.prog 5 #[vSa x a len cap, .int .i64 now] w fun e w' => e = .returned (.bool true) ∧ Below w.heap.size w w' := by
  have HT := hid_in hT
  have gl : (len : Int) ≤ 9223372036854775807 := by unfold maxLen at h2; omega
  have gk : (x.key.size : Int) ≤ 9223372036854775807 := by unfold maxLen at hk; omega
  have gm : (x.mac.size : Int) ≤ 9223372036854775807 := by unfold maxLen at hm; omega
  clear hT hk hm h1 h2
  obtain ⟨n, hn⟩ : ∃ n, (if (1048576 : Int) - x.key.size - x.mac.size - len < 0 then (-1 : Int) else (1048576 : Int) - x.key.size - x.mac.size - len) = n := ⟨_, rfl⟩
  have HN := hid_in hn
  by_cases hall : (1048576 : Int) - x.key.size - x.mac.size - len < 0
  · have hn2 : n < 0 := by rw [← hn, if_pos hall]; omega
    clear hn
    go_enter Try.func5, Try.ntmps5
    go_wp2_with fail
    refine (szSa_any x a len cap _ gk gm gl n HN.out).mono ?_
    rintro e w0 ⟨rfl, hb0⟩
    go_wp2_with fail
    go_ret
    exact ⟨rfl, below_later (below_box w _) hb0⟩
  · have hn2 : 0 ≤ n := by rw [← hn, if_neg hall]; omega
    have hlen : len ≤ 1048576 := by omega
    have hk' : x.key.size ≤ 1048576 := by omega
    have hm' : x.mac.size ≤ 1048576 := by omega
    clear hn hall
    obtain ⟨u, hu⟩ := boolOf (saB x = true ∧ WOk x.top len E)
    have U := hid_in hu
    obtain ⟨v, hv⟩ : ∃ v, (if u = true then ageV x now else 0) = v := ⟨_, rfl⟩
    have V := hid_in hv
    clear hu hv
    go_enter Try.func5, Try.ntmps5
    go_wp2_with fail
    refine (szSa_any x a len cap _ gk gm gl n HN.out).mono ?_
    rintro e w0 ⟨rfl, hb0⟩
    have Z0 := hid_in (below_later (below_box w _) hb0)
    have B0 := (SaBox.new w x (.slice a len cap) 33).later hb0
    have W0 := hid_in B0
    obtain ⟨l0, p0, p1, p2, p3, p4, p5, p6, p7, p8, p9, p10, pf⟩ := B0
    clear hb0 pf
    go_wp2_with fail
    clear l0 p0 p1 p2 p3 p4 p5 p6 p7 p8 p9 p10
    refine (toSa_any x a len cap E _ (HT.out.later Z0.out) hlen).mono ?_
    rintro e w1 ⟨b1, rfl, lb1, r1, hb1⟩
    have Z1 := hid_in (below_later Z0.out hb1); have W1 := hid_in (W0.out.later hb1); have R1 := hid_in r1
    clear hb1 W0 Z0 r1 lb1
    go_wp2_with fail
    refine (saAgeS x _ len len E now _ R1.out.ints hlen u U.out v V.out).mono ?_
    rintro e w2 ⟨rfl, hb2⟩
    have Z2 := hid_in (below_later Z1.out hb2); have W2 := hid_in (W1.out.later hb2)
    obtain ⟨l0, p0, p1, p2, p3, p4, p5, p6, p7, p8, p9, p10, pf⟩ := W1.out.later hb2
    clear hb2 W1 Z1 R1 pf
    go_wp2_with fail
    clear l0 p0 p1 p2 p3 p4 p5 p6 p7 p8 p9 p10
    refine (toSa_any x a len cap E _ (HT.out.later Z2.out) hlen).mono ?_
    rintro e w3 ⟨b3, rfl, lb3, r3, hb3⟩
    have Z3 := hid_in (below_later Z2.out hb3); have W3 := hid_in (W2.out.later hb3); have R3 := hid_in r3
    clear hb3 W2 Z2 r3 lb3
    go_wp2_with fail
    have X3 := hid_in (SaBox.new w3 x (.slice (some ⟨b3, 0, none⟩) len len) 38)
    refine (saAgeI x _ len len E now _ (R3.out.ints.later (below_box _ _)) hlen hk' hm' u U.out v V.out).mono ?_
    rintro e w4 ⟨rfl, hb4⟩
    have hb34 := below_later (below_box w3 _) hb4
    have Z4 := hid_in (below_later Z3.out hb34); have R4 := hid_in (R3.out.later hb34)
    have B4 := W3.out.later hb34; have D4 := X3.out.later hb4
    obtain ⟨l0, p0, p1, p2, p3, p4, p5, p6, p7, p8, p9, p10, pf⟩ := B4
    obtain ⟨l2, s0, s1, s2, s3, s4, s5, s6, s7, s8, s9, s10, sf⟩ := D4
    clear hb4 hb34 Z3 R3 W3 X3 pf sf
    go_wp2_with fail
    go_region_held3 (fun w' => (∀ o, w'.cell? ⟨w.heap.size, o, none⟩ = w4.cell? ⟨w.heap.size, o, none⟩) ∧ (∀ o, w'.cell? ⟨w3.heap.size, o, none⟩ = w4.cell? ⟨w3.heap.size, o, none⟩)) (first | exact ⟨fun _ => rfl, fun _ => rfl⟩ | go_keep) (first | (go_at_call 12; refine (toSa_any x a len cap E _ (HT.out.later (by exact Z4.out.drew)) hlen).mono ?_; rintro e w5 ⟨b5, rfl, lb5, r5, hb5⟩; have u0 : ∀ o, w5.cell? ⟨w.heap.size, o, none⟩ = w4.cell? ⟨w.heap.size, o, none⟩ := (fun o => (bcell hb5).1 _ _ l0); have u1 : ∀ o, w5.cell? ⟨w3.heap.size, o, none⟩ = w4.cell? ⟨w3.heap.size, o, none⟩ := (fun o => (bcell hb5).1 _ _ l2); have Z5 := hid_in (below_later (by exact Z4.out.drew) hb5); have R5 := hid_in (R4.out.of_block (hb5.block _ R4.out.lt)); have Q5 := hid_in r5; have L5 := hid_in hb5.size; clear hb5 r5 lb5) | (go_at_call 14; refine (eqSa_self x _ _ len len len E _ (IRow.ints R5.out) (IRow.ints Q5.out) hlen).mono ?_; rintro e w6 ⟨rfl, hb6⟩; have u2 : ∀ o, w6.cell? ⟨w.heap.size, o, none⟩ = w4.cell? ⟨w.heap.size, o, none⟩ := (fun o => ((bcell hb6).1 _ _ (Nat.lt_of_lt_of_le l0 L5.out)).trans (u0 o)); have u3 : ∀ o, w6.cell? ⟨w3.heap.size, o, none⟩ = w4.cell? ⟨w3.heap.size, o, none⟩ := (fun o => ((bcell hb6).1 _ _ (Nat.lt_of_lt_of_le l2 L5.out)).trans (u1 o)); have Z6 := hid_in (below_later Z5.out hb6); clear hb6))
    go_wp2_with fail
    go_ret
    exact ⟨rfl, Z6.out⟩
end Go.Proofs.Ytihacddipkpmlaa
