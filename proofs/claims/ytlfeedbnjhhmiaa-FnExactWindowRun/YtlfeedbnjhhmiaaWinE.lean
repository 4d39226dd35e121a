/- What is proved: the walk of the exact law of WindowOk. The conditions stand at the theorem. -/
import Derived.Test.YtlfeedbnjhhmiaaWinD
import Derived.Deep.RegionHeld3
namespace Go.Proofs.Ytlfeedbnjhhmiaa
open Go.RowKit Go.LatT Go.BlockM Go.OpnT Go.WinMath
set_option linter.unusedVariables false
set_option linter.unusedSimpArgs false
/-- A window lies in a block. -/
structure WBox (w : World) (g : Nat) (t : Int) (v : Value) : Prop where
  lt : g < w.heap.size
  c0 : w.cell? ⟨g, 0, none⟩ = some (.int .i64 t)
  c1 : w.cell? ⟨g, 1, none⟩ = some v
theorem WBox.later {w w' : World} {g : Nat} {t : Int} {v : Value} (h : WBox w g t v) (hb : Below w.heap.size w w') : WBox w' g t v :=
  ⟨Nat.lt_of_lt_of_le h.lt hb.size, by rw [(bcell hb).1 _ _ h.lt]; exact h.c0, by rw [(bcell hb).1 _ _ h.lt]; exact h.c1⟩
theorem WBox.new (w : World) (t : Int) (v : Value) (ty : TypeId) : WBox (w.alloc (.cells #[.int .i64 t, v] ty)) w.heap.size t v := ⟨by simp, by go_simp, by go_simp⟩
set_option maxHeartbeats 2000000 in
set_option maxRecDepth 100000 in
theorem walk_FnExactWindowOk (t : Int) (a : Option Addr) (len cap : Nat) (E : Nat → Int) (w : World) (hT : Ints w a len E) (h1 : len ≤ cap) (h2 : cap ≤ maxLen) :
    Calls Try.prog 5 #[.agg #[.int .i64 t, .slice a len cap]] w fun e w' => e = .returned (.bool true) ∧ Below w.heap.size w w' := by
  have HT := hid_in hT
  have hm : (len : Int) ≤ 9223372036854775807 := by unfold maxLen at h2; omega
  clear hT
  obtain ⟨n, hn⟩ : ∃ n, (if (1048576 : Int) - len < 0 then -1 else (1048576 : Int) - len) = n := ⟨_, rfl⟩
  have HN := hid_in hn
  by_cases hlen : len ≤ 1048576
  · have hn2 : 0 ≤ n := by rw [← hn, if_neg (by omega)]; omega
    clear hn
    go_enter Try.func5, Try.ntmps5
    go_wp2_with fail
    refine (szWindow_any t a len cap _ 1048576 (by omega) (by omega) hm n HN.out).mono ?_
    rintro e w0 ⟨rfl, hb0⟩
    have Z0 := hid_in (below_later (below_box w _) hb0)
    have B0 := (WBox.new w t (.slice a len cap) 29).later hb0
    have W0 := hid_in B0
    obtain ⟨l0, k0, k1⟩ := B0
    clear hb0
    go_wp2_with fail
    clear l0 k0 k1
    refine (toWindow_any t a len cap E _ (HT.out.later Z0.out) hlen).mono ?_
    rintro e w1 ⟨b1, rfl, lb1, r1, hb1⟩
    have Z1 := hid_in (below_later Z0.out hb1); have W1 := hid_in (W0.out.later hb1); have R1 := hid_in r1
    clear hb1 W0 Z0 r1
    go_wp2_with fail
    refine (windowOkS t _ len len E _ R1.out.ints hlen).mono ?_
    rintro e w2 ⟨v, rfl, V, hb2⟩
    have V' := hid_in V
    have Z2 := hid_in (below_later Z1.out hb2); have B2 := W1.out.later hb2
    have W2 := hid_in B2
    obtain ⟨l0, k0, k1⟩ := B2
    clear hb2 W1 Z1 R1 V
    go_wp2_with fail
    clear l0 k0 k1
    refine (toWindow_any t a len cap E _ (HT.out.later Z2.out) hlen).mono ?_
    rintro e w3 ⟨b3, rfl, lb3, r3, hb3⟩
    have Z3 := hid_in (below_later Z2.out hb3); have W3 := hid_in (W2.out.later hb3); have R3 := hid_in r3
    clear hb3 W2 Z2 r3
    go_wp2_with fail
    have X3 := hid_in (WBox.new w3 t (.slice (some ⟨b3, 0, none⟩) len len) 32)
    refine (windowOkI t _ len len E _ (R3.out.ints.later (below_box _ _)) hlen).mono ?_
    rintro e w4 ⟨v4, rfl, V4, hb4⟩
    obtain rfl : v4 = v := Bool.eq_iff_iff.2 (V4.trans V'.out.symm)
    have hb34 := below_later (below_box w3 _) hb4
    have Z4 := hid_in (below_later Z3.out hb34); have R4 := hid_in (R3.out.later hb34)
    have B4 := W3.out.later hb34; have D4 := X3.out.later hb4
    have W4 := hid_in B4; have X4 := hid_in D4
    obtain ⟨l0, k0, k1⟩ := B4
    obtain ⟨l2, k2, k3⟩ := D4
    clear hb4 hb34 V4 V' Z3 R3 W3 X3
    go_wp2_with fail
    go_region_held3 (fun w' => w'.cell? ⟨w.heap.size, 0, none⟩ = some (.int .i64 t) ∧ w'.cell? ⟨w.heap.size, 1, none⟩ = some (.slice a len cap) ∧ w'.cell? ⟨w3.heap.size, 0, none⟩ = some (.int .i64 t) ∧ w'.cell? ⟨w3.heap.size, 1, none⟩ = some (.slice (some ⟨b3, 0, none⟩) len len)) (go_keep) (first | (go_at_call 15; refine (toWindow_any t a len cap E _ (HT.out.later (by exact Z4.out.drew)) hlen).mono ?_; rintro e w5 ⟨b5, rfl, lb5, r5, hb5⟩; have u0 : w5.cell? ⟨w.heap.size, 0, none⟩ = some (.int .i64 t) := ((bcell hb5).1 _ _ l0).trans k0; have u1 : w5.cell? ⟨w.heap.size, 1, none⟩ = some (.slice a len cap) := ((bcell hb5).1 _ _ l0).trans k1; have u2 : w5.cell? ⟨w3.heap.size, 0, none⟩ = some (.int .i64 t) := ((bcell hb5).1 _ _ l2).trans k2; have u3 : w5.cell? ⟨w3.heap.size, 1, none⟩ = some (.slice (some ⟨b3, 0, none⟩) len len) := ((bcell hb5).1 _ _ l2).trans k3; have Z5 := hid_in (below_later (by exact Z4.out.drew) hb5); have R5 := hid_in (R4.out.of_block (hb5.block _ R4.out.lt)); have Q5 := hid_in r5; clear hb5 r5) | (go_at_call 17; refine (eqWindow_self t _ _ len len len E _ (IRow.ints R5.out) (IRow.ints Q5.out) hlen).mono ?_; rintro e w6 ⟨rfl, hb6⟩; have u0 : w6.cell? ⟨w.heap.size, 0, none⟩ = some (.int .i64 t) := ((bcell hb6).1 _ _ (cell_lt u0)).trans u0; have u1 : w6.cell? ⟨w.heap.size, 1, none⟩ = some (.slice a len cap) := ((bcell hb6).1 _ _ (cell_lt u1)).trans u1; have u2 : w6.cell? ⟨w3.heap.size, 0, none⟩ = some (.int .i64 t) := ((bcell hb6).1 _ _ (cell_lt u2)).trans u2; have u3 : w6.cell? ⟨w3.heap.size, 1, none⟩ = some (.slice (some ⟨b3, 0, none⟩) len len) := ((bcell hb6).1 _ _ (cell_lt u3)).trans u3; have Z6 := hid_in (below_later Z5.out hb6); clear hb6))
    go_wp2_with fail
    go_ret
    exact ⟨rfl, Z6.out⟩
  · have hn2 : n < 0 := by rw [← hn, if_pos (by omega)]; omega
    clear hn
    go_enter Try.func5, Try.ntmps5
    go_wp2_with fail
    refine (szWindow_any t a len cap _ 1048576 (by omega) (by omega) hm n HN.out).mono ?_
    rintro e w0 ⟨rfl, hb0⟩
    have Z0 := hid_in (below_later (below_box w _) hb0)
    clear hb0
    go_wp2_with fail
    go_ret
    exact ⟨rfl, Z0.out⟩
end Go.Proofs.Ytlfeedbnjhhmiaa
