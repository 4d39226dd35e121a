/- What is proved: the walk of the law FnExactBlockGet. The conditions stand at the theorem. -/
import Derived.Test.YtjiiodcikicpfaaDoorNumE
namespace Go.Proofs.YtjiiodcikicpfaaDoor
open Go.RowKit Go.LatT Go.BlockM Go.PlainAid Go.OpnT
set_option linter.unusedVariables false
set_option linter.unusedSimpArgs false
theorem BlkPost.one {F K : ByteArray} {e e' : Ending} (h : BlkPost F K e) (h' : BlkPost F K e') : e = e' := by
  obtain ⟨a, b, ok, rfl, h⟩ := h
  obtain ⟨a', b', ok', rfl, h'⟩ := h'
  rcases h with ⟨rfl, h, rfl, rfl⟩ | ⟨rfl, rfl, rfl, h⟩ <;> rcases h' with ⟨rfl, h', rfl, rfl⟩ | ⟨rfl, rfl, rfl, h'⟩
  · rfl
  · exact absurd h h'
  · exact absurd h' h
  · rfl
set_option maxHeartbeats 2000000 in
set_option maxRecDepth 100000 in
theorem walk_FnExactBlockGet (s : ByteArray) (w : World) (hz : s.size ≤ maxLen) (hm : ∃ m, w.cell? ⟨0, 0, none⟩ = some (.int .i64 m)) :
    Calls Tryd.prog 6 #[.string s] w fun e w' => e = .returned (.bool true) ∧ Below w.heap.size w w' := by
  obtain ⟨m, hm⟩ := hm
  have hl := cell_lt hm
  have HM := hid_in hm
  have HZ := hid_in hz
  have hz' : (s.size : Int) ≤ 9223372036854775807 := by unfold maxLen at hz; omega
  clear hm hz
  by_cases hs : s.size ≤ 1048576
  · have HS := hid_in hs
    go_enter Tryd.func6, Tryd.ntmps6
    go_wp2_with fail
    refine (blockGetS_any s _ HS.out).mono ?_
    rintro e w1 ⟨⟨a, b, ok, rfl, hx⟩, hb⟩
    have HX := hid_in hx
    have HB := hid_in hb
    clear hx hb
    go_wp2_with fail
    have HB1 := hid_in (below_later HB.out (below_box w1 (.cells #[.int .i64 a, .int .i64 b] 30)))
    refine (blockGet_any s m _ HS.out (((bcell HB1.out).1 _ _ hl).trans HM.out)).mono ?_
    rintro e w2 ⟨⟨a2, b2, ok2, rfl, hx2⟩, hb2⟩
    have hone := BlkPost.one ⟨a, b, ok, rfl, HX.out⟩ ⟨a2, b2, ok2, rfl, hx2⟩
    simp only [Ending.returned.injEq, Value.tuple.injEq, Value.agg.injEq, Array.mk.injEq, List.cons.injEq, Value.int.injEq, Value.bool.injEq, true_and, and_true] at hone
    obtain ⟨⟨rfl, rfl⟩, rfl⟩ := hone
    have HB2 := hid_in (below_later HB1.out hb2)
    have hz2 := hb2.size
    simp only [World.size_alloc] at hz2
    have hq : w1.heap.size < w2.heap.size := by omega
    have hq1 : ¬ w1.heap.size = w2.heap.size := by omega
    have hq2 : ¬ w2.heap.size = w1.heap.size := by omega
    have t0 : w2.cell? ⟨w1.heap.size, 0, none⟩ = some (.int .i64 a) := by rw [(bcell hb2).1 _ _ (by simp)]; go_simp
    have t1 : w2.cell? ⟨w1.heap.size, 1, none⟩ = some (.int .i64 b) := by rw [(bcell hb2).1 _ _ (by simp)]; go_simp
    clear hx2 hb2 HX
    go_wp2_with fail
    refine (eqBlock_any a b a b _ true (by simp)).mono ?_
    rintro e w3 ⟨rfl, hb3⟩
    have HB3 := hid_in (below_later (below_later HB2.out (below_box _ _)) hb3)
    clear hb3
    go_wp2_with fail
    go_ret
    exact ⟨rfl, HB3.out⟩
  · have hs' : (1048576 : Int) < s.size := by omega
    go_enter Tryd.func6, Tryd.ntmps6
    go_wp2_with fail
    go_ret
    exact ⟨rfl, Below.refl _ _⟩
end Go.Proofs.YtjiiodcikicpfaaDoor
