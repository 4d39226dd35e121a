/- What is proved: the walk of the law FnExactAddrGet. The conditions stand at the theorem. -/
import Derived.Test.YtjiiodcikicpfaaDoorNumC
namespace Go.Proofs.YtjiiodcikicpfaaDoor
open Go.RowKit Go.LatT Go.BlockM Go.PlainAid Go.OpnT
set_option linter.unusedVariables false
set_option linter.unusedSimpArgs false
theorem cell_lt {w : World} {b o : Nat} {v : Value} (h : w.cell? ⟨b, o, none⟩ = some v) : b < w.heap.size := by
  by_cases hb : b < w.heap.size
  · exact hb
  · simp [World.cell?, Array.getElem?_eq_none (Nat.le_of_not_lt hb)] at h
set_option maxHeartbeats 2000000 in
set_option maxRecDepth 100000 in
theorem walk_FnExactAddrGet (s : ByteArray) (w : World) (hz : s.size ≤ maxLen) (hm : ∃ m, w.cell? ⟨0, 0, none⟩ = some (.int .i64 m)) :
    Calls Tryd.prog 4 #[.string s] w fun e w' => e = .returned (.bool true) ∧ Below w.heap.size w w' := by
  obtain ⟨m, hm⟩ := hm
  have hl := cell_lt hm
  have HM := hid_in hm
  have HZ := hid_in hz
  have hz' : (s.size : Int) ≤ 9223372036854775807 := by unfold maxLen at hz; omega
  clear hm hz
  by_cases hs : s.size ≤ 1048576
  · have HS := hid_in hs
    go_enter Tryd.func4, Tryd.ntmps4
    go_wp2_with fail
    refine (addrGetS_any s w HS.out).mono ?_
    rintro e w1 ⟨⟨v, ok, rfl, hx⟩, hb⟩
    have HX := hid_in hx
    have HB := hid_in hb
    clear hx hb
    go_wp2_with fail
    refine (addrGet_any s m _ HS.out ?_).mono ?_
    · exact ((bcell HB.out).1 _ _ hl).trans HM.out
    · rintro e w2 ⟨⟨v2, ok2, rfl, hx2⟩, hb2⟩
      have hone := AddrPost.one ⟨v, ok, rfl, HX.out⟩ ⟨v2, ok2, rfl, hx2⟩
      simp only [Ending.returned.injEq, Value.tuple.injEq, Array.mk.injEq, List.cons.injEq, Value.int.injEq, Value.bool.injEq, true_and, and_true] at hone
      obtain ⟨rfl, rfl⟩ := hone
      have HB2 := hid_in hb2
      clear hx2 hb2 HX
      go_wp2_with fail
      go_ret
      exact ⟨rfl, below_later HB.out HB2.out⟩
  · have hs' : (1048576 : Int) < s.size := by omega
    go_enter Tryd.func4, Tryd.ntmps4
    go_wp2_with fail
    go_ret
    exact ⟨rfl, Below.refl _ _⟩
end Go.Proofs.YtjiiodcikicpfaaDoor
