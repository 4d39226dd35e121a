/- What is proved: the walk of the exact law of PacketOk. The conditions stand at the theorem. -/
import Derived.Test.YtgolcjlogokbiaaPakA
namespace Go.Proofs.Ytgolcjlogokbiaa
open Go.RowKit Go.LatT Go.BlockM
set_option linter.unusedVariables false
set_option linter.unusedSimpArgs false
/-- A packet lies in a block. -/
structure PBox (w : World) (g : Nat) (f t p : Int) (s : ByteArray) : Prop where
  lt : g < w.heap.size
  c0 : w.cell? ⟨g, 0, none⟩ = some (.int .i64 f)
  c1 : w.cell? ⟨g, 1, none⟩ = some (.int .i64 t)
  c2 : w.cell? ⟨g, 2, none⟩ = some (.int .i64 p)
  c3 : w.cell? ⟨g, 3, none⟩ = some (.string s)
theorem PBox.later {w w' : World} {g : Nat} {f t p : Int} {s : ByteArray} (h : PBox w g f t p s) (hb : Below w.heap.size w w') : PBox w' g f t p s :=
  ⟨Nat.lt_of_lt_of_le h.lt hb.size, ((bcell hb).1 _ _ h.lt).trans h.c0, ((bcell hb).1 _ _ h.lt).trans h.c1, ((bcell hb).1 _ _ h.lt).trans h.c2, ((bcell hb).1 _ _ h.lt).trans h.c3⟩
theorem PBox.new (w : World) (f t p : Int) (s : ByteArray) (ty : TypeId) : PBox (w.alloc (.cells #[.int .i64 f, .int .i64 t, .int .i64 p, .string s] ty)) w.heap.size f t p s := ⟨by simp, by go_simp, by go_simp, by go_simp, by go_simp⟩
set_option maxHeartbeats 1000000 in
set_option maxRecDepth 100000 in
theorem walk_FnExactPacketOk (f t p : Int) (s : ByteArray) (w : World) (hz : s.size ≤ maxLen) :
    Calls Try.prog 3 #[.agg #[.int .i64 f, .int .i64 t, .int .i64 p, .string s]] w fun e w' => e = .returned (.bool true) ∧ Below w.heap.size w w' := by
  have hz' : (s.size : Int) ≤ 9223372036854775807 := by unfold maxLen at hz; omega
  clear hz
  obtain ⟨n, hn⟩ : ∃ n, (if (1048576 : Int) - s.size < 0 then -1 else (1048576 : Int) - s.size) = n := ⟨_, rfl⟩
  have HN := hid_in hn
  obtain ⟨v, hv⟩ : ∃ v, pokB f t p s = v := ⟨_, rfl⟩
  have V := hid_in hv
  clear hv
  by_cases hs : (s.size : Int) ≤ 1048576
  · have hn2 : 0 ≤ n := by rw [← hn, if_neg (by omega)]; omega
    clear hn
    go_enter Try.func3, Try.ntmps3
    go_wp2_with fail
    refine (szPacket_any f t p s _ 1048576 (by omega) (by omega) hz' n HN.out).mono ?_
    rintro e w0 ⟨rfl, hb0⟩
    have P0 := (PBox.new w f t p s 23).later hb0
    have Q0 := hid_in P0
    obtain ⟨l0, k0, k1, k2, k3⟩ := P0
    have Z0 := hid_in (below_later (below_box w _) hb0)
    clear hb0
    go_wp2_with fail
    clear l0 k0 k1 k2 k3
    refine (toPacket_any f t p s _).mono ?_
    rintro e w1 ⟨rfl, hb1⟩
    go_wp2_with fail
    refine (packetOkS f t p s _ _ V.out).mono ?_
    rintro e w2 ⟨rfl, hb2⟩
    obtain ⟨l0, k0, k1, k2, k3⟩ := (Q0.out.later hb1).later hb2
    go_wp2_with fail
    refine (toPacket_any f t p s _).mono ?_
    rintro e w3 ⟨rfl, hb3⟩
    go_wp2_with fail
    refine (packetOkI f t p s _ _ V.out).mono ?_
    rintro e w4 ⟨rfl, hb4⟩
    go_wp2_with fail
    go_ret
    exact ⟨rfl, below_later (below_later (below_later (below_later Z0.out hb1) hb2) hb3) hb4⟩
  · have hn2 : n < 0 := by rw [← hn, if_pos (by omega)]; omega
    clear hn
    go_enter Try.func3, Try.ntmps3
    go_wp2_with fail
    refine (szPacket_any f t p s _ 1048576 (by omega) (by omega) hz' n HN.out).mono ?_
    rintro e w0 ⟨rfl, hb0⟩
    go_wp2_with fail
    go_ret
    exact ⟨rfl, below_later (by go_grown) hb0⟩
end Go.Proofs.Ytgolcjlogokbiaa
