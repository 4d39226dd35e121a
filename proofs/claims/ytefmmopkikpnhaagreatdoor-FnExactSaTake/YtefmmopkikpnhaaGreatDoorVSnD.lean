/- What is proved: the contracts of SndD, one behind the other. The conditions stand at each theorem. -/
import Derived.Test.YtefmmopkikpnhaaGreatDoorVSnB
namespace Go.Proofs.YtefmmopkikpnhaaGreatDoor
open Go.RowKit Go.LatT Go.BlockM Go.PlainAid Go.OpnT Go.ApdG Go.BytM Go.AesM Go.RowQ Go.WinMath
set_option linter.unusedVariables false
set_option linter.unusedSimpArgs false
theorem SaBox.mv {w w' : World} {g r : Nat} {x : SaV} {v : Value} (h : SaBox w r x v) (m : Mv g w w') (hne : r ≠ g) : SaBox w' r x v :=
  have q := fun o => m.cell r o h.lt hne
  ⟨Nat.lt_of_lt_of_le h.lt m.size, (q _).trans h.c0, (q _).trans h.c1, (q _).trans h.c2, (q _).trans h.c3, (q _).trans h.c4, (q _).trans h.c5, (q _).trans h.c6, (q _).trans h.c7, (q _).trans h.c8, (q _).trans h.c9, (q _).trans h.c10, fun o => (m.frozen r o h.lt hne).trans (h.f o)⟩
theorem mv_cell2 {g k o : Nat} {w w' : World} {u : Value} (h : Mv g w w') (hk : w.heap.size ≤ k) : Mv g w (w'.setCell ⟨k, o, none⟩ u) :=
  ⟨h.os, h.tape, h.output, by simpa using h.size, fun j hj hne => (heap_setCell_other w' ⟨k, o, none⟩ j u (show j ≠ k by omega)).trans (h.block j hj hne)⟩
theorem mv_putSa {g k : Nat} {w w' : World} (h : Mv g w w') (hk : w.heap.size ≤ k) (X : SaV) (v : Value) : Mv g w (putSa w' k X v) := by
  iterate 11 refine mv_cell2 ?_ hk
  exact h
set_option maxHeartbeats 2000000 in
set_option maxRecDepth 100000 in
theorem kdone_no (g : Nat) (x : SaV) (a : Option Addr) (len cap : Nat) (E : Nat → Int) (fv : Value) (now : Int) (t : ByteArray) (w : World) (hB : SaBox w g x (.slice a len cap)) (hT : Ints w a len E) (hl : len ≤ 1048576) (hno : ¬ (saB x = true ∧ WOk x.top len E)) :
    Calls Tryz.prog 68 #[.pointer (some ⟨g, 0, none⟩), fv, .int .i64 now, .string t] w fun e w' => e = .returned (.tuple #[vSv zeroSa (.slice none 0 0), .string ⟨#[]⟩, .int .i64 1]) ∧ Below w.heap.size w w' := by
  have HB := hid_in hB; have HT := hid_in hT; have HN := hid_in hno
  clear hB hT hno
  go_enter Tryz.func68, Tryz.ntmps68
  go_wp2_with fail
  refine (kok_any g x a len cap E _ (HB.out.later (below_box _ _)) (HT.out.later (below_box _ _)) hl).mono ?_
  rintro e w1 ⟨u, rfl, hu, hb1⟩
  obtain rfl : u = false := by
    cases u
    · rfl
    · exact absurd (hu.1 rfl) HN.out
  have Z1 := hid_in (below_later (below_box w _) hb1)
  have S1 := hid_in (SaBox.later (SaBox.new w zeroSa (.slice none 0 0) 45) hb1)
  obtain ⟨l0, p0, p1, p2, p3, p4, p5, p6, p7, p8, p9, p10, pf⟩ := S1.out
  clear hu hb1
  go_wp2_with (exact bodyPost_ret (v := .tuple #[vSv zeroSa (.slice none 0 0), .string ⟨#[]⟩, .int .i64 1]) (by
    have X4 := SaBox.put S1.out zeroSa (.slice none 0 0)
    simp only [putSa] at X4
    obtain ⟨_, d0, d1, d2, d3, d4, d5, d6, d7, d8, d9, d10, _⟩ := X4
    simp [results, Tryz.results68, go_sem, d0, d1, d2, d3, d4, d5, d6, d7, d8, d9, d10]) rfl ⟨rfl, below_putSa Z1.out (Nat.le_refl _) zeroSa (.slice none 0 0)⟩)
end Go.Proofs.YtefmmopkikpnhaaGreatDoor

