/- What is proved: the walk of the exact law of WindowOk. The conditions stand at the theorem. -/
import Derived.Test.YtmkmbbbmelejoaaWinD
import Derived.Deep.RegionHeld3
namespace Go.Proofs.Ytmkmbbbmelejoaa
open Go.RowKit Go.LatT Go.BlockM Go.OpnT Go.WinMath
set_option linter.unusedVariables false
set_option linter.unusedSimpArgs false
/-- A window lies in a block. -/
structure WBox (w : World) (g : Nat) (t : Int) (v : Value) : Prop where
  lt : g < w.heap.size
  c0 : w.cell? ⟨g, 0, none⟩ = some (.int .i64 t)
  c1 : w.cell? ⟨g, 1, none⟩ = some v
theorem WBox.later {w w' : World} {g : Nat} {t : Int} {v : Value} (h : WBox w g t v) (hb : Below w.heap.size w w') : WBox w' g t v :=
  ⟨Nat.lt_of_lt_of_le h.lt hb.size, by rw [(bcell hb).1 _ _ h.lt]; exact h.c0, by rw [(bcell hb).1 _ _ h.lt]; exact h.c1⟩
theorem WBox.new (w : World) (t : Int) (v : Value) (ty : TypeId) : WBox (w.alloc (.cells #[.int .i64 t, v] ty)) w.heap.size t v := ⟨by simp, by go_simp, by go_simp⟩
end Go.Proofs.Ytmkmbbbmelejoaa
