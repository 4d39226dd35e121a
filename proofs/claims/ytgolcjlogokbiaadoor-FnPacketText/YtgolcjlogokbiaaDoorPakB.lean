/- What is proved: the walk of the exact law of PacketOk. The conditions stand at the theorem. -/
import Derived.Test.YtgolcjlogokbiaaDoorPakA
namespace Go.Proofs.YtgolcjlogokbiaaDoor
open Go.RowKit Go.LatT Go.BlockM
set_option linter.unusedVariables false
set_option linter.unusedSimpArgs false
/-- A packet lies in a block. -/
structure PBox (w : World) (g : Nat) (f t p : Int) (s : ByteArray) : Prop where
  lt : g < w.heap.size
  c0 : w.cell? ⟨g, 0, none⟩ = some (.int .i64 f)
  c1 : w.cell? ⟨g, 1, none⟩ = some (.int .i64 t)
  c2 : w.cell? ⟨g, 2, none⟩ = some (.int .i64 p)
  c3 : w.cell? ⟨g, 3, none⟩ = some (.string s)
theorem PBox.later {w w' : World} {g : Nat} {f t p : Int} {s : ByteArray} (h : PBox w g f t p s) (hb : Below w.heap.size w w') : PBox w' g f t p s :=
  ⟨Nat.lt_of_lt_of_le h.lt hb.size, ((bcell hb).1 _ _ h.lt).trans h.c0, ((bcell hb).1 _ _ h.lt).trans h.c1, ((bcell hb).1 _ _ h.lt).trans h.c2, ((bcell hb).1 _ _ h.lt).trans h.c3⟩
theorem PBox.new (w : World) (f t p : Int) (s : ByteArray) (ty : TypeId) : PBox (w.alloc (.cells #[.int .i64 f, .int .i64 t, .int .i64 p, .string s] ty)) w.heap.size f t p s := ⟨by simp, by go_simp, by go_simp, by go_simp, by go_simp⟩
end Go.Proofs.YtgolcjlogokbiaaDoor
