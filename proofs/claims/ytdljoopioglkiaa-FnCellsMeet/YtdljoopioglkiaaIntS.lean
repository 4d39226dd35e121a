/- Lists of numbers: what measuring one, copying one, and holding two against each other answer. The conditions stand at each theorem. -/
import Derived.Test.YtdljoopioglkiaaProg
import Derived.Test.YtdljoopioglkiaaLat
import Derived.Test.YtdljoopioglkiaaMath
import Derived.Test.YtdljoopioglkiaaOpn
import Derived.WalkKit
import Derived.WalkSpells
import Derived.WalkLawsBesides
import Derived.BigQuiet
import Derived.Deep.OwnRows
import Derived.Deep.LoopGhost
import Derived.Handy
namespace Go.Proofs.Ytdljoopioglkiaa
open Go.RowKit Go.LatT Go.BlockM Go.OpnT
set_option linter.unusedVariables false
set_option linter.unusedSimpArgs false
/-- A slice of numbers: empty, or a row of cells. -/
def Ints (w : World) (a : Option Addr) (len : Nat) (E : Nat → Int) : Prop :=
  len = 0 ∨ ∃ bb off, a = some ⟨bb, off, none⟩ ∧ bb < w.heap.size ∧ ∀ i, i < len → w.cell? ⟨bb, off + i, none⟩ = some (.int .i64 (E i))
theorem Ints.later {w w' : World} {a : Option Addr} {len : Nat} {E : Nat → Int} (h : Ints w a len E) (hb : Below w.heap.size w w') : Ints w' a len E := by
  rcases h with h | ⟨bb, off, e, hlt, hc⟩
  · exact .inl h
  · exact .inr ⟨bb, off, e, Nat.lt_of_lt_of_le hlt hb.size, fun i hi => by rw [(bcell hb).1 _ _ hlt]; exact hc i hi⟩
/-- A block of numbers. -/
def IRow (w : World) (b n : Nat) (E : Nat → Int) : Prop := w.rowIs b 3 n (fun i => .int .i64 (E i))
theorem IRow.ints {w : World} {b n : Nat} {E : Nat → Int} (h : IRow w b n E) : Ints w (some ⟨b, 0, none⟩) n E :=
  .inr ⟨b, 0, rfl, h.lt, fun i hi => by rw [Nat.zero_add]; exact h.cell hi⟩
theorem IRow.later {w w' : World} {b n : Nat} {E : Nat → Int} (h : IRow w b n E) (hb : Below w.heap.size w w') : IRow w' b n E := h.of_block (hb.block _ h.lt)
def zInt (n : Nat) : Array Value := madeCells #[.int .i64 0] n
theorem infoInt : (Try.prog.info? 3).map (fun i => (i.zero, i.size, i.bytes)) = some (some (.int .i64 0), 1, 8) := by kernel_rfl
theorem madeInt (w : World) (n : Nat) : (w.alloc (.cells (zInt n) 3)).rowIs w.heap.size 3 n (fun _ => .int .i64 0) := by
  refine ⟨_, Go.Deep.blk_alloc_new _ _, size_madeCells _ _, fun i hi => ?_⟩
  simp only [zInt, madeCells]
  simp [hi, Nat.mod_one]
end Go.Proofs.Ytdljoopioglkiaa
