/- One of several numbers, drawn. The conditions stand at each theorem. -/
import Derived.Test.YtdljoopioglkiaaDrwA
import Derived.Test.YtdljoopioglkiaaRegE
import Derived.Test.YtdljoopioglkiaaMath
import Derived.WalkKit
import Derived.WalkSpells
import Derived.WalkLawsBesides
import Derived.BigQuiet
import Derived.Deep.RegionWith
namespace Go.Proofs.Ytdljoopioglkiaa
open Go.RowKit Go.LatT Go.BlockM Go.RegE
set_option linter.unusedVariables false
set_option linter.unusedSimpArgs false
theorem oneN (R : Nat) (sl : Value) (p : Int) (vs : List Int) (n : Nat) (arr : Array Value) (t : TypeId) (w : World) (harr : arr = (vs.map fun v => Value.int .i64 v).toArray) (hn : n = vs.length) (h : Rdr w R sl p) (hp : 0 ≤ p) (hp' : p ≤ 1099511627776) (hl : 1 ≤ vs.length) (hl' : vs.length ≤ 100) :
    Calls Try.prog 25 #[.pointer (some ⟨R, 0, none⟩), .slice (some ⟨w.heap.size, 0, none⟩) n n] (w.alloc (.cells arr t)) fun e w' => ∃ u : Int, e = .returned (.int .i64 u) ∧ u ∈ vs ∧ Rdr w' R sl (p + 1) ∧ Mv R w w' := by
  subst harr hn
  have hlt := h.lt
  exact (oneM R w.heap.size sl p vs _ (h.later (below_box _ _)) (by omega) hp hp' hl hl' (fun i hi => new_ints vs t w i hi)).mono
    fun _ _ ⟨u, he, hu, h1, h2⟩ => ⟨u, he, hu, h1, (Mv.of_below (below_box _ _)).trans h2⟩
end Go.Proofs.Ytdljoopioglkiaa
