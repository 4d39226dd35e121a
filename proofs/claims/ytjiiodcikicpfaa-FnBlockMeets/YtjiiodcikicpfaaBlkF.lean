/- What each function of blocks answers, in the program and in the specification, as contracts: the answer, and that nothing which was there has turned. The conditions stand at each theorem. -/
import Derived.Test.YtjiiodcikicpfaaBlkE
import Derived.Deep.RegionHeld3
import Derived.Deep.DrawnRows
import Derived.Test.YtjiiodcikicpfaaRegE
import Derived.Test.YtjiiodcikicpfaaMath
import Derived.WalkKit
import Derived.WalkSpells
import Derived.WalkLawsBesides
import Derived.BigQuiet
import Derived.Deep.RegionWith
namespace Go.Proofs.Ytjiiodcikicpfaa
open Go.RowKit Go.LatT Go.BlockM Go.RegE
set_option linter.unusedVariables false
set_option linter.unusedSimpArgs false
/-- The least block that has two; nothing where one is none. -/
def ovBase (a b x y : Int) : Int := if okB a b && okB x y then fl a (ovBits a x y b.toNat) else 0
def ovLen (a b x y : Int) : Int := if okB a b && okB x y then (ovBits a x y b.toNat : Int) else 0
theorem overS (a b x y : Int) (w : World) (p q : Int) (hp : ovBase a b x y = p) (hq : ovLen a b x y = q) :
    Calls Try.prog 20 #[.agg #[.int .i64 a, .int .i64 b], .agg #[.int .i64 x, .int .i64 y]] w fun e w' => e = .returned (.agg #[.int .i64 p, .int .i64 q]) ∧ Below w.heap.size w w' := by
  subst hp hq
  unfold ovBase ovLen
  cases h : okB a b && okB x y
  · exact overS_no a b x y w h
  · have h' := h
    rw [Bool.and_eq_true] at h'
    exact overS_yes a b x y w h'.1 h'.2
theorem overI (a b x y : Int) (w : World) (p q : Int) (hp : ovBase a b x y = p) (hq : ovLen a b x y = q) :
    Calls Try.prog 18 #[.agg #[.int .i64 a, .int .i64 b], .agg #[.int .i64 x, .int .i64 y]] w fun e w' => e = .returned (.agg #[.int .i64 p, .int .i64 q]) ∧ Below w.heap.size w w' := by
  subst hp hq
  unfold ovBase ovLen
  cases h : okB a b && okB x y
  · exact overI_no a b x y w h
  · have h' := h
    rw [Bool.and_eq_true] at h'
    exact overI_yes a b x y w h'.1 h'.2
theorem keep2 {a b x y : Int} {T : TypeId} {w w' : World} (hb : Below ((w.alloc (Obj.cells #[Value.int IntKind.i64 a, Value.int IntKind.i64 b] T)).alloc (Obj.cells #[Value.int IntKind.i64 x, Value.int IntKind.i64 y] T)).heap.size ((w.alloc (Obj.cells #[Value.int IntKind.i64 a, Value.int IntKind.i64 b] T)).alloc (Obj.cells #[Value.int IntKind.i64 x, Value.int IntKind.i64 y] T)) w') :
    Below ((w.alloc (Obj.cells #[Value.int IntKind.i64 a, Value.int IntKind.i64 b] T)).alloc (Obj.cells #[Value.int IntKind.i64 x, Value.int IntKind.i64 y] T)).heap.size ((w.alloc (Obj.cells #[Value.int IntKind.i64 a, Value.int IntKind.i64 b] T)).alloc (Obj.cells #[Value.int IntKind.i64 x, Value.int IntKind.i64 y] T)) w' ∧ w'.cell? ⟨w.heap.size, 0, none⟩ = some (.int .i64 a) ∧ w'.cell? ⟨w.heap.size, 1, none⟩ = some (.int .i64 b) ∧ w'.cell? ⟨w.heap.size + 1, 0, none⟩ = some (.int .i64 x) ∧ w'.cell? ⟨w.heap.size + 1, 1, none⟩ = some (.int .i64 y) := by
  obtain ⟨hc, _⟩ := bcell hb
  refine ⟨hb, ?_, ?_, ?_, ?_⟩
  · rw [hc _ _ (by simp <;> omega)]; go_simp
  · rw [hc _ _ (by simp <;> omega)]; go_simp
  · rw [hc _ _ (by simp <;> omega)]; go_simp
  · rw [hc _ _ (by simp <;> omega)]; go_simp
def postOver (p q : Int) (f : FuncId) (args : Array Value) (u : Value) : Prop := (f = 82 → args = #[u]) ∧ (f = 20 → u = .agg #[.int .i64 p, .int .i64 q]) ∧ (f = 18 → u = .agg #[.int .i64 p, .int .i64 q])
end Go.Proofs.Ytjiiodcikicpfaa
