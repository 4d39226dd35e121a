/- What is proved: an array or a struct that lies somewhere is loaded in one step, also within a region that draws its order. The conditions stand at each theorem. -/
import Derived.Test.YtgamakiejaeeeaaDoorLat
import Derived.WalkKit
import Derived.Laws.Rows
import Derived.Laws.Cells
import Derived.Laws.Tables
namespace Go.RowQ
open Go.RowKit Go.LatT
set_option linter.unusedVariables false
section
variable {P : Program}
/-- A type whose values have many cells. -/
structure AggT (P : Program) (ty : TypeId) (n : Nat) : Prop where
  agg : ∀ w, (isAgg ty).run P w = .ok true w
  size : ∀ w, (sizeOf ty).run P w = .ok n w
theorem run_load_at {ty : TypeId} {n : Nat} (h : AggT P ty n) (w : World) (ad : Addr) (cs : Array Value) (hn : cs.size = n) (hc : ∀ j, j < n → w.cell? (ad.add j) = cs[j]?) : (loadVar ty ad).run P w = .ok (.agg cs) w := by
  have hl : (loadCells ad cs.toList.length).run P w = .ok cs.toList.toArray w :=
    run_loadCells_list (P := P) w ad cs.toList (fun j v hv => by
      have hj : j < n := by
        have := (List.getElem?_eq_some_iff.1 hv).1
        rw [Array.length_toList] at this; omega
      rw [hc j hj]; simpa using hv)
  simp only [Array.length_toList, Array.toArray_toList, hn] at hl
  simp [loadVar, Sem.run_bind, h.agg, h.size, hl]
theorem wp_load_at {o : Oper} {a : Act} {w : World} {K : Act → World → Prop} {Q : Exit → Act → World → Prop} {ty : TypeId} {n : Nat} (h : AggT P ty n) (x : Operand) (ho : o.op = .load ty x)
    (ad : Addr) (hx : a.eval x = .pointer (some ad)) (cs : Array Value) (hn : cs.size = n) (hc : ∀ j, j < n → w.cell? (ad.add j) = cs[j]?)
    (hk : K (a.put o.dst (.agg cs)) w) : o.wp P a w K Q := by
  unfold Oper.wp execOp
  simp only [ho, hx, Instr.loadAt, Instr.sureAddr, Sem.run_bind, Sem.run_pure, Result.andThen_ok, run_load_at h w ad cs hn hc]
  exact hk
theorem wpList_load_at {ops : Array Oper} {rest : List Oper} {o : Oper} {a : Act} {w : World} {Q : Exit → Act → World → Prop} {ty : TypeId} {n : Nat} (h : AggT P ty n) (hgd : o.guard = none) (x : Operand) (ho : o.op = .load ty x)
    (ad : Addr) (hx : a.eval x = .pointer (some ad)) (cs : Array Value) (hn : cs.size = n) (hc : ∀ j, j < n → w.cell? (ad.add j) = cs[j]?)
    (hk : wpList P ops Q rest (a.put o.dst (.agg cs)) w) : wpList P ops Q (o :: rest) a w :=
  wpList_plain hgd fun _ hK => wp_load_at h x ho ad hx cs hn hc (hK _ _ hk)
/-- The same in a region that draws, walked once. -/
theorem quiet_load_at {ops : Array Oper} {rest : List Oper} {o : Oper} {a : Act} {C : World → Prop} {Q : Act → Prop} {ty : TypeId} {n : Nat} (h : AggT P ty n) (hgd : o.guard = none) (x : Operand) (ho : o.op = .load ty x)
    (ad : Addr) (hx : a.eval x = .pointer (some ad)) (cs : Array Value) (hn : cs.size = n) (hc : ∀ w, C w → ∀ j, j < n → w.cell? (ad.add j) = cs[j]?)
    (hk : wpQuiet P ops C Q rest (a.put o.dst (.agg cs))) : wpQuiet P ops C Q (o :: rest) a := by
  have hw : Region.wanted o (yielded ops a.tmps) = true := by simp [Region.wanted, hgd]
  simp only [wpQuiet, hw, if_true]
  refine ⟨.agg cs, fun w hC => ?_, hk⟩
  unfold Oper.quietAt execOp
  simp only [ho, hx, Instr.loadAt, Instr.sureAddr, Sem.run_bind, Sem.run_pure, Result.andThen_ok, run_load_at h w ad cs hn (hc w hC)]
  exact ⟨rfl, rfl⟩
end
end Go.RowQ
