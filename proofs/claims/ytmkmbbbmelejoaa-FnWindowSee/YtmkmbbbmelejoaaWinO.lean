/- What is proved: the walk of the exact law of WindowRun. The conditions stand at the theorem. -/
import Derived.Test.YtmkmbbbmelejoaaWinN
namespace Go.Proofs.Ytmkmbbbmelejoaa
open Go.RowKit Go.LatT Go.BlockM Go.OpnT Go.WinMath
set_option linter.unusedVariables false
set_option linter.unusedSimpArgs false
/-- What lies where, while answers that are lists of numbers are held against each other. -/
structure RSt (w : World) (sv gv xv : Value) (L' GL XL : List Int) (b0 b1 b2 : Nat) (x : World) : Prop where
  z : Below w.heap.size w x
  os : x.ownsRow b0 3 1 sv L'.length (i64s L')
  og : x.ownsRow b1 3 1 gv GL.length (i64s GL)
  ox : x.ownsRow b2 3 1 xv XL.length (i64s XL)
theorem RSt.later {w x y : World} {sv gv xv : Value} {L' GL XL : List Int} {b0 b1 b2 : Nat} (h : RSt w sv gv xv L' GL XL b0 b1 b2 x) (hb : Below x.heap.size x y) : RSt w sv gv xv L' GL XL b0 b1 b2 y :=
  ⟨below_later h.z hb, owns_below h.os hb, owns_below h.og hb, owns_below h.ox hb⟩
theorem RSt.drew {w x : World} {sv gv xv : Value} {L' GL XL : List Int} {b0 b1 b2 : Nat} (h : RSt w sv gv xv L' GL XL b0 b1 b2 x) : RSt w sv gv xv L' GL XL b0 b1 b2 x.drew :=
  ⟨h.z.drew, h.os, h.og, h.ox⟩
theorem owns_kept {x y : World} {b0 n : Nat} {v : Value} {xs : List Value} {row : Option Nat} (h : x.ownsRow b0 3 1 v n xs) (hg : x.grownBy y row) (hn : ∀ k, row = some k → v.ownBlock ≠ some k) : y.ownsRow b0 3 1 v n xs := by
  refine h.kept hg ?_
  cases e : v.ownBlock with
  | none => exact .inl rfl
  | some k => exact .inr (fun e2 => hn k e2.symm e)
theorem RSt.markX {w x y : World} {sv gv xv : Value} {L' GL XL XL' : List Int} {b0 b1 b2 : Nat} (h : RSt w sv gv xv L' GL XL b0 b1 b2 x) (hg : x.grownBy y xv.ownBlock) (ho : y.ownsRow b2 3 1 xv XL'.length (i64s XL'))
    (hw : w.heap.size ≤ b2) (hn : ∀ k, xv.ownBlock = some k → sv.ownBlock ≠ some k ∧ gv.ownBlock ≠ some k) : RSt w sv gv xv L' GL XL' b0 b1 b2 y :=
  ⟨Below.grown h.z hg h.z.size (fun k hk => Nat.le_trans hw (owns_own h.ox k hk).1), owns_kept h.os hg (fun k hk => (hn k hk).1), owns_kept h.og hg (fun k hk => (hn k hk).2), ho⟩
theorem RSt.markG {w x y : World} {sv gv xv : Value} {L' GL GL' XL : List Int} {b0 b1 b2 : Nat} (h : RSt w sv gv xv L' GL XL b0 b1 b2 x) (hg : x.grownBy y gv.ownBlock) (ho : y.ownsRow b1 3 1 gv GL'.length (i64s GL'))
    (hw : w.heap.size ≤ b1) (hn : ∀ k, gv.ownBlock = some k → sv.ownBlock ≠ some k ∧ xv.ownBlock ≠ some k) : RSt w sv gv xv L' GL' XL b0 b1 b2 y :=
  ⟨Below.grown h.z hg h.z.size (fun k hk => Nat.le_trans hw (owns_own h.og k hk).1), owns_kept h.os hg (fun k hk => (hn k hk).1), ho, owns_kept h.ox hg (fun k hk => (hn k hk).2)⟩
theorem runR_len (L : List Int) : (runR L).length ≤ 60 := by
  unfold runR
  split
  · simp
  · rw [runC_len]; omega
end Go.Proofs.Ytmkmbbbmelejoaa
