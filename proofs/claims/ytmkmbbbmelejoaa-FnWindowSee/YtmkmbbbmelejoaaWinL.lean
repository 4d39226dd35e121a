/- Windows that are marked, held against marks, and held against each other. The conditions stand at each theorem. -/
import Derived.Test.YtmkmbbbmelejoaaMrkA
import Derived.Test.YtmkmbbbmelejoaaWinE
namespace Go.Proofs.Ytmkmbbbmelejoaa
open Go.RowKit Go.LatT Go.BlockM Go.OpnT Go.WinMath
set_option linter.unusedVariables false
set_option linter.unusedSimpArgs false
theorem IRow.il {w : World} {b n : Nat} {E : Nat → Int} (h : IRow w b n E) (hn : n ≤ 1048576) : IL w (.slice (some ⟨b, 0, none⟩) n n) (LE E n) :=
  IL.of_owns (h.owns (Nat.zero_le b) (by unfold maxLen; omega)) (by simp [LE])
theorem Res.len {t n T' k' : Int} {L L' : List Int} (h : Res t n L T' L' k') : L'.length ≤ 16 := by
  rcases h with ⟨_, _, rfl, _⟩ | ⟨hw, _, rfl, _⟩
  · simp
  · obtain ⟨c, hc⟩ := wok_rep hw
    rw [LE_gE] at hc
    exact (listL_len hc).1
theorem WBox.grown {w w' : World} {g : Nat} {t : Int} {v : Value} {row : Option Nat} (h : WBox w g t v) (hg : w.grownBy w' row) (hr : row ≠ some g) : WBox w' g t v :=
  ⟨Nat.lt_of_lt_of_le h.lt hg.size, by rw [(grown_cells hg g 0 h.lt hr).1]; exact h.c0, by rw [(grown_cells hg g 1 h.lt hr).1]; exact h.c1⟩
theorem grown_box {w w' : World} {o : Obj} {row : Option Nat} (hg : (w.alloc o).grownBy w' row) : w.grownBy w' row :=
  ⟨hg.os, hg.tape, hg.output, Nat.le_trans (by simp) hg.size, fun k hk hr => (hg.block k (by simp; omega) hr).trans ((below_box w o).block k hk)⟩
/-- What lies where, while the answers are held against each other. -/
structure WSt (w : World) (t T' : Int) (aV sv gv xv : Value) (L' GL XL : List Int) (B D X G b0 b1 b2 : Nat) (x : World) : Prop where
  z : Below w.heap.size w x
  a : WBox x B t aV
  d : WBox x D T' sv
  bx : WBox x X t xv
  g : WBox x G T' gv
  os : x.ownsRow b0 3 1 sv L'.length (i64s L')
  og : x.ownsRow b1 3 1 gv GL.length (i64s GL)
  ox : x.ownsRow b2 3 1 xv XL.length (i64s XL)
theorem WSt.later {w x y : World} {t T' : Int} {aV sv gv xv : Value} {L' GL XL : List Int} {B D X G b0 b1 b2 : Nat} (h : WSt w t T' aV sv gv xv L' GL XL B D X G b0 b1 b2 x) (hb : Below x.heap.size x y) : WSt w t T' aV sv gv xv L' GL XL B D X G b0 b1 b2 y :=
  ⟨below_later h.z hb, h.a.later hb, h.d.later hb, h.bx.later hb, h.g.later hb, owns_below h.os hb, owns_below h.og hb, owns_below h.ox hb⟩
theorem WSt.drew {w x : World} {t T' : Int} {aV sv gv xv : Value} {L' GL XL : List Int} {B D X G b0 b1 b2 : Nat} (h : WSt w t T' aV sv gv xv L' GL XL B D X G b0 b1 b2 x) : WSt w t T' aV sv gv xv L' GL XL B D X G b0 b1 b2 x.drew :=
  ⟨h.z.drew, ⟨h.a.lt, h.a.c0, h.a.c1⟩, ⟨h.d.lt, h.d.c0, h.d.c1⟩, ⟨h.bx.lt, h.bx.c0, h.bx.c1⟩, ⟨h.g.lt, h.g.c0, h.g.c1⟩, h.os, h.og, h.ox⟩
theorem WSt.markX {w x y : World} {t T' : Int} {aV sv gv xv : Value} {L' GL XL XL' : List Int} {B D X G b0 b1 b2 : Nat} (h : WSt w t T' aV sv gv xv L' GL XL B D X G b0 b1 b2 x) (hg : x.grownBy y xv.ownBlock) (ho : y.ownsRow b2 3 1 xv XL'.length (i64s XL'))
    (hw : w.heap.size ≤ b2) (hn : ∀ k, xv.ownBlock = some k → k ≠ B ∧ k ≠ D ∧ k ≠ X ∧ k ≠ G ∧ sv.ownBlock ≠ some k ∧ gv.ownBlock ≠ some k) : WSt w t T' aV sv gv xv L' GL XL' B D X G b0 b1 b2 y := by
  have z := Below.grown h.z hg h.z.size (fun k hk => Nat.le_trans hw (owns_own h.ox k hk).1)
  refine ⟨z, h.a.grown hg (fun e => (hn _ e).1 rfl), h.d.grown hg (fun e => (hn _ e).2.1 rfl), h.bx.grown hg (fun e => (hn _ e).2.2.1 rfl), h.g.grown hg (fun e => (hn _ e).2.2.2.1 rfl), h.os.kept hg ?_, h.og.kept hg ?_, ho⟩
  · cases e : sv.ownBlock with
    | none => exact .inl rfl
    | some k => exact .inr (fun e2 => (hn k e2.symm).2.2.2.2.1 e)
  · cases e : gv.ownBlock with
    | none => exact .inl rfl
    | some k => exact .inr (fun e2 => (hn k e2.symm).2.2.2.2.2 e)
theorem WSt.markG {w x y : World} {t T' : Int} {aV sv gv xv : Value} {L' GL GL' XL : List Int} {B D X G b0 b1 b2 : Nat} (h : WSt w t T' aV sv gv xv L' GL XL B D X G b0 b1 b2 x) (hg : x.grownBy y gv.ownBlock) (ho : y.ownsRow b1 3 1 gv GL'.length (i64s GL'))
    (hw : w.heap.size ≤ b1) (hn : ∀ k, gv.ownBlock = some k → k ≠ B ∧ k ≠ D ∧ k ≠ X ∧ k ≠ G ∧ sv.ownBlock ≠ some k ∧ xv.ownBlock ≠ some k) : WSt w t T' aV sv gv xv L' GL' XL B D X G b0 b1 b2 y := by
  have z := Below.grown h.z hg h.z.size (fun k hk => Nat.le_trans hw (owns_own h.og k hk).1)
  refine ⟨z, h.a.grown hg (fun e => (hn _ e).1 rfl), h.d.grown hg (fun e => (hn _ e).2.1 rfl), h.bx.grown hg (fun e => (hn _ e).2.2.1 rfl), h.g.grown hg (fun e => (hn _ e).2.2.2.1 rfl), h.os.kept hg ?_, ho, h.ox.kept hg ?_⟩
  · cases e : sv.ownBlock with
    | none => exact .inl rfl
    | some k => exact .inr (fun e2 => (hn k e2.symm).2.2.2.2.1 e)
  · cases e : xv.ownBlock with
    | none => exact .inl rfl
    | some k => exact .inr (fun e2 => (hn k e2.symm).2.2.2.2.2 e)
theorem owns_il {w : World} {base : Nat} {v : Value} {L : List Int} (h : w.ownsRow base 3 1 v L.length (i64s L)) : IL w v L := IL.of_owns h rfl
end Go.Proofs.Ytmkmbbbmelejoaa
