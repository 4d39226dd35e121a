/- What each function of blocks answers, in the program and in the specification, as contracts: the answer, and that nothing which was there has turned. The conditions stand at each theorem. -/
import Derived.Test.YtjiiodcikicpfaaDrwE
import Derived.Test.YtjiiodcikicpfaaDrwD
import Derived.Test.YtjiiodcikicpfaaBlkF
import Derived.Test.YtjiiodcikicpfaaMathH
import Derived.Test.YtjiiodcikicpfaaRegN
import Derived.Test.YtjiiodcikicpfaaMath
import Derived.WalkKit
import Derived.OpenShut
import Derived.WalkSpells
import Derived.WalkLawsBesides
import Derived.BigQuiet
import Derived.Deep.RegionWith
namespace Go.Proofs.Ytjiiodcikicpfaa
open Go.RowKit Go.LatT Go.BlockM Go.RegN
set_option linter.unusedVariables false
set_option linter.unusedSimpArgs false
/-- A slice of bytes that came in: empty, or a row of cells. -/
def RowC (w : World) (a : Option Addr) (len cap : Nat) (z : List Int) : Prop :=
  (len = 0 ∧ cap = 0) ∨ ∃ bb off, a = some ⟨bb, off, none⟩ ∧ len ≤ cap ∧ cap ≤ maxLen ∧ z.length = cap ∧ (∀ i, i < z.length → w.cell? ⟨bb, off + i, none⟩ = some (.int .u8 (z.getD i 0))) ∧ ∀ i, 0 ≤ z.getD i 0 ∧ z.getD i 0 ≤ 255
theorem RowC.later {w w' : World} {a : Option Addr} {len cap : Nat} {z : List Int} (h : RowC w a len cap z) (hb : Below w.heap.size w w') : RowC w' a len cap z := by
  rcases h with h | ⟨bb, off, e, h1, h2, h3, h4, h5⟩
  · exact .inl h
  · exact .inr ⟨bb, off, e, h1, h2, h3, fun i hi => by rw [(bcell hb).1 _ _ (cell_lt (h4 i hi))]; exact h4 i hi, h5⟩
/-- What the kit tells of such a slice. -/
theorem RowC.mk {w : World} {x : Addr} {len cap : Nat} {z : List Int} (h1 : len ≤ cap) (h2 : cap ≤ maxLen) (h3 : z.length = cap) (h4 : ∀ i, i < z.length → w.cell? (x.add i) = some (.int .u8 (z.getD i 0))) (h5 : ∀ n ∈ z, (Lit.int .u8 n).wf = true) : RowC w (some x) len cap z := by
  by_cases h0 : cap = 0
  · exact .inl ⟨by omega, h0⟩
  · obtain ⟨bb, off, spot⟩ := x
    have hc := h4 0 (by omega)
    have hspot : spot = none := by simpa [Addr.add] using World.cell?_spot hc
    subst hspot
    refine .inr ⟨bb, off, rfl, h1, h2, h3, fun i hi => ?_, fun i => by simpa using range_u8 h5 i⟩
    have := h4 i hi
    by_cases hi0 : i = 0
    · subst hi0; simpa [Addr.add] using this
    · simpa [Addr.add, hi0] using this
set_option maxHeartbeats 1000000 in
set_option maxRecDepth 100000 in
theorem l1OpenC (a : Option Addr) (len cap : Nat) (z : List Int) (w : World) (h : RowC w a len cap z) (hl : len ≤ 1048576) :
    Calls Try.prog 38 #[.slice a len cap] w fun e w' => ∃ sl, e = .returned (.pointer (some ⟨w.heap.size, 0, none⟩)) ∧ Rdr w' w.heap.size sl 0 ∧ Below w.heap.size w w' := by
  rcases h with ⟨rfl, rfl⟩ | h
  · go_enter Try.func38, Try.ntmps38
    go_wp2
    go_ret
    exact ⟨.slice a 0 0, rfl, ⟨by go_simp, by go_simp, by go_simp, .inl ⟨_, _, rfl⟩⟩, below_box _ _⟩
  · exact l1Open_any a len cap z w (.inr h) hl
theorem below_mv {w w1 w2 : World} {R : Nat} (hb : Below w.heap.size w w1) (hR : w.heap.size ≤ R) (m : Mv R w1 w2) : Below w.heap.size w w2 := hb.trans (m.below hb.size hR)
set_option maxHeartbeats 1000000 in
set_option maxRecDepth 100000 in
theorem drawBlockMeets (a : Option Addr) (len cap : Nat) (z : List Int) (w : World) (h : RowC w a len cap z) (hl : len ≤ 1048576) :
    Calls Try.prog 17 #[.slice a len cap] w fun e w' => ∃ x y x' y' : Int, e = .returned (.tuple #[.agg #[.int .i64 x, .int .i64 y], .agg #[.int .i64 x', .int .i64 y']]) ∧ -1 ≤ x ∧ x ≤ 4294967551 ∧ -1 ≤ y ∧ y ≤ 33 ∧ -1 ≤ x' ∧ x' ≤ 4294967551 ∧ -1 ≤ y' ∧ y' ≤ 33 ∧ Below w.heap.size w w' := by
  have HR := hid_in h
  clear h
  go_enter Try.func17, Try.ntmps17
  go_wp2_with fail
  have hb := below_later (below_box w (Obj.cells #[Value.int IntKind.i64 0, Value.int IntKind.i64 0] 24)) (below_box _ (Obj.cells #[Value.int IntKind.i64 0, Value.int IntKind.i64 0] 24))
  have X0 := ((Bx.new w 0 0).later (below_box _ (Obj.cells #[Value.int IntKind.i64 0, Value.int IntKind.i64 0] 24)))
  have X1 := (Bx.new (w.alloc (Obj.cells #[Value.int IntKind.i64 0, Value.int IntKind.i64 0] 24)) 0 0)
  rw [show (w.alloc (Obj.cells #[Value.int IntKind.i64 0, Value.int IntKind.i64 0] 24)).heap.size = w.heap.size + 1 by simp] at X1
  refine (l1OpenC a len cap z _ (HR.out.later hb) hl).mono ?_
  rintro e w1 ⟨sl, rfl, h1, hb1⟩
  have H1 : Hid (Rdr w1 (w.heap.size + 1 + 1) sl 0) := by show Rdr _ _ _ _; simpa using h1
  clear h1
  have Y0 := hid_in (X0.later hb1); have Y1 := hid_in (X1.later hb1); have z1 := hid_in (below_later hb hb1)
  clear X0 X1 hb hb1 HR
  go_wp2_with fail
  refine (l12Two_any (w.heap.size + 1 + 1) sl 0 _ H1.out (by omega) (by omega)).mono ?_
  rintro e w2 ⟨x, y, x', y', rfl, x0, x1, y0, y1, x0', x1', y0', y1', m2⟩
  have U0 := Y0.out.mv m2 (by omega)
  have U1 := Y1.out.mv m2 (by omega)
  obtain ⟨e0, e1, e2, e3⟩ := pair_cells U0
  obtain ⟨f0, f1, f2, f3⟩ := pair_cells U1
  have hz : Below w.heap.size w w2 := below_mv z1.out (by omega) m2
  clear U0 U1 Y0 Y1 z1 m2 H1
  go_wp2_with fail
  exact bodyPost_ret (v := .tuple #[.agg #[.int .i64 x, .int .i64 y], .agg #[.int .i64 x', .int .i64 y']]) (by simp [results, Try.results17, go_sem, e0, e1, f0, f1]) rfl
    ⟨_, _, _, _, rfl, x0, x1, y0, y1, x0', x1', y0', y1', (((hz.setCell (Nat.le_refl _) _).setCell (Nat.le_refl _) _).setCell (by simp) _).setCell (by simp) _⟩
end Go.Proofs.Ytjiiodcikicpfaa
