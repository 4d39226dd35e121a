/- A reader of bytes, opened. The conditions stand at each theorem. -/
import Derived.Test.YtdljoopioglkiaaDrwA
import Derived.Test.YtdljoopioglkiaaRegE
import Derived.Test.YtdljoopioglkiaaMath
import Derived.WalkKit
import Derived.OpenShut
import Derived.WalkSpells
import Derived.WalkLawsBesides
import Derived.BigQuiet
import Derived.Deep.RegionWith
namespace Go.Proofs.Ytdljoopioglkiaa
open Go.RowKit Go.LatT Go.BlockM Go.RegE
set_option linter.unusedVariables false
set_option linter.unusedSimpArgs false
/-- A slice of bytes that came in. -/
def RowB (w : World) (a : Option Addr) (len cap : Nat) (z : List Int) : Prop :=
  (a = none ∧ len = 0 ∧ cap = 0) ∨ ∃ bb off, a = some ⟨bb, off, none⟩ ∧ len ≤ cap ∧ cap ≤ maxLen ∧ z.length = cap ∧ (∀ i, i < z.length → w.cell? ⟨bb, off + i, none⟩ = some (.int .u8 (z.getD i 0))) ∧ ∀ i, 0 ≤ z.getD i 0 ∧ z.getD i 0 ≤ 255
theorem RowB.later {w w' : World} {a : Option Addr} {len cap : Nat} {z : List Int} (h : RowB w a len cap z) (hb : Below w.heap.size w w') : RowB w' a len cap z := by
  rcases h with h | ⟨bb, off, e, h1, h2, h3, h4, h5⟩
  · exact .inl h
  · exact .inr ⟨bb, off, e, h1, h2, h3, fun i hi => by rw [(bcell hb).1 _ _ (cell_lt (h4 i hi))]; exact h4 i hi, h5⟩
theorem open_rdr {w : World} {t : TypeId} {bb off len cap n : Nat} {z : List Int} (h1 : len ≤ cap) (h3 : z.length = cap) (h4 : ∀ i, i < z.length → w.cell? ⟨bb, off + i, none⟩ = some (.int .u8 (z.getD i 0))) (h5 : ∀ i, 0 ≤ z.getD i 0 ∧ z.getD i 0 ≤ 255) (hn : n ≤ len) (hn' : n ≤ 2000) :
    Rdr (w.alloc (Obj.cells #[Value.slice (some ⟨bb, off, none⟩) n cap, Value.int IntKind.i64 0] t)) w.heap.size (.slice (some ⟨bb, off, none⟩) n cap) 0 := by
  refine ⟨by go_simp, by go_simp, by go_simp, ?_⟩
  by_cases h0 : n = 0
  · subst h0; exact .inl ⟨_, _, rfl⟩
  · have hlt := cell_lt (h4 0 (by omega))
    refine .inr ⟨bb, off, n, cap, fun i => z.getD i 0, rfl, by omega, by omega, hn', ⟨fun i hi => ?_, fun i => (h5 i).1, fun i => (h5 i).2⟩⟩
    rw [(bcell (below_box w _)).1 _ _ hlt]
    exact h4 i (by omega)
set_option maxHeartbeats 1000000 in
set_option maxRecDepth 100000 in
theorem l1Open_any (a : Option Addr) (len cap : Nat) (z : List Int) (w : World) (h : RowB w a len cap z) (hl : len ≤ 1048576) :
    Calls Try.prog 12 #[.slice a len cap] w fun e w' => ∃ sl, e = .returned (.pointer (some ⟨w.heap.size, 0, none⟩)) ∧ Rdr w' w.heap.size sl 0 ∧ Below w.heap.size w w' := by
  rcases h with ⟨rfl, rfl, rfl⟩ | ⟨bb, off, rfl, h1, h2, h3, h4, h5⟩
  · go_enter Try.func12, Try.ntmps12
    go_wp2
    go_ret
    exact ⟨.slice none 0 0, rfl, ⟨by go_simp, by go_simp, by go_simp, .inl ⟨_, _, rfl⟩⟩, below_box _ _⟩
  · unfold maxLen at h2
    have H4 := hid_in h4; have H5 := hid_in h5; clear h4 h5
    by_cases hlt : (2000 : Int) < (len : Int)
    · have hc : (2000 : Int) ≤ (cap : Int) := by omega
      go_enter Try.func12, Try.ntmps12
      go_wp2
      go_ret
      exact ⟨_, rfl, open_rdr h1 h3 H4.out H5.out (by omega) (by omega), below_box _ _⟩
    · go_enter Try.func12, Try.ntmps12
      go_wp2
      go_ret
      exact ⟨rfl, ⟨_, open_rdr h1 h3 H4.out H5.out (Nat.le_refl _) (by omega)⟩, below_box _ _⟩
/-- A slice of bytes that came in: empty, or a row of cells. -/
def RowC (w : World) (a : Option Addr) (len cap : Nat) (z : List Int) : Prop :=
  (len = 0 ∧ cap = 0) ∨ ∃ bb off, a = some ⟨bb, off, none⟩ ∧ len ≤ cap ∧ cap ≤ maxLen ∧ z.length = cap ∧ (∀ i, i < z.length → w.cell? ⟨bb, off + i, none⟩ = some (.int .u8 (z.getD i 0))) ∧ ∀ i, 0 ≤ z.getD i 0 ∧ z.getD i 0 ≤ 255
theorem RowC.later {w w' : World} {a : Option Addr} {len cap : Nat} {z : List Int} (h : RowC w a len cap z) (hb : Below w.heap.size w w') : RowC w' a len cap z := by
  rcases h with h | ⟨bb, off, e, h1, h2, h3, h4, h5⟩
  · exact .inl h
  · exact .inr ⟨bb, off, e, h1, h2, h3, fun i hi => by rw [(bcell hb).1 _ _ (cell_lt (h4 i hi))]; exact h4 i hi, h5⟩
/-- What the kit tells of such a slice. -/
theorem RowC.mk {w : World} {x : Addr} {len cap : Nat} {z : List Int} (h1 : len ≤ cap) (h2 : cap ≤ maxLen) (h3 : z.length = cap) (h4 : ∀ i, i < z.length → w.cell? (x.add i) = some (.int .u8 (z.getD i 0))) (h5 : ∀ n ∈ z, (Lit.int .u8 n).wf = true) : RowC w (some x) len cap z := by
  by_cases h0 : cap = 0
  · exact .inl ⟨by omega, h0⟩
  · obtain ⟨bb, off, spot⟩ := x
    have hc := h4 0 (by omega)
    have hspot : spot = none := by simpa [Addr.add] using World.cell?_spot hc
    subst hspot
    refine .inr ⟨bb, off, rfl, h1, h2, h3, fun i hi => ?_, fun i => by simpa using range_u8 h5 i⟩
    have := h4 i hi
    by_cases hi0 : i = 0
    · subst hi0; simpa [Addr.add] using this
    · simpa [Addr.add, hi0] using this
set_option maxHeartbeats 1000000 in
set_option maxRecDepth 100000 in
theorem l1OpenC (a : Option Addr) (len cap : Nat) (z : List Int) (w : World) (h : RowC w a len cap z) (hl : len ≤ 1048576) :
    Calls Try.prog 12 #[.slice a len cap] w fun e w' => ∃ sl, e = .returned (.pointer (some ⟨w.heap.size, 0, none⟩)) ∧ Rdr w' w.heap.size sl 0 ∧ Below w.heap.size w w' := by
  rcases h with ⟨rfl, rfl⟩ | h
  · go_enter Try.func12, Try.ntmps12
    go_wp2
    go_ret
    exact ⟨.slice a 0 0, rfl, ⟨by go_simp, by go_simp, by go_simp, .inl ⟨_, _, rfl⟩⟩, below_box _ _⟩
  · exact l1Open_any a len cap z w (.inr h) hl
theorem below_mv {w w1 w2 : World} {R : Nat} (hb : Below w.heap.size w w1) (hR : w.heap.size ≤ R) (m : Mv R w1 w2) : Below w.heap.size w w2 := hb.trans (m.below hb.size hR)
end Go.Proofs.Ytdljoopioglkiaa
