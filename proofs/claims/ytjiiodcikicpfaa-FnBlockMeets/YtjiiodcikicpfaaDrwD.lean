/- What each function of blocks answers, in the program and in the specification, as contracts: the answer, and that nothing which was there has turned. The conditions stand at each theorem. -/
import Derived.Test.YtjiiodcikicpfaaDrwC
import Derived.Test.YtjiiodcikicpfaaRegN
import Derived.Test.YtjiiodcikicpfaaMath
import Derived.WalkKit
import Derived.WalkSpells
import Derived.WalkLawsBesides
import Derived.BigQuiet
import Derived.Deep.RegionWith
namespace Go.Proofs.Ytjiiodcikicpfaa
open Go.RowKit Go.LatT Go.BlockM Go.RegN
set_option linter.unusedVariables false
set_option linter.unusedSimpArgs false
theorem RowB.later {w w' : World} {a : Option Addr} {len cap : Nat} {z : List Int} (h : RowB w a len cap z) (hb : Below w.heap.size w w') : RowB w' a len cap z := by
  rcases h with h | ⟨bb, off, e, h1, h2, h3, h4, h5⟩
  · exact .inl h
  · exact .inr ⟨bb, off, e, h1, h2, h3, fun i hi => by rw [(bcell hb).1 _ _ (cell_lt (h4 i hi))]; exact h4 i hi, h5⟩
theorem open_rdr {w : World} {t : TypeId} {bb off len cap n : Nat} {z : List Int} (h1 : len ≤ cap) (h3 : z.length = cap) (h4 : ∀ i, i < z.length → w.cell? ⟨bb, off + i, none⟩ = some (.int .u8 (z.getD i 0))) (h5 : ∀ i, 0 ≤ z.getD i 0 ∧ z.getD i 0 ≤ 255) (hn : n ≤ len) (hn' : n ≤ 2000) :
    Rdr (w.alloc (Obj.cells #[Value.slice (some ⟨bb, off, none⟩) n cap, Value.int IntKind.i64 0] t)) w.heap.size (.slice (some ⟨bb, off, none⟩) n cap) 0 := by
  refine ⟨by go_simp, by go_simp, by go_simp, ?_⟩
  by_cases h0 : n = 0
  · subst h0; exact .inl ⟨_, _, rfl⟩
  · have hlt := cell_lt (h4 0 (by omega))
    refine .inr ⟨bb, off, n, cap, fun i => z.getD i 0, rfl, by omega, by omega, hn', ⟨fun i hi => ?_, fun i => (h5 i).1, fun i => (h5 i).2⟩⟩
    rw [(bcell (below_box w _)).1 _ _ hlt]
    exact h4 i (by omega)
set_option maxHeartbeats 1000000 in
set_option maxRecDepth 100000 in
theorem l1Open_any (a : Option Addr) (len cap : Nat) (z : List Int) (w : World) (h : RowB w a len cap z) (hl : len ≤ 1048576) :
    Calls Try.prog 38 #[.slice a len cap] w fun e w' => ∃ sl, e = .returned (.pointer (some ⟨w.heap.size, 0, none⟩)) ∧ Rdr w' w.heap.size sl 0 ∧ Below w.heap.size w w' := by
  rcases h with ⟨rfl, rfl, rfl⟩ | ⟨bb, off, rfl, h1, h2, h3, h4, h5⟩
  · go_enter Try.func38, Try.ntmps38
    go_wp2
    go_ret
    exact ⟨.slice none 0 0, rfl, ⟨by go_simp, by go_simp, by go_simp, .inl ⟨_, _, rfl⟩⟩, below_box _ _⟩
  · unfold maxLen at h2
    have H4 := hid_in h4; have H5 := hid_in h5; clear h4 h5
    by_cases hlt : (2000 : Int) < (len : Int)
    · have hc : (2000 : Int) ≤ (cap : Int) := by omega
      go_enter Try.func38, Try.ntmps38
      go_wp2
      go_ret
      exact ⟨_, rfl, open_rdr h1 h3 H4.out H5.out (by omega) (by omega), below_box _ _⟩
    · go_enter Try.func38, Try.ntmps38
      go_wp2
      go_ret
      exact ⟨rfl, ⟨_, open_rdr h1 h3 H4.out H5.out (Nat.le_refl _) (by omega)⟩, below_box _ _⟩
end Go.Proofs.Ytjiiodcikicpfaa
