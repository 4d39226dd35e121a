/- Rules made disjoint, in the specification, as a contract. The conditions stand at each theorem. -/
import Derived.Test.YtdljoopioglkiaaGrdF
namespace Go.Proofs.Ytdljoopioglkiaa
open Go.RowKit Go.LatT Go.BlockM Go.OpnT Go.WinMath Go.ApdG
set_option linter.unusedVariables false
set_option linter.unusedSimpArgs false
/-- What making rules disjoint comes to. -/
def CellsD (E : Nat → Nat → Int) (n : Nat) (L : List Cv) (ok : Bool) : Prop :=
  (((∀ i, i < n → rbad E i = false) ∧ n ≤ 8 ∧ (cellsE E n).length ≤ 400) → ok = true ∧ L = (cellsE E n).reverse) ∧ (¬ ((∀ i, i < n → rbad E i = false) ∧ n ≤ 8 ∧ (cellsE E n).length ≤ 400) → ok = false ∧ L = [])
theorem CellsD.one {E : Nat → Nat → Int} {n : Nat} {L M : List Cv} {a b : Bool} (h : CellsD E n L a) (k : CellsD E n M b) : a = b ∧ L = M := by
  by_cases c : (∀ i, i < n → rbad E i = false) ∧ n ≤ 8 ∧ (cellsE E n).length ≤ 400
  · obtain ⟨h1, h2⟩ := h.1 c
    obtain ⟨k1, k2⟩ := k.1 c
    exact ⟨h1.trans k1.symm, h2.trans k2.symm⟩
  · obtain ⟨h1, h2⟩ := h.2 c
    obtain ⟨k1, k2⟩ := k.2 c
    exact ⟨h1.trans k1.symm, h2.trans k2.symm⟩
theorem CellsD.len {E : Nat → Nat → Int} {n : Nat} {L : List Cv} {a : Bool} (h : CellsD E n L a) : L.length ≤ 400 := by
  by_cases c : (∀ i, i < n → rbad E i = false) ∧ n ≤ 8 ∧ (cellsE E n).length ≤ 400
  · rw [(h.1 c).2]; simpa using c.2.2
  · rw [(h.2 c).2]; simp
def rowsE (L : List Cv) (i j : Nat) : Int := cvF (L.getD i ⟨0, 0, 0, 0, 0, 0, 0⟩) j
theorem tab_of_cv {w : World} {base : Nat} {v : Value} {L : List Cv} (h : w.ownsRow base 30 7 v L.length (cvL L)) : ∃ a c, v = .slice a L.length c ∧ L.length ≤ c ∧ c ≤ maxLen ∧ Tab w a L.length 7 (rowsE L) := by
  have hcells := fun g hg => World.ownsRow.cells h (g := g) hg
  obtain ⟨h1, h2⟩ := h
  rcases h2 with ⟨rfl, e2⟩ | ⟨g, cap, cur, rfl, e2, e3, e4, e5, e6, e7⟩
  · exact ⟨none, 0, by rw [e2], by omega, Nat.zero_le _, .inl e2⟩
  · refine ⟨_, cap, rfl, e4, e5, .inr ⟨g, 0, rfl, (Array.getElem?_eq_some_iff.1 e3).1, fun i hi j hj => ?_⟩⟩
    have := hcells g rfl (i * 7 + j) _ (cvL_get L i (L.getD i ⟨0, 0, 0, 0, 0, 0, 0⟩) (by rw [List.getD_eq_getElem?_getD, List.getElem?_eq_getElem hi]; rfl) j hj)
    rw [add_off] at this
    rw [Nat.zero_add]
    exact this
set_option maxHeartbeats 1000000 in
set_option maxRecDepth 100000 in
theorem cellsS_any (a : Option Addr) (n c : Nat) (E : Nat → Nat → Int) (w : World) (hT : Tab w a n 8 E) (hl : n ≤ 1048576) :
    Calls Try.prog 13 #[.slice a n c] w fun e w' => ∃ (v : Value) (L : List Cv) (ok : Bool), e = .returned (.tuple #[v, .bool ok]) ∧ CellsD E n L ok ∧ w'.ownsRow w.heap.size 30 7 v L.length (cvL L) ∧ Below w.heap.size w w' := by
  have HT := hid_in hT
  clear hT
  go_enter Try.func13, Try.ntmps13
  go_wp2_with fail
  refine (rulesOkS a n c E _ HT.out hl).mono ?_
  rintro e w1 ⟨u, rfl, A1, hb1⟩
  have A := hid_in A1; have T1 := hid_in (HT.out.later hb1); have Z1 := hid_in hb1
  clear A1 hb1
  cases u
  · go_wp2_with fail
    go_returns
    have hn : ¬ ((∀ i, i < n → rbad E i = false) ∧ n ≤ 8 ∧ (cellsE E n).length ≤ 400) := fun h => by have := A.out.2 ⟨h.1, h.2.1⟩; cases this
    exact ⟨_, [], false, rfl, ⟨fun h => absurd h hn, fun _ => ⟨rfl, rfl⟩⟩, World.ownsRow_lit (base := w.heap.size) (e := 30) (size := 7) w1 #[] 0 Z1.out.size (Nat.zero_le _) rfl, below_later Z1.out (below_box _ _)⟩
  · have HB := hid_in (A.out.1 rfl)
    go_wp2_with fail
    refine (l5Cells_any a n c E _ T1.out HB.out.2 HB.out.1).mono ?_
    rintro e w2 ⟨g, cap, rfl, o2, hb2⟩
    have Z2 := hid_in (below_later Z1.out hb2)
    have O2 := hid_in (show w2.ownsRow w.heap.size 30 7 (.slice (some ⟨g, 0, none⟩) (cellsE E n).length cap) (cellsE E n).length (cvL (cellsE E n).reverse) from by
      obtain ⟨h1, h2⟩ := o2
      refine ⟨h1, ?_⟩
      rcases h2 with h2 | ⟨g', cap', cur, e1, e2, e3⟩
      · exact .inl h2
      · exact .inr ⟨g', cap', cur, e1, by have := Z1.out.size; omega, e3⟩)
    clear o2 hb2
    have CE : Hid (cellsE E n = cellsE E n) := rfl
    by_cases hc : (cellsE E n).length ≤ 400
    · have hc' : decide ((400 : Int) < ((cellsE E n).length : Int)) = false := by simp; omega
      have HD : Hid (CellsD E n (cellsE E n).reverse true) := by show CellsD _ _ _ _; exact ⟨fun _ => ⟨rfl, rfl⟩, fun h => absurd ⟨HB.out.1, HB.out.2, hc⟩ h⟩
      have HL : Hid ((cellsE E n).reverse.length = (cellsE E n).length) := by show _ = _; simp
      clear hc
      generalize cellsE E n = C at *
      go_wp2_with fail
      go_returns
      exact ⟨_, _, true, rfl, HD.out, by rw [HL.out]; exact O2.out, Z2.out⟩
    · have hc' : (400 : Int) < ((cellsE E n).length : Int) := by omega
      have HD : Hid (CellsD E n [] false) := by show CellsD _ _ _ _; exact ⟨fun h => absurd h.2.2 hc, fun _ => ⟨rfl, rfl⟩⟩
      clear hc
      generalize (cellsE E n).length = C at *
      go_wp2_with fail
      go_returns
      exact ⟨_, [], false, rfl, HD.out, World.ownsRow_lit (base := w.heap.size) (e := 30) (size := 7) w2 #[] 0 Z2.out.size (Nat.zero_le _) rfl, below_later Z2.out (below_box _ _)⟩
end Go.Proofs.Ytdljoopioglkiaa
