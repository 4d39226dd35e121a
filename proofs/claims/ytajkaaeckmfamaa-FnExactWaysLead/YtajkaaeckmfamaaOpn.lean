/- What is proved: a struct made of numbers alone, and a slice of such, handed in as data, are just numbers in cells; how a loop reads them. The conditions stand at the theorems. -/
import Derived.Test.YtajkaaeckmfamaaLat
import Derived.WalkKit
import Derived.ProofKit
import Derived.Lib.SmallJoins
import Derived.Lib.SliceRun
import Derived.Deep.Slices
namespace Go.OpnT
open Go.ChangeShapes Go.WideShapes Go.ChangeAt Go.RowKit Go.Joins Go.LatT
set_option linter.unusedVariables false
/-- A type of which every cell is a number of 64 bits. -/
def intOnly (P : Program) : Nat → TypeId → Bool
  | 0, _ => false
  | n + 1, t => match P.underlying t with
    | some (.int .i64) => P.cellsOf t == 1
    | some (.struct fs) => fs.all (fun f => intOnly P n f.type) && (List.range (P.cellsOf t)).all (fun j => fs.any fun f => decide (f.offset ≤ j) && decide (j < f.offset + P.cellsOf f.type))
    | _ => false
section
variable {H : Type} {enc : TypeId × Value → H} {P : Program} {w : World} {base : Nat} {spare : Nat → Bool} {held : Bool}
theorem intOnly_cells : ∀ (n : Nat) (t : TypeId) (fuel : Nat) (cs : List Value) (x : DataW H × List MemPlace), intOnly P n t = true → DataW.trod enc P w base spare held fuel t cs = some x →
    cs.length = P.cellsOf t ∧ ∀ j, j < cs.length → ∃ z, cs[j]? = some (.int .i64 z) ∧ (Lit.int .i64 z).wf = true
  | 0, t, fuel, cs, x, h, _ => by simp [intOnly] at h
  | n + 1, t, fuel, cs, x, h, ht => by
    unfold intOnly at h
    split at h
    · rename_i hu
      obtain ⟨z, rfl, _, hz⟩ := DataW.trod_int hu ht
      have h1 : P.cellsOf t = 1 := by simpa using h
      refine ⟨by simp [h1], fun j hj => ?_⟩
      have : j = 0 := by simpa using hj
      subst this
      exact ⟨z, rfl, hz⟩
    · rename_i fs hu
      obtain ⟨xs, m, _, _, hl, hlen, hf⟩ := DataW.trod_struct hu ht
      simp only [Bool.and_eq_true] at h
      obtain ⟨h1, h2⟩ := h
      refine ⟨hl, fun j hj => ?_⟩
      have h3 := List.all_eq_true.1 h2 j (List.mem_range.2 (by omega))
      obtain ⟨f, hfm, hr⟩ := Array.any_eq_true'.1 h3
      simp only [Bool.and_eq_true, decide_eq_true_eq] at hr
      obtain ⟨i, hi, rfl⟩ := Array.mem_iff_getElem.1 hfm
      have h4 := hf i fs[i] (by simp [hi])
      have hxi : i < xs.length := by omega
      rw [List.getElem?_eq_getElem hxi] at h4
      have h5 : intOnly P n fs[i].type = true := by
        have := Array.all_eq_true_iff_forall_mem.1 h1 fs[i] (Array.getElem_mem hi)
        exact this
      obtain ⟨h6, h7⟩ := intOnly_cells n _ _ _ _ h5 h4
      have h8 : j - fs[i].offset < ((cs.drop fs[i].offset).take (P.cellsOf fs[i].type)).length := by rw [h6]; omega
      obtain ⟨z, hz, hw⟩ := h7 (j - fs[i].offset) h8
      refine ⟨z, ?_, hw⟩
      rw [List.getElem?_take_of_lt (by omega), List.getElem?_drop, show fs[i].offset + (j - fs[i].offset) = j by omega] at hz
      exact hz
    · simp at h
/-- The cells as one function. -/
theorem ints_fn {cs : List Value} {k : Nat} (hl : cs.length = k) (h : ∀ j, j < cs.length → ∃ z, cs[j]? = some (.int .i64 z) ∧ (Lit.int .i64 z).wf = true) :
    ∃ E : Nat → Int, cs = (List.range k).map (fun j => Value.int .i64 (E j)) ∧ ∀ j, (Lit.int .i64 (E j)).wf = true := by
  obtain ⟨E, hE⟩ := Deep.choose_lt (α := Int) (p := fun j z => cs[j]? = some (.int .i64 z) ∧ (Lit.int .i64 z).wf = true) h
  refine ⟨fun j => if j < cs.length then E j else 0, ?_, fun j => ?_⟩
  · apply List.ext_getElem?
    intro j
    by_cases hj : j < cs.length
    · rw [(hE j hj).1]
      simp [← hl, hj]
    · simp [← hl, hj]
  · by_cases hj : j < cs.length
    · simp only [hj, if_true]; exact (hE j hj).2
    · simp only [hj, if_false]; decide
theorem open_ints_struct {r : Reach} {b0 : Nat} {t : TypeId} {fs : Array Field} {v : Value} {d : DataW H} {p : List MemPlace} (n k : Nat) (hs : P.underlying t = some (.struct fs)) (hi : intOnly P n t = true) (hC : P.cellsOf t = k)
    (hv : Value.okWide P w r b0 t v) (h : DataW.Trod enc P w base spare held t v d p) :
    ∃ E : Nat → Int, v = .agg ((List.range k).map fun j => Value.int .i64 (E j)).toArray ∧ ∀ j, (Lit.int .i64 (E j)).wf = true := by
  obtain ⟨cs, rfl, hsz⟩ := okWide_struct hs hv
  obtain ⟨fuel, hf⟩ := h
  obtain ⟨h1, h2⟩ := intOnly_cells n t fuel _ _ hi hf
  obtain ⟨E, hE, hw⟩ := ints_fn (h1.trans hC) h2
  refine ⟨E, ?_, hw⟩
  have : cs.toList = (List.range k).map fun j => Value.int .i64 (E j) := by simpa [Value.cells] using hE
  rw [← this]
end
/-- A slice of structs of k numbers: empty, or a table of cells. -/
def Tab (w : World) (a : Option Addr) (len k : Nat) (E : Nat → Nat → Int) : Prop :=
  len = 0 ∨ ∃ bb off, a = some ⟨bb, off, none⟩ ∧ bb < w.heap.size ∧ ∀ i, i < len → ∀ j, j < k → w.cell? ⟨bb, off + i * k + j, none⟩ = some (.int .i64 (E i j))
theorem Tab.later {w w' : World} {a : Option Addr} {len k : Nat} {E : Nat → Nat → Int} (h : Tab w a len k E) (hb : Below w.heap.size w w') : Tab w' a len k E := by
  rcases h with h | ⟨bb, off, e, hlt, hc⟩
  · exact .inl h
  · exact .inr ⟨bb, off, e, Nat.lt_of_lt_of_le hlt hb.size, fun i hi j hj => by rw [(bcell hb).1 _ _ hlt]; exact hc i hi j hj⟩
/-- What the kit tells of such a slice. -/
theorem open_tab {H : Type} {enc : TypeId × Value → H} {P : Program} {w : World} {base : Nat} {spare : Nat → Bool} {held : Bool} {t e : TypeId} {fuel : Nat} {a : Option Addr} {len cap : Nat} {x : DataW H × List MemPlace} (n k : Nat)
    (ht : P.underlying t = some (.slice e)) (hi : intOnly P n e = true) (hC : P.cellsOf e = k) (hk : 0 < k) (h : DataW.trod enc P w base spare held fuel t [.slice a len cap] = some x) :
    ∃ E : Nat → Nat → Int, Tab w a len k E ∧ (∀ i j, (Lit.int .i64 (E i j)).wf = true) ∧ len ≤ cap ∧ cap ≤ maxLen := by
  rcases Deep.open_slice ht h with ⟨h0, _⟩ | ⟨b, l, c, m, f, D, Pl, h0, hb, hl, hm, hmm, _, hx⟩
  · simp at h0
    obtain ⟨rfl, rfl, rfl⟩ := h0
    exact ⟨fun _ _ => 0, .inl rfl, fun _ _ => (by decide : (Lit.int .i64 0).wf = true), Nat.le_refl _, Nat.zero_le _⟩
  · simp at h0
    obtain ⟨rfl, rfl, rfl⟩ := h0
    have hlm : len ≤ m := by rw [hmm]; split <;> omega
    have hx2 : ∀ i, i < len → ∃ E : Nat → Int, (∀ j, j < k → w.cell? (b.add (i * k + j)) = some (.int .i64 (E j))) ∧ ∀ j, (Lit.int .i64 (E j)).wf = true := by
      intro i hi'
      obtain ⟨cs, h1, h2⟩ := hx i (by omega)
      obtain ⟨h3, h4⟩ := intOnly_cells n e f cs _ hi h2
      obtain ⟨E, hE, hw⟩ := ints_fn (h3.trans hC) h4
      obtain ⟨_, h5, h6⟩ := World.cells?_some h1
      refine ⟨E, fun j hj => ?_, hw⟩
      rw [hC] at h6
      have := h6 j hj
      rw [Deep.add_add, hE] at this
      rw [this]
      simp [hj]
    by_cases h0 : len = 0
    · exact ⟨fun _ _ => 0, .inl h0, fun _ _ => (by decide : (Lit.int .i64 0).wf = true), hl, hm⟩
    · have hx3 : ∀ i, i < len → ∃ E : Nat → Int, (∀ j, j < k → w.cell? (b.add (i * k + j)) = some (.int .i64 (E j))) ∧ ∀ j, (Lit.int .i64 (E j)).wf = true := hx2
      obtain ⟨F, hF⟩ := Deep.choose_lt (α := Nat → Int) hx3
      obtain ⟨bb, off, spot⟩ := b
      have hc := (hF 0 (by omega)).1 0 hk
      have hspot : spot = none := by simpa [Addr.add] using World.cell?_spot hc
      subst hspot
      have hcell : ∀ i, i < len → ∀ j, j < k → w.cell? ⟨bb, off + i * k + j, none⟩ = some (.int .i64 (F i j)) := by
        intro i hi' j hj
        have := (hF i hi').1 j hj
        by_cases hz : i * k + j = 0
        · rw [hz] at this
          rw [show off + i * k + j = off by omega]
          simpa [Addr.add] using this
        · rw [show off + i * k + j = off + (i * k + j) by omega]
          unfold Addr.add at this
          rw [if_neg hz] at this
          exact this
      have hlt : bb < w.heap.size := by
        have := hcell 0 (by omega) 0 hk
        unfold World.cell? at this
        rcases Nat.lt_or_ge bb w.heap.size with h' | h'
        · exact h'
        · simp [Array.getElem?_eq_none h'] at this
      refine ⟨fun i => if i < len then F i else fun _ => 0, .inr ⟨bb, off, rfl, hlt, fun i hi' j hj => ?_⟩, fun i j => ?_, hl, hm⟩
      · simp only [hi', if_true]; exact hcell i hi' j hj
      · by_cases hi' : i < len
        · simp only [hi', if_true]; exact (hF i hi').2 j
        · simp only [hi', if_false]; decide
end Go.OpnT
