/- What is proved: the contracts of WinE, WinF, ApdA, WinG, WinH, one behind the other. The conditions stand at each theorem. -/
import Derived.Test.YtefmmopkikpnhaaGreatDoorUWin
import Derived.Deep.RegionHeld3
import Derived.Test.YtefmmopkikpnhaaGreatDoorUBas
import Derived.Laws.AppendOwnNone
import Derived.OwnWalk
namespace Go.Proofs.YtefmmopkikpnhaaGreatDoor
open Go.RowKit Go.LatT Go.BlockM Go.OpnT Go.WinMath
set_option linter.unusedVariables false
set_option linter.unusedSimpArgs false
/-- A window lies in a block. -/
structure WBox (w : World) (g : Nat) (t : Int) (v : Value) : Prop where
  lt : g < w.heap.size
  c0 : w.cell? ⟨g, 0, none⟩ = some (.int .i64 t)
  c1 : w.cell? ⟨g, 1, none⟩ = some v
theorem WBox.later {w w' : World} {g : Nat} {t : Int} {v : Value} (h : WBox w g t v) (hb : Below w.heap.size w w') : WBox w' g t v :=
  ⟨Nat.lt_of_lt_of_le h.lt hb.size, by rw [(bcell hb).1 _ _ h.lt]; exact h.c0, by rw [(bcell hb).1 _ _ h.lt]; exact h.c1⟩
theorem WBox.new (w : World) (t : Int) (v : Value) (ty : TypeId) : WBox (w.alloc (.cells #[.int .i64 t, v] ty)) w.heap.size t v := ⟨by simp, by go_simp, by go_simp⟩
end Go.Proofs.YtefmmopkikpnhaaGreatDoor

namespace Go.Proofs.YtefmmopkikpnhaaGreatDoor
open Go.RowKit Go.LatT Go.BlockM Go.OpnT Go.WinMath
set_option linter.unusedVariables false
set_option linter.unusedSimpArgs false
/-- Numbers as cells. -/
def i64s (l : List Int) : List Value := l.map fun z => .int .i64 z
theorem i64s_len (a : List Int) : (i64s a).length = a.length := by simp [i64s]
/-- A slice of numbers is a list. -/
def IL (w : World) (v : Value) (L : List Int) : Prop := ∃ a cap, v = .slice a L.length cap ∧ L.length ≤ cap ∧ ((a = none ∧ cap = 0) ∨ ∃ bb off, a = some ⟨bb, off, none⟩ ∧ bb < w.heap.size ∧ ∀ i, i < L.length → w.cell? ⟨bb, off + i, none⟩ = some (.int .i64 (L.getD i 0)))
theorem IL.later {w w' : World} {v : Value} {L : List Int} (h : IL w v L) (hb : Below w.heap.size w w') : IL w' v L := by
  obtain ⟨a, cap, e, hc, h⟩ := h
  refine ⟨a, cap, e, hc, ?_⟩
  rcases h with h | ⟨bb, off, e, hlt, hc⟩
  · exact .inl h
  · exact .inr ⟨bb, off, e, Nat.lt_of_lt_of_le hlt hb.size, fun i hi => by rw [(bcell hb).1 _ _ hlt]; exact hc i hi⟩
theorem IL.of_owns {w : World} {base : Nat} {v : Value} {n : Nat} {L : List Int} (h : w.ownsRow base 3 1 v n (i64s L)) (hn : n = L.length) : IL w v L := by
  subst hn
  have hcells := fun g hg => World.ownsRow.cells h (g := g) hg
  obtain ⟨h1, h2⟩ := h
  rcases h2 with ⟨rfl, h0⟩ | ⟨g, cap, cur, rfl, e2, e3, e4, e5, e6, e7⟩
  · refine ⟨none, 0, by rw [h0], by omega, .inl ⟨rfl, rfl⟩⟩
  · refine ⟨_, cap, rfl, e4, .inr ⟨g, 0, rfl, (Array.getElem?_eq_some_iff.1 e3).1, fun i hi => ?_⟩⟩
    have := hcells g rfl i (.int .i64 (L.getD i 0)) (by simp [i64s, hi])
    unfold Addr.add at this
    by_cases hz : i = 0
    · subst hz; simpa using this
    · rw [if_neg hz] at this; exact this
theorem one_i64s (l : List Int) : ∀ u ∈ i64s l, u.oneCell' = true := by
  intro u hu
  obtain ⟨z, _, rfl⟩ := List.mem_map.1 hu
  rfl
/-- The cells of a list from a place on. -/
theorem IL.news {w : World} {bb off : Nat} {L : List Int} (h : ∀ i, i < L.length → w.cell? ⟨bb, off + i, none⟩ = some (.int .i64 (L.getD i 0))) : ∀ j u, (i64s L)[j]? = some u → w.cell? ((⟨bb, off, none⟩ : Addr).add j) = some u := by
  intro j u hu
  have hj : j < L.length := by have := (List.getElem?_eq_some_iff.1 hu).1; simpa [i64s] using this
  have hu2 : u = .int .i64 (L.getD j 0) := by
    simp [i64s, hj] at hu
    rw [← hu]
    simp [hj]
  rw [hu2, ← h j hj]
  unfold Addr.add
  by_cases hz : j = 0
  · subst hz; simp
  · rw [if_neg hz]
theorem owns_form {w : World} {base n size : Nat} {e : TypeId} {v : Value} {xs : List Value} (h : w.ownsRow base e size v n xs) : ∃ a c, v = .slice a n c := by
  obtain ⟨_, h2⟩ := h
  rcases h2 with ⟨rfl, rfl⟩ | ⟨g, cap, cur, rfl, _⟩
  · exact ⟨_, _, rfl⟩
  · exact ⟨_, _, rfl⟩
theorem bcellB {B : Nat} {w w' : World} (hb : Below B w w') : (∀ b o, b < B → w'.cell? ⟨b, o, none⟩ = w.cell? ⟨b, o, none⟩) ∧ ∀ b o, b < B → w'.frozen? ⟨b, o, none⟩ = w.frozen? ⟨b, o, none⟩ :=
  ⟨fun b o h => by unfold World.cell?; rw [hb.block b h], fun b o h => by unfold World.frozen?; rw [hb.block b h]⟩
theorem owns_set {w : World} {base n size b o : Nat} {e : TypeId} {v u : Value} {xs : List Value} (h : w.ownsRow base e size v n xs) (hb : b < base) : (w.setCell ⟨b, o, none⟩ u).ownsRow base e size v n xs := by
  obtain ⟨h1, h2⟩ := h
  refine ⟨h1, ?_⟩
  rcases h2 with h2 | ⟨g, cap, cur, e1, e2, e3, e4, e5, e6, e7⟩
  · exact .inl h2
  · exact .inr ⟨g, cap, cur, e1, e2, by rw [Below.heap_setCell _ _ _ _ (show g ≠ b by omega)]; exact e3, e4, e5, e6, e7⟩
theorem ownsW_base {w : World} {base base' n size : Nat} {e : TypeId} {v : Value} {xs : List Value} (h : w.ownsRow base e size v n xs) (hb : base' ≤ base) : w.ownsRow base' e size v n xs := by
  obtain ⟨h1, h2⟩ := h
  refine ⟨h1, ?_⟩
  rcases h2 with h2 | ⟨g, cap, cur, e1, e2, e3⟩
  · exact .inl h2
  · exact .inr ⟨g, cap, cur, e1, by omega, e3⟩
theorem heapSize2 (w : World) (o o' : Obj) : ((w.alloc o).alloc o').heap.size = w.heap.size + 1 + 1 := by simp
set_option maxHeartbeats 2000000 in
set_option maxRecDepth 100000 in
theorem l7Copy_any (t : Int) (v : Value) (L : List Int) (w : World) (hL : IL w v L) (hl : L.length ≤ 100) :
    Calls Tryz.prog 164 #[.agg #[.int .i64 t, v]] w fun e w' => ∃ v', e = .returned (.agg #[.int .i64 t, v']) ∧ w'.ownsRow w.heap.size 3 1 v' L.length (i64s L) ∧ Below w.heap.size w w' := by
  obtain ⟨i0, hi, hzz⟩ := Option.map_eq_some_iff.1 infoInt
  simp only [Prod.mk.injEq] at hzz
  have HI := hid_in hi; have HZ := hid_in hzz
  clear hi hzz
  obtain ⟨a, cap, rfl, hcap, hL⟩ := hL
  rcases hL with ⟨rfl, rfl⟩ | ⟨bb, off, rfl, hlt, hc⟩
  · obtain rfl : L = [] := List.length_eq_zero_iff.1 (by omega)
    go_enter Tryz.func164, Tryz.ntmps164
    go_wp2_with fail
    go_region_held3 (fun w' => w'.cell? ⟨w.heap.size, 0, none⟩ = some (.int .i64 t) ∧ w'.cell? ⟨w.heap.size, 1, none⟩ = some (.slice none 0 0)) (go_keep) (fail)
    all_goals
      go_wp2_with fail
      exact bodyPost_ret (v := .agg #[.int .i64 t, .slice (some ⟨w.heap.size + 1 + 1, 0, none⟩) 0 0]) (by simp [results, Tryz.results164, go_sem]) rfl
        ⟨_, rfl, by
          have := World.ownsRow_lit (base := w.heap.size) (e := 3) (size := 1) ((w.alloc (Obj.cells #[.int .i64 t, .slice none 0 0] 43)).alloc (Obj.cells #[.int .i64 t, .slice (some ⟨w.heap.size + 1 + 1, 0, none⟩) 0 0] 43)) #[] 0 (by simp; omega) (Nat.zero_le _) rfl
          simp only [heapSize2] at this
          exact this, by go_grown⟩
  · have hm1 : ¬ bb = w.heap.size := by omega
    have hm2 : ¬ bb = w.heap.size + 1 := by omega
    have HO : Hid ((((w.alloc (Obj.cells #[.int .i64 t, .slice (some ⟨bb, off, none⟩) L.length cap] 43)).alloc (Obj.cells #[.int .i64 0, .slice none 0 0] 43)).alloc (Obj.cells #[] 3)).ownsRow (w.heap.size + 1 + 1) 3 1 (.slice (some ⟨w.heap.size + 1 + 1, 0, none⟩) 0 0) 0 (i64s [])) := by
      show World.ownsRow _ _ _ _ _ _ _
      have := World.ownsRow_lit (base := w.heap.size + 1 + 1) (e := 3) (size := 1) ((w.alloc (Obj.cells #[.int .i64 t, .slice (some ⟨bb, off, none⟩) L.length cap] 43)).alloc (Obj.cells #[.int .i64 0, .slice none 0 0] 43)) #[] 0 (by simp) (Nat.zero_le _) rfl
      simp only [heapSize2] at this
      exact this
    have HNw : Hid (∀ j u, (i64s L)[j]? = some u → (((w.alloc (Obj.cells #[.int .i64 t, .slice (some ⟨bb, off, none⟩) L.length cap] 43)).alloc (Obj.cells #[.int .i64 0, .slice none 0 0] 43)).alloc (Obj.cells #[] 3)).cell? ((⟨bb, off, none⟩ : Addr).add j) = some u) := by
      show ∀ j u, _
      refine IL.news fun i hi => ?_
      rw [← hc i hi]
      have hbb : Below w.heap.size w (((w.alloc (Obj.cells #[.int .i64 t, .slice (some ⟨bb, off, none⟩) L.length cap] 43)).alloc (Obj.cells #[.int .i64 0, .slice none 0 0] 43)).alloc (Obj.cells #[] 3)) := by go_grown
      exact (bcell hbb).1 _ _ hlt
    have GR : Hid (∀ w3, Below (w.heap.size + 1 + 1) (((w.alloc (Obj.cells #[.int .i64 t, .slice (some ⟨bb, off, none⟩) L.length cap] 43)).alloc (Obj.cells #[.int .i64 0, .slice none 0 0] 43)).alloc (Obj.cells #[] 3)).drew w3 → Below (w.heap.size + 1 + 1) ((w.alloc (Obj.cells #[.int .i64 t, .slice (some ⟨bb, off, none⟩) L.length cap] 43)).alloc (Obj.cells #[.int .i64 0, .slice none 0 0] 43)) w3) := by
      show ∀ w3, _
      intro w3 h1
      have h2 : Below (w.heap.size + 1 + 1) ((w.alloc (Obj.cells #[.int .i64 t, .slice (some ⟨bb, off, none⟩) L.length cap] 43)).alloc (Obj.cells #[.int .i64 0, .slice none 0 0] 43)) (((w.alloc (Obj.cells #[.int .i64 t, .slice (some ⟨bb, off, none⟩) L.length cap] 43)).alloc (Obj.cells #[.int .i64 0, .slice none 0 0] 43)).alloc (Obj.cells #[] 3)) := by
        have := below_box ((w.alloc (Obj.cells #[.int .i64 t, .slice (some ⟨bb, off, none⟩) L.length cap] 43)).alloc (Obj.cells #[.int .i64 0, .slice none 0 0] 43)) (Obj.cells #[] 3)
        simp only [heapSize2] at this
        exact this
      exact h2.drew.trans h1
    have k0 : ((w.alloc (Obj.cells #[.int .i64 t, .slice (some ⟨bb, off, none⟩) L.length cap] 43)).alloc (Obj.cells #[.int .i64 0, .slice none 0 0] 43)).cell? ⟨w.heap.size, 0, none⟩ = some (.int .i64 t) := by go_simp
    have k1 : ((w.alloc (Obj.cells #[.int .i64 t, .slice (some ⟨bb, off, none⟩) L.length cap] 43)).alloc (Obj.cells #[.int .i64 0, .slice none 0 0] 43)).cell? ⟨w.heap.size, 1, none⟩ = some (.slice (some ⟨bb, off, none⟩) L.length cap) := by go_simp
    have k2 : ((w.alloc (Obj.cells #[.int .i64 t, .slice (some ⟨bb, off, none⟩) L.length cap] 43)).alloc (Obj.cells #[.int .i64 0, .slice none 0 0] 43)).cell? ⟨w.heap.size + 1, 0, none⟩ = some (.int .i64 0) := by go_simp
    have k3 : ((w.alloc (Obj.cells #[.int .i64 t, .slice (some ⟨bb, off, none⟩) L.length cap] 43)).alloc (Obj.cells #[.int .i64 0, .slice none 0 0] 43)).cell? ⟨w.heap.size + 1, 1, none⟩ = some (.slice none 0 0) := by go_simp
    have k4 : ((w.alloc (Obj.cells #[.int .i64 t, .slice (some ⟨bb, off, none⟩) L.length cap] 43)).alloc (Obj.cells #[.int .i64 0, .slice none 0 0] 43)).frozen? ⟨w.heap.size + 1, 0, none⟩ = false := by go_simp
    have k5 : ((w.alloc (Obj.cells #[.int .i64 t, .slice (some ⟨bb, off, none⟩) L.length cap] 43)).alloc (Obj.cells #[.int .i64 0, .slice none 0 0] 43)).frozen? ⟨w.heap.size + 1, 1, none⟩ = false := by go_simp
    have BW : Hid (Below w.heap.size w ((w.alloc (Obj.cells #[.int .i64 t, .slice (some ⟨bb, off, none⟩) L.length cap] 43)).alloc (Obj.cells #[.int .i64 0, .slice none 0 0] 43))) := by show Below _ _ _; go_grown
    clear hc
    go_enter Tryz.func164, Tryz.ntmps164
    go_wp2_with fail
    go_region_held3 (fun w' => w'.cell? ⟨w.heap.size, 0, none⟩ = some (.int .i64 t) ∧ w'.cell? ⟨w.heap.size, 1, none⟩ = some (.slice (some ⟨bb, off, none⟩) L.length cap)) (go_keep) (first | (refine wp_append_own _ (.tmp 5) (.tmp 7) 37 rfl (w.heap.size + 1 + 1) 3 i0 (.int .i64 0) 1 8 Tryz.underlying37 HI.out HZ.out.1 HZ.out.2.1 HZ.out.2.2 rfl (by decide) _ 0 (i64s []) rfl (by exact HO.out) ⟨bb, off, none⟩ L.length cap (i64s L) rfl (by rw [i64s_len, Nat.mul_one]) (by exact HNw.out) (one_i64s L) (by unfold maxLen; omega) (by omega) (by simp) ?_; intro v' w3 hown3 hg3 hn3; have hb3 : Below (w.heap.size + 1 + 1) ((w.alloc (Obj.cells #[.int .i64 t, .slice (some ⟨bb, off, none⟩) L.length cap] 43)).alloc (Obj.cells #[.int .i64 0, .slice none 0 0] 43)) w3 := GR.out w3 (grown_below hg3 (by simp) (fun k hk => by have hk2 : some (w.heap.size + 1 + 1) = some k := hk; have := Option.some.inj hk2; omega)); obtain ⟨a', c', ev'⟩ := owns_form hown3; subst ev'; have u0 : w3.cell? ⟨w.heap.size, 0, none⟩ = some (.int .i64 t) := ((bcellB hb3).1 _ _ (by omega)).trans k0; have u1 : w3.cell? ⟨w.heap.size, 1, none⟩ = some (.slice (some ⟨bb, off, none⟩) L.length cap) := ((bcellB hb3).1 _ _ (by omega)).trans k1; have u2 : w3.cell? ⟨w.heap.size + 1, 0, none⟩ = some (.int .i64 0) := ((bcellB hb3).1 _ _ (by omega)).trans k2; have u3 : w3.cell? ⟨w.heap.size + 1, 1, none⟩ = some (.slice none 0 0) := ((bcellB hb3).1 _ _ (by omega)).trans k3; have u4 : w3.frozen? ⟨w.heap.size + 1, 0, none⟩ = false := ((bcellB hb3).2 _ _ (by omega)).trans k4; have u5 : w3.frozen? ⟨w.heap.size + 1, 1, none⟩ = false := ((bcellB hb3).2 _ _ (by omega)).trans k5; have B3 := hid_in hb3; have O3 := hid_in hown3; clear hb3 hg3 hown3 hn3))
    all_goals
      go_wp2_with fail
      exact bodyPost_ret (v := .agg #[.int .i64 t, .slice a' L.length c']) (by simp [results, Tryz.results164, go_sem, u2, u3]) rfl
        ⟨_, rfl, by
          have := O3.out
          rw [Nat.zero_add] at this
          exact ownsW_base (owns_set (owns_set this (by omega)) (by omega)) (by omega), ((BW.out.trans (B3.out.mono (by omega))).setCell (by simp) _).setCell (by simp) _⟩
end Go.Proofs.YtefmmopkikpnhaaGreatDoor

namespace Go.Proofs.YtefmmopkikpnhaaGreatDoor
open Go.RowKit Go.LatT Go.BlockM Go.OpnT Go.WinMath
set_option linter.unusedVariables false
set_option linter.unusedSimpArgs false
/-- A list that lies in a new block. -/
theorem IL.new (w : World) (L : List Int) (t : TypeId) : IL (w.alloc (.cells (i64s L).toArray t)) (.slice (some ⟨w.heap.size, 0, none⟩) L.length L.length) L := by
  refine ⟨_, _, rfl, Nat.le_refl _, .inr ⟨_, 0, rfl, by simp, fun i hi => ?_⟩⟩
  have := cells_new w (i64s L) t i (.int .i64 (L.getD i 0)) (by simp [i64s, hi])
  unfold Addr.add at this
  by_cases hz : i = 0
  · subst hz; simpa using this
  · rw [if_neg hz] at this; exact this
theorem IL.one (w : World) (x : Int) (t : TypeId) : IL (w.alloc (.cells #[.int .i64 x] t)) (.slice (some ⟨w.heap.size, 0, none⟩) 1 1) [x] := IL.new w [x] t
theorem owns_len {w : World} {base n : Nat} {v : Value} {L : List Int} (h : w.ownsRow base 3 1 v n (i64s L)) : n = L.length := by
  have := h.1
  rw [i64s_len] at this
  omega
theorem owns_some {w : World} {base n : Nat} {v : Value} {L : List Int} (h : w.ownsRow base 3 1 v n (i64s L)) (hv : v ≠ .slice none 0 0) : ∃ g cap, v = .slice (some ⟨g, 0, none⟩) L.length cap ∧ base ≤ g ∧ g < w.heap.size ∧ L.length ≤ cap ∧ cap ≤ maxLen ∧ ∀ i, i < L.length → w.cell? ⟨g, 0 + i, none⟩ = some (.int .i64 (L.getD i 0)) := by
  have hn := owns_len h
  subst hn
  have hI := IL.of_owns h rfl
  obtain ⟨h1, h2⟩ := h
  rcases h2 with ⟨rfl, _⟩ | ⟨g, cap, cur, rfl, e2, e3, e4, e5, e6, e7⟩
  · exact absurd rfl hv
  · refine ⟨g, cap, rfl, e2, (Array.getElem?_eq_some_iff.1 e3).1, e4, e5, ?_⟩
    obtain ⟨a, c, e, _, hI⟩ := hI
    simp only [Value.slice.injEq] at e
    obtain ⟨rfl, _, rfl⟩ := e
    rcases hI with ⟨h, _⟩ | ⟨bb, off, e, _, hc⟩
    · cases h
    · simp only [Option.some.injEq, Addr.mk.injEq] at e
      obtain ⟨rfl, rfl, _⟩ := e
      exact hc
/-- A cell that is not of the owned row stays. -/
theorem grown_cells {w w' : World} {row : Option Nat} (hg : w.grownBy w' row) (b o : Nat) (hb : b < w.heap.size) (hr : row ≠ some b) : w'.cell? ⟨b, o, none⟩ = w.cell? ⟨b, o, none⟩ ∧ w'.frozen? ⟨b, o, none⟩ = w.frozen? ⟨b, o, none⟩ := by
  have h := (grown_below (B := 0) hg (Nat.zero_le _) (fun _ _ => Nat.zero_le _))
  obtain ⟨_, _, _, _, h5⟩ := hg
  have h6 : w'.heap[b]? = w.heap[b]? := by
    first | exact h5 b hb hr | exact h5 b hb (fun e => hr e.symm) | exact h5 _ hb (Ne.symm hr)
  exact ⟨by unfold World.cell?; rw [h6], by unfold World.frozen?; rw [h6]⟩
end Go.Proofs.YtefmmopkikpnhaaGreatDoor

namespace Go.Proofs.YtefmmopkikpnhaaGreatDoor
open Go.RowKit Go.LatT Go.BlockM Go.OpnT Go.WinMath
set_option linter.unusedVariables false
set_option linter.unusedSimpArgs false
theorem asc_len : ∀ (L : List Int) (lo hi : Int), L.Pairwise (· < ·) → (∀ x, x ∈ L → lo < x ∧ x ≤ hi) → (L.length : Int) ≤ max 0 (hi - lo)
  | [], lo, hi, _, _ => by simp; omega
  | x :: r, lo, hi, h, hm => by
    have h1 := List.pairwise_cons.1 h
    have hx := hm x (by simp)
    have := asc_len r x hi h1.2 (fun y hy => ⟨h1.1 y hy, (hm y (by simp [hy])).2⟩)
    simp only [List.length_cons]
    omega
theorem repW_len {T : Int} {c : Nat} {L : List Int} (h : Rep T c L) : L.length ≤ 16 := by
  have := asc_len L (T - 16) T h.asc (fun x hx => by have := h.mem x hx; omega)
  omega
end Go.Proofs.YtefmmopkikpnhaaGreatDoor

namespace Go.Proofs.YtefmmopkikpnhaaGreatDoor
open Go.RowKit Go.LatT Go.BlockM Go.OpnT Go.WinMath
set_option linter.unusedVariables false
set_option linter.unusedSimpArgs false
/-- What seeing leaves, by lists. -/
def SeeL (T n : Int) (L : List Int) (w : World) (e : Ending) (w' : World) : Prop :=
  ∃ v' m, e = .returned (.tuple #[.agg #[.int .i64 (topL T L n), v'], .int .i64 (codeL T L n)]) ∧ w'.ownsRow w.heap.size 3 1 v' m (i64s (listL T L n)) ∧ Below w.heap.size w w'
theorem SeeL.none {T n k : Int} {L : List Int} {w w' : World} {v' : Value} {m : Nat} (hk : codeL T L n = k) (h0 : k ≠ 0) (ho : w'.ownsRow w.heap.size 3 1 v' m (i64s L)) (hb : Below w.heap.size w w') : SeeL T n L w (.returned (.tuple #[.agg #[.int .i64 T, v'], .int .i64 k])) w' := by
  have e1 : topL T L n = T := by unfold topL; rw [if_neg (by rw [hk]; exact fun h => h0 h.1)]
  have e2 : listL T L n = L := by unfold listL; rw [if_neg (by rw [hk]; exact h0)]
  exact ⟨v', m, by rw [hk, e1], by rw [e2]; exact ho, hb⟩
theorem IL.form {w : World} {v : Value} {L : List Int} (h : IL w v L) : ∃ a cap, v = .slice a L.length cap := by
  obtain ⟨a, cap, e, _⟩ := h
  exact ⟨a, cap, e⟩
end Go.Proofs.YtefmmopkikpnhaaGreatDoor

