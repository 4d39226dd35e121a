/- What is proved: the contracts of WinE, WinF, ApdA, WinG, WinH, one behind the other. The conditions stand at each theorem. -/
import Derived.Test.YtefmmopkikpnhaaGreatDoorGWin
import Derived.Deep.RegionHeld3
import Derived.Test.YtefmmopkikpnhaaGreatDoorGBas
import Derived.Laws.AppendOwnNone
import Derived.OwnWalk
namespace Go.Proofs.YtefmmopkikpnhaaGreatDoor
open Go.RowKit Go.LatT Go.BlockM Go.OpnT Go.WinMath
set_option linter.unusedVariables false
set_option linter.unusedSimpArgs false
/-- A window lies in a block. -/
structure WBox (w : World) (g : Nat) (t : Int) (v : Value) : Prop where
  lt : g < w.heap.size
  c0 : w.cell? ⟨g, 0, none⟩ = some (.int .i64 t)
  c1 : w.cell? ⟨g, 1, none⟩ = some v
theorem WBox.later {w w' : World} {g : Nat} {t : Int} {v : Value} (h : WBox w g t v) (hb : Below w.heap.size w w') : WBox w' g t v :=
  ⟨Nat.lt_of_lt_of_le h.lt hb.size, by rw [(bcell hb).1 _ _ h.lt]; exact h.c0, by rw [(bcell hb).1 _ _ h.lt]; exact h.c1⟩
theorem WBox.new (w : World) (t : Int) (v : Value) (ty : TypeId) : WBox (w.alloc (.cells #[.int .i64 t, v] ty)) w.heap.size t v := ⟨by simp, by go_simp, by go_simp⟩
end Go.Proofs.YtefmmopkikpnhaaGreatDoor

namespace Go.Proofs.YtefmmopkikpnhaaGreatDoor
open Go.RowKit Go.LatT Go.BlockM Go.OpnT Go.WinMath
set_option linter.unusedVariables false
set_option linter.unusedSimpArgs false
/-- Numbers as cells. -/
def i64s (l : List Int) : List Value := l.map fun z => .int .i64 z
theorem i64s_append (a b : List Int) : i64s (a ++ b) = i64s a ++ i64s b := by simp [i64s]
theorem i64s_len (a : List Int) : (i64s a).length = a.length := by simp [i64s]
/-- A slice of numbers is a list. -/
def IL (w : World) (v : Value) (L : List Int) : Prop := ∃ a cap, v = .slice a L.length cap ∧ L.length ≤ cap ∧ ((a = none ∧ cap = 0) ∨ ∃ bb off, a = some ⟨bb, off, none⟩ ∧ bb < w.heap.size ∧ ∀ i, i < L.length → w.cell? ⟨bb, off + i, none⟩ = some (.int .i64 (L.getD i 0)))
theorem IL.later {w w' : World} {v : Value} {L : List Int} (h : IL w v L) (hb : Below w.heap.size w w') : IL w' v L := by
  obtain ⟨a, cap, e, hc, h⟩ := h
  refine ⟨a, cap, e, hc, ?_⟩
  rcases h with h | ⟨bb, off, e, hlt, hc⟩
  · exact .inl h
  · exact .inr ⟨bb, off, e, Nat.lt_of_lt_of_le hlt hb.size, fun i hi => by rw [(bcell hb).1 _ _ hlt]; exact hc i hi⟩
theorem IL.of_owns {w : World} {base : Nat} {v : Value} {n : Nat} {L : List Int} (h : w.ownsRow base 3 1 v n (i64s L)) (hn : n = L.length) : IL w v L := by
  subst hn
  have hcells := fun g hg => World.ownsRow.cells h (g := g) hg
  obtain ⟨h1, h2⟩ := h
  rcases h2 with ⟨rfl, h0⟩ | ⟨g, cap, cur, rfl, e2, e3, e4, e5, e6, e7⟩
  · refine ⟨none, 0, by rw [h0], by omega, .inl ⟨rfl, rfl⟩⟩
  · refine ⟨_, cap, rfl, e4, .inr ⟨g, 0, rfl, (Array.getElem?_eq_some_iff.1 e3).1, fun i hi => ?_⟩⟩
    have := hcells g rfl i (.int .i64 (L.getD i 0)) (by simp [i64s, hi])
    unfold Addr.add at this
    by_cases hz : i = 0
    · subst hz; simpa using this
    · rw [if_neg hz] at this; exact this
theorem one_i64s (l : List Int) : ∀ u ∈ i64s l, u.oneCell' = true := by
  intro u hu
  obtain ⟨z, _, rfl⟩ := List.mem_map.1 hu
  rfl
/-- The cells of a list from a place on. -/
theorem IL.news {w : World} {bb off : Nat} {L : List Int} (h : ∀ i, i < L.length → w.cell? ⟨bb, off + i, none⟩ = some (.int .i64 (L.getD i 0))) : ∀ j u, (i64s L)[j]? = some u → w.cell? ((⟨bb, off, none⟩ : Addr).add j) = some u := by
  intro j u hu
  have hj : j < L.length := by have := (List.getElem?_eq_some_iff.1 hu).1; simpa [i64s] using this
  have hu2 : u = .int .i64 (L.getD j 0) := by
    simp [i64s, hj] at hu
    rw [← hu]
    simp [hj]
  rw [hu2, ← h j hj]
  unfold Addr.add
  by_cases hz : j = 0
  · subst hz; simp
  · rw [if_neg hz]
theorem owns_form {w : World} {base n size : Nat} {e : TypeId} {v : Value} {xs : List Value} (h : w.ownsRow base e size v n xs) : ∃ a c, v = .slice a n c := by
  obtain ⟨_, h2⟩ := h
  rcases h2 with ⟨rfl, rfl⟩ | ⟨g, cap, cur, rfl, _⟩
  · exact ⟨_, _, rfl⟩
  · exact ⟨_, _, rfl⟩
theorem bcellB {B : Nat} {w w' : World} (hb : Below B w w') : (∀ b o, b < B → w'.cell? ⟨b, o, none⟩ = w.cell? ⟨b, o, none⟩) ∧ ∀ b o, b < B → w'.frozen? ⟨b, o, none⟩ = w.frozen? ⟨b, o, none⟩ :=
  ⟨fun b o h => by unfold World.cell?; rw [hb.block b h], fun b o h => by unfold World.frozen?; rw [hb.block b h]⟩
theorem owns_set {w : World} {base n size b o : Nat} {e : TypeId} {v u : Value} {xs : List Value} (h : w.ownsRow base e size v n xs) (hb : b < base) : (w.setCell ⟨b, o, none⟩ u).ownsRow base e size v n xs := by
  obtain ⟨h1, h2⟩ := h
  refine ⟨h1, ?_⟩
  rcases h2 with h2 | ⟨g, cap, cur, e1, e2, e3, e4, e5, e6, e7⟩
  · exact .inl h2
  · exact .inr ⟨g, cap, cur, e1, e2, by rw [Below.heap_setCell _ _ _ _ (show g ≠ b by omega)]; exact e3, e4, e5, e6, e7⟩
theorem ownsW_base {w : World} {base base' n size : Nat} {e : TypeId} {v : Value} {xs : List Value} (h : w.ownsRow base e size v n xs) (hb : base' ≤ base) : w.ownsRow base' e size v n xs := by
  obtain ⟨h1, h2⟩ := h
  refine ⟨h1, ?_⟩
  rcases h2 with h2 | ⟨g, cap, cur, e1, e2, e3⟩
  · exact .inl h2
  · exact .inr ⟨g, cap, cur, e1, by omega, e3⟩
theorem heapSize2 (w : World) (o o' : Obj) : ((w.alloc o).alloc o').heap.size = w.heap.size + 1 + 1 := by simp
set_option maxHeartbeats 2000000 in
set_option maxRecDepth 100000 in
theorem l7Copy_any (t : Int) (v : Value) (L : List Int) (w : World) (hL : IL w v L) (hl : L.length ≤ 100) :
    Calls Tryz.prog 164 #[.agg #[.int .i64 t, v]] w fun e w' => ∃ v', e = .returned (.agg #[.int .i64 t, v']) ∧ w'.ownsRow w.heap.size 3 1 v' L.length (i64s L) ∧ Below w.heap.size w w' := by
  obtain ⟨i0, hi, hzz⟩ := Option.map_eq_some_iff.1 infoInt
  simp only [Prod.mk.injEq] at hzz
  have HI := hid_in hi; have HZ := hid_in hzz
  clear hi hzz
  obtain ⟨a, cap, rfl, hcap, hL⟩ := hL
  rcases hL with ⟨rfl, rfl⟩ | ⟨bb, off, rfl, hlt, hc⟩
  · obtain rfl : L = [] := List.length_eq_zero_iff.1 (by omega)
    go_enter Tryz.func164, Tryz.ntmps164
    go_wp2_with fail
    go_region_held3 (fun w' => w'.cell? ⟨w.heap.size, 0, none⟩ = some (.int .i64 t) ∧ w'.cell? ⟨w.heap.size, 1, none⟩ = some (.slice none 0 0)) (go_keep) (fail)
    all_goals
      go_wp2_with fail
      exact bodyPost_ret (v := .agg #[.int .i64 t, .slice (some ⟨w.heap.size + 1 + 1, 0, none⟩) 0 0]) (by simp [results, Tryz.results164, go_sem]) rfl
        ⟨_, rfl, by
          have := World.ownsRow_lit (base := w.heap.size) (e := 3) (size := 1) ((w.alloc (Obj.cells #[.int .i64 t, .slice none 0 0] 43)).alloc (Obj.cells #[.int .i64 t, .slice (some ⟨w.heap.size + 1 + 1, 0, none⟩) 0 0] 43)) #[] 0 (by simp; omega) (Nat.zero_le _) rfl
          simp only [heapSize2] at this
          exact this, by go_grown⟩
  · have hm1 : ¬ bb = w.heap.size := by omega
    have hm2 : ¬ bb = w.heap.size + 1 := by omega
    have HO : Hid ((((w.alloc (Obj.cells #[.int .i64 t, .slice (some ⟨bb, off, none⟩) L.length cap] 43)).alloc (Obj.cells #[.int .i64 0, .slice none 0 0] 43)).alloc (Obj.cells #[] 3)).ownsRow (w.heap.size + 1 + 1) 3 1 (.slice (some ⟨w.heap.size + 1 + 1, 0, none⟩) 0 0) 0 (i64s [])) := by
      show World.ownsRow _ _ _ _ _ _ _
      have := World.ownsRow_lit (base := w.heap.size + 1 + 1) (e := 3) (size := 1) ((w.alloc (Obj.cells #[.int .i64 t, .slice (some ⟨bb, off, none⟩) L.length cap] 43)).alloc (Obj.cells #[.int .i64 0, .slice none 0 0] 43)) #[] 0 (by simp) (Nat.zero_le _) rfl
      simp only [heapSize2] at this
      exact this
    have HNw : Hid (∀ j u, (i64s L)[j]? = some u → (((w.alloc (Obj.cells #[.int .i64 t, .slice (some ⟨bb, off, none⟩) L.length cap] 43)).alloc (Obj.cells #[.int .i64 0, .slice none 0 0] 43)).alloc (Obj.cells #[] 3)).cell? ((⟨bb, off, none⟩ : Addr).add j) = some u) := by
      show ∀ j u, _
      refine IL.news fun i hi => ?_
      rw [← hc i hi]
      have hbb : Below w.heap.size w (((w.alloc (Obj.cells #[.int .i64 t, .slice (some ⟨bb, off, none⟩) L.length cap] 43)).alloc (Obj.cells #[.int .i64 0, .slice none 0 0] 43)).alloc (Obj.cells #[] 3)) := by go_grown
      exact (bcell hbb).1 _ _ hlt
    have GR : Hid (∀ w3, Below (w.heap.size + 1 + 1) (((w.alloc (Obj.cells #[.int .i64 t, .slice (some ⟨bb, off, none⟩) L.length cap] 43)).alloc (Obj.cells #[.int .i64 0, .slice none 0 0] 43)).alloc (Obj.cells #[] 3)).drew w3 → Below (w.heap.size + 1 + 1) ((w.alloc (Obj.cells #[.int .i64 t, .slice (some ⟨bb, off, none⟩) L.length cap] 43)).alloc (Obj.cells #[.int .i64 0, .slice none 0 0] 43)) w3) := by
      show ∀ w3, _
      intro w3 h1
      have h2 : Below (w.heap.size + 1 + 1) ((w.alloc (Obj.cells #[.int .i64 t, .slice (some ⟨bb, off, none⟩) L.length cap] 43)).alloc (Obj.cells #[.int .i64 0, .slice none 0 0] 43)) (((w.alloc (Obj.cells #[.int .i64 t, .slice (some ⟨bb, off, none⟩) L.length cap] 43)).alloc (Obj.cells #[.int .i64 0, .slice none 0 0] 43)).alloc (Obj.cells #[] 3)) := by
        have := below_box ((w.alloc (Obj.cells #[.int .i64 t, .slice (some ⟨bb, off, none⟩) L.length cap] 43)).alloc (Obj.cells #[.int .i64 0, .slice none 0 0] 43)) (Obj.cells #[] 3)
        simp only [heapSize2] at this
        exact this
      exact h2.drew.trans h1
    have k0 : ((w.alloc (Obj.cells #[.int .i64 t, .slice (some ⟨bb, off, none⟩) L.length cap] 43)).alloc (Obj.cells #[.int .i64 0, .slice none 0 0] 43)).cell? ⟨w.heap.size, 0, none⟩ = some (.int .i64 t) := by go_simp
    have k1 : ((w.alloc (Obj.cells #[.int .i64 t, .slice (some ⟨bb, off, none⟩) L.length cap] 43)).alloc (Obj.cells #[.int .i64 0, .slice none 0 0] 43)).cell? ⟨w.heap.size, 1, none⟩ = some (.slice (some ⟨bb, off, none⟩) L.length cap) := by go_simp
    have k2 : ((w.alloc (Obj.cells #[.int .i64 t, .slice (some ⟨bb, off, none⟩) L.length cap] 43)).alloc (Obj.cells #[.int .i64 0, .slice none 0 0] 43)).cell? ⟨w.heap.size + 1, 0, none⟩ = some (.int .i64 0) := by go_simp
    have k3 : ((w.alloc (Obj.cells #[.int .i64 t, .slice (some ⟨bb, off, none⟩) L.length cap] 43)).alloc (Obj.cells #[.int .i64 0, .slice none 0 0] 43)).cell? ⟨w.heap.size + 1, 1, none⟩ = some (.slice none 0 0) := by go_simp
    have k4 : ((w.alloc (Obj.cells #[.int .i64 t, .slice (some ⟨bb, off, none⟩) L.length cap] 43)).alloc (Obj.cells #[.int .i64 0, .slice none 0 0] 43)).frozen? ⟨w.heap.size + 1, 0, none⟩ = false := by go_simp
    have k5 : ((w.alloc (Obj.cells #[.int .i64 t, .slice (some ⟨bb, off, none⟩) L.length cap] 43)).alloc (Obj.cells #[.int .i64 0, .slice none 0 0] 43)).frozen? ⟨w.heap.size + 1, 1, none⟩ = false := by go_simp
    have BW : Hid (Below w.heap.size w ((w.alloc (Obj.cells #[.int .i64 t, .slice (some ⟨bb, off, none⟩) L.length cap] 43)).alloc (Obj.cells #[.int .i64 0, .slice none 0 0] 43))) := by show Below _ _ _; go_grown
    clear hc
    go_enter Tryz.func164, Tryz.ntmps164
    go_wp2_with fail
    go_region_held3 (fun w' => w'.cell? ⟨w.heap.size, 0, none⟩ = some (.int .i64 t) ∧ w'.cell? ⟨w.heap.size, 1, none⟩ = some (.slice (some ⟨bb, off, none⟩) L.length cap)) (go_keep) (first | (refine wp_append_own _ (.tmp 5) (.tmp 7) 37 rfl (w.heap.size + 1 + 1) 3 i0 (.int .i64 0) 1 8 Tryz.underlying37 HI.out HZ.out.1 HZ.out.2.1 HZ.out.2.2 rfl (by decide) _ 0 (i64s []) rfl (by exact HO.out) ⟨bb, off, none⟩ L.length cap (i64s L) rfl (by rw [i64s_len, Nat.mul_one]) (by exact HNw.out) (one_i64s L) (by unfold maxLen; omega) (by omega) (by simp) ?_; intro v' w3 hown3 hg3 hn3; have hb3 : Below (w.heap.size + 1 + 1) ((w.alloc (Obj.cells #[.int .i64 t, .slice (some ⟨bb, off, none⟩) L.length cap] 43)).alloc (Obj.cells #[.int .i64 0, .slice none 0 0] 43)) w3 := GR.out w3 (grown_below hg3 (by simp) (fun k hk => by have hk2 : some (w.heap.size + 1 + 1) = some k := hk; have := Option.some.inj hk2; omega)); obtain ⟨a', c', ev'⟩ := owns_form hown3; subst ev'; have u0 : w3.cell? ⟨w.heap.size, 0, none⟩ = some (.int .i64 t) := ((bcellB hb3).1 _ _ (by omega)).trans k0; have u1 : w3.cell? ⟨w.heap.size, 1, none⟩ = some (.slice (some ⟨bb, off, none⟩) L.length cap) := ((bcellB hb3).1 _ _ (by omega)).trans k1; have u2 : w3.cell? ⟨w.heap.size + 1, 0, none⟩ = some (.int .i64 0) := ((bcellB hb3).1 _ _ (by omega)).trans k2; have u3 : w3.cell? ⟨w.heap.size + 1, 1, none⟩ = some (.slice none 0 0) := ((bcellB hb3).1 _ _ (by omega)).trans k3; have u4 : w3.frozen? ⟨w.heap.size + 1, 0, none⟩ = false := ((bcellB hb3).2 _ _ (by omega)).trans k4; have u5 : w3.frozen? ⟨w.heap.size + 1, 1, none⟩ = false := ((bcellB hb3).2 _ _ (by omega)).trans k5; have B3 := hid_in hb3; have O3 := hid_in hown3; clear hb3 hg3 hown3 hn3))
    all_goals
      go_wp2_with fail
      exact bodyPost_ret (v := .agg #[.int .i64 t, .slice a' L.length c']) (by simp [results, Tryz.results164, go_sem, u2, u3]) rfl
        ⟨_, rfl, by
          have := O3.out
          rw [Nat.zero_add] at this
          exact ownsW_base (owns_set (owns_set this (by omega)) (by omega)) (by omega), ((BW.out.trans (B3.out.mono (by omega))).setCell (by simp) _).setCell (by simp) _⟩
end Go.Proofs.YtefmmopkikpnhaaGreatDoor

namespace Go.Proofs.YtefmmopkikpnhaaGreatDoor
open Go.RowKit Go.LatT Go.BlockM Go.OpnT Go.WinMath
set_option linter.unusedVariables false
set_option linter.unusedSimpArgs false
/-- Append of a list to an owned list, as one operation. -/
theorem wpI_append1 {o : Oper} {a : Act} {K : Act → World → Prop} {Q : Exit → Act → World → Prop} {w : World} (s x : Operand)
    (ho : o.op = .call { callee := .builtin .append, args := #[s, x], argTypes := #[37, 37] })
    (base : Nat) (v : Value) (n : Nat) (A : List Int) (hs : a.eval s = v) (hown : w.ownsRow base 3 1 v n (i64s A)) (u : Value) (L : List Int) (hx : a.eval x = u) (hL : IL w u L)
    (hlen : n + L.length ≤ 1000000) (hbase : base ≤ w.heap.size)
    (h : ∀ v' w', w'.ownsRow base 3 1 v' (n + L.length) (i64s (A ++ L)) → w.grownBy w' v.ownBlock → (v ≠ .slice none 0 0 → v' ≠ .slice none 0 0) → K (a.put o.dst v') w') : o.wp Tryz.prog a w K Q := by
  obtain ⟨i0, hi, hzz⟩ := Option.map_eq_some_iff.1 infoInt
  simp only [Prod.mk.injEq] at hzz
  obtain ⟨ad, cap, rfl, hcap, hL⟩ := hL
  rcases hL with ⟨rfl, rfl⟩ | ⟨bb, off, rfl, hlt, hc⟩
  · obtain rfl : L = [] := List.length_eq_zero_iff.1 (by omega)
    have hrun := run_append_owned_none (P := Tryz.prog) (w := w) base 37 o.type 3 i0 1 Tryz.underlying37 hi v n (i64s A) hown
    unfold Oper.wp
    simp only [List.length_nil] at hx
    simp [execOp, ho, resolve, invoke, builtin, hs, hx, hrun, Result.andThen]
    exact h v w (by simpa using hown) (World.grownBy.refl _ _) id
  · refine wp_append_own w s x 37 ho base 3 i0 (.int .i64 0) 1 8 Tryz.underlying37 hi hzz.1 hzz.2.1 hzz.2.2 rfl (by decide) v n (i64s A) hs hown ⟨bb, off, none⟩ L.length cap (i64s L) hx (by rw [i64s_len, Nat.mul_one]) (IL.news hc) (one_i64s L) (by unfold maxLen; omega) (by omega) hbase ?_
    intro v' w' h1 h2 h3
    exact h v' w' (by rw [i64s_append]; exact h1) h2 (fun hv e => hv (h3.1 e).1)
theorem wpI_append {ops : Array Oper} {rest : List Oper} {o : Oper} {a : Act} {Q : Exit → Act → World → Prop} {w : World} (hgd : o.guard = none) (s x : Operand)
    (ho : o.op = .call { callee := .builtin .append, args := #[s, x], argTypes := #[37, 37] })
    (base : Nat) (v : Value) (n : Nat) (A : List Int) (hs : a.eval s = v) (hown : w.ownsRow base 3 1 v n (i64s A)) (u : Value) (L : List Int) (hx : a.eval x = u) (hL : IL w u L)
    (hlen : n + L.length ≤ 1000000) (hbase : base ≤ w.heap.size)
    (h : ∀ v' w', w'.ownsRow base 3 1 v' (n + L.length) (i64s (A ++ L)) → w.grownBy w' v.ownBlock → (v ≠ .slice none 0 0 → v' ≠ .slice none 0 0) → wpList Tryz.prog ops Q rest (a.put o.dst v') w') : wpList Tryz.prog ops Q (o :: rest) a w :=
  wpList_plain hgd fun _ hK => wpI_append1 s x ho base v n A hs hown u L hx hL hlen hbase fun v' w' h2 h3 h4 => hK _ _ (h v' w' h2 h3 h4)
/-- The same as one step of a region that draws. -/
theorem stepI_append {ops : Array Oper} {o : Oper} {a : Act} {K : Act → World → Prop} {Q : Exit → Act → World → Prop} {E : Prop} {w : World} (hgd : o.guard = none) (s x : Operand)
    (ho : o.op = .call { callee := .builtin .append, args := #[s, x], argTypes := #[37, 37] })
    (base : Nat) (v : Value) (n : Nat) (A : List Int) (hs : a.eval s = v) (hown : w.ownsRow base 3 1 v n (i64s A)) (u : Value) (L : List Int) (hx : a.eval x = u) (hL : IL w u L)
    (hlen : n + L.length ≤ 1000000) (hbase : base ≤ w.heap.size)
    (h : ∀ v' w', w'.ownsRow base 3 1 v' (n + L.length) (i64s (A ++ L)) → w.grownBy w' v.ownBlock → (v ≠ .slice none 0 0 → v' ≠ .slice none 0 0) → K (a.put o.dst v') w') :
    if Region.wanted o (yielded ops a.tmps) = true then Oper.wp Tryz.prog o a w K Q else E := by
  have hw : Region.wanted o (yielded ops a.tmps) = true := by simp [Region.wanted, hgd]
  rw [if_pos hw]
  exact wpI_append1 s x ho base v n A hs hown u L hx hL hlen hbase h
/-- A list that lies in a new block. -/
theorem IL.new (w : World) (L : List Int) (t : TypeId) : IL (w.alloc (.cells (i64s L).toArray t)) (.slice (some ⟨w.heap.size, 0, none⟩) L.length L.length) L := by
  refine ⟨_, _, rfl, Nat.le_refl _, .inr ⟨_, 0, rfl, by simp, fun i hi => ?_⟩⟩
  have := cells_new w (i64s L) t i (.int .i64 (L.getD i 0)) (by simp [i64s, hi])
  unfold Addr.add at this
  by_cases hz : i = 0
  · subst hz; simpa using this
  · rw [if_neg hz] at this; exact this
theorem IL.one (w : World) (x : Int) (t : TypeId) : IL (w.alloc (.cells #[.int .i64 x] t)) (.slice (some ⟨w.heap.size, 0, none⟩) 1 1) [x] := IL.new w [x] t
theorem owns_len {w : World} {base n : Nat} {v : Value} {L : List Int} (h : w.ownsRow base 3 1 v n (i64s L)) : n = L.length := by
  have := h.1
  rw [i64s_len] at this
  omega
theorem owns_nil_lit {w : World} {base : Nat} (t : TypeId) (hb : base ≤ w.heap.size) : (w.alloc (.cells #[] 3)).ownsRow base 3 1 (.slice (some ⟨w.heap.size, 0, none⟩) 0 0) 0 (i64s []) := by
  have := World.ownsRow_lit (base := base) (e := 3) (size := 1) w #[] 0 hb (Nat.zero_le _) rfl
  exact this
theorem owns_some {w : World} {base n : Nat} {v : Value} {L : List Int} (h : w.ownsRow base 3 1 v n (i64s L)) (hv : v ≠ .slice none 0 0) : ∃ g cap, v = .slice (some ⟨g, 0, none⟩) L.length cap ∧ base ≤ g ∧ g < w.heap.size ∧ L.length ≤ cap ∧ cap ≤ maxLen ∧ ∀ i, i < L.length → w.cell? ⟨g, 0 + i, none⟩ = some (.int .i64 (L.getD i 0)) := by
  have hn := owns_len h
  subst hn
  have hI := IL.of_owns h rfl
  obtain ⟨h1, h2⟩ := h
  rcases h2 with ⟨rfl, _⟩ | ⟨g, cap, cur, rfl, e2, e3, e4, e5, e6, e7⟩
  · exact absurd rfl hv
  · refine ⟨g, cap, rfl, e2, (Array.getElem?_eq_some_iff.1 e3).1, e4, e5, ?_⟩
    obtain ⟨a, c, e, _, hI⟩ := hI
    simp only [Value.slice.injEq] at e
    obtain ⟨rfl, _, rfl⟩ := e
    rcases hI with ⟨h, _⟩ | ⟨bb, off, e, _, hc⟩
    · cases h
    · simp only [Option.some.injEq, Addr.mk.injEq] at e
      obtain ⟨rfl, rfl, _⟩ := e
      exact hc
/-- A cell that is not of the owned row stays. -/
theorem grown_cells {w w' : World} {row : Option Nat} (hg : w.grownBy w' row) (b o : Nat) (hb : b < w.heap.size) (hr : row ≠ some b) : w'.cell? ⟨b, o, none⟩ = w.cell? ⟨b, o, none⟩ ∧ w'.frozen? ⟨b, o, none⟩ = w.frozen? ⟨b, o, none⟩ := by
  have h := (grown_below (B := 0) hg (Nat.zero_le _) (fun _ _ => Nat.zero_le _))
  obtain ⟨_, _, _, _, h5⟩ := hg
  have h6 : w'.heap[b]? = w.heap[b]? := by
    first | exact h5 b hb hr | exact h5 b hb (fun e => hr e.symm) | exact h5 _ hb (Ne.symm hr)
  exact ⟨by unfold World.cell?; rw [h6], by unfold World.frozen?; rw [h6]⟩
end Go.Proofs.YtefmmopkikpnhaaGreatDoor

namespace Go.Proofs.YtefmmopkikpnhaaGreatDoor
open Go.RowKit Go.LatT Go.BlockM Go.OpnT Go.WinMath
set_option linter.unusedVariables false
set_option linter.unusedSimpArgs false
theorem asc_len : ∀ (L : List Int) (lo hi : Int), L.Pairwise (· < ·) → (∀ x, x ∈ L → lo < x ∧ x ≤ hi) → (L.length : Int) ≤ max 0 (hi - lo)
  | [], lo, hi, _, _ => by simp; omega
  | x :: r, lo, hi, h, hm => by
    have h1 := List.pairwise_cons.1 h
    have hx := hm x (by simp)
    have := asc_len r x hi h1.2 (fun y hy => ⟨h1.1 y hy, (hm y (by simp [hy])).2⟩)
    simp only [List.length_cons]
    omega
theorem repW_len {T : Int} {c : Nat} {L : List Int} (h : Rep T c L) : L.length ≤ 16 := by
  have := asc_len L (T - 16) T h.asc (fun x hx => by have := h.mem x hx; omega)
  omega
theorem mem_get {L : List Int} {n : Int} : n ∈ L ↔ ∃ i, i < L.length ∧ L.getD i 0 = n := by
  rw [List.mem_iff_getElem]
  constructor
  · rintro ⟨i, hi, rfl⟩; exact ⟨i, hi, by simp [hi]⟩
  · rintro ⟨i, hi, rfl⟩; exact ⟨i, hi, by simp [hi]⟩
theorem ins_split (n : Int) : ∀ (L : List Int) (k : Nat), k ≤ L.length → (∀ i, i < k → L.getD i 0 < n) → (k < L.length → n < L.getD k 0) → ins n L = L.take k ++ n :: L.drop k
  | [], k, hk, _, _ => by
    have : k = 0 := by simpa using hk
    subst this; rfl
  | x :: r, 0, _, _, h2 => by
    have hx : n < x := by simpa using h2 (by simp)
    unfold ins
    rw [if_neg (by omega), if_neg (by omega)]
    rfl
  | x :: r, k + 1, hk, h1, h2 => by
    have hx : x < n := by simpa using h1 0 (by omega)
    unfold ins
    rw [if_pos hx, ins_split n r k (by simpa using hk) (fun i hi => by simpa using h1 (i + 1) (by omega)) (fun h => by simpa using h2 (by simpa using h))]
    rfl
set_option maxHeartbeats 2000000 in
set_option maxRecDepth 100000 in
theorem l7Had_any (t n : Int) (v : Value) (L : List Int) (w : World) (hL : IL w v L) (hl : L.length ≤ 100) (x : Bool) (hx : decide (n ∈ L) = x) :
    Calls Tryz.prog 168 #[.agg #[.int .i64 t, v], .int .i64 n] w fun e w' => e = .returned (.bool x) ∧ Below w.heap.size w w' := by
  have X := hid_in hx
  clear hx
  obtain ⟨a, cap, rfl, hcap, hL⟩ := hL
  rcases hL with ⟨rfl, rfl⟩ | ⟨bb, off, rfl, hlt, hc⟩
  · obtain rfl : L = [] := List.length_eq_zero_iff.1 (by omega)
    go_enter Tryz.func168, Tryz.ntmps168
    go_wp2_with fail
    refine wp_loop_rounds 1 ?_
    rw [rounds_succ]
    go_wp2_with fail
    go_ret
    exact ⟨ret_bool (by rw [← X.out]; simp), below_box _ _⟩
  · have HC := hid_in hc
    clear hc
    go_enter Tryz.func168, Tryz.ntmps168
    go_wp2_with fail
    have z0 := below_box w (Obj.cells #[.int .i64 t, .slice (some ⟨bb, off, none⟩) L.length cap] 43)
    have HZ := hid_in z0
    have hW0 : (w.alloc (Obj.cells #[.int .i64 t, .slice (some ⟨bb, off, none⟩) L.length cap] 43)).heap.size = w.heap.size + 1 := by simp
    have c1 : (w.alloc (Obj.cells #[.int .i64 t, .slice (some ⟨bb, off, none⟩) L.length cap] 43)).cell? ⟨w.heap.size, 1, none⟩ = some (.slice (some ⟨bb, off, none⟩) L.length cap) := by go_simp
    clear z0
    generalize w.alloc (Obj.cells #[.int .i64 t, .slice (some ⟨bb, off, none⟩) L.length cap] 43) = W at *
    have C1 := hid_in c1; have HS := hid_in hW0
    clear c1 hW0
    go_loopw [5] (fun u wr => ∃ k : Nat, k ≤ L.length ∧ u = .int .i64 (k : Int) ∧ Hid (Below W.heap.size W wr ∧ ∀ i, i < k → L.getD i 0 ≠ n)) (fun u _ => L.length - (intOf u).toNat)
    case atStart => exact ⟨0, Nat.zero_le _, rfl, by show _ ∧ _; exact ⟨Below.refl _ _, fun i hi => by omega⟩⟩
    case round =>
      obtain ⟨k, hk, rfl, HW⟩ := hrel
      have hW := HS.out
      have hmm : bb < W.heap.size := by omega
      have q1 := ((bcell HW.out.1).1 w.heap.size 1 (by omega)).trans C1.out
      have hm1 : bb < wr.heap.size := Nat.lt_of_lt_of_le hmm HW.out.1.size
      have hm2 : w.heap.size < wr.heap.size := by have := HW.out.1.size; omega
      clear hW
      by_cases hlt' : k < L.length
      · have hd : (k : Int) < (L.length : Int) := by omega
        have g0 := ((bcell HW.out.1).1 bb (off + k) hmm).trans (((bcell HZ.out).1 bb _ hlt).trans (HC.out k hlt'))
        generalize hy : L.getD k 0 = y at g0
        have HY := hid_in hy
        clear hy
        by_cases hn : y = n
        · have hn' : (y == n) = true := by simpa using hn
          go_wp2_with fail
          go_ret
          exact ⟨ret_bool (by rw [← X.out, decide_eq_true (mem_get.2 ⟨k, hlt', by rw [HY.out]; exact hn⟩)]), below_later HZ.out HW.out.1⟩
        · have hn' : (y == n) = false := by simpa using hn
          go_wp2_with fail
          refine ⟨⟨k + 1, by omega, by simp, ?_⟩, by simp [intOf]; omega⟩
          show _ ∧ _
          refine ⟨HW.out.1, fun i hi => ?_⟩
          by_cases hik : i < k
          · exact HW.out.2 i hik
          · rw [show i = k by omega, HY.out]; exact hn
      · have hd : decide ((k : Int) < (L.length : Int)) = false := by simp; omega
        have e : k = L.length := by omega
        have HE := hid_in e
        clear e
        go_wp2_with fail
        go_ret
        exact ⟨ret_bool (by rw [← X.out, decide_eq_false (fun hm => by
          obtain ⟨i, hi, e⟩ := mem_get.1 hm
          exact HW.out.2 i (by rw [HE.out]; exact hi) e)]), below_later HZ.out HW.out.1⟩
theorem heapSize1 (w : World) (o : Obj) : (w.alloc o).heap.size = w.heap.size + 1 := by simp
theorem news1 {w : World} {g : Nat} {u : Value} (h : w.cell? ⟨g, 0, none⟩ = some u) : ∀ j u', [u][j]? = some u' → w.cell? ((⟨g, 0, none⟩ : Addr).add j) = some u' := by
  intro j u' hu
  have hj : j = 0 := by have := (List.getElem?_eq_some_iff.1 hu).1; simpa using this
  subst hj
  simp at hu
  subst hu
  exact h
theorem one1 (n : Int) : ∀ u ∈ [Value.int .i64 n], u.oneCell' = true := by intro u hu; rw [List.mem_singleton.1 hu]; rfl
theorem take_cells {w wr : World} {bb off : Nat} {L : List Int} {k : Nat} (hb : Below w.heap.size w wr) (hlt : bb < w.heap.size) (hc : ∀ i, i < L.length → w.cell? ⟨bb, off + i, none⟩ = some (.int .i64 (L.getD i 0))) : ∀ j u, (i64s (L.take k))[j]? = some u → wr.cell? ((⟨bb, off, none⟩ : Addr).add j) = some u := by
  refine IL.news fun i hi => ?_
  have hi2 : i < L.length := by rw [List.length_take] at hi; omega
  have hik : i < k := by rw [List.length_take] at hi; omega
  rw [(bcell hb).1 _ _ hlt, hc i hi2]
  simp [hi2, hik, List.getElem?_take]
theorem drop_cells {w wr : World} {bb off : Nat} {L : List Int} {k : Nat} (hb : Below w.heap.size w wr) (hlt : bb < w.heap.size) (hc : ∀ i, i < L.length → w.cell? ⟨bb, off + i, none⟩ = some (.int .i64 (L.getD i 0))) : ∀ j u, (i64s (L.drop k))[j]? = some u → wr.cell? ((⟨bb, off + k, none⟩ : Addr).add j) = some u := by
  refine IL.news fun i hi => ?_
  have hi2 : k + i < L.length := by rw [List.length_drop] at hi; omega
  rw [(bcell hb).1 _ _ hlt, Nat.add_assoc, hc (k + i) hi2]
  simp [hi2]
set_option maxHeartbeats 4000000 in
set_option maxRecDepth 100000 in
theorem l3Num_any (n : Int) (bb off cap : Nat) (L : List Int) (w : World) (hcap : L.length ≤ cap) (hcm : cap ≤ maxLen) (hlt : bb < w.heap.size) (hc : ∀ i, i < L.length → w.cell? ⟨bb, off + i, none⟩ = some (.int .i64 (L.getD i 0))) (hl : L.length ≤ 100) (hn : n ∉ L) :
    Calls Tryz.prog 169 #[.slice (some ⟨bb, off, none⟩) L.length cap, .int .i64 n] w fun e w' => ∃ v', e = .returned v' ∧ w'.ownsRow w.heap.size 3 1 v' (L.length + 1) (i64s (ins n L)) ∧ Below w.heap.size w w' := by
  obtain ⟨i0, hi, hzz⟩ := Option.map_eq_some_iff.1 infoInt
  simp only [Prod.mk.injEq] at hzz
  have HI := hid_in hi; have HZ := hid_in hzz
  have HC := hid_in hc; have HN := hid_in hn
  clear hi hzz hc hn
  go_enter Tryz.func169, Tryz.ntmps169
  go_wp2_with fail
  go_loopw [5] (fun u wr => ∃ k : Nat, k ≤ L.length ∧ u = .int .i64 (k : Int) ∧ wr = w ∧ Hid (∀ i, i < k → L.getD i 0 < n)) (fun u _ => L.length - (intOf u).toNat)
  case atStart => exact ⟨0, Nat.zero_le _, rfl, rfl, by show ∀ i, _; exact fun i hi => by omega⟩
  case round =>
    obtain ⟨k, hk, rfl, rfl, HK⟩ := hrel
    by_cases hlt' : k < L.length
    · have hd : (k : Int) < (L.length : Int) := by omega
      have g0 := HC.out k hlt'
      have hne : L.getD k 0 ≠ n := fun e => HN.out (mem_get.2 ⟨k, hlt', e⟩)
      generalize hy : L.getD k 0 = y at g0 hne
      have HY := hid_in hy
      clear hy
      by_cases hs : y < n
      · go_wp2_with fail
        refine ⟨⟨k + 1, by omega, by simp, trivial, ?_⟩, by simp [intOf]; omega⟩
        show ∀ i, _
        intro i hi
        by_cases hik : i < k
        · exact HK.out i hik
        · rw [show i = k by omega, HY.out]; exact hs
      · have hs' : decide (y < n) = false := by simp; omega
        have hne' : (y == n) = false := by simpa using hne
        have hki : (k : Int) ≤ (L.length : Int) := by omega
        have hki2 : (k : Int) ≤ (cap : Int) := by omega
        have hki3 : (L.length : Int) ≤ (cap : Int) := by omega
        have SPLIT := hid_in (ins_split n L k hk HK.out (fun _ => by rw [HY.out]; omega))
        have hck : ¬ cap = k := by omega
        go_wp2_with fail
        go_region_held3 (fun w' => True) (go_keep) (first | (refine wp_append_own _ (.tmp 33) (.tmp 36) 37 rfl wr.heap.size 3 i0 (.int .i64 0) 1 8 Tryz.underlying37 HI.out HZ.out.1 HZ.out.2.1 HZ.out.2.2 rfl (by decide) _ 0 (i64s []) rfl (by first | exact World.ownsRow_lit _ #[] 0 (by simp) (Nat.zero_le _) rfl | exact (World.ownsRow_lit _ #[] 0 (by simp) (Nat.zero_le _) rfl).alloc _ | (have h := World.ownsRow_lit (base := wr.heap.size) (e := 3) (size := 1) (wr.alloc (Obj.cells #[.int .i64 n] 3)) #[] 0 (by simp) (Nat.zero_le _) rfl; rw [heapSize1] at h; exact h)) ⟨bb, off, none⟩ k cap (i64s (L.take k)) rfl (by rw [i64s_len, List.length_take]; omega) (take_cells (by go_grown) hlt HC.out) (one_i64s _) (by unfold maxLen; omega) (by omega) (by simp; try omega) ?_; intro v1 w4 hown4 hg4 hn4; have O4 := hid_in hown4; have B4 : Hid (Below wr.heap.size wr w4) := (by show Below _ _ _; exact Below.grown (by go_grown) hg4 (by simp; try omega) (fun g hg => (by first | (have hg2 : some wr.heap.size = some g := hg; have := Option.some.inj hg2; omega) | (have hg2 : some (wr.heap.size + 1) = some g := hg; have := Option.some.inj hg2; omega)))); have G4 := hid_in hg4; clear hown4 hg4 hn4) | (refine wp_append_own _ (.tmp 37) (.tmp 39) 37 rfl wr.heap.size 3 i0 (.int .i64 0) 1 8 Tryz.underlying37 HI.out HZ.out.1 HZ.out.2.1 HZ.out.2.2 rfl (by decide) _ (0 + k) (i64s [] ++ i64s (L.take k)) rfl (by first | exact O4.out | exact O4.out.alloc _) _ 1 1 [.int .i64 n] rfl rfl (by first | exact cells_new _ _ _ | exact news1 (G4.out.cell (by go_simp) (by intro h; have h2 : some (wr.heap.size + 1) = some wr.heap.size := h; have h3 := Option.some.inj h2; omega)) | exact news1 (G4.out.cell (by go_simp) (by intro h; have h2 : some wr.heap.size = some (wr.heap.size + 1) := h; have h3 := Option.some.inj h2; omega))) (one1 n) (by unfold maxLen; omega) (by omega) (by have := B4.out.size; simp; try omega) ?_; intro v2 w5 hown5 hg5 hn5; have O5 := hid_in hown5; have B5 : Hid (Below wr.heap.size wr w5) := (by show Below _ _ _; first | exact Below.grown B4.out hg5 B4.out.size (fun g hg => (owns_own O4.out g hg).1) | exact Below.grown (B4.out.alloc B4.out.size _) hg5 (by have := B4.out.size; simp; omega) (fun g hg => (owns_own O4.out g hg).1)); clear hown5 hg5 hn5) | (refine wp_append_own _ (.tmp 40) (.tmp 43) 37 rfl wr.heap.size 3 i0 (.int .i64 0) 1 8 Tryz.underlying37 HI.out HZ.out.1 HZ.out.2.1 HZ.out.2.2 rfl (by decide) _ (0 + k + 1) ((i64s [] ++ i64s (L.take k)) ++ [.int .i64 n]) rfl (by exact O5.out) ⟨bb, off + k, none⟩ (L.length - k) (cap - k) (i64s (L.drop k)) rfl (by rw [i64s_len, List.length_drop, Nat.mul_one]) (drop_cells B5.out hlt HC.out) (one_i64s _) (by unfold maxLen; omega) (by omega) B5.out.size ?_; intro v3 w6 hown6 hg6 hn6; have O6 := hid_in hown6; have B6 := hid_in (Below.grown B5.out hg6 B5.out.size (fun g hg => (owns_own O5.out g hg).1)); clear hown6 hg6 hn6))
        all_goals
          go_wp2_with fail
          go_ret
          refine ⟨_, rfl, ?_, B6.out⟩
          have := O6.out
          rw [SPLIT.out, i64s_append]
          have e1 : 0 + k + 1 + (L.length - k) = L.length + 1 := by omega
          rw [e1] at this
          simpa [i64s] using this
    · have hd : decide ((k : Int) < (L.length : Int)) = false := by simp; omega
      have e : k = L.length := by omega
      have SPLIT := hid_in (ins_split n L k hk HK.out (fun h => absurd h hlt'))
      have hki2 : (k : Int) ≤ (cap : Int) := by omega
      have hki3 : (L.length : Int) ≤ (cap : Int) := by omega
      have hki : (k : Int) ≤ (L.length : Int) := by omega
      clear e
      by_cases hck : cap = k
      · have hck2 : k = cap := hck.symm
        clear hck
        subst hck2
        go_wp2_with fail
        go_region_held3 (fun w' => True) (go_keep) (first | (refine wp_append_own _ (.tmp 33) (.tmp 36) 37 rfl wr.heap.size 3 i0 (.int .i64 0) 1 8 Tryz.underlying37 HI.out HZ.out.1 HZ.out.2.1 HZ.out.2.2 rfl (by decide) _ 0 (i64s []) rfl (by first | exact World.ownsRow_lit _ #[] 0 (by simp) (Nat.zero_le _) rfl | exact (World.ownsRow_lit _ #[] 0 (by simp) (Nat.zero_le _) rfl).alloc _ | (have h := World.ownsRow_lit (base := wr.heap.size) (e := 3) (size := 1) (wr.alloc (Obj.cells #[.int .i64 n] 3)) #[] 0 (by simp) (Nat.zero_le _) rfl; rw [heapSize1] at h; exact h)) ⟨bb, off, none⟩ k k (i64s (L.take k)) rfl (by rw [i64s_len, List.length_take]; omega) (take_cells (by go_grown) hlt HC.out) (one_i64s _) (by unfold maxLen; omega) (by omega) (by simp; try omega) ?_; intro v1 w4 hown4 hg4 hn4; have O4 := hid_in hown4; have B4 : Hid (Below wr.heap.size wr w4) := (by show Below _ _ _; exact Below.grown (by go_grown) hg4 (by simp; try omega) (fun g hg => (by first | (have hg2 : some wr.heap.size = some g := hg; have := Option.some.inj hg2; omega) | (have hg2 : some (wr.heap.size + 1) = some g := hg; have := Option.some.inj hg2; omega)))); have G4 := hid_in hg4; clear hown4 hg4 hn4) | (refine wp_append_own _ (.tmp 37) (.tmp 39) 37 rfl wr.heap.size 3 i0 (.int .i64 0) 1 8 Tryz.underlying37 HI.out HZ.out.1 HZ.out.2.1 HZ.out.2.2 rfl (by decide) _ (0 + k) (i64s [] ++ i64s (L.take k)) rfl (by first | exact O4.out | exact O4.out.alloc _) _ 1 1 [.int .i64 n] rfl rfl (by first | exact cells_new _ _ _ | exact news1 (G4.out.cell (by go_simp) (by intro h; have h2 : some (wr.heap.size + 1) = some wr.heap.size := h; have h3 := Option.some.inj h2; omega)) | exact news1 (G4.out.cell (by go_simp) (by intro h; have h2 : some wr.heap.size = some (wr.heap.size + 1) := h; have h3 := Option.some.inj h2; omega))) (one1 n) (by unfold maxLen; omega) (by omega) (by have := B4.out.size; simp; try omega) ?_; intro v2 w5 hown5 hg5 hn5; have O5 := hid_in hown5; have B5 : Hid (Below wr.heap.size wr w5) := (by show Below _ _ _; first | exact Below.grown B4.out hg5 B4.out.size (fun g hg => (owns_own O4.out g hg).1) | exact Below.grown (B4.out.alloc B4.out.size _) hg5 (by have := B4.out.size; simp; omega) (fun g hg => (owns_own O4.out g hg).1)); clear hown5 hg5 hn5) | (refine wp_append_own _ (.tmp 40) (.tmp 43) 37 rfl wr.heap.size 3 i0 (.int .i64 0) 1 8 Tryz.underlying37 HI.out HZ.out.1 HZ.out.2.1 HZ.out.2.2 rfl (by decide) _ (0 + k + 1) ((i64s [] ++ i64s (L.take k)) ++ [.int .i64 n]) rfl (by exact O5.out) ⟨bb, off, none⟩ 0 0 (i64s []) rfl rfl (fun j u hu => by simp [i64s] at hu) (one_i64s _) (by unfold maxLen; omega) (by omega) B5.out.size ?_; intro v3 w6 hown6 hg6 hn6; have O6 := hid_in hown6; have B6 := hid_in (Below.grown B5.out hg6 B5.out.size (fun g hg => (owns_own O5.out g hg).1)); clear hown6 hg6 hn6))
        all_goals
          go_wp2_with fail
          go_ret
          refine ⟨_, rfl, ?_, B6.out⟩
          have := O6.out
          rw [SPLIT.out, i64s_append]
          have e1 : 0 + k + 1 + 0 = L.length + 1 := by omega
          rw [List.drop_of_length_le (by omega)]
          rw [e1] at this
          simpa [i64s] using this
      · go_wp2_with fail
        go_region_held3 (fun w' => True) (go_keep) (first | (refine wp_append_own _ (.tmp 33) (.tmp 36) 37 rfl wr.heap.size 3 i0 (.int .i64 0) 1 8 Tryz.underlying37 HI.out HZ.out.1 HZ.out.2.1 HZ.out.2.2 rfl (by decide) _ 0 (i64s []) rfl (by first | exact World.ownsRow_lit _ #[] 0 (by simp) (Nat.zero_le _) rfl | exact (World.ownsRow_lit _ #[] 0 (by simp) (Nat.zero_le _) rfl).alloc _ | (have h := World.ownsRow_lit (base := wr.heap.size) (e := 3) (size := 1) (wr.alloc (Obj.cells #[.int .i64 n] 3)) #[] 0 (by simp) (Nat.zero_le _) rfl; rw [heapSize1] at h; exact h)) ⟨bb, off, none⟩ k cap (i64s (L.take k)) rfl (by rw [i64s_len, List.length_take]; omega) (take_cells (by go_grown) hlt HC.out) (one_i64s _) (by unfold maxLen; omega) (by omega) (by simp; try omega) ?_; intro v1 w4 hown4 hg4 hn4; have O4 := hid_in hown4; have B4 : Hid (Below wr.heap.size wr w4) := (by show Below _ _ _; exact Below.grown (by go_grown) hg4 (by simp; try omega) (fun g hg => (by first | (have hg2 : some wr.heap.size = some g := hg; have := Option.some.inj hg2; omega) | (have hg2 : some (wr.heap.size + 1) = some g := hg; have := Option.some.inj hg2; omega)))); have G4 := hid_in hg4; clear hown4 hg4 hn4) | (refine wp_append_own _ (.tmp 37) (.tmp 39) 37 rfl wr.heap.size 3 i0 (.int .i64 0) 1 8 Tryz.underlying37 HI.out HZ.out.1 HZ.out.2.1 HZ.out.2.2 rfl (by decide) _ (0 + k) (i64s [] ++ i64s (L.take k)) rfl (by first | exact O4.out | exact O4.out.alloc _) _ 1 1 [.int .i64 n] rfl rfl (by first | exact cells_new _ _ _ | exact news1 (G4.out.cell (by go_simp) (by intro h; have h2 : some (wr.heap.size + 1) = some wr.heap.size := h; have h3 := Option.some.inj h2; omega)) | exact news1 (G4.out.cell (by go_simp) (by intro h; have h2 : some wr.heap.size = some (wr.heap.size + 1) := h; have h3 := Option.some.inj h2; omega))) (one1 n) (by unfold maxLen; omega) (by omega) (by have := B4.out.size; simp; try omega) ?_; intro v2 w5 hown5 hg5 hn5; have O5 := hid_in hown5; have B5 : Hid (Below wr.heap.size wr w5) := (by show Below _ _ _; first | exact Below.grown B4.out hg5 B4.out.size (fun g hg => (owns_own O4.out g hg).1) | exact Below.grown (B4.out.alloc B4.out.size _) hg5 (by have := B4.out.size; simp; omega) (fun g hg => (owns_own O4.out g hg).1)); clear hown5 hg5 hn5) | (refine wp_append_own _ (.tmp 40) (.tmp 43) 37 rfl wr.heap.size 3 i0 (.int .i64 0) 1 8 Tryz.underlying37 HI.out HZ.out.1 HZ.out.2.1 HZ.out.2.2 rfl (by decide) _ (0 + k + 1) ((i64s [] ++ i64s (L.take k)) ++ [.int .i64 n]) rfl (by exact O5.out) ⟨bb, off + k, none⟩ (L.length - k) (cap - k) (i64s (L.drop k)) rfl (by rw [i64s_len, List.length_drop, Nat.mul_one]) (drop_cells B5.out hlt HC.out) (one_i64s _) (by unfold maxLen; omega) (by omega) B5.out.size ?_; intro v3 w6 hown6 hg6 hn6; have O6 := hid_in hown6; have B6 := hid_in (Below.grown B5.out hg6 B5.out.size (fun g hg => (owns_own O5.out g hg).1)); clear hown6 hg6 hn6))
        all_goals
          go_wp2_with fail
          go_ret
          refine ⟨_, rfl, ?_, B6.out⟩
          have := O6.out
          rw [SPLIT.out, i64s_append]
          have e1 : 0 + k + 1 + (L.length - k) = L.length + 1 := by omega
          rw [e1] at this
          simpa [i64s] using this
end Go.Proofs.YtefmmopkikpnhaaGreatDoor

namespace Go.Proofs.YtefmmopkikpnhaaGreatDoor
open Go.RowKit Go.LatT Go.BlockM Go.OpnT Go.WinMath
set_option linter.unusedVariables false
set_option linter.unusedSimpArgs false
set_option maxHeartbeats 400000 in
set_option maxRecDepth 100000 in
theorem l1InW (n : Int) (w : World) (v : Bool) (hv : inB n 1 1000000 = v) :
    Calls Tryz.prog 57 #[.int .i64 n, .int .i64 1, .int .i64 1000000] w fun e w' => e = .returned (.bool v) ∧ w' = w := by
  have hv1 := hid_in hv
  clear hv
  go_enter Tryz.func57, Tryz.ntmps57
  go_wp2
  all_goals
    go_ret
    exact ⟨ret_bool (by rw [← hv1.out]; simp only [inB]; rw [Bool.eq_iff_iff]; simp; try omega), rfl⟩
/-- What seeing leaves, by lists. -/
def SeeL (T n : Int) (L : List Int) (w : World) (e : Ending) (w' : World) : Prop :=
  ∃ v' m, e = .returned (.tuple #[.agg #[.int .i64 (topL T L n), v'], .int .i64 (codeL T L n)]) ∧ w'.ownsRow w.heap.size 3 1 v' m (i64s (listL T L n)) ∧ Below w.heap.size w w'
theorem SeeL.none {T n k : Int} {L : List Int} {w w' : World} {v' : Value} {m : Nat} (hk : codeL T L n = k) (h0 : k ≠ 0) (ho : w'.ownsRow w.heap.size 3 1 v' m (i64s L)) (hb : Below w.heap.size w w') : SeeL T n L w (.returned (.tuple #[.agg #[.int .i64 T, v'], .int .i64 k])) w' := by
  have e1 : topL T L n = T := by unfold topL; rw [if_neg (by rw [hk]; exact fun h => h0 h.1)]
  have e2 : listL T L n = L := by unfold listL; rw [if_neg (by rw [hk]; exact h0)]
  exact ⟨v', m, by rw [hk, e1], by rw [e2]; exact ho, hb⟩
theorem IL.form {w : World} {v : Value} {L : List Int} (h : IL w v L) : ∃ a cap, v = .slice a L.length cap := by
  obtain ⟨a, cap, e, _⟩ := h
  exact ⟨a, cap, e⟩
set_option maxHeartbeats 2000000 in
set_option maxRecDepth 100000 in
theorem l7See_bad (T n : Int) (c : Nat) (L : List Int) (v : Value) (w : World) (hL : IL w v L) (hr : Rep T c L) (hn : inB n 1 1000000 = false) :
    Calls Tryz.prog 122 #[.agg #[.int .i64 T, v], .int .i64 n] w (SeeL T n L w) := by
  have HL := hid_in hL; have HR := hid_in hr
  have t0 := hr.t0; have t1 := hr.t1
  obtain ⟨a, cap, rfl⟩ := hL.form
  have HN := hid_in hn
  clear hL hn hr
  go_enter Tryz.func122, Tryz.ntmps122
  go_wp2_with fail
  refine (l1InW n _ false HN.out).mono ?_
  rintro e w' ⟨rfl, rfl⟩
  go_wp2_with fail
  have zW : Below w.heap.size w ((w.alloc (Obj.cells #[.int .i64 T, .slice a L.length cap] 43)).alloc (Obj.cells #[.int .i64 0, .slice none 0 0] 43)) := by go_grown
  have sW : ((w.alloc (Obj.cells #[.int .i64 T, .slice a L.length cap] 43)).alloc (Obj.cells #[.int .i64 0, .slice none 0 0] 43)).heap.size = w.heap.size + 1 + 1 := heapSize2 _ _ _
  have k0 : ((w.alloc (Obj.cells #[.int .i64 T, .slice a L.length cap] 43)).alloc (Obj.cells #[.int .i64 0, .slice none 0 0] 43)).cell? ⟨w.heap.size + 1, 0, none⟩ = some (.int .i64 0) := by go_simp
  have k1 : ((w.alloc (Obj.cells #[.int .i64 T, .slice a L.length cap] 43)).alloc (Obj.cells #[.int .i64 0, .slice none 0 0] 43)).cell? ⟨w.heap.size + 1, 1, none⟩ = some (.slice none 0 0) := by go_simp
  have k2 : ((w.alloc (Obj.cells #[.int .i64 T, .slice a L.length cap] 43)).alloc (Obj.cells #[.int .i64 0, .slice none 0 0] 43)).frozen? ⟨w.heap.size + 1, 0, none⟩ = false := by go_simp
  have k3 : ((w.alloc (Obj.cells #[.int .i64 T, .slice a L.length cap] 43)).alloc (Obj.cells #[.int .i64 0, .slice none 0 0] 43)).frozen? ⟨w.heap.size + 1, 1, none⟩ = false := by go_simp
  generalize ((w.alloc (Obj.cells #[.int .i64 T, .slice a L.length cap] 43)).alloc (Obj.cells #[.int .i64 0, .slice none 0 0] 43)) = W at *
  refine (l7Copy_any T _ L _ (HL.out.later zW) (by have := repW_len HR.out; omega)).mono ?_
  rintro e w3 ⟨v', rfl, ho, hb3⟩
  obtain ⟨a', c', rfl⟩ := owns_form ho
  have p0 : w3.cell? ⟨w.heap.size + 1, 0, none⟩ = some (.int .i64 0) := ((bcell hb3).1 _ _ (by omega)).trans k0
  have p1 : w3.cell? ⟨w.heap.size + 1, 1, none⟩ = some (.slice none 0 0) := ((bcell hb3).1 _ _ (by omega)).trans k1
  have p2 : w3.frozen? ⟨w.heap.size + 1, 0, none⟩ = false := ((bcell hb3).2 _ _ (by omega)).trans k2
  have p3 : w3.frozen? ⟨w.heap.size + 1, 1, none⟩ = false := ((bcell hb3).2 _ _ (by omega)).trans k3
  have O := hid_in (ownsW_base ho (show w.heap.size + 1 + 1 ≤ W.heap.size by omega)); have B := hid_in (zW.trans (hb3.mono (show w.heap.size ≤ W.heap.size by omega)))
  clear ho hb3 zW k0 k1 k2 k3
  go_wp2_with fail
  exact bodyPost_ret (v := .tuple #[.agg #[.int .i64 T, .slice a' L.length c'], .int .i64 1]) (by simp [results, Tryz.results122, go_sem, p0, p1]) rfl
    (SeeL.none (by have h := HN.out; unfold codeL; rw [if_pos (by simp [inB] at h; omega)]) (by decide) (ownsW_base (owns_set (owns_set O.out (by omega)) (by omega)) (by omega)) ((B.out.setCell (by simp) _).setCell (by simp) _))
set_option maxHeartbeats 2000000 in
set_option maxRecDepth 100000 in
theorem l7See_old (T n : Int) (c : Nat) (L : List Int) (v : Value) (w : World) (hL : IL w v L) (hr : Rep T c L) (hn : inB n 1 1000000 = true) (ho : n ≤ T - 16) :
    Calls Tryz.prog 122 #[.agg #[.int .i64 T, v], .int .i64 n] w (SeeL T n L w) := by
  have HL := hid_in hL; have HR := hid_in hr
  have t0 := hr.t0; have t1 := hr.t1
  obtain ⟨a, cap, rfl⟩ := hL.form
  have HN := hid_in hn
  clear hL hn hr
  go_enter Tryz.func122, Tryz.ntmps122
  go_wp2_with fail
  refine (l1InW n _ true HN.out).mono ?_
  rintro e w' ⟨rfl, rfl⟩
  go_wp2_with fail
  have zW : Below w.heap.size w ((w.alloc (Obj.cells #[.int .i64 T, .slice a L.length cap] 43)).alloc (Obj.cells #[.int .i64 0, .slice none 0 0] 43)) := by go_grown
  have sW : ((w.alloc (Obj.cells #[.int .i64 T, .slice a L.length cap] 43)).alloc (Obj.cells #[.int .i64 0, .slice none 0 0] 43)).heap.size = w.heap.size + 1 + 1 := heapSize2 _ _ _
  have k0 : ((w.alloc (Obj.cells #[.int .i64 T, .slice a L.length cap] 43)).alloc (Obj.cells #[.int .i64 0, .slice none 0 0] 43)).cell? ⟨w.heap.size + 1, 0, none⟩ = some (.int .i64 0) := by go_simp
  have k1 : ((w.alloc (Obj.cells #[.int .i64 T, .slice a L.length cap] 43)).alloc (Obj.cells #[.int .i64 0, .slice none 0 0] 43)).cell? ⟨w.heap.size + 1, 1, none⟩ = some (.slice none 0 0) := by go_simp
  have k2 : ((w.alloc (Obj.cells #[.int .i64 T, .slice a L.length cap] 43)).alloc (Obj.cells #[.int .i64 0, .slice none 0 0] 43)).frozen? ⟨w.heap.size + 1, 0, none⟩ = false := by go_simp
  have k3 : ((w.alloc (Obj.cells #[.int .i64 T, .slice a L.length cap] 43)).alloc (Obj.cells #[.int .i64 0, .slice none 0 0] 43)).frozen? ⟨w.heap.size + 1, 1, none⟩ = false := by go_simp
  generalize ((w.alloc (Obj.cells #[.int .i64 T, .slice a L.length cap] 43)).alloc (Obj.cells #[.int .i64 0, .slice none 0 0] 43)) = W at *
  refine (l7Copy_any T _ L _ (HL.out.later zW) (by have := repW_len HR.out; omega)).mono ?_
  rintro e w3 ⟨v', rfl, ho, hb3⟩
  obtain ⟨a', c', rfl⟩ := owns_form ho
  have p0 : w3.cell? ⟨w.heap.size + 1, 0, none⟩ = some (.int .i64 0) := ((bcell hb3).1 _ _ (by omega)).trans k0
  have p1 : w3.cell? ⟨w.heap.size + 1, 1, none⟩ = some (.slice none 0 0) := ((bcell hb3).1 _ _ (by omega)).trans k1
  have p2 : w3.frozen? ⟨w.heap.size + 1, 0, none⟩ = false := ((bcell hb3).2 _ _ (by omega)).trans k2
  have p3 : w3.frozen? ⟨w.heap.size + 1, 1, none⟩ = false := ((bcell hb3).2 _ _ (by omega)).trans k3
  have O := hid_in (ownsW_base ho (show w.heap.size + 1 + 1 ≤ W.heap.size by omega)); have B := hid_in (zW.trans (hb3.mono (show w.heap.size ≤ W.heap.size by omega)))
  clear ho hb3 zW k0 k1 k2 k3
  go_wp2_with fail
  exact bodyPost_ret (v := .tuple #[.agg #[.int .i64 T, .slice a' L.length c'], .int .i64 2]) (by simp [results, Tryz.results122, go_sem, p0, p1]) rfl
    (SeeL.none (by have h := HN.out; unfold codeL; rw [if_neg (by simp [inB] at h; omega), if_pos ho]) (by decide) (ownsW_base (owns_set (owns_set O.out (by omega)) (by omega)) (by omega)) ((B.out.setCell (by simp) _).setCell (by simp) _))
set_option maxHeartbeats 2000000 in
set_option maxRecDepth 100000 in
theorem l7See_again (T n : Int) (c : Nat) (L : List Int) (v : Value) (w : World) (hL : IL w v L) (hr : Rep T c L) (hn : inB n 1 1000000 = true) (ho : ¬ n ≤ T - 16) (hm : n ∈ L) :
    Calls Tryz.prog 122 #[.agg #[.int .i64 T, v], .int .i64 n] w (SeeL T n L w) := by
  have HL := hid_in hL; have HR := hid_in hr
  have t0 := hr.t0; have t1 := hr.t1
  obtain ⟨a, cap, rfl⟩ := hL.form
  have HN := hid_in hn; have HM := hid_in hm
  clear hL hn hr hm
  go_enter Tryz.func122, Tryz.ntmps122
  go_wp2_with fail
  refine (l1InW n _ true HN.out).mono ?_
  rintro e w' ⟨rfl, rfl⟩
  go_wp2_with fail
  have zW : Below w.heap.size w ((w.alloc (Obj.cells #[.int .i64 T, .slice a L.length cap] 43)).alloc (Obj.cells #[.int .i64 0, .slice none 0 0] 43)) := by go_grown
  have sW : ((w.alloc (Obj.cells #[.int .i64 T, .slice a L.length cap] 43)).alloc (Obj.cells #[.int .i64 0, .slice none 0 0] 43)).heap.size = w.heap.size + 1 + 1 := heapSize2 _ _ _
  have k0 : ((w.alloc (Obj.cells #[.int .i64 T, .slice a L.length cap] 43)).alloc (Obj.cells #[.int .i64 0, .slice none 0 0] 43)).cell? ⟨w.heap.size + 1, 0, none⟩ = some (.int .i64 0) := by go_simp
  have k1 : ((w.alloc (Obj.cells #[.int .i64 T, .slice a L.length cap] 43)).alloc (Obj.cells #[.int .i64 0, .slice none 0 0] 43)).cell? ⟨w.heap.size + 1, 1, none⟩ = some (.slice none 0 0) := by go_simp
  have k2 : ((w.alloc (Obj.cells #[.int .i64 T, .slice a L.length cap] 43)).alloc (Obj.cells #[.int .i64 0, .slice none 0 0] 43)).frozen? ⟨w.heap.size + 1, 0, none⟩ = false := by go_simp
  have k3 : ((w.alloc (Obj.cells #[.int .i64 T, .slice a L.length cap] 43)).alloc (Obj.cells #[.int .i64 0, .slice none 0 0] 43)).frozen? ⟨w.heap.size + 1, 1, none⟩ = false := by go_simp
  have k4 : ((w.alloc (Obj.cells #[.int .i64 T, .slice a L.length cap] 43)).alloc (Obj.cells #[.int .i64 0, .slice none 0 0] 43)).cell? ⟨w.heap.size, 0, none⟩ = some (.int .i64 T) := by go_simp
  have k5 : ((w.alloc (Obj.cells #[.int .i64 T, .slice a L.length cap] 43)).alloc (Obj.cells #[.int .i64 0, .slice none 0 0] 43)).cell? ⟨w.heap.size, 1, none⟩ = some (.slice a L.length cap) := by go_simp
  generalize ((w.alloc (Obj.cells #[.int .i64 T, .slice a L.length cap] 43)).alloc (Obj.cells #[.int .i64 0, .slice none 0 0] 43)) = W at *
  refine (l7Had_any T n _ L _ (HL.out.later zW) (by have := repW_len HR.out; omega) true (decide_eq_true HM.out)).mono ?_
  rintro e w2 ⟨rfl, hb2⟩
  obtain ⟨x1, x2⟩ := bcell hb2
  replace k0 := (x1 _ _ (by omega)).trans k0
  replace k1 := (x1 _ _ (by omega)).trans k1
  replace k2 := (x2 _ _ (by omega)).trans k2
  replace k3 := (x2 _ _ (by omega)).trans k3
  replace k4 := (x1 _ _ (by omega)).trans k4
  replace k5 := (x1 _ _ (by omega)).trans k5
  replace zW := zW.trans (hb2.mono (show w.heap.size ≤ W.heap.size by omega))
  have s2 : w.heap.size + 1 + 1 ≤ w2.heap.size := by have := hb2.size; omega
  clear x1 x2 hb2 sW
  go_wp2_with fail
  refine (l7Copy_any T _ L _ (HL.out.later zW) (by have := repW_len HR.out; omega)).mono ?_
  rintro e w3 ⟨v', rfl, ho, hb3⟩
  obtain ⟨a', c', rfl⟩ := owns_form ho
  have p0 : w3.cell? ⟨w.heap.size + 1, 0, none⟩ = some (.int .i64 0) := ((bcell hb3).1 _ _ (by omega)).trans k0
  have p1 : w3.cell? ⟨w.heap.size + 1, 1, none⟩ = some (.slice none 0 0) := ((bcell hb3).1 _ _ (by omega)).trans k1
  have p2 : w3.frozen? ⟨w.heap.size + 1, 0, none⟩ = false := ((bcell hb3).2 _ _ (by omega)).trans k2
  have p3 : w3.frozen? ⟨w.heap.size + 1, 1, none⟩ = false := ((bcell hb3).2 _ _ (by omega)).trans k3
  have O := hid_in (ownsW_base ho (show w.heap.size + 1 + 1 ≤ w2.heap.size by omega)); have B := hid_in (zW.trans (hb3.mono (show w.heap.size ≤ w2.heap.size by omega)))
  clear ho hb3 zW k0 k1 k2 k3
  go_wp2_with fail
  exact bodyPost_ret (v := .tuple #[.agg #[.int .i64 T, .slice a' L.length c'], .int .i64 3]) (by simp [results, Tryz.results122, go_sem, p0, p1]) rfl
    (SeeL.none (by have h := HN.out; unfold codeL; rw [if_neg (by simp [inB] at h; omega), if_neg (by omega), if_pos HM.out]) (by decide) (ownsW_base (owns_set (owns_set O.out (by omega)) (by omega)) (by omega)) ((B.out.setCell (by simp) _).setCell (by simp) _))
end Go.Proofs.YtefmmopkikpnhaaGreatDoor

