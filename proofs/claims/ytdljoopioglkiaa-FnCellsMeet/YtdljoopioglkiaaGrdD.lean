/- Cells joined, and the cells of a grid, in the specification, as contracts. The conditions stand at each theorem. -/
import Derived.Test.YtdljoopioglkiaaGrdC
import Derived.Test.YtdljoopioglkiaaTai
namespace Go.Proofs.Ytdljoopioglkiaa
open Go.RowKit Go.LatT Go.BlockM Go.OpnT Go.WinMath Go.ApdG
set_option linter.unusedVariables false
set_option linter.unusedSimpArgs false
theorem add_off (g i : Nat) : ((⟨g, 0, none⟩ : Addr).add i) = ⟨g, i, none⟩ := by
  unfold Addr.add
  by_cases hj : i = 0
  · rw [if_pos hj, hj]
  · rw [if_neg hj, Nat.zero_add]
/-- The last row of an owned table of cells. -/
theorem last_cells {w : World} {base g cap m : Nat} {x : Cv} {r : List Cv} (hm : r.length = m) (h : w.ownsRow base 30 7 (.slice (some ⟨g, 0, none⟩) (m + 1) cap) (m + 1) (cvL (x :: r).reverse)) (j : Nat) (hj : j < 7) : w.cell? ⟨g, m * 7 + j, none⟩ = some (.int .i64 (cvF x j)) := by
  have := World.ownsRow.cells h (g := g) rfl (m * 7 + j) (.int .i64 (cvF x j)) (cvL_get (x :: r).reverse m x (by rw [List.reverse_cons, List.getElem?_append_right (by simp [hm])]; simp [hm]) j hj)
  rwa [add_off] at this
theorem owns_fz {w : World} {base g n size cap : Nat} {e : TypeId} {xs : List Value} (h : w.ownsRow base e size (.slice (some ⟨g, 0, none⟩) n cap) n xs) : (∀ o, w.frozen? ⟨g, o, none⟩ = false) ∧ base ≤ g ∧ g < w.heap.size ∧ n ≤ cap ∧ cap ≤ maxLen := by
  obtain ⟨_, h2⟩ := h
  rcases h2 with ⟨h3, _⟩ | ⟨g', cap', cur, e1, e2, e3, e4, e5, _⟩
  · cases h3
  · simp only [Value.slice.injEq, Option.some.injEq, Addr.mk.injEq, and_true, true_and] at e1
    obtain ⟨rfl, rfl⟩ := e1
    exact ⟨fun o => by unfold World.frozen?; simp [e3], e2, (Array.getElem?_eq_some_iff.1 e3).1, e4, e5⟩
set_option maxHeartbeats 1000000 in
set_option maxRecDepth 100000 in
theorem l5Join_cons (base g cap m : Nat) (x : Cv) (r : List Cv) (hm : r.length = m) (c : Cv) (w : World) (hbase : base ≤ w.heap.size) (hl : m ≤ 100000) (hx0 : -1 ≤ x.h) (hx1 : x.h ≤ 4294967295)
    (ho : w.ownsRow base 30 7 (.slice (some ⟨g, 0, none⟩) (m + 1) cap) (m + 1) (cvL (x :: r).reverse)) :
    Calls Try.prog 35 #[.slice (some ⟨g, 0, none⟩) (m + 1) cap, .agg #[.int .i64 c.a, .int .i64 c.b, .int .i64 c.c, .int .i64 c.d, .int .i64 c.l, .int .i64 c.h, .int .i64 c.r]] w (JoinP base g (x :: r) c w) := by
  obtain ⟨_, hgb, hgl, _, _⟩ := owns_fz ho
  have bx := below_box w (.cells #[.int .i64 c.a, .int .i64 c.b, .int .i64 c.c, .int .i64 c.d, .int .i64 c.l, .int .i64 c.h, .int .i64 c.r] 30)
  have O0 := hid_in (owns_below ho bx); have Z0 := hid_in bx
  have hlen : ((m + 1 : Nat) : Int) ≤ 100001 := by omega
  have g0 : (w.alloc (.cells #[.int .i64 c.a, .int .i64 c.b, .int .i64 c.c, .int .i64 c.d, .int .i64 c.l, .int .i64 c.h, .int .i64 c.r] 30)).cell? ⟨g, m * 7, none⟩ = some (.int .i64 x.a) := last_cells hm O0.out 0 (by omega)
  have g2 := last_cells hm O0.out 2 (by omega)
  have g5 := last_cells hm O0.out 5 (by omega)
  have g6 := last_cells hm O0.out 6 (by omega)
  simp only [cvF] at g2 g5 g6
  have f5 := (owns_fz O0.out).1 (m * 7 + 5)
  have ewr : IntKind.i64.wrap (x.h + 1) = x.h + 1 := by rw [IntKind.wrap_i64]; omega
  have hglt : g < (w.alloc (.cells #[.int .i64 c.a, .int .i64 c.b, .int .i64 c.c, .int .i64 c.d, .int .i64 c.l, .int .i64 c.h, .int .i64 c.r] 30)).heap.size := by simp; omega
  clear ho bx
  by_cases k0 : ¬ (x.r = c.r)
  · have HJ : Hid (joinR (x :: r) c = c :: x :: r) := by show _ = _; simp [joinR, goesOn, k0]
    have d0 : (x.r == c.r) = false := by simpa using k0
    clear k0
    go_enter Try.func35, Try.ntmps35
    go_wp2_with fail
    refine wp_region_lat (Below.refl _ _) (by kernel_rfl) (by kernel_rfl) ?_
    intro hne hcl
    repeat (go_big_quiet_step (fail))
    refine wpQuiet_nil ?_
    intro w1 hb1
    obtain ⟨hc1, hf1⟩ := bcell hb1
    clear hne hcl
    have O1 := hid_in (owns_below O0.out hb1); have Z1 := hid_in (below_later Z0.out hb1)
    have hs1 := hb1.size
    have p0 := (hc1 w.heap.size 0 (by simp)); have p1 := (hc1 w.heap.size 1 (by simp)); have p2 := (hc1 w.heap.size 2 (by simp)); have p3 := (hc1 w.heap.size 3 (by simp)); have p4 := (hc1 w.heap.size 4 (by simp)); have p5 := (hc1 w.heap.size 5 (by simp)); have p6 := (hc1 w.heap.size 6 (by simp))
    simp at p0 p1 p2 p3 p4 p5 p6
    simp at hs1
    go_wp2_with (at_builtin; refine wpK elemC rfl (.tmp 59) (.tmp 61) rfl base g (m + 1) cap _ rfl (O1.out.alloc _) ⟨w1.heap.size, 0, none⟩ 1 1 [.int .i64 c.a, .int .i64 c.b, .int .i64 c.c, .int .i64 c.d, .int .i64 c.l, .int .i64 c.h, .int .i64 c.r] rfl rfl (cells_new _ _ _) (one7 c) (by omega) (by simp; omega) ?_; intro v3 w3 G3; have GR := hid_in G3; clear G3)
    go_ret
    exact JoinP.app (n := m + 1) (out := x :: r) (by simp [hm]) HJ.out (below_later Z1.out (below_box _ _)) GR.out
  replace k0 := Decidable.not_not.1 k0
  have d0 : (x.r == c.r) = true := by simpa using k0
  by_cases k1 : ¬ (x.a = c.a)
  · have HJ : Hid (joinR (x :: r) c = c :: x :: r) := by show _ = _; simp [joinR, goesOn, k1]
    have d1 : (x.a == c.a) = false := by simpa using k1
    clear k1
    go_enter Try.func35, Try.ntmps35
    go_wp2_with fail
    refine wp_region_lat (Below.refl _ _) (by kernel_rfl) (by kernel_rfl) ?_
    intro hne hcl
    repeat (go_big_quiet_step (fail))
    refine wpQuiet_nil ?_
    intro w1 hb1
    obtain ⟨hc1, hf1⟩ := bcell hb1
    clear hne hcl
    have O1 := hid_in (owns_below O0.out hb1); have Z1 := hid_in (below_later Z0.out hb1)
    have hs1 := hb1.size
    have p0 := (hc1 w.heap.size 0 (by simp)); have p1 := (hc1 w.heap.size 1 (by simp)); have p2 := (hc1 w.heap.size 2 (by simp)); have p3 := (hc1 w.heap.size 3 (by simp)); have p4 := (hc1 w.heap.size 4 (by simp)); have p5 := (hc1 w.heap.size 5 (by simp)); have p6 := (hc1 w.heap.size 6 (by simp))
    simp at p0 p1 p2 p3 p4 p5 p6
    simp at hs1
    go_wp2_with (at_builtin; refine wpK elemC rfl (.tmp 59) (.tmp 61) rfl base g (m + 1) cap _ rfl (O1.out.alloc _) ⟨w1.heap.size, 0, none⟩ 1 1 [.int .i64 c.a, .int .i64 c.b, .int .i64 c.c, .int .i64 c.d, .int .i64 c.l, .int .i64 c.h, .int .i64 c.r] rfl rfl (cells_new _ _ _) (one7 c) (by omega) (by simp; omega) ?_; intro v3 w3 G3; have GR := hid_in G3; clear G3)
    go_ret
    exact JoinP.app (n := m + 1) (out := x :: r) (by simp [hm]) HJ.out (below_later Z1.out (below_box _ _)) GR.out
  replace k1 := Decidable.not_not.1 k1
  have d1 : (x.a == c.a) = true := by simpa using k1
  by_cases k2 : ¬ (x.c = c.c)
  · have HJ : Hid (joinR (x :: r) c = c :: x :: r) := by show _ = _; simp [joinR, goesOn, k2]
    have d2 : (x.c == c.c) = false := by simpa using k2
    clear k2
    go_enter Try.func35, Try.ntmps35
    go_wp2_with fail
    refine wp_region_lat (Below.refl _ _) (by kernel_rfl) (by kernel_rfl) ?_
    intro hne hcl
    repeat (go_big_quiet_step (fail))
    refine wpQuiet_nil ?_
    intro w1 hb1
    obtain ⟨hc1, hf1⟩ := bcell hb1
    clear hne hcl
    have O1 := hid_in (owns_below O0.out hb1); have Z1 := hid_in (below_later Z0.out hb1)
    have hs1 := hb1.size
    have p0 := (hc1 w.heap.size 0 (by simp)); have p1 := (hc1 w.heap.size 1 (by simp)); have p2 := (hc1 w.heap.size 2 (by simp)); have p3 := (hc1 w.heap.size 3 (by simp)); have p4 := (hc1 w.heap.size 4 (by simp)); have p5 := (hc1 w.heap.size 5 (by simp)); have p6 := (hc1 w.heap.size 6 (by simp))
    simp at p0 p1 p2 p3 p4 p5 p6
    simp at hs1
    go_wp2_with (at_builtin; refine wpK elemC rfl (.tmp 59) (.tmp 61) rfl base g (m + 1) cap _ rfl (O1.out.alloc _) ⟨w1.heap.size, 0, none⟩ 1 1 [.int .i64 c.a, .int .i64 c.b, .int .i64 c.c, .int .i64 c.d, .int .i64 c.l, .int .i64 c.h, .int .i64 c.r] rfl rfl (cells_new _ _ _) (one7 c) (by omega) (by simp; omega) ?_; intro v3 w3 G3; have GR := hid_in G3; clear G3)
    go_ret
    exact JoinP.app (n := m + 1) (out := x :: r) (by simp [hm]) HJ.out (below_later Z1.out (below_box _ _)) GR.out
  replace k2 := Decidable.not_not.1 k2
  have d2 : (x.c == c.c) = true := by simpa using k2
  by_cases k3 : ¬ (x.h + 1 = c.l)
  · have HJ : Hid (joinR (x :: r) c = c :: x :: r) := by show _ = _; simp [joinR, goesOn, k3]
    have d3 : (x.h + 1 == c.l) = false := by simpa using k3
    clear k3
    go_enter Try.func35, Try.ntmps35
    go_wp2_with fail
    refine wp_region_lat (Below.refl _ _) (by kernel_rfl) (by kernel_rfl) ?_
    intro hne hcl
    repeat (go_big_quiet_step (fail))
    refine wpQuiet_nil ?_
    intro w1 hb1
    obtain ⟨hc1, hf1⟩ := bcell hb1
    clear hne hcl
    have O1 := hid_in (owns_below O0.out hb1); have Z1 := hid_in (below_later Z0.out hb1)
    have hs1 := hb1.size
    have p0 := (hc1 w.heap.size 0 (by simp)); have p1 := (hc1 w.heap.size 1 (by simp)); have p2 := (hc1 w.heap.size 2 (by simp)); have p3 := (hc1 w.heap.size 3 (by simp)); have p4 := (hc1 w.heap.size 4 (by simp)); have p5 := (hc1 w.heap.size 5 (by simp)); have p6 := (hc1 w.heap.size 6 (by simp))
    simp at p0 p1 p2 p3 p4 p5 p6
    simp at hs1
    go_wp2_with (at_builtin; refine wpK elemC rfl (.tmp 59) (.tmp 61) rfl base g (m + 1) cap _ rfl (O1.out.alloc _) ⟨w1.heap.size, 0, none⟩ 1 1 [.int .i64 c.a, .int .i64 c.b, .int .i64 c.c, .int .i64 c.d, .int .i64 c.l, .int .i64 c.h, .int .i64 c.r] rfl rfl (cells_new _ _ _) (one7 c) (by omega) (by simp; omega) ?_; intro v3 w3 G3; have GR := hid_in G3; clear G3)
    go_ret
    exact JoinP.app (n := m + 1) (out := x :: r) (by simp [hm]) HJ.out (below_later Z1.out (below_box _ _)) GR.out
  replace k3 := Decidable.not_not.1 k3
  have d3 : (x.h + 1 == c.l) = true := by simpa using k3
  have HJ : Hid (joinR (x :: r) c = { x with h := c.h } :: r) := by show _ = _; simp [joinR, goesOn, k0, k1, k2, k3]
  clear k0 k1 k2 k3
  go_enter Try.func35, Try.ntmps35
  go_wp2_with fail
  refine wp_region_lat (Below.refl _ _) (by kernel_rfl) (by kernel_rfl) ?_
  intro hne hcl
  repeat (go_big_quiet_step (fail))
  refine wpQuiet_nil ?_
  intro w1 hb1
  obtain ⟨hc1, hf1⟩ := bcell hb1
  clear hne hcl
  have O1 := hid_in (owns_below O0.out hb1); have Z1 := hid_in (below_later Z0.out hb1)
  have hs1 := hb1.size
  have p5 := (hc1 w.heap.size 5 (by simp)); have l5 := (hc1 g (m * 7 + 5) hglt).trans g5; have v5 := (hf1 g (m * 7 + 5) hglt).trans f5
  simp at p5
  simp at hs1
  have hgl1 : g < w1.heap.size := by omega
  go_wp2_with fail
  go_ret
  have hj := HJ.out
  refine ⟨g, cap, by rw [hj]; simp [hm], ?_, grown_set Z1.out, .inl rfl⟩
  have h1 := (World.ownsRow.stored O1.out (m * 7 + 5) (.int .i64 c.h)).1
  have e1 : (cvL (x :: r).reverse).set (m * 7 + 5) (.int .i64 c.h) = cvL (joinR (x :: r) c).reverse := by
    have e0 := cvL_set r.reverse x c.h
    rw [List.length_reverse, hm] at e0
    rw [hj, List.reverse_cons, List.reverse_cons]
    exact e0
  have e2 : (joinR (x :: r) c).length = m + 1 := by rw [hj]; simp [hm]
  rw [e1] at h1
  rw [e2]
  exact h1
theorem l5Join_any (base g cap : Nat) (out : List Cv) (c : Cv) (w : World) (hbase : base ≤ w.heap.size) (hl : out.length ≤ 100000) (hx : ∀ x ∈ out, -1 ≤ x.h ∧ x.h ≤ 4294967295)
    (ho : w.ownsRow base 30 7 (.slice (some ⟨g, 0, none⟩) out.length cap) out.length (cvL out.reverse)) :
    Calls Try.prog 35 #[.slice (some ⟨g, 0, none⟩) out.length cap, .agg #[.int .i64 c.a, .int .i64 c.b, .int .i64 c.c, .int .i64 c.d, .int .i64 c.l, .int .i64 c.h, .int .i64 c.r]] w (JoinP base g out c w) := by
  cases out with
  | nil => exact l5Join_nil base g cap c w hbase ho
  | cons x r => exact l5Join_cons base g cap r.length x r rfl c w hbase (by simp at hl; omega) (hx x (by simp)).1 (hx x (by simp)).2 ho
end Go.Proofs.Ytdljoopioglkiaa
