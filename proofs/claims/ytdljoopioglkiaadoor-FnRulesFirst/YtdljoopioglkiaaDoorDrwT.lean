/- Any block, drawn. The conditions stand at each theorem. -/
import Derived.Test.YtdljoopioglkiaaDoorDrwR
import Derived.Test.YtdljoopioglkiaaDoorRegN
import Derived.WalkKit
import Derived.WalkSpells
import Derived.WalkLawsBesides
import Derived.BigQuiet
import Derived.Deep.RegionWith
namespace Go.Proofs.YtdljoopioglkiaaDoor
open Go.RowKit Go.LatT Go.BlockM Go.RegN
set_option linter.unusedVariables false
set_option linter.unusedSimpArgs false
/-- The class of a reader's worlds: all else is as it was, and it has gone on by a thousand a call at most. -/
def Rc (K R : Nat) (sl : Value) (p : Int) (w0 : World) (n : Nat) (w : World) : Prop := Mv R w0 w ∧ ∃ q, p ≤ q ∧ q ≤ p + 1000 * (min n K : Nat) ∧ Rdr w R sl q
theorem Rc.start {K R : Nat} {sl : Value} {p : Int} {w : World} (h : Rdr w R sl p) : Rc K R sl p w 0 w := ⟨Mv.refl _ _, p, by omega, by simp, h⟩
theorem Rdr.drew {R : Nat} {sl : Value} {p : Int} {w : World} (h : Rdr w R sl p) : Rdr w.drew R sl p := h.later ((Below.refl _ _).drew)
theorem Rc.drew {K R : Nat} {sl : Value} {p : Int} {w0 w : World} {n : Nat} (h : Rc K R sl p w0 n w) : Rc K R sl p w0 n w.drew := by
  obtain ⟨m, q, h1, h2, h3⟩ := h
  exact ⟨m.trans (Mv.of_below ((Below.refl _ _).drew)), q, h1, h2, h3.drew⟩
theorem Rc.alloc {K R : Nat} {sl : Value} {p : Int} {w0 : World} : ∀ n w o, Rc K R sl p w0 n w → Rc K R sl p w0 n (w.alloc o) := by
  intro n w o ⟨m, q, h1, h2, h3⟩
  exact ⟨m.trans (Mv.of_below (below_box _ _)), q, h1, h2, h3.later (below_box _ _)⟩
theorem Rc.size {K R : Nat} {sl : Value} {p : Int} {w0 : World} : ∀ n w, Rc K R sl p w0 n w → w0.heap.size ≤ w.heap.size := fun _ _ h => h.1.size
theorem Mv.keep {R H : Nat} {w w' : World} (h : Mv R w w') (hR : R < H) : Keep H w w' := fun g hg hl => h.block g hl (by omega)
/-- What a choice of a list needs: that the list lies there. -/
def needOne (one : FuncId) (arr : Array Value) (f : FuncId) (args : Array Value) : List (Nat × Obj) :=
  if f = one then (match (args[1]? : Option Value) with | some (Value.slice (some ad) _ _) => [(ad.block, Obj.cells arr 3)] | _ => []) else []
theorem Rc.one {R : Nat} {sl : Value} {p : Int} {w0 : World} {H N g n : Nat} {Post : FuncId → Array Value → Value → Prop} (vs : List Int) (arr : Array Value) (hR : R < H) (hp : 0 ≤ p) (hp' : p + 1000 * N ≤ 1099511627776) (harr : arr = (vs.map fun v => Value.int .i64 v).toArray) (hn : n = vs.length)
    (hl : 1 ≤ vs.length) (hl' : vs.length ≤ 100) (hpost : ∀ u ∈ vs, Post 83 #[.pointer (some ⟨R, 0, none⟩), .slice (some ⟨g, 0, none⟩) n n] (.int .i64 u)) :
    Contract Tryd.prog (Rc N R sl p w0) H N Post (needOne 83 arr) 83 #[.pointer (some ⟨R, 0, none⟩), .slice (some ⟨g, 0, none⟩) n n] := by
  intro k w hk ⟨m, q, h1, h2, h3⟩ hneed
  have hh := hneed (g, .cells arr 3) (by simp [needOne])
  subst harr hn
  have hg : H ≤ g := hh.1
  refine (oneM R g sl q vs w h3 (by omega) (by omega) (by omega) hl hl' (fun i hi => ?_)).mono ?_
  · have := held_cell hh i (by simpa using hi)
    rw [this]; simp [hi]
  · rintro e w' ⟨u, rfl, hu, h4, h5⟩
    exact ⟨_, rfl, hpost u hu, ⟨m.trans h5, q + 1, by omega, by omega, h4⟩, h5.keep hR⟩
def postOne (vs : List Int) (f : FuncId) (_ : Array Value) (u : Value) : Prop := f = 83 → ∃ x ∈ vs, u = .int .i64 x
theorem Rdr.pokes {w w' : World} {R : Nat} {sl : Value} {p q : Int} (h : Rdr w R sl p) (c0 : w'.cell? ⟨R, 0, none⟩ = some sl) (c1 : w'.cell? ⟨R, 1, none⟩ = some (.int .i64 q)) (fz : w'.frozen? ⟨R, 1, none⟩ = false) (m : Mv R w w') : Rdr w' R sl q :=
  ⟨c0, c1, fz, h.src_of m⟩
set_option maxHeartbeats 1000000 in
set_option maxRecDepth 100000 in
theorem l12AnyBlock_any (R : Nat) (sl : Value) (p : Int) (w : World) (h : Rdr w R sl p) (hp : 0 ≤ p) (hp' : p ≤ 800000000) :
    Calls Tryd.prog 96 #[.pointer (some ⟨R, 0, none⟩)] w fun e w' => ∃ a b : Int, e = .returned (.agg #[.int .i64 a, .int .i64 b]) ∧ -1 ≤ a ∧ a ≤ 4294967551 ∧ -1 ≤ b ∧ b ≤ 33 ∧ (∃ q, p ≤ q ∧ q ≤ p + 20000 ∧ Rdr w' R sl q) ∧ Mv R w w' := by
  have H := hid_in h
  have hlt := h.lt
  clear h
  go_enter Tryd.func96, Tryd.ntmps96
  go_wp2_with fail
  refine (l12Block_any R sl p _ (H.out.later (below_box _ _)) (by omega) (by omega)).mono ?_
  rintro e w1 ⟨a, b, rfl, hok, ⟨q, q1, q2, h1⟩, m1⟩
  obtain ⟨a0, a1, b0, b1, _⟩ := ok_of hok
  have hs1 := m1.size
  simp at hs1
  have hR : w.heap.size ≠ R := by omega
  have e0 : w1.cell? ⟨w.heap.size, 0, none⟩ = some (.int .i64 0) := by rw [m1.cell _ _ (by simp) hR]; go_simp
  have e1 : w1.cell? ⟨w.heap.size, 1, none⟩ = some (.int .i64 0) := by rw [m1.cell _ _ (by simp) hR]; go_simp
  have e2 : w1.frozen? ⟨w.heap.size, 0, none⟩ = false := by rw [m1.frozen _ _ (by simp) hR]; go_simp
  have e3 : w1.frozen? ⟨w.heap.size, 1, none⟩ = false := by rw [m1.frozen _ _ (by simp) hR]; go_simp
  have H1 := hid_in h1; have M1 := hid_in ((Mv.of_below (below_box _ _)).trans m1); clear h1 m1 hok
  go_wp2_with fail
  have hb := below_box w1 (Obj.cells #[Value.int IntKind.i64 a, Value.int IntKind.i64 b] 32)
  refine (pickM R sl q 16 _ (H1.out.later hb) (by omega) (by omega) (by omega) (by omega)).mono ?_
  rintro e w2 ⟨u2, rfl, a2, b2, h2, m2⟩
  have hs2 := m2.size
  simp at hs2
  have hG : w1.heap.size ≠ R := by omega
  have n1 : ¬ w.heap.size = w1.heap.size := by omega
  have c0 : w2.cell? ⟨w1.heap.size, 0, none⟩ = some (.int .i64 a) := by rw [m2.cell _ _ (by simp) hG]; go_simp
  have c1 : w2.cell? ⟨w1.heap.size, 1, none⟩ = some (.int .i64 b) := by rw [m2.cell _ _ (by simp) hG]; go_simp
  have c2 : w2.frozen? ⟨w1.heap.size, 0, none⟩ = false := by rw [m2.frozen _ _ (by simp) hG]; go_simp
  have c3 : w2.frozen? ⟨w1.heap.size, 1, none⟩ = false := by rw [m2.frozen _ _ (by simp) hG]; go_simp
  have d0 : w2.cell? ⟨w.heap.size, 0, none⟩ = some (.int .i64 0) := by rw [m2.cell _ _ (by simp; omega) hR, (bcell hb).1 _ _ (by omega)]; exact e0
  have d1 : w2.cell? ⟨w.heap.size, 1, none⟩ = some (.int .i64 0) := by rw [m2.cell _ _ (by simp; omega) hR, (bcell hb).1 _ _ (by omega)]; exact e1
  have d2 : w2.frozen? ⟨w.heap.size, 0, none⟩ = false := by rw [m2.frozen _ _ (by simp; omega) hR, (bcell hb).2 _ _ (by omega)]; exact e2
  have d3 : w2.frozen? ⟨w.heap.size, 1, none⟩ = false := by rw [m2.frozen _ _ (by simp; omega) hR, (bcell hb).2 _ _ (by omega)]; exact e3
  have H2 := hid_in h2; have M2 := hid_in (M1.out.trans ((Mv.of_below hb).trans m2)); clear h2 m2 H1 M1 hb e0 e1 e2 e3
  have hlt2 := H2.out.lt
  have s2 : w1.heap.size < w2.heap.size := by omega
  have s1 : w.heap.size < w2.heap.size := by omega
  by_cases hz : u2 = 0
  · subst hz
    go_wp2_with fail
    refine wp_region_E (needs := needOne 83 #[.int .i64 1, .int .i64 (-1), .int .i64 256]) (Rc 8 R sl (q + 1) w2) w2.heap.size (postOne [1, -1, 256]) (by kernel_rfl) (by dsimp only [List.dropLast]) (by simp only [List.getLast?_cons_cons, List.getLast?_singleton]; rfl) (by kernel_rfl) (Rc.start H2.out).drew Rc.alloc Rc.size ?_
    have hne : Nonempty (LatC (Rc 8 R sl (q + 1) w2)) := ⟨⟨0, w2, Rc.start H2.out⟩⟩
    have hcl : ∀ l : LatC (Rc 8 R sl (q + 1) w2), l.x.cell? ⟨w1.heap.size, 0, none⟩ = some (.int .i64 a) := fun l => by rw [l.h.1.cell _ _ s2 hG]; exact c0
    refine wpE_one rfl rfl ?_
    go_big_quiet_step (fail)
    refine wpQuiet_nil ?_
    refine wpE_one rfl rfl ?_
    go_big_quiet_step (fail)
    refine wpQuiet_nil ?_
    refine wpE_one rfl rfl ?_
    go_big_quiet_step (fail)
    refine wpQuiet_nil ?_
    refine wpE_new (mk := fun g => .slice (some ⟨g, 0, none⟩) 3 3) (ob := .cells #[.int .i64 1, .int .i64 (-1), .int .i64 256] 3) (by rfl) Rc.size (fun _ => by go_simp) ?_
    intro g3 hg3
    simp only [Act.put, List.setIfInBounds_toArray, List.set_cons_succ, List.set_cons_zero]
    refine wpE_call (by rfl) (fun _ => by go_simp) (Rc.one (g := g3) [1, -1, 256] _ hlt2 (by omega) (by simp; omega) rfl rfl (by simp) (by simp) (fun u hu _ => ⟨u, hu, rfl⟩)) ⟨.int .i64 1, fun _ => ⟨1, by simp, rfl⟩⟩ (by simp [needOne]) ?_
    intro u3 hu3
    obtain ⟨x3, hx3, rfl⟩ := hu3 rfl
    have hx : -1 ≤ x3 ∧ x3 ≤ 256 := by
      simp only [List.mem_cons, List.not_mem_nil, or_false] at hx3
      omega
    obtain ⟨hx1, hx2⟩ := hx
    clear hx3 hu3
    simp only [Act.put, List.setIfInBounds_toArray, List.set_cons_succ, List.set_cons_zero]
    refine wpE_one rfl rfl ?_
    go_big_quiet_step (fail)
    refine wpQuiet_nil ?_
    refine wpE_one rfl rfl ?_
    go_big_quiet_step (fail)
    refine wpQuiet_nil ?_
    refine wpE_nil ?_
    rintro m3 w3 ⟨M3, q3, hq1, hq2, h3⟩ hh
    have k0 : w3.cell? ⟨w1.heap.size, 0, none⟩ = some (.int .i64 a) := by rw [M3.cell _ _ s2 hG]; exact c0
    have k1 : w3.cell? ⟨w1.heap.size, 1, none⟩ = some (.int .i64 b) := by rw [M3.cell _ _ s2 hG]; exact c1
    have k2 : w3.frozen? ⟨w1.heap.size, 0, none⟩ = false := by rw [M3.frozen _ _ s2 hG]; exact c2
    have k3 : w3.frozen? ⟨w1.heap.size, 1, none⟩ = false := by rw [M3.frozen _ _ s2 hG]; exact c3
    have l0 : w3.cell? ⟨w.heap.size, 0, none⟩ = some (.int .i64 0) := by rw [M3.cell _ _ s1 hR]; exact d0
    have l1 : w3.cell? ⟨w.heap.size, 1, none⟩ = some (.int .i64 0) := by rw [M3.cell _ _ s1 hR]; exact d1
    have l2 : w3.frozen? ⟨w.heap.size, 0, none⟩ = false := by rw [M3.frozen _ _ s1 hR]; exact d2
    have l3 : w3.frozen? ⟨w.heap.size, 1, none⟩ = false := by rw [M3.frozen _ _ s1 hR]; exact d3
    have n2 : ¬ w1.heap.size = w.heap.size := by omega
    have mm : Mv R w w3 := M2.out.trans M3
    have hH3 := hid_in h3; have MM := hid_in mm; have HM3 := hid_in M3; clear h3 mm M3 hh hne hcl c0 c1 c2 c3 d0 d1 d2 d3
    go_wp2_with fail
    have r0 := hH3.out.c0
    have r1 := hH3.out.c1
    have r2 := hH3.out.fz
    have n3 : ¬ R = w1.heap.size := fun e => hG e.symm
    have n4 : ¬ R = w.heap.size := fun e => hR e.symm
    have m := (((MM.out.poke (g := w1.heap.size) (o := 0) (by omega) (.int .i64 (a + x3))).poke (g := w.heap.size) (o := 0) (Nat.le_refl _) (.int .i64 (a + x3)))).poke (g := w.heap.size) (o := 1) (Nat.le_refl _) (.int .i64 b)
    exact bodyPost_ret (v := .agg #[.int .i64 (a + x3), .int .i64 b]) (by simp [results, Tryd.results96, go_sem, l0, l1, k0, k1, n1, n2]) rfl
      ⟨_, _, rfl, by omega, by omega, by omega, by omega, ⟨q3, by omega, by omega, H.out.pokes (by go_simp) (by go_simp) (by go_simp) m⟩, m⟩
  · have hz' : (u2 == 0) = false := by simpa using hz
    by_cases hy : u2 = 1
    · subst hy
      go_wp2_with fail
      refine (oneN R sl _ [-1, 33, 0, 32] 4 _ 3 w2 rfl rfl H2.out (by omega) (by omega) (by simp) (by simp)).mono ?_
      rintro e w3 ⟨x3, rfl, hx3, h3, M3⟩
      have hx : -1 ≤ x3 ∧ x3 ≤ 33 := by
        simp only [List.mem_cons, List.not_mem_nil, or_false] at hx3
        omega
      obtain ⟨hx1, hx2⟩ := hx
      clear hx3
      have k0 : w3.cell? ⟨w1.heap.size, 0, none⟩ = some (.int .i64 a) := by rw [M3.cell _ _ s2 hG]; exact c0
      have k1 : w3.cell? ⟨w1.heap.size, 1, none⟩ = some (.int .i64 b) := by rw [M3.cell _ _ s2 hG]; exact c1
      have k2 : w3.frozen? ⟨w1.heap.size, 0, none⟩ = false := by rw [M3.frozen _ _ s2 hG]; exact c2
      have k3 : w3.frozen? ⟨w1.heap.size, 1, none⟩ = false := by rw [M3.frozen _ _ s2 hG]; exact c3
      have l0 : w3.cell? ⟨w.heap.size, 0, none⟩ = some (.int .i64 0) := by rw [M3.cell _ _ s1 hR]; exact d0
      have l1 : w3.cell? ⟨w.heap.size, 1, none⟩ = some (.int .i64 0) := by rw [M3.cell _ _ s1 hR]; exact d1
      have l2 : w3.frozen? ⟨w.heap.size, 0, none⟩ = false := by rw [M3.frozen _ _ s1 hR]; exact d2
      have l3 : w3.frozen? ⟨w.heap.size, 1, none⟩ = false := by rw [M3.frozen _ _ s1 hR]; exact d3
      have n2 : ¬ w1.heap.size = w.heap.size := by omega
      have hH3 := hid_in h3; have MM := hid_in (M2.out.trans M3); clear h3 M3 c0 c1 c2 c3 d0 d1 d2 d3
      go_wp2_with fail
      have r0 := hH3.out.c0
      have r1 := hH3.out.c1
      have r2 := hH3.out.fz
      have n3 : ¬ R = w1.heap.size := fun e => hG e.symm
      have n4 : ¬ R = w.heap.size := fun e => hR e.symm
      have m := (((MM.out.poke (g := w1.heap.size) (o := 1) (by omega) (.int .i64 x3)).poke (g := w.heap.size) (o := 0) (Nat.le_refl _) (.int .i64 a))).poke (g := w.heap.size) (o := 1) (Nat.le_refl _) (.int .i64 x3)
      exact bodyPost_ret (v := .agg #[.int .i64 a, .int .i64 x3]) (by simp [results, Tryd.results96, go_sem, l0, l1, k0, k1, n1, n2]) rfl
        ⟨_, _, rfl, by omega, by omega, by omega, by omega, ⟨q + 1 + 1, by omega, by omega, H.out.pokes (by go_simp) (by go_simp) (by go_simp) m⟩, m⟩
    · have hy' : (u2 == 1) = false := by simpa using hy
      have hH3 := H2
      have MM := M2
      clear hz hy
      go_wp2_with fail
      have r0 := hH3.out.c0
      have r1 := hH3.out.c1
      have r2 := hH3.out.fz
      have n3 : ¬ R = w1.heap.size := fun e => hG e.symm
      have n4 : ¬ R = w.heap.size := fun e => hR e.symm
      have m := (MM.out.poke (g := w.heap.size) (o := 0) (Nat.le_refl _) (.int .i64 a)).poke (g := w.heap.size) (o := 1) (Nat.le_refl _) (.int .i64 b)
      exact bodyPost_ret (v := .agg #[.int .i64 a, .int .i64 b]) (by simp [results, Tryd.results96, go_sem, d0, d1]) rfl
        ⟨_, _, rfl, by omega, by omega, by omega, by omega, ⟨q + 1, by omega, by omega, H.out.pokes (by go_simp) (by go_simp) (by go_simp) m⟩, m⟩
end Go.Proofs.YtdljoopioglkiaaDoor
