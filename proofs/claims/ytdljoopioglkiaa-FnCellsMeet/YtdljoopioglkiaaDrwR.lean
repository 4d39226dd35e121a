/- A block, drawn. The conditions stand at each theorem. -/
import Derived.Test.YtdljoopioglkiaaDrwQ
import Derived.Test.YtdljoopioglkiaaBlkA
import Derived.WalkKit
import Derived.WalkSpells
import Derived.WalkLawsBesides
import Derived.BigQuiet
import Derived.Deep.RegionWith
namespace Go.Proofs.Ytdljoopioglkiaa
open Go.RowKit Go.LatT Go.BlockM Go.RegE
set_option linter.unusedVariables false
set_option linter.unusedSimpArgs false
theorem Mv.poke {R g o : Nat} {w w' : World} (h : Mv R w w') (hg : w.heap.size ≤ g) (v : Value) : Mv R w (w'.setCell ⟨g, o, none⟩ v) :=
  ⟨h.os, h.tape, h.output, by simp only [World.setCell, Array.size_modify]; exact h.size, fun k hk hr => by rw [Below.heap_setCell _ _ _ _ (show k ≠ g by omega)]; exact h.block k hk hr⟩
theorem Rdr.over {w w3 : World} {R g : Nat} {sl : Value} {p q : Int} (h : Rdr w R sl p) (h3 : Rdr w3 R sl q) (hg : g ≠ R) (v0 v1 : Value) (m : Mv R w ((w3.setCell ⟨g, 0, none⟩ v0).setCell ⟨g, 1, none⟩ v1)) : Rdr ((w3.setCell ⟨g, 0, none⟩ v0).setCell ⟨g, 1, none⟩ v1) R sl q := by
  have c0 := h3.c0
  have c1 := h3.c1
  have fz := h3.fz
  have hg' : ¬ R = g := fun e => hg e.symm
  exact ⟨by go_simp, by go_simp, by go_simp, h.src_of m⟩
set_option maxHeartbeats 1000000 in
set_option maxRecDepth 100000 in
theorem l12Block_any (R : Nat) (sl : Value) (p : Int) (w : World) (h : Rdr w R sl p) (hp : 0 ≤ p) (hp' : p ≤ 900000000) :
    Calls Try.prog 37 #[.pointer (some ⟨R, 0, none⟩)] w fun e w' => ∃ a b : Int, e = .returned (.agg #[.int .i64 a, .int .i64 b]) ∧ okB a b = true ∧ (∃ q, p ≤ q ∧ q ≤ p + 20 ∧ Rdr w' R sl q) ∧ Mv R w w' := by
  have H := hid_in h
  have hlt := h.lt
  clear h
  go_enter Try.func37, Try.ntmps37
  go_wp2_with fail
  refine (l12Addr_any R sl p _ (H.out.later (below_box _ _)) (by omega) (by omega)).mono ?_
  rintro e w1 ⟨u1, rfl, a1, b1, ⟨q, q1, q2, h1⟩, m1⟩
  have H1 := hid_in h1; have M1 := hid_in m1; clear h1 m1
  go_wp2_with fail
  refine (oneN R sl _ [32, 31, 30, 28, 24, 24, 25, 16, 8, 1, 0, 29] 12 _ 3 w1 rfl rfl H1.out (by omega) (by omega) (by simp) (by simp)).mono ?_
  rintro e w2 ⟨u2, rfl, hu2, h2, m2⟩
  have H2 := hid_in h2; have M2 := hid_in (M1.out.trans m2); clear h2 m2 H1 M1
  have hu3 : 0 ≤ u2 ∧ u2 ≤ 32 := by
    simp only [List.mem_cons, List.not_mem_nil, or_false] at hu2
    omega
  obtain ⟨c2, d2⟩ := hu3
  clear hu2
  go_wp2_with fail
  refine (l1Over_any u1 u2 _ a1 b1 c2 d2).mono ?_
  rintro e w3 ⟨rfl, hb3⟩
  have H3 := hid_in (H2.out.later hb3); have M3 := hid_in (M2.out.trans (Mv.of_below hb3)); clear hb3 H2 M2
  have hR : w.heap.size ≠ R := by omega
  have e0 : w3.cell? ⟨w.heap.size, 0, none⟩ = some (.int .i64 0) := by rw [M3.out.cell _ _ (by simp) hR]; go_simp
  have e1 : w3.cell? ⟨w.heap.size, 1, none⟩ = some (.int .i64 0) := by rw [M3.out.cell _ _ (by simp) hR]; go_simp
  have e2 : w3.frozen? ⟨w.heap.size, 0, none⟩ = false := by rw [M3.out.frozen _ _ (by simp) hR]; go_simp
  have e3 : w3.frozen? ⟨w.heap.size, 1, none⟩ = false := by rw [M3.out.frozen _ _ (by simp) hR]; go_simp
  go_wp2_with fail
  have m := (((Mv.of_below (R := R) (below_box w (Obj.cells #[Value.int IntKind.i64 0, Value.int IntKind.i64 0] 58))).trans M3.out).poke (o := 0) (Nat.le_refl _) (.int .i64 (u1 / pw (32 - u2) * pw (32 - u2)))).poke (o := 1) (Nat.le_refl _) (.int .i64 u2)
  exact bodyPost_ret (v := .agg #[.int .i64 (u1 / pw (32 - u2) * pw (32 - u2)), .int .i64 u2]) (by simp [results, Try.results37, go_sem, e0, e1]) rfl
    ⟨_, _, rfl, fl_ok a1 b1 c2 d2, ⟨_, by omega, by omega, H.out.over H3.out hR _ _ m⟩, m⟩
end Go.Proofs.Ytdljoopioglkiaa
