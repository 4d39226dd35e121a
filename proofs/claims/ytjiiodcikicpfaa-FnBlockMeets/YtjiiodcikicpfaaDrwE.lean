/- What each function of blocks answers, in the program and in the specification, as contracts: the answer, and that nothing which was there has turned. The conditions stand at each theorem. -/
import Derived.Test.YtjiiodcikicpfaaDrwD
import Derived.Test.YtjiiodcikicpfaaBlkF
import Derived.Test.YtjiiodcikicpfaaMathH
import Derived.Test.YtjiiodcikicpfaaRegN
import Derived.Test.YtjiiodcikicpfaaMath
import Derived.WalkKit
import Derived.WalkSpells
import Derived.WalkLawsBesides
import Derived.BigQuiet
import Derived.Deep.RegionWith
namespace Go.Proofs.Ytjiiodcikicpfaa
open Go.RowKit Go.LatT Go.BlockM Go.RegN
set_option linter.unusedVariables false
set_option linter.unusedSimpArgs false
/-- A block of two numbers. -/
def Bx (w : World) (g : Nat) (x y : Int) : Prop := w.heap[g]? = some (.cells #[.int .i64 x, .int .i64 y] 24)
theorem Bx.lt {w : World} {g : Nat} {x y : Int} (h : Bx w g x y) : g < w.heap.size := (Array.getElem?_eq_some_iff.1 h).1
theorem Bx.mv {w w' : World} {R g : Nat} {x y : Int} (h : Bx w g x y) (m : Mv R w w') (hg : g ≠ R) : Bx w' g x y := by
  unfold Bx; rw [m.block g h.lt hg]; exact h
theorem Bx.later {w w' : World} {g : Nat} {x y : Int} (h : Bx w g x y) (hb : Below w.heap.size w w') : Bx w' g x y :=
  h.mv (R := g + 1) (Mv.of_below hb) (by omega)
theorem Bx.new (w : World) (x y : Int) : Bx (w.alloc (.cells #[.int .i64 x, .int .i64 y] 24)) w.heap.size x y := heap_new _ _ _ rfl
theorem Mv.wput {R g : Nat} {w w' : World} (h : Mv R w w') (hg : w.heap.size ≤ g) (ob : Obj) : Mv R w (wput w' g ob) :=
  ⟨h.os, h.tape, h.output, by rw [wput_size]; exact h.size, fun k hk hr => by
    show (w'.heap.setIfInBounds g ob)[k]? = _
    rw [Array.getElem?_setIfInBounds_ne (by omega)]; exact h.block k hk hr⟩
theorem Mv.put (g : Nat) (w : World) (ob : Obj) : Mv g w (RegN.wput w g ob) :=
  ⟨rfl, rfl, rfl, by rw [wput_size]; exact Nat.le_refl _, fun k hk hr => by
    show (w.heap.setIfInBounds g ob)[k]? = _
    rw [Array.getElem?_setIfInBounds_ne (by omega)]⟩
/-- The worlds of a reader that goes on, beside one known block of two numbers and some owned pairs. -/
structure Rp (K R : Nat) (sl : Value) (p : Int) (w0 : World) (G : Nat) (a b : Int) (rs : List Nat) (n : Nat) (w : World) : Prop where
  mv : Mv R w0 w
  rd : ∃ q, p ≤ q ∧ q ≤ p + 100000 * (min n K : Nat) ∧ Rdr w R sl q
  box : Bx w G a b
  pair : ∀ r ∈ rs, ∃ x0 x1, w.heap[r]? = some (.cells #[x0, x1] 24)
section
variable {K R : Nat} {sl : Value} {p : Int} {w0 : World} {G : Nat} {a b : Int} {rs : List Nat}
theorem Rp.below {n : Nat} {w w' : World} (h : Rp K R sl p w0 G a b rs n w) (hb : Below w.heap.size w w') : Rp K R sl p w0 G a b rs n w' := by
  obtain ⟨q, q1, q2, hq⟩ := h.rd
  exact ⟨h.mv.trans (Mv.of_below hb), ⟨q, q1, q2, hq.later hb⟩, h.box.later hb, fun r hr => by
    obtain ⟨x0, x1, hx⟩ := h.pair r hr
    exact ⟨x0, x1, by rw [hb.block _ (Array.getElem?_eq_some_iff.1 hx).1]; exact hx⟩⟩
theorem Rp.alloc : ∀ n w o, Rp K R sl p w0 G a b rs n w → Rp K R sl p w0 G a b rs n (w.alloc o) := fun _ _ _ h => h.below (below_box _ _)
theorem Rp.drew {n : Nat} {w : World} (h : Rp K R sl p w0 G a b rs n w) : Rp K R sl p w0 G a b rs n w.drew := h.below ((Below.refl _ _).drew)
theorem Rp.size : ∀ n w, Rp K R sl p w0 G a b rs n w → w0.heap.size ≤ w.heap.size := fun _ _ h => h.mv.size
theorem Rp.put {p0 : Int} (H : Rdr w0 R sl p0) {g : Nat} (hg : w0.heap.size ≤ g) (hgG : G ≠ g) : ∀ n w ob, pairSh 24 ob → Rp K R sl p w0 G a b rs n w → Rp K R sl p w0 G a b rs n (wput w g ob) := by
  intro n w ob ⟨x0, x1, hob⟩ h
  have hlt := H.lt
  have m := h.mv.wput hg ob
  have m' := Mv.put g w ob
  have hRg : R ≠ g := by omega
  obtain ⟨q, q1, q2, hq⟩ := h.rd
  refine ⟨m, ⟨q, q1, q2, H.pokes ?_ ?_ ?_ m⟩, h.box.mv m' hgG, fun r hr => ?_⟩
  · rw [m'.cell _ _ hq.lt hRg]; exact hq.c0
  · rw [m'.cell _ _ hq.lt hRg]; exact hq.c1
  · rw [m'.frozen _ _ hq.lt hRg]; exact hq.fz
  · obtain ⟨y0, y1, hy⟩ := h.pair r hr
    have hlt := (Array.getElem?_eq_some_iff.1 hy).1
    by_cases hgr : r = g
    · subst hgr
      exact ⟨x0, x1, by show (w.heap.setIfInBounds r ob)[r]? = _; rw [Array.getElem?_setIfInBounds_self_of_lt hlt, hob]⟩
    · exact ⟨y0, y1, by rw [m'.block _ hlt hgr]; exact hy⟩
theorem Rp.contract {P : Program} {H : Nat} {Post : FuncId → Array Value → Value → Prop} {needs : FuncId → Array Value → List (Nat × Obj)} {f : FuncId} {args : Array Value} (hR : R < H) (hG : G ≠ R) (hrs : ∀ r ∈ rs, r ≠ R) (hp : 0 ≤ p) (hp' : p + 100000 * K ≤ 800000000)
    (hc : ∀ w q, 0 ≤ q → q ≤ 800000000 → Rdr w R sl q → (∀ p ∈ needs f args, Held H w p) → Calls P f args w fun e w' => ∃ u, e = .returned u ∧ Post f args u ∧ (∃ q', q ≤ q' ∧ q' ≤ q + 100000 ∧ Rdr w' R sl q') ∧ Mv R w w') :
    Contract P (Rp K R sl p w0 G a b rs) H K Post needs f args := by
  intro n w hn h hneed
  obtain ⟨q, q1, q2, hq⟩ := h.rd
  refine (hc w q (by omega) (by omega) hq hneed).mono ?_
  rintro e w' ⟨u, rfl, hu, ⟨q', h1, h2, h3⟩, m⟩
  exact ⟨u, rfl, hu, ⟨h.mv.trans m, ⟨q', by omega, by omega, h3⟩, h.box.mv m hG, fun r hr => by
    obtain ⟨x0, x1, hx⟩ := h.pair r hr
    exact ⟨x0, x1, by rw [m.block _ (Array.getElem?_eq_some_iff.1 hx).1 (hrs r hr)]; exact hx⟩⟩, m.keep hR⟩
/-- A callee that leaves all that was there. -/
theorem Rp.calls {P : Program} {H : Nat} {Post : FuncId → Array Value → Value → Prop} {needs : FuncId → Array Value → List (Nat × Obj)} {f : FuncId} {args : Array Value} (v : Value) (hR : R < H) (hG : G ≠ R) (hrs : ∀ r ∈ rs, r ≠ R) (hp : 0 ≤ p) (hp' : p + 100000 * K ≤ 800000000)
    (h : ∀ w, Calls P f args w fun e w' => e = .returned v ∧ Below w.heap.size w w') (hv : Post f args v) :
    Contract P (Rp K R sl p w0 G a b rs) H K Post needs f args :=
  Rp.contract hR hG hrs hp hp' fun w q h0 h1 hq _ => (h w).mono fun _ _ ⟨he, hb⟩ => ⟨v, he, hv, ⟨q, by omega, by omega, hq.later hb⟩, Mv.of_below hb⟩
end
def postPick (m : Int) (f : FuncId) (_ : Array Value) (u : Value) : Prop := f = 40 → ∃ x : Int, u = .int .i64 x ∧ 0 ≤ x ∧ x < m
def postAny (f : FuncId) (_ : Array Value) (u : Value) : Prop := f = 39 → ∃ c d : Int, u = .agg #[.int .i64 c, .int .i64 d] ∧ -1 ≤ c ∧ c ≤ 4294967551 ∧ -1 ≤ d ∧ d ≤ 33
def postTwo (a z t : Int) (f : FuncId) (args : Array Value) (u : Value) : Prop :=
  (f = 41 → u = .int .i64 a ∨ u = .int .i64 z) ∧ (f = 42 → u = .int .i64 z) ∧
    (f = 58 → ∀ x : Int, args = #[.int .i64 x, .int .i64 t] → u = .agg #[.int .i64 (x / pw (32 - t) * pw (32 - t)), .int .i64 t])
/-- As before, of blocks that lie behind the owned ones. -/
def needFrom (M : Nat) (one : FuncId) (arr : Array Value) (f : FuncId) (args : Array Value) : List (Nat × Obj) := (needOne one arr f args).filter fun p => decide (M ≤ p.1)
theorem Rp.one2 {M K R : Nat} {sl : Value} {p : Int} {w0 : World} {G : Nat} {a b : Int} {rs : List Nat} {H g : Nat} {Post : FuncId → Array Value → Value → Prop} (x z : Int) (hM : M ≤ g) (hR : R < H) (hG : G ≠ R) (hrs : ∀ r ∈ rs, r ≠ R) (hp : 0 ≤ p) (hp' : p + 100000 * K ≤ 800000000)
    (h0 : Post 41 #[.pointer (some ⟨R, 0, none⟩), .slice (some ⟨g, 0, none⟩) 2 2] (.int .i64 x)) (h1 : Post 41 #[.pointer (some ⟨R, 0, none⟩), .slice (some ⟨g, 0, none⟩) 2 2] (.int .i64 z)) :
    Contract Try.prog (Rp K R sl p w0 G a b rs) H K Post (needFrom M 41 #[.int .i64 x, .int .i64 z]) 41 #[.pointer (some ⟨R, 0, none⟩), .slice (some ⟨g, 0, none⟩) 2 2] := by
  refine Rp.contract hR hG hrs hp hp' fun w q q0 q1 hq hneed => ?_
  have hh := hneed (g, .cells #[.int .i64 x, .int .i64 z] 3) (by simp [needFrom, needOne, hM])
  have hg : H ≤ g := hh.1
  refine (oneM R g sl q [x, z] w hq (by omega) (by omega) (by omega) (by simp) (by simp) (fun i hi => ?_)).mono ?_
  · have := held_cell hh i (by simpa using hi)
    rw [this]
    rcases i with _ | _ | i
    · rfl
    · rfl
    · simp at hi; omega
  · rintro e w' ⟨u, rfl, hu, h4, h5⟩
    refine ⟨_, rfl, ?_, ⟨q + 1, by omega, by omega, h4⟩, h5⟩
    simp only [List.mem_cons, List.not_mem_nil, or_false] at hu
    rcases hu with rfl | rfl
    · exact h0
    · exact h1
set_option maxHeartbeats 4000000 in
set_option maxRecDepth 100000 in
theorem l12Two_any (R : Nat) (sl : Value) (p : Int) (w : World) (h : Rdr w R sl p) (hp : 0 ≤ p) (hp' : p ≤ 700000000) :
    Calls Try.prog 53 #[.pointer (some ⟨R, 0, none⟩)] w fun e w' => ∃ a b c d : Int, e = .returned (.tuple #[.agg #[.int .i64 a, .int .i64 b], .agg #[.int .i64 c, .int .i64 d]]) ∧ -1 ≤ a ∧ a ≤ 4294967551 ∧ -1 ≤ b ∧ b ≤ 33 ∧ -1 ≤ c ∧ c ≤ 4294967551 ∧ -1 ≤ d ∧ d ≤ 33 ∧ Mv R w w' := by
  have H := hid_in h
  have hlt := h.lt
  clear h
  go_enter Try.func53, Try.ntmps53
  go_wp2_with fail
  have hb := below_later (below_box w (Obj.cells #[Value.int IntKind.i64 0, Value.int IntKind.i64 0] 24)) (below_box _ (Obj.cells #[Value.int IntKind.i64 0, Value.int IntKind.i64 0] 24))
  have X0 := ((Bx.new w 0 0).later (below_box _ (Obj.cells #[Value.int IntKind.i64 0, Value.int IntKind.i64 0] 24)))
  have X1 := (Bx.new (w.alloc (Obj.cells #[Value.int IntKind.i64 0, Value.int IntKind.i64 0] 24)) 0 0)
  rw [show (w.alloc (Obj.cells #[Value.int IntKind.i64 0, Value.int IntKind.i64 0] 24)).heap.size = w.heap.size + 1 by simp] at X1
  refine (l12AnyBlock_any R sl p _ (H.out.later hb) (by omega) (by omega)).mono ?_
  rintro e w1 ⟨a, b, rfl, a0, a1, b0, b1, ⟨q, q1, q2, h1⟩, m1⟩
  have hR : w.heap.size ≠ R := by omega
  have hR1 : w.heap.size + 1 ≠ R := by omega
  have E0 := hid_in (X0.mv m1 hR)
  have E1 := hid_in (X1.mv m1 hR1)
  have H1 := hid_in h1; have M1 := hid_in ((Mv.of_below hb).trans m1); clear h1 m1 hb X0 X1
  go_wp2_with fail
  have hb := below_box w1 (Obj.cells #[Value.int IntKind.i64 a, Value.int IntKind.i64 b] 24)
  obtain ⟨v, hv⟩ : ∃ v, okB a b = v := ⟨_, rfl⟩
  refine (specOk a b _ v hv).mono ?_
  rintro e w2 ⟨rfl, hb2⟩
  have z2 := below_later hb hb2
  have s1 : w.heap.size + 1 < w1.heap.size := E1.out.lt
  have s2 : R < w1.heap.size := H1.out.lt
  have G2 := hid_in ((Bx.new w1 a b).later hb2)
  have F0 := hid_in (E0.out.later z2)
  have F1 := hid_in (E1.out.later z2)
  have H2 := hid_in (H1.out.later z2)
  have M2 := hid_in (M1.out.trans (Mv.of_below z2))
  have hG : w1.heap.size ≠ R := by omega
  clear H1 M1 E0 E1 hb hb2 z2
  have hrs : ∀ r ∈ [w.heap.size, w.heap.size + 1], r ≠ R := by simp; omega
  cases v
  · clear hv
    go_wp2_with fail
    have c0 : Rp 5 R sl q w w1.heap.size a b [w.heap.size, w.heap.size + 1] 0 w2 := ⟨M2.out, ⟨q, by omega, by omega, H2.out⟩, G2.out, fun r hr => by
      rcases List.mem_cons.1 hr with rfl | hr
      · exact ⟨_, _, F0.out⟩
      · rcases List.mem_singleton.1 hr with rfl; exact ⟨_, _, F1.out⟩⟩
    refine wp_region_E0 (needs := fun _ _ => []) (Rp 5 R sl q w w1.heap.size a b [w.heap.size, w.heap.size + 1]) w.heap.size (w.heap.size + 1 + 1) postAny (pairSh 24) (ownBy [2, 3] (fun t => if t = 2 then w.heap.size else w.heap.size + 1))
      (by kernel_rfl) (by kernel_rfl) c0.drew Rp.alloc Rp.size (fun n v h => by obtain ⟨x0, x1, hx⟩ := h.pair (w.heap.size + 1) (by simp); have := (Array.getElem?_eq_some_iff.1 hx).1; omega)
      (by simp) (ownB_of_key (by kernel_rfl) (by simp)) ?hp ?_
    case hp =>
      intro x _ g hg
      obtain ⟨t, ht, rfl⟩ := ownBy_mem hg
      rcases List.mem_cons.1 ht with rfl | ht
      · exact ⟨by simp, by simp <;> omega, Rp.put H.out (by simp) (by simp <;> omega)⟩
      · rcases List.mem_singleton.1 ht with rfl
        exact ⟨by simp, by simp <;> omega, Rp.put H.out (by simp) (by simp <;> omega)⟩
    have hne : Nonempty (LatC (Rp 5 R sl q w w1.heap.size a b [w.heap.size, w.heap.size + 1])) := ⟨⟨0, _, c0⟩⟩
    have k0 : ∀ l : LatC (Rp 5 R sl q w w1.heap.size a b [w.heap.size, w.heap.size + 1]), l.x.cell? ⟨w1.heap.size, 0, none⟩ = some (.int .i64 a) := fun l => (pair_cells l.h.box).1
    have k1 : ∀ l : LatC (Rp 5 R sl q w w1.heap.size a b [w.heap.size, w.heap.size + 1]), l.x.cell? ⟨w1.heap.size, 1, none⟩ = some (.int .i64 b) := fun l => (pair_cells l.h.box).2.1
    refine wpE_one rfl rfl ?_
    go_big_quiet_step (fail)
    refine wpQuiet_nil ?_
    refine wpE_one rfl rfl ?_
    go_big_quiet_step (fail)
    refine wpQuiet_nil ?_
    refine wpE_call (by rfl) (fun _ => by go_simp) (Rp.contract hlt hG hrs (by omega) (by omega) (fun w q h0 h1 hq _ => (l12AnyBlock_any R sl q w hq h0 h1).mono fun _ _ ⟨c, d, he, c0, c1, d0, d1, ⟨q', h2, h3, h4⟩, m⟩ => ⟨_, he, fun _ => ⟨c, d, rfl, c0, c1, d0, d1⟩, ⟨q', h2, by omega, h4⟩, m⟩)) ⟨.agg #[.int .i64 0, .int .i64 0], fun _ => ⟨0, 0, rfl, by omega, by omega, by omega, by omega⟩⟩ (by simp) ?_
    intro u hu
    obtain ⟨c, d, rfl, c0', c1', d0', d1'⟩ := hu rfl
    clear hu
    simp only [Act.put, List.setIfInBounds_toArray, List.set_cons_succ, List.set_cons_zero]
    refine wpE_poke (g := w.heap.size) (ob := .cells #[.int .i64 a, .int .i64 b] 24) (by rfl) rfl ⟨_, _, rfl⟩ (fun n v h => by have := h.mv.size; obtain ⟨x0, x1, hx⟩ := h.pair (w.heap.size) (by simp); have := (Array.getElem?_eq_some_iff.1 hx).1; omega) (fun n v h => by
      obtain ⟨x0, x1, hx⟩ := h.pair (w.heap.size) (by simp)
      obtain ⟨o0, o1, o2, o3⟩ := pair_cells hx
      rw [← set_pair _ _ hx]
      go_simp) ?_
    simp only [Act.put, List.setIfInBounds_toArray, List.set_cons_succ, List.set_cons_zero]
    refine wpE_poke (g := w.heap.size + 1) (ob := .cells #[.int .i64 c, .int .i64 d] 24) (by rfl) rfl ⟨_, _, rfl⟩ (fun n v h => by obtain ⟨x0, x1, hx⟩ := h.pair (w.heap.size + 1) (by simp); have := (Array.getElem?_eq_some_iff.1 hx).1; omega) (fun n v h => by
      obtain ⟨x0, x1, hx⟩ := h.pair (w.heap.size + 1) (by simp)
      obtain ⟨o0, o1, o2, o3⟩ := pair_cells hx
      rw [← set_pair _ _ hx]
      go_simp) ?_
    simp only [Act.put, List.setIfInBounds_toArray, List.set_cons_succ, List.set_cons_zero]
    refine wpE_nil ?_
    intro _ w4 hC hh
    obtain ⟨o0, o1, _, _⟩ := pair_cells (hh (w.heap.size, .cells #[.int .i64 a, .int .i64 b] 24) (by simp)).2
    obtain ⟨o2, o3, _, _⟩ := pair_cells (hh (w.heap.size + 1, .cells #[.int .i64 c, .int .i64 d] 24) (by simp)).2
    have hz4 := hC.mv
    clear hh hC hne k0 k1 c0
    go_wp2_with fail
    exact bodyPost_ret (v := .tuple #[.agg #[.int .i64 a, .int .i64 b], .agg #[.int .i64 c, .int .i64 d]]) (by simp [results, Try.results53, go_sem, o0, o1, o2, o3]) rfl ⟨a, b, c, d, rfl, a0, a1, b0, b1, c0', c1', d0', d1', hz4⟩
  · go_wp2_with fail
    refine (pickM R sl q 2 _ H2.out (by omega) (by omega) (by omega) (by omega)).mono ?_
    rintro e w3 ⟨u3, rfl, a3, b3, h3, m3⟩
    have G3 := hid_in (G2.out.mv m3 hG)
    have D0 := hid_in (F0.out.mv m3 hR)
    have D1 := hid_in (F1.out.mv m3 hR1)
    have H3 := hid_in h3; have M3 := hid_in (M2.out.trans m3); clear h3 m3 H2 M2 F0 F1 G2
    by_cases hz : u3 = 0
    · subst hz
      have HV := hid_in hv
      obtain ⟨A0, A1, B0, B1, _⟩ := ok_of hv
      clear hv a0 a1 b0 b1
      go_wp2_with fail
      have c0 : Rp 6 R sl (q + 1) w w1.heap.size a b [w.heap.size, w.heap.size + 1] 0 w3 := ⟨M3.out, ⟨q + 1, by omega, by omega, H3.out⟩, G3.out, fun r hr => by
        rcases List.mem_cons.1 hr with rfl | hr
        · exact ⟨_, _, D0.out⟩
        · rcases List.mem_singleton.1 hr with rfl; exact ⟨_, _, D1.out⟩⟩
      refine wp_region_E0 (needs := fun _ _ => []) (Rp 6 R sl (q + 1) w w1.heap.size a b [w.heap.size, w.heap.size + 1]) w.heap.size 0 (postPick 4) (pairSh 24) (fun _ => none)
        (by kernel_rfl) (by kernel_rfl) c0.drew Rp.alloc Rp.size (fun n v h => Nat.zero_le _)
        (by simp) (fun _ _ _ _ _ _ _ h => by cases h) (fun _ _ _ h => by cases h) ?_
      have hne : Nonempty (LatC (Rp 6 R sl (q + 1) w w1.heap.size a b [w.heap.size, w.heap.size + 1])) := ⟨⟨0, _, c0⟩⟩
      have k1 : ∀ l : LatC (Rp 6 R sl (q + 1) w w1.heap.size a b [w.heap.size, w.heap.size + 1]), l.x.cell? ⟨w1.heap.size, 1, none⟩ = some (.int .i64 b) := fun l => (pair_cells l.h.box).2.1
      refine wpE_one rfl rfl ?_
      go_big_quiet_step (fail)
      refine wpQuiet_nil ?_
      refine wpE_one rfl rfl ?_
      go_big_quiet_step (fail)
      refine wpQuiet_nil ?_
      refine wpE_one rfl rfl ?_
      go_big_quiet_step (fail)
      refine wpQuiet_nil ?_
      refine wpE_call (by rfl) (fun _ => by go_simp) (Rp.contract hlt hG hrs (by omega) (by omega) (fun w q h0 h1 hq _ => (pickM R sl q 4 w hq h0 (by omega) (by omega) (by omega)).mono fun _ _ ⟨x, he, x0, x1, h4, m⟩ => ⟨_, he, fun _ => ⟨x, rfl, x0, x1⟩, ⟨q + 1, by omega, by omega, h4⟩, m⟩)) ⟨.int .i64 0, fun _ => ⟨0, rfl, by omega, by omega⟩⟩ (by simp) ?_
      intro u hu
      obtain ⟨y, rfl, y0, y1⟩ := hu rfl
      clear hu
      simp only [Act.put, List.setIfInBounds_toArray, List.set_cons_succ, List.set_cons_zero]
      refine wpE_one rfl rfl ?_
      go_big_quiet_step (fail)
      refine wpQuiet_nil ?_
      refine wpE_one rfl rfl ?_
      go_big_quiet_step (fail)
      refine wpQuiet_nil ?_
      refine wpE_nil ?_
      intro _ w4 hC hh
      clear hh hne k1 c0
      obtain ⟨Z, hZ⟩ : ∃ Z, Z = a + pw (32 - b) - 1 := ⟨_, rfl⟩
      have Z0 : 0 ≤ Z := by have := pw_pos (32 - b); omega
      have Z1 : Z ≤ 4294967295 := by have := ok_end HV.out; omega
      have SL : Hid (∀ w, Calls Try.prog 42 #[.agg #[.int .i64 a, .int .i64 b]] w fun e w' => e = .returned (.int .i64 Z) ∧ Below w.heap.size w w') := by
        show ∀ _, _
        rw [hZ]; exact fun w => slast a b w A0 A1 B0 B1
      clear hZ HV
      obtain ⟨q4, q41, q42, hq4⟩ := hC.rd
      have c0 : Rp 12 R sl q4 w w1.heap.size a b [w.heap.size, w.heap.size + 1] 0 w4 := ⟨hC.mv, ⟨q4, by omega, by omega, hq4⟩, hC.box, hC.pair⟩
      clear hC hq4 H3 M3 G3 D0 D1
      have hC := hid_in c0
      clear c0
      by_cases hgt : 32 < b + y
      · go_wp2_with fail
        have c0 := hC.out
        refine wp_region_E0 (needs := needFrom (w.heap.size + 1 + 1) 41 #[.int .i64 a, .int .i64 Z]) (Rp 12 R sl (q4) w w1.heap.size a b [w.heap.size, w.heap.size + 1]) w.heap.size (w.heap.size + 1 + 1) (postTwo a Z 32) (pairSh 24) (ownBy [2, 3] (fun t => if t = 2 then w.heap.size else w.heap.size + 1))
          (by kernel_rfl) (by kernel_rfl) c0.drew Rp.alloc Rp.size (fun n v h => by obtain ⟨x0, x1, hx⟩ := h.pair (w.heap.size + 1) (by simp); have := (Array.getElem?_eq_some_iff.1 hx).1; omega)
          ?hn (ownB_of_key (by kernel_rfl) (by simp)) ?hp ?_
        case hn =>
          intro f args p hp x _ he
          obtain ⟨t, ht, hb⟩ := ownBy_mem he
          have h2 : w.heap.size + 1 + 1 ≤ p.1 := by simpa using (List.mem_filter.1 hp).2
          rcases List.mem_cons.1 ht with rfl | ht
          · simp at hb; omega
          · rcases List.mem_singleton.1 ht with rfl
            simp at hb; omega
        case hp =>
          intro x _ g hg
          obtain ⟨t, ht, rfl⟩ := ownBy_mem hg
          rcases List.mem_cons.1 ht with rfl | ht
          · exact ⟨by simp, by simp <;> omega, Rp.put H.out (by simp) (by simp <;> omega)⟩
          · rcases List.mem_singleton.1 ht with rfl
            exact ⟨by simp, by simp <;> omega, Rp.put H.out (by simp) (by simp <;> omega)⟩
        have hne : Nonempty (LatC (Rp 12 R sl (q4) w w1.heap.size a b [w.heap.size, w.heap.size + 1])) := ⟨⟨0, _, c0⟩⟩
        have k0 : ∀ l : LatC (Rp 12 R sl (q4) w w1.heap.size a b [w.heap.size, w.heap.size + 1]), l.x.cell? ⟨w1.heap.size, 0, none⟩ = some (.int .i64 a) := fun l => (pair_cells l.h.box).1
        have k1 : ∀ l : LatC (Rp 12 R sl (q4) w w1.heap.size a b [w.heap.size, w.heap.size + 1]), l.x.cell? ⟨w1.heap.size, 1, none⟩ = some (.int .i64 b) := fun l => (pair_cells l.h.box).2.1
        refine wpE_one rfl rfl ?_
        go_big_quiet_step (fail)
        refine wpQuiet_nil ?_
        refine wpE_one rfl rfl ?_
        go_big_quiet_step (fail)
        refine wpQuiet_nil ?_
        refine wpE_one rfl rfl ?_
        go_big_quiet_step (fail)
        refine wpQuiet_nil ?_
        refine wpE_one rfl rfl ?_
        go_big_quiet_step (fail)
        refine wpQuiet_nil ?_
        refine wpE_one rfl rfl ?_
        go_big_quiet_step (fail)
        refine wpQuiet_nil ?_
        refine wpE_call (by rfl) (fun _ => by go_simp) (Rp.calls (.int .i64 Z) hlt hG hrs (by omega) (by omega) SL.out ⟨by simp, fun _ => rfl, by simp⟩) ⟨.int .i64 Z, by simp, fun _ => rfl, by simp⟩ (by simp [needFrom, needOne]) ?_
        intro u hu
        obtain rfl := hu.2.1 rfl
        clear hu
        simp only [Act.put, List.setIfInBounds_toArray, List.set_cons_succ, List.set_cons_zero]
        refine wpE_new (mk := fun g => .slice (some ⟨g, 0, none⟩) 2 2) (ob := .cells #[.int .i64 a, .int .i64 Z] 3) (by rfl) (L := w.heap.size + 1 + 1) (fun n v h => by obtain ⟨x0, x1, hx⟩ := h.pair (w.heap.size + 1) (by simp); have := (Array.getElem?_eq_some_iff.1 hx).1; omega) (fun _ => by go_simp) ?_
        intro g3 hg3
        simp only [Act.put, List.setIfInBounds_toArray, List.set_cons_succ, List.set_cons_zero]
        refine wpE_call (by rfl) (fun _ => by go_simp) (Rp.one2 (g := g3) a Z hg3 hlt hG hrs (by omega) (by omega) ⟨fun _ => .inl rfl, by simp, by simp⟩ ⟨fun _ => .inr rfl, by simp, by simp⟩) ⟨.int .i64 a, fun _ => .inl rfl, by simp, by simp⟩ (by simp [needFrom, needOne, hg3]) ?_
        intro u hu
        obtain ⟨x, rfl, x0, x1⟩ : ∃ x : Int, u = .int .i64 x ∧ 0 ≤ x ∧ x ≤ 4294967295 := by
          rcases hu.1 rfl with h | h
          · exact ⟨a, h, A0, A1⟩
          · exact ⟨Z, h, Z0, Z1⟩
        clear hu
        simp only [Act.put, List.setIfInBounds_toArray, List.set_cons_succ, List.set_cons_zero]
        refine wpE_one rfl rfl ?_
        go_big_quiet_step (fail)
        refine wpQuiet_nil ?_
        refine wpE_call (by rfl) (fun _ => by go_simp) (Rp.calls _ hlt hG hrs (by omega) (by omega) (fun w => l1Over_any x 32 w x0 x1 (by omega) (by omega)) ⟨by simp, by simp, fun _ x' hx => by simp at hx; subst hx; rfl⟩) ⟨_, by simp, by simp, fun _ x' hx => by simp at hx; subst hx; rfl⟩ (by simp [needFrom, needOne]) ?_
        intro u hu
        obtain rfl := hu.2.2 rfl x rfl
        clear hu
        have cok := fl_ok x0 x1 (show 0 ≤ 32 by omega) (show 32 ≤ 32 by omega)
        unfold fl at cok
        obtain ⟨C0, C1, _⟩ := ok_of cok
        clear cok
        generalize x / pw (32 - 32) * pw (32 - 32) = c at *
        simp only [Act.put, List.setIfInBounds_toArray, List.set_cons_succ, List.set_cons_zero]
        refine wpE_poke (g := w.heap.size) (ob := .cells #[.int .i64 a, .int .i64 b] 24) (by rfl) rfl ⟨_, _, rfl⟩ (fun n v h => by have := h.mv.size; obtain ⟨x0, x1, hx⟩ := h.pair (w.heap.size) (by simp); have := (Array.getElem?_eq_some_iff.1 hx).1; omega) (fun n v h => by
          obtain ⟨x0, x1, hx⟩ := h.pair (w.heap.size) (by simp)
          obtain ⟨o0, o1, o2, o3⟩ := pair_cells hx
          rw [← set_pair _ _ hx]
          go_simp) ?_
        simp only [Act.put, List.setIfInBounds_toArray, List.set_cons_succ, List.set_cons_zero]
        refine wpE_poke (g := w.heap.size + 1) (ob := .cells #[.int .i64 c, .int .i64 32] 24) (by rfl) rfl ⟨_, _, rfl⟩ (fun n v h => by obtain ⟨x0, x1, hx⟩ := h.pair (w.heap.size + 1) (by simp); have := (Array.getElem?_eq_some_iff.1 hx).1; omega) (fun n v h => by
          obtain ⟨x0, x1, hx⟩ := h.pair (w.heap.size + 1) (by simp)
          obtain ⟨o0, o1, o2, o3⟩ := pair_cells hx
          rw [← set_pair _ _ hx]
          go_simp) ?_
        simp only [Act.put, List.setIfInBounds_toArray, List.set_cons_succ, List.set_cons_zero]
        refine wpE_nil ?_
        intro _ w5 hC hh
        obtain ⟨o0, o1, _, _⟩ := pair_cells (hh (w.heap.size, .cells #[.int .i64 a, .int .i64 b] 24) (by simp)).2
        obtain ⟨o2, o3, _, _⟩ := pair_cells (hh (w.heap.size + 1, .cells #[.int .i64 c, .int .i64 32] 24) (by simp)).2
        have hz4 := hC.mv
        clear hh hC hne k0 k1 c0
        go_wp2_with fail
        exact bodyPost_ret (v := .tuple #[.agg #[.int .i64 a, .int .i64 b], .agg #[.int .i64 c, .int .i64 32]]) (by simp [results, Try.results53, go_sem, o0, o1, o2, o3]) rfl ⟨a, b, c, _, rfl, by omega, by omega, by omega, by omega, by omega, by omega, by omega, by omega, hz4⟩
      · go_wp2_with fail
        have c0 := hC.out
        refine wp_region_E0 (needs := needFrom (w.heap.size + 1 + 1) 41 #[.int .i64 a, .int .i64 Z]) (Rp 12 R sl (q4) w w1.heap.size a b [w.heap.size, w.heap.size + 1]) w.heap.size (w.heap.size + 1 + 1) (postTwo a Z (b + y)) (pairSh 24) (ownBy [2, 3] (fun t => if t = 2 then w.heap.size else w.heap.size + 1))
          (by kernel_rfl) (by kernel_rfl) c0.drew Rp.alloc Rp.size (fun n v h => by obtain ⟨x0, x1, hx⟩ := h.pair (w.heap.size + 1) (by simp); have := (Array.getElem?_eq_some_iff.1 hx).1; omega)
          ?hn (ownB_of_key (by kernel_rfl) (by simp)) ?hp ?_
        case hn =>
          intro f args p hp x _ he
          obtain ⟨t, ht, hb⟩ := ownBy_mem he
          have h2 : w.heap.size + 1 + 1 ≤ p.1 := by simpa using (List.mem_filter.1 hp).2
          rcases List.mem_cons.1 ht with rfl | ht
          · simp at hb; omega
          · rcases List.mem_singleton.1 ht with rfl
            simp at hb; omega
        case hp =>
          intro x _ g hg
          obtain ⟨t, ht, rfl⟩ := ownBy_mem hg
          rcases List.mem_cons.1 ht with rfl | ht
          · exact ⟨by simp, by simp <;> omega, Rp.put H.out (by simp) (by simp <;> omega)⟩
          · rcases List.mem_singleton.1 ht with rfl
            exact ⟨by simp, by simp <;> omega, Rp.put H.out (by simp) (by simp <;> omega)⟩
        have hne : Nonempty (LatC (Rp 12 R sl (q4) w w1.heap.size a b [w.heap.size, w.heap.size + 1])) := ⟨⟨0, _, c0⟩⟩
        have k0 : ∀ l : LatC (Rp 12 R sl (q4) w w1.heap.size a b [w.heap.size, w.heap.size + 1]), l.x.cell? ⟨w1.heap.size, 0, none⟩ = some (.int .i64 a) := fun l => (pair_cells l.h.box).1
        have k1 : ∀ l : LatC (Rp 12 R sl (q4) w w1.heap.size a b [w.heap.size, w.heap.size + 1]), l.x.cell? ⟨w1.heap.size, 1, none⟩ = some (.int .i64 b) := fun l => (pair_cells l.h.box).2.1
        refine wpE_one rfl rfl ?_
        go_big_quiet_step (fail)
        refine wpQuiet_nil ?_
        refine wpE_one rfl rfl ?_
        go_big_quiet_step (fail)
        refine wpQuiet_nil ?_
        refine wpE_one rfl rfl ?_
        go_big_quiet_step (fail)
        refine wpQuiet_nil ?_
        refine wpE_one rfl rfl ?_
        go_big_quiet_step (fail)
        refine wpQuiet_nil ?_
        refine wpE_one rfl rfl ?_
        go_big_quiet_step (fail)
        refine wpQuiet_nil ?_
        refine wpE_call (by rfl) (fun _ => by go_simp) (Rp.calls (.int .i64 Z) hlt hG hrs (by omega) (by omega) SL.out ⟨by simp, fun _ => rfl, by simp⟩) ⟨.int .i64 Z, by simp, fun _ => rfl, by simp⟩ (by simp [needFrom, needOne]) ?_
        intro u hu
        obtain rfl := hu.2.1 rfl
        clear hu
        simp only [Act.put, List.setIfInBounds_toArray, List.set_cons_succ, List.set_cons_zero]
        refine wpE_new (mk := fun g => .slice (some ⟨g, 0, none⟩) 2 2) (ob := .cells #[.int .i64 a, .int .i64 Z] 3) (by rfl) (L := w.heap.size + 1 + 1) (fun n v h => by obtain ⟨x0, x1, hx⟩ := h.pair (w.heap.size + 1) (by simp); have := (Array.getElem?_eq_some_iff.1 hx).1; omega) (fun _ => by go_simp) ?_
        intro g3 hg3
        simp only [Act.put, List.setIfInBounds_toArray, List.set_cons_succ, List.set_cons_zero]
        refine wpE_call (by rfl) (fun _ => by go_simp) (Rp.one2 (g := g3) a Z hg3 hlt hG hrs (by omega) (by omega) ⟨fun _ => .inl rfl, by simp, by simp⟩ ⟨fun _ => .inr rfl, by simp, by simp⟩) ⟨.int .i64 a, fun _ => .inl rfl, by simp, by simp⟩ (by simp [needFrom, needOne, hg3]) ?_
        intro u hu
        obtain ⟨x, rfl, x0, x1⟩ : ∃ x : Int, u = .int .i64 x ∧ 0 ≤ x ∧ x ≤ 4294967295 := by
          rcases hu.1 rfl with h | h
          · exact ⟨a, h, A0, A1⟩
          · exact ⟨Z, h, Z0, Z1⟩
        clear hu
        simp only [Act.put, List.setIfInBounds_toArray, List.set_cons_succ, List.set_cons_zero]
        refine wpE_one rfl rfl ?_
        go_big_quiet_step (fail)
        refine wpQuiet_nil ?_
        refine wpE_call (by rfl) (fun _ => by go_simp) (Rp.calls _ hlt hG hrs (by omega) (by omega) (fun w => l1Over_any x (b + y) w x0 x1 (by omega) (by omega)) ⟨by simp, by simp, fun _ x' hx => by simp at hx; subst hx; rfl⟩) ⟨_, by simp, by simp, fun _ x' hx => by simp at hx; subst hx; rfl⟩ (by simp [needFrom, needOne]) ?_
        intro u hu
        obtain rfl := hu.2.2 rfl x rfl
        clear hu
        have cok := fl_ok x0 x1 (show 0 ≤ (b + y) by omega) (show (b + y) ≤ 32 by omega)
        unfold fl at cok
        obtain ⟨C0, C1, _⟩ := ok_of cok
        clear cok
        generalize x / pw (32 - (b + y)) * pw (32 - (b + y)) = c at *
        simp only [Act.put, List.setIfInBounds_toArray, List.set_cons_succ, List.set_cons_zero]
        refine wpE_poke (g := w.heap.size) (ob := .cells #[.int .i64 a, .int .i64 b] 24) (by rfl) rfl ⟨_, _, rfl⟩ (fun n v h => by have := h.mv.size; obtain ⟨x0, x1, hx⟩ := h.pair (w.heap.size) (by simp); have := (Array.getElem?_eq_some_iff.1 hx).1; omega) (fun n v h => by
          obtain ⟨x0, x1, hx⟩ := h.pair (w.heap.size) (by simp)
          obtain ⟨o0, o1, o2, o3⟩ := pair_cells hx
          rw [← set_pair _ _ hx]
          go_simp) ?_
        simp only [Act.put, List.setIfInBounds_toArray, List.set_cons_succ, List.set_cons_zero]
        refine wpE_poke (g := w.heap.size + 1) (ob := .cells #[.int .i64 c, .int .i64 (b + y)] 24) (by rfl) rfl ⟨_, _, rfl⟩ (fun n v h => by obtain ⟨x0, x1, hx⟩ := h.pair (w.heap.size + 1) (by simp); have := (Array.getElem?_eq_some_iff.1 hx).1; omega) (fun n v h => by
          obtain ⟨x0, x1, hx⟩ := h.pair (w.heap.size + 1) (by simp)
          obtain ⟨o0, o1, o2, o3⟩ := pair_cells hx
          rw [← set_pair _ _ hx]
          go_simp) ?_
        simp only [Act.put, List.setIfInBounds_toArray, List.set_cons_succ, List.set_cons_zero]
        refine wpE_nil ?_
        intro _ w5 hC hh
        obtain ⟨o0, o1, _, _⟩ := pair_cells (hh (w.heap.size, .cells #[.int .i64 a, .int .i64 b] 24) (by simp)).2
        obtain ⟨o2, o3, _, _⟩ := pair_cells (hh (w.heap.size + 1, .cells #[.int .i64 c, .int .i64 (b + y)] 24) (by simp)).2
        have hz4 := hC.mv
        clear hh hC hne k0 k1 c0
        go_wp2_with fail
        exact bodyPost_ret (v := .tuple #[.agg #[.int .i64 a, .int .i64 b], .agg #[.int .i64 c, .int .i64 (b + y)]]) (by simp [results, Try.results53, go_sem, o0, o1, o2, o3]) rfl ⟨a, b, c, _, rfl, by omega, by omega, by omega, by omega, by omega, by omega, by omega, by omega, hz4⟩
    · have hz' : (u3 == 0) = false := by simpa using hz
      clear hv
      go_wp2_with fail
      have c0 : Rp 5 R sl (q + 1) w w1.heap.size a b [w.heap.size, w.heap.size + 1] 0 w3 := ⟨M3.out, ⟨q + 1, by omega, by omega, H3.out⟩, G3.out, fun r hr => by
        rcases List.mem_cons.1 hr with rfl | hr
        · exact ⟨_, _, D0.out⟩
        · rcases List.mem_singleton.1 hr with rfl; exact ⟨_, _, D1.out⟩⟩
      refine wp_region_E0 (needs := fun _ _ => []) (Rp 5 R sl (q + 1) w w1.heap.size a b [w.heap.size, w.heap.size + 1]) w.heap.size (w.heap.size + 1 + 1) postAny (pairSh 24) (ownBy [2, 3] (fun t => if t = 2 then w.heap.size else w.heap.size + 1))
        (by kernel_rfl) (by kernel_rfl) c0.drew Rp.alloc Rp.size (fun n v h => by obtain ⟨x0, x1, hx⟩ := h.pair (w.heap.size + 1) (by simp); have := (Array.getElem?_eq_some_iff.1 hx).1; omega)
        (by simp) (ownB_of_key (by kernel_rfl) (by simp)) ?hp ?_
      case hp =>
        intro x _ g hg
        obtain ⟨t, ht, rfl⟩ := ownBy_mem hg
        rcases List.mem_cons.1 ht with rfl | ht
        · exact ⟨by simp, by simp <;> omega, Rp.put H.out (by simp) (by simp <;> omega)⟩
        · rcases List.mem_singleton.1 ht with rfl
          exact ⟨by simp, by simp <;> omega, Rp.put H.out (by simp) (by simp <;> omega)⟩
      have hne : Nonempty (LatC (Rp 5 R sl (q + 1) w w1.heap.size a b [w.heap.size, w.heap.size + 1])) := ⟨⟨0, _, c0⟩⟩
      have k0 : ∀ l : LatC (Rp 5 R sl (q + 1) w w1.heap.size a b [w.heap.size, w.heap.size + 1]), l.x.cell? ⟨w1.heap.size, 0, none⟩ = some (.int .i64 a) := fun l => (pair_cells l.h.box).1
      have k1 : ∀ l : LatC (Rp 5 R sl (q + 1) w w1.heap.size a b [w.heap.size, w.heap.size + 1]), l.x.cell? ⟨w1.heap.size, 1, none⟩ = some (.int .i64 b) := fun l => (pair_cells l.h.box).2.1
      refine wpE_one rfl rfl ?_
      go_big_quiet_step (fail)
      refine wpQuiet_nil ?_
      refine wpE_one rfl rfl ?_
      go_big_quiet_step (fail)
      refine wpQuiet_nil ?_
      refine wpE_call (by rfl) (fun _ => by go_simp) (Rp.contract hlt hG hrs (by omega) (by omega) (fun w q h0 h1 hq _ => (l12AnyBlock_any R sl q w hq h0 h1).mono fun _ _ ⟨c, d, he, c0, c1, d0, d1, ⟨q', h2, h3, h4⟩, m⟩ => ⟨_, he, fun _ => ⟨c, d, rfl, c0, c1, d0, d1⟩, ⟨q', h2, by omega, h4⟩, m⟩)) ⟨.agg #[.int .i64 0, .int .i64 0], fun _ => ⟨0, 0, rfl, by omega, by omega, by omega, by omega⟩⟩ (by simp) ?_
      intro u hu
      obtain ⟨c, d, rfl, c0', c1', d0', d1'⟩ := hu rfl
      clear hu
      simp only [Act.put, List.setIfInBounds_toArray, List.set_cons_succ, List.set_cons_zero]
      refine wpE_poke (g := w.heap.size) (ob := .cells #[.int .i64 a, .int .i64 b] 24) (by rfl) rfl ⟨_, _, rfl⟩ (fun n v h => by have := h.mv.size; obtain ⟨x0, x1, hx⟩ := h.pair (w.heap.size) (by simp); have := (Array.getElem?_eq_some_iff.1 hx).1; omega) (fun n v h => by
        obtain ⟨x0, x1, hx⟩ := h.pair (w.heap.size) (by simp)
        obtain ⟨o0, o1, o2, o3⟩ := pair_cells hx
        rw [← set_pair _ _ hx]
        go_simp) ?_
      simp only [Act.put, List.setIfInBounds_toArray, List.set_cons_succ, List.set_cons_zero]
      refine wpE_poke (g := w.heap.size + 1) (ob := .cells #[.int .i64 c, .int .i64 d] 24) (by rfl) rfl ⟨_, _, rfl⟩ (fun n v h => by obtain ⟨x0, x1, hx⟩ := h.pair (w.heap.size + 1) (by simp); have := (Array.getElem?_eq_some_iff.1 hx).1; omega) (fun n v h => by
        obtain ⟨x0, x1, hx⟩ := h.pair (w.heap.size + 1) (by simp)
        obtain ⟨o0, o1, o2, o3⟩ := pair_cells hx
        rw [← set_pair _ _ hx]
        go_simp) ?_
      simp only [Act.put, List.setIfInBounds_toArray, List.set_cons_succ, List.set_cons_zero]
      refine wpE_nil ?_
      intro _ w4 hC hh
      obtain ⟨o0, o1, _, _⟩ := pair_cells (hh (w.heap.size, .cells #[.int .i64 a, .int .i64 b] 24) (by simp)).2
      obtain ⟨o2, o3, _, _⟩ := pair_cells (hh (w.heap.size + 1, .cells #[.int .i64 c, .int .i64 d] 24) (by simp)).2
      have hz4 := hC.mv
      clear hh hC hne k0 k1 c0
      go_wp2_with fail
      exact bodyPost_ret (v := .tuple #[.agg #[.int .i64 a, .int .i64 b], .agg #[.int .i64 c, .int .i64 d]]) (by simp [results, Try.results53, go_sem, o0, o1, o2, o3]) rfl ⟨a, b, c, d, rfl, a0, a1, b0, b1, c0', c1', d0', d1', hz4⟩
end Go.Proofs.Ytjiiodcikicpfaa
