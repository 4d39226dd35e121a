/- Calls drawn. The conditions stand at each theorem. -/
import Derived.Test.YtdljoopioglkiaaDrwT
import Derived.Test.YtdljoopioglkiaaApdG
namespace Go.Proofs.Ytdljoopioglkiaa
open Go.RowKit Go.LatT Go.BlockM Go.OpnT Go.RegE Go.ApdG
set_option linter.unusedVariables false
set_option linter.unusedSimpArgs false
theorem heap_setCell_other (w : World) (p : Addr) (k : Nat) (v : Value) (h : k ≠ p.block) : (w.setCell p v).heap[k]? = w.heap[k]? := Below.heap_setCell _ _ _ _ h
/-- A struct lies in a block that may be written. -/
structure CBf (w : World) (g : Nat) (a0 : Int) (a1 : Int) (a2 : Int) : Prop where
  lt : g < w.heap.size
  c0 : w.cell? ⟨g, 0, none⟩ = some (.int .i64 a0)
  c1 : w.cell? ⟨g, 1, none⟩ = some (.int .i64 a1)
  c2 : w.cell? ⟨g, 2, none⟩ = some (.int .i64 a2)
  fz : ∀ o, w.frozen? ⟨g, o, none⟩ = false
section
variable {w w' : World} {g R : Nat} {a0 : Int} {a1 : Int} {a2 : Int}
theorem CBf.mv (h : CBf w g a0 a1 a2) (m : Mv R w w') (hg : g ≠ R) : CBf w' g a0 a1 a2 :=
  have q := fun o => m.cell g o h.lt hg
  ⟨Nat.lt_of_lt_of_le h.lt m.size, (q _).trans h.c0, (q _).trans h.c1, (q _).trans h.c2, fun o => (m.frozen g o h.lt hg).trans (h.fz o)⟩
theorem CBf.later (h : CBf w g a0 a1 a2) (hb : Below w.heap.size w w') : CBf w' g a0 a1 a2 :=
  have q := fun o => (bcell hb).1 g o h.lt
  ⟨Nat.lt_of_lt_of_le h.lt hb.size, (q _).trans h.c0, (q _).trans h.c1, (q _).trans h.c2, fun o => ((bcell hb).2 g o h.lt).trans (h.fz o)⟩
theorem CBf.set0 (b : Int) (h : CBf w g a0 a1 a2) : CBf (w.setCell ⟨g, 0, none⟩ (.int .i64 b)) g b a1 a2 := by
  obtain ⟨l0, p0, p1, p2, pf⟩ := h
  exact ⟨by simpa using l0, by go_simp, by go_simp, by go_simp, fun o => by go_simp⟩
theorem CBf.set1 (b : Int) (h : CBf w g a0 a1 a2) : CBf (w.setCell ⟨g, 1, none⟩ (.int .i64 b)) g a0 b a2 := by
  obtain ⟨l0, p0, p1, p2, pf⟩ := h
  exact ⟨by simpa using l0, by go_simp, by go_simp, by go_simp, fun o => by go_simp⟩
theorem CBf.set2 (b : Int) (h : CBf w g a0 a1 a2) : CBf (w.setCell ⟨g, 2, none⟩ (.int .i64 b)) g a0 a1 b := by
  obtain ⟨l0, p0, p1, p2, pf⟩ := h
  exact ⟨by simpa using l0, by go_simp, by go_simp, by go_simp, fun o => by go_simp⟩
end
theorem CBf.new (w : World) (a0 : Int) (a1 : Int) (a2 : Int) (ty : TypeId) : CBf (w.alloc (.cells #[.int .i64 a0, .int .i64 a1, .int .i64 a2] ty)) w.heap.size a0 a1 a2 := ⟨by simp, by go_simp, by go_simp, by go_simp, fun o => by go_simp⟩
theorem Rdr.poke {w w' : World} {R g o : Nat} {sl : Value} {p q : Int} (h : Rdr w R sl p) (h' : Rdr w' R sl q) (m : Mv R w w') (hg : w.heap.size ≤ g) (v : Value) : Rdr (w'.setCell ⟨g, o, none⟩ v) R sl q := by
  have hne : R ≠ g := Nat.ne_of_lt (Nat.lt_of_lt_of_le h.lt hg)
  have hb : (w'.setCell ⟨g, o, none⟩ v).heap[R]? = w'.heap[R]? := heap_setCell_other w' ⟨g, o, none⟩ R v (fun e => hne e)
  refine ⟨?_, ?_, ?_, h.src_of (m.poke hg v)⟩
  · have := h'.c0; unfold World.cell? at this ⊢; rw [hb]; exact this
  · have := h'.c1; unfold World.cell? at this ⊢; rw [hb]; exact this
  · have := h'.fz; unfold World.frozen? at this ⊢; rw [hb]; exact this
/-- What drawing a call answers. -/
def CalP (R : Nat) (sl : Value) (p : Int) (w : World) (e : Ending) (w' : World) : Prop :=
  ∃ f t o : Int, e = .returned (.agg #[.int .i64 f, .int .i64 t, .int .i64 o]) ∧ (0 ≤ f ∧ f ≤ 4294967295) ∧ (0 ≤ t ∧ t ≤ 4294967295) ∧ (0 ≤ o ∧ o ≤ 65535) ∧ (∃ q, p ≤ q ∧ q ≤ p + 60 ∧ Rdr w' R sl q) ∧ Mv R w w'
set_option maxHeartbeats 2000000 in
set_option maxRecDepth 100000 in
theorem l12Call_any (R : Nat) (sl : Value) (p : Int) (w : World) (h : Rdr w R sl p) (hp : 0 ≤ p) (hp' : p ≤ 900000000) :
    Calls Try.prog 27 #[.pointer (some ⟨R, 0, none⟩)] w fun e w' => CalP R sl p w e w' := by
  have hlt := h.lt
  have H := hid_in (h.later (below_box w (.cells #[.int .i64 0, .int .i64 0, .int .i64 0] 25)))
  have M0 : Hid (Mv R w (w.alloc (.cells #[.int .i64 0, .int .i64 0, .int .i64 0] 25))) := Mv.of_below (below_box w _)
  have B0 := hid_in (CBf.new w 0 0 0 25)
  have H0 := hid_in h
  clear h
  go_enter Try.func27, Try.ntmps27
  go_wp2_with fail
  generalize (w.alloc (.cells #[.int .i64 0, .int .i64 0, .int .i64 0] 25)) = W0 at *
  refine (l12Addr_any R sl p _ H.out (by omega) (by omega)).mono ?_
  rintro e w1 ⟨u1, rfl, a1, b1, ⟨q1, c1, d1, h1⟩, m1⟩
  have H1 := hid_in h1; have M1 := hid_in m1; clear h1 m1 H
  go_wp2_with fail
  refine (l12Addr_any R sl q1 _ H1.out (by omega) (by omega)).mono ?_
  rintro e w2 ⟨u2, rfl, a2, b2, ⟨q2, c2, d2, h2⟩, m2⟩
  have H2 := hid_in h2; have M2 := hid_in (M1.out.trans m2); clear h2 m2 H1 M1
  go_wp2_with fail
  refine (pickM R sl q2 256 _ H2.out (by omega) (by omega) (by omega) (by omega)).mono ?_
  rintro e w3 ⟨u3, rfl, a3, b3, h3, m3⟩
  have H3 := hid_in h3; have M3 := hid_in (M2.out.trans m3); clear h3 m3 H2 M2
  go_wp2_with fail
  refine (oneN R sl _ [0, 80, 81, 100, 443, 65535, u3] 7 _ 3 w3 rfl rfl H3.out (by omega) (by omega) (by simp) (by simp)).mono ?_
  rintro e w4 ⟨u4, rfl, hu4, h4, m4⟩
  have H4 := hid_in h4; have M4 := hid_in (M3.out.trans m4); clear h4 m4 H3 M3
  have hu5 : 0 ≤ u4 ∧ u4 ≤ 65535 := by
    simp only [List.mem_cons, List.not_mem_nil, or_false] at hu4
    omega
  clear hu4
  have B4 := hid_in (B0.out.mv M4.out (by omega))
  have M5 := hid_in (M0.out.trans M4.out)
  obtain ⟨l0, k0, k1, k2, kf⟩ := B4.out
  go_wp2_with fail
  have r1 := H0.out.poke (o := 0) H4.out M5.out (Nat.le_refl _) (.int .i64 u1)
  have m1 := M5.out.poke (o := 0) (Nat.le_refl _) (.int .i64 u1)
  have r2 := H0.out.poke (o := 1) r1 m1 (Nat.le_refl _) (.int .i64 u2)
  have m2 := m1.poke (o := 1) (Nat.le_refl _) (.int .i64 u2)
  have r3 := H0.out.poke (o := 2) r2 m2 (Nat.le_refl _) (.int .i64 u4)
  have m3 := m2.poke (o := 2) (Nat.le_refl _) (.int .i64 u4)
  exact bodyPost_ret (v := .agg #[.int .i64 u1, .int .i64 u2, .int .i64 u4]) (by simp [results, Try.results27, go_sem, k0, k1, k2, l0]) rfl ⟨u1, u2, u4, rfl, ⟨a1, b1⟩, ⟨a2, b2⟩, hu5, ⟨_, by omega, by omega, r3⟩, m3⟩
theorem oneG (R G : Nat) (sl : Value) (p : Int) (vs : List Int) (n : Nat) (arr : Array Value) (t : TypeId) (w : World) (hG : G = w.heap.size) (harr : arr = (vs.map fun v => Value.int .i64 v).toArray) (hn : n = vs.length) (h : Rdr w R sl p) (hp : 0 ≤ p) (hp' : p ≤ 1099511627776) (hl : 1 ≤ vs.length) (hl' : vs.length ≤ 100) :
    Calls Try.prog 25 #[.pointer (some ⟨R, 0, none⟩), .slice (some ⟨G, 0, none⟩) n n] (w.alloc (.cells arr t)) fun e w' => ∃ u : Int, e = .returned (.int .i64 u) ∧ u ∈ vs ∧ Rdr w' R sl (p + 1) ∧ Mv R w w' := by
  subst hG
  exact oneN R sl p vs n arr t w harr hn h hp hp' hl hl'
/-- What drawing any call answers. -/
def CalA (R : Nat) (sl : Value) (p : Int) (w : World) (e : Ending) (w' : World) : Prop :=
  ∃ f t o : Int, e = .returned (.agg #[.int .i64 f, .int .i64 t, .int .i64 o]) ∧ (∃ q, p ≤ q ∧ q ≤ p + 200 ∧ Rdr w' R sl q) ∧ Mv R w w'
set_option maxHeartbeats 4000000 in
set_option maxRecDepth 100000 in
theorem l12AnyCall_any (R : Nat) (sl : Value) (p : Int) (w : World) (h : Rdr w R sl p) (hp : 0 ≤ p) (hp' : p ≤ 800000000) :
    Calls Try.prog 15 #[.pointer (some ⟨R, 0, none⟩)] w fun e w' => CalA R sl p w e w' := by
  have hlt := h.lt
  have H := hid_in (h.later (below_box w (.cells #[.int .i64 0, .int .i64 0, .int .i64 0] 25)))
  have M0 : Hid (Mv R w (w.alloc (.cells #[.int .i64 0, .int .i64 0, .int .i64 0] 25))) := Mv.of_below (below_box w _)
  have B0 := hid_in (CBf.new w 0 0 0 25)
  have H0 := hid_in h
  clear h
  go_enter Try.func15, Try.ntmps15
  go_wp2_with fail
  generalize (w.alloc (.cells #[.int .i64 0, .int .i64 0, .int .i64 0] 25)) = W0 at *
  refine (l12Call_any R sl p _ H.out (by omega) (by omega)).mono ?_
  rintro e w1 ⟨f, t, o, rfl, hf, ht, ho, ⟨q1, c1, d1, h1⟩, m1⟩
  have hz1 := M0.out.size
  have H1 := hid_in (h1.later (below_box w1 (.cells #[.int .i64 f, .int .i64 t, .int .i64 o] 25)))
  have M1 := hid_in ((M0.out.trans m1).trans (Mv.of_below (below_box w1 (.cells #[.int .i64 f, .int .i64 t, .int .i64 o] 25))))
  have B1 := hid_in ((B0.out.mv m1 (by omega)).later (below_box w1 (.cells #[.int .i64 f, .int .i64 t, .int .i64 o] 25)))
  have C1 := hid_in (CBf.new w1 f t o 25)
  have hs1 : w.heap.size < w1.heap.size := by have := B0.out.lt; have := m1.size; omega
  have hr1 := h1.lt
  clear h1 m1 H
  go_wp2_with fail
  generalize (w1.alloc (.cells #[.int .i64 f, .int .i64 t, .int .i64 o] 25)) = W1 at *
  refine (pickM R sl q1 20 _ H1.out (by omega) (by omega) (by omega) (by omega)).mono ?_
  rintro e w2 ⟨u2, rfl, a2, b2, h2, m2⟩
  have H2 := hid_in h2; have M2 := hid_in (M1.out.trans m2); have B2 := hid_in (B1.out.mv m2 (by omega)); have C2 := hid_in (C1.out.mv m2 (by omega)); clear h2 m2 H1 M1 B1 C1
  have hg2 := C2.out.lt
  have fin : ∀ (w5 : World) (q5 : Int), p ≤ q5 → q5 ≤ p + 200 → Rdr w5 R sl q5 → Mv R w w5 → ∀ x0 x1 x2 : Int, CBf w5 w.heap.size 0 0 0 →
      (∃ q, p ≤ q ∧ q ≤ p + 200 ∧ Rdr (((w5.setCell ⟨w.heap.size, 0, none⟩ (.int .i64 x0)).setCell ⟨w.heap.size, 1, none⟩ (.int .i64 x1)).setCell ⟨w.heap.size, 2, none⟩ (.int .i64 x2)) R sl q) ∧ Mv R w (((w5.setCell ⟨w.heap.size, 0, none⟩ (.int .i64 x0)).setCell ⟨w.heap.size, 1, none⟩ (.int .i64 x1)).setCell ⟨w.heap.size, 2, none⟩ (.int .i64 x2)) := by
    intro w5 q5 e1 e2 h5 m5 x0 x1 x2 _
    have r1 := H0.out.poke (o := 0) h5 m5 (Nat.le_refl _) (.int .i64 x0)
    have m1 := m5.poke (o := 0) (Nat.le_refl _) (.int .i64 x0)
    have r2 := H0.out.poke (o := 1) r1 m1 (Nat.le_refl _) (.int .i64 x1)
    have m2 := m1.poke (o := 1) (Nat.le_refl _) (.int .i64 x1)
    have r3 := H0.out.poke (o := 2) r2 m2 (Nat.le_refl _) (.int .i64 x2)
    exact ⟨⟨q5, e1, e2, r3⟩, m2.poke (o := 2) (Nat.le_refl _) (.int .i64 x2)⟩
  have FIN := hid_in fin
  clear fin
  have hne1 : ¬ w1.heap.size = w.heap.size := by omega
  have hne2 : ¬ w.heap.size = w1.heap.size := by omega
  by_cases hz : u2 = 0
  · subst hz
    go_wp2_with fail
    refine (l12AnyAddr_any R sl _ _ H2.out (by omega) (by omega)).mono ?_
    rintro e w3 ⟨u3, rfl, a3, b3, ⟨q3, c3, d3, h3⟩, m3⟩
    have B3 := hid_in (B2.out.mv m3 (by omega)); have C3 := hid_in (C2.out.mv m3 (by omega)); have H3 := hid_in h3; have M3 := hid_in (M2.out.trans m3)
    clear h3 m3 H2 M2 B2 C2
    have C4 := hid_in (C3.out.set0 u3)
    have B4 := hid_in (show CBf (w3.setCell ⟨w1.heap.size, 0, none⟩ (.int .i64 u3)) w.heap.size 0 0 0 from by
      obtain ⟨l0, p0, p1, p2, pf⟩ := B3.out
      exact ⟨by simpa using l0, by go_simp, by go_simp, by go_simp, fun o => by go_simp⟩)
    have M4 := hid_in (M3.out.poke (o := 0) (show w.heap.size ≤ w1.heap.size by omega) (.int .i64 u3))
    have H4 := hid_in (H0.out.poke (o := 0) H3.out M3.out (show w.heap.size ≤ w1.heap.size by omega) (.int .i64 u3))
    obtain ⟨x0, y0, y1, y2, yf⟩ := C3.out
    obtain ⟨l0, p0, p1, p2, pf⟩ := B3.out
    go_wp2_with fail
    obtain ⟨r1, r2⟩ := FIN.out (w3.setCell ⟨w1.heap.size, 0, none⟩ (.int .i64 u3)) q3 (by omega) (by omega) H4.out M4.out u3 t o B4.out
    exact bodyPost_ret (v := .agg #[.int .i64 u3, .int .i64 t, .int .i64 o]) (by simp [results, Try.results15, go_sem, p0, p1, p2, l0, hne1, hne2]) rfl ⟨u3, t, o, rfl, r1, r2⟩
  · have hz' : (u2 == 0) = false := by simpa using hz
    by_cases hy : u2 = 1
    · subst hy
      go_wp2_with fail
      refine (oneG R w2.heap.size sl _ [-1, 65536] 2 _ 3 w2 rfl rfl rfl H2.out (by omega) (by omega) (by simp) (by simp)).mono ?_
      rintro e w3 ⟨u3, rfl, a3, h3, m3⟩
      have B3 := hid_in (B2.out.mv m3 (by omega)); have C3 := hid_in (C2.out.mv m3 (by omega)); have H3 := hid_in h3; have M3 := hid_in (M2.out.trans m3)
      clear h3 m3 H2 M2 B2 C2 a3
      have C4 := hid_in (C3.out.set2 u3)
      have B4 := hid_in (show CBf (w3.setCell ⟨w1.heap.size, 2, none⟩ (.int .i64 u3)) w.heap.size 0 0 0 from by
        obtain ⟨l0, p0, p1, p2, pf⟩ := B3.out
        exact ⟨by simpa using l0, by go_simp, by go_simp, by go_simp, fun o => by go_simp⟩)
      have M4 := hid_in (M3.out.poke (o := 2) (show w.heap.size ≤ w1.heap.size by omega) (.int .i64 u3))
      have H4 := hid_in (H0.out.poke (o := 2) H3.out M3.out (show w.heap.size ≤ w1.heap.size by omega) (.int .i64 u3))
      obtain ⟨x0, y0, y1, y2, yf⟩ := C3.out
      obtain ⟨l0, p0, p1, p2, pf⟩ := B3.out
      go_wp2_with fail
      obtain ⟨r1, r2⟩ := FIN.out (w3.setCell ⟨w1.heap.size, 2, none⟩ (.int .i64 u3)) (q1 + 1 + 1) (by omega) (by omega) H4.out M4.out f t u3 B4.out
      exact bodyPost_ret (v := .agg #[.int .i64 f, .int .i64 t, .int .i64 u3]) (by simp [results, Try.results15, go_sem, p0, p1, p2, l0, hne1, hne2]) rfl ⟨f, t, u3, rfl, r1, r2⟩
    · have hy' : (u2 == 1) = false := by simpa using hy
      obtain ⟨x0, y0, y1, y2, yf⟩ := C2.out
      obtain ⟨l0, p0, p1, p2, pf⟩ := B2.out
      go_wp2_with fail
      obtain ⟨r1, r2⟩ := FIN.out w2 (q1 + 1) (by omega) (by omega) H2.out M2.out f t o B2.out
      exact bodyPost_ret (v := .agg #[.int .i64 f, .int .i64 t, .int .i64 o]) (by simp [results, Try.results15, go_sem, p0, p1, p2, l0, hne1, hne2]) rfl ⟨f, t, o, rfl, r1, r2⟩
end Go.Proofs.Ytdljoopioglkiaa
