/- Calls and packets drawn. The conditions stand at each theorem. -/
import Derived.Test.YtgolcjlogokbiaaDoorPkpA
import Derived.Test.YtgolcjlogokbiaaDoorDrwQ
import Derived.Test.YtgolcjlogokbiaaDoorDrwV
import Derived.Test.YtgolcjlogokbiaaDoorDrwW
namespace Go.Proofs.YtgolcjlogokbiaaDoor
open Go.RowKit Go.LatT Go.BlockM Go.PlainAid Go.OpnT Go.RegE Go.ApdG Go.BytM
set_option linter.unusedVariables false
set_option linter.unusedSimpArgs false
/-- A struct lies in a block that may be written. -/
structure CBf (w : World) (g : Nat) (a0 : Int) (a1 : Int) (a2 : Int) : Prop where
  lt : g < w.heap.size
  c0 : w.cell? ⟨g, 0, none⟩ = some (.int .i64 a0)
  c1 : w.cell? ⟨g, 1, none⟩ = some (.int .i64 a1)
  c2 : w.cell? ⟨g, 2, none⟩ = some (.int .i64 a2)
  fz : ∀ o, w.frozen? ⟨g, o, none⟩ = false
section
variable {w w' : World} {g R : Nat} {a0 : Int} {a1 : Int} {a2 : Int}
theorem CBf.mv (h : CBf w g a0 a1 a2) (m : Mv R w w') (hg : g ≠ R) : CBf w' g a0 a1 a2 :=
  have q := fun o => m.cell g o h.lt hg
  ⟨Nat.lt_of_lt_of_le h.lt m.size, (q _).trans h.c0, (q _).trans h.c1, (q _).trans h.c2, fun o => (m.frozen g o h.lt hg).trans (h.fz o)⟩
theorem CBf.later (h : CBf w g a0 a1 a2) (hb : Below w.heap.size w w') : CBf w' g a0 a1 a2 :=
  have q := fun o => (bcell hb).1 g o h.lt
  ⟨Nat.lt_of_lt_of_le h.lt hb.size, (q _).trans h.c0, (q _).trans h.c1, (q _).trans h.c2, fun o => ((bcell hb).2 g o h.lt).trans (h.fz o)⟩
theorem CBf.set0 (b : Int) (h : CBf w g a0 a1 a2) : CBf (w.setCell ⟨g, 0, none⟩ (.int .i64 b)) g b a1 a2 := by
  obtain ⟨l0, p0, p1, p2, pf⟩ := h
  exact ⟨by simpa using l0, by go_simp, by go_simp, by go_simp, fun o => by go_simp⟩
theorem CBf.set1 (b : Int) (h : CBf w g a0 a1 a2) : CBf (w.setCell ⟨g, 1, none⟩ (.int .i64 b)) g a0 b a2 := by
  obtain ⟨l0, p0, p1, p2, pf⟩ := h
  exact ⟨by simpa using l0, by go_simp, by go_simp, by go_simp, fun o => by go_simp⟩
theorem CBf.set2 (b : Int) (h : CBf w g a0 a1 a2) : CBf (w.setCell ⟨g, 2, none⟩ (.int .i64 b)) g a0 a1 b := by
  obtain ⟨l0, p0, p1, p2, pf⟩ := h
  exact ⟨by simpa using l0, by go_simp, by go_simp, by go_simp, fun o => by go_simp⟩
end
theorem CBf.new (w : World) (a0 : Int) (a1 : Int) (a2 : Int) (ty : TypeId) : CBf (w.alloc (.cells #[.int .i64 a0, .int .i64 a1, .int .i64 a2] ty)) w.heap.size a0 a1 a2 := ⟨by simp, by go_simp, by go_simp, by go_simp, fun o => by go_simp⟩
theorem Mv.poke {R g o : Nat} {w w' : World} (h : Mv R w w') (hg : w.heap.size ≤ g) (v : Value) : Mv R w (w'.setCell ⟨g, o, none⟩ v) :=
  ⟨h.os, h.tape, h.output, by simpa using h.size, fun k hk hne => (heap_setCell_other w' ⟨g, o, none⟩ k v (by simp; omega)).trans (h.block k hk hne)⟩
theorem Rdr.poke {w w' : World} {R g o : Nat} {sl : Value} {p q : Int} (h : Rdr w R sl p) (h' : Rdr w' R sl q) (m : Mv R w w') (hg : w.heap.size ≤ g) (v : Value) : Rdr (w'.setCell ⟨g, o, none⟩ v) R sl q := by
  have hne : R ≠ g := Nat.ne_of_lt (Nat.lt_of_lt_of_le h.lt hg)
  have hb : (w'.setCell ⟨g, o, none⟩ v).heap[R]? = w'.heap[R]? := heap_setCell_other w' ⟨g, o, none⟩ R v (fun e => hne e)
  refine ⟨?_, ?_, ?_, h.src_of (m.poke hg v)⟩
  · have := h'.c0; unfold World.cell? at this ⊢; rw [hb]; exact this
  · have := h'.c1; unfold World.cell? at this ⊢; rw [hb]; exact this
  · have := h'.fz; unfold World.frozen? at this ⊢; rw [hb]; exact this
/-- What drawing a call answers. -/
def CalP (R : Nat) (sl : Value) (p : Int) (w : World) (e : Ending) (w' : World) : Prop :=
  ∃ f t o : Int, e = .returned (.agg #[.int .i64 f, .int .i64 t, .int .i64 o]) ∧ (0 ≤ f ∧ f ≤ 4294967295) ∧ (0 ≤ t ∧ t ≤ 4294967295) ∧ (0 ≤ o ∧ o ≤ 65535) ∧ (∃ q, p ≤ q ∧ q ≤ p + 60 ∧ Rdr w' R sl q) ∧ Mv R w w'
set_option maxHeartbeats 2000000 in
set_option maxRecDepth 100000 in
theorem l12Call_any (R : Nat) (sl : Value) (p : Int) (w : World) (h : Rdr w R sl p) (hp : 0 ≤ p) (hp' : p ≤ 900000000) :
    Calls Tryd.prog 64 #[.pointer (some ⟨R, 0, none⟩)] w fun e w' => CalP R sl p w e w' := by
  have hlt := h.lt
  have H := hid_in (h.later (below_box w (.cells #[.int .i64 0, .int .i64 0, .int .i64 0] 67)))
  have M0 : Hid (Mv R w (w.alloc (.cells #[.int .i64 0, .int .i64 0, .int .i64 0] 67))) := Mv.of_below (below_box w _)
  have B0 := hid_in (CBf.new w 0 0 0 67)
  have H0 := hid_in h
  clear h
  go_enter Tryd.func64, Tryd.ntmps64
  go_wp2_with fail
  generalize (w.alloc (.cells #[.int .i64 0, .int .i64 0, .int .i64 0] 67)) = W0 at *
  refine (l12Addr_any R sl p _ H.out (by omega) (by omega)).mono ?_
  rintro e w1 ⟨u1, rfl, a1, b1, ⟨q1, c1, d1, h1⟩, m1⟩
  have H1 := hid_in h1; have M1 := hid_in m1; clear h1 m1 H
  go_wp2_with fail
  refine (l12Addr_any R sl q1 _ H1.out (by omega) (by omega)).mono ?_
  rintro e w2 ⟨u2, rfl, a2, b2, ⟨q2, c2, d2, h2⟩, m2⟩
  have H2 := hid_in h2; have M2 := hid_in (M1.out.trans m2); clear h2 m2 H1 M1
  go_wp2_with fail
  refine (pickM R sl q2 256 _ H2.out (by omega) (by omega) (by omega) (by omega)).mono ?_
  rintro e w3 ⟨u3, rfl, a3, b3, h3, m3⟩
  have H3 := hid_in h3; have M3 := hid_in (M2.out.trans m3); clear h3 m3 H2 M2
  go_wp2_with fail
  refine (oneN R sl _ [0, 80, 81, 100, 443, 65535, u3] 7 _ 3 w3 rfl rfl H3.out (by omega) (by omega) (by simp) (by simp)).mono ?_
  rintro e w4 ⟨u4, rfl, hu4, h4, m4⟩
  have H4 := hid_in h4; have M4 := hid_in (M3.out.trans m4); clear h4 m4 H3 M3
  have hu5 : 0 ≤ u4 ∧ u4 ≤ 65535 := by
    simp only [List.mem_cons, List.not_mem_nil, or_false] at hu4
    omega
  clear hu4
  have B4 := hid_in (B0.out.mv M4.out (by omega))
  have M5 := hid_in (M0.out.trans M4.out)
  obtain ⟨l0, k0, k1, k2, kf⟩ := B4.out
  go_wp2_with fail
  have r1 := H0.out.poke (o := 0) H4.out M5.out (Nat.le_refl _) (.int .i64 u1)
  have m1 := M5.out.poke (o := 0) (Nat.le_refl _) (.int .i64 u1)
  have r2 := H0.out.poke (o := 1) r1 m1 (Nat.le_refl _) (.int .i64 u2)
  have m2 := m1.poke (o := 1) (Nat.le_refl _) (.int .i64 u2)
  have r3 := H0.out.poke (o := 2) r2 m2 (Nat.le_refl _) (.int .i64 u4)
  have m3 := m2.poke (o := 2) (Nat.le_refl _) (.int .i64 u4)
  exact bodyPost_ret (v := .agg #[.int .i64 u1, .int .i64 u2, .int .i64 u4]) (by simp [results, Tryd.results64, go_sem, k0, k1, k2, l0]) rfl ⟨u1, u2, u4, rfl, ⟨a1, b1⟩, ⟨a2, b2⟩, hu5, ⟨_, by omega, by omega, r3⟩, m3⟩
/-- What drawing a packet answers. -/
def PkdP (R : Nat) (sl : Value) (p : Int) (w : World) (e : Ending) (w' : World) : Prop :=
  ∃ (f t o : Int) (s : ByteArray), e = .returned (.agg #[.int .i64 f, .int .i64 t, .int .i64 o, .string s]) ∧ (0 ≤ f ∧ f ≤ 4294967295) ∧ (0 ≤ t ∧ t ≤ 4294967295) ∧ (0 ≤ o ∧ o ≤ 65535) ∧ s.size ≤ 40 ∧ (∃ q, p ≤ q ∧ q ≤ p + 80 ∧ Rdr w' R sl q) ∧ Mv R w w'
end Go.Proofs.YtgolcjlogokbiaaDoor
