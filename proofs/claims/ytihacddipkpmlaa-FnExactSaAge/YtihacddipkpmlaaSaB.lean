/- Keys to work with, in memory of their own. The conditions stand at each theorem. -/
import Derived.Test.YtihacddipkpmlaaSaA
import Derived.Test.YtihacddipkpmlaaWinF
import Derived.Test.YtihacddipkpmlaaShelf
namespace Go.Proofs.Ytihacddipkpmlaa
open Go.RowKit Go.LatT Go.BlockM Go.OpnT Go.WinMath
set_option linter.unusedVariables false
set_option linter.unusedSimpArgs false
theorem below_drew {w w' : World} {B : Nat} (h : Below B w w') : Below B w w'.drew := h.drew
theorem sclone_any (s : ByteArray) (w : World) (h : s.size ≤ 1048576) :
    Calls Try.prog 34 #[.string s] w fun e w' => e = .returned (.string s) ∧ Below w.heap.size w w' := by
  go_enter Try.func34, Try.ntmps34
  go_wp2_with fail
  refine (Try.stringslite_Clone s _ (by omega)).mono ?_
  rintro e w1 ⟨rfl, hb1⟩
  go_wp2_with fail
  go_ret
  exact ⟨rfl, hb1⟩
theorem iclone_any (a : Option Addr) (len cap : Nat) (E : Nat → Int) (w : World) (hT : Ints w a len E) (hl : len ≤ 1048576) :
    Calls Try.prog 35 #[.slice a len cap] w fun e w' => ∃ v', e = .returned v' ∧ w'.ownsRow w.heap.size 3 1 v' len (i64s (LE E len)) ∧ Below w.heap.size w w' := by
  rcases hT with rfl | ⟨bb, off, rfl, h1, h2⟩
  · cases a with
    | none =>
      refine (Try.slices_Clone_int_nil 0 cap w).mono ?_
      rintro e w1 ⟨rfl, rfl⟩
      exact ⟨_, rfl, World.ownsRow_nil _ _ _ _, Below.refl _ _⟩
    | some a =>
      refine (Try.slices_Clone_int_zero a cap w).mono ?_
      rintro e w1 ⟨v', rfl, h, _, hb⟩
      exact ⟨_, rfl, h, hb⟩
  · refine (Try.slices_Clone_int bb off len cap (LE E len) w (by simp [LE]) (by omega) (fun j hj => ?_)).mono ?_
    · have hj' : j < len := by simpa [LE] using hj
      rw [h2 j hj']
      simp [LE, hj']
    · rintro e w1 ⟨v', rfl, h, _, hb⟩
      refine ⟨_, rfl, ?_, hb⟩
      have e1 : (LE E len).take len = LE E len := List.take_of_length_le (by simp [LE])
      rw [e1] at h
      exact h
/-- Keys lie in a block. -/
structure SaBox (w : World) (g : Nat) (x : SaV) (v : Value) : Prop where
  lt : g < w.heap.size
  c0 : w.cell? ⟨g, 0, none⟩ = some (.int .i64 x.spi)
  c1 : w.cell? ⟨g, 1, none⟩ = some (.int .i64 x.tun)
  c2 : w.cell? ⟨g, 2, none⟩ = some (.string x.key)
  c3 : w.cell? ⟨g, 3, none⟩ = some (.string x.mac)
  c4 : w.cell? ⟨g, 4, none⟩ = some (.int .i64 x.since)
  c5 : w.cell? ⟨g, 5, none⟩ = some (.int .i64 x.soft)
  c6 : w.cell? ⟨g, 6, none⟩ = some (.int .i64 x.hard)
  c7 : w.cell? ⟨g, 7, none⟩ = some (.int .i64 x.ticks)
  c8 : w.cell? ⟨g, 8, none⟩ = some (.int .i64 x.sent)
  c9 : w.cell? ⟨g, 9, none⟩ = some (.int .i64 x.top)
  c10 : w.cell? ⟨g, 10, none⟩ = some v
  f : ∀ o, w.frozen? ⟨g, o, none⟩ = false
theorem SaBox.later {w w' : World} {g : Nat} {x : SaV} {v : Value} (h : SaBox w g x v) (hb : Below w.heap.size w w') : SaBox w' g x v :=
  have q := fun o => (bcell hb).1 g o h.lt
  ⟨Nat.lt_of_lt_of_le h.lt hb.size, (q _).trans h.c0, (q _).trans h.c1, (q _).trans h.c2, (q _).trans h.c3, (q _).trans h.c4, (q _).trans h.c5, (q _).trans h.c6, (q _).trans h.c7, (q _).trans h.c8, (q _).trans h.c9, (q _).trans h.c10, fun o => ((bcell hb).2 g o h.lt).trans (h.f o)⟩
theorem SaBox.drew {w : World} {g : Nat} {x : SaV} {v : Value} (h : SaBox w g x v) : SaBox w.drew g x v := ⟨h.lt, h.c0, h.c1, h.c2, h.c3, h.c4, h.c5, h.c6, h.c7, h.c8, h.c9, h.c10, h.f⟩
theorem SaBox.new (w : World) (x : SaV) (v : Value) (ty : TypeId) : SaBox (w.alloc (.cells #[.int .i64 x.spi, .int .i64 x.tun, .string x.key, .string x.mac, .int .i64 x.since, .int .i64 x.soft, .int .i64 x.hard, .int .i64 x.ticks, .int .i64 x.sent, .int .i64 x.top, v] ty)) w.heap.size x v :=
  ⟨by simp, by go_simp, by go_simp, by go_simp, by go_simp, by go_simp, by go_simp, by go_simp, by go_simp, by go_simp, by go_simp, by go_simp, fun o => by go_simp⟩
theorem SaBox.set2 {w : World} {g : Nat} {x : SaV} {v : Value} (h : SaBox w g x v) : SaBox (w.setCell ⟨g, 2, none⟩ (.string x.key)) g x v := by
  obtain ⟨l0, p0, p1, p2, p3, p4, p5, p6, p7, p8, p9, p10, pf⟩ := h
  exact ⟨by simpa using l0, by go_simp, by go_simp, by go_simp, by go_simp, by go_simp, by go_simp, by go_simp, by go_simp, by go_simp, by go_simp, by go_simp, fun o => by go_simp⟩
theorem SaBox.set3 {w : World} {g : Nat} {x : SaV} {v : Value} (h : SaBox w g x v) : SaBox (w.setCell ⟨g, 3, none⟩ (.string x.mac)) g x v := by
  obtain ⟨l0, p0, p1, p2, p3, p4, p5, p6, p7, p8, p9, p10, pf⟩ := h
  exact ⟨by simpa using l0, by go_simp, by go_simp, by go_simp, by go_simp, by go_simp, by go_simp, by go_simp, by go_simp, by go_simp, by go_simp, by go_simp, fun o => by go_simp⟩
theorem SaBox.set10 {w : World} {g : Nat} {x : SaV} {v : Value} (u : Value) (h : SaBox w g x v) : SaBox (w.setCell ⟨g, 10, none⟩ u) g x u := by
  obtain ⟨l0, p0, p1, p2, p3, p4, p5, p6, p7, p8, p9, p10, pf⟩ := h
  exact ⟨by simpa using l0, by go_simp, by go_simp, by go_simp, by go_simp, by go_simp, by go_simp, by go_simp, by go_simp, by go_simp, by go_simp, by go_simp, fun o => by go_simp⟩
set_option maxHeartbeats 2000000 in
set_option maxRecDepth 100000 in
theorem keysOf_any (x : SaV) (a : Option Addr) (len cap : Nat) (E : Nat → Int) (w : World) (hT : Ints w a len E) (hl : len ≤ 1048576) (hk : x.key.size ≤ 1048576) (hm : x.mac.size ≤ 1048576) :
    Calls Try.prog 24 #[vSa x a len cap] w fun e w' => ∃ g v', e = .returned (.pointer (some ⟨g, 0, none⟩)) ∧ w.heap.size ≤ g ∧ SaBox w' g x v' ∧ w'.ownsRow w.heap.size 3 1 v' len (i64s (LE E len)) ∧ Below w.heap.size w w' := by
  have HT := hid_in hT
  clear hT
  go_enter Try.func24, Try.ntmps24
  go_wp2_with fail
  have b0 := SaBox.new w x (.slice a len cap) 38
  have B0 := hid_in b0
  obtain ⟨l0, p0, p1, p2, p3, p4, p5, p6, p7, p8, p9, p10, pf⟩ := b0
  go_region_held3 (fun w' => w'.cell? ⟨w.heap.size, 2, none⟩ = some (.string x.key) ∧ w'.cell? ⟨w.heap.size, 3, none⟩ = some (.string x.mac)) (first | go_keep | (refine ⟨?_, ?_⟩ <;> go_simp)) (first | (go_at_call_of 34 (Value.string x.key); refine (sclone_any x.key _ hk).mono ?_; rintro e w1 ⟨rfl, hb1⟩; have B1 := hid_in (SaBox.later (SaBox.drew B0.out) hb1); have u2 := B1.out.c2; have u3 := B1.out.c3; have Z1 := hid_in hb1; clear hb1) | (go_at_call 34; refine (sclone_any x.mac _ hm).mono ?_; rintro e w2 ⟨rfl, hb2⟩; have B2 := hid_in (SaBox.later B1.out hb2); have u2 := B2.out.c2; have u3 := B2.out.c3; have uf := B2.out.f; have ul := B2.out.lt; have Z2 := hid_in hb2; clear hb2))
  have B3 := hid_in (SaBox.set3 (SaBox.set2 B2.out))
  have Z3 : Hid (Below w.heap.size w ((w2.setCell ⟨w.heap.size, 2, none⟩ (.string x.key)).setCell ⟨w.heap.size, 3, none⟩ (.string x.mac))) := ((below_later (below_later (below_drew (below_box w _)) Z1.out) Z2.out).setCell (by simp) _).setCell (by simp) _
  clear Z1 Z2 B1 B2 B0 p0 p1 p2 p3 p4 p5 p6 p7 p8 p9 p10 pf l0
  try clear u2 u3 uf ul
  generalize ((w2.setCell ⟨w.heap.size, 2, none⟩ (.string x.key)).setCell ⟨w.heap.size, 3, none⟩ (.string x.mac)) = W at *
  obtain ⟨l0, p0, p1, p2, p3, p4, p5, p6, p7, p8, p9, p10, pf⟩ := B3.out
  go_wp2_with fail
  clear l0 p0 p1 p2 p3 p4 p5 p6 p7 p8 p9 p10 pf
  refine (iclone_any a len cap E W (HT.out.later Z3.out) hl).mono ?_
  rintro e w4 ⟨v', rfl, ho, hb4⟩
  obtain ⟨a', c', rfl⟩ := owns_form ho
  have B4 := hid_in (B3.out.later hb4)
  have O4 := hid_in ho
  have Z4 := hid_in (below_later Z3.out hb4)
  have X4 := hid_in (Nat.lt_of_lt_of_le B3.out.lt (Nat.le_refl _))
  clear ho hb4
  obtain ⟨l0, p0, p1, p2, p3, p4, p5, p6, p7, p8, p9, p10, pf⟩ := B4.out
  go_wp2_with fail
  have B5 := hid_in (SaBox.set10 (.slice a' len c') B4.out)
  have O5 := hid_in (owns_set (o := 10) (b := w.heap.size) (u := .slice a' len c') O4.out X4.out)
  have Z5 := hid_in (Z4.out.setCell (p := ⟨w.heap.size, 10, none⟩) (by simp) (.slice a' len c'))
  clear l0 p0 p1 p2 p3 p4 p5 p6 p7 p8 p9 p10 pf B4 O4 Z4
  have e5 : (w4.setCell ⟨w.heap.size, 10, none⟩ (.slice a' len c')).heap.size = w4.heap.size := by simp
  have hw4 : w.heap.size ≤ w4.heap.size := by have := Z5.out.size; rw [e5] at this; exact this
  go_ret
  refine ⟨w4.heap.size, .slice a' len c', rfl, hw4, ?_, (owns_base O5.out (Nat.le_of_lt X4.out)).alloc _, below_later Z5.out (below_box _ _)⟩
  rw [← e5]
  exact SaBox.new _ x _ _
end Go.Proofs.Ytihacddipkpmlaa
