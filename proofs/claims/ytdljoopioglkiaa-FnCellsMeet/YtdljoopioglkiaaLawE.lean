/- Two cells meet either way round, just if some call is in both: the walk of the law FnCellsMeet. The conditions stand at each theorem. -/
import Derived.Test.YtdljoopioglkiaaLawD
namespace Go.Proofs.Ytdljoopioglkiaa
open Go.RowKit Go.LatT Go.BlockM Go.OpnT Go.RegE Go.ApdG Go.WinMath
set_option linter.unusedVariables false
set_option linter.unusedSimpArgs false
theorem ovMore_any (a b : Int) (w : World) : Calls Try.prog 11 #[.int .i64 a, .int .i64 b] w fun e w' => e = .returned (.int .i64 (max a b)) ∧ w' = w := by
  by_cases h : b < a
  · have e := Int.max_eq_left (Int.le_of_lt h)
    have HE := hid_in e
    clear e
    go_enter Try.func11, Try.ntmps11
    go_wp2
    go_ret
    exact ⟨ret_int HE.out.symm, rfl⟩
  · have e := Int.max_eq_right (Int.not_lt.1 h)
    have HE := hid_in e
    have h' : decide (b < a) = false := by simp; omega
    clear e
    go_enter Try.func11, Try.ntmps11
    go_wp2
    go_ret
    exact ⟨ret_int HE.out.symm, rfl⟩
def meetE (E F : Nat → Int) : Bool := cellsB (E 0) (E 1) (E 2) (E 3) (E 4) (E 5) (F 0) (F 1) (F 2) (F 3) (F 4) (F 5)
theorem meetE_comm (E F : Nat → Int) : meetE E F = meetE F E := by
  simp only [meetE, cellsB, overB]
  rw [Bool.eq_iff_iff]
  simp
  omega
def hasM (E F : Nat → Int) : Bool := inB (max (E 0) (F 0)) (E 0) (E 1) && inB (max (E 2) (F 2)) (E 2) (E 3) && inB (max (E 4) (F 4)) (E 4) (E 5)
def hasN (E F : Nat → Int) : Bool := inB (max (E 0) (F 0)) (F 0) (F 1) && inB (max (E 2) (F 2)) (F 2) (F 3) && inB (max (E 4) (F 4)) (F 4) (F 5)
theorem meet_has (E F : Nat → Int) : meetE E F = (hasM E F && hasN E F) := by
  simp only [meetE, cellsB, overB, hasM, hasN, inB]
  rw [Bool.eq_iff_iff]
  simp
  omega
/-- Of a lone cell: its rule where it has a call, else -1. -/
theorem findOne (a b c d l h x y z : Int) (G : Nat) (w : World) (hG : G < w.heap.size) (r : Bool) (hr : (inB x a b && inB y c d && inB z l h) = r) (u : Int) (hu : (if r then (1 : Int) else -1) = u)
    (hc : w.heap[G]? = some (.cells #[.int .i64 a, .int .i64 b, .int .i64 c, .int .i64 d, .int .i64 l, .int .i64 h, .int .i64 1] 30)) :
    Calls Try.prog 6 #[.slice (some ⟨G, 0, none⟩) 1 1, .agg #[.int .i64 x, .int .i64 y, .int .i64 z]] w fun e w' => e = .returned (.int .i64 u) ∧ Below w.heap.size w w' := by
  have hT : Tab w (some ⟨G, 0, none⟩) 1 7 (fun _ j => match j with | 0 => a | 1 => b | 2 => c | 3 => d | 4 => l | 5 => h | _ => 1) := .inr ⟨G, 0, rfl, hG, fun i hi j hj => by
    obtain rfl : i = 0 := by omega
    unfold World.cell?
    rcases (by omega : j = 0 ∨ j = 1 ∨ j = 2 ∨ j = 3 ∨ j = 4 ∨ j = 5 ∨ j = 6) with rfl | rfl | rfl | rfl | rfl | rfl | rfl <;> simp [hc]⟩
  refine (findI_any (some ⟨G, 0, none⟩) 1 1 _ x y z w hT (by omega)).mono ?_
  rintro e w' ⟨v, rfl, F, hb⟩
  refine ⟨?_, hb⟩
  rcases F with ⟨i, hi, hp, _, rfl⟩ | ⟨hn, rfl⟩
  · obtain rfl : i = 0 := by omega
    have : r = true := by rw [← hr]; simpa [hitB] using hp
    rw [← hu, this]; rfl
  · have : r = false := by rw [← hr]; simpa [hitB] using hn 0 (by omega)
    rw [← hu, this]; rfl
/-- A struct lies in a block that may be written. -/
structure KBf (w : World) (g : Nat) (a0 : Int) (a1 : Int) (a2 : Int) (a3 : Int) (a4 : Int) (a5 : Int) (a6 : Int) : Prop where
  lt : g < w.heap.size
  c0 : w.cell? ⟨g, 0, none⟩ = some (.int .i64 a0)
  c1 : w.cell? ⟨g, 1, none⟩ = some (.int .i64 a1)
  c2 : w.cell? ⟨g, 2, none⟩ = some (.int .i64 a2)
  c3 : w.cell? ⟨g, 3, none⟩ = some (.int .i64 a3)
  c4 : w.cell? ⟨g, 4, none⟩ = some (.int .i64 a4)
  c5 : w.cell? ⟨g, 5, none⟩ = some (.int .i64 a5)
  c6 : w.cell? ⟨g, 6, none⟩ = some (.int .i64 a6)
  fz : ∀ o, w.frozen? ⟨g, o, none⟩ = false
section
variable {w w' : World} {g R : Nat} {a0 : Int} {a1 : Int} {a2 : Int} {a3 : Int} {a4 : Int} {a5 : Int} {a6 : Int}
theorem KBf.mv (h : KBf w g a0 a1 a2 a3 a4 a5 a6) (m : Mv R w w') (hg : g ≠ R) : KBf w' g a0 a1 a2 a3 a4 a5 a6 :=
  have q := fun o => m.cell g o h.lt hg
  ⟨Nat.lt_of_lt_of_le h.lt m.size, (q _).trans h.c0, (q _).trans h.c1, (q _).trans h.c2, (q _).trans h.c3, (q _).trans h.c4, (q _).trans h.c5, (q _).trans h.c6, fun o => (m.frozen g o h.lt hg).trans (h.fz o)⟩
theorem KBf.later (h : KBf w g a0 a1 a2 a3 a4 a5 a6) (hb : Below w.heap.size w w') : KBf w' g a0 a1 a2 a3 a4 a5 a6 :=
  have q := fun o => (bcell hb).1 g o h.lt
  ⟨Nat.lt_of_lt_of_le h.lt hb.size, (q _).trans h.c0, (q _).trans h.c1, (q _).trans h.c2, (q _).trans h.c3, (q _).trans h.c4, (q _).trans h.c5, (q _).trans h.c6, fun o => ((bcell hb).2 g o h.lt).trans (h.fz o)⟩
theorem KBf.set0 (b : Int) (h : KBf w g a0 a1 a2 a3 a4 a5 a6) : KBf (w.setCell ⟨g, 0, none⟩ (.int .i64 b)) g b a1 a2 a3 a4 a5 a6 := by
  obtain ⟨l0, p0, p1, p2, p3, p4, p5, p6, pf⟩ := h
  exact ⟨by simpa using l0, by go_simp, by go_simp, by go_simp, by go_simp, by go_simp, by go_simp, by go_simp, fun o => by go_simp⟩
theorem KBf.set1 (b : Int) (h : KBf w g a0 a1 a2 a3 a4 a5 a6) : KBf (w.setCell ⟨g, 1, none⟩ (.int .i64 b)) g a0 b a2 a3 a4 a5 a6 := by
  obtain ⟨l0, p0, p1, p2, p3, p4, p5, p6, pf⟩ := h
  exact ⟨by simpa using l0, by go_simp, by go_simp, by go_simp, by go_simp, by go_simp, by go_simp, by go_simp, fun o => by go_simp⟩
theorem KBf.set2 (b : Int) (h : KBf w g a0 a1 a2 a3 a4 a5 a6) : KBf (w.setCell ⟨g, 2, none⟩ (.int .i64 b)) g a0 a1 b a3 a4 a5 a6 := by
  obtain ⟨l0, p0, p1, p2, p3, p4, p5, p6, pf⟩ := h
  exact ⟨by simpa using l0, by go_simp, by go_simp, by go_simp, by go_simp, by go_simp, by go_simp, by go_simp, fun o => by go_simp⟩
theorem KBf.set3 (b : Int) (h : KBf w g a0 a1 a2 a3 a4 a5 a6) : KBf (w.setCell ⟨g, 3, none⟩ (.int .i64 b)) g a0 a1 a2 b a4 a5 a6 := by
  obtain ⟨l0, p0, p1, p2, p3, p4, p5, p6, pf⟩ := h
  exact ⟨by simpa using l0, by go_simp, by go_simp, by go_simp, by go_simp, by go_simp, by go_simp, by go_simp, fun o => by go_simp⟩
theorem KBf.set4 (b : Int) (h : KBf w g a0 a1 a2 a3 a4 a5 a6) : KBf (w.setCell ⟨g, 4, none⟩ (.int .i64 b)) g a0 a1 a2 a3 b a5 a6 := by
  obtain ⟨l0, p0, p1, p2, p3, p4, p5, p6, pf⟩ := h
  exact ⟨by simpa using l0, by go_simp, by go_simp, by go_simp, by go_simp, by go_simp, by go_simp, by go_simp, fun o => by go_simp⟩
theorem KBf.set5 (b : Int) (h : KBf w g a0 a1 a2 a3 a4 a5 a6) : KBf (w.setCell ⟨g, 5, none⟩ (.int .i64 b)) g a0 a1 a2 a3 a4 b a6 := by
  obtain ⟨l0, p0, p1, p2, p3, p4, p5, p6, pf⟩ := h
  exact ⟨by simpa using l0, by go_simp, by go_simp, by go_simp, by go_simp, by go_simp, by go_simp, by go_simp, fun o => by go_simp⟩
theorem KBf.set6 (b : Int) (h : KBf w g a0 a1 a2 a3 a4 a5 a6) : KBf (w.setCell ⟨g, 6, none⟩ (.int .i64 b)) g a0 a1 a2 a3 a4 a5 b := by
  obtain ⟨l0, p0, p1, p2, p3, p4, p5, p6, pf⟩ := h
  exact ⟨by simpa using l0, by go_simp, by go_simp, by go_simp, by go_simp, by go_simp, by go_simp, by go_simp, fun o => by go_simp⟩
end
theorem KBf.new (w : World) (a0 : Int) (a1 : Int) (a2 : Int) (a3 : Int) (a4 : Int) (a5 : Int) (a6 : Int) (ty : TypeId) : KBf (w.alloc (.cells #[.int .i64 a0, .int .i64 a1, .int .i64 a2, .int .i64 a3, .int .i64 a4, .int .i64 a5, .int .i64 a6] ty)) w.heap.size a0 a1 a2 a3 a4 a5 a6 := ⟨by simp, by go_simp, by go_simp, by go_simp, by go_simp, by go_simp, by go_simp, by go_simp, fun o => by go_simp⟩

theorem KBf.new' (w : World) (G : Nat) (a0 a1 a2 a3 a4 a5 a6 : Int) (ty : TypeId) (hG : G = w.heap.size) : KBf (w.alloc (.cells #[.int .i64 a0, .int .i64 a1, .int .i64 a2, .int .i64 a3, .int .i64 a4, .int .i64 a5, .int .i64 a6] ty)) G a0 a1 a2 a3 a4 a5 a6 := by
  subst hG
  exact KBf.new w a0 a1 a2 a3 a4 a5 a6 ty
set_option maxHeartbeats 600000 in
set_option maxRecDepth 100000 in
theorem walk_FnCellsMeet (a0 : Option Addr) (len0 cap0 : Nat) (z0 : List Int) (w : World) (h : RowC w a0 len0 cap0 z0) :
    Calls Try.prog 4 #[.slice a0 len0 cap0] w fun e w' => e = .returned (.bool true) ∧ Below w.heap.size w w' := by
  have hm : (len0 : Int) ≤ 9223372036854775807 := by
    rcases h with ⟨rfl, _⟩ | ⟨_, _, _, h1, h2, _⟩
    · omega
    · unfold maxLen at h2; omega
  have HR := hid_in h
  clear h
  by_cases hl : len0 ≤ 1048576
  · go_enter Try.func4, Try.ntmps4
    go_wp2_with fail
    refine (drawCellsMeet a0 len0 cap0 z0 _ HR.out hl).mono ?_
    rintro e w1 ⟨E, F, rfl, hb1⟩
    have Z1 := hid_in hb1
    clear hb1
    obtain ⟨r1, hr1⟩ : ∃ v, hasM E F = v := ⟨_, rfl⟩
    obtain ⟨r2, hr2⟩ : ∃ v, hasN E F = v := ⟨_, rfl⟩
    have R1 := hid_in hr1; have R2 := hid_in hr2
    obtain ⟨v, hv⟩ : ∃ v, meetE E F = v := ⟨_, rfl⟩
    have RV : Hid (v = (r1 && r2)) := by show v = _; rw [← hv, meet_has, hr1, hr2]
    clear hr1 hr2
    have MV := hid_in hv
    have MC : Hid (meetE F E = v) := by show _ = v; rw [meetE_comm]; exact hv
    clear hv
    unfold vc
    go_wp2_with fail
    have Z2 := hid_in (below_later Z1.out (below_later (below_box w1 (.cells #[.int .i64 (E 0), .int .i64 (E 1), .int .i64 (E 2), .int .i64 (E 3), .int .i64 (E 4), .int .i64 (E 5), .int .i64 (E 6)] 30)) (below_box _ (.cells #[.int .i64 (F 0), .int .i64 (F 1), .int .i64 (F 2), .int .i64 (F 3), .int .i64 (F 4), .int .i64 (F 5), .int .i64 (F 6)] 30))))
    have A2 := hid_in ((KBf.new w1 (E 0) (E 1) (E 2) (E 3) (E 4) (E 5) (E 6) 30).later (below_box _ (.cells #[.int .i64 (F 0), .int .i64 (F 1), .int .i64 (F 2), .int .i64 (F 3), .int .i64 (F 4), .int .i64 (F 5), .int .i64 (F 6)] 30)))
    have B2 := hid_in (KBf.new' (w1.alloc (.cells #[.int .i64 (E 0), .int .i64 (E 1), .int .i64 (E 2), .int .i64 (E 3), .int .i64 (E 4), .int .i64 (E 5), .int .i64 (E 6)] 30)) (w1.heap.size + 1) (F 0) (F 1) (F 2) (F 3) (F 4) (F 5) (F 6) 30 (by simp))
    generalize (w1.alloc (.cells #[.int .i64 (E 0), .int .i64 (E 1), .int .i64 (E 2), .int .i64 (E 3), .int .i64 (E 4), .int .i64 (E 5), .int .i64 (E 6)] 30)).alloc (.cells #[.int .i64 (F 0), .int .i64 (F 1), .int .i64 (F 2), .int .i64 (F 3), .int .i64 (F 4), .int .i64 (F 5), .int .i64 (F 6)] 30) = W2 at *
    refine (cellsMeetI _ _ _ _ _ _ (E 6) _ _ _ _ _ _ (F 6) _ v MV.out).mono ?_
    rintro e w3 ⟨rfl, hb3⟩
    have Z3 := hid_in (below_later Z2.out hb3); have A3 := hid_in (A2.out.later hb3); have B3 := hid_in (B2.out.later hb3)
    clear hb3 Z2 A2 B2
    obtain ⟨l0, p0, p1, p2, p3, p4, p5, p6, pf⟩ := A3.out
    obtain ⟨m0, q0, q1, q2, q3, q4, q5, q6, qf⟩ := B3.out
    go_wp2_with fail
    refine (cellsMeetS _ _ _ _ _ _ (E 6) _ _ _ _ _ _ (F 6) _ v MV.out).mono ?_
    rintro e w4 ⟨rfl, hb4⟩
    have Z4 := hid_in (below_later Z3.out hb4); have A4 := hid_in (A3.out.later hb4); have B4 := hid_in (B3.out.later hb4)
    clear hb4 Z3 A3 B3 l0 p0 p1 p2 p3 p4 p5 p6 pf m0 q0 q1 q2 q3 q4 q5 q6 qf
    obtain ⟨l0, p0, p1, p2, p3, p4, p5, p6, pf⟩ := A4.out
    obtain ⟨m0, q0, q1, q2, q3, q4, q5, q6, qf⟩ := B4.out
    have qv : (v != v) = false := by simp
    go_wp2_with fail
    refine (cellsMeetI _ _ _ _ _ _ (F 6) _ _ _ _ _ _ (E 6) _ v MC.out).mono ?_
    rintro e w5 ⟨rfl, hb5⟩
    have Z5 := hid_in (below_later Z4.out hb5); have A5 := hid_in (A4.out.later hb5); have B5 := hid_in (B4.out.later hb5)
    clear hb5 Z4 A4 B4 l0 p0 p1 p2 p3 p4 p5 p6 pf m0 q0 q1 q2 q3 q4 q5 q6 qf
    obtain ⟨l0, p0, p1, p2, p3, p4, p5, p6, pf⟩ := A5.out
    obtain ⟨m0, q0, q1, q2, q3, q4, q5, q6, qf⟩ := B5.out
    go_wp2_with fail
    go_region_held3 (fun w' => w'.cell? ⟨w1.heap.size, 0, none⟩ = some (.int .i64 (E 0)) ∧ w'.cell? ⟨w1.heap.size, 2, none⟩ = some (.int .i64 (E 2)) ∧ w'.cell? ⟨w1.heap.size, 4, none⟩ = some (.int .i64 (E 4)) ∧ w'.cell? ⟨w1.heap.size + 1, 0, none⟩ = some (.int .i64 (F 0)) ∧ w'.cell? ⟨w1.heap.size + 1, 2, none⟩ = some (.int .i64 (F 2)) ∧ w'.cell? ⟨w1.heap.size + 1, 4, none⟩ = some (.int .i64 (F 4))) (go_keep) (first | (go_at_call_of 11 (Value.int IntKind.i64 (E 0)); refine (ovMore_any (E 0) (F 0) _).mono ?_; rintro e w' ⟨rfl, rfl⟩) | (go_at_call_of 11 (Value.int IntKind.i64 (E 2)); refine (ovMore_any (E 2) (F 2) _).mono ?_; rintro e w' ⟨rfl, rfl⟩) | (go_at_call_of 11 (Value.int IntKind.i64 (E 4)); refine (ovMore_any (E 4) (F 4) _).mono ?_; rintro e w' ⟨rfl, rfl⟩))
    all_goals
      rename_i hS
      clear hS
      have bx := (below_box w5 (.cells #[.int .i64 (max (E 0) (F 0)), .int .i64 (max (E 2) (F 2)), .int .i64 (max (E 4) (F 4))] 25)).drew
      have A6 := hid_in (A5.out.later bx); have B6 := hid_in (B5.out.later bx); have Z6 := hid_in (below_later Z5.out bx)
      have C6 := hid_in ((CBf.new w5 (max (E 0) (F 0)) (max (E 2) (F 2)) (max (E 4) (F 4)) 25).later ((Below.refl _ _).drew))
      clear bx l0 p0 p1 p2 p3 p4 p5 p6 pf m0 q0 q1 q2 q3 q4 q5 q6 qf
      have hsz : w5.heap.size < (w5.alloc (.cells #[.int .i64 (max (E 0) (F 0)), .int .i64 (max (E 2) (F 2)), .int .i64 (max (E 4) (F 4))] 25)).drew.heap.size := C6.out.lt
      have ha5 := A5.out.lt; have hb5 := B5.out.lt
      generalize (w5.alloc (.cells #[.int .i64 (max (E 0) (F 0)), .int .i64 (max (E 2) (F 2)), .int .i64 (max (E 4) (F 4))] 25)).drew = W6 at *
      have nAB : ¬ w1.heap.size + 1 = w1.heap.size := by omega
      have nBA : ¬ w1.heap.size = w1.heap.size + 1 := by omega
      have nCA : ¬ w5.heap.size = w1.heap.size := by omega
      have nCB : ¬ w5.heap.size = w1.heap.size + 1 := by omega
      have nAC : ¬ w1.heap.size = w5.heap.size := by omega
      have nBC : ¬ w1.heap.size + 1 = w5.heap.size := by omega
      obtain ⟨l0, p0, p1, p2, p3, p4, p5, p6, pf⟩ := A6.out
      obtain ⟨m0, q0, q1, q2, q3, q4, q5, q6, qf⟩ := B6.out
      obtain ⟨n0, r0, r1', r2', rf⟩ := C6.out
      have Z8 := hid_in ((Z6.out.setCell (p := ⟨w1.heap.size, 6, none⟩) (by have := Z1.out.size; exact this) (.int .i64 1)).setCell (p := ⟨w1.heap.size + 1, 6, none⟩) (by have := Z1.out.size; show w.heap.size ≤ w1.heap.size + 1; omega) (.int .i64 1))
      have B8 : Hid (KBf ((W6.setCell ⟨w1.heap.size, 6, none⟩ (.int .i64 1)).setCell ⟨w1.heap.size + 1, 6, none⟩ (.int .i64 1)) (w1.heap.size + 1) (F 0) (F 1) (F 2) (F 3) (F 4) (F 5) 1) := by
        show KBf _ _ _ _ _ _ _ _ _
        exact ⟨by simpa using m0, by go_simp, by go_simp, by go_simp, by go_simp, by go_simp, by go_simp, by go_simp, fun o => by go_simp⟩
      have C8 : Hid (CBf ((W6.setCell ⟨w1.heap.size, 6, none⟩ (.int .i64 1)).setCell ⟨w1.heap.size + 1, 6, none⟩ (.int .i64 1)) w5.heap.size (max (E 0) (F 0)) (max (E 2) (F 2)) (max (E 4) (F 4))) := by
        show CBf _ _ _ _ _
        exact ⟨by simpa using n0, by go_simp, by go_simp, by go_simp, fun o => by go_simp⟩
      go_wp2_with fail
      cases r1
      · cases r2
        · have hv : v = false := RV.out
          subst hv
          refine (findOne (E 0) (E 1) (E 2) (E 3) (E 4) (E 5) (max (E 0) (F 0)) (max (E 2) (F 2)) (max (E 4) (F 4)) _ _ (by simp) false R1.out (-1) rfl (by exact heap_new _ _ _ (by simp))).mono ?_
          rintro e w7 ⟨rfl, hb7⟩
          have Z7 := hid_in (below_later Z8.out (below_later (below_box _ _) hb7)); have B7 := hid_in ((B8.out.later (below_box _ _)).later hb7); have C7 := hid_in ((C8.out.later (below_box _ _)).later hb7)
          clear hb7 l0 p0 p1 p2 p3 p4 p5 p6 pf m0 q0 q1 q2 q3 q4 q5 q6 qf n0 r0 r1' r2' rf
          obtain ⟨m0, q0, q1, q2, q3, q4, q5, q6, qf⟩ := B7.out
          obtain ⟨n0, r0, r1', r2', rf⟩ := C7.out
          go_wp2_with fail
          refine (findOne (F 0) (F 1) (F 2) (F 3) (F 4) (F 5) (max (E 0) (F 0)) (max (E 2) (F 2)) (max (E 4) (F 4)) _ _ (by simp) false R2.out (-1) rfl (by exact heap_new _ _ _ (by simp))).mono ?_
          rintro e w9 ⟨rfl, hb9⟩
          go_wp2_with fail
          go_ret
          exact ⟨rfl, below_later Z7.out (below_later (below_box _ _) hb9)⟩
        · have hv : v = false := RV.out
          subst hv
          refine (findOne (E 0) (E 1) (E 2) (E 3) (E 4) (E 5) (max (E 0) (F 0)) (max (E 2) (F 2)) (max (E 4) (F 4)) _ _ (by simp) false R1.out (-1) rfl (by exact heap_new _ _ _ (by simp))).mono ?_
          rintro e w7 ⟨rfl, hb7⟩
          have Z7 := hid_in (below_later Z8.out (below_later (below_box _ _) hb7)); have B7 := hid_in ((B8.out.later (below_box _ _)).later hb7); have C7 := hid_in ((C8.out.later (below_box _ _)).later hb7)
          clear hb7 l0 p0 p1 p2 p3 p4 p5 p6 pf m0 q0 q1 q2 q3 q4 q5 q6 qf n0 r0 r1' r2' rf
          obtain ⟨m0, q0, q1, q2, q3, q4, q5, q6, qf⟩ := B7.out
          obtain ⟨n0, r0, r1', r2', rf⟩ := C7.out
          go_wp2_with fail
          refine (findOne (F 0) (F 1) (F 2) (F 3) (F 4) (F 5) (max (E 0) (F 0)) (max (E 2) (F 2)) (max (E 4) (F 4)) _ _ (by simp) true R2.out 1 rfl (by exact heap_new _ _ _ (by simp))).mono ?_
          rintro e w9 ⟨rfl, hb9⟩
          go_wp2_with fail
          go_ret
          exact ⟨rfl, below_later Z7.out (below_later (below_box _ _) hb9)⟩
      · cases r2
        · have hv : v = false := RV.out
          subst hv
          refine (findOne (E 0) (E 1) (E 2) (E 3) (E 4) (E 5) (max (E 0) (F 0)) (max (E 2) (F 2)) (max (E 4) (F 4)) _ _ (by simp) true R1.out 1 rfl (by exact heap_new _ _ _ (by simp))).mono ?_
          rintro e w7 ⟨rfl, hb7⟩
          have Z7 := hid_in (below_later Z8.out (below_later (below_box _ _) hb7)); have B7 := hid_in ((B8.out.later (below_box _ _)).later hb7); have C7 := hid_in ((C8.out.later (below_box _ _)).later hb7)
          clear hb7 l0 p0 p1 p2 p3 p4 p5 p6 pf m0 q0 q1 q2 q3 q4 q5 q6 qf n0 r0 r1' r2' rf
          obtain ⟨m0, q0, q1, q2, q3, q4, q5, q6, qf⟩ := B7.out
          obtain ⟨n0, r0, r1', r2', rf⟩ := C7.out
          go_wp2_with fail
          refine (findOne (F 0) (F 1) (F 2) (F 3) (F 4) (F 5) (max (E 0) (F 0)) (max (E 2) (F 2)) (max (E 4) (F 4)) _ _ (by simp) false R2.out (-1) rfl (by exact heap_new _ _ _ (by simp))).mono ?_
          rintro e w9 ⟨rfl, hb9⟩
          go_wp2_with fail
          go_ret
          exact ⟨rfl, below_later Z7.out (below_later (below_box _ _) hb9)⟩
        · have hv : v = true := RV.out
          subst hv
          refine (findOne (E 0) (E 1) (E 2) (E 3) (E 4) (E 5) (max (E 0) (F 0)) (max (E 2) (F 2)) (max (E 4) (F 4)) _ _ (by simp) true R1.out 1 rfl (by exact heap_new _ _ _ (by simp))).mono ?_
          rintro e w7 ⟨rfl, hb7⟩
          have Z7 := hid_in (below_later Z8.out (below_later (below_box _ _) hb7)); have B7 := hid_in ((B8.out.later (below_box _ _)).later hb7); have C7 := hid_in ((C8.out.later (below_box _ _)).later hb7)
          clear hb7 l0 p0 p1 p2 p3 p4 p5 p6 pf m0 q0 q1 q2 q3 q4 q5 q6 qf n0 r0 r1' r2' rf
          obtain ⟨m0, q0, q1, q2, q3, q4, q5, q6, qf⟩ := B7.out
          obtain ⟨n0, r0, r1', r2', rf⟩ := C7.out
          go_wp2_with fail
          refine (findOne (F 0) (F 1) (F 2) (F 3) (F 4) (F 5) (max (E 0) (F 0)) (max (E 2) (F 2)) (max (E 4) (F 4)) _ _ (by simp) true R2.out 1 rfl (by exact heap_new _ _ _ (by simp))).mono ?_
          rintro e w9 ⟨rfl, hb9⟩
          go_wp2_with fail
          go_ret
          exact ⟨rfl, below_later Z7.out (below_later (below_box _ _) hb9)⟩
  · have hl' : (1048576 : Int) < len0 := by omega
    go_enter Try.func4, Try.ntmps4
    go_wp2_with fail
    go_ret
    exact ⟨rfl, Below.refl _ _⟩
end Go.Proofs.Ytdljoopioglkiaa
