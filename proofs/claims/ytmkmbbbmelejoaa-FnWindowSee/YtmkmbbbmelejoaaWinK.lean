/- What the specification and the program answer to a window and a number. The conditions stand at each theorem. -/
import Derived.Test.YtmkmbbbmelejoaaWinJ
namespace Go.Proofs.Ytmkmbbbmelejoaa
open Go.RowKit Go.LatT Go.BlockM Go.OpnT Go.WinMath
set_option linter.unusedVariables false
set_option linter.unusedSimpArgs false
theorem wok_rep {t : Int} {len : Nat} {E : Nat → Int} (h : WOk t len E) : ∃ c, Rep t c (LE E len) := by
  obtain ⟨h1, h2⟩ := wok_good h
  have key : ∀ k, k ≤ len → ∃ c, Rep (topK E k) c (seenK E k) := by
    intro k
    induction k with
    | zero => exact fun _ => ⟨0, rep_nil⟩
    | succ k ih =>
      intro hk
      obtain ⟨c, hc⟩ := ih (by omega)
      have hg := fun i (hi : i < k) => h1 i (by omega)
      have h0 := topK_nonneg hg
      have hr := hc
      obtain ⟨g1, g2, g3⟩ := h1 k (by omega)
      obtain ⟨x1, x2⟩ := code_good hg hc (h1 k (by omega))
      obtain ⟨y1, _, _⟩ := rep_see (n := E k) hc (by omega) g3 (by omega) (fun hm => by have := hr.mem _ hm; omega)
      rw [x2] at y1
      exact ⟨_, y1⟩
  obtain ⟨c, hc⟩ := key len (Nat.le_refl _)
  rw [h2, wok_seen h] at hc
  exact ⟨c, hc⟩
/-- The numbers of a list, by their places. -/
def gE (L : List Int) : Nat → Int := fun i => L.getD i 0
theorem LE_gE (L : List Int) : LE (gE L) L.length = L := by
  apply List.ext_getElem
  · simp [LE]
  · intro i h1 h2
    simp [LE, gE, h2]
theorem IL.ints {w : World} {v : Value} {L : List Int} (h : IL w v L) : ∃ a cap, v = .slice a L.length cap ∧ Ints w a L.length (gE L) := by
  obtain ⟨a, cap, e, hc, h⟩ := h
  refine ⟨a, cap, e, ?_⟩
  rcases h with ⟨rfl, rfl⟩ | ⟨bb, off, e, hlt, hc⟩
  · exact .inl (by omega)
  · exact .inr ⟨bb, off, e, hlt, hc⟩
/-- The answer to a window and a number. -/
def Res (t n : Int) (L : List Int) (T' : Int) (L' : List Int) (k' : Int) : Prop :=
  (¬ WOk t L.length (gE L) ∧ T' = 0 ∧ L' = [] ∧ k' = 1) ∨ (WOk t L.length (gE L) ∧ T' = topL t L n ∧ L' = listL t L n ∧ k' = codeL t L n)
theorem Res.same {t n T1 k1 T2 k2 : Int} {L L1 L2 : List Int} (h1 : Res t n L T1 L1 k1) (h2 : Res t n L T2 L2 k2) : T1 = T2 ∧ L1 = L2 ∧ k1 = k2 := by
  rcases h1 with ⟨a, rfl, rfl, rfl⟩ | ⟨a, rfl, rfl, rfl⟩ <;> rcases h2 with ⟨b, rfl, rfl, rfl⟩ | ⟨b, rfl, rfl, rfl⟩
  · exact ⟨rfl, rfl, rfl⟩
  · exact absurd b a
  · exact absurd a b
  · exact ⟨rfl, rfl, rfl⟩
def WSee (t n : Int) (L : List Int) (w : World) (e : Ending) (w' : World) : Prop :=
  ∃ T' L' k' v', e = .returned (.tuple #[.agg #[.int .i64 T', v'], .int .i64 k']) ∧ w'.ownsRow w.heap.size 3 1 v' L'.length (i64s L') ∧ Below w.heap.size w w' ∧ Res t n L T' L' k'
theorem listL_len {T n : Int} {c : Nat} {L : List Int} (h : Rep T c L) : (listL T L n).length ≤ 16 ∧ ∃ c', Rep (topL T L n) c' (listL T L n) := by
  have key : ∃ c', Rep (topL T L n) c' (listL T L n) := by
    by_cases hc : codeL T L n = 0
    · have hc2 := hc
      unfold codeL at hc2
      split at hc2
      · simp at hc2
      · split at hc2
        · simp at hc2
        · split at hc2
          · simp at hc2
          · rename_i a b d
            obtain ⟨y, _, _⟩ := rep_see h (by omega) (by omega) (by omega) d
            exact ⟨_, y⟩
    · refine ⟨c, ?_⟩
      unfold topL listL
      rw [if_neg (fun h => hc h.1), if_neg hc]
      exact h
  obtain ⟨c', h'⟩ := key
  exact ⟨rep_len h', c', h'⟩
set_option maxHeartbeats 2000000 in
set_option maxRecDepth 100000 in
theorem windowSeeS (t n : Int) (v : Value) (L : List Int) (w : World) (hL : IL w v L) (hl : L.length ≤ 1048576) :
    Calls Try.prog 7 #[.agg #[.int .i64 t, v], .int .i64 n] w (WSee t n L w) := by
  have HL := hid_in hL
  obtain ⟨a, cap, rfl, hI⟩ := hL.ints
  have HI := hid_in hI
  clear hL hI
  go_enter Try.func7, Try.ntmps7
  go_wp2_with fail
  have zW : Below w.heap.size w ((w.alloc (Obj.cells #[.int .i64 t, .slice a L.length cap] 25)).alloc (Obj.cells #[.int .i64 0, .slice none 0 0] 25)) := by go_grown
  have sW : ((w.alloc (Obj.cells #[.int .i64 t, .slice a L.length cap] 25)).alloc (Obj.cells #[.int .i64 0, .slice none 0 0] 25)).heap.size = w.heap.size + 1 + 1 := by simp
  have Wc0 : ((w.alloc (Obj.cells #[.int .i64 t, .slice a L.length cap] 25)).alloc (Obj.cells #[.int .i64 0, .slice none 0 0] 25)).cell? ⟨w.heap.size, 0, none⟩ = some (.int .i64 t) := by go_simp
  have Wc1 : ((w.alloc (Obj.cells #[.int .i64 t, .slice a L.length cap] 25)).alloc (Obj.cells #[.int .i64 0, .slice none 0 0] 25)).cell? ⟨w.heap.size, 1, none⟩ = some (.slice a L.length cap) := by go_simp
  have Wc2 : ((w.alloc (Obj.cells #[.int .i64 t, .slice a L.length cap] 25)).alloc (Obj.cells #[.int .i64 0, .slice none 0 0] 25)).cell? ⟨w.heap.size + 1, 0, none⟩ = some (.int .i64 0) := by go_simp
  have Wc3 : ((w.alloc (Obj.cells #[.int .i64 t, .slice a L.length cap] 25)).alloc (Obj.cells #[.int .i64 0, .slice none 0 0] 25)).cell? ⟨w.heap.size + 1, 1, none⟩ = some (.slice none 0 0) := by go_simp
  have Wf0 : ((w.alloc (Obj.cells #[.int .i64 t, .slice a L.length cap] 25)).alloc (Obj.cells #[.int .i64 0, .slice none 0 0] 25)).frozen? ⟨w.heap.size + 1, 0, none⟩ = false := by go_simp
  have Wf1 : ((w.alloc (Obj.cells #[.int .i64 t, .slice a L.length cap] 25)).alloc (Obj.cells #[.int .i64 0, .slice none 0 0] 25)).frozen? ⟨w.heap.size + 1, 1, none⟩ = false := by go_simp
  generalize ((w.alloc (Obj.cells #[.int .i64 t, .slice a L.length cap] 25)).alloc (Obj.cells #[.int .i64 0, .slice none 0 0] 25)) = W at *
  refine (windowOkS t a L.length cap (gE L) _ (HI.out.later zW) hl).mono ?_
  rintro e w1 ⟨v, rfl, V, hb1⟩
  have xx1 := (bcell hb1).1; have xx2 := (bcell hb1).2
  replace Wc0 := (xx1 _ _ (by omega)).trans Wc0
  replace Wc1 := (xx1 _ _ (by omega)).trans Wc1
  replace Wc2 := (xx1 _ _ (by omega)).trans Wc2
  replace Wc3 := (xx1 _ _ (by omega)).trans Wc3
  replace Wf0 := (xx2 _ _ (by omega)).trans Wf0
  replace Wf1 := (xx2 _ _ (by omega)).trans Wf1
  clear xx1 xx2
  have zb := zW.trans (hb1.mono (show w.heap.size ≤ W.heap.size by omega))
  have s1 : w.heap.size + 1 + 1 ≤ w1.heap.size := by have := hb1.size; omega
  have V' := hid_in V; have ZB := hid_in zb
  clear hb1 zW zb V sW
  cases v
  · go_wp2_with fail
    exact bodyPost_ret (v := .tuple #[.agg #[.int .i64 0, .slice none 0 0], .int .i64 1]) (by simp [results, Try.results7, go_sem, Wc2, Wc3]) rfl
      ⟨0, [], 1, _, rfl, World.ownsRow_nil _ _ _ _, by first | exact ZB.out | exact (ZB.out.setCell (by simp) _).setCell (by simp) _, .inl ⟨fun h => by have := V'.out.2 h; simp at this, rfl, rfl, rfl⟩⟩
  · have hw : WOk t L.length (gE L) := V'.out.1 rfl
    obtain ⟨c, hc⟩ := wok_rep hw
    rw [LE_gE] at hc
    have HW := hid_in hw; have HC := hid_in hc
    clear hw hc
    go_wp2_with fail
    refine (l7See_any t n c L _ _ (HL.out.later ZB.out) HC.out).mono ?_
    rintro e w2 ⟨v', m, rfl, ho, hb2⟩
    obtain ⟨a', c', rfl⟩ := owns_form ho
    have xx1 := (bcell hb2).1; have xx2 := (bcell hb2).2
    replace Wc2 := (xx1 _ _ (by omega)).trans Wc2
    replace Wc3 := (xx1 _ _ (by omega)).trans Wc3
    replace Wf0 := (xx2 _ _ (by omega)).trans Wf0
    replace Wf1 := (xx2 _ _ (by omega)).trans Wf1
    clear xx1 xx2
    have O := hid_in ho; have B := hid_in (ZB.out.trans (hb2.mono (show w.heap.size ≤ w1.heap.size by omega)))
    clear ho hb2
    go_wp2_with fail
    have hm := owns_len O.out
    exact bodyPost_ret (v := .tuple #[.agg #[.int .i64 (topL t L n), .slice a' m c'], .int .i64 (codeL t L n)]) (by simp [results, Try.results7, go_sem, Wc2, Wc3]) rfl
      ⟨_, listL t L n, _, _, rfl, by rw [← hm]; exact owns_base (owns_set (owns_set O.out (by omega)) (by omega)) (by omega), (B.out.setCell (by simp) _).setCell (by simp) _, .inr ⟨HW.out, rfl, rfl, rfl⟩⟩
set_option maxHeartbeats 2000000 in
set_option maxRecDepth 100000 in
theorem windowSeeI (t n : Int) (v : Value) (L : List Int) (w : World) (hL : IL w v L) (hl : L.length ≤ 1048576) :
    Calls Try.prog 6 #[.agg #[.int .i64 t, v], .int .i64 n] w (WSee t n L w) := by
  have HL := hid_in hL
  obtain ⟨a, cap, rfl, hI⟩ := hL.ints
  have HI := hid_in hI
  clear hL hI
  go_enter Try.func6, Try.ntmps6
  go_wp2_with fail
  have zW : Below w.heap.size w ((w.alloc (Obj.cells #[.int .i64 t, .slice a L.length cap] 25)).alloc (Obj.cells #[.int .i64 0, .slice none 0 0] 25)) := by go_grown
  have sW : ((w.alloc (Obj.cells #[.int .i64 t, .slice a L.length cap] 25)).alloc (Obj.cells #[.int .i64 0, .slice none 0 0] 25)).heap.size = w.heap.size + 1 + 1 := by simp
  have Wc0 : ((w.alloc (Obj.cells #[.int .i64 t, .slice a L.length cap] 25)).alloc (Obj.cells #[.int .i64 0, .slice none 0 0] 25)).cell? ⟨w.heap.size, 0, none⟩ = some (.int .i64 t) := by go_simp
  have Wc1 : ((w.alloc (Obj.cells #[.int .i64 t, .slice a L.length cap] 25)).alloc (Obj.cells #[.int .i64 0, .slice none 0 0] 25)).cell? ⟨w.heap.size, 1, none⟩ = some (.slice a L.length cap) := by go_simp
  have Wc2 : ((w.alloc (Obj.cells #[.int .i64 t, .slice a L.length cap] 25)).alloc (Obj.cells #[.int .i64 0, .slice none 0 0] 25)).cell? ⟨w.heap.size + 1, 0, none⟩ = some (.int .i64 0) := by go_simp
  have Wc3 : ((w.alloc (Obj.cells #[.int .i64 t, .slice a L.length cap] 25)).alloc (Obj.cells #[.int .i64 0, .slice none 0 0] 25)).cell? ⟨w.heap.size + 1, 1, none⟩ = some (.slice none 0 0) := by go_simp
  have Wf0 : ((w.alloc (Obj.cells #[.int .i64 t, .slice a L.length cap] 25)).alloc (Obj.cells #[.int .i64 0, .slice none 0 0] 25)).frozen? ⟨w.heap.size + 1, 0, none⟩ = false := by go_simp
  have Wf1 : ((w.alloc (Obj.cells #[.int .i64 t, .slice a L.length cap] 25)).alloc (Obj.cells #[.int .i64 0, .slice none 0 0] 25)).frozen? ⟨w.heap.size + 1, 1, none⟩ = false := by go_simp
  generalize ((w.alloc (Obj.cells #[.int .i64 t, .slice a L.length cap] 25)).alloc (Obj.cells #[.int .i64 0, .slice none 0 0] 25)) = W at *
  refine (trailOf_any t a L.length cap (gE L) _ (HI.out.later zW) hl).mono ?_
  rintro e w1 ⟨T, c, v, rfl, V, hV, hb1⟩
  have xx1 := (bcell hb1).1; have xx2 := (bcell hb1).2
  replace Wc2 := (xx1 _ _ (by omega)).trans Wc2
  replace Wc3 := (xx1 _ _ (by omega)).trans Wc3
  replace Wf0 := (xx2 _ _ (by omega)).trans Wf0
  replace Wf1 := (xx2 _ _ (by omega)).trans Wf1
  clear xx1 xx2
  have zb := zW.trans (hb1.mono (show w.heap.size ≤ W.heap.size by omega))
  have s1 : w.heap.size + 1 + 1 ≤ w1.heap.size := by have := hb1.size; omega
  have m1 : w.heap.size + 1 < w1.heap.size := by omega
  have m2 : ¬ w.heap.size + 1 = w1.heap.size := by omega
  have V' := hid_in V; have ZB := hid_in zb; have HV := hid_in hV
  clear hb1 zW zb V sW hV Wc0 Wc1
  cases v
  · go_wp2_with fail
    have r0 : (((w1.setCell ⟨w.heap.size + 1, 0, none⟩ (.int .i64 0)).setCell ⟨w.heap.size + 1, 1, none⟩ (.slice none 0 0)).alloc (Obj.cells #[.int .i64 T, .int .u16 (c : Int)] 42)).cell? ⟨w.heap.size + 1, 0, none⟩ = some (.int .i64 0) := by go_simp
    have r1 : (((w1.setCell ⟨w.heap.size + 1, 0, none⟩ (.int .i64 0)).setCell ⟨w.heap.size + 1, 1, none⟩ (.slice none 0 0)).alloc (Obj.cells #[.int .i64 T, .int .u16 (c : Int)] 42)).cell? ⟨w.heap.size + 1, 1, none⟩ = some (.slice none 0 0) := by go_simp
    exact bodyPost_ret (v := .tuple #[.agg #[.int .i64 0, .slice none 0 0], .int .i64 1]) (by simp [results, Try.results6, go_sem, r0, r1]) rfl
      ⟨0, [], 1, _, rfl, World.ownsRow_nil _ _ _ _, (((ZB.out.setCell (show w.heap.size ≤ w.heap.size + 1 by omega) _).setCell (show w.heap.size ≤ w.heap.size + 1 by omega) _).alloc (by simp; omega) _), .inl ⟨fun h => by have := V'.out.2 h; simp at this, rfl, rfl, rfl⟩⟩
  · obtain ⟨rfl, hrep⟩ := HV.out rfl
    rw [LE_gE] at hrep
    have hw : WOk T L.length (gE L) := V'.out.1 rfl
    have HW := hid_in hw; have HC := hid_in hrep
    clear hw hrep
    go_wp2_with fail
    refine (see_any w1.heap.size T n c L _ ⟨by go_simp, by go_simp, by go_simp, by go_simp⟩ HC.out).mono ?_
    rintro e w2 ⟨c', rfl, T1, R1, M1, S1⟩
    have zb : Below w.heap.size w w2 := (ZB.out.alloc (by omega) _).trans (M1.below (by simp; omega) (by omega))
    replace Wc2 : w2.cell? ⟨w.heap.size + 1, 0, none⟩ = some (.int .i64 0) := (M1.cell (w.heap.size + 1) 0 (by simp; omega) (by omega)).trans (by go_simp)
    replace Wc3 : w2.cell? ⟨w.heap.size + 1, 1, none⟩ = some (.slice none 0 0) := (M1.cell (w.heap.size + 1) 1 (by simp; omega) (by omega)).trans (by go_simp)
    replace Wf0 : w2.frozen? ⟨w.heap.size + 1, 0, none⟩ = false := (M1.frozen (w.heap.size + 1) 0 (by simp; omega) (by omega)).trans (by go_simp)
    replace Wf1 : w2.frozen? ⟨w.heap.size + 1, 1, none⟩ = false := (M1.frozen (w.heap.size + 1) 1 (by simp; omega) (by omega)).trans (by go_simp)
    have t0 := T1.c0; have t1 := T1.c1
    have s2 : w.heap.size + 1 + 1 ≤ w2.heap.size := by have := M1.size; simp at this; omega
    have ZB2 := hid_in zb; have RR := hid_in R1
    clear zb T1 R1 M1 S1 ZB m1 m2
    go_wp2_with fail
    refine (window_any _ c' _ _ RR.out).mono ?_
    rintro e w3 ⟨v', rfl, ho, hb3⟩
    obtain ⟨a', cc, rfl⟩ := owns_form ho
    have xx1 := (bcell hb3).1; have xx2 := (bcell hb3).2
    replace Wc2 := (xx1 _ _ (by omega)).trans Wc2
    replace Wc3 := (xx1 _ _ (by omega)).trans Wc3
    replace Wf0 := (xx2 _ _ (by omega)).trans Wf0
    replace Wf1 := (xx2 _ _ (by omega)).trans Wf1
    clear xx1 xx2
    have O := hid_in ho; have B := hid_in (ZB2.out.trans (hb3.mono (show w.heap.size ≤ w2.heap.size by omega)))
    clear ho hb3 t0 t1
    go_wp2_with fail
    exact bodyPost_ret (v := .tuple #[.agg #[.int .i64 (topL T L n), .slice a' (listL T L n).length cc], .int .i64 (codeL T L n)]) (by simp [results, Try.results6, go_sem, Wc2, Wc3]) rfl
      ⟨_, listL T L n, _, _, rfl, owns_base (owns_set (owns_set O.out (by omega)) (by omega)) (by omega), (B.out.setCell (by simp) _).setCell (by simp) _, .inr ⟨HW.out, rfl, rfl, rfl⟩⟩
end Go.Proofs.Ytmkmbbbmelejoaa
