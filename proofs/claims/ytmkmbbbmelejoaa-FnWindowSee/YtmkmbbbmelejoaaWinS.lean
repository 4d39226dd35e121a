/- A window and a number drawn. The conditions stand at each theorem. -/
import Derived.Test.YtmkmbbbmelejoaaWinR
namespace Go.Proofs.Ytmkmbbbmelejoaa
open Go.RowKit Go.LatT Go.BlockM Go.OpnT Go.WinMath Go.RegE
set_option linter.unusedVariables false
set_option linter.unusedSimpArgs false
set_option maxHeartbeats 2000000 in
set_option maxRecDepth 100000 in
theorem drawWindowSee (a : Option Addr) (len cap : Nat) (z : List Int) (w : World) (h : RowC w a len cap z) (hl : len ≤ 1048576) :
    Calls Try.prog 5 #[.slice a len cap] w fun e w' => ∃ T L v n, e = .returned (.tuple #[.agg #[.int .i64 T, v], .int .i64 n]) ∧ L.length ≤ 17 ∧ w'.ownsRow w.heap.size 3 1 v L.length (i64s L) ∧ Below w.heap.size w w' := by
  have HR := hid_in h
  clear h
  go_enter Try.func5, Try.ntmps5
  go_wp2_with fail
  have zW := below_box w (Obj.cells #[.int .i64 0, .slice none 0 0] 25)
  have sW : (w.alloc (Obj.cells #[.int .i64 0, .slice none 0 0] 25)).heap.size = w.heap.size + 1 := heapSize1 _ _
  have e0 : (w.alloc (Obj.cells #[.int .i64 0, .slice none 0 0] 25)).heap[w.heap.size]? = some (.cells #[.int .i64 0, .slice none 0 0] 25) := heap_new _ _ _ rfl
  generalize w.alloc (Obj.cells #[.int .i64 0, .slice none 0 0] 25) = W at *
  refine (l1OpenC a len cap z _ (HR.out.later zW) hl).mono ?_
  rintro e w1 ⟨sl, rfl, h1, hb1⟩
  rw [sW] at h1 hb1 ⊢
  have l1 := h1.lt
  go_wp2_with fail
  refine (l12AnyWindow_any _ sl 0 _ h1 (by omega) (by omega)).mono ?_
  rintro e w2 ⟨T, L, v, q, rfl, hT0, hT1, hll, ho, hq1, hq2, h2, m2⟩
  obtain ⟨a1, c1, rfl⟩ := owns_form ho
  have s2 := m2.size
  have e1 : w1.heap[w.heap.size]? = some (.cells #[.int .i64 0, .slice none 0 0] 25) := by rw [hb1.block _ (by omega)]; exact e0
  have e2 : (w2.alloc (Obj.cells #[.int .i64 T, .slice a1 L.length c1] 25)).heap[w.heap.size]? = some (.cells #[.int .i64 0, .slice none 0 0] 25) := by rw [(below_box w2 _).block _ (by omega), m2.block _ (by omega) (by omega)]; exact e1
  have e3 : (w2.alloc (Obj.cells #[.int .i64 T, .slice a1 L.length c1] 25)).heap[w2.heap.size]? = some (.cells #[.int .i64 T, .slice a1 L.length c1] 25) := heap_new _ _ _ rfl
  have zz : Below w.heap.size w (w2.alloc (Obj.cells #[.int .i64 T, .slice a1 L.length c1] 25)) := ((zW.trans (hb1.mono (by omega))).trans (m2.below (by omega) (by omega))).alloc (by omega) _
  have R2 := hid_in (h2.later (below_box w2 (Obj.cells #[.int .i64 T, .slice a1 L.length c1] 25)))
  have O2 := hid_in (owns_base (owns_below ho (below_box w2 (Obj.cells #[.int .i64 T, .slice a1 L.length c1] 25))) (show w.heap.size + 1 ≤ w1.heap.size by omega))
  have sX : (w2.alloc (Obj.cells #[.int .i64 T, .slice a1 L.length c1] 25)).heap.size = w2.heap.size + 1 := heapSize1 _ _
  have ORb : Hid (∀ j, (Value.slice a1 L.length c1).ownBlock = some j → w1.heap.size ≤ j) := fun j hj => (owns_own ho j hj).1
  go_wp2_with fail
  clear m2 h1 h2 ho zW e0 e1 hb1
  generalize hbx : w2.heap.size = bx at *
  generalize (w2.alloc (Obj.cells #[.int .i64 T, .slice a1 L.length c1] 25)) = X at *
  clear hbx
  have Z2 := hid_in zz
  obtain ⟨y0, y1, y2, y3⟩ := pair_cells e2
  obtain ⟨x0, x1, x2, x3⟩ := pair_cells e3
  have lx : bx < X.heap.size := by omega
  have hwb : ¬ w.heap.size = bx := by omega
  have hbw : ¬ bx = w.heap.size := by omega
  have X0 := hid_in x0; have X1 := hid_in x1; have Y0 := hid_in y0; have Y1 := hid_in y1; have Y2 := hid_in y2; have Y3 := hid_in y3
  clear e2 e3 x2 x3 zz
  go_region_held3 (fun w' => w'.cell? ⟨bx, 0, none⟩ = some (.int .i64 T) ∧ w'.cell? ⟨bx, 1, none⟩ = some (.slice a1 L.length c1)) (go_keep) (first | (go_at_call_of 18 (Value.int IntKind.i64 18); refine (pickM (w.heap.size + 1) sl q 18 _ ?_ (by omega) (by omega) (by omega) (by omega)).mono ?_; exact R2.out.drew; rintro e w5 ⟨u5, rfl, a5, b5, h5, m5⟩; have m5' := (Mv.of_drew (w.heap.size + 1) X).trans m5; have x0 := (m5'.cell _ 0 lx (by omega)).trans x0; have x1 := (m5'.cell _ 1 lx (by omega)).trans x1; have y0 := (m5'.cell w.heap.size 0 (by omega) (by omega)).trans y0; have y1 := (m5'.cell w.heap.size 1 (by omega) (by omega)).trans y1; have y2 := (m5'.frozen w.heap.size 0 (by omega) (by omega)).trans y2; have y3 := (m5'.frozen w.heap.size 1 (by omega) (by omega)).trans y3; have H5 := hid_in h5; have M5 := hid_in m5'; clear h5 m5 m5') | (go_at_call_of 18 (Value.int IntKind.i64 30); refine (pickM (w.heap.size + 1) sl (q + 1) 30 _ H5.out (by omega) (by omega) (by omega) (by omega)).mono ?_; rintro e w6 ⟨u6, rfl, a6, b6, h6, m6⟩; have m6' := M5.out.trans m6; have x0 := (m6'.cell _ 0 lx (by omega)).trans X0.out; have x1 := (m6'.cell _ 1 lx (by omega)).trans X1.out; have y0 := (m6'.cell w.heap.size 0 (by omega) (by omega)).trans Y0.out; have y1 := (m6'.cell w.heap.size 1 (by omega) (by omega)).trans Y1.out; have y2 := (m6'.frozen w.heap.size 0 (by omega) (by omega)).trans Y2.out; have y3 := (m6'.frozen w.heap.size 1 (by omega) (by omega)).trans Y3.out; have lx6 : bx < w6.heap.size := Nat.lt_of_lt_of_le lx m6'.size; have ly6 : ¬ bx = w6.heap.size := Nat.ne_of_lt lx6; have H6 := hid_in h6; have M6 := hid_in m6'; clear h6 m6 m6') | (go_at_call 17; refine (oneN (w.heap.size + 1) sl (q + 1 + 1) [IntKind.i64.wrap (T + 1), T, IntKind.i64.wrap (IntKind.i64.wrap (T - 1) - u5), IntKind.i64.wrap (T + u6), 0, -1, 1000000, 1000001] 8 _ 3 w6 rfl rfl H6.out (by omega) (by omega) (by simp) (by simp)).mono ?_; rintro e w7 ⟨u7, rfl, _, h7, m7⟩; have m7' := M6.out.trans m7; have x0 := (m7'.cell _ 0 lx (by omega)).trans X0.out; have x1 := (m7'.cell _ 1 lx (by omega)).trans X1.out; have y0 := (m7'.cell w.heap.size 0 (by omega) (by omega)).trans Y0.out; have y1 := (m7'.cell w.heap.size 1 (by omega) (by omega)).trans Y1.out; have y2 := (m7'.frozen w.heap.size 0 (by omega) (by omega)).trans Y2.out; have y3 := (m7'.frozen w.heap.size 1 (by omega) (by omega)).trans Y3.out; have M7 := hid_in m7'; clear h7 m7 m7'))
  all_goals
    go_wp2_with fail
    exact bodyPost_ret (v := .tuple #[.agg #[.int .i64 T, .slice a1 L.length c1], .int .i64 u7]) (by simp [results, Try.results5, go_sem, y0, y1]) rfl
      ⟨T, L, _, u7, rfl, hll, owns_base (owns_set (owns_set (owns_mv O2.out M7.out (fun j hj => by have := ORb.out j hj; omega)) (by omega)) (by omega)) (by omega),
        ((Z2.out.trans (M7.out.below (by omega) (by omega))).setCell (by simp) _).setCell (by simp) _⟩
end Go.Proofs.Ytmkmbbbmelejoaa
