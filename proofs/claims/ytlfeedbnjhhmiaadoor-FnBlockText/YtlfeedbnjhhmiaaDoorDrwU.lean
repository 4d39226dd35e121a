/- Blocks and their texts, drawn. The conditions stand at each theorem. -/
import Derived.Test.YtlfeedbnjhhmiaaDoorDrwS
import Derived.Test.YtlfeedbnjhhmiaaDoorDrwT
namespace Go.Proofs.YtlfeedbnjhhmiaaDoor
open Go.RowKit Go.LatT Go.BlockM
set_option linter.unusedVariables false
set_option linter.unusedSimpArgs false
theorem addrT_len2 {a : Int} (h0 : 0 ≤ a) (h1 : a ≤ 4294967295) : (addrT a).length ≤ 600 := by
  have L1 : (decI (a / 16777216)).length ≤ 100 := Nat.le_trans (decI_len 12 _ (by omega) (by omega)) (by omega)
  have L2 : (decI (a / 65536 % 256)).length ≤ 100 := Nat.le_trans (decI_len 12 _ (by omega) (by omega)) (by omega)
  have L3 : (decI (a / 256 % 256)).length ≤ 100 := Nat.le_trans (decI_len 12 _ (by omega) (by omega)) (by omega)
  have L4 : (decI (a % 256)).length ≤ 100 := Nat.le_trans (decI_len 12 _ (by omega) (by omega)) (by omega)
  simp [addrT]
  omega
set_option maxHeartbeats 1000000 in
set_option maxRecDepth 100000 in
theorem drawBlockText (a : Option Addr) (len cap : Nat) (z : List Int) (w : World) (h : RowC w a len cap z) (hl : len ≤ 1048576) :
    Calls Tryd.prog 14 #[.slice a len cap] w fun e w' => ∃ x y : Int, e = .returned (.agg #[.int .i64 x, .int .i64 y]) ∧ -1 ≤ x ∧ x ≤ 4294967551 ∧ -1 ≤ y ∧ y ≤ 33 ∧ Below w.heap.size w w' := by
  have hr : RowC (w.alloc (Obj.cells #[Value.int IntKind.i64 0, Value.int IntKind.i64 0] 30)) a len cap z := h.later (below_box _ _)
  have HR := hid_in hr
  clear h hr
  go_enter Tryd.func14, Tryd.ntmps14
  go_wp2_with fail
  refine (l1OpenC a len cap z _ HR.out hl).mono ?_
  rintro e w1 ⟨sl, rfl, h1, hb1⟩
  have H1 : Hid (Rdr w1 (w.heap.size + 1) sl 0) := by show Rdr _ _ _ _; simpa using h1
  clear h1
  go_wp2_with fail
  refine (l12AnyBlock_any (w.heap.size + 1) sl 0 _ H1.out (by omega) (by omega)).mono ?_
  rintro e w2 ⟨x, y, rfl, x0, x1, y0, y1, _, m2⟩
  have hs1 := hb1.size
  simp at hs1
  have hR : w.heap.size ≠ w.heap.size + 1 := by omega
  obtain ⟨hc1, hf1⟩ := bcell hb1
  have e0 : w2.cell? ⟨w.heap.size, 0, none⟩ = some (.int .i64 0) := by rw [m2.cell _ _ (by omega) hR, hc1 _ _ (by simp)]; try go_simp
  have e1 : w2.cell? ⟨w.heap.size, 1, none⟩ = some (.int .i64 0) := by rw [m2.cell _ _ (by omega) hR, hc1 _ _ (by simp)]; try go_simp
  have e2 : w2.frozen? ⟨w.heap.size, 0, none⟩ = false := by rw [m2.frozen _ _ (by omega) hR, hf1 _ _ (by simp)]; try go_simp
  have e3 : w2.frozen? ⟨w.heap.size, 1, none⟩ = false := by rw [m2.frozen _ _ (by omega) hR, hf1 _ _ (by simp)]; try go_simp
  have hz : Below w.heap.size w w2 := (below_under hb1).trans (m2.below (by omega) (by omega))
  clear hc1 hf1 hb1 m2 HR H1
  go_wp2_with fail
  exact bodyPost_ret (v := .agg #[.int .i64 x, .int .i64 y]) (by simp [results, Tryd.results14, go_sem, e0, e1]) rfl
    ⟨_, _, rfl, x0, x1, y0, y1, (hz.setCell (Nat.le_refl _) _).setCell (Nat.le_refl _) _⟩
set_option maxHeartbeats 1000000 in
set_option maxRecDepth 100000 in
theorem drawBlockGet (a : Option Addr) (len cap : Nat) (z : List Int) (w : World) (h : RowC w a len cap z) (hl : len ≤ 1048576) :
    Calls Tryd.prog 20 #[.slice a len cap] w fun e w' => ∃ u : ByteArray, e = .returned (.string u) ∧ u.size ≤ 2000 ∧ Below w.heap.size w w' := by
  have HR := hid_in h
  clear h
  go_enter Tryd.func20, Tryd.ntmps20
  go_wp2_with fail
  refine (l1OpenC a len cap z _ HR.out hl).mono ?_
  rintro e w1 ⟨sl, rfl, h1, hb1⟩
  have H1 := hid_in h1; have HB := hid_in hb1
  clear h1 hb1
  go_wp2_with fail
  refine (l12Block_any _ sl 0 _ H1.out (by omega) (by omega)).mono ?_
  rintro e w2 ⟨x, y, rfl, hok, ⟨q, q1, q2, h2⟩, m2⟩
  obtain ⟨a0, a1, b0, b1, _⟩ := ok_of hok
  have M2 := hid_in m2; have H2 := hid_in h2
  clear m2 h2
  have L2 : (⟨(blockT x y).toArray⟩ : ByteArray).size ≤ 1000 := by
    have la : (addrT x).length ≤ 600 := addrT_len2 a0 a1
    have lb : (decI y).length ≤ 100 := Nat.le_trans (decI_len 12 _ (by omega) (by omega)) (by omega)
    show (blockT x y).length ≤ 1000
    simp [blockT]
    omega
  go_wp2_with fail
  refine (l1Block_any x y _ a0 a1 b0 b1).mono ?_
  rintro e w3 ⟨rfl, hb3⟩
  have H3 := hid_in (H2.out.later hb3); have M3 := hid_in (M2.out.trans (Mv.of_below hb3))
  clear hb3 H2 M2
  go_wp2_with fail
  refine (l12Cut_any _ sl q _ _ H3.out (by omega) (by omega) L2).mono ?_
  rintro e w4 ⟨u4, rfl, hu4, m4⟩
  have M4 := hid_in (M3.out.trans m4)
  clear m4
  go_wp2_with fail
  go_ret
  exact ⟨u4, rfl, hu4, below_mv HB.out (Nat.le_refl _) M4.out⟩
end Go.Proofs.YtlfeedbnjhhmiaaDoor
