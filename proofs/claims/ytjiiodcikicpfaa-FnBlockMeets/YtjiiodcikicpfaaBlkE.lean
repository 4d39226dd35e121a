/- What each function of blocks answers, in the program and in the specification, as contracts: the answer, and that nothing which was there has turned. The conditions stand at each theorem. -/
import Derived.Test.YtjiiodcikicpfaaBlkC
import Derived.Test.YtjiiodcikicpfaaLat
import Derived.Test.YtjiiodcikicpfaaMath
import Derived.WalkKit
import Derived.WalkSpells
import Derived.WalkLawsBesides
import Derived.BigQuiet
import Derived.Deep.RegionWith
namespace Go.Proofs.Ytjiiodcikicpfaa
open Go.RowKit Go.LatT Go.BlockM
set_option linter.unusedVariables false
set_option linter.unusedSimpArgs false
set_option maxHeartbeats 400000 in
set_option maxRecDepth 100000 in
theorem overS_no (a b x y : Int) (w : World) (h : (okB a b && okB x y) = false) :
    Calls Try.prog 20 #[.agg #[.int .i64 a, .int .i64 b], .agg #[.int .i64 x, .int .i64 y]] w fun e w' => e = .returned (.agg #[.int .i64 0, .int .i64 0]) ∧ Below w.heap.size w w' := by
  cases h1 : okB a b
  · have h2 := hid_in h1
    clear h1 h
    go_enter Try.func20, Try.ntmps20
    go_wp2_with fail
    refine (specOk a b _ _ h2.out).mono ?_
    rintro e w1 ⟨rfl, hb1⟩
    obtain ⟨hc1, hf1⟩ := bcell hb1
    go_wp2_with fail
    exact bodyPost_ret (v := .agg #[.int .i64 0, .int .i64 0]) (by simp [results, Try.results20, go_sem, hc1]) rfl
      ⟨rfl, ((below_under (below_under (below_under hb1))).setCell (by simp; omega) _).setCell (by simp; omega) _⟩
  · have h2 := hid_in h1
    have k2 : Hid (okB x y = false) := by show _ = _; simpa [h1] using h
    clear h1 h
    go_enter Try.func20, Try.ntmps20
    go_wp2_with fail
    refine (specOk a b _ _ h2.out).mono ?_
    rintro e w1 ⟨rfl, hb1⟩
    obtain ⟨hc1, hf1⟩ := bcell hb1
    go_wp2_with fail
    refine (specOk x y _ _ k2.out).mono ?_
    rintro e w2 ⟨rfl, hq2⟩
    have hb2 := below_later hb1 hq2
    clear hq2 hc1 hf1
    obtain ⟨hc2, hf2⟩ := bcell hb2
    go_wp2_with fail
    exact bodyPost_ret (v := .agg #[.int .i64 0, .int .i64 0]) (by simp [results, Try.results20, go_sem, hc2]) rfl
      ⟨rfl, ((below_under (below_under (below_under hb2))).setCell (by simp; omega) _).setCell (by simp; omega) _⟩
set_option maxHeartbeats 400000 in
set_option maxRecDepth 100000 in
theorem overI_no (a b x y : Int) (w : World) (h : (okB a b && okB x y) = false) :
    Calls Try.prog 18 #[.agg #[.int .i64 a, .int .i64 b], .agg #[.int .i64 x, .int .i64 y]] w fun e w' => e = .returned (.agg #[.int .i64 0, .int .i64 0]) ∧ Below w.heap.size w w' := by
  cases h1 : okB a b
  · have h2 := hid_in h1
    clear h1 h
    go_enter Try.func18, Try.ntmps18
    go_wp2_with fail
    refine (blockOkI a b _ _ h2.out).mono ?_
    rintro e w1 ⟨rfl, hb1⟩
    obtain ⟨hc1, hf1⟩ := bcell hb1
    go_wp2_with fail
    exact bodyPost_ret (v := .agg #[.int .i64 0, .int .i64 0]) (by simp [results, Try.results18, go_sem, hc1]) rfl
      ⟨rfl, ((below_under (below_under (below_under hb1))).setCell (by simp; omega) _).setCell (by simp; omega) _⟩
  · have h2 := hid_in h1
    have k2 : Hid (okB x y = false) := by show _ = _; simpa [h1] using h
    clear h1 h
    go_enter Try.func18, Try.ntmps18
    go_wp2_with fail
    refine (blockOkI a b _ _ h2.out).mono ?_
    rintro e w1 ⟨rfl, hb1⟩
    obtain ⟨hc1, hf1⟩ := bcell hb1
    go_wp2_with fail
    refine (blockOkI x y _ _ k2.out).mono ?_
    rintro e w2 ⟨rfl, hq2⟩
    have hb2 := below_later hb1 hq2
    clear hq2 hc1 hf1
    obtain ⟨hc2, hf2⟩ := bcell hb2
    go_wp2_with fail
    exact bodyPost_ret (v := .agg #[.int .i64 0, .int .i64 0]) (by simp [results, Try.results18, go_sem, hc2]) rfl
      ⟨rfl, ((below_under (below_under (below_under hb2))).setCell (by simp; omega) _).setCell (by simp; omega) _⟩
set_option maxHeartbeats 400000 in
set_option maxRecDepth 100000 in
theorem overS_yes (a b x y : Int) (w : World) (h : okB a b = true) (k : okB x y = true) :
    Calls Try.prog 20 #[.agg #[.int .i64 a, .int .i64 b], .agg #[.int .i64 x, .int .i64 y]] w fun e w' => e = .returned (.agg #[.int .i64 (fl a (ovBits a x y b.toNat)), .int .i64 (ovBits a x y b.toNat)]) ∧ Below w.heap.size w w' := by
  obtain ⟨a0, a1, b0, b1, _⟩ := ok_of h
  obtain ⟨x0, x1, y0, y1, _⟩ := ok_of k
  have h2 := hid_in h
  have k2 := hid_in k
  clear h k
  go_enter Try.func20, Try.ntmps20
  go_wp2_with fail
  refine (specOk a b _ _ h2.out).mono ?_
  rintro e w1 ⟨rfl, hb1⟩
  obtain ⟨hc1, hf1⟩ := bcell hb1
  go_wp2_with fail
  refine (specOk x y _ _ k2.out).mono ?_
  rintro e w2 ⟨rfl, hq2⟩
  have hb2 := below_later hb1 hq2
  clear hq2 hc1 hf1
  obtain ⟨hc2, hf2⟩ := bcell hb2
  go_wp2_with fail
  clear hc2 hf2
  go_loopw [5] (fun t wr => ∃ n : Nat, (n : Int) ≤ b ∧ t = .int .i64 n ∧ Hid (ovBits a x y n = ovBits a x y b.toNat) ∧ Below (((w.alloc (Obj.cells #[Value.int IntKind.i64 a, Value.int IntKind.i64 b] 24)).alloc (Obj.cells #[Value.int IntKind.i64 x, Value.int IntKind.i64 y] 24)).alloc (Obj.cells #[Value.int IntKind.i64 0, Value.int IntKind.i64 0] 24)).heap.size (((w.alloc (Obj.cells #[Value.int IntKind.i64 a, Value.int IntKind.i64 b] 24)).alloc (Obj.cells #[Value.int IntKind.i64 x, Value.int IntKind.i64 y] 24)).alloc (Obj.cells #[Value.int IntKind.i64 0, Value.int IntKind.i64 0] 24)) wr) (fun t _ => (intOf t).toNat)
  case atStart => exact ⟨b.toNat, by omega, by rw [Int.toNat_of_nonneg b0], rfl, hb2⟩
  case round =>
    obtain ⟨n, hn, rfl, ho, hb3⟩ := hrel
    have hn0 : (0 : Int) ≤ (n : Int) := by omega
    obtain ⟨f0, f1, _, _, _⟩ := ok_of (fl_ok (a := a) (b := (n : Int)) a0 a1 hn0 (by omega))
    obtain ⟨hc3, hf3⟩ := bcell hb3
    have z1 := below_under (below_under (below_under hb3))
    cases hw : withB (fl a n) n x y
    · have hw1 := hid_in hw
      cases n with
      | zero => exact absurd (with_zero a0 a1 k2.out) (by rw [show ((0 : Nat) : Int) = 0 from rfl] at hw; rw [hw]; exact Bool.false_ne_true)
      | succ n =>
        have ho2 : Hid (ovBits a x y n = ovBits a x y b.toNat) := by show _ = _; rw [← ho.out]; exact (ov_on hw).symm
        clear hw ho
        go_wp2_with fail
        clear hc3 hf3
        refine wp_region_lat hb3 (by kernel_rfl) (by kernel_rfl) ?_
        intro hne hcl
        repeat (go_big_quiet_step (first | (go_at_call 58; exact lat_of (l1Over_any _ _ _ a0 a1 (by omega) (by omega))) | (go_at_call 57; exact lat_of (within_any _ _ _ _ _ _ f0 f1 (by omega) (by omega) hw1.out))))
        refine wpQuiet_nil ?_
        intro w4 hb4
        obtain ⟨hc4, hf4⟩ := bcell hb4
        clear hne hcl
        go_wp2_with fail
        go_roundw
        case rel => exact ⟨n, by omega, by congr 1, ho2, hb4⟩
        case measure => simp [intOf]
    · have hw1 := hid_in hw
      have ho2 : Hid (n = ovBits a x y b.toNat) := by show _ = _; rw [← ho.out]; exact (ov_stop hw).symm
      clear hw ho
      go_wp2_with fail
      clear hc3 hf3
      refine wp_region_lat hb3 (by kernel_rfl) (by kernel_rfl) ?_
      intro hne hcl
      repeat (go_big_quiet_step (first | (go_at_call 58; exact lat_of (l1Over_any _ _ _ a0 a1 (by omega) (by omega))) | (go_at_call 57; exact lat_of (within_any _ _ _ _ _ _ f0 f1 (by omega) (by omega) hw1.out))))
      refine wpQuiet_nil ?_
      intro w4 hb4
      obtain ⟨hc4, hf4⟩ := bcell hb4
      clear hne hcl
      go_wp2_with fail
      refine (l1Over_any a n _ a0 a1 (by omega) (by omega)).mono ?_
      rintro e w5 ⟨rfl, hq5⟩
      have hb5 := below_later hb4 hq5
      clear hq5 hc4 hf4
      obtain ⟨hc5, hf5⟩ := bcell hb5
      go_wp2_with fail
      rw [← ho2.out]
      exact bodyPost_ret (v := .agg #[.int .i64 (fl a n), .int .i64 n]) (by simp [results, Try.results20, go_sem, hc5, fl]) rfl
        ⟨rfl, ((below_under (below_under (below_under hb5))).setCell (by simp; omega) _).setCell (by simp; omega) _⟩
set_option maxHeartbeats 400000 in
set_option maxRecDepth 100000 in
theorem overI_yes (a b x y : Int) (w : World) (h : okB a b = true) (k : okB x y = true) :
    Calls Try.prog 18 #[.agg #[.int .i64 a, .int .i64 b], .agg #[.int .i64 x, .int .i64 y]] w fun e w' => e = .returned (.agg #[.int .i64 (fl a (ovBits a x y b.toNat)), .int .i64 (ovBits a x y b.toNat)]) ∧ Below w.heap.size w w' := by
  obtain ⟨a0, a1, b0, b1, _⟩ := ok_of h
  obtain ⟨x0, x1, y0, y1, _⟩ := ok_of k
  have h2 := hid_in h
  have k2 := hid_in k
  clear h k
  go_enter Try.func18, Try.ntmps18
  go_wp2_with fail
  refine (blockOkI a b _ _ h2.out).mono ?_
  rintro e w1 ⟨rfl, hb1⟩
  obtain ⟨hc1, hf1⟩ := bcell hb1
  go_wp2_with fail
  refine (blockOkI x y _ _ k2.out).mono ?_
  rintro e w2 ⟨rfl, hq2⟩
  have hb2 := below_later hb1 hq2
  clear hq2 hc1 hf1
  obtain ⟨hc2, hf2⟩ := bcell hb2
  go_wp2_with fail
  refine (prefixOf_any a b _).mono ?_
  rintro e w3 ⟨rfl, hq3⟩
  have hb3 := below_later hb2 hq3
  clear hq3 hc2 hf2
  obtain ⟨hc3, hf3⟩ := bcell hb3
  go_wp2_with fail
  have e0 : w3.cell? ⟨w.heap.size + 1, 0, none⟩ = some (.int .i64 x) := by rw [hc3 _ _ (by simp <;> omega)]; go_simp
  have e1 : w3.cell? ⟨w.heap.size + 1, 1, none⟩ = some (.int .i64 y) := by rw [hc3 _ _ (by simp <;> omega)]; go_simp
  have e2 : w3.cell? ⟨w.heap.size + 1 + 1, 0, none⟩ = some (.int .i64 0) := by rw [hc3 _ _ (by simp)]; try go_simp
  have e3 : w3.cell? ⟨w.heap.size + 1 + 1, 1, none⟩ = some (.int .i64 0) := by rw [hc3 _ _ (by simp)]; try go_simp
  have e4 : w3.frozen? ⟨w.heap.size + 1 + 1, 0, none⟩ = false := by rw [hf3 _ _ (by simp)]; try go_simp
  have e5 : w3.frozen? ⟨w.heap.size + 1 + 1, 1, none⟩ = false := by rw [hf3 _ _ (by simp)]; try go_simp
  have hs3 : w.heap.size + 1 + 1 < w3.heap.size := by have := hb3.size; simp at this; omega
  have hz3 := below_under (below_under (below_under hb3))
  clear hc3 hf3 hb3 hb2 hb1
  go_loopw [] (fun wr => ∃ n : Nat, (n : Int) ≤ b ∧ Hid (ovBits a x y n = ovBits a x y b.toNat) ∧ wr.cell? ⟨w3.heap.size, 0, none⟩ = some (.int .i64 (fl a n)) ∧ wr.cell? ⟨w3.heap.size, 1, none⟩ = some (.int .i64 n) ∧ wr.frozen? ⟨w3.heap.size, 0, none⟩ = false ∧ wr.frozen? ⟨w3.heap.size, 1, none⟩ = false ∧ Below w3.heap.size w3 wr ∧ w3.heap.size < wr.heap.size)
    (fun wr => (intOf ((wr.cell? ⟨w3.heap.size, 1, none⟩).getD (.int .i64 0))).toNat)
  case atStart => exact ⟨b.toNat, by omega, rfl, by rw [Int.toNat_of_nonneg b0, fl_self h2.out]; go_simp, by rw [Int.toNat_of_nonneg b0]; go_simp, by go_simp, by go_simp, below_box _ _, by simp⟩
  case round =>
    obtain ⟨n, hn, ho, g0, g1, g2, g3, hb4, g4⟩ := hrel
    have hn0 : (0 : Int) ≤ (n : Int) := by omega
    have hok := fl_ok (a := a) (b := (n : Int)) a0 a1 hn0 (by omega)
    obtain ⟨f0, f1, _, _, _⟩ := ok_of hok
    have hwh := with_hold hok k2.out
    obtain ⟨hc4, hf4⟩ := bcell hb4
    have e0' : wr.cell? ⟨w.heap.size + 1, 0, none⟩ = some (.int .i64 x) := by rw [hc4 _ _ (by omega)]; exact e0
    have e1' : wr.cell? ⟨w.heap.size + 1, 1, none⟩ = some (.int .i64 y) := by rw [hc4 _ _ (by omega)]; exact e1
    have e2' : wr.cell? ⟨w.heap.size + 1 + 1, 0, none⟩ = some (.int .i64 0) := by rw [hc4 _ _ (by omega)]; exact e2
    have e3' : wr.cell? ⟨w.heap.size + 1 + 1, 1, none⟩ = some (.int .i64 0) := by rw [hc4 _ _ (by omega)]; exact e3
    have e4' : wr.frozen? ⟨w.heap.size + 1 + 1, 0, none⟩ = false := by rw [hf4 _ _ (by omega)]; exact e4
    have e5' : wr.frozen? ⟨w.heap.size + 1 + 1, 1, none⟩ = false := by rw [hf4 _ _ (by omega)]; exact e5
    have g5 : w.heap.size + 1 < wr.heap.size := by omega
    have g6 : w.heap.size + 1 + 1 < wr.heap.size := by omega
    clear e0 e1 e2 e3 e4 e5 hc4 hf4 hok
    cases hw : withB (fl a n) n x y
    · have hw1 : Hid (holdB (fl a n) n x y = false) := by show _ = _; rw [← hwh]; exact hw
      cases n with
      | zero => exact absurd (with_zero a0 a1 k2.out) (by rw [show ((0 : Nat) : Int) = 0 from rfl] at hw; rw [hw]; exact Bool.false_ne_true)
      | succ n =>
        have ho2 : Hid (ovBits a x y n = ovBits a x y b.toNat) := by show _ = _; rw [← ho.out]; exact (ov_on hw).symm
        clear hw ho hwh
        go_wp2_with fail
        refine wp_region_lat (Below.refl _ _) (by kernel_rfl) (by kernel_rfl) ?_
        intro hne hcl
        repeat (go_big_quiet_step (first | (go_at_call 45; exact lat_of (prefixOf_any _ _ _)) | (go_at_call 54; exact lat_of (holds_any _ _ _ _ _ _ f0 f1 (by omega) (by omega) x0 x1 y0 y1 hw1.out))))
        refine wpQuiet_nil ?_
        intro w1 hb1
        obtain ⟨hc1, hf1⟩ := bcell hb1
        clear hne hcl
        go_wp2_with fail
        refine (doubled_any (fl a ((n + 1 : Nat) : Int)) ((n + 1 : Nat) : Int) _ f0 f1 (by omega) (by omega)).mono ?_
        rintro e w2 ⟨rfl, hq2⟩
        have hb2 := below_later hb1 hq2
        clear hq2 hc1 hf1
        obtain ⟨hc2, hf2⟩ := bcell hb2
        go_wp2_with fail
        have hfs : bits .andNot .i64 (fl a ((n : Int) + 1)) (pw (32 - ((n : Int) + 1))) = fl a n := by
          rw [fl_step a0 a1 (by omega) (by omega), show (n : Int) + 1 - 1 = n by omega]
        have q0 : w2.cell? ⟨w3.heap.size, 0, none⟩ = some (.int .i64 (fl a ((n + 1 : Nat) : Int))) := by rw [hc2 _ _ g4]; exact g0
        have q1 : w2.cell? ⟨w3.heap.size, 1, none⟩ = some (.int .i64 ((n + 1 : Nat) : Int)) := by rw [hc2 _ _ g4]; exact g1
        have q2 : w2.frozen? ⟨w3.heap.size, 0, none⟩ = false := by rw [hf2 _ _ g4]; exact g2
        have q3 : w2.frozen? ⟨w3.heap.size, 1, none⟩ = false := by rw [hf2 _ _ g4]; exact g3
        have q4 := hb2.size
        have r0 : ∀ v u, ((w2.setCell ⟨w3.heap.size, 0, none⟩ v).setCell ⟨w3.heap.size, 1, none⟩ u).cell? ⟨w3.heap.size, 0, none⟩ = some v := by intro v u; go_simp
        have r1 : ∀ v u, ((w2.setCell ⟨w3.heap.size, 0, none⟩ v).setCell ⟨w3.heap.size, 1, none⟩ u).cell? ⟨w3.heap.size, 1, none⟩ = some u := by intro v u; go_simp
        go_roundw
        case rel =>
          rw [hfs]
          exact ⟨n, by omega, ho2, r0 _ _, r1 _ _, by simp [q2], by simp [q3], ((below_later hb4 hb2).setCell (by simp) _).setCell (by simp) _, by simp; omega⟩
        case measure => rw [r1, g1]; simp [intOf]
    · have hw1 : Hid (holdB (fl a n) n x y = true) := by show _ = _; rw [← hwh]; exact hw
      have ho2 : Hid (n = ovBits a x y b.toNat) := by show _ = _; rw [← ho.out]; exact (ov_stop hw).symm
      clear hw ho hwh
      go_wp2_with fail
      refine wp_region_lat (Below.refl _ _) (by kernel_rfl) (by kernel_rfl) ?_
      intro hne hcl
      repeat (go_big_quiet_step (first | (go_at_call 45; exact lat_of (prefixOf_any _ _ _)) | (go_at_call 54; exact lat_of (holds_any _ _ _ _ _ _ f0 f1 (by omega) (by omega) x0 x1 y0 y1 hw1.out))))
      refine wpQuiet_nil ?_
      intro w1 hb1
      obtain ⟨hc1, hf1⟩ := bcell hb1
      clear hne hcl
      go_wp2_with fail
      refine (pblock_any (fl a n) n _).mono ?_
      rintro e w2 ⟨rfl, hq2⟩
      have hb2 := below_later hb1 hq2
      clear hq2 hc1 hf1
      obtain ⟨hc2, hf2⟩ := bcell hb2
      go_wp2_with fail
      rw [← ho2.out]
      exact bodyPost_ret (v := .agg #[.int .i64 (fl a n), .int .i64 n]) (by simp [results, Try.results18, go_sem, hc2, e2', e3', g6]) rfl
        ⟨rfl, ((below_later (below_later hz3 hb4) hb2).setCell (by simp; omega) _).setCell (by simp; omega) _⟩
end Go.Proofs.Ytjiiodcikicpfaa
