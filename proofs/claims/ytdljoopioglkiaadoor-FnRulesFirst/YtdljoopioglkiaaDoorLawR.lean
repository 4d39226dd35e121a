/- The rule that counts is the first that is about something: the draw and the walk of the law FnRulesFirst. The conditions stand at each theorem. -/
import Derived.Test.YtdljoopioglkiaaDoorRldC
import Derived.Test.YtdljoopioglkiaaDoorDrwO
import Derived.Test.YtdljoopioglkiaaDoorBlkB
namespace Go.Proofs.YtdljoopioglkiaaDoor
open Go.RowKit Go.LatT Go.BlockM Go.OpnT Go.RegE Go.ApdG
set_option linter.unusedVariables false
set_option linter.unusedSimpArgs false
set_option maxHeartbeats 2000000 in
set_option maxRecDepth 100000 in
theorem drawRulesFirst (a : Option Addr) (len cap : Nat) (z : List Int) (w : World) (h : RowC w a len cap z) (hl : len ≤ 1048576) :
    Calls Tryd.prog 13 #[.slice a len cap] w fun e w' => ∃ (a' : Option Addr) (n c : Nat) (E : Nat → Nat → Int) (x y z : Int), e = .returned (.tuple #[.slice a' n c, .agg #[.int .i64 x, .int .i64 y, .int .i64 z]]) ∧ Tab w' a' n 8 E ∧ n ≤ 9 ∧ n ≤ c ∧ c ≤ maxLen ∧ Below w.heap.size w w' := by
  have bx := below_box w (.cells #[.int .i64 0, .int .i64 0, .int .i64 0] 25)
  have H0 := hid_in (h.later bx)
  have B0 := hid_in (CBf.new w 0 0 0 25)
  have Z0 := hid_in bx
  clear h bx
  go_enter Tryd.func13, Tryd.ntmps13
  go_wp2_with fail
  refine (l1OpenC a len cap z _ H0.out hl).mono ?_
  rintro e w1 ⟨sl, rfl, h1, hb1⟩
  have hz : (w.alloc (.cells #[.int .i64 0, .int .i64 0, .int .i64 0] 25)).heap.size = w.heap.size + 1 := by simp
  rw [hz] at h1
  have H1 := hid_in h1; have B1 := hid_in (B0.out.later hb1); have Z1 := hid_in (below_later Z0.out hb1)
  clear h1 hb1 B0 Z0 H0
  go_wp2_with fail
  refine (l12AnyRules_any (w.heap.size + 1) sl 0 _ H1.out (by omega) (by omega)).mono ?_
  rintro e w2 ⟨a2, n, c, E, q, rfl, t2, n1, n2, n3, q0, q1, h2, m2⟩
  have H2 := hid_in h2; have B2 := hid_in (B1.out.mv m2 (by omega)); have Z2 := hid_in (below_mv Z1.out (show w.heap.size ≤ w.heap.size + 1 by omega) m2); have T2 := hid_in t2
  have hs2 := m2.size
  have hr1 := H1.out.lt
  clear h2 m2 H1 B1 Z1 t2
  go_wp2_with fail
  refine (l12AnyCall_any (w.heap.size + 1) sl _ _ H2.out (by omega) (by omega)).mono ?_
  rintro e w3 ⟨x, y, z, rfl, ⟨q3, q4, q5, h3⟩, m3⟩
  have B3 := hid_in (B2.out.mv m3 (by omega)); have Z3 := hid_in (below_mv Z2.out (show w.heap.size ≤ w.heap.size + 1 by omega) m3)
  have T4 := hid_in (TabM.tab ((((T2.out.mv m3).set (b := w.heap.size) (o := 0) (v := .int .i64 x) (by omega)).set (b := w.heap.size) (o := 1) (v := .int .i64 y) (by omega)).set (b := w.heap.size) (o := 2) (v := .int .i64 z) (by omega)))
  have Z4 := hid_in (show Below w.heap.size w (((w3.setCell ⟨w.heap.size, 0, none⟩ (.int .i64 x)).setCell ⟨w.heap.size, 1, none⟩ (.int .i64 y)).setCell ⟨w.heap.size, 2, none⟩ (.int .i64 z)) from
    ((Z3.out.setCell (p := ⟨w.heap.size, 0, none⟩) (Nat.le_refl _) _).setCell (p := ⟨w.heap.size, 1, none⟩) (Nat.le_refl _) _).setCell (p := ⟨w.heap.size, 2, none⟩) (Nat.le_refl _) _)
  clear h3 m3 H2 B2 Z2 T2
  obtain ⟨l0, k0, k1, k2, kf⟩ := B3.out
  go_wp2_with fail
  exact bodyPost_ret (v := .tuple #[.slice a2 n c, .agg #[.int .i64 x, .int .i64 y, .int .i64 z]]) (by simp [results, Tryd.results13, go_sem, k0, k1, k2, l0]) rfl ⟨a2, n, c, E, x, y, z, rfl, T4.out, n1, n2, n3, Z4.out⟩
set_option maxHeartbeats 2000000 in
set_option maxRecDepth 100000 in
theorem ovAbout_any (o t a b c d l h x y z : Int) (w : World) (hok : rokB o t a b c d l h = true) (v : Bool) (hv : aboutB a b c d l h x y z = v) :
    Calls Tryd.prog 18 #[.agg #[.int .i64 o, .int .i64 t, .int .i64 a, .int .i64 b, .int .i64 c, .int .i64 d, .int .i64 l, .int .i64 h], .agg #[.int .i64 x, .int .i64 y, .int .i64 z]] w fun e w' => e = .returned (.bool v) ∧ Below w.heap.size w w' := by
  have V := hid_in hv
  have OK : Hid (okB a b = true ∧ okB c d = true) := by
    show _ ∧ _
    simp only [rokB, Bool.and_eq_true] at hok
    exact ⟨hok.1.1.1.1.1, hok.1.1.1.1.2⟩
  clear hv hok
  cases hA : inB x a (a + pw (32 - b) - 1)
  · have A := hid_in hA
    clear hA
    go_enter Tryd.func18, Tryd.ntmps18
    go_wp2_with fail
    refine (hasI a b x _ false (by rw [OK.out.1, A.out]; rfl)).mono ?_
    rintro e w1 ⟨rfl, hb1⟩
    obtain ⟨hc1, hf1⟩ := bcell hb1
    go_wp2_with fail
    go_ret
    exact ⟨ret_bool (by rw [← V.out]; simp [aboutB, A.out]), below_under (below_under hb1)⟩
  · have A := hid_in hA
    clear hA
    cases hB : inB y c (c + pw (32 - d) - 1)
    · have B := hid_in hB
      clear hB
      go_enter Tryd.func18, Tryd.ntmps18
      go_wp2_with fail
      refine (hasI a b x _ true (by rw [OK.out.1, A.out]; rfl)).mono ?_
      rintro e w1 ⟨rfl, hb1⟩
      obtain ⟨hc1, hf1⟩ := bcell hb1
      go_wp2_with fail
      refine (hasI c d y _ false (by rw [OK.out.2, B.out]; rfl)).mono ?_
      rintro e w2 ⟨rfl, hq2⟩
      have hb2 := below_later hb1 hq2
      clear hq2 hc1 hf1
      obtain ⟨hc2, hf2⟩ := bcell hb2
      go_wp2_with fail
      go_ret
      exact ⟨ret_bool (by rw [← V.out]; simp [aboutB, A.out, B.out]), below_under (below_under hb2)⟩
    · have B := hid_in hB
      clear hB
      have V2 : Hid (inB z l h = v) := by show _ = v; rw [← V.out]; simp [aboutB, A.out, B.out]
      by_cases hl : l ≤ z
      · go_enter Tryd.func18, Tryd.ntmps18
        go_wp2_with fail
        refine (hasI a b x _ true (by rw [OK.out.1, A.out]; rfl)).mono ?_
        rintro e w1 ⟨rfl, hb1⟩
        obtain ⟨hc1, hf1⟩ := bcell hb1
        go_wp2_with fail
        refine (hasI c d y _ true (by rw [OK.out.2, B.out]; rfl)).mono ?_
        rintro e w2 ⟨rfl, hq2⟩
        have hb2 := below_later hb1 hq2
        clear hq2 hc1 hf1
        obtain ⟨hc2, hf2⟩ := bcell hb2
        go_wp2_with fail
        go_ret
        exact ⟨ret_bool (by rw [← V2.out]; simp [inB, hl]), below_under (below_under hb2)⟩
      · have hl' : decide (l ≤ z) = false := by simp; omega
        go_enter Tryd.func18, Tryd.ntmps18
        go_wp2_with fail
        refine (hasI a b x _ true (by rw [OK.out.1, A.out]; rfl)).mono ?_
        rintro e w1 ⟨rfl, hb1⟩
        obtain ⟨hc1, hf1⟩ := bcell hb1
        go_wp2_with fail
        refine (hasI c d y _ true (by rw [OK.out.2, B.out]; rfl)).mono ?_
        rintro e w2 ⟨rfl, hq2⟩
        have hb2 := below_later hb1 hq2
        clear hq2 hc1 hf1
        obtain ⟨hc2, hf2⟩ := bcell hb2
        go_wp2_with fail
        go_ret
        exact ⟨ret_bool (by rw [← V2.out]; simp [inB]; omega), below_under (below_under hb2)⟩
set_option maxHeartbeats 4000000 in
set_option maxRecDepth 100000 in
theorem walk_FnRulesFirst (a0 : Option Addr) (len0 cap0 : Nat) (z0 : List Int) (w : World) (h : RowC w a0 len0 cap0 z0) :
    Calls Tryd.prog 3 #[.slice a0 len0 cap0] w fun e w' => e = .returned (.bool true) ∧ Below w.heap.size w w' := by
  have hm : (len0 : Int) ≤ 9223372036854775807 := by
    rcases h with ⟨rfl, _⟩ | ⟨_, _, _, h1, h2, _⟩
    · omega
    · unfold maxLen at h2; omega
  have HR := hid_in h
  clear h
  by_cases hl : len0 ≤ 1048576
  · go_enter Tryd.func3, Tryd.ntmps3
    go_wp2_with fail
    refine (drawRulesFirst a0 len0 cap0 z0 _ HR.out hl).mono ?_
    rintro e w1 ⟨a, n, c, E, x, y, z, rfl, t1, n1, n2, n3, hb1⟩
    have bx := below_box w1 (.cells #[.int .i64 x, .int .i64 y, .int .i64 z] 25)
    have B1 := hid_in (CBf.new w1 x y z 25); have T1 := hid_in (t1.later bx); have Z1 := hid_in (below_later hb1 bx)
    clear t1 hb1 bx
    go_wp2_with fail
    refine (rulesFirstI a n c E x y z _ T1.out (by omega)).mono ?_
    rintro e w2 ⟨v, rfl, f, hb2⟩
    have F := hid_in f; have B2 := hid_in (B1.out.later hb2); have T2 := hid_in (T1.out.later hb2); have Z2 := hid_in (below_later Z1.out hb2)
    clear f hb2 B1 T1 Z1
    obtain ⟨l2, p0, p1, p2, pf⟩ := B2.out
    go_wp2_with fail
    refine (rulesFirstS a n c E x y z _ T2.out (by omega)).mono ?_
    rintro e w3 ⟨v3, rfl, F3, hb3⟩
    obtain rfl : v3 = v := F3.one F.out
    have B3 := hid_in (B2.out.later hb3); have T3 := hid_in (T2.out.later hb3); have Z3 := hid_in (below_later Z2.out hb3)
    clear F3 hb3 B2 T2 Z2 l2 p0 p1 p2 pf
    have qv : (v3 != v3) = false := by simp
    go_wp2_with fail
    refine (rulesOkI a n c E _ T3.out (by omega)).mono ?_
    rintro e w4 ⟨u, rfl, A1, hb4⟩
    have A := hid_in A1; have B4 := hid_in (B3.out.later hb4); have T4 := hid_in (T3.out.later hb4); have Z4 := hid_in (below_later Z3.out hb4)
    clear A1 hb4 B3 T3 Z3
    go_wp2_with fail
    refine (rulesOkS a n c E _ T4.out (by omega)).mono ?_
    rintro e w5 ⟨u5, rfl, A5, hb5⟩
    obtain rfl := A5.one A.out
    have B5 := hid_in (B4.out.later hb5); have T5 := hid_in (T4.out.later hb5); have Z5 := hid_in (below_later Z4.out hb5)
    clear A5 hb5 B4 T4 Z4
    cases u5
    · go_wp2_with fail
      refine (rulesOkS a n c E _ T5.out (by omega)).mono ?_
      rintro e w6 ⟨u6, rfl, A6, hb6⟩
      obtain rfl := A6.one A.out
      have B6 := hid_in (B5.out.later hb6); have T6 := hid_in (T5.out.later hb6); have Z6 := hid_in (below_later Z5.out hb6)
      clear A6 hb6 B5 T5 Z5
      obtain ⟨l2, p0, p1, p2, pf⟩ := B6.out
      go_wp2_with fail
      refine (rulesFirstS a n c E x y z _ T6.out (by omega)).mono ?_
      rintro e w7 ⟨v7, rfl, F7, hb7⟩
      obtain rfl : v7 = v3 := F7.one F.out
      have T7 := hid_in (T6.out.later hb7); have Z7 := hid_in (below_later Z6.out hb7)
      clear F7 hb7
      go_wp2_with fail
      refine (rulesOkI a n c E _ T7.out (by omega)).mono ?_
      rintro e w8 ⟨u8, rfl, A8, hb8⟩
      obtain rfl := A8.one A.out
      have T8 := hid_in (T7.out.later hb8); have Z8 := hid_in (below_later Z7.out hb8)
      clear A8 hb8
      go_wp2_with fail
      refine (rulesOkS a n c E _ T8.out (by omega)).mono ?_
      rintro e w9 ⟨u9, rfl, A9, hb9⟩
      obtain rfl := A9.one A.out
      have Z9 := hid_in (below_later Z8.out hb9)
      clear A9 hb9
      go_wp2_with fail
      go_ret
      exact ⟨rfl, Z9.out⟩
    · go_wp2_with fail
      refine (rulesOkS a n c E _ T5.out (by omega)).mono ?_
      rintro e w6 ⟨u6, rfl, A6, hb6⟩
      obtain rfl := A6.one A.out
      have B6 := hid_in (B5.out.later hb6); have T6 := hid_in (T5.out.later hb6); have Z6 := hid_in (below_later Z5.out hb6)
      clear A6 hb6 B5 T5 Z5
      obtain ⟨l2, p0, p1, p2, pf⟩ := B6.out
      by_cases c1 : z < 0
      · skip
        go_wp2_with fail
        refine (rulesFirstS a n c E x y z _ T6.out (by omega)).mono ?_
        rintro e w7 ⟨v7, rfl, F7, hb7⟩
        obtain rfl : v7 = v3 := F7.one F.out
        have T7 := hid_in (T6.out.later hb7); have Z7 := hid_in (below_later Z6.out hb7)
        clear F7 hb7
        go_wp2_with fail
        refine (rulesOkI a n c E _ T7.out (by omega)).mono ?_
        rintro e w8 ⟨u8, rfl, A8, hb8⟩
        obtain rfl := A8.one A.out
        have T8 := hid_in (T7.out.later hb8); have Z8 := hid_in (below_later Z7.out hb8)
        clear A8 hb8
        go_wp2_with fail
        refine (rulesOkS a n c E _ T8.out (by omega)).mono ?_
        rintro e w9 ⟨u9, rfl, A9, hb9⟩
        obtain rfl := A9.one A.out
        have Z9 := hid_in (below_later Z8.out hb9)
        clear A9 hb9
        go_wp2_with fail
        go_ret
        exact ⟨rfl, Z9.out⟩
      have dc1 : decide (z < 0) = false := by simp; omega
      by_cases c2 : 65535 < z
      · skip
        go_wp2_with fail
        refine (rulesFirstS a n c E x y z _ T6.out (by omega)).mono ?_
        rintro e w7 ⟨v7, rfl, F7, hb7⟩
        obtain rfl : v7 = v3 := F7.one F.out
        have T7 := hid_in (T6.out.later hb7); have Z7 := hid_in (below_later Z6.out hb7)
        clear F7 hb7
        go_wp2_with fail
        refine (rulesOkI a n c E _ T7.out (by omega)).mono ?_
        rintro e w8 ⟨u8, rfl, A8, hb8⟩
        obtain rfl := A8.one A.out
        have T8 := hid_in (T7.out.later hb8); have Z8 := hid_in (below_later Z7.out hb8)
        clear A8 hb8
        go_wp2_with fail
        refine (rulesOkS a n c E _ T8.out (by omega)).mono ?_
        rintro e w9 ⟨u9, rfl, A9, hb9⟩
        obtain rfl := A9.one A.out
        have Z9 := hid_in (below_later Z8.out hb9)
        clear A9 hb9
        go_wp2_with fail
        go_ret
        exact ⟨rfl, Z9.out⟩
      have dc2 : decide (65535 < z) = false := by simp; omega
      by_cases c3 : x < 0
      · skip
        go_wp2_with fail
        refine (rulesFirstS a n c E x y z _ T6.out (by omega)).mono ?_
        rintro e w7 ⟨v7, rfl, F7, hb7⟩
        obtain rfl : v7 = v3 := F7.one F.out
        have T7 := hid_in (T6.out.later hb7); have Z7 := hid_in (below_later Z6.out hb7)
        clear F7 hb7
        go_wp2_with fail
        refine (rulesOkI a n c E _ T7.out (by omega)).mono ?_
        rintro e w8 ⟨u8, rfl, A8, hb8⟩
        obtain rfl := A8.one A.out
        have T8 := hid_in (T7.out.later hb8); have Z8 := hid_in (below_later Z7.out hb8)
        clear A8 hb8
        go_wp2_with fail
        refine (rulesOkS a n c E _ T8.out (by omega)).mono ?_
        rintro e w9 ⟨u9, rfl, A9, hb9⟩
        obtain rfl := A9.one A.out
        have Z9 := hid_in (below_later Z8.out hb9)
        clear A9 hb9
        go_wp2_with fail
        go_ret
        exact ⟨rfl, Z9.out⟩
      have dc3 : decide (x < 0) = false := by simp; omega
      by_cases c4 : 4294967295 < x
      · skip
        go_wp2_with fail
        refine (rulesFirstS a n c E x y z _ T6.out (by omega)).mono ?_
        rintro e w7 ⟨v7, rfl, F7, hb7⟩
        obtain rfl : v7 = v3 := F7.one F.out
        have T7 := hid_in (T6.out.later hb7); have Z7 := hid_in (below_later Z6.out hb7)
        clear F7 hb7
        go_wp2_with fail
        refine (rulesOkI a n c E _ T7.out (by omega)).mono ?_
        rintro e w8 ⟨u8, rfl, A8, hb8⟩
        obtain rfl := A8.one A.out
        have T8 := hid_in (T7.out.later hb8); have Z8 := hid_in (below_later Z7.out hb8)
        clear A8 hb8
        go_wp2_with fail
        refine (rulesOkS a n c E _ T8.out (by omega)).mono ?_
        rintro e w9 ⟨u9, rfl, A9, hb9⟩
        obtain rfl := A9.one A.out
        have Z9 := hid_in (below_later Z8.out hb9)
        clear A9 hb9
        go_wp2_with fail
        go_ret
        exact ⟨rfl, Z9.out⟩
      have dc4 : decide (4294967295 < x) = false := by simp; omega
      by_cases c5 : y < 0
      · skip
        go_wp2_with fail
        refine (rulesFirstS a n c E x y z _ T6.out (by omega)).mono ?_
        rintro e w7 ⟨v7, rfl, F7, hb7⟩
        obtain rfl : v7 = v3 := F7.one F.out
        have T7 := hid_in (T6.out.later hb7); have Z7 := hid_in (below_later Z6.out hb7)
        clear F7 hb7
        go_wp2_with fail
        refine (rulesOkI a n c E _ T7.out (by omega)).mono ?_
        rintro e w8 ⟨u8, rfl, A8, hb8⟩
        obtain rfl := A8.one A.out
        have T8 := hid_in (T7.out.later hb8); have Z8 := hid_in (below_later Z7.out hb8)
        clear A8 hb8
        go_wp2_with fail
        refine (rulesOkS a n c E _ T8.out (by omega)).mono ?_
        rintro e w9 ⟨u9, rfl, A9, hb9⟩
        obtain rfl := A9.one A.out
        have Z9 := hid_in (below_later Z8.out hb9)
        clear A9 hb9
        go_wp2_with fail
        go_ret
        exact ⟨rfl, Z9.out⟩
      have dc5 : decide (y < 0) = false := by simp; omega
      by_cases c6 : 4294967295 < y
      · skip
        go_wp2_with fail
        refine (rulesFirstS a n c E x y z _ T6.out (by omega)).mono ?_
        rintro e w7 ⟨v7, rfl, F7, hb7⟩
        obtain rfl : v7 = v3 := F7.one F.out
        have T7 := hid_in (T6.out.later hb7); have Z7 := hid_in (below_later Z6.out hb7)
        clear F7 hb7
        go_wp2_with fail
        refine (rulesOkI a n c E _ T7.out (by omega)).mono ?_
        rintro e w8 ⟨u8, rfl, A8, hb8⟩
        obtain rfl := A8.one A.out
        have T8 := hid_in (T7.out.later hb8); have Z8 := hid_in (below_later Z7.out hb8)
        clear A8 hb8
        go_wp2_with fail
        refine (rulesOkS a n c E _ T8.out (by omega)).mono ?_
        rintro e w9 ⟨u9, rfl, A9, hb9⟩
        obtain rfl := A9.one A.out
        have Z9 := hid_in (below_later Z8.out hb9)
        clear A9 hb9
        go_wp2_with fail
        go_ret
        exact ⟨rfl, Z9.out⟩
      have dc6 : decide (4294967295 < y) = false := by simp; omega
      have HB := hid_in (A.out.1 rfl)
      have hc : callB x y z = true := by simp [callB, inB]; omega
      have FI := hid_in (F.out.1 ⟨HB.out.1, HB.out.2, hc⟩)
      clear hc
      go_wp2_with fail
      go_loopw [6] (fun s wr => ∃ m : Nat, m ≤ n ∧ s = .int .i64 (m : Int) ∧ Hid (Below w6.heap.size w6 wr ∧ ∀ i, i < m → rabout E x y z i = false)) (fun s _ => n - (intOf s).toNat)
      case atStart => exact ⟨0, Nat.zero_le _, rfl, by show _ ∧ _; exact ⟨Below.refl _ _, fun i hi => by omega⟩⟩
      case round =>
        obtain ⟨m, hm, rfl, HW⟩ := hrel
        have B7 := B6.out.later HW.out.1
        have hT := T6.out.later HW.out.1
        have Z7 := hid_in (below_later Z6.out HW.out.1)
        clear l2 p0 p1 p2 pf
        obtain ⟨l2, p0, p1, p2, pf⟩ := B7
        by_cases hlt : m < n
        · have hd : (m : Int) < (n : Int) := by omega
          rcases hT with hT | ⟨bb, off, rfl, hbb, hc⟩
          · omega
          have hg := fun j hj => hc m hlt j hj
          have g0 : wr.cell? ⟨bb, off + m * 8, none⟩ = _ := hg 0 (by omega)
          have g1 := hg 1 (by omega); have g2 := hg 2 (by omega); have g3 := hg 3 (by omega); have g4 := hg 4 (by omega); have g5 := hg 5 (by omega); have g6 := hg 6 (by omega); have g7 := hg 7 (by omega)
          clear hg hc
          have hok : rokB (E m 0) (E m 1) (E m 2) (E m 3) (E m 4) (E m 5) (E m 6) (E m 7) = true := by simpa [rbad] using HB.out.1 m hlt
          have OK := hid_in hok
          obtain ⟨r, hr⟩ : ∃ r, rabout E x y z m = r := ⟨_, rfl⟩
          have RR := hid_in hr
          clear hr hok
          cases r
          · go_wp2_with fail
            refine wp_region_lat (Below.refl _ _) (by kernel_rfl) (by kernel_rfl) ?_
            intro hne hcl
            repeat (go_big_quiet_step (first | (go_at_call 18; exact lat_of (ovAbout_any _ _ _ _ _ _ _ _ x y z _ OK.out false RR.out))))
            refine wpQuiet_nil ?_
            intro w1 hb1
            obtain ⟨hc1, hf1⟩ := bcell hb1
            clear hne hcl
            go_wp2_with fail
            refine ⟨⟨m + 1, by omega, by simp, ?_⟩, by simp [intOf]; omega⟩
            show _ ∧ _
            refine ⟨below_later HW.out.1 hb1, fun i hi => ?_⟩
            by_cases e : i = m
            · rw [e]; exact RR.out
            · exact HW.out.2 i (by omega)
          · have hv : v3 = (m : Int) := by
              rcases FI.out with ⟨i, hi, hp, hbf, rfl⟩ | ⟨hn, _⟩
              · rcases Nat.lt_trichotomy i m with c | c | c
                · rw [HW.out.2 i c] at hp; cases hp
                · rw [c]
                · rw [hbf m c] at RR; cases RR.out
              · rw [hn m hlt] at RR; cases RR.out
            have hv2 : (v3 == (m : Int)) = true := by simp [hv]
            clear hv
            go_wp2_with fail
            refine wp_region_lat (Below.refl _ _) (by kernel_rfl) (by kernel_rfl) ?_
            intro hne hcl
            repeat (go_big_quiet_step (first | (go_at_call 18; exact lat_of (ovAbout_any _ _ _ _ _ _ _ _ x y z _ OK.out true RR.out))))
            refine wpQuiet_nil ?_
            intro w1 hb1
            obtain ⟨hc1, hf1⟩ := bcell hb1
            clear hne hcl
            go_wp2_with fail
            go_ret
            exact ⟨rfl, below_later Z7.out hb1⟩
        · have hd : decide ((m : Int) < (n : Int)) = false := by simp; omega
          have hv : v3 = -1 := by
            rcases FI.out with ⟨i, hi, hp, _, rfl⟩ | ⟨_, rfl⟩
            · rw [HW.out.2 i (by omega)] at hp; cases hp
            · rfl
          have hv2 : (v3 == -1) = true := by simp [hv]
          clear hv
          go_wp2_with fail
          go_ret
          exact ⟨rfl, Z7.out⟩
  · have hl' : (1048576 : Int) < len0 := by omega
    go_enter Tryd.func3, Tryd.ntmps3
    go_wp2_with fail
    go_ret
    exact ⟨rfl, Below.refl _ _⟩
end Go.Proofs.YtdljoopioglkiaaDoor
