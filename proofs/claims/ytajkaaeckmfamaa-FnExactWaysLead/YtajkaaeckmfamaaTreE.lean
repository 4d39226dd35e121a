/- What is proved: the walk of FnExactWaysLead. The conditions stand at each theorem. -/
import Derived.Test.YtajkaaeckmfamaaTreN
import Derived.Test.YtajkaaeckmfamaaTabW
namespace Go.Proofs.Ytajkaaeckmfamaa
open Go.RowKit Go.LatT Go.BlockM Go.OpnT Go.ApdG Go.TreM
set_option linter.unusedVariables false
set_option linter.unusedSimpArgs false
set_option maxHeartbeats 600000 in
set_option maxRecDepth 100000 in
theorem treeOf_any (a : Option Addr) (len c : Nat) (E : Nat → Nat → Int) (w : World) (hT : Tab w a len 3 E) (hl : len ≤ 1000) (hok : ∀ i, i < len → 0 ≤ E i 0 ∧ E i 0 ≤ 4294967295 ∧ 0 ≤ E i 1 ∧ E i 1 ≤ 32) :
    Calls Try.prog 18 #[.slice a len c] w fun e w' => ∃ t g n cap T, e = .returned (.pointer (some ⟨t, 0, none⟩)) ∧ TQ w w' t g n cap len T E := by
  rcases hT with rfl | ⟨bb, off, rfl, h1, k1⟩
  · have S0 : Hid (TQ w ((w.alloc (.cells #[.int .i64 0, .int .i64 0, .int .i64 (-1)] 67)).alloc (.cells #[.slice (some ⟨w.heap.size, 0, none⟩) 1 1] 70)) (w.heap.size + 1) w.heap.size 1 1 0 (fun _ j => if j = 2 then -1 else 0) E) := by
      refine ⟨⟨by omega, ?_, ?_, by omega⟩, tree_new, below_later (below_box _ _) (below_box _ _), by omega⟩
      · have h := heap_alloc_new (w.alloc (.cells #[.int .i64 0, .int .i64 0, .int .i64 (-1)] 67)) (.cells #[.slice (some ⟨w.heap.size, 0, none⟩) 1 1] 70)
        simpa using h
      · have := World.ownsRow_lit (base := w.heap.size) (e := 67) (size := 3) w #[.int .i64 0, .int .i64 0, .int .i64 (-1)] 1 (Nat.le_refl _) (by decide) rfl
        exact owns_below this (below_box _ _)
    go_enter Try.func18, Try.ntmps18
    go_wp2_with fail
    generalize ((w.alloc (.cells #[.int .i64 0, .int .i64 0, .int .i64 (-1)] 67)).alloc (.cells #[.slice (some ⟨w.heap.size, 0, none⟩) 1 1] 70)) = W0 at *
    refine wp_loop_rounds 1 ?_
    rw [rounds_succ]
    go_wp2_with fail
    go_ret
    exact ⟨_, w.heap.size, 1, 1, _, rfl, S0⟩
  · exact treeOf_some bb off len c E w h1 k1 hl hok
/-- What WaysLead answers. -/
def wlF (E : Nat → Nat → Int) (len : Nat) (v : Bool) (n : Int) : Int := if v && inB n 0 4294967295 then (spF E n len).1 else -1
theorem ret_int {a b : Int} (h : a = b) : Ending.returned (.int .i64 a) = .returned (.int .i64 b) := by rw [h]
set_option maxHeartbeats 600000 in
set_option maxRecDepth 100000 in
theorem waysLeadI (a : Option Addr) (len c : Nat) (E : Nat → Nat → Int) (n : Int) (w : World) (hT : Tab w a len 3 E) (hl : len ≤ 1048576) :
    Calls Try.prog 8 #[.slice a len c, .int .i64 n] w fun e w' => ∃ v, AllOk (wbad E) len 40 v ∧ e = .returned (.int .i64 (wlF E len v n)) ∧ Below w.heap.size w w' := by
  have HT := hid_in hT
  clear hT
  go_enter Try.func8, Try.ntmps8
  go_wp2_with fail
  refine (waysOkI a len c E _ HT.out hl).mono ?_
  rintro e w1 ⟨v, rfl, V, hb1⟩
  have V1 := hid_in V; have B1 := hid_in hb1
  clear V hb1
  cases v
  · go_wp2_with fail
    go_ret
    exact ⟨false, V1.out, rfl, B1.out⟩
  · go_wp2_with fail
    obtain ⟨u, hu⟩ : ∃ u, inB n 0 4294967295 = u := ⟨_, rfl⟩
    have U := hid_in hu
    refine (addrOk n _ u hu).mono ?_
    rintro e w' ⟨rfl, rfl⟩
    cases u
    · clear hu
      go_wp2_with fail
      go_ret
      exact ⟨true, V1.out, ret_int (by unfold wlF; rw [U.out]; rfl), B1.out⟩
    · obtain ⟨n0, n1⟩ : 0 ≤ n ∧ n ≤ 4294967295 := by simpa [inB] using hu
      clear hu
      have hn := (V1.out.1 rfl).2
      have HO := hid_in (V1.out.1 rfl).1
      go_wp2_with fail
      refine (treeOf_any a len c E _ (HT.out.later B1.out) (by omega) (fun i hi => wok_ok (HO.out i hi))).mono ?_
      rintro e w2 ⟨t, g, m, cap, T, rfl, hQ⟩
      have Q := hid_in hQ
      clear hQ
      go_wp2_with fail
      refine (lead_any _ t g m cap T (waysF E len) n _ n0 n1 Q.out.tr Q.out.is).mono ?_
      rintro e w3 ⟨rfl, hb3⟩
      have B3 := hid_in (below_later (below_later B1.out Q.out.bel) hb3)
      clear hb3
      have er := hid_in (lead_same (a := n) HO.out)
      go_wp2_with fail
      go_ret
      exact ⟨true, V1.out, ret_int (by rw [er.out]; unfold wlF; rw [U.out]; rfl), B3.out⟩
set_option maxHeartbeats 600000 in
set_option maxRecDepth 100000 in
theorem l3Lead_some (bb off len c : Nat) (E : Nat → Nat → Int) (n : Int) (w : World) (hlt : bb < w.heap.size) (hc : ∀ i, i < len → ∀ j, j < 3 → w.cell? ⟨bb, off + i * 3 + j, none⟩ = some (.int .i64 (E i j))) (hl : len ≤ 1000) (hok : ∀ i, i < len → 0 ≤ E i 0 ∧ E i 0 ≤ 4294967295 ∧ 0 ≤ E i 1 ∧ E i 1 ≤ 32) :
    Calls Try.prog 14 #[.slice (some ⟨bb, off, none⟩) len c, .int .i64 n] w fun e w' => e = .returned (.int .i64 (spF E n len).1) ∧ Below w.heap.size w w' := by
  have HC := hid_in hc; have HO := hid_in hok
  clear hc hok
  go_enter Try.func14, Try.ntmps14
  go_wp2_with fail
  go_loopw [5, 6, 7] (fun hv bv v wr => ∃ k : Nat, k ≤ len ∧ v = .int .i64 (k : Int) ∧ hv = .int .i64 (spF E n k).1 ∧ bv = .int .i64 (spF E n k).2 ∧ Hid (Below w.heap.size w wr)) (fun _ _ v _ => len - (intOf v).toNat)
  case atStart => exact ⟨0, Nat.zero_le _, rfl, rfl, rfl, by show Below _ _ _; exact Below.refl _ _⟩
  case round =>
    obtain ⟨k, hk, rfl, rfl, rfl, HW⟩ := hrel
    by_cases hlt' : k < len
    · have hd : (k : Int) < (len : Int) := by omega
      have hg := fun j hj => ((bcell HW.out).1 bb (off + k * 3 + j) hlt).trans (HC.out k hlt' j hj)
      have g0 : wr.cell? ⟨bb, off + k * 3, none⟩ = _ := hg 0 (by omega)
      have g1 := hg 1 (by omega); have g2 := hg 2 (by omega)
      obtain ⟨a0, a1, b0, b1⟩ := HO.out k hlt'
      have ES : Hid (spF E n (k + 1) = if inB n (E k 0) (E k 0 + pw (32 - E k 1) - 1) = true ∧ (spF E n k).2 < E k 1 then (E k 2, E k 1) else spF E n k) := by show _ = _; rfl
      have lz : bb < wr.heap.size := by have := HW.out.size; omega
      clear hg
      generalize spF E n k = P at ES
      obtain ⟨ph, pb⟩ := P
      generalize E k 0 = x at g0 a0 a1 ES
      generalize E k 1 = y at g1 b0 b1 ES
      generalize E k 2 = h at g2 ES
      have SL := hid_in (fun w => slast x y w a0 a1 b0 b1)
      generalize x + pw (32 - y) - 1 = z at ES SL
      obtain ⟨u, hu⟩ : ∃ u, inB n x z = u := ⟨_, rfl⟩
      have U := hid_in hu
      clear hu
      rw [U.out] at ES
      cases u
      · have ES2 := hid_in (show spF E n (k + 1) = (ph, pb) by rw [ES.out, if_neg (by simp)])
        clear ES
        go_wp2_with fail
        refine wp_region_lat (Below.refl _ _) (by kernel_rfl) (by kernel_rfl) ?_
        intro hne hcl
        repeat (go_big_quiet_step (first | (go_at_call 31; exact lat_of (SL.out _)) | (go_at_call 26; exact lat_same (l1In_any n x z _ false U.out))))
        refine wpQuiet_nil ?_
        intro w1 hb1
        obtain ⟨hc1, hf1⟩ := bcell hb1
        clear hne hcl
        have Z := hid_in (below_later HW.out (below_under hb1))
        clear hc1 hf1 hb1
        go_wp2_with fail
        refine ⟨⟨k + 1, by omega, by simp, ?_, ?_, Z⟩, by simp [intOf]; omega⟩
        · rw [ES2.out]
        · rw [ES2.out]
      · by_cases hb : pb < y
        · have ES2 := hid_in (show spF E n (k + 1) = (h, y) by rw [ES.out, if_pos ⟨rfl, hb⟩])
          clear ES
          go_wp2_with fail
          refine wp_region_lat (Below.refl _ _) (by kernel_rfl) (by kernel_rfl) ?_
          intro hne hcl
          repeat (go_big_quiet_step (first | (go_at_call 31; exact lat_of (SL.out _)) | (go_at_call 26; exact lat_same (l1In_any n x z _ true U.out))))
          refine wpQuiet_nil ?_
          intro w1 hb1
          obtain ⟨hc1, hf1⟩ := bcell hb1
          clear hne hcl
          have Z := hid_in (below_later HW.out (below_under hb1))
          have lz1 : bb < w1.heap.size := by have := hb1.size; simp at this; omega
          have s1 : wr.heap.size < w1.heap.size := by have := hb1.size; simp at this; omega
          have q1 : w1.cell? ⟨wr.heap.size, 1, none⟩ = some (.int .i64 y) := by rw [hc1 _ _ (by simp)]; go_simp
          have q2 : w1.cell? ⟨bb, off + k * 3 + 2, none⟩ = some (.int .i64 h) := by rw [hc1 _ _ (by simp; omega)]; go_simp
          clear hc1 hf1 hb1 g0 g1 g2
          go_wp2_with fail
          refine ⟨⟨k + 1, by omega, by simp, ?_, ?_, Z⟩, by simp [intOf]; omega⟩
          · rw [ES2.out]
          · rw [ES2.out]
        · have ES2 := hid_in (show spF E n (k + 1) = (ph, pb) by rw [ES.out, if_neg (fun q => hb q.2)])
          have hb' : decide (pb < y) = false := by simp; omega
          clear ES
          go_wp2_with fail
          refine wp_region_lat (Below.refl _ _) (by kernel_rfl) (by kernel_rfl) ?_
          intro hne hcl
          repeat (go_big_quiet_step (first | (go_at_call 31; exact lat_of (SL.out _)) | (go_at_call 26; exact lat_same (l1In_any n x z _ true U.out))))
          refine wpQuiet_nil ?_
          intro w1 hb1
          obtain ⟨hc1, hf1⟩ := bcell hb1
          clear hne hcl
          have Z := hid_in (below_later HW.out (below_under hb1))
          clear hc1 hf1 hb1
          go_wp2_with fail
          refine ⟨⟨k + 1, by omega, by simp, ?_, ?_, Z⟩, by simp [intOf]; omega⟩
          · rw [ES2.out]
          · rw [ES2.out]
    · have hd : decide ((k : Int) < (len : Int)) = false := by simp; omega
      obtain rfl : k = len := by omega
      go_wp2_with fail
      go_ret
      exact ⟨rfl, HW.out⟩
set_option maxHeartbeats 600000 in
set_option maxRecDepth 100000 in
theorem l3Lead_any (a : Option Addr) (len c : Nat) (E : Nat → Nat → Int) (n : Int) (w : World) (hT : Tab w a len 3 E) (hl : len ≤ 1000) (hok : ∀ i, i < len → 0 ≤ E i 0 ∧ E i 0 ≤ 4294967295 ∧ 0 ≤ E i 1 ∧ E i 1 ≤ 32) :
    Calls Try.prog 14 #[.slice a len c, .int .i64 n] w fun e w' => e = .returned (.int .i64 (spF E n len).1) ∧ Below w.heap.size w w' := by
  rcases hT with rfl | ⟨bb, off, rfl, h1, k1⟩
  · go_enter Try.func14, Try.ntmps14
    go_wp2_with fail
    refine wp_loop_rounds 1 ?_
    rw [rounds_succ]
    go_wp2_with fail
    go_ret
    exact ⟨rfl, Below.refl _ _⟩
  · exact l3Lead_some bb off len c E n w h1 k1 hl hok
set_option maxHeartbeats 600000 in
set_option maxRecDepth 100000 in
theorem waysLeadS (a : Option Addr) (len c : Nat) (E : Nat → Nat → Int) (n : Int) (w : World) (hT : Tab w a len 3 E) (hl : len ≤ 1048576) :
    Calls Try.prog 6 #[.slice a len c, .int .i64 n] w fun e w' => ∃ v, AllOk (wbad E) len 40 v ∧ e = .returned (.int .i64 (wlF E len v n)) ∧ Below w.heap.size w w' := by
  have HT := hid_in hT
  clear hT
  go_enter Try.func6, Try.ntmps6
  go_wp2_with fail
  refine (waysOkS a len c E _ HT.out hl).mono ?_
  rintro e w1 ⟨v, rfl, V, hb1⟩
  have V1 := hid_in V; have B1 := hid_in hb1
  clear V hb1
  cases v
  · go_wp2_with fail
    go_ret
    exact ⟨false, V1.out, rfl, B1.out⟩
  · go_wp2_with fail
    obtain ⟨u, hu⟩ : ∃ u, inB n 0 4294967295 = u := ⟨_, rfl⟩
    have U := hid_in hu
    refine (l1Addr_any n _ u hu).mono ?_
    rintro e w' ⟨rfl, rfl⟩
    clear hu
    cases u
    · go_wp2_with fail
      go_ret
      exact ⟨true, V1.out, ret_int (by unfold wlF; rw [U.out]; rfl), B1.out⟩
    · have hn := (V1.out.1 rfl).2
      have HO := hid_in (V1.out.1 rfl).1
      go_wp2_with fail
      refine (l3Lead_any a len c E n _ (HT.out.later B1.out) (by omega) (fun i hi => wok_ok (HO.out i hi))).mono ?_
      rintro e w3 ⟨rfl, hb3⟩
      go_wp2_with fail
      go_ret
      exact ⟨true, V1.out, ret_int (by unfold wlF; rw [U.out]; rfl), below_later B1.out hb3⟩
set_option maxHeartbeats 600000 in
set_option maxRecDepth 100000 in
theorem walk_FnExactWaysLead (a0 : Option Addr) (len0 cap0 : Nat) (E0 : Nat → Nat → Int) (x : Int) (_ : (Lit.int .i64 x).wf = true) (w : World) (hT : Tab w a0 len0 3 E0) (_ : ∀ i j, (Lit.int .i64 (E0 i j)).wf = true) (h1 : len0 ≤ cap0) (h2 : cap0 ≤ maxLen) :
    Calls Try.prog 3 #[.slice a0 len0 cap0, .int .i64 x] w fun e w' => e = .returned (.bool true) ∧ Below w.heap.size w w' := by
  have HT := hid_in hT
  clear hT
  obtain ⟨n, hn⟩ : ∃ n, (if (1048576 : Int) - len0 < 0 then -1 else (1048576 : Int) - len0) = n := ⟨_, rfl⟩
  have HN := hid_in hn
  by_cases hlen : len0 ≤ 1048576
  · have hn2 : 0 ≤ n := by rw [← hn, if_neg (by omega)]; omega
    clear hn
    go_enter Try.func3, Try.ntmps3
    go_wp2_with fail
    refine (szWayS_any a0 len0 cap0 _ 1048576 (by omega) (by omega) (by omega) n HN.out).mono ?_
    rintro e w' ⟨rfl, rfl⟩
    go_wp2_with fail
    refine (toWayS_any a0 len0 cap0 E0 _ HT.out hlen).mono ?_
    rintro e w1 ⟨a1, rfl, T1, hb1⟩
    have T1' := hid_in T1
    clear T1
    go_wp2_with fail
    refine (waysLeadS a1 len0 len0 E0 x _ T1'.out hlen).mono ?_
    rintro e w2 ⟨v, V1, rfl, hb2⟩
    have Z2 := hid_in (below_later hb1 hb2); have V1' := hid_in V1
    clear hb1 hb2 V1 T1'
    obtain ⟨R, hR⟩ : ∃ R, wlF E0 len0 v x = R := ⟨_, rfl⟩
    rw [hR]
    have HR := hid_in hR
    clear hR
    go_wp2_with fail
    refine (toWayS_any a0 len0 cap0 E0 _ (HT.out.later Z2.out) hlen).mono ?_
    rintro e w3 ⟨a3, rfl, T3, hb3⟩
    have T3' := hid_in T3
    have Z3 := hid_in (below_later Z2.out hb3)
    clear T3 hb3
    go_wp2_with fail
    refine (waysLeadI a3 len0 len0 E0 x _ T3'.out hlen).mono ?_
    rintro e w4 ⟨v4, V4, rfl, hb4⟩
    obtain rfl : v4 = v := V4.one V1'.out
    rw [HR.out]
    have Z4 := hid_in (below_later Z3.out hb4)
    have T4 := hid_in (T3'.out.later hb4)
    clear V4 V1' hb4 Z2 Z3 T3' HR
    go_wp2_with fail
    refine (toWayS_any a0 len0 cap0 E0 _ (HT.out.later Z4.out) hlen).mono ?_
    rintro e w5 ⟨a5, rfl, T5, hb5⟩
    have T5' := hid_in T5
    clear T5
    go_wp2_with fail
    refine (eqWayS_any a3 a5 len0 len0 len0 E0 _ (T4.out.later hb5) T5'.out hlen).mono ?_
    rintro e w6 ⟨rfl, hb6⟩
    go_wp2_with fail
    go_ret
    exact ⟨rfl, below_later (below_later Z4.out hb5) hb6⟩
  · have hn2 : n < 0 := by rw [← hn, if_pos (by omega)]; omega
    clear hn
    go_enter Try.func3, Try.ntmps3
    go_wp2_with fail
    refine (szWayS_any a0 len0 cap0 _ 1048576 (by omega) (by omega) (by omega) n HN.out).mono ?_
    rintro e w' ⟨rfl, rfl⟩
    go_wp2_with fail
    go_ret
    exact ⟨rfl, Below.refl _ _⟩
end Go.Proofs.Ytajkaaeckmfamaa
