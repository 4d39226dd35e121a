/- What is found is the rule of a cell that has it: the draw and the walk of the law FnCellsFind. The conditions stand at each theorem. -/
import Derived.Test.YtdljoopioglkiaaGrdG
import Derived.Test.YtdljoopioglkiaaRldB
import Derived.Test.YtdljoopioglkiaaDrwO
import Derived.Test.YtdljoopioglkiaaTabC
namespace Go.Proofs.Ytdljoopioglkiaa
open Go.RowKit Go.LatT Go.BlockM Go.OpnT Go.RegE Go.ApdG Go.WinMath
set_option linter.unusedVariables false
set_option linter.unusedSimpArgs false
theorem ownsB {w : World} {B C size n : Nat} {e : TypeId} {v : Value} {xs : List Value} (h : w.ownsRow B e size v n xs) (hC : C ≤ B) : w.ownsRow C e size v n xs := by
  obtain ⟨h1, h2⟩ := h
  refine ⟨h1, ?_⟩
  rcases h2 with h2 | ⟨g', cap', cur, e1, e2, e3⟩
  · exact .inl h2
  · exact .inr ⟨g', cap', cur, e1, by omega, e3⟩
theorem tab8_of {w : World} {base n : Nat} {v : Value} {E : Nat → Nat → Int} (h : w.ownsRow base 60 8 v n (flatC E 8 n)) : ∃ a c, v = .slice a n c ∧ n ≤ c ∧ Tab w a n 8 E := tab_of_owns h
set_option maxHeartbeats 1000000 in
set_option maxRecDepth 100000 in
theorem drawCellsFind (a : Option Addr) (len cap : Nat) (z : List Int) (w : World) (h : RowC w a len cap z) (hl : len ≤ 1048576) :
    Calls Try.prog 5 #[.slice a len cap] w fun e w' => ∃ (a' : Option Addr) (L : List Cv) (c : Nat) (x y z : Int), e = .returned (.tuple #[.slice a' L.length c, .agg #[.int .i64 x, .int .i64 y, .int .i64 z]]) ∧ Tab w' a' L.length 7 (rowsE L) ∧ L.length ≤ 400 ∧ L.length ≤ c ∧ c ≤ maxLen ∧ Below w.heap.size w w' := by
  have bx := below_box w (.cells #[.int .i64 0, .int .i64 0, .int .i64 0] 25)
  have H0 := hid_in (h.later bx)
  have B0 := hid_in (CBf.new w 0 0 0 25)
  have Z0 := hid_in bx
  clear h bx
  go_enter Try.func5, Try.ntmps5
  go_wp2_with fail
  refine (l1OpenC a len cap z _ H0.out hl).mono ?_
  rintro e w1 ⟨sl, rfl, h1, hb1⟩
  have hz : (w.alloc (.cells #[.int .i64 0, .int .i64 0, .int .i64 0] 25)).heap.size = w.heap.size + 1 := by simp
  rw [hz] at h1
  have H1 := hid_in h1; have B1 := hid_in (B0.out.later hb1); have Z1 := hid_in (below_later Z0.out hb1)
  clear h1 hb1 B0 Z0 H0
  have hr1 := H1.out.lt
  go_wp2_with fail
  refine (l12Rules_any (w.heap.size + 1) sl 0 _ H1.out (by omega) (by omega)).mono ?_
  rintro e w2 ⟨v2, n, E, q, rfl, o2, n1, hE, q0, q1, h2, m2⟩
  obtain ⟨a2, c2, rfl, _, T2⟩ := tab8_of o2
  have H2 := hid_in h2; have B2 := hid_in (B1.out.mv m2 (by omega)); have Z2 := hid_in (below_mv Z1.out (show w.heap.size ≤ w.heap.size + 1 by omega) m2); have HT2 := hid_in T2
  have hs2 := m2.size
  clear h2 m2 H1 B1 Z1 o2 T2 hE
  go_wp2_with fail
  refine (cellsS_any a2 n c2 E _ HT2.out (by omega)).mono ?_
  rintro e w3 ⟨v3, L, ok, rfl, D3, o3, hb3⟩
  have hL := D3.len
  obtain ⟨a3, c3, rfl⟩ := owns_formR o3
  have H3 := hid_in (H2.out.later hb3); have B3 := hid_in (B2.out.later hb3); have Z3 := hid_in (below_later Z2.out hb3); have O3 := hid_in o3
  have hs3 := hb3.size
  clear hb3 H2 B2 Z2 o3 HT2 D3
  go_wp2_with fail
  refine (l12AnyCall_any (w.heap.size + 1) sl _ _ H3.out (by omega) (by omega)).mono ?_
  rintro e w4 ⟨x, y, z, rfl, ⟨q3, q4, q5, h4⟩, m4⟩
  have B4 := hid_in (B3.out.mv m4 (by omega)); have Z4 := hid_in (below_mv Z3.out (show w.heap.size ≤ w.heap.size + 1 by omega) m4)
  have O4 := owns_mvR O3.out m4 (by omega)
  have O5 := hid_in (owns_set (owns_set (owns_set O4 (b := w.heap.size) (o := 0) (u := .int .i64 x) (by omega)) (b := w.heap.size) (o := 1) (u := .int .i64 y) (by omega)) (b := w.heap.size) (o := 2) (u := .int .i64 z) (by omega))
  have Z5 := hid_in (show Below w.heap.size w (((w4.setCell ⟨w.heap.size, 0, none⟩ (.int .i64 x)).setCell ⟨w.heap.size, 1, none⟩ (.int .i64 y)).setCell ⟨w.heap.size, 2, none⟩ (.int .i64 z)) from
    ((Z4.out.setCell (p := ⟨w.heap.size, 0, none⟩) (Nat.le_refl _) _).setCell (p := ⟨w.heap.size, 1, none⟩) (Nat.le_refl _) _).setCell (p := ⟨w.heap.size, 2, none⟩) (Nat.le_refl _) _)
  clear h4 m4 H3 B3 Z3 O3 O4
  obtain ⟨l0, k0, k1, k2, kf⟩ := B4.out
  go_wp2_with fail
  obtain ⟨a6, c6, e6, n6, m6, T6⟩ := tab_of_cv O5.out
  simp only [Value.slice.injEq] at e6
  obtain ⟨rfl, _, rfl⟩ := e6
  exact bodyPost_ret (v := .tuple #[.slice a3 L.length c3, .agg #[.int .i64 x, .int .i64 y, .int .i64 z]]) (by simp [results, Try.results5, go_sem, k0, k1, k2, l0]) rfl ⟨a3, L, c3, x, y, z, rfl, T6, hL, n6, m6, Z5.out⟩
theorem cellsB_point (a b c d l h x y z : Int) : cellsB a b c d l h x x y y z z = (inB x a b && inB y c d && inB z l h) := by
  simp only [cellsB, overB, inB]
  rw [Bool.eq_iff_iff]
  simp
  omega
set_option maxHeartbeats 1000000 in
set_option maxRecDepth 100000 in
theorem walk_FnCellsFind (a0 : Option Addr) (len0 cap0 : Nat) (z0 : List Int) (w : World) (h : RowC w a0 len0 cap0 z0) :
    Calls Try.prog 3 #[.slice a0 len0 cap0] w fun e w' => e = .returned (.bool true) ∧ Below w.heap.size w w' := by
  have hm : (len0 : Int) ≤ 9223372036854775807 := by
    rcases h with ⟨rfl, _⟩ | ⟨_, _, _, h1, h2, _⟩
    · omega
    · unfold maxLen at h2; omega
  have HR := hid_in h
  clear h
  by_cases hl : len0 ≤ 1048576
  · go_enter Try.func3, Try.ntmps3
    go_wp2_with fail
    refine (drawCellsFind a0 len0 cap0 z0 _ HR.out hl).mono ?_
    rintro e w1 ⟨a, L, c, x, y, z, rfl, t1, n1, n2, n3, hb1⟩
    have bx := below_box w1 (.cells #[.int .i64 x, .int .i64 y, .int .i64 z] 25)
    have B1 := hid_in (CBf.new w1 x y z 25); have T1 := hid_in (t1.later bx); have Z1 := hid_in (below_later hb1 bx)
    clear t1 hb1 bx
    generalize rowsE L = E at *
    generalize L.length = n at *
    go_wp2_with fail
    refine (findI_any a n c E x y z _ T1.out (by omega)).mono ?_
    rintro e w2 ⟨v, rfl, f, hb2⟩
    have F := hid_in f; have B2 := hid_in (B1.out.later hb2); have T2 := hid_in (T1.out.later hb2); have Z2 := hid_in (below_later Z1.out hb2)
    clear f hb2 B1 T1 Z1
    obtain ⟨l2, p0, p1, p2, pf⟩ := B2.out
    go_wp2_with fail
    refine (findS_any a n c E x y z _ T2.out (by omega)).mono ?_
    rintro e w3 ⟨v3, rfl, F3, hb3⟩
    obtain rfl : v3 = v := F3.one F.out
    have B3 := hid_in (B2.out.later hb3); have T3 := hid_in (T2.out.later hb3); have Z3 := hid_in (below_later Z2.out hb3)
    clear F3 hb3 B2 T2 Z2 l2 p0 p1 p2 pf
    obtain ⟨l2, p0, p1, p2, pf⟩ := B3.out
    have qv : (v3 != v3) = false := by simp
    have bx := below_box w3 (.cells #[.int .i64 x, .int .i64 x, .int .i64 y, .int .i64 y, .int .i64 z, .int .i64 z, .int .i64 0] 30)
    have HC : Hid ((w3.alloc (.cells #[.int .i64 x, .int .i64 x, .int .i64 y, .int .i64 y, .int .i64 z, .int .i64 z, .int .i64 0] 30)).heap[w3.heap.size]? = some (.cells #[.int .i64 x, .int .i64 x, .int .i64 y, .int .i64 y, .int .i64 z, .int .i64 z, .int .i64 0] 30)) := heap_new _ _ _ rfl
    have T4 := hid_in (T3.out.later bx); have Z4 := hid_in (below_later Z3.out bx)
    have s4 : (w3.alloc (.cells #[.int .i64 x, .int .i64 x, .int .i64 y, .int .i64 y, .int .i64 z, .int .i64 z, .int .i64 0] 30)).heap.size = w3.heap.size + 1 := by simp
    clear bx
    go_wp2_with fail
    generalize w3.alloc (.cells #[.int .i64 x, .int .i64 x, .int .i64 y, .int .i64 y, .int .i64 z, .int .i64 z, .int .i64 0] 30) = W4 at *
    go_loopw [7] (fun s wr => ∃ m : Nat, m ≤ n ∧ s = .int .i64 (m : Int) ∧ Hid (Below W4.heap.size W4 wr ∧ ∀ i, i < m → hitB E x y z i = false)) (fun s _ => n - (intOf s).toNat)
    case atStart => exact ⟨0, Nat.zero_le _, rfl, by show _ ∧ _; exact ⟨Below.refl _ _, fun i hi => by omega⟩⟩
    case round =>
      obtain ⟨m, hm, rfl, HW⟩ := hrel
      have hT := T4.out.later HW.out.1
      have hC := (HW.out.1.block w3.heap.size (by omega)).trans HC.out
      have Z7 := hid_in (below_later Z4.out HW.out.1)
      have gw : w3.heap.size < wr.heap.size := by have := HW.out.1.size; omega
      have y0 : wr.cell? ⟨w3.heap.size, 0, none⟩ = some (.int .i64 x) := by unfold World.cell?; simp [hC]
      have y1 : wr.cell? ⟨w3.heap.size, 1, none⟩ = some (.int .i64 x) := by unfold World.cell?; simp [hC]
      have y2 : wr.cell? ⟨w3.heap.size, 2, none⟩ = some (.int .i64 y) := by unfold World.cell?; simp [hC]
      have y3 : wr.cell? ⟨w3.heap.size, 3, none⟩ = some (.int .i64 y) := by unfold World.cell?; simp [hC]
      have y4 : wr.cell? ⟨w3.heap.size, 4, none⟩ = some (.int .i64 z) := by unfold World.cell?; simp [hC]
      have y5 : wr.cell? ⟨w3.heap.size, 5, none⟩ = some (.int .i64 z) := by unfold World.cell?; simp [hC]
      have y6 : wr.cell? ⟨w3.heap.size, 6, none⟩ = some (.int .i64 0) := by unfold World.cell?; simp [hC]
      clear hC l2 p0 p1 p2 pf
      by_cases hlt : m < n
      · have hd : (m : Int) < (n : Int) := by omega
        rcases hT with hT | ⟨bb, off, rfl, hbb, hc⟩
        · omega
        have hg := fun j hj => hc m hlt j hj
        have g0 : wr.cell? ⟨bb, off + m * 7, none⟩ = _ := hg 0 (by omega)
        have g1 := hg 1 (by omega); have g2 := hg 2 (by omega); have g3 := hg 3 (by omega); have g4 := hg 4 (by omega); have g5 := hg 5 (by omega); have g6 := hg 6 (by omega)
        have HG6 := hid_in g6
        clear hg hc
        obtain ⟨r, hr⟩ : ∃ r, hitB E x y z m = r := ⟨_, rfl⟩
        have RR := hid_in hr
        have CM : Hid (cellsB (E m 0) (E m 1) (E m 2) (E m 3) (E m 4) (E m 5) x x y y z z = r) := by show _ = r; rw [cellsB_point]; exact hr
        clear hr
        cases r
        · go_wp2_with fail
          refine wp_region_lat (Below.refl _ _) (by kernel_rfl) (by kernel_rfl) ?_
          intro hne hcl
          repeat (go_big_quiet_step (first | (go_at_call 8; exact lat_of (cellsMeetI _ _ _ _ _ _ _ _ _ _ _ _ _ _ _ false CM.out))))
          refine wpQuiet_nil ?_
          intro w1 hb1
          obtain ⟨hc1, hf1⟩ := bcell hb1
          clear hne hcl
          go_wp2_with fail
          refine ⟨⟨m + 1, by omega, by simp, ?_⟩, by simp [intOf]; omega⟩
          show _ ∧ _
          refine ⟨below_later HW.out.1 hb1, fun i hi => ?_⟩
          by_cases e : i = m
          · rw [e]; exact RR.out
          · exact HW.out.2 i (by omega)
        · have hv : v3 = E m 6 := by
            rcases F.out with ⟨i, hi, hp, hbf, rfl⟩ | ⟨hn, _⟩
            · rcases Nat.lt_trichotomy i m with c | c | c
              · rw [HW.out.2 i c] at hp; cases hp
              · rw [c]
              · rw [hbf m c] at RR; cases RR.out
            · rw [hn m hlt] at RR; cases RR.out
          have hv2 : (v3 == E m 6) = true := by simp [hv]
          clear hv
          go_wp2_with fail
          refine wp_region_lat (Below.refl _ _) (by kernel_rfl) (by kernel_rfl) ?_
          intro hne hcl
          repeat (go_big_quiet_step (first | (go_at_call 8; exact lat_of (cellsMeetI _ _ _ _ _ _ _ _ _ _ _ _ _ _ _ true CM.out))))
          refine wpQuiet_nil ?_
          intro w1 hb1
          obtain ⟨hc1, hf1⟩ := bcell hb1
          clear hne hcl
          have k6 := (hc1 bb (off + m * 7 + 6) hbb).trans HG6.out
          have hbb1 : bb < w1.heap.size := Nat.lt_of_lt_of_le hbb hb1.size
          go_wp2_with fail
          go_ret
          exact ⟨rfl, below_later Z7.out hb1⟩
      · have hd : decide ((m : Int) < (n : Int)) = false := by simp; omega
        have hv : v3 = -1 := by
          rcases F.out with ⟨i, hi, hp, _, rfl⟩ | ⟨_, rfl⟩
          · rw [HW.out.2 i (by omega)] at hp; cases hp
          · rfl
        have hv2 : (v3 == -1) = true := by simp [hv]
        clear hv
        go_wp2_with fail
        go_ret
        exact ⟨rfl, Z7.out⟩
  · have hl' : (1048576 : Int) < len0 := by omega
    go_enter Try.func3, Try.ntmps3
    go_wp2_with fail
    go_ret
    exact ⟨rfl, Below.refl _ _⟩
end Go.Proofs.Ytdljoopioglkiaa
