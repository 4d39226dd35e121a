/- Numbers drawn, and lists of numbers held against each other. The conditions stand at each theorem. -/
import Derived.Test.YtmkmbbbmelejoaaWinN
import Derived.Test.YtmkmbbbmelejoaaDrwO
import Derived.Test.YtmkmbbbmelejoaaDrwP
namespace Go.Proofs.Ytmkmbbbmelejoaa
open Go.RowKit Go.LatT Go.BlockM Go.OpnT Go.WinMath Go.RegE
set_option linter.unusedVariables false
set_option linter.unusedSimpArgs false
set_option maxHeartbeats 1000000 in
set_option maxRecDepth 100000 in
theorem ovInts_self (a1 a2 : Option Addr) (len c1 c2 : Nat) (E : Nat → Int) (w : World) (hT : Ints w a1 len E) (hU : Ints w a2 len E) (hl : len ≤ 1048576) :
    Calls Try.prog 13 #[.slice a1 len c1, .slice a2 len c2] w fun e w' => e = .returned (.bool true) ∧ Below w.heap.size w w' := by
  have HT := hid_in hT; have HU := hid_in hU
  clear hT hU
  go_enter Try.func13, Try.ntmps13
  go_wp2_with fail
  go_loopw [5] (fun v wr => ∃ k : Nat, k ≤ len ∧ v = .int .i64 (k : Int) ∧ Hid (Below w.heap.size w wr)) (fun v _ => len - (intOf v).toNat)
  case atStart => exact ⟨0, Nat.zero_le _, rfl, by show Below _ _ _; exact Below.refl _ _⟩
  case round =>
    obtain ⟨k, hk, rfl, HW⟩ := hrel
    by_cases hlt' : k < len
    · have hd : (k : Int) < (len : Int) := by omega
      rcases HT.out with h0 | ⟨b1, o1, rfl, h1, k1⟩
      · omega
      rcases HU.out with h0 | ⟨b2, o2, rfl, h2, k2⟩
      · omega
      have g0 := ((bcell HW.out).1 b1 (o1 + k) h1).trans (k1 k hlt')
      have q0 := ((bcell HW.out).1 b2 (o2 + k) h2).trans (k2 k hlt')
      clear k1 k2
      go_wp2_with fail
      go_region
      go_wp2_with fail
      exact ⟨⟨k + 1, by omega, by simp, by show Below _ _ _; exact HW.out.drew⟩, by simp [intOf]; omega⟩
    · have hd : decide ((k : Int) < (len : Int)) = false := by simp; omega
      go_wp2_with fail
      go_ret
      exact ⟨rfl, HW.out⟩
theorem ovI_any (v1 v2 : Value) (L : List Int) (w : World) (h1 : IL w v1 L) (h2 : IL w v2 L) (hl : L.length ≤ 1048576) :
    Calls Try.prog 13 #[v1, v2] w fun e w' => e = .returned (.bool true) ∧ Below w.heap.size w w' := by
  obtain ⟨a1, c1, rfl, i1⟩ := h1.ints
  obtain ⟨a2, c2, rfl, i2⟩ := h2.ints
  exact ovInts_self a1 a2 L.length c1 c2 (gE L) w i1 i2 hl
set_option maxHeartbeats 2000000 in
set_option maxRecDepth 100000 in
theorem drawWindowRun (a : Option Addr) (len cap : Nat) (z : List Int) (w : World) (h : RowC w a len cap z) (hl : len ≤ 1048576) :
    Calls Try.prog 11 #[.slice a len cap] w fun e w' => ∃ v L, e = .returned v ∧ L.length ≤ 61 ∧ w'.ownsRow w.heap.size 3 1 v L.length (i64s L) ∧ Below w.heap.size w w' := by
  have HR := hid_in h
  clear h
  go_enter Try.func11, Try.ntmps11
  go_wp2_with fail
  refine (l1OpenC a len cap z _ HR.out hl).mono ?_
  rintro e w1 ⟨sl, rfl, h1, hb1⟩
  have H1 := hid_in (h1.later (below_box w1 (Obj.cells #[] 3))); have HB := hid_in hb1
  have lR : w.heap.size + 1 ≤ w1.heap.size := h1.lt
  have HX := hid_in h1
  clear h1 hb1
  go_wp2_with fail
  refine (pickM _ sl 0 20 _ H1.out (by omega) (by omega) (by omega) (by omega)).mono ?_
  rintro e w2 ⟨u2, rfl, a2, b2, h2, m2⟩
  have H2 := hid_in h2; have M2 := hid_in m2; clear h2 m2 H1
  go_wp2_with fail
  refine (pickM _ sl _ 20 _ H2.out (by omega) (by omega) (by omega) (by omega)).mono ?_
  rintro e w3 ⟨u3, rfl, a3, b3, h3, m3⟩
  have H3 := hid_in h3; have M3 := hid_in (M2.out.trans m3); clear h3 m3 H2 M2
  by_cases hu3 : u3 = 0
  · subst hu3
    go_wp2_with fail
    refine (pickM _ sl _ 2 _ H3.out (by omega) (by omega) (by omega) (by omega)).mono ?_
    rintro e w4 ⟨u4, rfl, a4, b4, h4, m4⟩
    have H4 := hid_in h4; have M4 := hid_in (M3.out.trans m4); clear h4 m4 H3 M3
    obtain ⟨n4, rfl⟩ := Int.eq_ofNat_of_zero_le a4
    obtain ⟨N, hN⟩ : ∃ N : Nat, 60 + n4 = N := ⟨_, rfl⟩
    have hN1 : N ≤ 61 := by omega
    have hN2 : (60 : Int) + (n4 : Int) = (N : Int) := by omega
    go_wp2_with fail
    try rw [hN2]
    clear hN hN2
    go_loopw [4, 5, 6] (fun vo va vn wr => ∃ k : Nat, ∃ at_ : Int, k ≤ N ∧ 0 ≤ at_ ∧ at_ ≤ 1 + 20 * (k : Int) ∧ va = .int .i64 at_ ∧ vn = .int .i64 ((N - k : Nat) : Int) ∧ Hid (Mv w.heap.size w1 wr ∧ (∃ q, 0 ≤ q ∧ q ≤ 3 + 2 * (k : Int) ∧ Rdr wr w.heap.size sl q) ∧ ∃ L : List Int, L.length = k ∧ wr.ownsRow w1.heap.size 3 1 vo k (i64s L))) (fun _ _ vn _ => (intOf vn).toNat)
    case atStart => exact ⟨0, 1, Nat.zero_le _, by omega, by omega, rfl, by simp, by show _ ∧ _; exact ⟨(Mv.of_below (below_box _ _)).trans M4.out, ⟨0 + 1 + 1 + 1, by omega, by omega, H4.out⟩, [], rfl, owns_mv (owns_nil_lit 3 (Nat.le_refl _)) M4.out (fun j hj => by have h : w1.heap.size = j := Option.some.inj hj; omega)⟩⟩
    case round =>
      obtain ⟨k, at_, hk, ha0, ha1, rfl, rfl, HW⟩ := hrel
      obtain ⟨hM, ⟨q, hq1, hq2, hR⟩, L, hL, hO⟩ := HW.out
      obtain ⟨a5, c5, rfl⟩ := owns_form hO
      have HM := hid_in hM; have HO := hid_in hO; have HRd := hid_in hR; have HL := hid_in hL
      have hz := hM.size
      clear hM hO hR hL HW
      by_cases hk' : k < N
      · have hd : (0 : Int) < ((N - k : Nat) : Int) := by omega
        go_wp2_with fail
        refine (oneN w.heap.size sl q [0, 0, -1, -2, -5, 3, -20] 7 _ 3 wr rfl rfl HRd.out (by omega) (by omega) (by simp) (by simp)).mono ?_
        rintro e w4 ⟨u4, rfl, hu4, h4, m4⟩
        have hu5 : -20 ≤ u4 ∧ u4 ≤ 3 := by
          simp only [List.mem_cons, List.not_mem_nil, or_false] at hu4
          omega
        obtain ⟨b0, b1⟩ := hu5
        have H4 := hid_in h4; have M4 := hid_in (HM.out.trans m4)
        have O4 := hid_in (owns_mv HO.out m4 (fun j hj => by have := (owns_own HO.out j hj).1; omega))
        have s4 := M4.out.size
        clear h4 m4 hu4
        go_wp2_with (at_builtin; refine wpI_append rfl (.tmp 22) (.tmp 28) rfl w1.heap.size (.slice a5 k c5) k _ rfl (O4.out.alloc _) _ [at_ + u4] rfl (IL.one2 (by simp)) (by simp; omega) (by rw [heapSize1]; omega) ?_; intro v6 w6 o6 g6 n6; have O6 := hid_in o6; have G6 := hid_in g6; clear o6 g6 n6)
        have m6 : Mv w.heap.size w1 w6 := Mv.grown M4.out (below_box _ _) G6.out (fun g hg => (owns_own O4.out g hg).1)
        have r3 := H4.out.later (below_box w4 (.cells #[.int .i64 (at_ + u4)] 3))
        have hb6 : Below w1.heap.size (w4.alloc (.cells #[.int .i64 (at_ + u4)] 3)) w6 := grown_below G6.out (by rw [heapSize1]; omega) (fun g hg => (owns_own O4.out g hg).1)
        have x1 : ∀ o, w6.cell? ⟨w.heap.size, o, none⟩ = (w4.alloc (.cells #[.int .i64 (at_ + u4)] 3)).cell? ⟨w.heap.size, o, none⟩ := fun o => by unfold World.cell?; rw [hb6.block w.heap.size (by omega)]
        have x2 : ∀ o, w6.frozen? ⟨w.heap.size, o, none⟩ = (w4.alloc (.cells #[.int .i64 (at_ + u4)] 3)).frozen? ⟨w.heap.size, o, none⟩ := fun o => by unfold World.frozen?; rw [hb6.block w.heap.size (by omega)]
        have R6 := hid_in (show Rdr w6 w.heap.size sl (q + 1) from ⟨by rw [x1]; exact r3.c0, by rw [x1]; exact r3.c1, by rw [x2]; exact r3.fz, HX.out.src_of m6⟩)
        have M6 := hid_in m6
        have s6 := m6.size
        obtain ⟨a6, c6, rfl⟩ := owns_form O6.out
        clear m6 r3 hb6 x1 x2
        refine (oneN w.heap.size sl (q + 1) [0, 1, 1, 2, 17] 5 _ 3 w6 rfl rfl R6.out (by omega) (by omega) (by simp) (by simp)).mono ?_
        rintro e w7 ⟨u7, rfl, hu7, h7, m7⟩
        have hu8 : 0 ≤ u7 ∧ u7 ≤ 17 := by
          simp only [List.mem_cons, List.not_mem_nil, or_false] at hu7
          omega
        obtain ⟨d0, d1⟩ := hu8
        have H7 := hid_in h7; have M7 := hid_in (M6.out.trans m7)
        have O7 := hid_in (owns_mv O6.out m7 (fun j hj => by have := (owns_own O6.out j hj).1; omega))
        clear h7 m7 hu7
        go_wp2_with fail
        refine ⟨⟨k + 1, at_ + u7, by omega, by omega, by omega, rfl, by simp; omega, ?_⟩, by simp [intOf]; omega⟩
        show _ ∧ _
        exact ⟨M7.out, ⟨q + 1 + 1, by omega, by omega, H7.out⟩, L ++ [at_ + u4], by rw [List.length_append, HL.out]; rfl, O7.out⟩
      · have hd : ¬ (0 : Int) < ((N - k : Nat) : Int) := by omega
        have hd' : decide ((0 : Int) < ((N - k : Nat) : Int)) = false := by simp; omega
        have hkn : k = N := by omega
        have HK := hid_in hkn
        clear hkn
        go_wp2_with fail
        go_ret
        exact ⟨_, rfl, L, by rw [HL.out]; omega, by rw [HL.out]; exact owns_base HO.out (by omega), below_mv HB.out (Nat.le_refl _) HM.out⟩
  · have hu3' : (u3 == 0) = false := by simpa using hu3
    obtain ⟨N, rfl⟩ := Int.eq_ofNat_of_zero_le a2
    have hN1 : N ≤ 61 := by omega
    go_wp2_with fail
    go_loopw [4, 5, 6] (fun vo va vn wr => ∃ k : Nat, ∃ at_ : Int, k ≤ N ∧ 0 ≤ at_ ∧ at_ ≤ 1 + 20 * (k : Int) ∧ va = .int .i64 at_ ∧ vn = .int .i64 ((N - k : Nat) : Int) ∧ Hid (Mv w.heap.size w1 wr ∧ (∃ q, 0 ≤ q ∧ q ≤ 3 + 2 * (k : Int) ∧ Rdr wr w.heap.size sl q) ∧ ∃ L : List Int, L.length = k ∧ wr.ownsRow w1.heap.size 3 1 vo k (i64s L))) (fun _ _ vn _ => (intOf vn).toNat)
    case atStart => exact ⟨0, 1, Nat.zero_le _, by omega, by omega, rfl, by simp, by show _ ∧ _; exact ⟨(Mv.of_below (below_box _ _)).trans M3.out, ⟨0 + 1 + 1, by omega, by omega, H3.out⟩, [], rfl, owns_mv (owns_nil_lit 3 (Nat.le_refl _)) M3.out (fun j hj => by have h : w1.heap.size = j := Option.some.inj hj; omega)⟩⟩
    case round =>
      obtain ⟨k, at_, hk, ha0, ha1, rfl, rfl, HW⟩ := hrel
      obtain ⟨hM, ⟨q, hq1, hq2, hR⟩, L, hL, hO⟩ := HW.out
      obtain ⟨a5, c5, rfl⟩ := owns_form hO
      have HM := hid_in hM; have HO := hid_in hO; have HRd := hid_in hR; have HL := hid_in hL
      have hz := hM.size
      clear hM hO hR hL HW
      by_cases hk' : k < N
      · have hd : (0 : Int) < ((N - k : Nat) : Int) := by omega
        go_wp2_with fail
        refine (oneN w.heap.size sl q [0, 0, -1, -2, -5, 3, -20] 7 _ 3 wr rfl rfl HRd.out (by omega) (by omega) (by simp) (by simp)).mono ?_
        rintro e w4 ⟨u4, rfl, hu4, h4, m4⟩
        have hu5 : -20 ≤ u4 ∧ u4 ≤ 3 := by
          simp only [List.mem_cons, List.not_mem_nil, or_false] at hu4
          omega
        obtain ⟨b0, b1⟩ := hu5
        have H4 := hid_in h4; have M4 := hid_in (HM.out.trans m4)
        have O4 := hid_in (owns_mv HO.out m4 (fun j hj => by have := (owns_own HO.out j hj).1; omega))
        have s4 := M4.out.size
        clear h4 m4 hu4
        go_wp2_with (at_builtin; refine wpI_append rfl (.tmp 22) (.tmp 28) rfl w1.heap.size (.slice a5 k c5) k _ rfl (O4.out.alloc _) _ [at_ + u4] rfl (IL.one2 (by simp)) (by simp; omega) (by rw [heapSize1]; omega) ?_; intro v6 w6 o6 g6 n6; have O6 := hid_in o6; have G6 := hid_in g6; clear o6 g6 n6)
        have m6 : Mv w.heap.size w1 w6 := Mv.grown M4.out (below_box _ _) G6.out (fun g hg => (owns_own O4.out g hg).1)
        have r3 := H4.out.later (below_box w4 (.cells #[.int .i64 (at_ + u4)] 3))
        have hb6 : Below w1.heap.size (w4.alloc (.cells #[.int .i64 (at_ + u4)] 3)) w6 := grown_below G6.out (by rw [heapSize1]; omega) (fun g hg => (owns_own O4.out g hg).1)
        have x1 : ∀ o, w6.cell? ⟨w.heap.size, o, none⟩ = (w4.alloc (.cells #[.int .i64 (at_ + u4)] 3)).cell? ⟨w.heap.size, o, none⟩ := fun o => by unfold World.cell?; rw [hb6.block w.heap.size (by omega)]
        have x2 : ∀ o, w6.frozen? ⟨w.heap.size, o, none⟩ = (w4.alloc (.cells #[.int .i64 (at_ + u4)] 3)).frozen? ⟨w.heap.size, o, none⟩ := fun o => by unfold World.frozen?; rw [hb6.block w.heap.size (by omega)]
        have R6 := hid_in (show Rdr w6 w.heap.size sl (q + 1) from ⟨by rw [x1]; exact r3.c0, by rw [x1]; exact r3.c1, by rw [x2]; exact r3.fz, HX.out.src_of m6⟩)
        have M6 := hid_in m6
        have s6 := m6.size
        obtain ⟨a6, c6, rfl⟩ := owns_form O6.out
        clear m6 r3 hb6 x1 x2
        refine (oneN w.heap.size sl (q + 1) [0, 1, 1, 2, 17] 5 _ 3 w6 rfl rfl R6.out (by omega) (by omega) (by simp) (by simp)).mono ?_
        rintro e w7 ⟨u7, rfl, hu7, h7, m7⟩
        have hu8 : 0 ≤ u7 ∧ u7 ≤ 17 := by
          simp only [List.mem_cons, List.not_mem_nil, or_false] at hu7
          omega
        obtain ⟨d0, d1⟩ := hu8
        have H7 := hid_in h7; have M7 := hid_in (M6.out.trans m7)
        have O7 := hid_in (owns_mv O6.out m7 (fun j hj => by have := (owns_own O6.out j hj).1; omega))
        clear h7 m7 hu7
        go_wp2_with fail
        refine ⟨⟨k + 1, at_ + u7, by omega, by omega, by omega, rfl, by simp; omega, ?_⟩, by simp [intOf]; omega⟩
        show _ ∧ _
        exact ⟨M7.out, ⟨q + 1 + 1, by omega, by omega, H7.out⟩, L ++ [at_ + u4], by rw [List.length_append, HL.out]; rfl, O7.out⟩
      · have hd : ¬ (0 : Int) < ((N - k : Nat) : Int) := by omega
        have hd' : decide ((0 : Int) < ((N - k : Nat) : Int)) = false := by simp; omega
        have hkn : k = N := by omega
        have HK := hid_in hkn
        clear hkn
        go_wp2_with fail
        go_ret
        exact ⟨_, rfl, L, by rw [HL.out]; omega, by rw [HL.out]; exact owns_base HO.out (by omega), below_mv HB.out (Nat.le_refl _) HM.out⟩
end Go.Proofs.Ytmkmbbbmelejoaa
