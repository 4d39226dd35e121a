/- What each function of blocks answers, in the program and in the specification, as contracts: the answer, and that nothing which was there has turned. The conditions stand at each theorem. -/
import Derived.Test.YtbcehchjinlacaaDrwF
import Derived.Test.YtbcehchjinlacaaBlkF
import Derived.Test.YtbcehchjinlacaaMathO
import Derived.Test.YtbcehchjinlacaaRegN
import Derived.Test.YtbcehchjinlacaaMath
import Derived.WalkKit
import Derived.WalkSpells
import Derived.WalkLawsBesides
import Derived.BigQuiet
import Derived.Deep.RegionWith
namespace Go.Proofs.Ytbcehchjinlacaa
open Go.RowKit Go.LatT Go.BlockM Go.RegN
set_option linter.unusedVariables false
set_option linter.unusedSimpArgs false
set_option maxHeartbeats 4000000 in
theorem walk_FnBlockOver (a0 : Option Addr) (len0 cap0 : Nat) (z0 : List Int) (w : World) (hrow : RowC w a0 len0 cap0 z0) :
    Calls Try.prog 7 #[.slice a0 len0 cap0] w fun e w' => e = .returned (.bool true) ∧ Below w.heap.size w w' := by
  by_cases hlen : (1048576 : Int) < (len0 : Int)
  · clear hrow
    go_enter Try.func7, Try.ntmps7
    go_wp2_with fail
    go_ret
    exact ⟨rfl, Below.refl _ _⟩
  · have HR := hid_in hrow
    clear hrow
    go_enter Try.func7, Try.ntmps7
    go_wp2_with fail
    refine (drawBlockOver a0 len0 cap0 z0 _ HR.out (by omega)).mono ?_
    rintro e u1 ⟨a, b, x, y, rfl, x0, x1, y0, y1, x0', x1', y0', y1', hu1⟩
    clear HR
    go_wp2_with fail
    obtain ⟨p, hp⟩ : ∃ v, ovBase a b x y = v := ⟨_, rfl⟩
    obtain ⟨q, hq⟩ : ∃ v, ovLen a b x y = v := ⟨_, rfl⟩
    have P := hid_in hp; have Q := hid_in hq
    refine (overI a b x y _ p q hp hq).mono ?_
    rintro e u2 ⟨rfl, hb2⟩
    obtain ⟨hc2, hf2⟩ := bcell hb2
    have c0 : u2.cell? ⟨u1.heap.size, 0, none⟩ = some (.int .i64 a) := by rw [hc2 _ _ (by simp <;> omega)]; try go_simp
    have c1 : u2.cell? ⟨u1.heap.size, 1, none⟩ = some (.int .i64 b) := by rw [hc2 _ _ (by simp <;> omega)]; try go_simp
    have d0 : u2.cell? ⟨u1.heap.size + 1, 0, none⟩ = some (.int .i64 x) := by rw [hc2 _ _ (by simp <;> omega)]; try go_simp
    have d1 : u2.cell? ⟨u1.heap.size + 1, 1, none⟩ = some (.int .i64 y) := by rw [hc2 _ _ (by simp <;> omega)]; try go_simp
    have L2 : u1.heap.size + 1 < u2.heap.size := by have := hb2.size; simp at this; omega
    have L1 : u1.heap.size < u2.heap.size := by omega
    have z2 : Below w.heap.size w u2 := below_later hu1 (below_under (below_under hb2))
    clear hc2 hf2 hb2 hu1 hlen hp hq
    have n1 : ¬ u1.heap.size = u2.heap.size := by omega
    have n2 : ¬ u1.heap.size + 1 = u2.heap.size := by omega
    obtain ⟨o1, ho1⟩ : ∃ o, okB a b = o := ⟨_, rfl⟩
    obtain ⟨o2, ho2⟩ : ∃ o, okB x y = o := ⟨_, rfl⟩
    have O1 := hid_in ho1; have O2 := hid_in ho2
    go_wp2_with fail
    obtain ⟨W, hW⟩ : ∃ W, W = u2.alloc (Obj.cells #[Value.int IntKind.i64 p, Value.int IntKind.i64 q] 24) := ⟨_, rfl⟩
    have zb : Below u2.heap.size u2 W := by rw [hW]; exact below_box _ _
    obtain ⟨hcW, _⟩ := bcell zb
    have C0 : W.cell? ⟨u1.heap.size, 0, none⟩ = some (.int .i64 a) := by rw [hcW _ _ L1]; exact c0
    have C1 : W.cell? ⟨u1.heap.size, 1, none⟩ = some (.int .i64 b) := by rw [hcW _ _ L1]; exact c1
    have D0 : W.cell? ⟨u1.heap.size + 1, 0, none⟩ = some (.int .i64 x) := by rw [hcW _ _ L2]; exact d0
    have D1 : W.cell? ⟨u1.heap.size + 1, 1, none⟩ = some (.int .i64 y) := by rw [hcW _ _ L2]; exact d1
    have E0 : W.cell? ⟨u2.heap.size, 0, none⟩ = some (.int .i64 p) := by rw [hW]; go_simp
    have E1 : W.cell? ⟨u2.heap.size, 1, none⟩ = some (.int .i64 q) := by rw [hW]; go_simp
    have L3 : u2.heap.size < W.heap.size := by rw [hW]; simp
    have M1 : u1.heap.size < W.heap.size := by omega
    have M2 : u1.heap.size + 1 < W.heap.size := by omega
    have zW : Below w.heap.size w W := below_later z2 zb
    rw [← hW]
    clear hW zb hcW c0 c1 d0 d1 z2 L1 L2 n1 n2
    by_cases hoo : o1 = true ∧ o2 = true
    · obtain ⟨rfl, rfl⟩ := hoo
      have hpq := over_ok ho1 ho2
      have hi1 := over_in1 ho1 ho2
      have hi2 := over_in2 ho1 ho2
      have hl := fun c => over_least (c := c) ho1 ho2
      have hs1 := (over_symm a b x y).1.symm.trans P.out
      have hs2 := (over_symm a b x y).2.symm.trans Q.out
      have hz := over_self ho1
      rw [P.out, Q.out] at hpq hi1 hi2
      rw [Q.out] at hl
      have OO := hid_in hpq; have I1 := hid_in hi1; have I2 := hid_in hi2; have LE := hid_in hl; have S1 := hid_in hs1; have S2 := hid_in hs2; have Z := hid_in hz
      clear hpq hi1 hi2 hl hs1 hs2 hz ho1 ho2
      refine wp_region_lat (Below.refl _ _) (by kernel_rfl) (by kernel_rfl) ?_
      intro hne hcl
      repeat (go_big_quiet_step (first | (go_at_call 29; exact lat_of (overS a b x y _ p q P.out Q.out)) | (go_at_call_of 20 (Value.agg #[Value.int IntKind.i64 a, Value.int IntKind.i64 b]); exact lat_of (specOk a b _ _ O1.out)) | (go_at_call 20; exact lat_of (specOk x y _ _ O2.out))))
      refine wpQuiet_nil ?_
      intro w1 hb1
      obtain ⟨hc1, hf1⟩ := bcell hb1
      clear hne hcl
      go_wp2_with fail
      by_cases hq32 : q = 32
      · clear LE
        refine (halvesI_no p q _ (.inr hq32)).mono ?_
        rintro e w2 ⟨rfl, hq2⟩
        clear hq32
        have hb2 := below_later hb1 hq2
        obtain ⟨hc2, hf2⟩ := bcell hb2
        have a0' : w2.cell? ⟨u1.heap.size, 0, none⟩ = some (.int .i64 a) := by rw [hc2 _ _ M1]; exact C0
        have a1' : w2.cell? ⟨u1.heap.size, 1, none⟩ = some (.int .i64 b) := by rw [hc2 _ _ M1]; exact C1
        have b0' : w2.cell? ⟨u1.heap.size + 1, 0, none⟩ = some (.int .i64 x) := by rw [hc2 _ _ M2]; exact D0
        have b1' : w2.cell? ⟨u1.heap.size + 1, 1, none⟩ = some (.int .i64 y) := by rw [hc2 _ _ M2]; exact D1
        have k0 := hb2.size
        have k1 : u1.heap.size < w2.heap.size := by omega
        have k2 : u1.heap.size + 1 < w2.heap.size := by omega
        have k3 : u2.heap.size < w2.heap.size := by omega
        have k4 : ¬ u1.heap.size = w2.heap.size := by omega
        have k5 : ¬ u1.heap.size + 1 = w2.heap.size := by omega
        have k6 : ¬ u2.heap.size = w2.heap.size := by omega
        have k7 : ¬ u1.heap.size = w2.heap.size + 1 := by omega
        have k8 : ¬ u1.heap.size = w2.heap.size := by omega
        have k9 : ¬ u2.heap.size = w2.heap.size + 1 := by omega
        clear hc2 hf2 hq2 hc1 hf1
        go_wp2_with fail
        obtain ⟨V, hV⟩ : ∃ V, V = (w2.alloc (Obj.cells #[Value.int IntKind.i64 0, Value.int IntKind.i64 0] 24)).alloc (Obj.cells #[Value.int IntKind.i64 0, Value.int IntKind.i64 0] 24) := ⟨_, rfl⟩
        have zb : Below w2.heap.size w2 V := by rw [hV]; exact below_later (below_box _ _) (below_box _ _)
        have zb2 := below_later hb2 zb
        obtain ⟨hcV, _⟩ := bcell zb2
        have c0 : V.cell? ⟨u1.heap.size, 0, none⟩ = some (.int .i64 a) := by rw [hcV _ _ M1]; exact C0
        have c1 : V.cell? ⟨u1.heap.size, 1, none⟩ = some (.int .i64 b) := by rw [hcV _ _ M1]; exact C1
        have d0 : V.cell? ⟨u1.heap.size + 1, 0, none⟩ = some (.int .i64 x) := by rw [hcV _ _ M2]; exact D0
        have d1 : V.cell? ⟨u1.heap.size + 1, 1, none⟩ = some (.int .i64 y) := by rw [hcV _ _ M2]; exact D1
        have e0 : V.cell? ⟨u2.heap.size, 0, none⟩ = some (.int .i64 p) := by rw [hcV _ _ L3]; exact E0
        have e1 : V.cell? ⟨u2.heap.size, 1, none⟩ = some (.int .i64 q) := by rw [hcV _ _ L3]; exact E1
        have f0 : V.cell? ⟨w2.heap.size, 0, none⟩ = some (.int .i64 0) := by rw [hV]; go_simp
        have f1 : V.cell? ⟨w2.heap.size, 1, none⟩ = some (.int .i64 0) := by rw [hV]; go_simp
        have g0 : V.cell? ⟨w2.heap.size + 1, 0, none⟩ = some (.int .i64 0) := by rw [hV]; go_simp
        have g1 : V.cell? ⟨w2.heap.size + 1, 1, none⟩ = some (.int .i64 0) := by rw [hV]; go_simp
        have T5 : w2.heap.size + 1 < V.heap.size := by rw [hV]; simp
        have T4 : w2.heap.size < V.heap.size := by omega
        have T3 : u2.heap.size < V.heap.size := by have := zb2.size; omega
        have T2 : u1.heap.size + 1 < V.heap.size := by omega
        have T1 : u1.heap.size < V.heap.size := by omega
        have zV : Below w.heap.size w V := below_later zW zb2
        rw [← hV]
        clear hV zb zb2 hcV C0 C1 D0 D1 E0 E1 L3 M1 M2 zW hb1 hb2
        clear a0' a1' b0' b1' k0 k1 k2 k3 k4 k5 k6 k7 k8 k9
        refine wp_region_lat (Below.refl _ _) (by kernel_rfl) (by kernel_rfl) ?_
        intro hne hcl
        repeat (go_big_quiet_step (first | (go_at_call 33; exact lat_of (blockOkI p q _ _ OO.out)) | (go_at_call_of 24 (Value.agg #[Value.int IntKind.i64 a, Value.int IntKind.i64 b]); exact lat_of (inI p q a b _ _ I1.out)) | (go_at_call 24; exact lat_of (inI p q x y _ _ I2.out)) | (go_at_call_of 27 (Value.agg #[Value.int IntKind.i64 x, Value.int IntKind.i64 y]); exact lat_of (overI x y a b _ p q S1.out S2.out)) | (go_at_call 27; exact lat_of (overI a b a b _ a b Z.out.1 Z.out.2))))
        refine wpQuiet_nil ?_
        intro w1 hb1
        obtain ⟨hc1, hf1⟩ := bcell hb1
        clear hne hcl
        go_wp2_with fail
        go_ret
        exact ⟨rfl, below_later zV hb1⟩
      · obtain ⟨q1, r, HH, LL⟩ : ∃ q1 r : Int, (∀ w, Calls Try.prog 21 #[.agg #[.int .i64 p, .int .i64 q]] w fun e w' => e = .returned (.tuple #[.agg #[.int .i64 p, .int .i64 q1], .agg #[.int .i64 r, .int .i64 q1], .bool true]) ∧ Below w.heap.size w w') ∧ (∀ c, inBlk c q1 a b = true → inBlk c q1 x y = true → False) :=
          ⟨q + 1, p + pw (32 - (q + 1)), fun w => halvesI_yes p q w OO.out hq32, LE.out⟩
        obtain ⟨i1, hi1⟩ : ∃ v, inBlk p q1 a b = v := ⟨_, rfl⟩
        obtain ⟨i2, hi2⟩ : ∃ v, inBlk p q1 x y = v := ⟨_, rfl⟩
        obtain ⟨i3, hi3⟩ : ∃ v, inBlk r q1 a b = v := ⟨_, rfl⟩
        obtain ⟨i4, hi4⟩ : ∃ v, inBlk r q1 x y = v := ⟨_, rfl⟩
        have N1 : Hid (i1 = true → i2 = false) := by
          show _ → _
          intro h; cases i2
          · rfl
          · exact (LL p (hi1.trans h) hi2).elim
        have N2 : Hid (i3 = true → i4 = false) := by
          show _ → _
          intro h; cases i4
          · rfl
          · exact (LL r (hi3.trans h) hi4).elim
        have J1 := hid_in hi1; have J2 := hid_in hi2; have J3 := hid_in hi3; have J4 := hid_in hi4
        have H2 := hid_in HH
        clear HH LL LE hi1 hi2 hi3 hi4 hq32
        refine (H2.out _).mono ?_
        rintro e w2 ⟨rfl, hq2⟩
        clear H2
        have hb2 := below_later hb1 hq2
        obtain ⟨hc2, hf2⟩ := bcell hb2
        have a0' : w2.cell? ⟨u1.heap.size, 0, none⟩ = some (.int .i64 a) := by rw [hc2 _ _ M1]; exact C0
        have a1' : w2.cell? ⟨u1.heap.size, 1, none⟩ = some (.int .i64 b) := by rw [hc2 _ _ M1]; exact C1
        have b0' : w2.cell? ⟨u1.heap.size + 1, 0, none⟩ = some (.int .i64 x) := by rw [hc2 _ _ M2]; exact D0
        have b1' : w2.cell? ⟨u1.heap.size + 1, 1, none⟩ = some (.int .i64 y) := by rw [hc2 _ _ M2]; exact D1
        have k0 := hb2.size
        have k1 : u1.heap.size < w2.heap.size := by omega
        have k2 : u1.heap.size + 1 < w2.heap.size := by omega
        have k3 : u2.heap.size < w2.heap.size := by omega
        have k4 : ¬ u1.heap.size = w2.heap.size := by omega
        have k5 : ¬ u1.heap.size + 1 = w2.heap.size := by omega
        have k6 : ¬ u2.heap.size = w2.heap.size := by omega
        have k7 : ¬ u1.heap.size = w2.heap.size + 1 := by omega
        have k8 : ¬ u1.heap.size = w2.heap.size := by omega
        have k9 : ¬ u2.heap.size = w2.heap.size + 1 := by omega
        clear hc2 hf2 hq2 hc1 hf1
        go_wp2_with fail
        obtain ⟨V, hV⟩ : ∃ V, V = (w2.alloc (Obj.cells #[Value.int IntKind.i64 p, Value.int IntKind.i64 q1] 24)).alloc (Obj.cells #[Value.int IntKind.i64 r, Value.int IntKind.i64 q1] 24) := ⟨_, rfl⟩
        have zb : Below w2.heap.size w2 V := by rw [hV]; exact below_later (below_box _ _) (below_box _ _)
        have zb2 := below_later hb2 zb
        obtain ⟨hcV, _⟩ := bcell zb2
        have c0 : V.cell? ⟨u1.heap.size, 0, none⟩ = some (.int .i64 a) := by rw [hcV _ _ M1]; exact C0
        have c1 : V.cell? ⟨u1.heap.size, 1, none⟩ = some (.int .i64 b) := by rw [hcV _ _ M1]; exact C1
        have d0 : V.cell? ⟨u1.heap.size + 1, 0, none⟩ = some (.int .i64 x) := by rw [hcV _ _ M2]; exact D0
        have d1 : V.cell? ⟨u1.heap.size + 1, 1, none⟩ = some (.int .i64 y) := by rw [hcV _ _ M2]; exact D1
        have e0 : V.cell? ⟨u2.heap.size, 0, none⟩ = some (.int .i64 p) := by rw [hcV _ _ L3]; exact E0
        have e1 : V.cell? ⟨u2.heap.size, 1, none⟩ = some (.int .i64 q) := by rw [hcV _ _ L3]; exact E1
        have f0 : V.cell? ⟨w2.heap.size, 0, none⟩ = some (.int .i64 p) := by rw [hV]; go_simp
        have f1 : V.cell? ⟨w2.heap.size, 1, none⟩ = some (.int .i64 q1) := by rw [hV]; go_simp
        have g0 : V.cell? ⟨w2.heap.size + 1, 0, none⟩ = some (.int .i64 r) := by rw [hV]; go_simp
        have g1 : V.cell? ⟨w2.heap.size + 1, 1, none⟩ = some (.int .i64 q1) := by rw [hV]; go_simp
        have T5 : w2.heap.size + 1 < V.heap.size := by rw [hV]; simp
        have T4 : w2.heap.size < V.heap.size := by omega
        have T3 : u2.heap.size < V.heap.size := by have := zb2.size; omega
        have T2 : u1.heap.size + 1 < V.heap.size := by omega
        have T1 : u1.heap.size < V.heap.size := by omega
        have zV : Below w.heap.size w V := below_later zW zb2
        rw [← hV]
        clear hV zb zb2 hcV C0 C1 D0 D1 E0 E1 L3 M1 M2 zW hb1 hb2
        clear a0' a1' b0' b1' k0 k1 k2 k3 k4 k5 k6 k7 k8 k9
        cases i1
        · clear N1 J2
          refine (inI p q1 a b _ _ J1.out).mono ?_
          rintro e w1 ⟨rfl, hb1⟩
          obtain ⟨hc1, hf1⟩ := bcell hb1
          go_wp2_with fail
          cases i3
          · clear N2 J4
            refine (inI r q1 a b _ _ J3.out).mono ?_
            rintro e w2 ⟨rfl, hq2⟩
            have hb2 := below_later hb1 hq2
            clear hq2 hc1 hf1
            obtain ⟨hc2, hf2⟩ := bcell hb2
            go_wp2_with fail
            clear hc2 hf2
            refine wp_region_lat hb2 (by kernel_rfl) (by kernel_rfl) ?_
            intro hne hcl
            repeat (go_big_quiet_step (first | (go_at_call 33; exact lat_of (blockOkI p q _ _ OO.out)) | (go_at_call_of 24 (Value.agg #[Value.int IntKind.i64 a, Value.int IntKind.i64 b]); exact lat_of (inI p q a b _ _ I1.out)) | (go_at_call 24; exact lat_of (inI p q x y _ _ I2.out)) | (go_at_call_of 27 (Value.agg #[Value.int IntKind.i64 x, Value.int IntKind.i64 y]); exact lat_of (overI x y a b _ p q S1.out S2.out)) | (go_at_call 27; exact lat_of (overI a b a b _ a b Z.out.1 Z.out.2))))
            refine wpQuiet_nil ?_
            intro w3 hb3
            obtain ⟨hc3, hf3⟩ := bcell hb3
            clear hne hcl
            go_wp2_with fail
            go_ret
            exact ⟨rfl, below_later zV hb3⟩
          · obtain rfl : i4 = false := N2.out rfl
            clear N2
            refine (inI r q1 a b _ _ J3.out).mono ?_
            rintro e w2 ⟨rfl, hq2⟩
            have hb2 := below_later hb1 hq2
            clear hq2 hc1 hf1
            obtain ⟨hc2, hf2⟩ := bcell hb2
            go_wp2_with fail
            refine (inI r q1 x y _ _ J4.out).mono ?_
            rintro e w3 ⟨rfl, hq3⟩
            have hb3 := below_later hb2 hq3
            clear hq3 hc2 hf2
            obtain ⟨hc3, hf3⟩ := bcell hb3
            go_wp2_with fail
            clear hc3 hf3
            refine wp_region_lat hb3 (by kernel_rfl) (by kernel_rfl) ?_
            intro hne hcl
            repeat (go_big_quiet_step (first | (go_at_call 33; exact lat_of (blockOkI p q _ _ OO.out)) | (go_at_call_of 24 (Value.agg #[Value.int IntKind.i64 a, Value.int IntKind.i64 b]); exact lat_of (inI p q a b _ _ I1.out)) | (go_at_call 24; exact lat_of (inI p q x y _ _ I2.out)) | (go_at_call_of 27 (Value.agg #[Value.int IntKind.i64 x, Value.int IntKind.i64 y]); exact lat_of (overI x y a b _ p q S1.out S2.out)) | (go_at_call 27; exact lat_of (overI a b a b _ a b Z.out.1 Z.out.2))))
            refine wpQuiet_nil ?_
            intro w4 hb4
            obtain ⟨hc4, hf4⟩ := bcell hb4
            clear hne hcl
            go_wp2_with fail
            go_ret
            exact ⟨rfl, below_later zV hb4⟩
        · obtain rfl : i2 = false := N1.out rfl
          clear N1
          refine (inI p q1 a b _ _ J1.out).mono ?_
          rintro e w1 ⟨rfl, hb1⟩
          obtain ⟨hc1, hf1⟩ := bcell hb1
          go_wp2_with fail
          refine (inI p q1 x y _ _ J2.out).mono ?_
          rintro e w2 ⟨rfl, hq2⟩
          have hb2 := below_later hb1 hq2
          clear hq2 hc1 hf1
          obtain ⟨hc2, hf2⟩ := bcell hb2
          go_wp2_with fail
          cases i3
          · clear N2 J4
            refine (inI r q1 a b _ _ J3.out).mono ?_
            rintro e w3 ⟨rfl, hq3⟩
            have hb3 := below_later hb2 hq3
            clear hq3 hc2 hf2
            obtain ⟨hc3, hf3⟩ := bcell hb3
            go_wp2_with fail
            clear hc3 hf3
            refine wp_region_lat hb3 (by kernel_rfl) (by kernel_rfl) ?_
            intro hne hcl
            repeat (go_big_quiet_step (first | (go_at_call 33; exact lat_of (blockOkI p q _ _ OO.out)) | (go_at_call_of 24 (Value.agg #[Value.int IntKind.i64 a, Value.int IntKind.i64 b]); exact lat_of (inI p q a b _ _ I1.out)) | (go_at_call 24; exact lat_of (inI p q x y _ _ I2.out)) | (go_at_call_of 27 (Value.agg #[Value.int IntKind.i64 x, Value.int IntKind.i64 y]); exact lat_of (overI x y a b _ p q S1.out S2.out)) | (go_at_call 27; exact lat_of (overI a b a b _ a b Z.out.1 Z.out.2))))
            refine wpQuiet_nil ?_
            intro w4 hb4
            obtain ⟨hc4, hf4⟩ := bcell hb4
            clear hne hcl
            go_wp2_with fail
            go_ret
            exact ⟨rfl, below_later zV hb4⟩
          · obtain rfl : i4 = false := N2.out rfl
            clear N2
            refine (inI r q1 a b _ _ J3.out).mono ?_
            rintro e w3 ⟨rfl, hq3⟩
            have hb3 := below_later hb2 hq3
            clear hq3 hc2 hf2
            obtain ⟨hc3, hf3⟩ := bcell hb3
            go_wp2_with fail
            refine (inI r q1 x y _ _ J4.out).mono ?_
            rintro e w4 ⟨rfl, hq4⟩
            have hb4 := below_later hb3 hq4
            clear hq4 hc3 hf3
            obtain ⟨hc4, hf4⟩ := bcell hb4
            go_wp2_with fail
            clear hc4 hf4
            refine wp_region_lat hb4 (by kernel_rfl) (by kernel_rfl) ?_
            intro hne hcl
            repeat (go_big_quiet_step (first | (go_at_call 33; exact lat_of (blockOkI p q _ _ OO.out)) | (go_at_call_of 24 (Value.agg #[Value.int IntKind.i64 a, Value.int IntKind.i64 b]); exact lat_of (inI p q a b _ _ I1.out)) | (go_at_call 24; exact lat_of (inI p q x y _ _ I2.out)) | (go_at_call_of 27 (Value.agg #[Value.int IntKind.i64 x, Value.int IntKind.i64 y]); exact lat_of (overI x y a b _ p q S1.out S2.out)) | (go_at_call 27; exact lat_of (overI a b a b _ a b Z.out.1 Z.out.2))))
            refine wpQuiet_nil ?_
            intro w5 hb5
            obtain ⟨hc5, hf5⟩ := bcell hb5
            clear hne hcl
            go_wp2_with fail
            go_ret
            exact ⟨rfl, below_later zV hb5⟩
    · clear ho1 ho2
      cases o1
      · clear hoo O2
        refine wp_region_lat (Below.refl _ _) (by kernel_rfl) (by kernel_rfl) ?_
        intro hne hcl
        repeat (go_big_quiet_step (first | (go_at_call 29; exact lat_of (overS a b x y _ p q P.out Q.out)) | (go_at_call 20; exact lat_of (specOk a b _ _ O1.out))))
        refine wpQuiet_nil ?_
        intro w1 hb1
        obtain ⟨hc1, hf1⟩ := bcell hb1
        clear hne hcl
        go_wp2_with fail
        clear hc1 hf1
        refine wp_region_lat hb1 (by kernel_rfl) (by kernel_rfl) ?_
        intro hne hcl
        repeat (go_big_quiet_step (first | (go_at_call 29; exact lat_of (overS a b x y _ p q P.out Q.out))))
        refine wpQuiet_nil ?_
        intro w2 hb2
        obtain ⟨hc2, hf2⟩ := bcell hb2
        clear hne hcl
        go_wp2_with fail
        go_ret
        exact ⟨rfl, below_later zW hb2⟩
      · cases o2
        · clear hoo
          refine wp_region_lat (Below.refl _ _) (by kernel_rfl) (by kernel_rfl) ?_
          intro hne hcl
          repeat (go_big_quiet_step (first | (go_at_call 29; exact lat_of (overS a b x y _ p q P.out Q.out)) | (go_at_call_of 20 (Value.agg #[Value.int IntKind.i64 a, Value.int IntKind.i64 b]); exact lat_of (specOk a b _ _ O1.out)) | (go_at_call 20; exact lat_of (specOk x y _ _ O2.out))))
          refine wpQuiet_nil ?_
          intro w1 hb1
          obtain ⟨hc1, hf1⟩ := bcell hb1
          clear hne hcl
          go_wp2_with fail
          clear hc1 hf1
          refine wp_region_lat hb1 (by kernel_rfl) (by kernel_rfl) ?_
          intro hne hcl
          repeat (go_big_quiet_step (first | (go_at_call 29; exact lat_of (overS a b x y _ p q P.out Q.out))))
          refine wpQuiet_nil ?_
          intro w2 hb2
          obtain ⟨hc2, hf2⟩ := bcell hb2
          clear hne hcl
          go_wp2_with fail
          go_ret
          exact ⟨rfl, below_later zW hb2⟩
        · exact absurd ⟨rfl, rfl⟩ hoo
end Go.Proofs.Ytbcehchjinlacaa
