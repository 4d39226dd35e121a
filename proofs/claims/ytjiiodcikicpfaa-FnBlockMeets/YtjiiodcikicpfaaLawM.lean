/- What each function of blocks answers, in the program and in the specification, as contracts: the answer, and that nothing which was there has turned. The conditions stand at each theorem. -/
import Derived.Test.YtjiiodcikicpfaaDrwF
import Derived.Test.YtjiiodcikicpfaaBlkF
import Derived.Test.YtjiiodcikicpfaaMathM
import Derived.Test.YtjiiodcikicpfaaBlkH
import Derived.Test.YtjiiodcikicpfaaRegN
import Derived.Test.YtjiiodcikicpfaaMath
import Derived.WalkKit
import Derived.WalkSpells
import Derived.WalkLawsBesides
import Derived.BigQuiet
import Derived.Deep.RegionWith
namespace Go.Proofs.Ytjiiodcikicpfaa
open Go.RowKit Go.LatT Go.BlockM Go.RegN
set_option linter.unusedVariables false
set_option linter.unusedSimpArgs false
set_option maxHeartbeats 16000000 in
set_option maxRecDepth 100000 in
theorem walk_FnBlockMeets (a0 : Option Addr) (len0 cap0 : Nat) (z0 : List Int) (w : World) (hrow : RowC w a0 len0 cap0 z0) :
    Calls Try.prog 4 #[.slice a0 len0 cap0] w fun e w' => e = .returned (.bool true) ∧ Below w.heap.size w w' := by
  by_cases hlen : (1048576 : Int) < (len0 : Int)
  · clear hrow
    go_enter Try.func4, Try.ntmps4
    go_wp2_with fail
    go_ret
    exact ⟨rfl, Below.refl _ _⟩
  · have HR := hid_in hrow
    clear hrow
    go_enter Try.func4, Try.ntmps4
    go_wp2_with fail
    refine (drawBlockMeets a0 len0 cap0 z0 _ HR.out (by omega)).mono ?_
    rintro e u1 ⟨a, b, x, y, rfl, x0, x1, y0, y1, x0', x1', y0', y1', hu1⟩
    clear HR
    go_wp2_with fail
    obtain ⟨m, hm⟩ : ∃ v, meetB a b x y = v := ⟨_, rfl⟩
    have MM := hid_in hm
    refine (meetsI a b x y _ m hm).mono ?_
    rintro e t1 ⟨rfl, ht1⟩
    obtain ⟨hct, hft⟩ := bcell ht1
    have p0 : t1.cell? ⟨u1.heap.size, 0, none⟩ = some (.int .i64 a) := by rw [hct _ _ (by simp <;> omega)]; try go_simp
    have p1 : t1.cell? ⟨u1.heap.size, 1, none⟩ = some (.int .i64 b) := by rw [hct _ _ (by simp <;> omega)]; try go_simp
    have p2 : t1.cell? ⟨u1.heap.size + 1, 0, none⟩ = some (.int .i64 x) := by rw [hct _ _ (by simp <;> omega)]; try go_simp
    have p3 : t1.cell? ⟨u1.heap.size + 1, 1, none⟩ = some (.int .i64 y) := by rw [hct _ _ (by simp <;> omega)]; try go_simp
    have l2 : u1.heap.size + 1 < t1.heap.size := by have := ht1.size; simp at this; omega
    have l1 : u1.heap.size < t1.heap.size := by omega
    have zt : Below w.heap.size w t1 := below_later hu1 (below_under (below_under ht1))
    clear hct hft ht1 hu1 hlen hm
    go_wp2_with fail
    obtain ⟨p, hp⟩ : ∃ v, ovBase a b x y = v := ⟨_, rfl⟩
    obtain ⟨q, hq⟩ : ∃ v, ovLen a b x y = v := ⟨_, rfl⟩
    have P := hid_in hp; have Q := hid_in hq
    refine (overI a b x y _ p q hp hq).mono ?_
    rintro e u2 ⟨rfl, hb2⟩
    obtain ⟨hc2, hf2⟩ := bcell hb2
    have c0 : u2.cell? ⟨u1.heap.size, 0, none⟩ = some (.int .i64 a) := by rw [hc2 _ _ (by omega)]; exact p0
    have c1 : u2.cell? ⟨u1.heap.size, 1, none⟩ = some (.int .i64 b) := by rw [hc2 _ _ (by omega)]; exact p1
    have d0 : u2.cell? ⟨u1.heap.size + 1, 0, none⟩ = some (.int .i64 x) := by rw [hc2 _ _ (by omega)]; exact p2
    have d1 : u2.cell? ⟨u1.heap.size + 1, 1, none⟩ = some (.int .i64 y) := by rw [hc2 _ _ (by omega)]; exact p3
    have L2 : u1.heap.size + 1 < u2.heap.size := by have := hb2.size; omega
    have L1 : u1.heap.size < u2.heap.size := by omega
    have z2 : Below w.heap.size w u2 := below_later zt hb2
    clear hc2 hf2 hb2 zt p0 p1 p2 p3 l1 l2 hp hq
    have n1 : ¬ u1.heap.size = u2.heap.size := by omega
    have n2 : ¬ u1.heap.size + 1 = u2.heap.size := by omega
    obtain ⟨o1, ho1⟩ : ∃ o, okB a b = o := ⟨_, rfl⟩
    obtain ⟨o2, ho2⟩ : ∃ o, okB x y = o := ⟨_, rfl⟩
    have O1 := hid_in ho1; have O2 := hid_in ho2
    go_wp2_with fail
    obtain ⟨W, hW⟩ : ∃ W, W = u2.alloc (Obj.cells #[Value.int IntKind.i64 p, Value.int IntKind.i64 q] 24) := ⟨_, rfl⟩
    have zb : Below u2.heap.size u2 W := by rw [hW]; exact below_box _ _
    obtain ⟨hcW, _⟩ := bcell zb
    have C0 : W.cell? ⟨u1.heap.size, 0, none⟩ = some (.int .i64 a) := by rw [hcW _ _ L1]; exact c0
    have C1 : W.cell? ⟨u1.heap.size, 1, none⟩ = some (.int .i64 b) := by rw [hcW _ _ L1]; exact c1
    have D0 : W.cell? ⟨u1.heap.size + 1, 0, none⟩ = some (.int .i64 x) := by rw [hcW _ _ L2]; exact d0
    have D1 : W.cell? ⟨u1.heap.size + 1, 1, none⟩ = some (.int .i64 y) := by rw [hcW _ _ L2]; exact d1
    have E0 : W.cell? ⟨u2.heap.size, 0, none⟩ = some (.int .i64 p) := by rw [hW]; go_simp
    have E1 : W.cell? ⟨u2.heap.size, 1, none⟩ = some (.int .i64 q) := by rw [hW]; go_simp
    have L3 : u2.heap.size < W.heap.size := by rw [hW]; simp
    have M1 : u1.heap.size < W.heap.size := by omega
    have M2 : u1.heap.size + 1 < W.heap.size := by omega
    have zW : Below w.heap.size w W := below_later z2 zb
    rw [← hW]
    clear hW zb hcW c0 c1 d0 d1 z2 L1 L2 n1 n2
    have hs1 := (over_symm a b x y).1.symm.trans P.out
    have hs2 := (over_symm a b x y).2.symm.trans Q.out
    have S1 := hid_in hs1; have S2 := hid_in hs2
    have MS := hid_in ((meet_symm x y a b).trans MM.out)
    by_cases hoo : o1 = true ∧ o2 = true
    · obtain ⟨rfl, rfl⟩ := hoo
      have hpq := over_ok ho1 ho2
      have hi1 := over_in1 ho1 ho2
      have hi2 := over_in2 ho1 ho2
      have hl := fun c => over_least (c := c) ho1 ho2
      have hkk : (inBlk a b x y = true ∧ m = true ∧ a = p ∧ b = q) ∨ (inBlk a b x y = false ∧ inBlk x y a b = true ∧ m = true ∧ x = p ∧ y = q) ∨ (inBlk a b x y = false ∧ inBlk x y a b = false ∧ m = false ∧ ¬ (p = a ∧ q = b) ∧ ¬ (p = x ∧ q = y)) := by
        have hm := meet_in ho1 ho2
        have ho := meet_over ho1 ho2
        rw [MM.out] at hm ho
        rw [P.out, Q.out] at ho
        cases h1 : inBlk a b x y
        · cases h2 : inBlk x y a b
          · rw [h1, h2] at hm
            have hm' : m = false := hm
            rw [hm'] at ho
            exact .inr (.inr ⟨rfl, rfl, hm', fun h => by simpa using ho.2 (.inl h), fun h => by simpa using ho.2 (.inr h)⟩)
          · rw [h1, h2] at hm
            have e := over_of_in h2
            rw [hs1, hs2] at e
            exact .inr (.inl ⟨rfl, rfl, hm, e.1.symm, e.2.symm⟩)
        · rw [h1] at hm
          have e := over_of_in h1
          rw [P.out, Q.out] at e
          exact .inl ⟨rfl, by simpa using hm, e.1.symm, e.2.symm⟩
      rw [P.out, Q.out] at hpq hi1 hi2
      rw [Q.out] at hl
      have OO := hid_in hpq; have I1 := hid_in hi1; have I2 := hid_in hi2; have LE := hid_in hl; have KK := hid_in hkk
      clear hpq hi1 hi2 hl hs1 hs2 hkk ho1 ho2
      refine wp_region_lat (Below.refl _ _) (by kernel_rfl) (by kernel_rfl) ?_
      intro hne hcl
      repeat (go_big_quiet_step (first | (go_at_call 19; exact lat_of (meetsS a b x y _ m MM.out)) | (go_at_call 16; exact lat_of (meetsI x y a b _ m MS.out)) | (go_at_call 20; exact lat_of (overS a b x y _ p q P.out Q.out)) | (go_at_call 18; exact lat_of (overI x y a b _ p q S1.out S2.out)) | (go_at_call_of 14 (Value.agg #[Value.int IntKind.i64 a, Value.int IntKind.i64 b]); exact lat_of (specOk a b _ _ O1.out)) | (go_at_call 14; exact lat_of (specOk x y _ _ O2.out))))
      refine wpQuiet_nil ?_
      intro w1 hb1
      obtain ⟨hc1, hf1⟩ := bcell hb1
      clear hne hcl
      go_wp2_with fail
      clear MM MS P Q S1 S2
      by_cases hq32 : q = 32
      · clear LE
        refine (halvesI_no p q _ (.inr hq32)).mono ?_
        rintro e w2 ⟨rfl, hq2⟩
        clear hq32
        have hb2 := below_later hb1 hq2
        have k0 := hb2.size
        have k4 : ¬ u1.heap.size = w2.heap.size := by omega
        have k5 : ¬ u1.heap.size + 1 = w2.heap.size := by omega
        have k6 : ¬ u2.heap.size = w2.heap.size := by omega
        have a0' : w2.cell? ⟨u1.heap.size, 0, none⟩ = some (.int .i64 a) := by rw [(bcell hb2).1 _ _ M1]; exact C0
        have a1' : w2.cell? ⟨u1.heap.size, 1, none⟩ = some (.int .i64 b) := by rw [(bcell hb2).1 _ _ M1]; exact C1
        have b0' : w2.cell? ⟨u1.heap.size + 1, 0, none⟩ = some (.int .i64 x) := by rw [(bcell hb2).1 _ _ M2]; exact D0
        have b1' : w2.cell? ⟨u1.heap.size + 1, 1, none⟩ = some (.int .i64 y) := by rw [(bcell hb2).1 _ _ M2]; exact D1
        have k1 : u1.heap.size < w2.heap.size := by omega
        have k2 : u1.heap.size + 1 < w2.heap.size := by omega
        have k3 : u2.heap.size < w2.heap.size := by omega
        have k7 : ¬ u1.heap.size = w2.heap.size + 1 := by omega
        have k9 : ¬ u2.heap.size = w2.heap.size + 1 := by omega
        clear hq2 hc1 hf1
        go_wp2_with fail
        obtain ⟨V, hV⟩ : ∃ V, V = (w2.alloc (Obj.cells #[Value.int IntKind.i64 0, Value.int IntKind.i64 0] 24)).alloc (Obj.cells #[Value.int IntKind.i64 0, Value.int IntKind.i64 0] 24) := ⟨_, rfl⟩
        have zb : Below w2.heap.size w2 V := by rw [hV]; exact below_later (below_box _ _) (below_box _ _)
        have zb2 := below_later hb2 zb
        obtain ⟨hcV, _⟩ := bcell zb2
        have c0 : V.cell? ⟨u1.heap.size, 0, none⟩ = some (.int .i64 a) := by rw [hcV _ _ M1]; exact C0
        have c1 : V.cell? ⟨u1.heap.size, 1, none⟩ = some (.int .i64 b) := by rw [hcV _ _ M1]; exact C1
        have d0 : V.cell? ⟨u1.heap.size + 1, 0, none⟩ = some (.int .i64 x) := by rw [hcV _ _ M2]; exact D0
        have d1 : V.cell? ⟨u1.heap.size + 1, 1, none⟩ = some (.int .i64 y) := by rw [hcV _ _ M2]; exact D1
        have e0 : V.cell? ⟨u2.heap.size, 0, none⟩ = some (.int .i64 p) := by rw [hcV _ _ L3]; exact E0
        have e1 : V.cell? ⟨u2.heap.size, 1, none⟩ = some (.int .i64 q) := by rw [hcV _ _ L3]; exact E1
        have f0 : V.cell? ⟨w2.heap.size, 0, none⟩ = some (.int .i64 0) := by rw [hV]; go_simp
        have f1 : V.cell? ⟨w2.heap.size, 1, none⟩ = some (.int .i64 0) := by rw [hV]; go_simp
        have g0 : V.cell? ⟨w2.heap.size + 1, 0, none⟩ = some (.int .i64 0) := by rw [hV]; go_simp
        have g1 : V.cell? ⟨w2.heap.size + 1, 1, none⟩ = some (.int .i64 0) := by rw [hV]; go_simp
        have T5 : w2.heap.size + 1 < V.heap.size := by rw [hV]; simp
        have T4 : w2.heap.size < V.heap.size := by omega
        have T3 : u2.heap.size < V.heap.size := by have := zb2.size; omega
        have T2 : u1.heap.size + 1 < V.heap.size := by omega
        have T1 : u1.heap.size < V.heap.size := by omega
        have zV : Below w.heap.size w V := below_later zW zb2
        rw [← hV]
        clear hV zb zb2 hcV C0 C1 D0 D1 E0 E1 L3 M1 M2 zW hb1 hb2 k0 k4 k5 k6 k1 k2 k3 k7 k9 a0' a1' b0' b1'
        rcases KK.out with ⟨j1, em, ep, eq⟩ | ⟨j1, j2, em, ep, eq⟩ | ⟨j1, j2, em, n1, n2⟩
        · have J1 := hid_in j1
          clear j1 KK
          subst em ep eq
          refine (inI a b x y _ true J1.out).mono ?_
          rintro e w1 ⟨rfl, hb1⟩
          obtain ⟨hc1, hf1⟩ := bcell hb1
          go_wp2_with fail
          refine (inI a b a b _ _ I1.out).mono ?_
          rintro e w2 ⟨rfl, hq2⟩
          have hb2 := below_later hb1 hq2
          clear hq2 hc1 hf1
          obtain ⟨hc2, hf2⟩ := bcell hb2
          go_wp2_with fail
          refine (inI a b x y _ _ I2.out).mono ?_
          rintro e w3 ⟨rfl, hq3⟩
          have hb3 := below_later hb2 hq3
          clear hq3 hc2 hf2
          obtain ⟨hc3, hf3⟩ := bcell hb3
          go_wp2_with fail
          all_goals
            go_ret
            exact ⟨rfl, below_later zV hb3⟩
        · have J1 := hid_in j1; have J2 := hid_in j2
          clear j1 j2 KK
          subst em ep eq
          refine (inI a b x y _ false J1.out).mono ?_
          rintro e w1 ⟨rfl, hb1⟩
          obtain ⟨hc1, hf1⟩ := bcell hb1
          go_wp2_with fail
          refine (inI x y a b _ true J2.out).mono ?_
          rintro e w2 ⟨rfl, hq2⟩
          have hb2 := below_later hb1 hq2
          clear hq2 hc1 hf1
          obtain ⟨hc2, hf2⟩ := bcell hb2
          go_wp2_with fail
          refine (inI x y a b _ _ I1.out).mono ?_
          rintro e w3 ⟨rfl, hq3⟩
          have hb3 := below_later hb2 hq3
          clear hq3 hc2 hf2
          obtain ⟨hc3, hf3⟩ := bcell hb3
          go_wp2_with fail
          refine (inI x y x y _ _ I2.out).mono ?_
          rintro e w4 ⟨rfl, hq4⟩
          have hb4 := below_later hb3 hq4
          clear hq4 hc3 hf3
          obtain ⟨hc4, hf4⟩ := bcell hb4
          go_wp2_with fail
          all_goals
            go_ret
            exact ⟨rfl, below_later zV hb4⟩
        · have J1 := hid_in j1; have J2 := hid_in j2
          clear j1 j2 KK
          subst em
          refine (inI a b x y _ false J1.out).mono ?_
          rintro e w1 ⟨rfl, hb1⟩
          obtain ⟨hc1, hf1⟩ := bcell hb1
          go_wp2_with fail
          refine (inI x y a b _ false J2.out).mono ?_
          rintro e w2 ⟨rfl, hq2⟩
          have hb2 := below_later hb1 hq2
          clear hq2 hc1 hf1
          obtain ⟨hc2, hf2⟩ := bcell hb2
          go_wp2_with fail
          refine (inI p q a b _ _ I1.out).mono ?_
          rintro e w3 ⟨rfl, hq3⟩
          have hb3 := below_later hb2 hq3
          clear hq3 hc2 hf2
          obtain ⟨hc3, hf3⟩ := bcell hb3
          go_wp2_with fail
          refine (inI p q x y _ _ I2.out).mono ?_
          rintro e w4 ⟨rfl, hq4⟩
          have hb4 := below_later hb3 hq4
          clear hq4 hc3 hf3
          obtain ⟨hc4, hf4⟩ := bcell hb4
          go_wp2_with fail
          all_goals
            go_ret
            exact ⟨rfl, below_later zV hb4⟩
      · obtain ⟨q1, r, HH, LL⟩ : ∃ q1 r : Int, (∀ w, Calls Try.prog 15 #[.agg #[.int .i64 p, .int .i64 q]] w fun e w' => e = .returned (.tuple #[.agg #[.int .i64 p, .int .i64 q1], .agg #[.int .i64 r, .int .i64 q1], .bool true]) ∧ Below w.heap.size w w') ∧ (∀ c, inBlk c q1 a b = true → inBlk c q1 x y = true → False) :=
          ⟨q + 1, p + pw (32 - (q + 1)), fun w => halvesI_yes p q w OO.out hq32, LE.out⟩
        obtain ⟨i1, hi1⟩ : ∃ v, inBlk p q1 a b = v := ⟨_, rfl⟩
        obtain ⟨i2, hi2⟩ : ∃ v, inBlk p q1 x y = v := ⟨_, rfl⟩
        obtain ⟨i3, hi3⟩ : ∃ v, inBlk r q1 a b = v := ⟨_, rfl⟩
        obtain ⟨i4, hi4⟩ : ∃ v, inBlk r q1 x y = v := ⟨_, rfl⟩
        have N1 : i1 = true → i2 = false := by
          intro h; cases i2
          · rfl
          · exact (LL p (hi1.trans h) hi2).elim
        have N2 : i3 = true → i4 = false := by
          intro h; cases i4
          · rfl
          · exact (LL r (hi3.trans h) hi4).elim
        have NN1 := hid_in N1; have NN2 := hid_in N2
        have G1 := hid_in hi1; have G2 := hid_in hi2; have G3 := hid_in hi3; have G4 := hid_in hi4
        have H2 := hid_in HH
        clear HH LL LE hi1 hi2 hi3 hi4 hq32 N1 N2
        refine (H2.out _).mono ?_
        rintro e w2 ⟨rfl, hq2⟩
        clear H2
        have hb2 := below_later hb1 hq2
        have k0 := hb2.size
        have k4 : ¬ u1.heap.size = w2.heap.size := by omega
        have k5 : ¬ u1.heap.size + 1 = w2.heap.size := by omega
        have k6 : ¬ u2.heap.size = w2.heap.size := by omega
        have a0' : w2.cell? ⟨u1.heap.size, 0, none⟩ = some (.int .i64 a) := by rw [(bcell hb2).1 _ _ M1]; exact C0
        have a1' : w2.cell? ⟨u1.heap.size, 1, none⟩ = some (.int .i64 b) := by rw [(bcell hb2).1 _ _ M1]; exact C1
        have b0' : w2.cell? ⟨u1.heap.size + 1, 0, none⟩ = some (.int .i64 x) := by rw [(bcell hb2).1 _ _ M2]; exact D0
        have b1' : w2.cell? ⟨u1.heap.size + 1, 1, none⟩ = some (.int .i64 y) := by rw [(bcell hb2).1 _ _ M2]; exact D1
        have k1 : u1.heap.size < w2.heap.size := by omega
        have k2 : u1.heap.size + 1 < w2.heap.size := by omega
        have k3 : u2.heap.size < w2.heap.size := by omega
        have k7 : ¬ u1.heap.size = w2.heap.size + 1 := by omega
        have k9 : ¬ u2.heap.size = w2.heap.size + 1 := by omega
        clear hq2 hc1 hf1
        go_wp2_with fail
        obtain ⟨V, hV⟩ : ∃ V, V = (w2.alloc (Obj.cells #[Value.int IntKind.i64 p, Value.int IntKind.i64 q1] 24)).alloc (Obj.cells #[Value.int IntKind.i64 r, Value.int IntKind.i64 q1] 24) := ⟨_, rfl⟩
        have zb : Below w2.heap.size w2 V := by rw [hV]; exact below_later (below_box _ _) (below_box _ _)
        have zb2 := below_later hb2 zb
        obtain ⟨hcV, _⟩ := bcell zb2
        have c0 : V.cell? ⟨u1.heap.size, 0, none⟩ = some (.int .i64 a) := by rw [hcV _ _ M1]; exact C0
        have c1 : V.cell? ⟨u1.heap.size, 1, none⟩ = some (.int .i64 b) := by rw [hcV _ _ M1]; exact C1
        have d0 : V.cell? ⟨u1.heap.size + 1, 0, none⟩ = some (.int .i64 x) := by rw [hcV _ _ M2]; exact D0
        have d1 : V.cell? ⟨u1.heap.size + 1, 1, none⟩ = some (.int .i64 y) := by rw [hcV _ _ M2]; exact D1
        have e0 : V.cell? ⟨u2.heap.size, 0, none⟩ = some (.int .i64 p) := by rw [hcV _ _ L3]; exact E0
        have e1 : V.cell? ⟨u2.heap.size, 1, none⟩ = some (.int .i64 q) := by rw [hcV _ _ L3]; exact E1
        have f0 : V.cell? ⟨w2.heap.size, 0, none⟩ = some (.int .i64 p) := by rw [hV]; go_simp
        have f1 : V.cell? ⟨w2.heap.size, 1, none⟩ = some (.int .i64 q1) := by rw [hV]; go_simp
        have g0 : V.cell? ⟨w2.heap.size + 1, 0, none⟩ = some (.int .i64 r) := by rw [hV]; go_simp
        have g1 : V.cell? ⟨w2.heap.size + 1, 1, none⟩ = some (.int .i64 q1) := by rw [hV]; go_simp
        have T5 : w2.heap.size + 1 < V.heap.size := by rw [hV]; simp
        have T4 : w2.heap.size < V.heap.size := by omega
        have T3 : u2.heap.size < V.heap.size := by have := zb2.size; omega
        have T2 : u1.heap.size + 1 < V.heap.size := by omega
        have T1 : u1.heap.size < V.heap.size := by omega
        have zV : Below w.heap.size w V := below_later zW zb2
        rw [← hV]
        clear hV zb zb2 hcV C0 C1 D0 D1 E0 E1 L3 M1 M2 zW hb1 hb2 k0 k4 k5 k6 k1 k2 k3 k7 k9 a0' a1' b0' b1'
        cases i1
        · cases i3
          · clear NN1 NN2
            refine (inI p q1 a b _ false G1.out).mono ?_
            rintro e w1 ⟨rfl, hb1⟩
            obtain ⟨hc1, hf1⟩ := bcell hb1
            go_wp2_with fail
            refine (inI r q1 a b _ false G3.out).mono ?_
            rintro e w2 ⟨rfl, hq2⟩
            have hb2 := below_later hb1 hq2
            clear hq2 hc1 hf1
            obtain ⟨hc2, hf2⟩ := bcell hb2
            go_wp2_with fail
            rcases KK.out with ⟨j1, em, ep, eq⟩ | ⟨j1, j2, em, ep, eq⟩ | ⟨j1, j2, em, n1, n2⟩
            · have J1 := hid_in j1
              clear j1 KK
              subst em ep eq
              refine (inI a b x y _ true J1.out).mono ?_
              rintro e w3 ⟨rfl, hq3⟩
              have hb3 := below_later hb2 hq3
              clear hq3 hc2 hf2
              obtain ⟨hc3, hf3⟩ := bcell hb3
              go_wp2_with fail
              refine (inI a b a b _ _ I1.out).mono ?_
              rintro e w4 ⟨rfl, hq4⟩
              have hb4 := below_later hb3 hq4
              clear hq4 hc3 hf3
              obtain ⟨hc4, hf4⟩ := bcell hb4
              go_wp2_with fail
              refine (inI a b x y _ _ I2.out).mono ?_
              rintro e w5 ⟨rfl, hq5⟩
              have hb5 := below_later hb4 hq5
              clear hq5 hc4 hf4
              obtain ⟨hc5, hf5⟩ := bcell hb5
              go_wp2_with fail
              all_goals
                go_ret
                exact ⟨rfl, below_later zV hb5⟩
            · have J1 := hid_in j1; have J2 := hid_in j2
              clear j1 j2 KK
              subst em ep eq
              refine (inI a b x y _ false J1.out).mono ?_
              rintro e w3 ⟨rfl, hq3⟩
              have hb3 := below_later hb2 hq3
              clear hq3 hc2 hf2
              obtain ⟨hc3, hf3⟩ := bcell hb3
              go_wp2_with fail
              refine (inI x y a b _ true J2.out).mono ?_
              rintro e w4 ⟨rfl, hq4⟩
              have hb4 := below_later hb3 hq4
              clear hq4 hc3 hf3
              obtain ⟨hc4, hf4⟩ := bcell hb4
              go_wp2_with fail
              refine (inI x y a b _ _ I1.out).mono ?_
              rintro e w5 ⟨rfl, hq5⟩
              have hb5 := below_later hb4 hq5
              clear hq5 hc4 hf4
              obtain ⟨hc5, hf5⟩ := bcell hb5
              go_wp2_with fail
              refine (inI x y x y _ _ I2.out).mono ?_
              rintro e w6 ⟨rfl, hq6⟩
              have hb6 := below_later hb5 hq6
              clear hq6 hc5 hf5
              obtain ⟨hc6, hf6⟩ := bcell hb6
              go_wp2_with fail
              all_goals
                go_ret
                exact ⟨rfl, below_later zV hb6⟩
            · have J1 := hid_in j1; have J2 := hid_in j2
              clear j1 j2 KK
              subst em
              refine (inI a b x y _ false J1.out).mono ?_
              rintro e w3 ⟨rfl, hq3⟩
              have hb3 := below_later hb2 hq3
              clear hq3 hc2 hf2
              obtain ⟨hc3, hf3⟩ := bcell hb3
              go_wp2_with fail
              refine (inI x y a b _ false J2.out).mono ?_
              rintro e w4 ⟨rfl, hq4⟩
              have hb4 := below_later hb3 hq4
              clear hq4 hc3 hf3
              obtain ⟨hc4, hf4⟩ := bcell hb4
              go_wp2_with fail
              refine (inI p q a b _ _ I1.out).mono ?_
              rintro e w5 ⟨rfl, hq5⟩
              have hb5 := below_later hb4 hq5
              clear hq5 hc4 hf4
              obtain ⟨hc5, hf5⟩ := bcell hb5
              go_wp2_with fail
              refine (inI p q x y _ _ I2.out).mono ?_
              rintro e w6 ⟨rfl, hq6⟩
              have hb6 := below_later hb5 hq6
              clear hq6 hc5 hf5
              obtain ⟨hc6, hf6⟩ := bcell hb6
              go_wp2_with fail
              all_goals
                go_ret
                exact ⟨rfl, below_later zV hb6⟩
          · obtain rfl : i4 = false := NN2.out rfl
            clear NN1 NN2
            refine (inI p q1 a b _ false G1.out).mono ?_
            rintro e w1 ⟨rfl, hb1⟩
            obtain ⟨hc1, hf1⟩ := bcell hb1
            go_wp2_with fail
            refine (inI r q1 a b _ true G3.out).mono ?_
            rintro e w2 ⟨rfl, hq2⟩
            have hb2 := below_later hb1 hq2
            clear hq2 hc1 hf1
            obtain ⟨hc2, hf2⟩ := bcell hb2
            go_wp2_with fail
            refine (inI r q1 x y _ false G4.out).mono ?_
            rintro e w3 ⟨rfl, hq3⟩
            have hb3 := below_later hb2 hq3
            clear hq3 hc2 hf2
            obtain ⟨hc3, hf3⟩ := bcell hb3
            go_wp2_with fail
            rcases KK.out with ⟨j1, em, ep, eq⟩ | ⟨j1, j2, em, ep, eq⟩ | ⟨j1, j2, em, n1, n2⟩
            · have J1 := hid_in j1
              clear j1 KK
              subst em ep eq
              refine (inI a b x y _ true J1.out).mono ?_
              rintro e w4 ⟨rfl, hq4⟩
              have hb4 := below_later hb3 hq4
              clear hq4 hc3 hf3
              obtain ⟨hc4, hf4⟩ := bcell hb4
              go_wp2_with fail
              refine (inI a b a b _ _ I1.out).mono ?_
              rintro e w5 ⟨rfl, hq5⟩
              have hb5 := below_later hb4 hq5
              clear hq5 hc4 hf4
              obtain ⟨hc5, hf5⟩ := bcell hb5
              go_wp2_with fail
              refine (inI a b x y _ _ I2.out).mono ?_
              rintro e w6 ⟨rfl, hq6⟩
              have hb6 := below_later hb5 hq6
              clear hq6 hc5 hf5
              obtain ⟨hc6, hf6⟩ := bcell hb6
              go_wp2_with fail
              all_goals
                go_ret
                exact ⟨rfl, below_later zV hb6⟩
            · have J1 := hid_in j1; have J2 := hid_in j2
              clear j1 j2 KK
              subst em ep eq
              refine (inI a b x y _ false J1.out).mono ?_
              rintro e w4 ⟨rfl, hq4⟩
              have hb4 := below_later hb3 hq4
              clear hq4 hc3 hf3
              obtain ⟨hc4, hf4⟩ := bcell hb4
              go_wp2_with fail
              refine (inI x y a b _ true J2.out).mono ?_
              rintro e w5 ⟨rfl, hq5⟩
              have hb5 := below_later hb4 hq5
              clear hq5 hc4 hf4
              obtain ⟨hc5, hf5⟩ := bcell hb5
              go_wp2_with fail
              refine (inI x y a b _ _ I1.out).mono ?_
              rintro e w6 ⟨rfl, hq6⟩
              have hb6 := below_later hb5 hq6
              clear hq6 hc5 hf5
              obtain ⟨hc6, hf6⟩ := bcell hb6
              go_wp2_with fail
              refine (inI x y x y _ _ I2.out).mono ?_
              rintro e w7 ⟨rfl, hq7⟩
              have hb7 := below_later hb6 hq7
              clear hq7 hc6 hf6
              obtain ⟨hc7, hf7⟩ := bcell hb7
              go_wp2_with fail
              all_goals
                go_ret
                exact ⟨rfl, below_later zV hb7⟩
            · have J1 := hid_in j1; have J2 := hid_in j2
              clear j1 j2 KK
              subst em
              refine (inI a b x y _ false J1.out).mono ?_
              rintro e w4 ⟨rfl, hq4⟩
              have hb4 := below_later hb3 hq4
              clear hq4 hc3 hf3
              obtain ⟨hc4, hf4⟩ := bcell hb4
              go_wp2_with fail
              refine (inI x y a b _ false J2.out).mono ?_
              rintro e w5 ⟨rfl, hq5⟩
              have hb5 := below_later hb4 hq5
              clear hq5 hc4 hf4
              obtain ⟨hc5, hf5⟩ := bcell hb5
              go_wp2_with fail
              refine (inI p q a b _ _ I1.out).mono ?_
              rintro e w6 ⟨rfl, hq6⟩
              have hb6 := below_later hb5 hq6
              clear hq6 hc5 hf5
              obtain ⟨hc6, hf6⟩ := bcell hb6
              go_wp2_with fail
              refine (inI p q x y _ _ I2.out).mono ?_
              rintro e w7 ⟨rfl, hq7⟩
              have hb7 := below_later hb6 hq7
              clear hq7 hc6 hf6
              obtain ⟨hc7, hf7⟩ := bcell hb7
              go_wp2_with fail
              all_goals
                go_ret
                exact ⟨rfl, below_later zV hb7⟩
        · cases i3
          · obtain rfl : i2 = false := NN1.out rfl
            clear NN1 NN2
            refine (inI p q1 a b _ true G1.out).mono ?_
            rintro e w1 ⟨rfl, hb1⟩
            obtain ⟨hc1, hf1⟩ := bcell hb1
            go_wp2_with fail
            refine (inI p q1 x y _ false G2.out).mono ?_
            rintro e w2 ⟨rfl, hq2⟩
            have hb2 := below_later hb1 hq2
            clear hq2 hc1 hf1
            obtain ⟨hc2, hf2⟩ := bcell hb2
            go_wp2_with fail
            refine (inI r q1 a b _ false G3.out).mono ?_
            rintro e w3 ⟨rfl, hq3⟩
            have hb3 := below_later hb2 hq3
            clear hq3 hc2 hf2
            obtain ⟨hc3, hf3⟩ := bcell hb3
            go_wp2_with fail
            rcases KK.out with ⟨j1, em, ep, eq⟩ | ⟨j1, j2, em, ep, eq⟩ | ⟨j1, j2, em, n1, n2⟩
            · have J1 := hid_in j1
              clear j1 KK
              subst em ep eq
              refine (inI a b x y _ true J1.out).mono ?_
              rintro e w4 ⟨rfl, hq4⟩
              have hb4 := below_later hb3 hq4
              clear hq4 hc3 hf3
              obtain ⟨hc4, hf4⟩ := bcell hb4
              go_wp2_with fail
              refine (inI a b a b _ _ I1.out).mono ?_
              rintro e w5 ⟨rfl, hq5⟩
              have hb5 := below_later hb4 hq5
              clear hq5 hc4 hf4
              obtain ⟨hc5, hf5⟩ := bcell hb5
              go_wp2_with fail
              refine (inI a b x y _ _ I2.out).mono ?_
              rintro e w6 ⟨rfl, hq6⟩
              have hb6 := below_later hb5 hq6
              clear hq6 hc5 hf5
              obtain ⟨hc6, hf6⟩ := bcell hb6
              go_wp2_with fail
              all_goals
                go_ret
                exact ⟨rfl, below_later zV hb6⟩
            · have J1 := hid_in j1; have J2 := hid_in j2
              clear j1 j2 KK
              subst em ep eq
              refine (inI a b x y _ false J1.out).mono ?_
              rintro e w4 ⟨rfl, hq4⟩
              have hb4 := below_later hb3 hq4
              clear hq4 hc3 hf3
              obtain ⟨hc4, hf4⟩ := bcell hb4
              go_wp2_with fail
              refine (inI x y a b _ true J2.out).mono ?_
              rintro e w5 ⟨rfl, hq5⟩
              have hb5 := below_later hb4 hq5
              clear hq5 hc4 hf4
              obtain ⟨hc5, hf5⟩ := bcell hb5
              go_wp2_with fail
              refine (inI x y a b _ _ I1.out).mono ?_
              rintro e w6 ⟨rfl, hq6⟩
              have hb6 := below_later hb5 hq6
              clear hq6 hc5 hf5
              obtain ⟨hc6, hf6⟩ := bcell hb6
              go_wp2_with fail
              refine (inI x y x y _ _ I2.out).mono ?_
              rintro e w7 ⟨rfl, hq7⟩
              have hb7 := below_later hb6 hq7
              clear hq7 hc6 hf6
              obtain ⟨hc7, hf7⟩ := bcell hb7
              go_wp2_with fail
              all_goals
                go_ret
                exact ⟨rfl, below_later zV hb7⟩
            · have J1 := hid_in j1; have J2 := hid_in j2
              clear j1 j2 KK
              subst em
              refine (inI a b x y _ false J1.out).mono ?_
              rintro e w4 ⟨rfl, hq4⟩
              have hb4 := below_later hb3 hq4
              clear hq4 hc3 hf3
              obtain ⟨hc4, hf4⟩ := bcell hb4
              go_wp2_with fail
              refine (inI x y a b _ false J2.out).mono ?_
              rintro e w5 ⟨rfl, hq5⟩
              have hb5 := below_later hb4 hq5
              clear hq5 hc4 hf4
              obtain ⟨hc5, hf5⟩ := bcell hb5
              go_wp2_with fail
              refine (inI p q a b _ _ I1.out).mono ?_
              rintro e w6 ⟨rfl, hq6⟩
              have hb6 := below_later hb5 hq6
              clear hq6 hc5 hf5
              obtain ⟨hc6, hf6⟩ := bcell hb6
              go_wp2_with fail
              refine (inI p q x y _ _ I2.out).mono ?_
              rintro e w7 ⟨rfl, hq7⟩
              have hb7 := below_later hb6 hq7
              clear hq7 hc6 hf6
              obtain ⟨hc7, hf7⟩ := bcell hb7
              go_wp2_with fail
              all_goals
                go_ret
                exact ⟨rfl, below_later zV hb7⟩
          · obtain rfl : i2 = false := NN1.out rfl
            obtain rfl : i4 = false := NN2.out rfl
            clear NN1 NN2
            refine (inI p q1 a b _ true G1.out).mono ?_
            rintro e w1 ⟨rfl, hb1⟩
            obtain ⟨hc1, hf1⟩ := bcell hb1
            go_wp2_with fail
            refine (inI p q1 x y _ false G2.out).mono ?_
            rintro e w2 ⟨rfl, hq2⟩
            have hb2 := below_later hb1 hq2
            clear hq2 hc1 hf1
            obtain ⟨hc2, hf2⟩ := bcell hb2
            go_wp2_with fail
            refine (inI r q1 a b _ true G3.out).mono ?_
            rintro e w3 ⟨rfl, hq3⟩
            have hb3 := below_later hb2 hq3
            clear hq3 hc2 hf2
            obtain ⟨hc3, hf3⟩ := bcell hb3
            go_wp2_with fail
            refine (inI r q1 x y _ false G4.out).mono ?_
            rintro e w4 ⟨rfl, hq4⟩
            have hb4 := below_later hb3 hq4
            clear hq4 hc3 hf3
            obtain ⟨hc4, hf4⟩ := bcell hb4
            go_wp2_with fail
            rcases KK.out with ⟨j1, em, ep, eq⟩ | ⟨j1, j2, em, ep, eq⟩ | ⟨j1, j2, em, n1, n2⟩
            · have J1 := hid_in j1
              clear j1 KK
              subst em ep eq
              refine (inI a b x y _ true J1.out).mono ?_
              rintro e w5 ⟨rfl, hq5⟩
              have hb5 := below_later hb4 hq5
              clear hq5 hc4 hf4
              obtain ⟨hc5, hf5⟩ := bcell hb5
              go_wp2_with fail
              refine (inI a b a b _ _ I1.out).mono ?_
              rintro e w6 ⟨rfl, hq6⟩
              have hb6 := below_later hb5 hq6
              clear hq6 hc5 hf5
              obtain ⟨hc6, hf6⟩ := bcell hb6
              go_wp2_with fail
              refine (inI a b x y _ _ I2.out).mono ?_
              rintro e w7 ⟨rfl, hq7⟩
              have hb7 := below_later hb6 hq7
              clear hq7 hc6 hf6
              obtain ⟨hc7, hf7⟩ := bcell hb7
              go_wp2_with fail
              all_goals
                go_ret
                exact ⟨rfl, below_later zV hb7⟩
            · have J1 := hid_in j1; have J2 := hid_in j2
              clear j1 j2 KK
              subst em ep eq
              refine (inI a b x y _ false J1.out).mono ?_
              rintro e w5 ⟨rfl, hq5⟩
              have hb5 := below_later hb4 hq5
              clear hq5 hc4 hf4
              obtain ⟨hc5, hf5⟩ := bcell hb5
              go_wp2_with fail
              refine (inI x y a b _ true J2.out).mono ?_
              rintro e w6 ⟨rfl, hq6⟩
              have hb6 := below_later hb5 hq6
              clear hq6 hc5 hf5
              obtain ⟨hc6, hf6⟩ := bcell hb6
              go_wp2_with fail
              refine (inI x y a b _ _ I1.out).mono ?_
              rintro e w7 ⟨rfl, hq7⟩
              have hb7 := below_later hb6 hq7
              clear hq7 hc6 hf6
              obtain ⟨hc7, hf7⟩ := bcell hb7
              go_wp2_with fail
              refine (inI x y x y _ _ I2.out).mono ?_
              rintro e w8 ⟨rfl, hq8⟩
              have hb8 := below_later hb7 hq8
              clear hq8 hc7 hf7
              obtain ⟨hc8, hf8⟩ := bcell hb8
              go_wp2_with fail
              all_goals
                go_ret
                exact ⟨rfl, below_later zV hb8⟩
            · have J1 := hid_in j1; have J2 := hid_in j2
              clear j1 j2 KK
              subst em
              refine (inI a b x y _ false J1.out).mono ?_
              rintro e w5 ⟨rfl, hq5⟩
              have hb5 := below_later hb4 hq5
              clear hq5 hc4 hf4
              obtain ⟨hc5, hf5⟩ := bcell hb5
              go_wp2_with fail
              refine (inI x y a b _ false J2.out).mono ?_
              rintro e w6 ⟨rfl, hq6⟩
              have hb6 := below_later hb5 hq6
              clear hq6 hc5 hf5
              obtain ⟨hc6, hf6⟩ := bcell hb6
              go_wp2_with fail
              refine (inI p q a b _ _ I1.out).mono ?_
              rintro e w7 ⟨rfl, hq7⟩
              have hb7 := below_later hb6 hq7
              clear hq7 hc6 hf6
              obtain ⟨hc7, hf7⟩ := bcell hb7
              go_wp2_with fail
              refine (inI p q x y _ _ I2.out).mono ?_
              rintro e w8 ⟨rfl, hq8⟩
              have hb8 := below_later hb7 hq8
              clear hq8 hc7 hf7
              obtain ⟨hc8, hf8⟩ := bcell hb8
              go_wp2_with fail
              all_goals
                go_ret
                exact ⟨rfl, below_later zV hb8⟩
    · clear hs1 hs2
      cases o1
      · clear hoo ho1 ho2
        refine wp_region_lat (Below.refl _ _) (by kernel_rfl) (by kernel_rfl) ?_
        intro hne hcl
        repeat (go_big_quiet_step (first | (go_at_call 19; exact lat_of (meetsS a b x y _ m MM.out)) | (go_at_call 16; exact lat_of (meetsI x y a b _ m MS.out)) | (go_at_call 20; exact lat_of (overS a b x y _ p q P.out Q.out)) | (go_at_call 18; exact lat_of (overI x y a b _ p q S1.out S2.out)) | (go_at_call_of 14 (Value.agg #[Value.int IntKind.i64 a, Value.int IntKind.i64 b]); exact lat_of (specOk a b _ _ O1.out))))
        refine wpQuiet_nil ?_
        intro w1 hb1
        obtain ⟨hc1, hf1⟩ := bcell hb1
        clear hne hcl
        go_wp2_with fail
        clear hc1 hf1
        refine wp_region_lat hb1 (by kernel_rfl) (by kernel_rfl) ?_
        intro hne hcl
        repeat (go_big_quiet_step (first | (go_at_call 19; exact lat_of (meetsS a b x y _ m MM.out)) | (go_at_call 16; exact lat_of (meetsI x y a b _ m MS.out)) | (go_at_call 20; exact lat_of (overS a b x y _ p q P.out Q.out)) | (go_at_call 18; exact lat_of (overI x y a b _ p q S1.out S2.out))))
        refine wpQuiet_nil ?_
        intro w2 hb2
        obtain ⟨hc2, hf2⟩ := bcell hb2
        clear hne hcl
        go_wp2_with fail
        go_ret
        exact ⟨rfl, below_later zW hb2⟩
      · cases o2
        · clear hoo ho1 ho2
          refine wp_region_lat (Below.refl _ _) (by kernel_rfl) (by kernel_rfl) ?_
          intro hne hcl
          repeat (go_big_quiet_step (first | (go_at_call 19; exact lat_of (meetsS a b x y _ m MM.out)) | (go_at_call 16; exact lat_of (meetsI x y a b _ m MS.out)) | (go_at_call 20; exact lat_of (overS a b x y _ p q P.out Q.out)) | (go_at_call 18; exact lat_of (overI x y a b _ p q S1.out S2.out)) | (go_at_call_of 14 (Value.agg #[Value.int IntKind.i64 a, Value.int IntKind.i64 b]); exact lat_of (specOk a b _ _ O1.out)) | (go_at_call 14; exact lat_of (specOk x y _ _ O2.out))))
          refine wpQuiet_nil ?_
          intro w1 hb1
          obtain ⟨hc1, hf1⟩ := bcell hb1
          clear hne hcl
          go_wp2_with fail
          clear hc1 hf1
          refine wp_region_lat hb1 (by kernel_rfl) (by kernel_rfl) ?_
          intro hne hcl
          repeat (go_big_quiet_step (first | (go_at_call 19; exact lat_of (meetsS a b x y _ m MM.out)) | (go_at_call 16; exact lat_of (meetsI x y a b _ m MS.out)) | (go_at_call 20; exact lat_of (overS a b x y _ p q P.out Q.out)) | (go_at_call 18; exact lat_of (overI x y a b _ p q S1.out S2.out))))
          refine wpQuiet_nil ?_
          intro w2 hb2
          obtain ⟨hc2, hf2⟩ := bcell hb2
          clear hne hcl
          go_wp2_with fail
          go_ret
          exact ⟨rfl, below_later zW hb2⟩
        · exact absurd ⟨rfl, rfl⟩ hoo
end Go.Proofs.Ytjiiodcikicpfaa
