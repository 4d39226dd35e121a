/- A block has as many addresses as its size says: the law. The conditions stand at each theorem. -/
import Derived.Test.YtjiiodcikicpfaaDrwH
import Derived.Test.YtjiiodcikicpfaaMathH
import Derived.Test.YtjiiodcikicpfaaMathI
namespace Go.Proofs.Ytjiiodcikicpfaa
open Go.RowKit Go.LatT Go.BlockM Go.RegN
set_option linter.unusedVariables false
set_option linter.unusedSimpArgs false
set_option maxHeartbeats 8000000 in
set_option maxRecDepth 100000 in
theorem walk_FnBlockHas (a0 : Option Addr) (len0 cap0 : Nat) (z0 : List Int) (w : World) (hrow : RowC w a0 len0 cap0 z0) :
    Calls Try.prog 3 #[.slice a0 len0 cap0] w fun e w' => e = .returned (.bool true) ∧ Below w.heap.size w w' := by
  by_cases hlen : (1048576 : Int) < (len0 : Int)
  · clear hrow
    go_enter Try.func3, Try.ntmps3
    go_wp2_with fail
    go_ret
    exact ⟨rfl, Below.refl _ _⟩
  · have HR := hid_in hrow
    clear hrow
    go_enter Try.func3, Try.ntmps3
    go_wp2_with fail
    refine (drawBlockHas a0 len0 cap0 z0 _ HR.out (by omega)).mono ?_
    rintro e u1 ⟨x, y, c, rfl, x0, x1, y0, y1, c0, c1, hu1⟩
    clear HR
    go_wp2_with fail
    obtain ⟨W, hW⟩ : ∃ W, W = u1.alloc (Obj.cells #[Value.int IntKind.i64 x, Value.int IntKind.i64 y] 24) := ⟨_, rfl⟩
    have zb : Below u1.heap.size u1 W := by rw [hW]; exact below_box _ _
    have C0 : W.cell? ⟨u1.heap.size, 0, none⟩ = some (.int .i64 x) := by rw [hW]; go_simp
    have C1 : W.cell? ⟨u1.heap.size, 1, none⟩ = some (.int .i64 y) := by rw [hW]; go_simp
    have L1 : u1.heap.size < W.heap.size := by rw [hW]; simp
    have zW : Below w.heap.size w W := below_later hu1 zb
    rw [← hW]
    clear hW zb hu1 hlen
    obtain ⟨o, ho⟩ : ∃ o, okB x y = o := ⟨_, rfl⟩
    have O := hid_in ho
    cases o
    · have V : Hid ((okB x y && inB c x (x + pw (32 - y) - 1)) = false) := by show _ = _; rw [ho]; rfl
      obtain ⟨S, hS⟩ : ∃ S, (if okB x y then pw (32 - y) else 0) = S := ⟨_, rfl⟩
      have N := hid_in hS
      clear hS ho
      go_wp2_with fail
      refine (hasI x y c _ false V.out).mono ?_
      rintro e w1 ⟨rfl, hb1⟩
      obtain ⟨hc1, hf1⟩ := bcell hb1
      go_wp2_with fail
      refine (sizeI x y _ S N.out).mono ?_
      rintro e w2 ⟨rfl, hq2⟩
      have hb2 := below_later hb1 hq2
      clear hq2 hc1 hf1
      obtain ⟨hc2, hf2⟩ := bcell hb2
      go_wp2_with fail
      refine (hasS x y c _ false V.out).mono ?_
      rintro e w3 ⟨rfl, hq3⟩
      have hb3 := below_later hb2 hq3
      clear hq3 hc2 hf2
      obtain ⟨hc3, hf3⟩ := bcell hb3
      go_wp2_with fail
      refine (sizeS x y _ S N.out).mono ?_
      rintro e w4 ⟨rfl, hq4⟩
      have hb4 := below_later hb3 hq4
      clear hq4 hc3 hf3
      obtain ⟨hc4, hf4⟩ := bcell hb4
      go_wp2_with fail
      refine (specOk x y _ _ O.out).mono ?_
      rintro e w5 ⟨rfl, hq5⟩
      have hb5 := below_later hb4 hq5
      clear hq5 hc4 hf4
      obtain ⟨hc5, hf5⟩ := bcell hb5
      go_wp2_with fail
      refine (hasS x y c _ false V.out).mono ?_
      rintro e w6 ⟨rfl, hq6⟩
      have hb6 := below_later hb5 hq6
      obtain ⟨hc6, hf6⟩ := bcell hb6
      clear hq6 hc5 hf5
      go_wp2_with fail
      refine (sizeS x y _ S N.out).mono ?_
      rintro e w7 ⟨rfl, hq7⟩
      have hb7 := below_later hb6 hq7
      clear hq7 hc6 hf6
      obtain ⟨hc7, hf7⟩ := bcell hb7
      go_wp2_with fail
      go_ret
      exact ⟨rfl, below_later zW hb7⟩
    · obtain ⟨X0, X1, Y0, Y1, _⟩ := ok_of ho
      obtain ⟨S, hS⟩ : ∃ S, (if okB x y then pw (32 - y) else 0) = S := ⟨_, rfl⟩
      have hS' : S = pw (32 - y) := by rw [← hS, if_pos ho]
      have S1 : 1 ≤ S := by rw [hS']; exact pw_pos _
      have S2 : S ≤ 4294967296 := by rw [hS']; exact pw_le (by omega) (by omega)
      have N := hid_in hS
      have hv : (okB x y && inB c x (x + pw (32 - y) - 1)) = inB c x (x + S - 1) := by rw [ho, hS']; rfl
      by_cases hy : y = 32
      · have S3 : S = 1 := by rw [hS', hy]; rfl
        have S4 : decide (1 < S) = false := by rw [S3]; rfl
        have H32 := hid_in hy
        clear hy
        rcases (by omega : (x ≤ c ∧ c < x + S) ∨ c < x ∨ x + S ≤ c) with hc | hc | hc
        · have V : Hid ((okB x y && inB c x (x + pw (32 - y) - 1)) = true) := by show _ = _; rw [hv]; simp [inB]; omega
          obtain ⟨hc1, hc2⟩ := hc
          have G1 : decide (x ≤ c) = true := by simp; omega
          have G2 : decide (c < x + S) = true := by simp; omega
          clear hS hS' hv ho S3
          go_wp2_with fail
          refine (hasI x y c _ true V.out).mono ?_
          rintro e w1 ⟨rfl, hb1⟩
          obtain ⟨hc1, hf1⟩ := bcell hb1
          go_wp2_with fail
          refine (sizeI x y _ S N.out).mono ?_
          rintro e w2 ⟨rfl, hq2⟩
          have hb2 := below_later hb1 hq2
          clear hq2 hc1 hf1
          obtain ⟨hc2, hf2⟩ := bcell hb2
          go_wp2_with fail
          refine (hasS x y c _ true V.out).mono ?_
          rintro e w3 ⟨rfl, hq3⟩
          have hb3 := below_later hb2 hq3
          clear hq3 hc2 hf2
          obtain ⟨hc3, hf3⟩ := bcell hb3
          go_wp2_with fail
          refine (sizeS x y _ S N.out).mono ?_
          rintro e w4 ⟨rfl, hq4⟩
          have hb4 := below_later hb3 hq4
          clear hq4 hc3 hf3
          obtain ⟨hc4, hf4⟩ := bcell hb4
          go_wp2_with fail
          refine (specOk x y _ _ O.out).mono ?_
          rintro e w5 ⟨rfl, hq5⟩
          have hb5 := below_later hb4 hq5
          clear hq5 hc4 hf4
          obtain ⟨hc5, hf5⟩ := bcell hb5
          go_wp2_with fail
          refine (halvesI_no x y _ (.inr H32.out)).mono ?_
          rintro e w6 ⟨rfl, hq6⟩
          have hb6 := below_later hb5 hq6
          have q0 : w6.cell? ⟨u1.heap.size, 0, none⟩ = some (.int .i64 x) := by rw [(bcell hb6).1 _ _ L1]; exact C0
          have q1 : w6.cell? ⟨u1.heap.size, 1, none⟩ = some (.int .i64 y) := by rw [(bcell hb6).1 _ _ L1]; exact C1
          have s6 := hb6.size
          have t1 : ¬ u1.heap.size = w6.heap.size := by omega
          have t2 : ¬ u1.heap.size = w6.heap.size + 1 := by omega
          have t3 : u1.heap.size < w6.heap.size := by omega
          clear hc5 hf5 hq6
          go_wp2_with fail
          refine wp_region_lat (Below.refl _ _) (by kernel_rfl) (by kernel_rfl) ?_
          intro hne hcl
          repeat (go_big_quiet_step (fail))
          refine wpQuiet_nil ?_
          intro w1 hb1
          obtain ⟨hc1, hf1⟩ := bcell hb1
          clear hne hcl
          go_wp2_with fail
          go_ret
          exact ⟨rfl, below_later zW (below_later hb6 (below_under (below_under hb1)))⟩
        · have V : Hid ((okB x y && inB c x (x + pw (32 - y) - 1)) = false) := by show _ = _; rw [hv]; simp [inB]; omega
          have G1 : decide (x ≤ c) = false := by simp; omega
          clear hS hS' hv ho S3
          go_wp2_with fail
          refine (hasI x y c _ false V.out).mono ?_
          rintro e w1 ⟨rfl, hb1⟩
          obtain ⟨hc1, hf1⟩ := bcell hb1
          go_wp2_with fail
          refine (sizeI x y _ S N.out).mono ?_
          rintro e w2 ⟨rfl, hq2⟩
          have hb2 := below_later hb1 hq2
          clear hq2 hc1 hf1
          obtain ⟨hc2, hf2⟩ := bcell hb2
          go_wp2_with fail
          refine (hasS x y c _ false V.out).mono ?_
          rintro e w3 ⟨rfl, hq3⟩
          have hb3 := below_later hb2 hq3
          clear hq3 hc2 hf2
          obtain ⟨hc3, hf3⟩ := bcell hb3
          go_wp2_with fail
          refine (sizeS x y _ S N.out).mono ?_
          rintro e w4 ⟨rfl, hq4⟩
          have hb4 := below_later hb3 hq4
          clear hq4 hc3 hf3
          obtain ⟨hc4, hf4⟩ := bcell hb4
          go_wp2_with fail
          refine (specOk x y _ _ O.out).mono ?_
          rintro e w5 ⟨rfl, hq5⟩
          have hb5 := below_later hb4 hq5
          clear hq5 hc4 hf4
          obtain ⟨hc5, hf5⟩ := bcell hb5
          go_wp2_with fail
          refine (halvesI_no x y _ (.inr H32.out)).mono ?_
          rintro e w6 ⟨rfl, hq6⟩
          have hb6 := below_later hb5 hq6
          have q0 : w6.cell? ⟨u1.heap.size, 0, none⟩ = some (.int .i64 x) := by rw [(bcell hb6).1 _ _ L1]; exact C0
          have q1 : w6.cell? ⟨u1.heap.size, 1, none⟩ = some (.int .i64 y) := by rw [(bcell hb6).1 _ _ L1]; exact C1
          have s6 := hb6.size
          have t1 : ¬ u1.heap.size = w6.heap.size := by omega
          have t2 : ¬ u1.heap.size = w6.heap.size + 1 := by omega
          have t3 : u1.heap.size < w6.heap.size := by omega
          clear hc5 hf5 hq6
          go_wp2_with fail
          refine wp_region_lat (Below.refl _ _) (by kernel_rfl) (by kernel_rfl) ?_
          intro hne hcl
          repeat (go_big_quiet_step (fail))
          refine wpQuiet_nil ?_
          intro w1 hb1
          obtain ⟨hc1, hf1⟩ := bcell hb1
          clear hne hcl
          go_wp2_with fail
          go_ret
          exact ⟨rfl, below_later zW (below_later hb6 (below_under (below_under hb1)))⟩
        · have V : Hid ((okB x y && inB c x (x + pw (32 - y) - 1)) = false) := by show _ = _; rw [hv]; simp [inB]; omega
          have G1 : decide (x ≤ c) = true := by simp; omega
          have G2 : decide (c < x + S) = false := by simp; omega
          clear hS hS' hv ho S3
          go_wp2_with fail
          refine (hasI x y c _ false V.out).mono ?_
          rintro e w1 ⟨rfl, hb1⟩
          obtain ⟨hc1, hf1⟩ := bcell hb1
          go_wp2_with fail
          refine (sizeI x y _ S N.out).mono ?_
          rintro e w2 ⟨rfl, hq2⟩
          have hb2 := below_later hb1 hq2
          clear hq2 hc1 hf1
          obtain ⟨hc2, hf2⟩ := bcell hb2
          go_wp2_with fail
          refine (hasS x y c _ false V.out).mono ?_
          rintro e w3 ⟨rfl, hq3⟩
          have hb3 := below_later hb2 hq3
          clear hq3 hc2 hf2
          obtain ⟨hc3, hf3⟩ := bcell hb3
          go_wp2_with fail
          refine (sizeS x y _ S N.out).mono ?_
          rintro e w4 ⟨rfl, hq4⟩
          have hb4 := below_later hb3 hq4
          clear hq4 hc3 hf3
          obtain ⟨hc4, hf4⟩ := bcell hb4
          go_wp2_with fail
          refine (specOk x y _ _ O.out).mono ?_
          rintro e w5 ⟨rfl, hq5⟩
          have hb5 := below_later hb4 hq5
          clear hq5 hc4 hf4
          obtain ⟨hc5, hf5⟩ := bcell hb5
          go_wp2_with fail
          refine (halvesI_no x y _ (.inr H32.out)).mono ?_
          rintro e w6 ⟨rfl, hq6⟩
          have hb6 := below_later hb5 hq6
          have q0 : w6.cell? ⟨u1.heap.size, 0, none⟩ = some (.int .i64 x) := by rw [(bcell hb6).1 _ _ L1]; exact C0
          have q1 : w6.cell? ⟨u1.heap.size, 1, none⟩ = some (.int .i64 y) := by rw [(bcell hb6).1 _ _ L1]; exact C1
          have s6 := hb6.size
          have t1 : ¬ u1.heap.size = w6.heap.size := by omega
          have t2 : ¬ u1.heap.size = w6.heap.size + 1 := by omega
          have t3 : u1.heap.size < w6.heap.size := by omega
          clear hc5 hf5 hq6
          go_wp2_with fail
          refine wp_region_lat (Below.refl _ _) (by kernel_rfl) (by kernel_rfl) ?_
          intro hne hcl
          repeat (go_big_quiet_step (fail))
          refine wpQuiet_nil ?_
          intro w1 hb1
          obtain ⟨hc1, hf1⟩ := bcell hb1
          clear hne hcl
          go_wp2_with fail
          go_ret
          exact ⟨rfl, below_later zW (below_later hb6 (below_under (below_under hb1)))⟩
      · obtain ⟨T, hT⟩ : ∃ T, pw (32 - (y + 1)) = T := ⟨_, rfl⟩
        obtain ⟨Y, hY⟩ : ∃ Y, y + 1 = Y := ⟨_, rfl⟩
        obtain ⟨X, hX⟩ : ∃ X, x + T = X := ⟨_, rfl⟩
        have hT1 : 1 ≤ T := by rw [← hT]; exact pw_pos _
        have hST : S = T * 2 := by rw [hS', pw_half (by omega), hT]
        have k0 := half_ok0 ho (by omega)
        have k1 := half_ok1 ho (by omega)
        have m0 := half_apart0 (a := x) (b := y)
        have m1 := half_apart1 (a := x) (b := y)
        rw [hT, hY, hX] at k1 m0 m1
        rw [hY] at k0
        have MM : Hid (meetB x Y X Y = false) := by show _ = _; simp [meetB, m0, m1]
        have NX : Hid ((if okB x Y then pw (32 - Y) else 0) = T) := by show _ = _; rw [if_pos k0, ← hY, hT]
        have NY : Hid ((if okB X Y then pw (32 - Y) else 0) = T) := by show _ = _; rw [if_pos k1, ← hY, hT]
        have hp : (okB x Y && inB c x (x + pw (32 - Y) - 1)) = inB c x (x + T - 1) := by rw [k0, ← hY, hT]; rfl
        have hr : (okB X Y && inB c X (X + pw (32 - Y) - 1)) = inB c X (X + T - 1) := by rw [k1, ← hY, hT]; rfl
        have HT := hid_in hT; have HY := hid_in hY; have HX := hid_in hX
        have S4 : decide (1 < S) = true := by simp; omega
        have S5 : (T + T == S) = true := by simp; omega
        have S6 : IntKind.i64.wrap (T + T) = T + T := by rw [IntKind.wrap_i64]; omega
        have XX : X = x + T := hX.symm
        clear hT hY k0 k1 m0 m1
        rcases (by omega : (x ≤ c ∧ c < x + T) ∨ (x + T ≤ c ∧ c < x + S) ∨ c < x ∨ x + S ≤ c) with hc | hc | hc | hc
        · have V : Hid ((okB x y && inB c x (x + pw (32 - y) - 1)) = true) := by show _ = _; rw [hv]; simp [inB]; omega
          have PP : Hid ((okB x Y && inB c x (x + pw (32 - Y) - 1)) = true) := by show _ = _; rw [hp]; simp [inB]; omega
          have RR : Hid ((okB X Y && inB c X (X + pw (32 - Y) - 1)) = false) := by show _ = _; rw [hr]; simp [inB]; omega
          obtain ⟨hc1, hc2⟩ := hc
          have G1 : decide (x ≤ c) = true := by simp; omega
          have G2 : decide (c < x + S) = true := by simp; omega
          clear hS hS' hv ho hp hr hX XX hST
          go_wp2_with fail
          refine (hasI x y c _ true V.out).mono ?_
          rintro e w1 ⟨rfl, hb1⟩
          obtain ⟨hc1, hf1⟩ := bcell hb1
          go_wp2_with fail
          refine (sizeI x y _ S N.out).mono ?_
          rintro e w2 ⟨rfl, hq2⟩
          have hb2 := below_later hb1 hq2
          clear hq2 hc1 hf1
          obtain ⟨hc2, hf2⟩ := bcell hb2
          go_wp2_with fail
          refine (hasS x y c _ true V.out).mono ?_
          rintro e w3 ⟨rfl, hq3⟩
          have hb3 := below_later hb2 hq3
          clear hq3 hc2 hf2
          obtain ⟨hc3, hf3⟩ := bcell hb3
          go_wp2_with fail
          refine (sizeS x y _ S N.out).mono ?_
          rintro e w4 ⟨rfl, hq4⟩
          have hb4 := below_later hb3 hq4
          clear hq4 hc3 hf3
          obtain ⟨hc4, hf4⟩ := bcell hb4
          go_wp2_with fail
          refine (specOk x y _ _ O.out).mono ?_
          rintro e w5 ⟨rfl, hq5⟩
          have hb5 := below_later hb4 hq5
          clear hq5 hc4 hf4
          obtain ⟨hc5, hf5⟩ := bcell hb5
          go_wp2_with fail
          refine (halvesI_yes x y _ O.out hy).mono ?_
          rw [HT.out, HY.out, HX.out]
          rintro e w6 ⟨rfl, hq6⟩
          have hb6 := below_later hb5 hq6
          have q0 : w6.cell? ⟨u1.heap.size, 0, none⟩ = some (.int .i64 x) := by rw [(bcell hb6).1 _ _ L1]; exact C0
          have q1 : w6.cell? ⟨u1.heap.size, 1, none⟩ = some (.int .i64 y) := by rw [(bcell hb6).1 _ _ L1]; exact C1
          have s6 := hb6.size
          have t1 : ¬ u1.heap.size = w6.heap.size := by omega
          have t2 : ¬ u1.heap.size = w6.heap.size + 1 := by omega
          have t3 : u1.heap.size < w6.heap.size := by omega
          clear hy hc5 hf5 hq6
          go_wp2_with fail
          refine wp_region_lat (Below.refl _ _) (by kernel_rfl) (by kernel_rfl) ?_
          intro hne hcl
          repeat (go_big_quiet_step (first | (go_at_call_of 10 (Value.agg #[Value.int IntKind.i64 x, Value.int IntKind.i64 Y]); exact lat_of (hasI x Y c _ true PP.out)) | (go_at_call 10; exact lat_of (hasI X Y c _ false RR.out)) | (go_at_call_of 11 (Value.agg #[Value.int IntKind.i64 x, Value.int IntKind.i64 Y]); exact lat_of (sizeI x Y _ T NX.out)) | (go_at_call 11; exact lat_of (sizeI X Y _ T NY.out)) | (go_at_call 16; exact lat_of (meetsI x Y X Y _ false MM.out))))
          refine wpQuiet_nil ?_
          intro w1 hb1
          obtain ⟨hc1, hf1⟩ := bcell hb1
          clear hne hcl
          go_wp2_with fail
          go_ret
          exact ⟨rfl, below_later zW (below_later hb6 (below_under (below_under hb1)))⟩
        · have V : Hid ((okB x y && inB c x (x + pw (32 - y) - 1)) = true) := by show _ = _; rw [hv]; simp [inB]; omega
          have PP : Hid ((okB x Y && inB c x (x + pw (32 - Y) - 1)) = false) := by show _ = _; rw [hp]; simp [inB]; omega
          have RR : Hid ((okB X Y && inB c X (X + pw (32 - Y) - 1)) = true) := by show _ = _; rw [hr]; simp [inB]; omega
          obtain ⟨hc1, hc2⟩ := hc
          have G1 : decide (x ≤ c) = true := by simp; omega
          have G2 : decide (c < x + S) = true := by simp; omega
          clear hS hS' hv ho hp hr hX XX hST
          go_wp2_with fail
          refine (hasI x y c _ true V.out).mono ?_
          rintro e w1 ⟨rfl, hb1⟩
          obtain ⟨hc1, hf1⟩ := bcell hb1
          go_wp2_with fail
          refine (sizeI x y _ S N.out).mono ?_
          rintro e w2 ⟨rfl, hq2⟩
          have hb2 := below_later hb1 hq2
          clear hq2 hc1 hf1
          obtain ⟨hc2, hf2⟩ := bcell hb2
          go_wp2_with fail
          refine (hasS x y c _ true V.out).mono ?_
          rintro e w3 ⟨rfl, hq3⟩
          have hb3 := below_later hb2 hq3
          clear hq3 hc2 hf2
          obtain ⟨hc3, hf3⟩ := bcell hb3
          go_wp2_with fail
          refine (sizeS x y _ S N.out).mono ?_
          rintro e w4 ⟨rfl, hq4⟩
          have hb4 := below_later hb3 hq4
          clear hq4 hc3 hf3
          obtain ⟨hc4, hf4⟩ := bcell hb4
          go_wp2_with fail
          refine (specOk x y _ _ O.out).mono ?_
          rintro e w5 ⟨rfl, hq5⟩
          have hb5 := below_later hb4 hq5
          clear hq5 hc4 hf4
          obtain ⟨hc5, hf5⟩ := bcell hb5
          go_wp2_with fail
          refine (halvesI_yes x y _ O.out hy).mono ?_
          rw [HT.out, HY.out, HX.out]
          rintro e w6 ⟨rfl, hq6⟩
          have hb6 := below_later hb5 hq6
          have q0 : w6.cell? ⟨u1.heap.size, 0, none⟩ = some (.int .i64 x) := by rw [(bcell hb6).1 _ _ L1]; exact C0
          have q1 : w6.cell? ⟨u1.heap.size, 1, none⟩ = some (.int .i64 y) := by rw [(bcell hb6).1 _ _ L1]; exact C1
          have s6 := hb6.size
          have t1 : ¬ u1.heap.size = w6.heap.size := by omega
          have t2 : ¬ u1.heap.size = w6.heap.size + 1 := by omega
          have t3 : u1.heap.size < w6.heap.size := by omega
          clear hy hc5 hf5 hq6
          go_wp2_with fail
          refine wp_region_lat (Below.refl _ _) (by kernel_rfl) (by kernel_rfl) ?_
          intro hne hcl
          repeat (go_big_quiet_step (first | (go_at_call_of 10 (Value.agg #[Value.int IntKind.i64 x, Value.int IntKind.i64 Y]); exact lat_of (hasI x Y c _ false PP.out)) | (go_at_call 10; exact lat_of (hasI X Y c _ true RR.out)) | (go_at_call_of 11 (Value.agg #[Value.int IntKind.i64 x, Value.int IntKind.i64 Y]); exact lat_of (sizeI x Y _ T NX.out)) | (go_at_call 11; exact lat_of (sizeI X Y _ T NY.out)) | (go_at_call 16; exact lat_of (meetsI x Y X Y _ false MM.out))))
          refine wpQuiet_nil ?_
          intro w1 hb1
          obtain ⟨hc1, hf1⟩ := bcell hb1
          clear hne hcl
          go_wp2_with fail
          go_ret
          exact ⟨rfl, below_later zW (below_later hb6 (below_under (below_under hb1)))⟩
        · have V : Hid ((okB x y && inB c x (x + pw (32 - y) - 1)) = false) := by show _ = _; rw [hv]; simp [inB]; omega
          have PP : Hid ((okB x Y && inB c x (x + pw (32 - Y) - 1)) = false) := by show _ = _; rw [hp]; simp [inB]; omega
          have RR : Hid ((okB X Y && inB c X (X + pw (32 - Y) - 1)) = false) := by show _ = _; rw [hr]; simp [inB]; omega
          have G1 : decide (x ≤ c) = false := by simp; omega
          clear hS hS' hv ho hp hr hX XX hST
          go_wp2_with fail
          refine (hasI x y c _ false V.out).mono ?_
          rintro e w1 ⟨rfl, hb1⟩
          obtain ⟨hc1, hf1⟩ := bcell hb1
          go_wp2_with fail
          refine (sizeI x y _ S N.out).mono ?_
          rintro e w2 ⟨rfl, hq2⟩
          have hb2 := below_later hb1 hq2
          clear hq2 hc1 hf1
          obtain ⟨hc2, hf2⟩ := bcell hb2
          go_wp2_with fail
          refine (hasS x y c _ false V.out).mono ?_
          rintro e w3 ⟨rfl, hq3⟩
          have hb3 := below_later hb2 hq3
          clear hq3 hc2 hf2
          obtain ⟨hc3, hf3⟩ := bcell hb3
          go_wp2_with fail
          refine (sizeS x y _ S N.out).mono ?_
          rintro e w4 ⟨rfl, hq4⟩
          have hb4 := below_later hb3 hq4
          clear hq4 hc3 hf3
          obtain ⟨hc4, hf4⟩ := bcell hb4
          go_wp2_with fail
          refine (specOk x y _ _ O.out).mono ?_
          rintro e w5 ⟨rfl, hq5⟩
          have hb5 := below_later hb4 hq5
          clear hq5 hc4 hf4
          obtain ⟨hc5, hf5⟩ := bcell hb5
          go_wp2_with fail
          refine (halvesI_yes x y _ O.out hy).mono ?_
          rw [HT.out, HY.out, HX.out]
          rintro e w6 ⟨rfl, hq6⟩
          have hb6 := below_later hb5 hq6
          have q0 : w6.cell? ⟨u1.heap.size, 0, none⟩ = some (.int .i64 x) := by rw [(bcell hb6).1 _ _ L1]; exact C0
          have q1 : w6.cell? ⟨u1.heap.size, 1, none⟩ = some (.int .i64 y) := by rw [(bcell hb6).1 _ _ L1]; exact C1
          have s6 := hb6.size
          have t1 : ¬ u1.heap.size = w6.heap.size := by omega
          have t2 : ¬ u1.heap.size = w6.heap.size + 1 := by omega
          have t3 : u1.heap.size < w6.heap.size := by omega
          clear hy hc5 hf5 hq6
          go_wp2_with fail
          refine wp_region_lat (Below.refl _ _) (by kernel_rfl) (by kernel_rfl) ?_
          intro hne hcl
          repeat (go_big_quiet_step (first | (go_at_call_of 10 (Value.agg #[Value.int IntKind.i64 x, Value.int IntKind.i64 Y]); exact lat_of (hasI x Y c _ false PP.out)) | (go_at_call 10; exact lat_of (hasI X Y c _ false RR.out)) | (go_at_call_of 11 (Value.agg #[Value.int IntKind.i64 x, Value.int IntKind.i64 Y]); exact lat_of (sizeI x Y _ T NX.out)) | (go_at_call 11; exact lat_of (sizeI X Y _ T NY.out)) | (go_at_call 16; exact lat_of (meetsI x Y X Y _ false MM.out))))
          refine wpQuiet_nil ?_
          intro w1 hb1
          obtain ⟨hc1, hf1⟩ := bcell hb1
          clear hne hcl
          go_wp2_with fail
          go_ret
          exact ⟨rfl, below_later zW (below_later hb6 (below_under (below_under hb1)))⟩
        · have V : Hid ((okB x y && inB c x (x + pw (32 - y) - 1)) = false) := by show _ = _; rw [hv]; simp [inB]; omega
          have PP : Hid ((okB x Y && inB c x (x + pw (32 - Y) - 1)) = false) := by show _ = _; rw [hp]; simp [inB]; omega
          have RR : Hid ((okB X Y && inB c X (X + pw (32 - Y) - 1)) = false) := by show _ = _; rw [hr]; simp [inB]; omega
          have G1 : decide (x ≤ c) = true := by simp; omega
          have G2 : decide (c < x + S) = false := by simp; omega
          clear hS hS' hv ho hp hr hX XX hST
          go_wp2_with fail
          refine (hasI x y c _ false V.out).mono ?_
          rintro e w1 ⟨rfl, hb1⟩
          obtain ⟨hc1, hf1⟩ := bcell hb1
          go_wp2_with fail
          refine (sizeI x y _ S N.out).mono ?_
          rintro e w2 ⟨rfl, hq2⟩
          have hb2 := below_later hb1 hq2
          clear hq2 hc1 hf1
          obtain ⟨hc2, hf2⟩ := bcell hb2
          go_wp2_with fail
          refine (hasS x y c _ false V.out).mono ?_
          rintro e w3 ⟨rfl, hq3⟩
          have hb3 := below_later hb2 hq3
          clear hq3 hc2 hf2
          obtain ⟨hc3, hf3⟩ := bcell hb3
          go_wp2_with fail
          refine (sizeS x y _ S N.out).mono ?_
          rintro e w4 ⟨rfl, hq4⟩
          have hb4 := below_later hb3 hq4
          clear hq4 hc3 hf3
          obtain ⟨hc4, hf4⟩ := bcell hb4
          go_wp2_with fail
          refine (specOk x y _ _ O.out).mono ?_
          rintro e w5 ⟨rfl, hq5⟩
          have hb5 := below_later hb4 hq5
          clear hq5 hc4 hf4
          obtain ⟨hc5, hf5⟩ := bcell hb5
          go_wp2_with fail
          refine (halvesI_yes x y _ O.out hy).mono ?_
          rw [HT.out, HY.out, HX.out]
          rintro e w6 ⟨rfl, hq6⟩
          have hb6 := below_later hb5 hq6
          have q0 : w6.cell? ⟨u1.heap.size, 0, none⟩ = some (.int .i64 x) := by rw [(bcell hb6).1 _ _ L1]; exact C0
          have q1 : w6.cell? ⟨u1.heap.size, 1, none⟩ = some (.int .i64 y) := by rw [(bcell hb6).1 _ _ L1]; exact C1
          have s6 := hb6.size
          have t1 : ¬ u1.heap.size = w6.heap.size := by omega
          have t2 : ¬ u1.heap.size = w6.heap.size + 1 := by omega
          have t3 : u1.heap.size < w6.heap.size := by omega
          clear hy hc5 hf5 hq6
          go_wp2_with fail
          refine wp_region_lat (Below.refl _ _) (by kernel_rfl) (by kernel_rfl) ?_
          intro hne hcl
          repeat (go_big_quiet_step (first | (go_at_call_of 10 (Value.agg #[Value.int IntKind.i64 x, Value.int IntKind.i64 Y]); exact lat_of (hasI x Y c _ false PP.out)) | (go_at_call 10; exact lat_of (hasI X Y c _ false RR.out)) | (go_at_call_of 11 (Value.agg #[Value.int IntKind.i64 x, Value.int IntKind.i64 Y]); exact lat_of (sizeI x Y _ T NX.out)) | (go_at_call 11; exact lat_of (sizeI X Y _ T NY.out)) | (go_at_call 16; exact lat_of (meetsI x Y X Y _ false MM.out))))
          refine wpQuiet_nil ?_
          intro w1 hb1
          obtain ⟨hc1, hf1⟩ := bcell hb1
          clear hne hcl
          go_wp2_with fail
          go_ret
          exact ⟨rfl, below_later zW (below_later hb6 (below_under (below_under hb1)))⟩
end Go.Proofs.Ytjiiodcikicpfaa
