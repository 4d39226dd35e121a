/- What each function of blocks answers, in the program and in the specification, as contracts: the answer, and that nothing which was there has turned. The conditions stand at each theorem. -/
import Derived.Test.YtbcehchjinlacaaDrwF
import Derived.Test.YtbcehchjinlacaaBlkF
import Derived.Test.YtbcehchjinlacaaMathI
import Derived.Test.YtbcehchjinlacaaRegN
import Derived.Test.YtbcehchjinlacaaMath
import Derived.WalkKit
import Derived.WalkSpells
import Derived.WalkLawsBesides
import Derived.BigQuiet
import Derived.Deep.RegionWith
namespace Go.Proofs.Ytbcehchjinlacaa
open Go.RowKit Go.LatT Go.BlockM Go.RegN
set_option linter.unusedVariables false
set_option linter.unusedSimpArgs false
set_option maxHeartbeats 4000000 in
theorem walk_FnBlockIn (a0 : Option Addr) (len0 cap0 : Nat) (z0 : List Int) (w : World) (hrow : RowC w a0 len0 cap0 z0) :
    Calls Try.prog 4 #[.slice a0 len0 cap0] w fun e w' => e = .returned (.bool true) ∧ Below w.heap.size w w' := by
  by_cases hlen : (1048576 : Int) < (len0 : Int)
  · clear hrow
    go_enter Try.func4, Try.ntmps4
    go_wp2_with fail
    go_ret
    exact ⟨rfl, Below.refl _ _⟩
  · have HR := hid_in hrow
    clear hrow
    go_enter Try.func4, Try.ntmps4
    go_wp2_with fail
    refine (drawBlockIn a0 len0 cap0 z0 _ HR.out (by omega)).mono ?_
    rintro e u1 ⟨a, b, x, y, rfl, x0, x1, y0, y1, x0', x1', y0', y1', hu1⟩
    clear HR
    go_wp2_with fail
    obtain ⟨v, hv⟩ : ∃ v, inBlk a b x y = v := ⟨_, rfl⟩
    refine (inI a b x y _ v hv).mono ?_
    rintro e W ⟨rfl, hbW⟩
    have V := hid_in hv
    obtain ⟨hcW, hfW⟩ := bcell hbW
    have c0 : W.cell? ⟨u1.heap.size, 0, none⟩ = some (.int .i64 a) := by rw [hcW _ _ (by simp <;> omega)]; try go_simp
    have c1 : W.cell? ⟨u1.heap.size, 1, none⟩ = some (.int .i64 b) := by rw [hcW _ _ (by simp <;> omega)]; try go_simp
    have d0 : W.cell? ⟨u1.heap.size + 1, 0, none⟩ = some (.int .i64 x) := by rw [hcW _ _ (by simp <;> omega)]; try go_simp
    have d1 : W.cell? ⟨u1.heap.size + 1, 1, none⟩ = some (.int .i64 y) := by rw [hcW _ _ (by simp <;> omega)]; try go_simp
    have L2 : u1.heap.size + 1 < W.heap.size := by have := hbW.size; simp at this; omega
    have L1 : u1.heap.size < W.heap.size := by omega
    have zW : Below w.heap.size w W := below_later hu1 (below_under (below_under hbW))
    clear hcW hfW hbW hu1 hlen hv
    obtain ⟨o1, ho1⟩ : ∃ o, okB a b = o := ⟨_, rfl⟩
    obtain ⟨o2, ho2⟩ : ∃ o, okB x y = o := ⟨_, rfl⟩
    have O1 := hid_in ho1; have O2 := hid_in ho2
    by_cases hoo : o1 = true ∧ o2 = true
    · obtain ⟨rfl, rfl⟩ := hoo
      obtain ⟨A0, A1, B0, B1, _⟩ := ok_of ho1
      obtain ⟨X0, X1, Y0, Y1, _⟩ := ok_of ho2
      obtain ⟨S, hS⟩ : ∃ S, (if okB x y then pw (32 - y) else 0) = S := ⟨_, rfl⟩
      have hS' : S = pw (32 - y) := by rw [← hS, if_pos ho2]
      have S1 : 1 ≤ S := by rw [hS']; exact pw_pos _
      have S2 : S ≤ 4294967296 := by rw [hS']; exact pw_le (by omega) (by omega)
      obtain ⟨p, hp⟩ : ∃ p, (okB a b && inB x a (a + pw (32 - b) - 1)) = p := ⟨_, rfl⟩
      obtain ⟨q, hq⟩ : ∃ q, (okB a b && inB (x + S - 1) a (a + pw (32 - b) - 1)) = q := ⟨_, rfl⟩
      have hpq : inBlk a b x y = (p && q) := by rw [hS'] at hq; exact in_both ho1 ho2 hp hq
      have hpv : v = (p && q) := by rw [← hpq]; exact V.out.symm
      have I := hid_in (in_self ho1)
      obtain ⟨u, hu⟩ : ∃ u, inBlk x y a b = u := ⟨_, rfl⟩
      have U := hid_in hu; have PP := hid_in hp; have QQ := hid_in hq; have SS := hid_in hS
      have AN : Hid (v = true → u = true → a = x ∧ b = y) := by
        show _ → _ → _
        intro h1 h2; exact in_anti (V.out.trans h1) (U.out.trans h2)
      have PV := hid_in hpv
      clear hS hS' hp hq hpq hu ho1 ho2 hpv
      cases v
      · clear AN
        cases p
        · clear PV
          go_wp2_with fail
          refine (inS a b x y _ _ V.out).mono ?_
          rintro e w1 ⟨rfl, hb1⟩
          obtain ⟨hc1, hf1⟩ := bcell hb1
          go_wp2_with fail
          refine (specOk a b _ _ O1.out).mono ?_
          rintro e w2 ⟨rfl, hq2⟩
          have hb2 := below_later hb1 hq2
          clear hq2 hc1 hf1
          obtain ⟨hc2, hf2⟩ := bcell hb2
          go_wp2_with fail
          refine (specOk x y _ _ O2.out).mono ?_
          rintro e w3 ⟨rfl, hq3⟩
          have hb3 := below_later hb2 hq3
          clear hq3 hc2 hf2
          obtain ⟨hc3, hf3⟩ := bcell hb3
          go_wp2_with fail
          clear hc3 hf3
          refine wp_region_lat hb3 (by kernel_rfl) (by kernel_rfl) ?_
          intro hne hcl
          repeat (go_big_quiet_step (first | (go_at_call_of 16 (Value.int IntKind.i64 x); exact lat_of (hasI a b x _ _ PP.out)) | (go_at_call 16; exact lat_of (hasI a b (x + S - 1) _ _ QQ.out)) | (go_at_call 17; exact lat_of (sizeI x y _ _ SS.out))))
          refine wpQuiet_nil ?_
          intro w4 hb4
          obtain ⟨hc4, hf4⟩ := bcell hb4
          clear hne hcl
          go_wp2_with fail
          refine (inI a b a b _ _ I.out).mono ?_
          rintro e w5 ⟨rfl, hq5⟩
          have hb5 := below_later hb4 hq5
          clear hq5 hc4 hf4
          obtain ⟨hc5, hf5⟩ := bcell hb5
          go_wp2_with fail
          go_ret
          exact ⟨rfl, below_later zW hb5⟩
        · cases q
          · clear PV
            go_wp2_with fail
            refine (inS a b x y _ _ V.out).mono ?_
            rintro e w1 ⟨rfl, hb1⟩
            obtain ⟨hc1, hf1⟩ := bcell hb1
            go_wp2_with fail
            refine (specOk a b _ _ O1.out).mono ?_
            rintro e w2 ⟨rfl, hq2⟩
            have hb2 := below_later hb1 hq2
            clear hq2 hc1 hf1
            obtain ⟨hc2, hf2⟩ := bcell hb2
            go_wp2_with fail
            refine (specOk x y _ _ O2.out).mono ?_
            rintro e w3 ⟨rfl, hq3⟩
            have hb3 := below_later hb2 hq3
            clear hq3 hc2 hf2
            obtain ⟨hc3, hf3⟩ := bcell hb3
            go_wp2_with fail
            clear hc3 hf3
            refine wp_region_lat hb3 (by kernel_rfl) (by kernel_rfl) ?_
            intro hne hcl
            repeat (go_big_quiet_step (first | (go_at_call_of 16 (Value.int IntKind.i64 x); exact lat_of (hasI a b x _ _ PP.out)) | (go_at_call 16; exact lat_of (hasI a b (x + S - 1) _ _ QQ.out)) | (go_at_call 17; exact lat_of (sizeI x y _ _ SS.out))))
            refine wpQuiet_nil ?_
            intro w4 hb4
            obtain ⟨hc4, hf4⟩ := bcell hb4
            clear hne hcl
            go_wp2_with fail
            refine (inI a b a b _ _ I.out).mono ?_
            rintro e w5 ⟨rfl, hq5⟩
            have hb5 := below_later hb4 hq5
            clear hq5 hc4 hf4
            obtain ⟨hc5, hf5⟩ := bcell hb5
            go_wp2_with fail
            go_ret
            exact ⟨rfl, below_later zW hb5⟩
          · exact absurd PV.out (by decide)
      · cases p
        · exact absurd PV.out (by simp)
        · cases q
          · exact absurd PV.out (by decide)
          · clear PV
            cases u
            · clear AN
              go_wp2_with fail
              refine (inS a b x y _ _ V.out).mono ?_
              rintro e w1 ⟨rfl, hb1⟩
              obtain ⟨hc1, hf1⟩ := bcell hb1
              go_wp2_with fail
              refine (specOk a b _ _ O1.out).mono ?_
              rintro e w2 ⟨rfl, hq2⟩
              have hb2 := below_later hb1 hq2
              clear hq2 hc1 hf1
              obtain ⟨hc2, hf2⟩ := bcell hb2
              go_wp2_with fail
              refine (specOk x y _ _ O2.out).mono ?_
              rintro e w3 ⟨rfl, hq3⟩
              have hb3 := below_later hb2 hq3
              clear hq3 hc2 hf2
              obtain ⟨hc3, hf3⟩ := bcell hb3
              go_wp2_with fail
              clear hc3 hf3
              refine wp_region_lat hb3 (by kernel_rfl) (by kernel_rfl) ?_
              intro hne hcl
              repeat (go_big_quiet_step (first | (go_at_call_of 16 (Value.int IntKind.i64 x); exact lat_of (hasI a b x _ _ PP.out)) | (go_at_call 16; exact lat_of (hasI a b (x + S - 1) _ _ QQ.out)) | (go_at_call 17; exact lat_of (sizeI x y _ _ SS.out))))
              refine wpQuiet_nil ?_
              intro w4 hb4
              obtain ⟨hc4, hf4⟩ := bcell hb4
              clear hne hcl
              go_wp2_with fail
              refine (inI a b a b _ _ I.out).mono ?_
              rintro e w5 ⟨rfl, hq5⟩
              have hb5 := below_later hb4 hq5
              clear hq5 hc4 hf4
              obtain ⟨hc5, hf5⟩ := bcell hb5
              go_wp2_with fail
              refine (inI x y a b _ _ U.out).mono ?_
              rintro e w6 ⟨rfl, hq6⟩
              have hb6 := below_later hb5 hq6
              clear hq6 hc5 hf5
              obtain ⟨hc6, hf6⟩ := bcell hb6
              go_wp2_with fail
              go_ret
              exact ⟨rfl, below_later zW hb6⟩
            · have EQ := hid_in (AN.out rfl rfl)
              clear AN
              go_wp2_with fail
              refine (inS a b x y _ _ V.out).mono ?_
              rintro e w1 ⟨rfl, hb1⟩
              obtain ⟨hc1, hf1⟩ := bcell hb1
              go_wp2_with fail
              refine (specOk a b _ _ O1.out).mono ?_
              rintro e w2 ⟨rfl, hq2⟩
              have hb2 := below_later hb1 hq2
              clear hq2 hc1 hf1
              obtain ⟨hc2, hf2⟩ := bcell hb2
              go_wp2_with fail
              refine (specOk x y _ _ O2.out).mono ?_
              rintro e w3 ⟨rfl, hq3⟩
              have hb3 := below_later hb2 hq3
              clear hq3 hc2 hf2
              obtain ⟨hc3, hf3⟩ := bcell hb3
              go_wp2_with fail
              clear hc3 hf3
              refine wp_region_lat hb3 (by kernel_rfl) (by kernel_rfl) ?_
              intro hne hcl
              repeat (go_big_quiet_step (first | (go_at_call_of 16 (Value.int IntKind.i64 x); exact lat_of (hasI a b x _ _ PP.out)) | (go_at_call 16; exact lat_of (hasI a b (x + S - 1) _ _ QQ.out)) | (go_at_call 17; exact lat_of (sizeI x y _ _ SS.out))))
              refine wpQuiet_nil ?_
              intro w4 hb4
              obtain ⟨hc4, hf4⟩ := bcell hb4
              clear hne hcl
              obtain ⟨rfl, rfl⟩ := EQ.out
              clear EQ
              go_wp2_with fail
              refine (inI a b a b _ _ I.out).mono ?_
              rintro e w5 ⟨rfl, hq5⟩
              have hb5 := below_later hb4 hq5
              clear hq5 hc4 hf4
              obtain ⟨hc5, hf5⟩ := bcell hb5
              go_wp2_with fail
              refine (inI a b a b _ _ U.out).mono ?_
              rintro e w6 ⟨rfl, hq6⟩
              have hb6 := below_later hb5 hq6
              clear hq6 hc5 hf5
              obtain ⟨hc6, hf6⟩ := bcell hb6
              go_wp2_with fail
              go_ret
              exact ⟨rfl, below_later zW hb6⟩
    · have hvf : v = false := by
        rw [← V.out]
        cases o1
        · simp [inBlk, ho1]
        · cases o2
          · simp [inBlk, ho2]
          · exact absurd ⟨rfl, rfl⟩ hoo
      subst hvf
      clear ho1 ho2
      cases o1
      · clear hoo O2
        go_wp2_with fail
        refine (inS a b x y _ _ V.out).mono ?_
        rintro e w1 ⟨rfl, hb1⟩
        obtain ⟨hc1, hf1⟩ := bcell hb1
        go_wp2_with fail
        refine (specOk a b _ _ O1.out).mono ?_
        rintro e w2 ⟨rfl, hq2⟩
        have hb2 := below_later hb1 hq2
        clear hq2 hc1 hf1
        obtain ⟨hc2, hf2⟩ := bcell hb2
        go_wp2_with fail
        refine (inS a b x y _ _ V.out).mono ?_
        rintro e w3 ⟨rfl, hq3⟩
        have hb3 := below_later hb2 hq3
        clear hq3 hc2 hf2
        obtain ⟨hc3, hf3⟩ := bcell hb3
        go_wp2_with fail
        go_ret
        exact ⟨rfl, below_later zW hb3⟩
      · cases o2
        · clear hoo
          go_wp2_with fail
          refine (inS a b x y _ _ V.out).mono ?_
          rintro e w1 ⟨rfl, hb1⟩
          obtain ⟨hc1, hf1⟩ := bcell hb1
          go_wp2_with fail
          refine (specOk a b _ _ O1.out).mono ?_
          rintro e w2 ⟨rfl, hq2⟩
          have hb2 := below_later hb1 hq2
          clear hq2 hc1 hf1
          obtain ⟨hc2, hf2⟩ := bcell hb2
          go_wp2_with fail
          refine (specOk x y _ _ O2.out).mono ?_
          rintro e w3 ⟨rfl, hq3⟩
          have hb3 := below_later hb2 hq3
          clear hq3 hc2 hf2
          obtain ⟨hc3, hf3⟩ := bcell hb3
          go_wp2_with fail
          refine (inS a b x y _ _ V.out).mono ?_
          rintro e w4 ⟨rfl, hq4⟩
          have hb4 := below_later hb3 hq4
          clear hq4 hc3 hf3
          obtain ⟨hc4, hf4⟩ := bcell hb4
          go_wp2_with fail
          go_ret
          exact ⟨rfl, below_later zW hb4⟩
        · exact absurd ⟨rfl, rfl⟩ hoo
end Go.Proofs.Ytbcehchjinlacaa
