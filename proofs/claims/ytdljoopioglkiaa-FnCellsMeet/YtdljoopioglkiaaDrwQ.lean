/- Addresses drawn. The conditions stand at each theorem. -/
import Derived.Test.YtdljoopioglkiaaDrwP
import Derived.WalkKit
import Derived.WalkSpells
import Derived.WalkLawsBesides
import Derived.BigQuiet
import Derived.Deep.RegionWith
namespace Go.Proofs.Ytdljoopioglkiaa
open Go.RowKit Go.LatT Go.BlockM Go.RegE
set_option linter.unusedVariables false
set_option linter.unusedSimpArgs false
set_option maxHeartbeats 1000000 in
set_option maxRecDepth 100000 in
theorem l12Addr_any (R : Nat) (sl : Value) (p : Int) (w : World) (h : Rdr w R sl p) (hp : 0 ≤ p) (hp' : p ≤ 1000000000) :
    Calls Try.prog 39 #[.pointer (some ⟨R, 0, none⟩)] w fun e w' => ∃ u : Int, e = .returned (.int .i64 u) ∧ 0 ≤ u ∧ u ≤ 4294967295 ∧ (∃ q, p ≤ q ∧ q ≤ p + 10 ∧ Rdr w' R sl q) ∧ Mv R w w' := by
  have H := hid_in h
  clear h
  go_enter Try.func39, Try.ntmps39
  go_wp2_with fail
  refine (pickM R sl p 256 _ H.out (by omega) (by omega) (by omega) (by omega)).mono ?_
  rintro e w1 ⟨u1, rfl, a1, b1, h1, m1⟩
  have H1 := hid_in h1; have M1 := hid_in m1; clear h1 m1
  go_wp2_with fail
  refine (pickM R sl _ 8 _ H1.out (by omega) (by omega) (by omega) (by omega)).mono ?_
  rintro e w2 ⟨u2, rfl, a2, b2, h2, m2⟩
  have H2 := hid_in h2; have M2 := hid_in (M1.out.trans m2); clear h2 m2 H1 M1
  go_wp2_with fail
  refine (pickM R sl _ 16 _ H2.out (by omega) (by omega) (by omega) (by omega)).mono ?_
  rintro e w3 ⟨u3, rfl, a3, b3, h3, m3⟩
  have H3 := hid_in h3; have M3 := hid_in (M2.out.trans m3); clear h3 m3 H2 M2
  go_wp2_with fail
  refine (pickM R sl _ 256 _ H3.out (by omega) (by omega) (by omega) (by omega)).mono ?_
  rintro e w4 ⟨u4, rfl, a4, b4, h4, m4⟩
  have H4 := hid_in h4; have M4 := hid_in (M3.out.trans m4); clear h4 m4 H3 M3
  go_wp2_with fail
  refine (pickM R sl _ 64 _ H4.out (by omega) (by omega) (by omega) (by omega)).mono ?_
  rintro e w5 ⟨u5, rfl, a5, b5, h5, m5⟩
  have H5 := hid_in h5; have M5 := hid_in (M4.out.trans m5); clear h5 m5 H4 M4
  go_wp2_with fail
  refine (oneN R sl _ [167772160 + u1, 167772160 + u2, 167772416 + u3, 3232235520 + u4, 0, 4294967295, 184549375, 2886729728 + u5 * 256] 8 _ 3 w5 rfl rfl H5.out (by omega) (by omega) (by simp) (by simp)).mono ?_
  rintro e w6 ⟨u6, rfl, hu6, h6, m6⟩
  have H6 := hid_in h6; have M6 := hid_in (M5.out.trans m6); clear h6 m6 H5 M5
  have hu7 : 0 ≤ u6 ∧ u6 ≤ 4294967295 := by
    simp only [List.mem_cons, List.not_mem_nil, or_false] at hu6
    omega
  clear hu6
  go_wp2_with fail
  go_ret
  exact ⟨u6, rfl, hu7.1, hu7.2, ⟨_, by omega, by omega, H6.out⟩, M6.out⟩
set_option maxHeartbeats 1000000 in
set_option maxRecDepth 100000 in
theorem l12AnyAddr_any (R : Nat) (sl : Value) (p : Int) (w : World) (h : Rdr w R sl p) (hp : 0 ≤ p) (hp' : p ≤ 900000000) :
    Calls Try.prog 28 #[.pointer (some ⟨R, 0, none⟩)] w fun e w' => ∃ u : Int, e = .returned (.int .i64 u) ∧ -1 ≤ u ∧ u ≤ 1099511627776 ∧ (∃ q, p ≤ q ∧ q ≤ p + 20 ∧ Rdr w' R sl q) ∧ Mv R w w' := by
  have H := hid_in h
  clear h
  go_enter Try.func28, Try.ntmps28
  go_wp2_with fail
  refine (pickM R sl p 16 _ H.out (by omega) (by omega) (by omega) (by omega)).mono ?_
  rintro e w1 ⟨u1, rfl, a1, b1, h1, m1⟩
  have H1 := hid_in h1; have M1 := hid_in m1; clear h1 m1
  by_cases hz : u1 = 0
  · subst hz
    go_wp2_with fail
    refine (oneN R sl _ [-1, 4294967296, 1099511627776] 3 _ 3 w1 rfl rfl H1.out (by omega) (by omega) (by simp) (by simp)).mono ?_
    rintro e w2 ⟨u2, rfl, hu2, h2, m2⟩
    have H2 := hid_in h2; have M2 := hid_in (M1.out.trans m2); clear h2 m2 H1 M1
    have hu3 : -1 ≤ u2 ∧ u2 ≤ 1099511627776 := by
      simp only [List.mem_cons, List.not_mem_nil, or_false] at hu2
      omega
    clear hu2
    go_wp2_with fail
    go_ret
    exact ⟨u2, rfl, hu3.1, hu3.2, ⟨_, by omega, by omega, H2.out⟩, M2.out⟩
  · have hz' : (u1 == 0) = false := by simpa using hz
    clear hz
    go_wp2_with fail
    refine (l12Addr_any R sl _ _ H1.out (by omega) (by omega)).mono ?_
    rintro e w2 ⟨u2, rfl, a2, b2, ⟨q, q1, q2, h2⟩, m2⟩
    have H2 := hid_in h2; have M2 := hid_in (M1.out.trans m2); clear h2 m2 H1 M1
    go_wp2_with fail
    go_ret
    exact ⟨u2, rfl, by omega, by omega, ⟨_, by omega, by omega, H2.out⟩, M2.out⟩
end Go.Proofs.Ytdljoopioglkiaa
