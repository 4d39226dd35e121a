/- What is proved: the walk of FnExactRulesPut. The conditions stand at the theorem. -/
import Derived.Test.YtbimfhlmcdpnmaaDoorPutJ
import Derived.Test.YtbimfhlmcdpnmaaDoorTabR
namespace Go.Proofs.YtbimfhlmcdpnmaaDoor
open Go.RowKit Go.LatT Go.BlockM Go.OpnT
set_option linter.unusedVariables false
set_option linter.unusedSimpArgs false
set_option maxHeartbeats 600000 in
set_option maxRecDepth 100000 in
theorem walk_FnExactRulesPut (a0 : Option Addr) (len0 cap0 : Nat) (E0 : Nat → Nat → Int) (w : World) (hT : Tab w a0 len0 8 E0) (_ : ∀ i j, (Lit.int .i64 (E0 i j)).wf = true) (h1 : len0 ≤ cap0) (h2 : cap0 ≤ maxLen) (hp : Pow w) :
    Calls Tryd.prog 3 #[.slice a0 len0 cap0] w fun e w' => e = .returned (.bool true) ∧ Below w.heap.size w w' := by
  have HT := hid_in hT; have HP := hid_in hp
  clear hT hp
  obtain ⟨n, hn⟩ : ∃ n, (if (1048576 : Int) - len0 < 0 then -1 else (1048576 : Int) - len0) = n := ⟨_, rfl⟩
  have HN := hid_in hn
  by_cases hlen : len0 ≤ 1048576
  · have hn2 : 0 ≤ n := by rw [← hn, if_neg (by omega)]; omega
    clear hn
    go_enter Tryd.func3, Tryd.ntmps3
    go_wp2_with fail
    refine (szRuleS_any a0 len0 cap0 _ 1048576 (by omega) (by omega) (by omega) n HN.out).mono ?_
    rintro e w' ⟨rfl, rfl⟩
    go_wp2_with fail
    refine (toRuleS_any a0 len0 cap0 E0 _ HT.out hlen).mono ?_
    rintro e w1 ⟨a1, rfl, T1, hb1⟩
    have T1' := hid_in T1
    clear T1
    go_wp2_with fail
    refine (rulesPutS a1 len0 len0 E0 _ T1'.out hlen).mono ?_
    rintro e w2 ⟨v, V1, rfl, hb2⟩
    have Z2 := hid_in (below_later hb1 hb2); have V1' := hid_in V1
    clear hb1 hb2 V1 T1'
    obtain ⟨S, hS⟩ : ∃ S, (if v then putT E0 len0 else []) = S := ⟨_, rfl⟩
    have HS := hid_in hS
    rw [hS]
    clear hS
    go_wp2_with fail
    refine (toRuleS_any a0 len0 cap0 E0 _ (HT.out.later Z2.out) hlen).mono ?_
    rintro e w3 ⟨a3, rfl, T3, hb3⟩
    have T3' := hid_in T3
    have Z3 := hid_in (below_later Z2.out hb3)
    clear T3 hb3
    go_wp2_with fail
    refine (rulesPutI a3 len0 len0 E0 _ T3'.out hlen (HP.out.later Z3.out)).mono ?_
    rintro e w4 ⟨v4, V4, rfl, hb4⟩
    obtain rfl : v4 = v := V4.one V1'.out
    rw [HS.out]
    have Z4 := hid_in (below_later Z3.out hb4)
    have T4 := hid_in (T3'.out.later hb4)
    clear V4 V1' hb4 Z2 Z3 T3' HS
    go_wp2_with fail
    refine (toRuleS_any a0 len0 cap0 E0 _ (HT.out.later Z4.out) hlen).mono ?_
    rintro e w5 ⟨a5, rfl, T5, hb5⟩
    have T5' := hid_in T5
    clear T5
    go_wp2_with fail
    refine (eqRuleS_any a3 a5 len0 len0 len0 E0 _ (T4.out.later hb5) T5'.out hlen).mono ?_
    rintro e w6 ⟨rfl, hb6⟩
    go_wp2_with fail
    go_ret
    exact ⟨rfl, below_later (below_later Z4.out hb5) hb6⟩
  · have hn2 : n < 0 := by rw [← hn, if_pos (by omega)]; omega
    clear hn
    go_enter Tryd.func3, Tryd.ntmps3
    go_wp2_with fail
    refine (szRuleS_any a0 len0 cap0 _ 1048576 (by omega) (by omega) (by omega) n HN.out).mono ?_
    rintro e w' ⟨rfl, rfl⟩
    go_wp2_with fail
    go_ret
    exact ⟨rfl, Below.refl _ _⟩
end Go.Proofs.YtbimfhlmcdpnmaaDoor
