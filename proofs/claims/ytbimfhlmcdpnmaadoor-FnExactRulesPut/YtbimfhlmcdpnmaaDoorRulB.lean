/- Whether rules are ok: one rule, and lists of them, in the program and in the specification. The conditions stand at each theorem. -/
import Derived.Test.YtbimfhlmcdpnmaaDoorRulA
import Derived.Test.YtbimfhlmcdpnmaaDoorTabR
import Derived.Test.YtbimfhlmcdpnmaaDoorOpn
import Derived.Deep.OwnRows
import Derived.Deep.LoopGhost
namespace Go.Proofs.YtbimfhlmcdpnmaaDoor
open Go.RowKit Go.LatT Go.BlockM Go.OpnT
set_option linter.unusedVariables false
set_option linter.unusedSimpArgs false
def rokB (o t a b c d l h : Int) : Bool := okB a b && okB c d && decide (0 ≤ l) && decide (l ≤ h) && decide (h ≤ 65535) && deedB o t
set_option maxHeartbeats 2000000 in
set_option maxRecDepth 100000 in
theorem ruleOk_any (o t a b c d l h : Int) (w : World) (v : Bool) (hv : rokB o t a b c d l h = v) :
    Calls Tryd.prog 37 #[.agg #[.int .i64 o, .int .i64 t, .int .i64 a, .int .i64 b, .int .i64 c, .int .i64 d, .int .i64 l, .int .i64 h]] w fun e w' => e = .returned (.bool v) ∧ Below w.heap.size w w' := by
  have V := hid_in hv
  clear hv
  cases hA : okB a b
  · have A := hid_in hA
    clear hA
    go_enter Tryd.func37, Tryd.ntmps37
    go_wp2_with fail
    refine (blockOkI a b _ _ A.out).mono ?_
    rintro e w1 ⟨rfl, hb1⟩
    obtain ⟨hc1, hf1⟩ := bcell hb1
    go_wp2_with fail
    go_ret
    exact ⟨ret_bool (by rw [← V.out]; simp [rokB, A.out]), below_under hb1⟩
  · have A := hid_in hA
    clear hA
    cases hB : okB c d
    · have B := hid_in hB
      clear hB
      go_enter Tryd.func37, Tryd.ntmps37
      go_wp2_with fail
      refine (blockOkI a b _ _ A.out).mono ?_
      rintro e w1 ⟨rfl, hb1⟩
      obtain ⟨hc1, hf1⟩ := bcell hb1
      go_wp2_with fail
      refine (blockOkI c d _ _ B.out).mono ?_
      rintro e w2 ⟨rfl, hq2⟩
      have hb2 := below_later hb1 hq2
      clear hq2 hc1 hf1
      obtain ⟨hc2, hf2⟩ := bcell hb2
      go_wp2_with fail
      go_ret
      exact ⟨ret_bool (by rw [← V.out]; simp [rokB, A.out, B.out]), below_under hb2⟩
    · have B := hid_in hB
      clear hB
      by_cases h1 : 0 ≤ l
      · by_cases h2 : l ≤ h
        · by_cases h3 : h ≤ 65535
          · have V2 : Hid (deedB o t = v) := by show _ = v; rw [← V.out]; simp [rokB, A.out, B.out, h1, h2, h3]
            go_enter Tryd.func37, Tryd.ntmps37
            go_wp2_with fail
            refine (blockOkI a b _ _ A.out).mono ?_
            rintro e w1 ⟨rfl, hb1⟩
            obtain ⟨hc1, hf1⟩ := bcell hb1
            go_wp2_with fail
            refine (blockOkI c d _ _ B.out).mono ?_
            rintro e w2 ⟨rfl, hq2⟩
            have hb2 := below_later hb1 hq2
            clear hq2 hc1 hf1
            obtain ⟨hc2, hf2⟩ := bcell hb2
            go_wp2_with fail
            refine (deedOf_any o t a b c d l h _).mono ?_
            rintro e w3 ⟨rfl, hq3⟩
            have hb3 := below_later hb2 hq3
            clear hq3 hc2 hf2
            obtain ⟨hc3, hf3⟩ := bcell hb3
            go_wp2_with fail
            refine (deedOk_any o t _ _ V2.out).mono ?_
            rintro e w4 ⟨rfl, hq4⟩
            have hb4 := below_later hb3 hq4
            clear hq4 hc3 hf3
            obtain ⟨hc4, hf4⟩ := bcell hb4
            go_wp2_with fail
            go_ret
            exact ⟨rfl, below_under hb4⟩
          · have h3b : decide (h ≤ 65535) = false := by simp; omega
            go_enter Tryd.func37, Tryd.ntmps37
            go_wp2_with fail
            refine (blockOkI a b _ _ A.out).mono ?_
            rintro e w1 ⟨rfl, hb1⟩
            obtain ⟨hc1, hf1⟩ := bcell hb1
            go_wp2_with fail
            refine (blockOkI c d _ _ B.out).mono ?_
            rintro e w2 ⟨rfl, hq2⟩
            have hb2 := below_later hb1 hq2
            clear hq2 hc1 hf1
            obtain ⟨hc2, hf2⟩ := bcell hb2
            go_wp2_with fail
            go_ret
            exact ⟨ret_bool (by rw [← V.out]; simp [rokB, h3b]), below_under hb2⟩
        · have h2b : decide (l ≤ h) = false := by simp; omega
          go_enter Tryd.func37, Tryd.ntmps37
          go_wp2_with fail
          refine (blockOkI a b _ _ A.out).mono ?_
          rintro e w1 ⟨rfl, hb1⟩
          obtain ⟨hc1, hf1⟩ := bcell hb1
          go_wp2_with fail
          refine (blockOkI c d _ _ B.out).mono ?_
          rintro e w2 ⟨rfl, hq2⟩
          have hb2 := below_later hb1 hq2
          clear hq2 hc1 hf1
          obtain ⟨hc2, hf2⟩ := bcell hb2
          go_wp2_with fail
          go_ret
          exact ⟨ret_bool (by rw [← V.out]; simp [rokB, h2b]), below_under hb2⟩
      · have h1b : decide (0 ≤ l) = false := by simp; omega
        go_enter Tryd.func37, Tryd.ntmps37
        go_wp2_with fail
        refine (blockOkI a b _ _ A.out).mono ?_
        rintro e w1 ⟨rfl, hb1⟩
        obtain ⟨hc1, hf1⟩ := bcell hb1
        go_wp2_with fail
        refine (blockOkI c d _ _ B.out).mono ?_
        rintro e w2 ⟨rfl, hq2⟩
        have hb2 := below_later hb1 hq2
        clear hq2 hc1 hf1
        obtain ⟨hc2, hf2⟩ := bcell hb2
        go_wp2_with fail
        go_ret
        exact ⟨ret_bool (by rw [← V.out]; simp [rokB, h1b]), below_under hb2⟩
set_option maxHeartbeats 2000000 in
set_option maxRecDepth 100000 in
theorem l4Ok_any (o t a b c d l h : Int) (w : World) (v : Bool) (hv : rokB o t a b c d l h = v) :
    Calls Tryd.prog 30 #[.agg #[.int .i64 o, .int .i64 t, .int .i64 a, .int .i64 b, .int .i64 c, .int .i64 d, .int .i64 l, .int .i64 h]] w fun e w' => e = .returned (.bool v) ∧ Below w.heap.size w w' := by
  have V := hid_in hv
  clear hv
  cases hA : okB a b
  · have A := hid_in hA
    clear hA
    go_enter Tryd.func30, Tryd.ntmps30
    go_wp2_with fail
    refine (specOk a b _ _ A.out).mono ?_
    rintro e w1 ⟨rfl, hb1⟩
    obtain ⟨hc1, hf1⟩ := bcell hb1
    go_wp2_with fail
    go_ret
    exact ⟨ret_bool (by rw [← V.out]; simp [rokB, A.out]), below_under hb1⟩
  · have A := hid_in hA
    clear hA
    cases hB : okB c d
    · have B := hid_in hB
      clear hB
      go_enter Tryd.func30, Tryd.ntmps30
      go_wp2_with fail
      refine (specOk a b _ _ A.out).mono ?_
      rintro e w1 ⟨rfl, hb1⟩
      obtain ⟨hc1, hf1⟩ := bcell hb1
      go_wp2_with fail
      refine (specOk c d _ _ B.out).mono ?_
      rintro e w2 ⟨rfl, hq2⟩
      have hb2 := below_later hb1 hq2
      clear hq2 hc1 hf1
      obtain ⟨hc2, hf2⟩ := bcell hb2
      go_wp2_with fail
      go_ret
      exact ⟨ret_bool (by rw [← V.out]; simp [rokB, A.out, B.out]), below_under hb2⟩
    · have B := hid_in hB
      clear hB
      cases hL : inB l 0 h
      · have L := hid_in hL
        have hv0 : v = false := by rw [← V.out]; simp [inB] at hL; simp [rokB]; omega
        subst hv0
        clear hL V
        go_enter Tryd.func30, Tryd.ntmps30
        go_wp2_with fail
        refine (specOk a b _ _ A.out).mono ?_
        rintro e w1 ⟨rfl, hb1⟩
        obtain ⟨hc1, hf1⟩ := bcell hb1
        go_wp2_with fail
        refine (specOk c d _ _ B.out).mono ?_
        rintro e w2 ⟨rfl, hq2⟩
        have hb2 := below_later hb1 hq2
        clear hq2 hc1 hf1
        obtain ⟨hc2, hf2⟩ := bcell hb2
        go_wp2_with fail
        refine (l1In_any l 0 h _ _ L.out).mono ?_
        rintro e w' ⟨rfl, rfl⟩
        go_wp2_with fail
        go_ret
        exact ⟨rfl, below_under hb2⟩
      · have L := hid_in hL
        have hL' : 0 ≤ l ∧ l ≤ h := by simpa [inB] using hL
        have HL := hid_in hL'
        clear hL hL'
        by_cases h3 : h ≤ 65535
        · cases hD : inB o 0 2
          · have D := hid_in hD
            have hv0 : v = false := by
              rw [← V.out]; simp [inB] at hD
              have : deedB o t = false := by rw [deedB, if_neg (by omega)]; simp; omega
              simp [rokB, this]
            subst hv0
            clear hD V
            go_enter Tryd.func30, Tryd.ntmps30
            go_wp2_with fail
            refine (specOk a b _ _ A.out).mono ?_
            rintro e w1 ⟨rfl, hb1⟩
            obtain ⟨hc1, hf1⟩ := bcell hb1
            go_wp2_with fail
            refine (specOk c d _ _ B.out).mono ?_
            rintro e w2 ⟨rfl, hq2⟩
            have hb2 := below_later hb1 hq2
            clear hq2 hc1 hf1
            obtain ⟨hc2, hf2⟩ := bcell hb2
            go_wp2_with fail
            refine (l1In_any l 0 h _ _ L.out).mono ?_
            rintro e w' ⟨rfl, rfl⟩
            go_wp2_with fail
            refine (l1In_any o 0 2 _ _ D.out).mono ?_
            rintro e w' ⟨rfl, rfl⟩
            go_wp2_with fail
            go_ret
            exact ⟨rfl, below_under hb2⟩
          · have D := hid_in hD
            have hD' : 0 ≤ o ∧ o ≤ 2 := by simpa [inB] using hD
            have V2 : Hid (deedB o t = v) := by
              show _ = v; rw [← V.out]; simp [rokB, A.out, B.out, HL.out.1, HL.out.2, h3]
            clear hD V
            by_cases h2 : o = 2
            · have h2b : (o == 2) = true := by simp [h2]
              have V3 : Hid (inB t 0 3 = v) := by show _ = v; rw [← V2.out]; simp [deedB, h2]
              clear h2 V2 hD'
              go_enter Tryd.func30, Tryd.ntmps30
              go_wp2_with fail
              refine (specOk a b _ _ A.out).mono ?_
              rintro e w1 ⟨rfl, hb1⟩
              obtain ⟨hc1, hf1⟩ := bcell hb1
              go_wp2_with fail
              refine (specOk c d _ _ B.out).mono ?_
              rintro e w2 ⟨rfl, hq2⟩
              have hb2 := below_later hb1 hq2
              clear hq2 hc1 hf1
              obtain ⟨hc2, hf2⟩ := bcell hb2
              go_wp2_with fail
              refine (l1In_any l 0 h _ _ L.out).mono ?_
              rintro e w' ⟨rfl, rfl⟩
              go_wp2_with fail
              refine (l1In_any o 0 2 _ _ D.out).mono ?_
              rintro e w' ⟨rfl, rfl⟩
              go_wp2_with fail
              refine (l1In_any t 0 3 _ _ V3.out).mono ?_
              rintro e w' ⟨rfl, rfl⟩
              go_wp2_with fail
              go_ret
              exact ⟨rfl, below_under hb2⟩
            · have h2b : (o == 2) = false := by simp [h2]
              have V3 : Hid ((t == 0) = v) := by
                show _ = v; rw [← V2.out, deedB, if_neg h2, Bool.eq_iff_iff]; simp; omega
              clear h2 V2 hD'
              go_enter Tryd.func30, Tryd.ntmps30
              go_wp2_with fail
              refine (specOk a b _ _ A.out).mono ?_
              rintro e w1 ⟨rfl, hb1⟩
              obtain ⟨hc1, hf1⟩ := bcell hb1
              go_wp2_with fail
              refine (specOk c d _ _ B.out).mono ?_
              rintro e w2 ⟨rfl, hq2⟩
              have hb2 := below_later hb1 hq2
              clear hq2 hc1 hf1
              obtain ⟨hc2, hf2⟩ := bcell hb2
              go_wp2_with fail
              refine (l1In_any l 0 h _ _ L.out).mono ?_
              rintro e w' ⟨rfl, rfl⟩
              go_wp2_with fail
              refine (l1In_any o 0 2 _ _ D.out).mono ?_
              rintro e w' ⟨rfl, rfl⟩
              go_wp2_with fail
              go_ret
              exact ⟨ret_bool V3.out, below_under hb2⟩
        · have h3b : decide (65535 < h) = true := by simp; omega
          have hv0 : v = false := by rw [← V.out]; simp [rokB, h3]
          subst hv0
          clear V
          go_enter Tryd.func30, Tryd.ntmps30
          go_wp2_with fail
          refine (specOk a b _ _ A.out).mono ?_
          rintro e w1 ⟨rfl, hb1⟩
          obtain ⟨hc1, hf1⟩ := bcell hb1
          go_wp2_with fail
          refine (specOk c d _ _ B.out).mono ?_
          rintro e w2 ⟨rfl, hq2⟩
          have hb2 := below_later hb1 hq2
          clear hq2 hc1 hf1
          obtain ⟨hc2, hf2⟩ := bcell hb2
          go_wp2_with fail
          refine (l1In_any l 0 h _ _ L.out).mono ?_
          rintro e w' ⟨rfl, rfl⟩
          go_wp2_with fail
          go_ret
          exact ⟨rfl, below_under hb2⟩
set_option maxHeartbeats 400000 in
set_option maxRecDepth 100000 in
theorem notOk_any (o t a b c d l h : Int) (w : World) (v : Bool) (hv : (!rokB o t a b c d l h) = v) :
    Calls Tryd.prog 36 #[.agg #[.int .i64 o, .int .i64 t, .int .i64 a, .int .i64 b, .int .i64 c, .int .i64 d, .int .i64 l, .int .i64 h]] w fun e w' => e = .returned (.bool v) ∧ Below w.heap.size w w' := by
  obtain ⟨u, hu⟩ : ∃ u, rokB o t a b c d l h = u := ⟨_, rfl⟩
  rw [hu] at hv
  subst hv
  have U := hid_in hu
  clear hu
  go_enter Tryd.func36, Tryd.ntmps36
  go_wp2_with fail
  refine (ruleOk_any o t a b c d l h _ _ U.out).mono ?_
  rintro e w1 ⟨rfl, hb1⟩
  obtain ⟨hc1, hf1⟩ := bcell hb1
  go_wp2_with fail
  go_ret
  exact ⟨rfl, below_under hb1⟩
end Go.Proofs.YtbimfhlmcdpnmaaDoor
