/- What is proved: the walk of the law FnWindowOnce. The conditions stand at each theorem. -/
import Derived.Test.YtmkmbbbmelejoaaWinP
namespace Go.Proofs.Ytmkmbbbmelejoaa
open Go.RowKit Go.LatT Go.BlockM Go.OpnT Go.WinMath Go.RegE
set_option linter.unusedVariables false
set_option linter.unusedSimpArgs false
/-- The code of the k-th number. -/
def cdA (F : Nat → Int) (k : Nat) : Int := codeL (runS F k).1 (runS F k).2 (F k)
theorem runC_get (F : Nat → Int) (n k : Nat) (h : k < n) : (runC F n).getD k 0 = cdA F k := by simp [runC, cdA, h]
theorem topL_ge (T n : Int) (L : List Int) : T ≤ topL T L n := by
  unfold topL
  split <;> omega
theorem taken_inv (F : Nat → Int) : ∀ i, (∀ k, k < i → cdA F k = 0 → F k ∈ (runS F i).2 ∨ F k ≤ (runS F i).1 - 16) ∧ ∀ x, x ∈ (runS F i).2 → ∃ k, k < i ∧ cdA F k = 0 ∧ F k = x
  | 0 => ⟨fun k h => by omega, fun x h => by simp [runS] at h⟩
  | i + 1 => by
    obtain ⟨h1, h2⟩ := taken_inv F i
    obtain ⟨c, hr⟩ := runS_rep F i
    have e1 : (runS F (i + 1)).1 = topL (runS F i).1 (runS F i).2 (F i) := rfl
    have e2 : (runS F (i + 1)).2 = listL (runS F i).1 (runS F i).2 (F i) := rfl
    rw [e1, e2]
    have hge := topL_ge (runS F i).1 (F i) (runS F i).2
    by_cases hc : cdA F i = 0
    · have hc' : codeL (runS F i).1 (runS F i).2 (F i) = 0 := hc
      have hmem : ∀ x, x ∈ listL (runS F i).1 (runS F i).2 (F i) ↔ (x = F i ∨ x ∈ (runS F i).2) ∧ topL (runS F i).1 (runS F i).2 (F i) - 16 < x := by
        intro x
        unfold listL
        rw [if_pos hc', List.mem_filter, mem_ins]
        simp
      refine ⟨fun k hk hk0 => ?_, fun x hx => ?_⟩
      · by_cases hki : k < i
        · rcases h1 k hki hk0 with h | h
          · by_cases ht : topL (runS F i).1 (runS F i).2 (F i) - 16 < F k
            · exact .inl ((hmem _).2 ⟨.inr h, ht⟩)
            · exact .inr (by omega)
          · exact .inr (by omega)
        · obtain rfl : k = i := by omega
          refine .inl ((hmem _).2 ⟨.inl rfl, ?_⟩)
          have hold : ¬ F k ≤ (runS F k).1 - 16 := by
            intro h
            unfold codeL at hc'
            split at hc'
            · simp at hc'
            · simp at hc'
          unfold topL
          split <;> omega
      · rcases ((hmem x).1 hx).1 with rfl | h
        · exact ⟨i, by omega, hc, rfl⟩
        · obtain ⟨k, a, b, d⟩ := h2 x h
          exact ⟨k, by omega, b, d⟩
    · have hc' : ¬ codeL (runS F i).1 (runS F i).2 (F i) = 0 := hc
      have t1 : topL (runS F i).1 (runS F i).2 (F i) = (runS F i).1 := by unfold topL; rw [if_neg (fun h => hc' h.1)]
      have t2 : listL (runS F i).1 (runS F i).2 (F i) = (runS F i).2 := by unfold listL; rw [if_neg hc']
      rw [t1, t2]
      refine ⟨fun k hk hk0 => ?_, fun x hx => ?_⟩
      · by_cases hki : k < i
        · exact h1 k hki hk0
        · obtain rfl : k = i := by omega
          exact absurd hk0 hc
      · obtain ⟨k, a, b, d⟩ := h2 x hx
        exact ⟨k, by omega, b, d⟩
/-- Whether the i-th number was taken ahead of it. -/
def Had (F : Nat → Int) (i k : Nat) : Prop := ∃ j, j < k ∧ cdA F j = 0 ∧ F j = F i
theorem once_a {F : Nat → Int} {i : Nat} (h : cdA F i = 0) : ¬ Had F i i := by
  rintro ⟨j, hj, h0, he⟩
  have := (taken_inv F i).1 j hj h0
  rw [he] at this
  unfold cdA codeL at h
  split at h
  · simp at h
  · split at h
    · simp at h
    · split at h
      · simp at h
      · rcases this with h' | h'
        · contradiction
        · contradiction
theorem once_b {F : Nat → Int} {i : Nat} (h : cdA F i = 3) : Had F i i := by
  unfold cdA codeL at h
  split at h
  · simp at h
  · split at h
    · simp at h
    · split at h
      · rename_i hm
        obtain ⟨j, a, b, d⟩ := (taken_inv F i).2 _ hm
        exact ⟨j, a, b, d⟩
      · simp at h
theorem once_c {F : Nat → Int} {i : Nat} (h1 : (runS F i).1 < F i) (h2 : F i ≤ 1000000) : cdA F i = 0 := by
  obtain ⟨c, hr⟩ := runS_rep F i
  have := hr.t0
  unfold cdA codeL
  rw [if_neg (by omega), if_neg (by omega), if_neg (fun hm => by have := hr.mem _ hm; omega)]
theorem once_d {F : Nat → Int} {i : Nat} (h : cdA F i = 2) : F i ≤ (runS F i).1 - 16 := by
  unfold cdA codeL at h
  split at h
  · simp at h
  · split at h
    · assumption
    · split at h <;> simp at h
theorem once_top (F : Nat → Int) (i : Nat) : (runS F (i + 1)).1 = if cdA F i = 0 ∧ (runS F i).1 < F i then F i else (runS F i).1 := rfl
theorem runR_len2 (L : List Int) : (runR L).length ≤ 60 := by
  unfold runR
  split
  · simp
  · rw [runC_len]; omega
set_option maxHeartbeats 4000000 in
set_option maxRecDepth 100000 in
theorem walk_FnWindowOnce (a : Option Addr) (len cap : Nat) (z : List Int) (w : World) (h : RowC w a len cap z) :
    Calls Try.prog 4 #[.slice a len cap] w fun e w' => e = .returned (.bool true) ∧ Below w.heap.size w w' := by
  have HR := hid_in h
  clear h
  by_cases hlen : len ≤ 1048576
  · have hd : decide ((1048576 : Int) < (len : Int)) = false := by simp; omega
    go_enter Try.func4, Try.ntmps4
    go_wp2_with fail
    refine (drawWindowRun a len cap z _ HR.out hlen).mono ?_
    rintro e w1 ⟨v, L, rfl, hL, o1, hb1⟩
    obtain ⟨a1, c1, rfl⟩ := owns_form o1
    have O1 := hid_in o1; have Z1 := hid_in hb1
    clear o1 hb1
    go_wp2_with fail
    refine (windowRunI _ L _ (owns_il O1.out) (by omega)).mono ?_
    rintro e w2 ⟨v2, rfl, o2, hb2⟩
    have O2 := hid_in (owns_below O1.out hb2); have X2 := hid_in o2; have Z2 := hid_in (below_later Z1.out hb2)
    obtain ⟨a2, c2, rfl⟩ := owns_form o2
    clear o2 hb2 Z1 O1
    go_wp2_with fail
    refine (windowRunS _ L _ (owns_il O2.out) (by omega)).mono ?_
    rintro e w3 ⟨v3, rfl, o3, hb3⟩
    have O3 := hid_in (owns_below O2.out hb3); have X3 := hid_in (owns_below X2.out hb3); have Y3 := hid_in o3; have Z3 := hid_in (below_later Z2.out hb3)
    have hrl := runR_len2 L
    obtain ⟨a3, c3, rfl⟩ := owns_form o3
    clear o3 hb3 Z2 O2 X2
    go_wp2_with fail
    refine (ovI_any _ _ (runR L) _ (owns_il X3.out) (owns_il Y3.out) (by omega)).mono ?_
    rintro e w4 ⟨rfl, hb4⟩
    have O4 := hid_in (owns_below O3.out hb4); have X4 := hid_in (owns_below X3.out hb4); have Z4 := hid_in (below_later Z3.out hb4)
    clear hb4 O3 X3 Y3 Z3
    by_cases h60 : 60 < L.length
    · have hd6 : decide ((60 : Int) < (L.length : Int)) = true := by simp; omega
      go_wp2_with fail
      refine (windowRunS _ L _ (owns_il O4.out) (by omega)).mono ?_
      rintro e w5 ⟨v5, rfl, o5, hb5⟩
      have X5 := hid_in (owns_below X4.out hb5); have Y5 := hid_in o5; have Z5 := hid_in (below_later Z4.out hb5)
      obtain ⟨a5, c5, rfl⟩ := owns_form o5
      clear o5 hb5 X4 O4 Z4
      go_wp2_with fail
      refine (ovI_any _ _ (runR L) _ (owns_il X5.out) (owns_il Y5.out) (by omega)).mono ?_
      rintro e w6 ⟨rfl, hb6⟩
      have Z6 := hid_in (below_later Z5.out hb6)
      clear hb6
      go_wp2_with fail
      go_ret
      exact ⟨rfl, Z6.out⟩
    · have hd6 : decide ((60 : Int) < (L.length : Int)) = false := by simp; omega
      have hrr : runR L = runC (gE L) L.length := by unfold runR; rw [if_neg h60]
      have hrr2 : (runR L).length = L.length := by rw [hrr, runC_len]
      have X4' := X4.out
      rw [hrr2, hrr] at X4'
      have XX := hid_in X4'
      rw [hrr2]
      have FX : Hid (∀ i, i < L.length → ∃ g, a2 = some ⟨g, 0, none⟩ ∧ g < w4.heap.size ∧ w4.cell? ⟨g, i, none⟩ = some (.int .i64 (cdA (gE L) i))) := by
        show ∀ i, _
        intro i hi
        obtain ⟨g, cp, e, _, e2, _, _, e5⟩ := owns_some XX.out (by intro h; injection h with _ h2 _; omega)
        have e5i := e5 i (by rw [runC_len]; exact hi)
        rw [Nat.zero_add, runC_get _ _ _ hi] at e5i
        simp at e
        exact ⟨g, e.1, e2, e5i⟩
      have FL : Hid (∀ i, i < L.length → ∃ g, a1 = some ⟨g, 0, none⟩ ∧ g < w4.heap.size ∧ w4.cell? ⟨g, i, none⟩ = some (.int .i64 (gE L i))) := by
        show ∀ i, _
        intro i hi
        obtain ⟨g, cp, e, _, e2, _, _, e5⟩ := owns_some O4.out (by intro h; injection h with _ h2 _; omega)
        have e5i := e5 i hi
        rw [Nat.zero_add] at e5i
        simp at e
        exact ⟨g, e.1, e2, e5i⟩
      clear X4 X4' XX O4 hrr hrr2 hrl
      generalize hF : gE L = F at *
      clear hF
      go_wp2_with fail
      go_loopw [5, 6] (fun vt vi wr => ∃ i : Nat, i ≤ L.length ∧ vi = .int .i64 (i : Int) ∧ vt = .int .i64 (runS F i).1 ∧ Hid (Below w4.heap.size w4 wr)) (fun _ vi _ => L.length - (intOf vi).toNat)
      case atStart => exact ⟨0, Nat.zero_le _, rfl, rfl, by show Below _ _ _; exact Below.refl _ _⟩
      case round =>
        obtain ⟨i, hi, rfl, rfl, HW⟩ := hrel
        by_cases hlt : i < L.length
        · have hdl : decide ((i : Int) < (L.length : Int)) = true := by simp; omega
          have hdl2 : (i : Int) < (L.length : Int) := by omega
          go_wp2_with fail
          go_loopw [7, 8] (fun vh vk wq => ∃ (k : Nat) (b : Bool), k ≤ i ∧ vk = .int .i64 (k : Int) ∧ vh = .bool b ∧ Hid ((b = true ↔ Had F i k) ∧ Below w4.heap.size w4 wq)) (fun _ vk _ => i - (intOf vk).toNat)
          case atStart => exact ⟨0, false, Nat.zero_le _, rfl, rfl, by show _ ∧ _; exact ⟨Iff.intro (fun h => nomatch h) (fun h => by obtain ⟨j, hj, _⟩ := h; omega), HW.out⟩⟩
          case round =>
            obtain ⟨k, b, hk, rfl, rfl, HI⟩ := hrel
            obtain ⟨ga, hga, hga2, _⟩ := FX.out i hlt
            obtain ⟨gl, hgl, hgl2, hgl3⟩ := FL.out i hlt
            have hwi := ((bcell HI.out.2).1 gl i hgl2).trans hgl3
            subst hga hgl
            by_cases hki : k < i
            · have hdk : decide ((k : Int) < (i : Int)) = true := by simp; omega
              have hdk2 : (k : Int) < (L.length : Int) := by omega
              obtain ⟨ga', ea, _, hga3⟩ := FX.out k (by omega)
              obtain ⟨gl', el, _, hgl4⟩ := FL.out k (by omega)
              simp only [Option.some.injEq, Addr.mk.injEq, and_true] at ea el
              subst ea el
              have hwk := ((bcell HI.out.2).1 ga k hga2).trans hga3
              have hwl := ((bcell HI.out.2).1 gl k hgl2).trans hgl4
              clear hga3 hgl3 hgl4
              have step : ∀ b' : Bool, (b' = true ↔ (b = true ∨ (cdA F k = 0 ∧ F k = F i))) → Hid (b' = true ↔ Had F i (k + 1)) := by
                intro b' hb'
                show _ ↔ _
                rw [hb', HI.out.1]
                constructor
                · rintro (⟨j, a1, a2, a3⟩ | ⟨a2, a3⟩)
                  · exact ⟨j, by omega, a2, a3⟩
                  · exact ⟨k, by omega, a2, a3⟩
                · rintro ⟨j, a1, a2, a3⟩
                  by_cases hj : j < k
                  · exact .inl ⟨j, hj, a2, a3⟩
                  · obtain rfl : j = k := by omega
                    exact .inr ⟨a2, a3⟩
              have STEP := hid_in step
              clear step
              generalize hc : cdA F k = c at *
              generalize hfk : F k = fk at *
              generalize hfi : F i = fi at *
              cases b
              · by_cases hc0 : c = 0
                · subst hc0
                  by_cases he : fk = fi
                  · have he' : (fk == fi) = true := by simpa using he
                    have HE := hid_in he
                    clear he
                    go_wp2_with fail
                    go_region
                    all_goals
                      go_wp2_with fail
                      exact ⟨⟨k + 1, true, by omega, by simp, by simp, by show _ ∧ _; exact ⟨STEP.out true (by simp [HE.out]), HI.out.2.drew⟩⟩, by simp [intOf]; omega⟩
                  · have he' : (fk == fi) = false := by simpa using he
                    have HE := hid_in he
                    clear he
                    go_wp2_with fail
                    go_region
                    all_goals
                      go_wp2_with fail
                      exact ⟨⟨k + 1, false, by omega, by simp, by simp, by show _ ∧ _; exact ⟨STEP.out false (by simp [HE.out]), HI.out.2.drew⟩⟩, by simp [intOf]; omega⟩
                · have hc0' : (c == 0) = false := by simpa using hc0
                  have HC := hid_in hc0
                  clear hc0
                  go_wp2_with fail
                  go_region
                  all_goals
                    go_wp2_with fail
                    exact ⟨⟨k + 1, false, by omega, by simp, by simp, by show _ ∧ _; exact ⟨STEP.out false (by simp [HC.out]), HI.out.2.drew⟩⟩, by simp [intOf]; omega⟩
              · go_wp2_with fail
                go_region
                all_goals
                  go_wp2_with fail
                  exact ⟨⟨k + 1, true, by omega, by simp, by simp, by show _ ∧ _; exact ⟨STEP.out true (by simp), HI.out.2.drew⟩⟩, by simp [intOf]; omega⟩
            · have hdk : decide ((k : Int) < (i : Int)) = false := by simp; omega
              have hki2 : k = i := by omega
              subst hki2
              obtain ⟨ga', ea, _, hga3⟩ := FX.out k hlt
              simp only [Option.some.injEq, Addr.mk.injEq, and_true] at ea
              subst ea
              have hwx := ((bcell HI.out.2).1 ga k hga2).trans hga3
              clear hga3 hgl3
              obtain ⟨rc, hrc⟩ := runS_rep F k
              have hT0 := hrc.t0
              have hT1 := hrc.t1
              have hcr := codeL_range (runS F k).1 (F k) (runS F k).2
              have HB2 := hid_in HI.out.2
              have A0 : Hid (cdA F k = 0 → b = false) := fun h => by
                have h1 := once_a h
                cases b
                · rfl
                · exact absurd (HI.out.1.1 rfl) h1
              have B0 : Hid (cdA F k = 3 → b = true) := fun h => HI.out.1.2 (once_b h)
              have C0 : Hid ((runS F k).1 < F k → F k ≤ 1000000 → cdA F k = 0) := fun h1 h2 => once_c h1 h2
              have D0 : Hid (cdA F k = 2 → F k ≤ (runS F k).1 - 16) := fun h => once_d h
              have TOP : Hid ((runS F (k + 1)).1 = if cdA F k = 0 ∧ (runS F k).1 < F k then F k else (runS F k).1) := once_top F k
              have hcr' : 0 ≤ cdA F k ∧ cdA F k ≤ 3 := hcr
              clear hcr hrc HI
              generalize cdA F k = c at *
              generalize (runS F k).1 = T at *
              generalize F k = nn at *
              obtain ⟨hc1, hc2⟩ := hcr'
              have hcases : c = 0 ∨ c = 1 ∨ c = 2 ∨ c = 3 := by omega
              rcases hcases with rfl | rfl | rfl | rfl
              · have hb := A0.out rfl
                subst hb
                by_cases hTn : T < nn
                · have hTn' : decide (T < nn) = true := by simpa using hTn
                  by_cases hn1 : nn ≤ 1000000
                  · have hn1' : decide (nn ≤ 1000000) = true := by simpa using hn1
                    go_wp2_with fail
                    exact ⟨⟨k + 1, by omega, by simp, by rw [TOP.out, if_pos ⟨rfl, hTn⟩], by show Below _ _ _; exact HB2.out⟩, by simp [intOf]; omega⟩
                  · have hn1' : decide (nn ≤ 1000000) = false := by simp; omega
                    go_wp2_with fail
                    exact ⟨⟨k + 1, by omega, by simp, by rw [TOP.out, if_pos ⟨rfl, hTn⟩], by show Below _ _ _; exact HB2.out⟩, by simp [intOf]; omega⟩
                · have hTn' : decide (T < nn) = false := by simp; omega
                  go_wp2_with fail
                  exact ⟨⟨k + 1, by omega, by simp, by rw [TOP.out, if_neg (fun h => hTn h.2)], by show Below _ _ _; exact HB2.out⟩, by simp [intOf]; omega⟩
              · by_cases hTn : T < nn
                · have hTn' : decide (T < nn) = true := by simpa using hTn
                  have hn1' : decide (nn ≤ 1000000) = false := by
                    rw [decide_eq_false_iff_not]
                    intro h; have := C0.out hTn h; simp at this
                  go_wp2_with fail
                  exact ⟨⟨k + 1, by omega, by simp, by rw [TOP.out, if_neg (fun h => by have := h.1; simp at this)], by show Below _ _ _; exact HB2.out⟩, by simp [intOf]; omega⟩
                · have hTn' : decide (T < nn) = false := by simp; omega
                  go_wp2_with fail
                  exact ⟨⟨k + 1, by omega, by simp, by rw [TOP.out, if_neg (fun h => by have := h.1; simp at this)], by show Below _ _ _; exact HB2.out⟩, by simp [intOf]; omega⟩
              · have hD := D0.out rfl
                have hTn' : decide (T < nn) = false := by simp; omega
                have hD' : decide (T - 16 < nn) = false := by simp; omega
                go_wp2_with fail
                exact ⟨⟨k + 1, by omega, by simp, by rw [TOP.out, if_neg (fun h => by have := h.1; simp at this)], by show Below _ _ _; exact HB2.out⟩, by simp [intOf]; omega⟩
              · have hb := B0.out rfl
                subst hb
                by_cases hTn : T < nn
                · have hTn' : decide (T < nn) = true := by simpa using hTn
                  have hn1' : decide (nn ≤ 1000000) = false := by
                    rw [decide_eq_false_iff_not]
                    intro h; have := C0.out hTn h; simp at this
                  go_wp2_with fail
                  exact ⟨⟨k + 1, by omega, by simp, by rw [TOP.out, if_neg (fun h => by have := h.1; simp at this)], by show Below _ _ _; exact HB2.out⟩, by simp [intOf]; omega⟩
                · have hTn' : decide (T < nn) = false := by simp; omega
                  go_wp2_with fail
                  exact ⟨⟨k + 1, by omega, by simp, by rw [TOP.out, if_neg (fun h => by have := h.1; simp at this)], by show Below _ _ _; exact HB2.out⟩, by simp [intOf]; omega⟩
        · have hdl : decide ((i : Int) < (L.length : Int)) = false := by simp; omega
          have e : i = L.length := by omega
          clear e
          go_wp2_with fail
          go_ret
          exact ⟨rfl, below_later Z4.out HW.out⟩
  · have hd : decide ((1048576 : Int) < (len : Int)) = true := by simp; omega
    go_enter Try.func4, Try.ntmps4
    go_wp2_with fail
    go_ret
    exact ⟨rfl, Below.refl _ _⟩
end Go.Proofs.Ytmkmbbbmelejoaa
