/- A block turned back by keys, in the specification, as a contract. The conditions stand at each theorem. -/
import Derived.Test.YtdbobeojbdcmdaaAesV
namespace Go.Proofs.Ytdbobeojbdcmdaa
open Go.RowKit Go.LatT Go.BlockM Go.PlainAid Go.OpnT Go.ApdG Go.BytM Go.AesM
set_option linter.unusedVariables false
set_option linter.unusedSimpArgs false
set_option maxHeartbeats 2000000 in
set_option maxRecDepth 100000 in
theorem l6Back_any (w : World) :
    Calls Try.prog 66 #[] w fun e w' => MkP w 256 back e w' := by
  have hmk : ∀ W : World, (Instr.makeSlice 37 (.int .i64 256) (.int .i64 256)).run Try.prog W = .ok (.slice (some ⟨W.heap.size, 0, none⟩) 256 256) (W.alloc (.cells (Array.replicate 256 (.int .i64 0)) 3)) := fun W => make1 elemI 256 (by omega) W rfl
  have Z0 : Hid (LS w (w.alloc (.cells (Array.replicate 256 (.int .i64 0)) 3)) (.slice (some ⟨w.heap.size, 0, none⟩) 256 256) 256 (fun _ => 0)) := by
    refine ⟨below_box _ _, ?_⟩
    have h := World.ownsRow_lit (base := w.heap.size) (e := 3) (size := 1) w (Array.replicate 256 (Value.int .i64 0)) 256 (Nat.le_refl _) (by unfold maxLen; omega) (by simp)
    have e1 : (Array.replicate 256 (Value.int .i64 0)).toList = nC 256 (fun _ => 0) := by kernel_rfl
    rw [e1] at h
    exact h
  go_enter Try.func66, Try.ntmps66
  go_wp2_with fail
  clear hmk
  generalize (w.alloc (.cells (Array.replicate 256 (.int .i64 0)) 3)) = W0 at *
  refine (l6Sub_any _).mono ?_
  rintro e w1 ⟨vt, rfl, Ot, hb1⟩
  obtain ⟨gt, ct, rfl, hct, hgt, RT, _⟩ := Ot.row (by omega)
  have HT := hid_in RT
  have HG := hid_in hgt
  have Z1 := hid_in (show LS w w1 (.slice (some ⟨w.heap.size, 0, none⟩) 256 256) 256 (fun _ => 0) from ⟨below_later Z0.out.bel hb1, owns_below Z0.out.own hb1⟩)
  have hw0 : w.heap.size < W0.heap.size := by
    obtain ⟨g, c, hu, _, _, R, _⟩ := Z0.out.own.row (by omega)
    have : g = w.heap.size := by simp at hu; exact hu.1.symm
    rw [← this]; exact R.lt
  have hne : gt ≠ w.heap.size := by omega
  clear Ot hb1 RT Z0 hgt hw0
  go_wp2_with fail
  go_loopw [3] (fun v wr => ∃ k : Nat, k ≤ 256 ∧ v = .int .i64 (k : Int) ∧ Hid (LS w wr (.slice (some ⟨w.heap.size, 0, none⟩) 256 256) 256 (fun j => if back j < k then back j else 0)) ∧ Hid (NR wr gt 256 there)) (fun v _ => 256 - (intOf v).toNat)
  case atStart => exact ⟨0, by omega, rfl, Z1.out.congr (fun i _ => by simp), HT⟩
  case round =>
    obtain ⟨k, hk, rfl, HV, HN⟩ := hrel
    by_cases hkl : k < 256
    · have HKL := hid_in hkl
      have q2 : (k : Int) < 256 := by omega
      obtain ⟨y, hy⟩ : ∃ y, there k = y := ⟨_, rfl⟩
      have hy256 : y < 256 := by rw [← hy]; exact there_lt k hkl
      have HY := hid_in hy
      obtain ⟨g', c', hu', _, _, R, hfz⟩ := HV.out.own.row (by omega)
      have hu2 : w.heap.size = g' ∧ 256 = c' := by simpa using hu'
      obtain ⟨rfl, rfl⟩ := hu2
      have d1 := R.cell y hy256
      have d2 := HN.out.cell k hkl
      rw [hy] at d2
      have d3 := hfz y
      have m1 := R.lt
      have m2 := HN.out.lt
      have q3 : (y : Int) < 256 := by omega
      clear R hfz hu' hy
      go_wp2_with fail
      refine ⟨⟨k + 1, HKL.out, by simp, ?_, ?_⟩, by have := HKL.out; simp [intOf]; omega⟩
      · refine (HV.out.stored (Nat.le_refl _) y k).congr (fun i hi => ?_)
        show (if i = y then k else if back i < k then back i else 0) = if back i < k + 1 then back i else 0
        have hb := sub_by ⟨i, hi⟩
        have hk2 := sub_by ⟨k, HKL.out⟩
        simp only at hb hk2
        by_cases e : i = y
        · have e2 : back i = k := by rw [e, ← HY.out]; exact hk2.2.2.1
          rw [if_pos e, e2, if_pos (by omega)]
        · have e2 : back i ≠ k := fun h => e (by rw [← HY.out, ← h]; exact hb.2.2.2.symm)
          rw [if_neg e]
          by_cases e3 : back i < k
          · rw [if_pos e3, if_pos (by omega)]
          · rw [if_neg e3, if_neg (by omega)]
      · refine ⟨by simpa using HN.out.lt, fun i hi => ?_⟩
        have := HN.out.cell i hi
        unfold World.cell? at this ⊢
        rw [heap_setCell_other _ ⟨w.heap.size, y, none⟩ _ _ hne]
        exact this
    · have q2 : ¬ (k : Int) < 256 := by omega
      obtain rfl : k = 256 := by omega
      go_wp2_with fail
      go_ret
      exact (HV.out.congr (h := back) (fun i hi => by show (if back i < 256 then _ else _) = _; rw [if_pos (sub_by ⟨i, hi⟩).2.1])).done
set_option maxHeartbeats 4000000 in
set_option maxRecDepth 100000 in
theorem l6Get_any (gk ck : Nat) (K : Nat → Nat → Nat) (s : ByteArray) (w : World) (hR : NR w gk 176 (flatK K)) (hs : s.size = 16) (hK : ∀ i, i < 11 → By 16 (K i)) :
    Calls Try.prog 37 #[.slice (some ⟨gk, 0, none⟩) 176 ck, .string s] w fun e w' => e = .returned (.string (txt 16 fun i => dec K (bn s) 10 i ^^^ K 0 i)) ∧ Below w.heap.size w w' := by
  have HR := hid_in hR
  have hf : By 16 (bn s) := fun i _ => bn_lt s i
  clear hR
  go_enter Try.func37, Try.ntmps37
  go_wp2_with fail
  refine (l6Back_any _).mono ?_
  rintro e w1 ⟨vt, rfl, Ot, hb1⟩
  obtain ⟨gt, ct, rfl, hct, hgt, RT, _⟩ := Ot.row (by omega)
  have RK := hid_in (HR.out.later hb1)
  have HT := hid_in RT
  have HB1 := hid_in hb1
  clear Ot hb1 RT
  go_wp2_with fail
  refine (l6Bytes_any s _ (by omega)).mono ?_
  rintro e w2 ⟨v2, rfl, O2, hb2⟩
  rw [hs] at O2
  have L2 := hid_in (show LS w1 w2 v2 16 (bn s) from ⟨hb2, O2⟩)
  clear O2 hb2
  go_wp2_with fail
  go_loopw [6, 7] (fun o v wr => ∃ n : Nat, n ≤ 10 ∧ v = .int .i64 (10 - (n : Int)) ∧ Hid (LS w1 wr o 16 (dec K (bn s) n))) (fun _ v _ => (intOf v).toNat)
  case atStart => exact ⟨0, by omega, rfl, L2⟩
  case round =>
    obtain ⟨n, hn, rfl, HW⟩ := hrel
    have hsb := dec_by hK hf n
    by_cases hlt : n < 10
    · obtain ⟨q, hq⟩ : ∃ q, 10 - n = q := ⟨_, rfl⟩
      have hq10 : q ≤ 10 := by omega
      have QE := hid_in (show dec K (bn s) (n + 1) = dst K q (dec K (bn s) n) by rw [← hq]; rfl)
      have HQ := hid_in (show n + q = 10 ∧ 1 ≤ q by omega)
      have eq0 : (10 : Int) - (n : Int) = (q : Int) := by omega
      rw [eq0]
      clear hq eq0
      generalize dec K (bn s) n = x at *
      have KQ := hK q (by omega)
      have S1 := xor_by hsb KQ
      have q1 : (1 : Int) ≤ (q : Int) := by have := HQ.out; omega
      obtain ⟨g, c, hu, hc, hg, R, hfz⟩ := HW.out.own.row (by omega)
      have HR2 := hid_in R
      have RK2 := hid_in (RK.out.at HW.out.bel RK.out.lt)
      rw [hu]
      clear hu R hfz
      go_wp2_with fail
      refine (l6Add_any g c gk ck q x (flatK K) _ HR2.out RK2.out hq10 hsb (flatK_by hK)).mono ?_
      rintro e w3 ⟨v3, rfl, O3, hb3⟩
      have L3 := hid_in ((LS.of_mk HW.out.bel O3 hb3).congr (h := fun i => x i ^^^ K q i) (fun i hi => by show x i ^^^ flatK K (16 * q + i) = x i ^^^ K q i; rw [flatK_at K q i hi]))
      clear O3 hb3 RK2 HR2 HW
      have tailS : ∀ (y : Nat → Nat) (hy : By 16 y) (hyd : ∀ i, i < 16 → back (shf 3 y i) = dst K q x i) (wz : World) (vz : Value) (a : Act), True := fun _ _ _ _ _ _ => trivial
      clear tailS
      by_cases hq9 : q < 10
      · have q9 : (q : Int) < 10 := by omega
        obtain ⟨g5, c5, hu5, hc5, hg5, R5, hf5⟩ := L3.out.own.row (by omega)
        have HR5 := hid_in R5
        rw [hu5]
        clear hu5 R5 hf5
        go_wp2_with fail
        have RF : NR (w3.alloc (.cells #[.int .i64 14, .int .i64 11, .int .i64 13, .int .i64 9] 3)) w3.heap.size 4 fad := ⟨by simp, fun i hi => by
          have hi' : i = 0 ∨ i = 1 ∨ i = 2 ∨ i = 3 := by omega
          rcases hi' with rfl | rfl | rfl | rfl <;> simp [fad]⟩
        refine (l6Mix_any g5 c5 _ 4 _ fad _ (HR5.out.later (below_box _ _)) RF S1 (by intro i hi; unfold fad; split <;> (try split) <;> (try split) <;> omega)).mono ?_
        rintro e w6 ⟨v6, rfl, O6, hb6⟩
        have L6 := hid_in (LS.of_mk (L3.out.bel.alloc L3.out.bel.size _) O6 hb6)
        obtain ⟨g6, c6, rfl, hc6, hg6, R6, hf6⟩ := O6.row (by omega)
        have HR6 := hid_in R6
        clear RF O6 hb6 R6 hf6 HR5 L3
        go_wp2_with fail
        refine (l6Shift_any g6 c6 3 (-1) _ _ HR6.out (.inr ⟨rfl, rfl⟩)).mono ?_
        rintro e w7 ⟨v7, rfl, O7, hb7⟩
        have L7 := hid_in (LS.of_mk L6.out.bel O7 hb7)
        have sb7 := shf_by (c := 3) (mix_by (g := fad) S1)
        have YE := hid_in (fun i => show back (shf 3 (mix (fun i => x i ^^^ K q i) fad) i) = dst K q x i by unfold dst; rw [if_pos hq9])
        clear O7 hb7 HR6 L6
        generalize shf 3 (mix (fun i => x i ^^^ K q i) fad) = y at *
        obtain ⟨g, c, hu, hc, hg, R, hfz⟩ := L7.out.own.row (by omega)
        rw [hu] at L7
        rw [hu]
        clear hu R hfz
        go_wp2_with fail
        go_loopw [8] (fun v wr => ∃ k : Nat, k ≤ 16 ∧ v = .int .i64 (k : Int) ∧ Hid (LS w1 wr (.slice (some ⟨g, 0, none⟩) 16 c) 16 (fun j => if j < k then back (y j) else y j))) (fun v _ => 16 - (intOf v).toNat)
        case atStart => exact ⟨0, by omega, rfl, L7.out.congr (fun i _ => by simp)⟩
        case round =>
          obtain ⟨k, hk, rfl, HV⟩ := hrel
          by_cases hkl : k < 16
          · have HKL := hid_in hkl
            have q2 : (k : Int) < 16 := by omega
            obtain ⟨g', c', hu', _, _, R, hfz⟩ := HV.out.own.row (by omega)
            obtain ⟨rfl, rfl⟩ : g = g' ∧ c = c' := by simpa using hu'
            have d1 := R.cell k hkl
            rw [if_neg (Nat.lt_irrefl k)] at d1
            have hxk := sb7 k hkl
            have d2 := (HT.out.at HV.out.bel HT.out.lt).cell (y k) hxk
            have d3 := hfz k
            have m1 := R.lt
            have m2 : gt < wr.heap.size := by have := HT.out.lt; have := HV.out.bel.size; omega
            have q3 : ((y k : Nat) : Int) < 256 := by omega
            clear R hfz hu'
            go_wp2_with fail
            refine ⟨⟨k + 1, HKL.out, by simp, ?_⟩, by have := HKL.out; simp [intOf]; omega⟩
            refine (HV.out.stored hg k (back (y k))).congr (fun i hi => ?_)
            show (if i = k then back (y k) else if i < k then back (y i) else y i) = if i < k + 1 then back (y i) else y i
            by_cases e : i = k
            · subst e; rw [if_pos rfl, if_pos (by omega)]
            · by_cases e2 : i < k
              · rw [if_neg e, if_pos e2, if_pos (by omega)]
              · rw [if_neg e, if_neg e2, if_neg (by omega)]
          · have q2 : ¬ (k : Int) < 16 := by omega
            have V1 := hid_in (HV.out.congr (h := dst K q x) (fun i hi => by show (if i < k then _ else _) = _; rw [if_pos (by omega)]; exact YE.out i))
            clear HV
            go_wp2_with fail
            refine ⟨⟨n + 1, by have := HQ.out; omega, by have := HQ.out; simp; omega, ?_⟩, by have := HQ.out; simp [intOf]; omega⟩
            rw [QE.out]; exact V1
      · have q9 : ¬ (q : Int) < 10 := by omega
        obtain ⟨g5, c5, hu5, hc5, hg5, R5, hf5⟩ := L3.out.own.row (by omega)
        have HR6 := hid_in R5
        rw [hu5]
        clear hu5 R5 hf5
        go_wp2_with fail
        refine (l6Shift_any g5 c5 3 (-1) _ _ HR6.out (.inr ⟨rfl, rfl⟩)).mono ?_
        rintro e w7 ⟨v7, rfl, O7, hb7⟩
        have L7 := hid_in (LS.of_mk L3.out.bel O7 hb7)
        have sb7 := shf_by (c := 3) S1
        have YE := hid_in (fun i => show back (shf 3 (fun i => x i ^^^ K q i) i) = dst K q x i by unfold dst; rw [if_neg hq9])
        clear O7 hb7 HR6 L3
        generalize shf 3 (fun i => x i ^^^ K q i) = y at *
        obtain ⟨g, c, hu, hc, hg, R, hfz⟩ := L7.out.own.row (by omega)
        rw [hu] at L7
        rw [hu]
        clear hu R hfz
        go_wp2_with fail
        go_loopw [8] (fun v wr => ∃ k : Nat, k ≤ 16 ∧ v = .int .i64 (k : Int) ∧ Hid (LS w1 wr (.slice (some ⟨g, 0, none⟩) 16 c) 16 (fun j => if j < k then back (y j) else y j))) (fun v _ => 16 - (intOf v).toNat)
        case atStart => exact ⟨0, by omega, rfl, L7.out.congr (fun i _ => by simp)⟩
        case round =>
          obtain ⟨k, hk, rfl, HV⟩ := hrel
          by_cases hkl : k < 16
          · have HKL := hid_in hkl
            have q2 : (k : Int) < 16 := by omega
            obtain ⟨g', c', hu', _, _, R, hfz⟩ := HV.out.own.row (by omega)
            obtain ⟨rfl, rfl⟩ : g = g' ∧ c = c' := by simpa using hu'
            have d1 := R.cell k hkl
            rw [if_neg (Nat.lt_irrefl k)] at d1
            have hxk := sb7 k hkl
            have d2 := (HT.out.at HV.out.bel HT.out.lt).cell (y k) hxk
            have d3 := hfz k
            have m1 := R.lt
            have m2 : gt < wr.heap.size := by have := HT.out.lt; have := HV.out.bel.size; omega
            have q3 : ((y k : Nat) : Int) < 256 := by omega
            clear R hfz hu'
            go_wp2_with fail
            refine ⟨⟨k + 1, HKL.out, by simp, ?_⟩, by have := HKL.out; simp [intOf]; omega⟩
            refine (HV.out.stored hg k (back (y k))).congr (fun i hi => ?_)
            show (if i = k then back (y k) else if i < k then back (y i) else y i) = if i < k + 1 then back (y i) else y i
            by_cases e : i = k
            · subst e; rw [if_pos rfl, if_pos (by omega)]
            · by_cases e2 : i < k
              · rw [if_neg e, if_pos e2, if_pos (by omega)]
              · rw [if_neg e, if_neg e2, if_neg (by omega)]
          · have q2 : ¬ (k : Int) < 16 := by omega
            have V1 := hid_in (HV.out.congr (h := dst K q x) (fun i hi => by show (if i < k then _ else _) = _; rw [if_pos (by omega)]; exact YE.out i))
            clear HV
            go_wp2_with fail
            refine ⟨⟨n + 1, by have := HQ.out; omega, by have := HQ.out; simp; omega, ?_⟩, by have := HQ.out; simp [intOf]; omega⟩
            rw [QE.out]; exact V1
    · obtain rfl : n = 10 := by omega
      have q1 : ¬ (1 : Int) ≤ (10 : Int) - ((10 : Nat) : Int) := by omega
      obtain ⟨x, hse⟩ : ∃ x, dec K (bn s) 10 = x := ⟨_, rfl⟩
      have SE := hid_in hse
      rw [hse] at hsb HW
      clear hse
      obtain ⟨g, c, hu, hc, hg, R, hfz⟩ := HW.out.own.row (by omega)
      have HR2 := hid_in R
      have RK2 := hid_in (RK.out.at HW.out.bel RK.out.lt)
      rw [hu]
      clear hu R hfz
      go_wp2_with fail
      refine (l6Add_any g c gk ck 0 x (flatK K) _ HR2.out RK2.out (by omega) hsb (flatK_by hK)).mono ?_
      rintro e w3 ⟨v3, rfl, O3, hb3⟩
      have L3 := hid_in ((LS.of_mk HW.out.bel O3 hb3).congr (h := fun i => x i ^^^ K 0 i) (fun i hi => by show x i ^^^ flatK K (16 * 0 + i) = x i ^^^ K 0 i; rw [flatK_at K 0 i hi]))
      clear O3 hb3 RK2 HR2 HW
      obtain ⟨g5, c5, hu5, hc5, hg5, R5, hf5⟩ := L3.out.own.row (by omega)
      have HR5 := hid_in R5
      rw [hu5]
      clear hu5 R5 hf5
      go_wp2_with fail
      refine (l6Text_any g5 c5 16 _ _ HR5.out (by omega) (xor_by hsb (hK 0 (by omega)))).mono ?_
      rintro e w8 ⟨rfl, hb8⟩
      go_wp2_with fail
      go_ret
      exact ⟨by rw [SE.out]; rfl, below_later HB1.out (below_later L3.out.bel hb8)⟩
end Go.Proofs.Ytdbobeojbdcmdaa
