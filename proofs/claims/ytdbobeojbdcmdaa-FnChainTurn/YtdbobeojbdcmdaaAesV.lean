/- A block turned by keys, in the specification, as a contract. The conditions stand at each theorem. -/
import Derived.Test.YtdbobeojbdcmdaaAesU
namespace Go.Proofs.Ytdbobeojbdcmdaa
open Go.RowKit Go.LatT Go.BlockM Go.PlainAid Go.OpnT Go.ApdG Go.BytM Go.AesM
set_option linter.unusedVariables false
set_option linter.unusedSimpArgs false
theorem OL.congr {W : World} {B n : Nat} {v : Value} {f h : Nat → Nat} (o : OL W B v n f) (e : ∀ i, i < n → f i = h i) : OL W B v n h := by
  unfold OL; rw [← nC_congr e]; exact o
theorem LS.congr {w W : World} {v : Value} {n : Nat} {f h : Nat → Nat} (l : LS w W v n f) (e : ∀ i, i < n → f i = h i) : LS w W v n h := ⟨l.bel, l.own.congr e⟩
theorem LS.stored {w W : World} {g c n : Nat} {f : Nat → Nat} (l : LS w W (.slice (some ⟨g, 0, none⟩) n c) n f) (hg : w.heap.size ≤ g) (k b : Nat) :
    LS w (W.setCell ⟨g, k, none⟩ (.int .i64 (b : Int))) (.slice (some ⟨g, 0, none⟩) n c) n (fun i => if i = k then b else f i) := by
  refine ⟨l.bel.setCell hg _, ?_⟩
  have := (World.ownsRow.stored l.own k (.int .i64 (b : Int))).1
  rw [nC_set] at this
  exact this
/-- A list made later is as one made since. -/
theorem LS.of_mk {w W W' : World} {v : Value} {n : Nat} {f : Nat → Nat} (hb : Below w.heap.size w W) (O : OL W' W.heap.size v n f) (h : Below W.heap.size W W') : LS w W' v n f := ⟨below_later hb h, O.mono hb.size⟩
/-- Keys of rounds as one list. -/
def flatK (K : Nat → Nat → Nat) (x : Nat) : Nat := K (x / 16) (x % 16)
theorem flatK_at (K : Nat → Nat → Nat) (r i : Nat) (hi : i < 16) : flatK K (16 * r + i) = K r i := by
  unfold flatK
  rw [show (16 * r + i) / 16 = r by omega, show (16 * r + i) % 16 = i by omega]
theorem flatK_by {K : Nat → Nat → Nat} (hK : ∀ i, i < 11 → By 16 (K i)) : By 176 (flatK K) := fun x hx => hK _ (by omega) _ (Nat.mod_lt _ (by omega))
set_option maxHeartbeats 4000000 in
set_option maxRecDepth 100000 in
theorem l6Put_any (gk ck : Nat) (K : Nat → Nat → Nat) (s : ByteArray) (w : World) (hR : NR w gk 176 (flatK K)) (hs : s.size = 16) (hK : ∀ i, i < 11 → By 16 (K i)) :
    Calls Try.prog 30 #[.slice (some ⟨gk, 0, none⟩) 176 ck, .string s] w fun e w' => e = .returned (.string (txt 16 (enc K (bn s) 10))) ∧ Below w.heap.size w w' := by
  have HR := hid_in hR
  have hf : By 16 (bn s) := fun i _ => bn_lt s i
  clear hR
  go_enter Try.func30, Try.ntmps30
  go_wp2_with fail
  refine (l6Sub_any _).mono ?_
  rintro e w1 ⟨vt, rfl, Ot, hb1⟩
  obtain ⟨gt, ct, rfl, hct, hgt, RT, _⟩ := Ot.row (by omega)
  have RK := hid_in (HR.out.later hb1)
  have HT := hid_in RT
  have HB1 := hid_in hb1
  clear Ot hb1 RT
  go_wp2_with fail
  refine (l6Bytes_any s _ (by omega)).mono ?_
  rintro e w2 ⟨v2, rfl, O2, hb2⟩
  rw [hs] at O2
  obtain ⟨g2, c2, rfl, hc2, hg2, R2, _⟩ := O2.row (by omega)
  have HR2 := hid_in R2; have HB2 := hid_in hb2
  have RK2 := hid_in (RK.out.later hb2)
  clear O2 R2 hb2
  go_wp2_with fail
  refine (l6Add_any g2 c2 gk ck 0 (bn s) (flatK K) _ HR2.out RK2.out (by omega) hf (flatK_by hK)).mono ?_
  rintro e w3 ⟨v3, rfl, O3, hb3⟩
  have L3 := hid_in ((LS.of_mk HB2.out O3 hb3).congr (h := enc K (bn s) 0) (fun i hi => by show bn s i ^^^ flatK K (16 * 0 + i) = bn s i ^^^ K 0 i; rw [flatK_at K 0 i hi]))
  clear O3 hb3 RK2 HR2 HB2
  go_wp2_with fail
  go_loopw [6, 7] (fun o v wr => ∃ r : Nat, r ≤ 10 ∧ v = .int .i64 ((r + 1 : Nat) : Int) ∧ Hid (LS w1 wr o 16 (enc K (bn s) r))) (fun _ v _ => 11 - (intOf v).toNat)
  case atStart => exact ⟨0, by omega, rfl, L3⟩
  case round =>
    obtain ⟨r, hr, rfl, HW⟩ := hrel
    by_cases hlt : r < 10
    · obtain ⟨q, hq⟩ : ∃ q, r + 1 = q := ⟨_, rfl⟩
      have hsb := enc_by hK hf r (by omega)
      have hq10 : q ≤ 10 := by omega
      have QE := hid_in (show enc K (bn s) q = stp K q (enc K (bn s) r) by rw [← hq]; rfl)
      have HQ := hid_in hq
      rw [hq]
      clear hq
      generalize enc K (bn s) r = x at *
      have q1 : (q : Int) ≤ 10 := by omega
      obtain ⟨g, c, hu, hc, hg, R, hfz⟩ := HW.out.own.row (by omega)
      have HU := hid_in hu
      rw [hu] at HW
      rw [hu]
      clear hu R hfz
      go_wp2_with fail
      go_loopw [8] (fun v wr => ∃ k : Nat, k ≤ 16 ∧ v = .int .i64 (k : Int) ∧ Hid (LS w1 wr (.slice (some ⟨g, 0, none⟩) 16 c) 16 (fun j => if j < k then there (x j) else x j))) (fun v _ => 16 - (intOf v).toNat)
      case atStart => exact ⟨0, by omega, rfl, HW.out.congr (fun i _ => by simp)⟩
      case round =>
        obtain ⟨k, hk, rfl, HV⟩ := hrel
        have hz := HV.out.bel.size
        by_cases hkl : k < 16
        · have HKL := hid_in hkl
          have q2 : (k : Int) < 16 := by omega
          obtain ⟨g', c', hu', _, _, R, hfz⟩ := HV.out.own.row (by omega)
          obtain ⟨rfl, rfl⟩ : g = g' ∧ c = c' := by simpa using hu'
          have d1 := R.cell k hkl
          rw [if_neg (Nat.lt_irrefl k)] at d1
          have hxk := hsb k hkl
          have d2 := (HT.out.at HV.out.bel HT.out.lt).cell (x k) hxk
          have d3 := hfz k
          have m1 := R.lt
          have m2 : gt < wr.heap.size := by have := HT.out.lt; omega
          have q3 : ((x k : Nat) : Int) < 256 := by omega
          clear R hfz hu'
          go_wp2_with fail
          refine ⟨⟨k + 1, HKL.out, by simp, ?_⟩, by have := HKL.out; simp [intOf]; omega⟩
          refine (HV.out.stored hg k (there (x k))).congr (fun i hi => ?_)
          show (if i = k then there (x k) else if i < k then there (x i) else x i) = if i < k + 1 then there (x i) else x i
          by_cases e : i = k
          · subst e; rw [if_pos rfl, if_pos (by omega)]
          · by_cases e2 : i < k
            · rw [if_neg e, if_pos e2, if_pos (by omega)]
            · rw [if_neg e, if_neg e2, if_neg (by omega)]
        · have q2 : ¬ (k : Int) < 16 := by omega
          have V1 := hid_in (HV.out.congr (h := fun i => there (x i)) (fun i hi => by show (if i < k then _ else _) = _; rw [if_pos (by omega)]))
          obtain ⟨g', c', hu', _, _, R, hfz⟩ := V1.out.own.row (by omega)
          obtain ⟨rfl, rfl⟩ : g = g' ∧ c = c' := by simpa using hu'
          have RR := hid_in R
          clear R hfz hu' HV hz
          go_wp2_with fail
          refine (l6Shift_any g c 1 1 _ _ RR.out (.inl ⟨rfl, rfl⟩)).mono ?_
          rintro e w5 ⟨v5, rfl, O5, hb5⟩
          have L5 := hid_in (LS.of_mk V1.out.bel O5 hb5)
          obtain ⟨g5, c5, rfl, hc5, hg5, R5, hf5⟩ := O5.row (by omega)
          have HR5 := hid_in R5
          have sb5 := shf_by (c := 1) (there_by hsb)
          have RK5 := hid_in (RK.out.at L5.out.bel RK.out.lt)
          clear RR V1 O5 hb5 R5 hf5
          by_cases hq9 : q < 10
          · have q9 : (q : Int) < 10 := by omega
            go_wp2_with fail
            have RF : NR (w5.alloc (.cells #[.int .i64 2, .int .i64 3, .int .i64 1, .int .i64 1] 3)) w5.heap.size 4 fac := ⟨by simp, fun i hi => by
              have hi' : i = 0 ∨ i = 1 ∨ i = 2 ∨ i = 3 := by omega
              rcases hi' with rfl | rfl | rfl | rfl <;> simp [fac]⟩
            refine (l6Mix_any g5 c5 _ 4 _ fac _ (HR5.out.later (below_box _ _)) RF sb5 (by intro i hi; unfold fac; split <;> (try split) <;> omega)).mono ?_
            rintro e w6 ⟨v6, rfl, O6, hb6⟩
            have L6 := hid_in (LS.of_mk (L5.out.bel.alloc L5.out.bel.size _) O6 hb6)
            obtain ⟨g6, c6, rfl, hc6, hg6, R6, hf6⟩ := O6.row (by omega)
            have HR6 := hid_in R6
            have RK6 := hid_in (RK.out.at L6.out.bel RK.out.lt)
            clear RF O6 hb6 R6 hf6 L5 HR5 RK5
            go_wp2_with fail
            refine (l6Add_any g6 c6 gk ck q _ (flatK K) _ HR6.out RK6.out hq10 (mix_by sb5) (flatK_by hK)).mono ?_
            rintro e w7 ⟨v7, rfl, O7, hb7⟩
            have L7 := hid_in ((LS.of_mk L6.out.bel O7 hb7).congr (h := stp K q x) (fun i hi => by show mix _ _ i ^^^ flatK K (16 * q + i) = stp K q x i; rw [flatK_at K q i hi]; unfold stp; rw [if_pos hq9]))
            clear O7 hb7 HR6 RK6 L6
            go_wp2_with fail
            refine ⟨⟨q, hq10, by simp, ?_⟩, by have := HQ.out; simp [intOf]; omega⟩
            rw [QE.out]; exact L7
          · have q9 : ¬ (q : Int) < 10 := by omega
            go_wp2_with fail
            refine (l6Add_any g5 c5 gk ck q _ (flatK K) _ HR5.out RK5.out hq10 sb5 (flatK_by hK)).mono ?_
            rintro e w7 ⟨v7, rfl, O7, hb7⟩
            have L7 := hid_in ((LS.of_mk L5.out.bel O7 hb7).congr (h := stp K q x) (fun i hi => by show shf 1 _ i ^^^ flatK K (16 * q + i) = stp K q x i; rw [flatK_at K q i hi]; unfold stp; rw [if_neg hq9]))
            clear O7 hb7 HR5 RK5 L5
            go_wp2_with fail
            refine ⟨⟨q, hq10, by simp, ?_⟩, by have := HQ.out; simp [intOf]; omega⟩
            rw [QE.out]; exact L7
    · obtain rfl : r = 10 := by omega
      obtain ⟨g, c, hu, hc, hg, R, hfz⟩ := HW.out.own.row (by omega)
      have HR3 := hid_in R
      rw [hu]
      clear hu R hfz
      go_wp2_with fail
      refine (l6Text_any g c 16 _ _ HR3.out (by omega) (enc_by hK hf 10 (by omega))).mono ?_
      rintro e w8 ⟨rfl, hb8⟩
      go_wp2_with fail
      go_ret
      exact ⟨rfl, below_later HB1.out (below_later HW.out.bel hb8)⟩
end Go.Proofs.Ytdbobeojbdcmdaa
