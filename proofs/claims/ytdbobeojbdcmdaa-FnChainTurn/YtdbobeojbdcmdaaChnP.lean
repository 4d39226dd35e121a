/- What was chained comes back: the walk of the law FnChain. The conditions stand at each theorem. -/
import Derived.Test.YtdbobeojbdcmdaaChnF
import Derived.Test.YtdbobeojbdcmdaaChnG
import Derived.Test.YtdbobeojbdcmdaaTxtN
import Derived.Test.YtdbobeojbdcmdaaBytD
namespace Go.Proofs.Ytdbobeojbdcmdaa
open Go.RowKit Go.LatT Go.BlockM Go.PlainAid Go.OpnT Go.ApdG Go.BytM Go.AesM Go.RegE
set_option linter.unusedVariables false
set_option linter.unusedSimpArgs false
theorem hKS (s : ByteArray) : ∀ i, i < 11 → By 16 (KS (bn s) i) := fun i _ => KS_by (fun i _ => bn_lt s i) i
theorem blk_txt {n : Nat} {F : Nat → Nat → Nat} (hF : ∀ k, k < n → By 16 (F k)) (k : Nat) (hk : k < n) : ∀ j, j < 16 → blk (txt (16 * n) (flatK F)) k j = F k j := by
  intro j hj
  unfold blk
  rw [txt_get _ _ _ (by omega), flatK_at F k j hj]
  exact Nat.mod_eq_of_lt (hF k hk j hj)
theorem txt_blk {u : ByteArray} {n : Nat} (hu : u.size = 16 * n) {F : Nat → Nat → Nat} (h : ∀ k, k < n → ∀ j, j < 16 → F k j = blk u k j) : txt (16 * n) (flatK F) = u := by
  refine (txt_eq hu fun i hi => ?_).symm
  unfold flatK
  rw [h (i / 16) (by omega) (i % 16) (Nat.mod_lt _ (by omega))]
  unfold blk
  congr 1; omega
theorem Chn.of {s t u x : ByteArray} (h : Chn s t u) (hx : x.size = u.size) : Chn s t x := ⟨h.1, h.2.1, by rw [hx]; exact h.2.2.1, by rw [hx]; exact h.2.2.2⟩
theorem cpT_eq {s t u : ByteArray} {n : Nat} (h : Chn s t u) (hn : u.size = 16 * n) : cpT s t u = txt (16 * n) (flatK fun i => cp (KS (bn s)) (bn t) (blk u) (i + 1)) := by
  unfold cpT; rw [if_pos h, show u.size / 16 = n by omega]
theorem cdT_eq {s t u : ByteArray} {n : Nat} (h : Chn s t u) (hn : u.size = 16 * n) : cdT s t u = txt (16 * n) (flatK (cd (KS (bn s)) (bn t) (blk u))) := by
  unfold cdT; rw [if_pos h, show u.size / 16 = n by omega]
theorem cp_by' (s t u : ByteArray) (k : Nat) : By 16 (cp (KS (bn s)) (bn t) (blk u) k) := cp_by (hKS s) (fun i _ => bn_lt t i) (blk_by u) k
theorem cd_by' (s t u : ByteArray) (k : Nat) : By 16 (cd (KS (bn s)) (bn t) (blk u) k) := cd_by (hKS s) (fun i _ => bn_lt t i) (blk_by u) k
theorem cpT_size {s t u : ByteArray} (h : Chn s t u) : (cpT s t u).size = u.size := by
  obtain ⟨n, hn⟩ : ∃ n, u.size = 16 * n := ⟨u.size / 16, by have := h.2.2.1; omega⟩
  rw [cpT_eq h hn, txt_size, hn]
theorem cdT_size {s t u : ByteArray} (h : Chn s t u) : (cdT s t u).size = u.size := by
  obtain ⟨n, hn⟩ : ∃ n, u.size = 16 * n := ⟨u.size / 16, by have := h.2.2.1; omega⟩
  rw [cdT_eq h hn, txt_size, hn]
theorem cd_cp {s t u : ByteArray} (h : Chn s t u) : cdT s t (cpT s t u) = u := by
  obtain ⟨n, hn⟩ : ∃ n, u.size = 16 * n := ⟨u.size / 16, by have := h.2.2.1; omega⟩
  have hx := cpT_size h
  have hb : ∀ k, k < n → ∀ j, j < 16 → blk (cpT s t u) k j = cp (KS (bn s)) (bn t) (blk u) (k + 1) j := fun k hk => by
    rw [cpT_eq h hn]; exact blk_txt (F := fun i => cp (KS (bn s)) (bn t) (blk u) (i + 1)) (fun k _ => cp_by' s t u (k + 1)) k hk
  rw [cdT_eq (h.of hx) (by rw [hx, hn])]
  refine txt_blk hn fun k hk j hj => ?_
  unfold cd
  rw [dec_congr (hb k hk) 10 j hj]
  have hXB := xor_by (blk_by u k) (cp_by' s t u k)
  have e1 : dec (KS (bn s)) (cp (KS (bn s)) (bn t) (blk u) (k + 1)) 10 j ^^^ KS (bn s) 0 j = blk u k j ^^^ cp (KS (bn s)) (bn t) (blk u) k j := dec_enc (hKS s) hXB j hj
  rw [e1]
  have e2 : (if k = 0 then bn t j else blk (cpT s t u) (k - 1) j) = cp (KS (bn s)) (bn t) (blk u) k j := by
    by_cases h0 : k = 0
    · subst h0; rw [if_pos rfl]; rfl
    · rw [if_neg h0, hb (k - 1) (by omega) j hj, show k - 1 + 1 = k by omega]
  rw [e2, Nat.xor_assoc, Nat.xor_self, Nat.xor_zero]
theorem cp_cd {s t u : ByteArray} (h : Chn s t u) : cpT s t (cdT s t u) = u := by
  obtain ⟨n, hn⟩ : ∃ n, u.size = 16 * n := ⟨u.size / 16, by have := h.2.2.1; omega⟩
  have hx := cdT_size h
  have hb : ∀ k, k < n → ∀ j, j < 16 → blk (cdT s t u) k j = cd (KS (bn s)) (bn t) (blk u) k j := fun k hk => by
    rw [cdT_eq h hn]; exact blk_txt (F := cd (KS (bn s)) (bn t) (blk u)) (fun k _ => cd_by' s t u k) k hk
  rw [cpT_eq (h.of hx) (by rw [hx, hn])]
  have main : ∀ k, k ≤ n → ∀ j, j < 16 → cp (KS (bn s)) (bn t) (blk (cdT s t u)) k j = if k = 0 then bn t j else blk u (k - 1) j := by
    intro k
    induction k with
    | zero => intro _ j _; rfl
    | succ k ih =>
      intro hk j hj
      have ihk := ih (by omega)
      rw [if_neg (by omega), Nat.add_sub_cancel]
      show enc (KS (bn s)) (fun j => blk (cdT s t u) k j ^^^ cp (KS (bn s)) (bn t) (blk (cdT s t u)) k j) 10 j = blk u k j
      have e1 : ∀ i, i < 16 → (fun j => blk (cdT s t u) k j ^^^ cp (KS (bn s)) (bn t) (blk (cdT s t u)) k j) i = (fun i => dec (KS (bn s)) (blk u k) 10 i ^^^ KS (bn s) 0 i) i := by
        intro i hi
        show blk (cdT s t u) k i ^^^ cp (KS (bn s)) (bn t) (blk (cdT s t u)) k i = _
        rw [hb k (by omega) i hi, ihk i hi]
        unfold cd
        rw [Nat.xor_assoc, Nat.xor_self, Nat.xor_zero]
      rw [enc_congr e1 10 j hj]
      exact enc_dec (hKS s) (blk_by u k) j hj
  refine txt_blk hn fun k hk j hj => ?_
  rw [main (k + 1) (by omega) j hj, if_neg (by omega), Nat.add_sub_cancel]
theorem cp_congr {K : Nat → Nat → Nat} {f : Nat → Nat} {T U : Nat → Nat → Nat} (n : Nat) (h : ∀ k, k < n → ∀ j, j < 16 → T k j = U k j) : ∀ k, k ≤ n → ∀ j, j < 16 → cp K f T k j = cp K f U k j
  | 0, _, j, _ => rfl
  | k + 1, hk, j, hj => enc_congr (fun i hi => by show T k i ^^^ _ = U k i ^^^ _; rw [h k (by omega) i hi, cp_congr n h k (by omega) i hi]) 10 j hj
theorem cp_less {s t u : ByteArray} {m : Nat} (h : Chn s t u) (hm : u.size = m + 16) : Chn s t (u.extract 0 m) ∧ cpT s t (u.extract 0 m) = (cpT s t u).extract 0 m := by
  obtain ⟨n, hn⟩ : ∃ n, m = 16 * n := ⟨m / 16, by have := h.2.2.1; omega⟩
  have hxs := cpT_size h
  have hes : (u.extract 0 m).size = m := by rw [ext_size _ _ _ (by omega)]; omega
  have hc : Chn s t (u.extract 0 m) := ⟨h.1, h.2.1, by rw [hes, hn]; omega, by rw [hes]; have := h.2.2.2; omega⟩
  refine ⟨hc, ?_⟩
  have hT : ∀ k, k < n → ∀ j, j < 16 → blk (u.extract 0 m) k j = blk u k j := fun k hk j hj => by
    unfold blk; rw [bn_extract u 0 m (16 * k + j) (by omega) (by omega), Nat.zero_add]
  rw [cpT_eq hc (by rw [hes, hn])]
  have hes2 : ((cpT s t u).extract 0 m).size = 16 * n := by rw [ext_size _ _ _ (by omega)]; omega
  refine txt_blk hes2 fun k hk j hj => ?_
  rw [cp_congr n hT (k + 1) (by omega) j hj]
  have e1 : blk ((cpT s t u).extract 0 m) k j = blk (cpT s t u) k j := by
    unfold blk; rw [bn_extract _ 0 m (16 * k + j) (by omega) (by omega), Nat.zero_add]
  rw [e1, cpT_eq h (n := n + 1) (by omega)]
  exact (blk_txt (n := n + 1) (F := fun i => cp (KS (bn s)) (bn t) (blk u) (i + 1)) (fun k _ => cp_by' s t u (k + 1)) k (by omega) j hj).symm
set_option maxHeartbeats 2000000 in
set_option maxRecDepth 100000 in
theorem drawChainPut (a : Option Addr) (len cap : Nat) (z : List Int) (w : World) (h : RowC w a len cap z) (hl : len ≤ 1048576) :
    Calls Try.prog 28 #[.slice a len cap] w fun e w' => ∃ s t u : ByteArray, e = .returned (.tuple #[.string s, .string t, .string u]) ∧ s.size ≤ 40 ∧ t.size ≤ 40 ∧ u.size ≤ 400 ∧ Below w.heap.size w w' := by
  have HR := hid_in h
  clear h
  go_enter Try.func28, Try.ntmps28
  go_wp2_with fail
  refine (l1OpenC a len cap z _ HR.out hl).mono ?_
  rintro e w1 ⟨sl, rfl, h1, hb1⟩
  have H1 := hid_in h1; have HB := hid_in hb1
  clear h1 hb1
  go_wp2_with fail
  refine (pickM _ sl 0 4 _ H1.out (by omega) (by omega) (by omega) (by omega)).mono ?_
  rintro e w2 ⟨u2, rfl, a2, b2, h2, m2⟩
  have H2 := hid_in h2; have M2 := hid_in m2; clear h2 m2 H1
  go_wp2_with fail
  refine (pickM _ sl _ 12 _ H2.out (by omega) (by omega) (by omega) (by omega)).mono ?_
  rintro e w3 ⟨u3, rfl, a3, b3, h3, m3⟩
  have H3 := hid_in h3; have M3 := hid_in (M2.out.trans m3); clear h3 m3 H2 M2
  have tail : ∀ (wq : World) (q : Int) (v : Int), Hid (0 ≤ q ∧ q ≤ 10 ∧ 0 ≤ v ∧ v ≤ 400 ∧ Rdr wq w.heap.size sl q ∧ Mv w.heap.size w1 wq) → True := fun _ _ _ _ => trivial
  clear tail
  by_cases c0 : u3 = 0
  · subst c0
    obtain ⟨n, hn, hn4⟩ : ∃ n : Nat, u2 * 16 + 1 = (n : Int) ∧ n ≤ 400 := ⟨(u2 * 16 + 1).toNat, by omega, by omega⟩
    go_wp2_with fail
    refine (l12Bytes_any _ sl _ 16 _ H3.out (by omega) (by omega) (by omega)).mono ?_
    rintro e w4 ⟨l, rfl, hl4, ⟨q, hq1, hq2, h4⟩, m4⟩
    have HL := hid_in hl4; have M4 := hid_in (M3.out.trans m4); have H4 := hid_in h4; clear hl4 m4 h4 H3 M3
    go_wp2_with fail
    refine (oneN _ sl _ [16, 16, 16, 16, 16, 15] 6 _ 3 w4 rfl rfl H4.out (by omega) (by omega) (by simp) (by simp)).mono ?_
    rintro e w5 ⟨u5, rfl, hu5, h5, m5⟩
    have H5 := hid_in h5; have M5 := hid_in (M4.out.trans m5); clear h5 m5 H4 M4
    obtain ⟨n2, rfl, hn2⟩ : ∃ n : Nat, u5 = (n : Int) ∧ n ≤ 40 := ⟨u5.toNat, by simp at hu5; omega, by simp at hu5; omega⟩
    clear hu5
    go_wp2_with fail
    refine (l12Bytes_any _ sl _ n2 _ H5.out (by omega) (by omega) (by omega)).mono ?_
    rintro e w6 ⟨l6, rfl, hl6, ⟨q6, hq61, hq62, h6⟩, m6⟩
    have HL6 := hid_in hl6; have M6 := hid_in (M5.out.trans m6); have H6 := hid_in h6; clear hl6 m6 h6 H5 M5
    go_wp2_with fail
    try rw [hn]
    refine (l12Bytes_any _ sl _ n _ H6.out (by omega) (by omega) (by omega)).mono ?_
    rintro e w7 ⟨l7, rfl, hl7, _, m7⟩
    have HL7 := hid_in hl7; have M7 := hid_in (M6.out.trans m7); clear hl7 m7 H6 M6
    go_wp2_with fail
    go_ret3
    exact ⟨⟨l.toArray⟩, ⟨l6.toArray⟩, ⟨l7.toArray⟩, rfl, by show l.toArray.size ≤ 40; rw [List.size_toArray, HL.out]; omega, by show l6.toArray.size ≤ 40; rw [List.size_toArray, HL6.out]; exact hn2, by show l7.toArray.size ≤ 400; rw [List.size_toArray, HL7.out]; exact hn4, below_mv HB.out (Nat.le_refl _) M7.out⟩
  · by_cases c1 : u3 = 1
    · subst c1
      go_wp2_with fail
      refine (pickM _ sl _ 2 _ H3.out (by omega) (by omega) (by omega) (by omega)).mono ?_
      rintro e w3b ⟨u4, rfl, a4, b4, h3b, m3b⟩
      have H3b := hid_in h3b; have M3b := hid_in (M3.out.trans m3b); clear h3b m3b H3 M3
      obtain ⟨n, hn, hn4⟩ : ∃ n : Nat, 320 + u4 * 16 = (n : Int) ∧ n ≤ 400 := ⟨(320 + u4 * 16).toNat, by omega, by omega⟩
      go_wp2_with fail
      refine (l12Bytes_any _ sl _ 16 _ H3b.out (by omega) (by omega) (by omega)).mono ?_
      rintro e w4 ⟨l, rfl, hl4, ⟨q, hq1, hq2, h4⟩, m4⟩
      have HL := hid_in hl4; have M4 := hid_in (M3b.out.trans m4); have H4 := hid_in h4; clear hl4 m4 h4 H3b M3b
      go_wp2_with fail
      refine (oneN _ sl _ [16, 16, 16, 16, 16, 15] 6 _ 3 w4 rfl rfl H4.out (by omega) (by omega) (by simp) (by simp)).mono ?_
      rintro e w5 ⟨u5, rfl, hu5, h5, m5⟩
      have H5 := hid_in h5; have M5 := hid_in (M4.out.trans m5); clear h5 m5 H4 M4
      obtain ⟨n2, rfl, hn2⟩ : ∃ n : Nat, u5 = (n : Int) ∧ n ≤ 40 := ⟨u5.toNat, by simp at hu5; omega, by simp at hu5; omega⟩
      clear hu5
      go_wp2_with fail
      refine (l12Bytes_any _ sl _ n2 _ H5.out (by omega) (by omega) (by omega)).mono ?_
      rintro e w6 ⟨l6, rfl, hl6, ⟨q6, hq61, hq62, h6⟩, m6⟩
      have HL6 := hid_in hl6; have M6 := hid_in (M5.out.trans m6); have H6 := hid_in h6; clear hl6 m6 h6 H5 M5
      go_wp2_with fail
      try rw [hn]
      refine (l12Bytes_any _ sl _ n _ H6.out (by omega) (by omega) (by omega)).mono ?_
      rintro e w7 ⟨l7, rfl, hl7, _, m7⟩
      have HL7 := hid_in hl7; have M7 := hid_in (M6.out.trans m7); clear hl7 m7 H6 M6
      go_wp2_with fail
      go_ret3
      exact ⟨⟨l.toArray⟩, ⟨l6.toArray⟩, ⟨l7.toArray⟩, rfl, by show l.toArray.size ≤ 40; rw [List.size_toArray, HL.out]; omega, by show l6.toArray.size ≤ 40; rw [List.size_toArray, HL6.out]; exact hn2, by show l7.toArray.size ≤ 400; rw [List.size_toArray, HL7.out]; exact hn4, below_mv HB.out (Nat.le_refl _) M7.out⟩
    · have d0 : (u3 == 0) = false := by simpa using c0
      have d1 : (u3 == 1) = false := by simpa using c1
      obtain ⟨n, hn, hn4⟩ : ∃ n : Nat, u2 * 16 = (n : Int) ∧ n ≤ 400 := ⟨(u2 * 16).toNat, by omega, by omega⟩
      go_wp2_with fail
      refine (l12Bytes_any _ sl _ 16 _ H3.out (by omega) (by omega) (by omega)).mono ?_
      rintro e w4 ⟨l, rfl, hl4, ⟨q, hq1, hq2, h4⟩, m4⟩
      have HL := hid_in hl4; have M4 := hid_in (M3.out.trans m4); have H4 := hid_in h4; clear hl4 m4 h4 H3 M3
      go_wp2_with fail
      refine (oneN _ sl _ [16, 16, 16, 16, 16, 15] 6 _ 3 w4 rfl rfl H4.out (by omega) (by omega) (by simp) (by simp)).mono ?_
      rintro e w5 ⟨u5, rfl, hu5, h5, m5⟩
      have H5 := hid_in h5; have M5 := hid_in (M4.out.trans m5); clear h5 m5 H4 M4
      obtain ⟨n2, rfl, hn2⟩ : ∃ n : Nat, u5 = (n : Int) ∧ n ≤ 40 := ⟨u5.toNat, by simp at hu5; omega, by simp at hu5; omega⟩
      clear hu5
      go_wp2_with fail
      refine (l12Bytes_any _ sl _ n2 _ H5.out (by omega) (by omega) (by omega)).mono ?_
      rintro e w6 ⟨l6, rfl, hl6, ⟨q6, hq61, hq62, h6⟩, m6⟩
      have HL6 := hid_in hl6; have M6 := hid_in (M5.out.trans m6); have H6 := hid_in h6; clear hl6 m6 h6 H5 M5
      go_wp2_with fail
      try rw [hn]
      refine (l12Bytes_any _ sl _ n _ H6.out (by omega) (by omega) (by omega)).mono ?_
      rintro e w7 ⟨l7, rfl, hl7, _, m7⟩
      have HL7 := hid_in hl7; have M7 := hid_in (M6.out.trans m7); clear hl7 m7 H6 M6
      go_wp2_with fail
      go_ret3
      exact ⟨⟨l.toArray⟩, ⟨l6.toArray⟩, ⟨l7.toArray⟩, rfl, by show l.toArray.size ≤ 40; rw [List.size_toArray, HL.out]; omega, by show l6.toArray.size ≤ 40; rw [List.size_toArray, HL6.out]; exact hn2, by show l7.toArray.size ≤ 400; rw [List.size_toArray, HL7.out]; exact hn4, below_mv HB.out (Nat.le_refl _) M7.out⟩
theorem cpT_no {s t u : ByteArray} (h : ¬ Chn s t u) : cpT s t u = ⟨#[]⟩ := by unfold cpT; rw [if_neg h]
theorem cdT_no {s t u : ByteArray} (h : ¬ Chn s t u) : cdT s t u = ⟨#[]⟩ := by unfold cdT; rw [if_neg h]
theorem emp_of {x : ByteArray} (h : x.size = 0) : x = ⟨#[]⟩ := by
  cases x with
  | mk d => congr 1; exact Array.eq_empty_of_size_eq_zero h
set_option maxHeartbeats 4000000 in
set_option maxRecDepth 100000 in
theorem walk_FnChain (a : Option Addr) (len cap : Nat) (z : List Int) (w : World) (h : RowC w a len cap z) :
    Calls Try.prog 12 #[.slice a len cap] w fun e w' => e = .returned (.bool true) ∧ Below w.heap.size w w' := by
  have hm : (len : Int) ≤ 9223372036854775807 := by
    rcases h with ⟨rfl, _⟩ | ⟨_, _, _, h1, h2, _⟩
    · omega
    · unfold maxLen at h2; omega
  have HR := hid_in h
  clear h
  by_cases hl : len ≤ 1048576
  · go_enter Try.func12, Try.ntmps12
    go_wp2_with fail
    refine (drawChainPut a len cap z _ HR.out hl).mono ?_
    rintro e w1 ⟨s, t, u, rfl, hs, ht, hu, hb1⟩
    have HB := hid_in hb1
    clear hb1
    have I1 := hid_in (fun w => chpI s t u w (by omega) (by omega) (by omega))
    have S1 := hid_in (fun w => chainPutS s t u w (by omega) (by omega) (by omega))
    have hu0 : (u.size : Int) ≤ 400 := by omega
    by_cases hc : Chn s t u
    · have hxs := cpT_size hc
      by_cases h0 : u.size = 0
      · have hx : cpT s t u = ⟨#[]⟩ := emp_of (by rw [hxs, h0])
        rw [hx] at I1 S1
        have a0 : (u.size : Int) = 0 := by omega
        clear hc hxs hx h0
        go_wp2_with fail
        refine (I1.out _).mono ?_
        rintro e w2 ⟨rfl, hb2⟩
        have HB2 := hid_in (below_later HB.out hb2)
        clear hb2 HB
        go_wp2_with fail
        refine (S1.out _).mono ?_
        rintro e w3 ⟨rfl, hb3⟩
        have HB3 := hid_in (below_later HB2.out hb3)
        clear hb3 HB2
        go_wp2_with fail
        refine (S1.out _).mono ?_
        rintro e w4 ⟨rfl, hb4⟩
        have HB4 := hid_in (below_later HB3.out hb4)
        clear hb4 HB3
        go_wp2_with fail
        go_ret
        exact ⟨rfl, HB4.out⟩
      · obtain ⟨m, hm16⟩ : ∃ m, u.size = m + 16 := ⟨u.size - 16, by have := hc.2.2.1; omega⟩
        obtain ⟨hc2, hless⟩ := cp_less hc hm16
        have e1 := cd_cp hc
        have e2 := cp_cd hc
        have hzs := cdT_size hc
        have hn1 : cpT s t u ≠ ⟨#[]⟩ := by intro e; have := congrArg ByteArray.size e; rw [hxs, hm16] at this; simp [ByteArray.size] at this
        obtain ⟨m1, m1', m1''⟩ := toList_nil hn1
        have hes : (u.extract 0 m).size ≤ 1048576 := by rw [ext_size _ _ _ (by omega)]; omega
        have L1 := hid_in (fun w => by have := chpI s t (u.extract 0 m) w (by omega) (by omega) hes; rw [hless] at this; exact this)
        have G1 := hid_in (fun w => by have := chgI s t (cpT s t u) w (by omega) (by omega) (by omega); rw [e1] at this; exact this)
        have G2 := hid_in (fun w => chgI s t u w (by omega) (by omega) (by omega))
        have P2 := hid_in (fun w => by have := chpI s t (cdT s t u) w (by omega) (by omega) (by omega); rw [e2] at this; exact this)
        have b1 : (u.size : Int) - 16 = (m : Int) := by omega
        have b2 : ((cpT s t u).size : Int) - 16 = (m : Int) := by omega
        have b3 : (m : Int) ≤ u.size := by omega
        have b4 : (m : Int) ≤ (cpT s t u).size := by omega
        have b5 : ((cpT s t u).size : Int) = u.size := by omega
        have b6 : ¬ (u.size : Int) = 0 := by omega
        have b7 : m ≤ u.size := by omega
        have b8 : m ≤ (cpT s t u).size := by omega
        clear hc hc2 hless e1 e2 hzs hn1 h0 hes
        have HM := hid_in hm16
        have HXS := hid_in hxs
        clear hm16 hxs
        generalize cdT s t u = y at *
        generalize cpT s t u = x at *
        go_wp2_with fail
        refine (I1.out _).mono ?_
        rintro e w2 ⟨rfl, hb2⟩
        have HB2 := hid_in (below_later HB.out hb2)
        clear hb2 HB
        go_wp2_with fail
        refine (S1.out _).mono ?_
        rintro e w3 ⟨rfl, hb3⟩
        have HB3 := hid_in (below_later HB2.out hb3)
        clear hb3 HB2
        go_wp2_with fail
        refine (L1.out _).mono ?_
        rintro e w4 ⟨rfl, hb4⟩
        have HB4 := hid_in (below_later HB3.out hb4)
        clear hb4 HB3
        go_wp2_with fail
        refine (G1.out _).mono ?_
        rintro e w5 ⟨rfl, hb5⟩
        have HB5 := hid_in (below_later HB4.out hb5)
        clear hb5 HB4
        go_wp2_with fail
        refine (G2.out _).mono ?_
        rintro e w6 ⟨rfl, hb6⟩
        have HB6 := hid_in (below_later HB5.out hb6)
        clear hb6 HB5
        go_wp2_with fail
        refine (P2.out _).mono ?_
        rintro e w7 ⟨rfl, hb7⟩
        have HB7 := hid_in (below_later HB6.out hb7)
        clear hb7 HB6
        go_wp2_with fail
        go_ret
        exact ⟨rfl, HB7.out⟩
    · have hx := cpT_no hc
      rw [hx] at I1 S1
      clear hx hc
      by_cases h0 : u.size = 0
      · have a0 : (u.size : Int) = 0 := by omega
        clear h0
        go_wp2_with fail
        refine (I1.out _).mono ?_
        rintro e w2 ⟨rfl, hb2⟩
        have HB2 := hid_in (below_later HB.out hb2)
        clear hb2 HB
        go_wp2_with fail
        refine (S1.out _).mono ?_
        rintro e w3 ⟨rfl, hb3⟩
        have HB3 := hid_in (below_later HB2.out hb3)
        clear hb3 HB2
        go_wp2_with fail
        refine (S1.out _).mono ?_
        rintro e w4 ⟨rfl, hb4⟩
        have HB4 := hid_in (below_later HB3.out hb4)
        clear hb4 HB3
        go_wp2_with fail
        go_ret
        exact ⟨rfl, HB4.out⟩
      · have a0 : ¬ (u.size : Int) = 0 := by omega
        have a1 : ¬ (0 : Int) = (u.size : Int) := by omega
        have a2 : ((0 : Int) == (u.size : Int)) = false := beq_eq_false_iff_ne.2 a1
        have a3 : ((0 : Int) != (u.size : Int)) = true := by simpa using a1
        clear h0
        go_wp2_with fail
        refine (I1.out _).mono ?_
        rintro e w2 ⟨rfl, hb2⟩
        have HB2 := hid_in (below_later HB.out hb2)
        clear hb2 HB
        go_wp2_with fail
        refine (S1.out _).mono ?_
        rintro e w3 ⟨rfl, hb3⟩
        have HB3 := hid_in (below_later HB2.out hb3)
        clear hb3 HB2
        go_wp2_with fail
        refine (S1.out _).mono ?_
        rintro e w4 ⟨rfl, hb4⟩
        have HB4 := hid_in (below_later HB3.out hb4)
        clear hb4 HB3
        go_wp2_with fail
        go_ret
        exact ⟨rfl, HB4.out⟩
  · have hl' : (1048576 : Int) < len := by omega
    go_enter Try.func12, Try.ntmps12
    go_wp2_with fail
    go_ret
    exact ⟨rfl, Below.refl _ _⟩
end Go.Proofs.Ytdbobeojbdcmdaa
