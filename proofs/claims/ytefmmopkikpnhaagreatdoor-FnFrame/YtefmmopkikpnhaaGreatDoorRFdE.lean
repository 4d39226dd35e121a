/- What is proved: the contracts of FrdE, one behind the other. The conditions stand at each theorem. -/
import Derived.Test.YtefmmopkikpnhaaGreatDoorRFrF
import Derived.Test.YtefmmopkikpnhaaGreatDoorRFdA
namespace Go.Proofs.YtefmmopkikpnhaaGreatDoor
open Go.RowKit Go.LatT Go.BlockM Go.PlainAid Go.OpnT Go.ApdG Go.BytM Go.AesM Go.RowQ Go.RegE
set_option linter.unusedVariables false
set_option linter.unusedSimpArgs false
def DfP (w : World) (e : Ending) (w' : World) : Prop := ∃ (k m g t : ByteArray) (a b : Int), e = .returned (.tuple #[.string k, .string m, .int .i64 a, .int .i64 b, .string g, .string t]) ∧ k.size ≤ 100 ∧ m.size ≤ 100 ∧ g.size ≤ 100 ∧ t.size ≤ 100 ∧ Below w.heap.size w w'
set_option maxHeartbeats 4000000 in
set_option maxRecDepth 100000 in
theorem drawFramePut (a : Option Addr) (len cap : Nat) (z : List Int) (w : World) (h : RowC w a len cap z) (hl : len ≤ 1048576) :
    Calls Tryz.prog 16 #[.slice a len cap] w fun e w' => DfP w e w' := by
  have HR := hid_in h
  clear h
  go_enter Tryz.func16, Tryz.ntmps16
  go_wp2_with fail
  refine (l1OpenC a len cap z _ HR.out hl).mono ?_
  rintro e w1 ⟨sl, rfl, h1, hb1⟩
  have H1 := hid_in h1; have HB := hid_in hb1
  clear h1 hb1
  go_wp2_with fail
  refine (oneN _ sl _ [16, 16, 16, 16, 16, 5] 6 _ 3 _ rfl rfl H1.out (by omega) (by omega) (by simp) (by simp)).mono ?_
  rintro e w2 ⟨u2, rfl, hu2, h2, m2⟩
  have H2 := hid_in h2; have M2 := hid_in (m2); clear h2 m2 H1
  obtain ⟨n2, rfl, hn2⟩ : ∃ n : Nat, u2 = (n : Int) ∧ n ≤ 100 := ⟨u2.toNat, by simp at hu2; omega, by simp at hu2; omega⟩
  clear hu2
  go_wp2_with fail
  refine (l12Bytes_any _ sl _ n2 _ H2.out (by omega) (by omega) (by omega)).mono ?_
  rintro e w3 ⟨l3, rfl, hl3, ⟨q3, a3, b3, h3⟩, m3⟩
  have H3 := hid_in h3; have M3 := hid_in (M2.out.trans m3); have S3 := hid_in (szL hl3); clear h3 m3 hl3 H2 M2
  generalize (⟨l3.toArray⟩ : ByteArray) = s3 at *
  go_wp2_with fail
  refine (oneN _ sl _ [16, 3, 64, 16, 0, 65] 6 _ 3 _ rfl rfl H3.out (by omega) (by omega) (by simp) (by simp)).mono ?_
  rintro e w4 ⟨u4, rfl, hu4, h4, m4⟩
  have H4 := hid_in h4; have M4 := hid_in (M3.out.trans m4); clear h4 m4 H3 M3
  obtain ⟨n4, rfl, hn4⟩ : ∃ n : Nat, u4 = (n : Int) ∧ n ≤ 100 := ⟨u4.toNat, by simp at hu4; omega, by simp at hu4; omega⟩
  clear hu4
  go_wp2_with fail
  refine (l12Bytes_any _ sl _ n4 _ H4.out (by omega) (by omega) (by omega)).mono ?_
  rintro e w5 ⟨l5, rfl, hl5, ⟨q5, a5, b5, h5⟩, m5⟩
  have H5 := hid_in h5; have M5 := hid_in (M4.out.trans m5); have S5 := hid_in (szL hl5); clear h5 m5 hl5 H4 M4
  generalize (⟨l5.toArray⟩ : ByteArray) = s5 at *
  go_wp2_with fail
  refine (oneN _ sl _ [1, 7, 999, 999, 0, 1000] 6 _ 3 _ rfl rfl H5.out (by omega) (by omega) (by simp) (by simp)).mono ?_
  rintro e w6 ⟨u6, rfl, hu6, h6, m6⟩
  have H6 := hid_in h6; have M6 := hid_in (M5.out.trans m6); clear h6 m6 H5 M5
  go_wp2_with fail
  refine (oneN _ sl _ [1, 2, 300, 1000000, 0, 1000001] 6 _ 3 _ rfl rfl H6.out (by omega) (by omega) (by simp) (by simp)).mono ?_
  rintro e w7 ⟨u7, rfl, hu7, h7, m7⟩
  have H7 := hid_in h7; have M7 := hid_in (M6.out.trans m7); clear h7 m7 H6 M6
  go_wp2_with fail
  refine (oneN _ sl _ [16, 16, 16, 16, 15] 5 _ 3 _ rfl rfl H7.out (by omega) (by omega) (by simp) (by simp)).mono ?_
  rintro e w8 ⟨u8, rfl, hu8, h8, m8⟩
  have H8 := hid_in h8; have M8 := hid_in (M7.out.trans m8); clear h8 m8 H7 M7
  obtain ⟨n8, rfl, hn8⟩ : ∃ n : Nat, u8 = (n : Int) ∧ n ≤ 100 := ⟨u8.toNat, by simp at hu8; omega, by simp at hu8; omega⟩
  clear hu8
  go_wp2_with fail
  refine (l12Bytes_any _ sl _ n8 _ H8.out (by omega) (by omega) (by omega)).mono ?_
  rintro e w9 ⟨l9, rfl, hl9, ⟨q9, a9, b9, h9⟩, m9⟩
  have H9 := hid_in h9; have M9 := hid_in (M8.out.trans m9); have S9 := hid_in (szL hl9); clear h9 m9 hl9 H8 M8
  generalize (⟨l9.toArray⟩ : ByteArray) = s9 at *
  go_wp2_with fail
  refine (pickM _ sl _ 52 _ H9.out (by omega) (by omega) (by omega) (by omega)).mono ?_
  rintro e w10 ⟨u10, rfl, a10, b10, h10, m10⟩
  have H10 := hid_in h10; have M10 := hid_in (M9.out.trans m10); clear h10 m10 H9 M9
  obtain ⟨p10, rfl⟩ := Int.eq_ofNat_of_zero_le a10
  go_wp2_with fail
  refine (oneN _ sl _ [0, 11, (p10 : Int), 51, 52] 5 _ 3 _ rfl rfl H10.out (by omega) (by omega) (by simp) (by simp)).mono ?_
  rintro e w11 ⟨u11, rfl, hu11, h11, m11⟩
  have H11 := hid_in h11; have M11 := hid_in (M10.out.trans m11); clear h11 m11 H10 M10
  obtain ⟨n11, rfl, hn11⟩ : ∃ n : Nat, u11 = (n : Int) ∧ n ≤ 100 := ⟨u11.toNat, by simp at hu11; omega, by simp at hu11; omega⟩
  clear hu11
  go_wp2_with fail
  refine (l12Bytes_any _ sl _ n11 _ H11.out (by omega) (by omega) (by omega)).mono ?_
  rintro e w12 ⟨l12, rfl, hl12, ⟨q12, a12, b12, h12⟩, m12⟩
  have H12 := hid_in h12; have M12 := hid_in (M11.out.trans m12); have S12 := hid_in (szL hl12); clear h12 m12 hl12 H11 M11
  generalize (⟨l12.toArray⟩ : ByteArray) = s12 at *
  go_wp2_with fail
  exact bodyPost_ret (v := .tuple #[.string s3, .string s5, .int .i64 u6, .int .i64 u7, .string s9, .string s12]) (by simp [results, Tryz.results16, go_sem]) rfl ⟨s3, s5, s9, s12, u6, u7, rfl, by rw [S3.out]; omega, by rw [S5.out]; omega, by rw [S9.out]; omega, by rw [S12.out]; omega, below_mv HB.out (Nat.le_refl _) M12.out⟩
set_option maxHeartbeats 2000000 in
set_option maxRecDepth 100000 in
theorem walk_FnFrame (a : Option Addr) (len cap : Nat) (z : List Int) (w : World) (h : RowC w a len cap z) (hE : ErrT w) (hK : GK w) :
    Calls Tryz.prog 4 #[.slice a len cap] w fun e w' => e = .returned (.bool true) ∧ Below w.heap.size w w' := by
  have hm : (len : Int) ≤ 9223372036854775807 := by
    rcases h with ⟨rfl, _⟩ | ⟨_, _, _, h1, h2, _⟩
    · omega
    · unfold maxLen at h2; omega
  have HR := hid_in h
  have HK := hid_in hK
  have HE := hid_in hE
  clear h hK hE
  by_cases hl : len ≤ 1048576
  · go_enter Tryz.func4, Tryz.ntmps4
    go_wp2_with fail
    refine (drawFramePut a len cap z _ HR.out hl).mono ?_
    rintro e w1 ⟨k, m, g, t, x, y, rfl, hk, hm1, hg, ht, hb1⟩
    have D1 := hid_in hb1
    clear hb1
    have I := hid_in (fun W (q : GK W) => framePutI k m x y g t W q (by omega) (by omega) (by omega) (by omega))
    have S := hid_in (fun W => framePutS k m x y g t W (by omega) (by omega) (by omega) (by omega))
    cases hb : fpB k m x y g t
    · have E := show fpT k m x y g t = ⟨#[]⟩ by unfold fpT; rw [hb]; rfl
      rw [E] at I S
      clear hb E
      go_wp2_with fail
      refine (I.out _ (HK.out.below D1.out HK.out.lt)).mono ?_
      rintro e w2 ⟨rfl, hb2⟩
      have D2 := hid_in (below_later D1.out hb2)
      clear hb2 D1
      go_wp2_with fail
      refine (S.out _).mono ?_
      rintro e w3 ⟨rfl, hb3⟩
      have D3 := hid_in (below_later D2.out hb3)
      clear hb3 D2
      go_wp2_with fail
      refine (S.out _).mono ?_
      rintro e w4 ⟨rfl, hb4⟩
      have D4 := hid_in (below_later D3.out hb4)
      clear hb4 D3
      go_wp2_with fail
      go_ret
      exact ⟨rfl, D4.out⟩
    · have hb' := hb
      unfold fpB at hb'
      simp only [Bool.and_eq_true, decide_eq_true_eq] at hb'
      obtain ⟨⟨⟨hk1, hh1⟩, hg1⟩, ht1⟩ := hb'
      obtain ⟨c1, c2, c3, c4⟩ := hokB_of hh1
      obtain ⟨n, rfl⟩ := Int.eq_ofNat_of_zero_le (show 0 ≤ x by omega)
      obtain ⟨q, rfl⟩ := Int.eq_ofNat_of_zero_le (show 0 ≤ y by omega)
      have O := opn_frm (n := n) (m := q) hk1 (by omega) (by omega) hg1 ht1
      have E := show fpT k m (n : Int) (q : Int) g t = frmT k m n q g t by unfold fpT; rw [hb]; simp
      rw [E] at I S
      have fs := frmT_size (key := k) (mac := m) (n := n) (m := q) hg1 ht1
      have sz1 : 16 ≤ (frmT k m n q g t).size := by unfold frmT; rw [ByteArray.size_append, tgT_size]; omega
      have O1 := O.hd; have O2 := O.n; have O3 := O.m; have O4 := O.ok; have O5 := O.t; have O6 := O.sz
      have FI := hid_in (fun W (v : ErrT W) => by have := frameHeadI (frmT k m n q g t) W (by omega) v; rw [O1, O2, O3] at this; exact this)
      have GI := hid_in (fun W (p : GK W) (v : ErrT W) => by have := frameGetI k m (frmT k m n q g t) W p v (by omega) (by omega) (by omega); rw [O4, O5] at this; exact this)
      clear O O1 O2 O3 O4 O5 E hb hk1 hh1 hg1
      generalize frmT k m n q g t = s at *
      have hne : s ≠ ⟨#[]⟩ := by intro e; rw [e] at sz1; exact absurd sz1 (by decide)
      obtain ⟨ne1, ne2, ne3⟩ := toList_nil hne
      have z1 : (s.size : Int) ≤ 140 := by omega
      have z2 : (s.size : Int) ≤ (t.size : Int) + 56 := by omega
      have z3 : (t.size : Int) ≤ 100 := by omega
      go_wp2_with fail
      refine (I.out _ (HK.out.below D1.out HK.out.lt)).mono ?_
      rintro e w2 ⟨rfl, hb2⟩
      have D2 := hid_in (below_later D1.out hb2)
      clear hb2 D1
      go_wp2_with fail
      refine (S.out _).mono ?_
      rintro e w3 ⟨rfl, hb3⟩
      have D3 := hid_in (below_later D2.out hb3)
      clear hb3 D2
      go_wp2_with fail
      refine (FI.out _ (HE.out.later D3.out)).mono ?_
      rintro e w4 ⟨rfl, hb4⟩
      have D4 := hid_in (below_later D3.out hb4)
      clear hb4 D3
      go_wp2_with fail
      refine (GI.out _ (HK.out.below D4.out HK.out.lt) (HE.out.later D4.out)).mono ?_
      rintro e w5 ⟨rfl, hb5⟩
      have D5 := hid_in (below_later D4.out hb5)
      clear hb5 D4
      go_wp2_with fail
      go_ret
      exact ⟨rfl, D5.out⟩
  · have hl' : (1048576 : Int) < len := by omega
    go_enter Tryz.func4, Tryz.ntmps4
    go_wp2_with fail
    go_ret
    exact ⟨rfl, Below.refl _ _⟩
end Go.Proofs.YtefmmopkikpnhaaGreatDoor

