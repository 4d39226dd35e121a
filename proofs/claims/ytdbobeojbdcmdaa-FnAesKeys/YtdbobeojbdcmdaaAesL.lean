/- What is turned comes back, and unlike texts are turned to unlike ones: the walks of the laws FnAesBack and FnAesOne. The conditions stand at each theorem. -/
import Derived.Test.YtdbobeojbdcmdaaPutB
import Derived.Test.YtdbobeojbdcmdaaGetB
import Derived.Test.YtdbobeojbdcmdaaHexC
namespace Go.Proofs.Ytdbobeojbdcmdaa
open Go.RowKit Go.LatT Go.BlockM Go.PlainAid Go.OpnT Go.ApdG Go.BytM Go.AesM Go.RegE
set_option linter.unusedVariables false
set_option linter.unusedSimpArgs false
set_option maxHeartbeats 1000000 in
set_option maxRecDepth 100000 in
theorem drawAesPut (a : Option Addr) (len cap : Nat) (z : List Int) (w : World) (h : RowC w a len cap z) (hl : len ≤ 1048576) :
    Calls Try.prog 24 #[.slice a len cap] w fun e w' => ∃ s t : ByteArray, e = .returned (.tuple #[.string s, .string t]) ∧ s.size ≤ 40 ∧ t.size ≤ 40 ∧ Below w.heap.size w w' := by
  have HR := hid_in h
  clear h
  go_enter Try.func24, Try.ntmps24
  go_wp2_with fail
  refine (l1OpenC a len cap z _ HR.out hl).mono ?_
  rintro e w1 ⟨sl, rfl, h1, hb1⟩
  have H1 := hid_in h1; have HB := hid_in hb1
  clear h1 hb1
  go_wp2_with fail
  refine (oneN _ sl _ [16, 16, 16, 16, 15, 17] 6 _ 3 w1 rfl rfl H1.out (by omega) (by omega) (by simp) (by simp)).mono ?_
  rintro e w2 ⟨u2, rfl, hu2, h2, m2⟩
  have H2 := hid_in h2; have M2 := hid_in m2; clear h2 m2 H1
  obtain ⟨n, rfl, hn⟩ : ∃ n : Nat, u2 = (n : Int) ∧ n ≤ 40 := ⟨u2.toNat, by simp at hu2; omega, by simp at hu2; omega⟩
  clear hu2
  go_wp2_with fail
  refine (l12Bytes_any _ sl _ n _ H2.out (by omega) (by omega) (by omega)).mono ?_
  rintro e w3 ⟨l, rfl, hl3, ⟨q, hq1, hq2, h3⟩, m3⟩
  have HL := hid_in hl3; have M3 := hid_in (M2.out.trans m3); have H3 := hid_in h3; clear hl3 m3 h3 H2 M2
  go_wp2_with fail
  refine (oneN _ sl _ [16, 16, 16, 16, 0, 32] 6 _ 3 w3 rfl rfl H3.out (by omega) (by omega) (by simp) (by simp)).mono ?_
  rintro e w4 ⟨u4, rfl, hu4, h4, m4⟩
  have H4 := hid_in h4; have M4 := hid_in (M3.out.trans m4); clear h4 m4 H3 M3
  obtain ⟨n2, rfl, hn2⟩ : ∃ n : Nat, u4 = (n : Int) ∧ n ≤ 40 := ⟨u4.toNat, by simp at hu4; omega, by simp at hu4; omega⟩
  clear hu4
  go_wp2_with fail
  refine (l12Bytes_any _ sl _ n2 _ H4.out (by omega) (by omega) (by omega)).mono ?_
  rintro e w5 ⟨l5, rfl, hl5, _, m5⟩
  have HL5 := hid_in hl5; have M5 := hid_in (M4.out.trans m5); clear hl5 m5 H4 M4
  go_wp2_with fail
  go_ret2
  exact ⟨⟨l.toArray⟩, ⟨l5.toArray⟩, rfl, by show l.toArray.size ≤ 40; rw [List.size_toArray, HL.out]; exact hn, by show l5.toArray.size ≤ 40; rw [List.size_toArray, HL5.out]; exact hn2, below_mv HB.out (Nat.le_refl _) M5.out⟩
set_option maxHeartbeats 400000 in
set_option maxRecDepth 100000 in
theorem drawAesGet (a : Option Addr) (len cap : Nat) (z : List Int) (w : World) (h : RowC w a len cap z) (hl : len ≤ 1048576) :
    Calls Try.prog 26 #[.slice a len cap] w fun e w' => ∃ s t : ByteArray, e = .returned (.tuple #[.string s, .string t]) ∧ s.size ≤ 40 ∧ t.size ≤ 40 ∧ Below w.heap.size w w' := by
  have HR := hid_in h
  clear h
  go_enter Try.func26, Try.ntmps26
  go_wp2_with fail
  refine (drawAesPut a len cap z _ HR.out hl).mono ?_
  rintro e w1 ⟨s, t, rfl, hs, ht, hb1⟩
  have HB := hid_in hb1
  clear hb1
  go_wp2_with fail
  go_ret2
  exact ⟨s, t, rfl, hs, ht, HB.out⟩
theorem get_put {s t : ByteArray} (hs : s.size = 16) (ht : t.size = 16) : getT s (putT s t) = t := by
  have hK := fun i (_ : i < 11) => KS_by (f := bn s) (fun i _ => bn_lt s i) i
  have hE := enc_by (f := bn t) hK (fun i _ => bn_lt t i) 10 (by omega)
  have e1 : putT s t = txt 16 (enc (KS (bn s)) (bn t) 10) := by unfold putT; rw [if_pos ⟨hs, ht⟩]
  have e2 : ∀ i, i < 16 → bn (putT s t) i = enc (KS (bn s)) (bn t) 10 i := fun i hi => by rw [e1, txt_get 16 _ i hi]; exact Nat.mod_eq_of_lt (hE i hi)
  have e3 : getT s (putT s t) = txt 16 (fun i => dec (KS (bn s)) (bn (putT s t)) 10 i ^^^ KS (bn s) 0 i) := by unfold getT; rw [if_pos ⟨hs, by rw [e1, txt_size]⟩]
  rw [e3]
  refine (txt_eq ht fun i hi => ?_).symm
  rw [dec_congr e2 10 i hi]
  exact (dec_enc hK (fun i _ => bn_lt t i) i hi).symm
theorem put_get {s t : ByteArray} (hs : s.size = 16) (ht : t.size = 16) : putT s (getT s t) = t := by
  have hK := fun i (_ : i < 11) => KS_by (f := bn s) (fun i _ => bn_lt s i) i
  have hE := xor_by (dec_by (f := bn t) hK (fun i _ => bn_lt t i) 10) (KS_by (f := bn s) (fun i _ => bn_lt s i) 0)
  have e1 : getT s t = txt 16 (fun i => dec (KS (bn s)) (bn t) 10 i ^^^ KS (bn s) 0 i) := by unfold getT; rw [if_pos ⟨hs, ht⟩]
  have e2 : ∀ i, i < 16 → bn (getT s t) i = (fun i => dec (KS (bn s)) (bn t) 10 i ^^^ KS (bn s) 0 i) i := fun i hi => by rw [e1, txt_get 16 _ i hi]; exact Nat.mod_eq_of_lt (hE i hi)
  have e3 : putT s (getT s t) = txt 16 (enc (KS (bn s)) (bn (getT s t)) 10) := by unfold putT; rw [if_pos ⟨hs, by rw [e1, txt_size]⟩]
  rw [e3]
  refine (txt_eq ht fun i hi => ?_).symm
  rw [enc_congr e2 10 i hi]
  exact (enc_dec hK (fun i _ => bn_lt t i) i hi).symm
theorem getT_size {s t : ByteArray} : (getT s t).size ≤ 16 := by
  unfold getT
  split
  · rw [txt_size]; omega
  · show 0 ≤ 16; omega
theorem putT_size {s t : ByteArray} : (putT s t).size ≤ 16 := by
  unfold putT
  split
  · rw [txt_size]; omega
  · show 0 ≤ 16; omega
set_option maxHeartbeats 2000000 in
set_option maxRecDepth 100000 in
theorem walk_FnAesBack (a : Option Addr) (len cap : Nat) (z : List Int) (w : World) (h : RowC w a len cap z) :
    Calls Try.prog 9 #[.slice a len cap] w fun e w' => e = .returned (.bool true) ∧ Below w.heap.size w w' := by
  have hm : (len : Int) ≤ 9223372036854775807 := by
    rcases h with ⟨rfl, _⟩ | ⟨_, _, _, h1, h2, _⟩
    · omega
    · unfold maxLen at h2; omega
  have HR := hid_in h
  clear h
  by_cases hl : len ≤ 1048576
  · go_enter Try.func9, Try.ntmps9
    go_wp2_with fail
    refine (drawAesGet a len cap z _ HR.out hl).mono ?_
    rintro e w1 ⟨s, t, rfl, hs, ht, hb1⟩
    have HB := hid_in hb1
    clear hb1
    have hxs := getT_size (s := s) (t := t)
    have GI := hid_in (fun w => getI s t w (by omega) (by omega))
    have GS := hid_in (fun w => getS s t w (by omega) (by omega))
    by_cases h16 : s.size = 16 ∧ t.size = 16
    · have E1 := put_get h16.1 h16.2
      have E2 := get_put h16.1 h16.2
      have PI1 := fun w => putI s (getT s t) w (by omega) (by omega)
      have PI2 := fun w => putI s t w (by omega) (by omega)
      have GI2 := fun w => getI s (putT s t) w (by omega) (by have := putT_size (s := s) (t := t); omega)
      rw [E1] at PI1
      rw [E2] at GI2
      have P1 := hid_in PI1; have P2 := hid_in PI2; have G2 := hid_in GI2
      have a1 : (s.size : Int) = 16 := by omega
      have a2 : (t.size : Int) = 16 := by omega
      clear E1 E2 PI1 PI2 GI2
      generalize getT s t = x at *
      generalize putT s t = y at *
      go_wp2_with fail
      refine (GI.out _).mono ?_
      rintro e w2 ⟨rfl, hb2⟩
      have HB2 := hid_in (below_later HB.out hb2)
      clear hb2 HB
      go_wp2_with fail
      refine (GS.out _).mono ?_
      rintro e w3 ⟨rfl, hb3⟩
      have HB3 := hid_in (below_later HB2.out hb3)
      clear hb3 HB2
      go_wp2_with fail
      refine (P1.out _).mono ?_
      rintro e w4 ⟨rfl, hb4⟩
      have HB4 := hid_in (below_later HB3.out hb4)
      clear hb4 HB3
      go_wp2_with fail
      refine (P2.out _).mono ?_
      rintro e w5 ⟨rfl, hb5⟩
      have HB5 := hid_in (below_later HB4.out hb5)
      clear hb5 HB4
      go_wp2_with fail
      refine (G2.out _).mono ?_
      rintro e w6 ⟨rfl, hb6⟩
      have HB6 := hid_in (below_later HB5.out hb6)
      clear hb6 HB5
      go_wp2_with fail
      go_ret
      exact ⟨rfl, HB6.out⟩
    · have E : getT s t = ⟨#[]⟩ := by unfold getT; rw [if_neg h16]
      rw [E] at GI GS
      have fin : ∀ w2, Hid (Below w.heap.size w w2) → True := fun _ _ => trivial
      clear fin E hxs
      by_cases h1 : s.size = 16
      · have h2 : t.size ≠ 16 := fun e => h16 ⟨h1, e⟩
        have a1 : (s.size : Int) = 16 := by omega
        have b1 : ((t.size : Int) == 16) = false := by simp; omega
        have b2 : ((t.size : Int) != 16) = true := by simp; omega
        have b3 : ¬ (t.size : Int) = 16 := by omega
        clear h16
        go_wp2_with fail
        refine (GI.out _).mono ?_
        rintro e w2 ⟨rfl, hb2⟩
        have HB2 := hid_in (below_later HB.out hb2)
        clear hb2 HB
        go_wp2_with fail
        refine (GS.out _).mono ?_
        rintro e w3 ⟨rfl, hb3⟩
        have HB3 := hid_in (below_later HB2.out hb3)
        clear hb3 HB2
        go_wp2_with fail
        refine (GS.out _).mono ?_
        rintro e w4 ⟨rfl, hb4⟩
        have HB4 := hid_in (below_later HB3.out hb4)
        clear hb4 HB3
        go_wp2_with fail
        go_ret
        exact ⟨rfl, HB4.out⟩
      · have b1 : ((s.size : Int) == 16) = false := by simp; omega
        have b2 : ((s.size : Int) != 16) = true := by simp; omega
        have b3 : ¬ (s.size : Int) = 16 := by omega
        clear h16
        go_wp2_with fail
        refine (GI.out _).mono ?_
        rintro e w2 ⟨rfl, hb2⟩
        have HB2 := hid_in (below_later HB.out hb2)
        clear hb2 HB
        go_wp2_with fail
        refine (GS.out _).mono ?_
        rintro e w3 ⟨rfl, hb3⟩
        have HB3 := hid_in (below_later HB2.out hb3)
        clear hb3 HB2
        go_wp2_with fail
        refine (GS.out _).mono ?_
        rintro e w4 ⟨rfl, hb4⟩
        have HB4 := hid_in (below_later HB3.out hb4)
        clear hb4 HB3
        go_wp2_with fail
        go_ret
        exact ⟨rfl, HB4.out⟩
  · have hl' : (1048576 : Int) < len := by omega
    go_enter Try.func9, Try.ntmps9
    go_wp2_with fail
    go_ret
    exact ⟨rfl, Below.refl _ _⟩
end Go.Proofs.Ytdbobeojbdcmdaa
