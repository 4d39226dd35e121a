/- Texts drawn for sums and tags, and the walks of their laws. The conditions stand at each theorem. -/
import Derived.Test.YtgamakiejaeeeaaDoorShaR
import Derived.Test.YtgamakiejaeeeaaDoorBytD
namespace Go.Proofs.YtgamakiejaeeeaaDoor
open Go.RowKit Go.LatT Go.BlockM Go.PlainAid Go.OpnT Go.ApdG Go.BytM Go.AesM Go.RowQ Go.RegE
set_option linter.unusedVariables false
set_option linter.unusedSimpArgs false
set_option maxHeartbeats 1000000 in
set_option maxRecDepth 100000 in
theorem drawHashSum (a : Option Addr) (len cap : Nat) (z : List Int) (w : World) (h : RowC w a len cap z) (hl : len ≤ 1048576) :
    Calls Tryd.prog 11 #[.slice a len cap] w fun e w' => ∃ s : ByteArray, e = .returned (.string s) ∧ s.size ≤ 100 ∧ Below w.heap.size w w' := by
  have HR := hid_in h
  clear h
  go_enter Tryd.func11, Tryd.ntmps11
  go_wp2_with fail
  refine (l1OpenC a len cap z _ HR.out hl).mono ?_
  rintro e w1 ⟨sl, rfl, h1, hb1⟩
  have H1 := hid_in h1; have HB := hid_in hb1
  clear h1 hb1
  go_wp2_with fail
  refine (pickM _ sl 0 80 _ H1.out (by omega) (by omega) (by omega) (by omega)).mono ?_
  rintro e w2 ⟨u2, rfl, a2, b2, h2, m2⟩
  have H2 := hid_in h2; have M2 := hid_in m2; clear h2 m2 H1
  obtain ⟨n, rfl⟩ := Int.eq_ofNat_of_zero_le a2
  go_wp2_with fail
  refine (oneN _ sl _ [0, 3, 55, 56, 64, (n : Int)] 6 _ 3 w2 rfl rfl H2.out (by omega) (by omega) (by simp) (by simp)).mono ?_
  rintro e w3 ⟨u3, rfl, hu3, h3, m3⟩
  have H3 := hid_in h3; have M3 := hid_in (M2.out.trans m3); clear h3 m3 H2 M2
  obtain ⟨k, rfl, hk⟩ : ∃ k : Nat, u3 = (k : Int) ∧ k ≤ 100 := ⟨u3.toNat, by simp at hu3; omega, by simp at hu3; omega⟩
  clear hu3
  go_wp2_with fail
  refine (l12Bytes_any _ sl _ k _ H3.out (by omega) (by omega) (by omega)).mono ?_
  rintro e w4 ⟨l, rfl, hl4, _, m4⟩
  have HL := hid_in hl4; have M4 := hid_in (M3.out.trans m4); clear hl4 m4 H3 M3
  go_wp2_with fail
  go_ret
  exact ⟨⟨l.toArray⟩, rfl, by show l.toArray.size ≤ 100; rw [List.size_toArray, HL.out]; exact hk, below_mv HB.out (Nat.le_refl _) M4.out⟩
set_option maxHeartbeats 1000000 in
set_option maxRecDepth 100000 in
theorem drawTag (a : Option Addr) (len cap : Nat) (z : List Int) (w : World) (h : RowC w a len cap z) (hl : len ≤ 1048576) :
    Calls Tryd.prog 12 #[.slice a len cap] w fun e w' => ∃ s t : ByteArray, e = .returned (.tuple #[.string s, .string t]) ∧ s.size ≤ 100 ∧ t.size ≤ 100 ∧ Below w.heap.size w w' := by
  have HR := hid_in h
  clear h
  go_enter Tryd.func12, Tryd.ntmps12
  go_wp2_with fail
  refine (l1OpenC a len cap z _ HR.out hl).mono ?_
  rintro e w1 ⟨sl, rfl, h1, hb1⟩
  have H1 := hid_in h1; have HB := hid_in hb1
  clear h1 hb1
  go_wp2_with fail
  refine (oneN _ sl _ [0, 1, 16, 64, 65] 5 _ 3 w1 rfl rfl H1.out (by omega) (by omega) (by simp) (by simp)).mono ?_
  rintro e w2 ⟨u2, rfl, hu2, h2, m2⟩
  have H2 := hid_in h2; have M2 := hid_in m2; clear h2 m2 H1
  obtain ⟨n, rfl, hn⟩ : ∃ n : Nat, u2 = (n : Int) ∧ n ≤ 100 := ⟨u2.toNat, by simp at hu2; omega, by simp at hu2; omega⟩
  clear hu2
  go_wp2_with fail
  refine (l12Bytes_any _ sl _ n _ H2.out (by omega) (by omega) (by omega)).mono ?_
  rintro e w3 ⟨l, rfl, hl3, ⟨q, hq1, hq2, h3⟩, m3⟩
  have HL := hid_in hl3; have M3 := hid_in (M2.out.trans m3); have H3 := hid_in h3; clear hl3 m3 h3 H2 M2
  go_wp2_with fail
  refine (pickM _ sl _ 40 _ H3.out (by omega) (by omega) (by omega) (by omega)).mono ?_
  rintro e w4 ⟨u4, rfl, a4, b4, h4, m4⟩
  have H4 := hid_in h4; have M4 := hid_in (M3.out.trans m4); clear h4 m4 H3 M3
  obtain ⟨n2, rfl⟩ := Int.eq_ofNat_of_zero_le a4
  go_wp2_with fail
  refine (l12Bytes_any _ sl _ n2 _ H4.out (by omega) (by omega) (by omega)).mono ?_
  rintro e w5 ⟨l5, rfl, hl5, _, m5⟩
  have HL5 := hid_in hl5; have M5 := hid_in (M4.out.trans m5); clear hl5 m5 H4 M4
  go_wp2_with fail
  go_ret2
  exact ⟨⟨l.toArray⟩, ⟨l5.toArray⟩, rfl, by show l.toArray.size ≤ 100; rw [List.size_toArray, HL.out]; exact hn, by show l5.toArray.size ≤ 100; rw [List.size_toArray, HL5.out]; omega, below_mv HB.out (Nat.le_refl _) M5.out⟩
set_option maxHeartbeats 1000000 in
set_option maxRecDepth 100000 in
theorem walk_FnHashSum (a : Option Addr) (len cap : Nat) (z : List Int) (w : World) (h : RowC w a len cap z) (hK : GK w) :
    Calls Tryd.prog 5 #[.slice a len cap] w fun e w' => e = .returned (.bool true) ∧ Below w.heap.size w w' := by
  have hm : (len : Int) ≤ 9223372036854775807 := by
    rcases h with ⟨rfl, _⟩ | ⟨_, _, _, h1, h2, _⟩
    · omega
    · unfold maxLen at h2; omega
  have HR := hid_in h
  have HK := hid_in hK
  clear h hK
  by_cases hl : len ≤ 1048576
  · have A1 := hid_in (fun W (k : GK W) => by have := hashI_any abcB W k (by decide); rw [abc_hex] at this; exact this)
    go_enter Tryd.func5, Tryd.ntmps5
    go_wp2_with fail
    refine (drawHashSum a len cap z _ HR.out hl).mono ?_
    rintro e w1 ⟨s, rfl, hs, hb1⟩
    have HB := hid_in hb1
    have K1 := hid_in (HK.out.below hb1 HK.out.lt)
    clear hb1
    go_wp2_with fail
    refine (hashI_any s _ K1.out (by omega)).mono ?_
    rintro e w2 ⟨rfl, hb2⟩
    have HB2 := hid_in (below_later HB.out hb2)
    have K2 := hid_in (K1.out.below hb2 K1.out.lt)
    clear hb2 HB K1
    go_wp2_with fail
    refine (hashS_any s _ (by omega)).mono ?_
    rintro e w3 ⟨rfl, hb3⟩
    have HB3 := hid_in (below_later HB2.out hb3)
    have K3 := hid_in (K2.out.below hb3 K2.out.lt)
    clear hb3 HB2 K2
    go_wp2_with fail
    refine (A1.out _ K3.out).mono ?_
    rintro e w4 ⟨rfl, hb4⟩
    have HB4 := hid_in (below_later HB3.out hb4)
    clear hb4 HB3 K3
    go_wp2_with fail
    go_ret
    exact ⟨rfl, HB4.out⟩
  · have hl' : (1048576 : Int) < len := by omega
    go_enter Tryd.func5, Tryd.ntmps5
    go_wp2_with fail
    go_ret
    exact ⟨rfl, Below.refl _ _⟩
theorem tgT_size (s t : ByteArray) : (tgT s t).size = 16 := by
  unfold tgT
  have := sumT_size (cat2 (kb s 92) (inT s t)) (64 + 32)
  simp [this]
set_option maxHeartbeats 2000000 in
set_option maxRecDepth 100000 in
theorem walk_FnTag (a : Option Addr) (len cap : Nat) (z : List Int) (w : World) (h : RowC w a len cap z) (hK : GK w) :
    Calls Tryd.prog 6 #[.slice a len cap] w fun e w' => e = .returned (.bool true) ∧ Below w.heap.size w w' := by
  have hm : (len : Int) ≤ 9223372036854775807 := by
    rcases h with ⟨rfl, _⟩ | ⟨_, _, _, h1, h2, _⟩
    · omega
    · unfold maxLen at h2; omega
  have HR := hid_in h
  have HK := hid_in hK
  clear h hK
  by_cases hl : len ≤ 1048576
  · have A1 := hid_in (fun W (k : GK W) => by have := tagI_any hiK hiT W k (by decide) (by decide); rw [if_neg (by decide), hi_tag] at this; exact this)
    have A2 := hid_in (fun W => by have := hexI_any hiG W (by decide); rw [hi_hex] at this; exact this)
    go_enter Tryd.func6, Tryd.ntmps6
    go_wp2_with fail
    refine (drawTag a len cap z _ HR.out hl).mono ?_
    rintro e w1 ⟨s, t, rfl, hs, ht, hb1⟩
    have HB := hid_in hb1
    have K1 := hid_in (HK.out.below hb1 HK.out.lt)
    clear hb1
    have T1 := hid_in (fun W (k : GK W) => tagI_any s t W k (by omega) (by omega))
    have T2 := hid_in (fun W => tagS_any s t W (by omega) (by omega))
    obtain ⟨R, hR⟩ : ∃ R, (if 64 < s.size then (⟨#[]⟩ : ByteArray) else tgT s t) = R := ⟨_, rfl⟩
    have hRz : (s.size ≤ 64 ∧ R.size = 16) ∨ (64 < s.size ∧ R.size = 0) := by
      rw [← hR]
      by_cases e : 64 < s.size
      · rw [if_pos e]; exact .inr ⟨e, rfl⟩
      · rw [if_neg e]; exact .inl ⟨by omega, tgT_size s t⟩
    rw [hR] at T1 T2
    clear hR
    rcases hRz with ⟨hq, hz⟩ | ⟨hq, hz⟩
    · have q1 : (s.size : Int) ≤ 64 := by omega
      go_wp2_with fail
      refine (T1.out _ K1.out).mono ?_
      rintro e w2 ⟨rfl, hb2⟩
      have HB2 := hid_in (below_later HB.out hb2)
      have K2 := hid_in (K1.out.below hb2 K1.out.lt)
      clear hb2 HB K1
      go_wp2_with fail
      refine (T2.out _).mono ?_
      rintro e w3 ⟨rfl, hb3⟩
      have HB3 := hid_in (below_later HB2.out hb3)
      have K3 := hid_in (K2.out.below hb3 K2.out.lt)
      clear hb3 HB2 K2
      go_wp2_with fail
      refine (A1.out _ K3.out).mono ?_
      rintro e w4 ⟨rfl, hb4⟩
      have HB4 := hid_in (below_later HB3.out hb4)
      clear hb4 HB3 K3
      go_wp2_with fail
      refine (A2.out _).mono ?_
      rintro e w5 ⟨rfl, hb5⟩
      have HB5 := hid_in (below_later HB4.out hb5)
      clear hb5 HB4
      go_wp2_with fail
      go_ret
      exact ⟨rfl, HB5.out⟩
    · have q1 : ¬ (s.size : Int) ≤ 64 := by omega
      go_wp2_with fail
      refine (T1.out _ K1.out).mono ?_
      rintro e w2 ⟨rfl, hb2⟩
      have HB2 := hid_in (below_later HB.out hb2)
      have K2 := hid_in (K1.out.below hb2 K1.out.lt)
      clear hb2 HB K1
      go_wp2_with fail
      refine (T2.out _).mono ?_
      rintro e w3 ⟨rfl, hb3⟩
      have HB3 := hid_in (below_later HB2.out hb3)
      have K3 := hid_in (K2.out.below hb3 K2.out.lt)
      clear hb3 HB2 K2
      go_wp2_with fail
      refine (A1.out _ K3.out).mono ?_
      rintro e w4 ⟨rfl, hb4⟩
      have HB4 := hid_in (below_later HB3.out hb4)
      clear hb4 HB3 K3
      go_wp2_with fail
      refine (A2.out _).mono ?_
      rintro e w5 ⟨rfl, hb5⟩
      have HB5 := hid_in (below_later HB4.out hb5)
      clear hb5 HB4
      go_wp2_with fail
      go_ret
      exact ⟨by show Ending.returned (Value.bool (!decide ((s.size : Int) ≤ 64))) = _; simp [q1], HB5.out⟩
  · have hl' : (1048576 : Int) < len := by omega
    go_enter Tryd.func6, Tryd.ntmps6
    go_wp2_with fail
    go_ret
    exact ⟨rfl, Below.refl _ _⟩
end Go.Proofs.YtgamakiejaeeeaaDoor
