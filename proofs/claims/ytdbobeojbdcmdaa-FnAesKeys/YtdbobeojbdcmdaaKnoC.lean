/- The keys of AES, word by word: the walk of the law FnAesKeys. The conditions stand at each theorem. -/
import Derived.Test.YtdbobeojbdcmdaaKnoB
import Derived.Test.YtdbobeojbdcmdaaKeyA
namespace Go.Proofs.Ytdbobeojbdcmdaa
open Go.RowKit Go.LatT Go.BlockM Go.PlainAid Go.OpnT Go.ApdG Go.BytM Go.AesM Go.RegE
set_option linter.unusedVariables false
set_option linter.unusedSimpArgs false
set_option maxHeartbeats 400000 in
set_option maxRecDepth 100000 in
theorem drawAesKeys (a : Option Addr) (len cap : Nat) (z : List Int) (w : World) (h : RowC w a len cap z) (hl : len ≤ 1048576) :
    Calls Try.prog 27 #[.slice a len cap] w fun e w' => ∃ s : ByteArray, e = .returned (.string s) ∧ s.size ≤ 40 ∧ Below w.heap.size w w' := by
  have HR := hid_in h
  clear h
  go_enter Try.func27, Try.ntmps27
  go_wp2_with fail
  refine (drawAesPut a len cap z _ HR.out hl).mono ?_
  rintro e w1 ⟨s, t, rfl, hs, ht, hb1⟩
  have HB := hid_in hb1
  clear hb1
  go_wp2_with fail
  go_ret
  exact ⟨s, rfl, hs, HB.out⟩
def k2B : ByteArray := ⟨#[43, 126, 21, 22, 40, 174, 210, 166, 171, 247, 21, 136, 9, 207, 79, 60]⟩
def x2B : ByteArray := ⟨#[208, 20, 249, 168, 201, 238, 37, 137, 225, 63, 12, 200, 182, 99, 12, 166]⟩
theorem k2_bn : ∀ j : Fin 16, bn k2B j.1 = fnL [43, 126, 21, 22, 40, 174, 210, 166, 171, 247, 21, 136, 9, 207, 79, 60] j.1 := by decide +kernel
theorem x2_bn : ∀ j : Fin 16, bn x2B j.1 = fnL [208, 20, 249, 168, 201, 238, 37, 137, 225, 63, 12, 200, 182, 99, 12, 166] j.1 := by decide +kernel
theorem bn_ext (s : ByteArray) (x y j : Nat) (hy : y ≤ s.size) (hj : x + j < y) : bn (s.extract x y) j = bn s (x + j) := by
  have h1 : j < (s.extract x y).size := by rw [ByteArray.size_extract]; omega
  have h2 : x + j < s.size := by omega
  unfold bn bt
  rw [dif_pos h1, dif_pos h2]
  have : (s.extract x y)[j]'h1 = s[x + j]'h2 := by
    show (s.extract x y).data[j]'_ = s.data[x + j]'_
    simp [ByteArray.data_extract]
  rw [this]
theorem keysT_size {s : ByteArray} (h : s.size = 16) : (keysT s).size = 176 := by unfold keysT; rw [if_pos h, txt_size]
theorem keysT_bn {s : ByteArray} (h : s.size = 16) (i : Nat) (hi : i < 176) : bn (keysT s) i = flatK (KS (bn s)) i := by
  unfold keysT
  rw [if_pos h, txt_get 176 _ i hi]
  exact Nat.mod_eq_of_lt (flatKS_lt (fun i _ => bn_lt s i) i)
theorem keys_known : (keysT k2B).extract 160 (keysT k2B).size = x2B := by
  have hz : (keysT k2B).size = 176 := keysT_size rfl
  rw [hz]
  have hs : ((keysT k2B).extract 160 176).size = 16 := by rw [ByteArray.size_extract]; omega
  have e1 := txt_eq (s := (keysT k2B).extract 160 176) (n := 16) (f := bn x2B) hs (fun i hi => by
    rw [bn_ext _ 160 176 i (by omega) (by omega), keysT_bn rfl _ (by omega)]
    have h1 := flatK_at (KS (bn k2B)) 10 i hi
    rw [show 160 + i = 16 * 10 + i by omega, h1, x2_bn ⟨i, hi⟩, ← known_keys, keyL_ok _ 10 i hi]
    exact KS_congr (fun j hj => k2_bn ⟨j, hj⟩) 10 i hi)
  rw [e1]
  exact (txt_eq (s := x2B) (n := 16) (by decide) fun i hi => rfl).symm
theorem hex_known2 : (⟨(hexT x2B x2B.size).toArray⟩ : ByteArray) = ⟨#[100, 48, 49, 52, 102, 57, 97, 56, 99, 57, 101, 101, 50, 53, 56, 57, 101, 49, 51, 102, 48, 99, 99, 56, 98, 54, 54, 51, 48, 99, 97, 54]⟩ := by decide +kernel
theorem keys_first {s : ByteArray} (h : s.size = 16) : (keysT s).extract 0 16 = s := by
  have hz := keysT_size h
  have hs : ((keysT s).extract 0 16).size = 16 := by rw [ByteArray.size_extract]; omega
  have e1 := txt_eq (s := (keysT s).extract 0 16) (n := 16) (f := bn s) hs (fun i hi => by
    rw [bn_ext _ 0 16 i (by omega) (by omega), keysT_bn h _ (by omega), Nat.zero_add]
    have h1 := flatK_at (KS (bn s)) 0 i hi
    rw [show 16 * 0 + i = i by omega] at h1
    rw [h1]; rfl)
  rw [e1]
  exact (txt_eq (s := s) (n := 16) h fun i hi => rfl).symm
theorem keys_word {s : ByteArray} (h : s.size = 16) (i : Nat) (h20 : 20 ≤ i) (hi : i < 176) (hw : 3 < i % 16) : bt (keysT s) i = bits .xor .u8 (bt (keysT s) (i - 16)) (bt (keysT s) (i - 4)) := by
  have e := key_step (bn s) (i / 4) (i % 4) (by omega) (by omega) (by omega)
  have e2 : wd (bn s) (i / 4) (i % 4) = flatK (KS (bn s)) (i - 4) := by
    unfold wd; rw [if_neg (by omega), show 4 * (i / 4) - 4 + i % 4 = i - 4 by omega]
  rw [e2, show 4 * (i / 4) + i % 4 = i by omega, show 4 * (i / 4) - 16 + i % 4 = i - 16 by omega] at e
  rw [← bn_int, ← bn_int, ← bn_int, xor8 _ _ (bn_lt _ _) (bn_lt _ _), keysT_bn h i hi, keysT_bn h (i - 16) (by omega), keysT_bn h (i - 4) (by omega), e]
theorem keysT_emp {s : ByteArray} (h : s.size ≠ 16) : keysT s = ⟨#[]⟩ := by unfold keysT; rw [if_neg h]
set_option maxHeartbeats 4000000 in
set_option maxRecDepth 100000 in
theorem walk_FnAesKeys (a : Option Addr) (len cap : Nat) (z : List Int) (w : World) (h : RowC w a len cap z) :
    Calls Try.prog 11 #[.slice a len cap] w fun e w' => e = .returned (.bool true) ∧ Below w.heap.size w w' := by
  have hm : (len : Int) ≤ 9223372036854775807 := by
    rcases h with ⟨rfl, _⟩ | ⟨_, _, _, h1, h2, _⟩
    · omega
    · unfold maxLen at h2; omega
  have HR := hid_in h
  clear h
  by_cases hl : len ≤ 1048576
  · have K1 := hid_in (fun w => keysI k2B w (by decide))
    have X1 := hid_in (fun w => by have := hexI_any x2B w (by decide); rw [hex_known2] at this; exact this)
    obtain ⟨kk, hkk⟩ : ∃ kk, keysT k2B = kk := ⟨_, rfl⟩
    have hke : kk.extract 160 kk.size = x2B := by rw [← hkk]; exact keys_known
    have hks : kk.size = 176 := by rw [← hkk]; exact keysT_size rfl
    have hks2 : (kk.size : Int) = 176 := by omega
    rw [hkk] at K1
    have HKE := hid_in hke; have HKS := hid_in hks
    clear hkk hke hks
    go_enter Try.func11, Try.ntmps11
    go_wp2_with fail
    refine (drawAesKeys a len cap z _ HR.out hl).mono ?_
    rintro e w1 ⟨s, rfl, hs, hb1⟩
    have HB := hid_in hb1
    clear hb1
    have I1 := hid_in (fun w => keysI s w (by omega))
    have S1 := hid_in (fun w => keysS s w (by omega))
    by_cases h16 : s.size = 16
    · have hz := keysT_size h16
      have hz2 : ((keysT s).size : Int) = 176 := by omega
      have FST := hid_in (keys_first h16)
      have WRD := hid_in (fun i h20 hi hw => keys_word h16 i h20 hi hw)
      have GB := hid_in (get_bt (keysT s))
      have a16 : (s.size : Int) = 16 := by omega
      clear hz h16
      generalize keysT s = y at *
      go_wp2_with fail
      refine (I1.out _).mono ?_
      rintro e w2 ⟨rfl, hb2⟩
      have HB2 := hid_in (below_later HB.out hb2)
      clear hb2 HB
      go_wp2_with fail
      refine (S1.out _).mono ?_
      rintro e w3 ⟨rfl, hb3⟩
      have HB3 := hid_in (below_later HB2.out hb3)
      clear hb3 HB2
      go_wp2_with fail
      refine (K1.out _).mono ?_
      rintro e w4 ⟨rfl, hb4⟩
      have HB4 := hid_in (below_later HB3.out hb4)
      clear hb4 HB3
      have hke := HKE.out
      go_wp2_with fail
      refine (X1.out _).mono ?_
      rintro e w5 ⟨rfl, hb5⟩
      have HB5 := hid_in (below_later HB4.out hb5)
      clear hb5 HB4 hke
      have fst := FST.out
      go_wp2_with fail
      clear fst
      have gb := GB.out
      go_loopw [6] (fun v wr => ∃ i : Nat, 20 ≤ i ∧ i ≤ 176 ∧ v = .int .i64 (i : Int) ∧ Hid (Below w.heap.size w wr)) (fun v _ => 176 - (intOf v).toNat)
      case atStart => exact ⟨20, by omega, by omega, rfl, HB5⟩
      case round =>
        obtain ⟨i, h20, h176, rfl, HW⟩ := hrel
        by_cases hlt : i < 176
        · have q1 : (i : Int) < 176 := by omega
          have q2 : (i : Int) < y.size := by omega
          by_cases hw : 3 < i % 16
          · obtain ⟨j, hj⟩ : ∃ j, i = j + 16 := ⟨i - 16, by omega⟩
            obtain ⟨m, hm'⟩ : ∃ m, i = m + 4 := ⟨i - 4, by omega⟩
            have hx := (WRD.out i h20 hlt hw).symm
            rw [show i - 16 = j by omega, show i - 4 = m by omega] at hx
            obtain ⟨t, ht⟩ : ∃ t, i % 16 = t := ⟨_, rfl⟩
            have e8 : (i : Int) % 16 = (t : Int) := by omega
            have e9 : (i : Int).tmod 16 = (t : Int) := by rw [Int.tmod_eq_emod_of_nonneg (by omega)]; exact e8
            have e10 : IntKind.i64.wrap (t : Int) = (t : Int) := by rw [IntKind.wrap_i64]; omega
            have q3 : (3 : Int) < (t : Int) := by omega
            have e1 : (i : Int) - 16 = (j : Int) := by omega
            have e2 : (i : Int) - 4 = (m : Int) := by omega
            have e3 : IntKind.i64.wrap ((i : Int) - 16) = (j : Int) := by rw [IntKind.wrap_i64]; omega
            have e4 : IntKind.i64.wrap ((i : Int) - 4) = (m : Int) := by rw [IntKind.wrap_i64]; omega
            have e5 : IntKind.i64.wrap (j : Int) = (j : Int) := by rw [IntKind.wrap_i64]; omega
            have e6 : IntKind.i64.wrap (m : Int) = (m : Int) := by rw [IntKind.wrap_i64]; omega
            have q5 : (j : Int) < y.size := by omega
            have q6 : (m : Int) < y.size := by omega
            have HI := hid_in (show 20 ≤ i + 1 ∧ i + 1 ≤ 176 by omega)
            clear hj hm' ht hw
            go_wp2_with fail
            refine wp_region_lat (Below.refl _ _) (by kernel_rfl) (by kernel_rfl) ?_
            intro hne hcl
            repeat (go_big_quiet_step (first | (fail)))
            refine wpQuiet_nil ?_
            intro w1 hb1
            obtain ⟨hc1, hf1⟩ := bcell hb1
            clear hne hcl
            go_wp2_with fail
            exact ⟨⟨i + 1, HI.out.1, HI.out.2, by simp, by show Below _ _ _; exact below_later HW.out hb1⟩, by have := HI.out; simp [intOf]; omega⟩
          · obtain ⟨t, ht⟩ : ∃ t, i % 16 = t := ⟨_, rfl⟩
            have e8 : (i : Int) % 16 = (t : Int) := by omega
            have e9 : (i : Int).tmod 16 = (t : Int) := by rw [Int.tmod_eq_emod_of_nonneg (by omega)]; exact e8
            have e10 : IntKind.i64.wrap (t : Int) = (t : Int) := by rw [IntKind.wrap_i64]; omega
            have q3 : ¬ (3 : Int) < (t : Int) := by omega
            clear ht hw
            have HI := hid_in (show 20 ≤ i + 1 ∧ i + 1 ≤ 176 by omega)
            go_wp2_with fail
            have q8 : decide ((3 : Int) < (t : Int)) = false := by simp; omega
            refine wp_region_lat (Below.refl _ _) (by kernel_rfl) (by kernel_rfl) ?_
            intro hne hcl
            repeat (go_big_quiet_step (first | (fail)))
            refine wpQuiet_nil ?_
            intro w1 hb1
            obtain ⟨hc1, hf1⟩ := bcell hb1
            clear hne hcl
            go_wp2_with fail
            exact ⟨⟨i + 1, HI.out.1, HI.out.2, by simp, by show Below _ _ _; exact below_later HW.out hb1⟩, by have := HI.out; simp [intOf]; omega⟩
        · have q1 : ¬ (i : Int) < 176 := by omega
          have q2 : ¬ (i : Int) < y.size := by omega
          go_wp2_with fail
          go_ret
          exact ⟨rfl, HW.out⟩
    · have E := keysT_emp h16
      rw [E] at I1 S1
      have b1 : ((s.size : Int) == 16) = false := by simp; omega
      have b2 : ((s.size : Int) != 16) = true := by simp; omega
      have b3 : ¬ (s.size : Int) = 16 := by omega
      have hke := HKE.out
      clear h16 E
      go_wp2_with fail
      refine (I1.out _).mono ?_
      rintro e w2 ⟨rfl, hb2⟩
      have HB2 := hid_in (below_later HB.out hb2)
      clear hb2 HB
      go_wp2_with fail
      refine (S1.out _).mono ?_
      rintro e w3 ⟨rfl, hb3⟩
      have HB3 := hid_in (below_later HB2.out hb3)
      clear hb3 HB2
      go_wp2_with fail
      refine (K1.out _).mono ?_
      rintro e w4 ⟨rfl, hb4⟩
      have HB4 := hid_in (below_later HB3.out hb4)
      clear hb4 HB3
      go_wp2_with fail
      refine (X1.out _).mono ?_
      rintro e w5 ⟨rfl, hb5⟩
      have HB5 := hid_in (below_later HB4.out hb5)
      clear hb5 HB4
      go_wp2_with fail
      refine (S1.out _).mono ?_
      rintro e w6 ⟨rfl, hb6⟩
      have HB6 := hid_in (below_later HB5.out hb6)
      clear hb6 HB5
      go_wp2_with fail
      go_ret
      exact ⟨rfl, HB6.out⟩
  · have hl' : (1048576 : Int) < len := by omega
    go_enter Try.func11, Try.ntmps11
    go_wp2_with fail
    go_ret
    exact ⟨rfl, Below.refl _ _⟩
end Go.Proofs.Ytdbobeojbdcmdaa
