/- Sixteen bytes are turned as the whole world turns them: the walk of the law FnAesKnown. The conditions stand at each theorem. -/
import Derived.Test.YtdbobeojbdcmdaaKnoA
import Derived.Test.YtdbobeojbdcmdaaAesL
namespace Go.Proofs.Ytdbobeojbdcmdaa
open Go.RowKit Go.LatT Go.BlockM Go.PlainAid Go.OpnT Go.ApdG Go.BytM Go.AesM Go.RegE
set_option linter.unusedVariables false
set_option linter.unusedSimpArgs false
theorem KS_congr {f g : Nat → Nat} (h : ∀ j, j < 16 → f j = g j) : ∀ n j, j < 16 → KS f n j = KS g n j
  | 0, j, hj => h j hj
  | n + 1, j, hj => nk_congr (KS_congr h n) (rc n) j hj
theorem enc_key {K L : Nat → Nat → Nat} {f g : Nat → Nat} (hK : ∀ r i, i < 16 → K r i = L r i) (h : ∀ j, j < 16 → f j = g j) : ∀ r i, i < 16 → enc K f r i = enc L g r i
  | 0, i, hi => by show f i ^^^ K 0 i = g i ^^^ L 0 i; rw [h i hi, hK 0 i hi]
  | r + 1, i, hi => by
    show stp K (r + 1) (enc K f r) i = stp L (r + 1) (enc L g r) i
    rw [stp_key (hK (r + 1)) i hi]
    exact stp_congr (enc_key hK h r) i hi
def k1B : ByteArray := ⟨#[0, 1, 2, 3, 4, 5, 6, 7, 8, 9, 10, 11, 12, 13, 14, 15]⟩
def s1B : ByteArray := ⟨#[0, 17, 34, 51, 68, 85, 102, 119, 136, 153, 170, 187, 204, 221, 238, 255]⟩
def x1B : ByteArray := ⟨#[105, 196, 224, 216, 106, 123, 4, 48, 216, 205, 183, 128, 112, 180, 197, 90]⟩
theorem k1_bn : ∀ j : Fin 16, bn k1B j.1 = fnL [0, 1, 2, 3, 4, 5, 6, 7, 8, 9, 10, 11, 12, 13, 14, 15] j.1 := by decide +kernel
theorem s1_bn : ∀ j : Fin 16, bn s1B j.1 = fnL [0, 17, 34, 51, 68, 85, 102, 119, 136, 153, 170, 187, 204, 221, 238, 255] j.1 := by decide +kernel
theorem x1_bn : ∀ j : Fin 16, bn x1B j.1 = fnL [105, 196, 224, 216, 106, 123, 4, 48, 216, 205, 183, 128, 112, 180, 197, 90] j.1 := by decide +kernel
theorem put_known : putT k1B s1B = x1B := by
  have e : putT k1B s1B = txt 16 (enc (KS (bn k1B)) (bn s1B) 10) := by unfold putT; rw [if_pos ⟨rfl, rfl⟩]
  rw [e]
  refine (txt_eq (s := x1B) (n := 16) (by decide) fun i hi => ?_).symm
  rw [x1_bn ⟨i, hi⟩, ← known_put, encL_ok _ _ 10 i hi]
  exact (enc_key (KS_congr fun j hj => k1_bn ⟨j, hj⟩) (fun j hj => s1_bn ⟨j, hj⟩) 10 i hi).symm
theorem hex_known : (⟨(hexT x1B x1B.size).toArray⟩ : ByteArray) = ⟨#[54, 57, 99, 52, 101, 48, 100, 56, 54, 97, 55, 98, 48, 52, 51, 48, 100, 56, 99, 100, 98, 55, 56, 48, 55, 48, 98, 52, 99, 53, 53, 97]⟩ := by decide +kernel
set_option maxHeartbeats 2000000 in
set_option maxRecDepth 100000 in
theorem walk_FnAesKnown (a : Option Addr) (len cap : Nat) (z : List Int) (w : World) (h : RowC w a len cap z) :
    Calls Try.prog 8 #[.slice a len cap] w fun e w' => e = .returned (.bool true) ∧ Below w.heap.size w w' := by
  have hm : (len : Int) ≤ 9223372036854775807 := by
    rcases h with ⟨rfl, _⟩ | ⟨_, _, _, h1, h2, _⟩
    · omega
    · unfold maxLen at h2; omega
  have HR := hid_in h
  clear h
  by_cases hl : len ≤ 1048576
  · have K1 := hid_in (fun w => by have := putI k1B s1B w (by decide) (by decide); rw [put_known] at this; exact this)
    have X1 := hid_in (fun w => by have := hexI_any x1B w (by decide); rw [hex_known] at this; exact this)
    go_enter Try.func8, Try.ntmps8
    go_wp2_with fail
    refine (drawAesPut a len cap z _ HR.out hl).mono ?_
    rintro e w1 ⟨s, t, rfl, hs, ht, hb1⟩
    have HB := hid_in hb1
    clear hb1
    have I1 := hid_in (fun w => putI s t w (by omega) (by omega))
    have S1 := hid_in (fun w => putS s t w (by omega) (by omega))
    generalize putT s t = y at *
    go_wp2_with fail
    refine (I1.out _).mono ?_
    rintro e w2 ⟨rfl, hb2⟩
    have HB2 := hid_in (below_later HB.out hb2)
    clear hb2 HB
    go_wp2_with fail
    refine (S1.out _).mono ?_
    rintro e w3 ⟨rfl, hb3⟩
    have HB3 := hid_in (below_later HB2.out hb3)
    clear hb3 HB2
    go_wp2_with fail
    refine (K1.out _).mono ?_
    rintro e w4 ⟨rfl, hb4⟩
    have HB4 := hid_in (below_later HB3.out hb4)
    clear hb4 HB3
    go_wp2_with fail
    refine (X1.out _).mono ?_
    rintro e w5 ⟨rfl, hb5⟩
    have HB5 := hid_in (below_later HB4.out hb5)
    clear hb5 HB4
    go_wp2_with fail
    go_ret
    exact ⟨rfl, HB5.out⟩
  · have hl' : (1048576 : Int) < len := by omega
    go_enter Try.func8, Try.ntmps8
    go_wp2_with fail
    go_ret
    exact ⟨rfl, Below.refl _ _⟩
end Go.Proofs.Ytdbobeojbdcmdaa
