/- Taking times in the field of bytes, in the program and in the specification, as contracts. The conditions stand at each theorem. -/
import Derived.Test.YtdbobeojbdcmdaaProg
import Derived.Test.YtdbobeojbdcmdaaLat
import Derived.Test.YtdbobeojbdcmdaaMath
import Derived.Test.YtdbobeojbdcmdaaApdG
import Derived.Test.YtdbobeojbdcmdaaBytM
import Derived.Test.YtdbobeojbdcmdaaAesM
import Derived.WalkKit
import Derived.WalkSpells
import Derived.WalkLawsBesides
import Derived.BigQuiet
import Derived.Handy
import Derived.PlainAid
import Derived.Laws.IdiomStrings
import Derived.Laws.BytesArg
import Derived.Deep.RegionHeld3
namespace Go.Proofs.Ytdbobeojbdcmdaa
open Go.RowKit Go.LatT Go.BlockM Go.PlainAid Go.OpnT Go.ApdG Go.BytM Go.AesM
set_option linter.unusedVariables false
set_option linter.unusedSimpArgs false
theorem ofInt8 (A : Nat) (h : A < 256) : (BitVec.ofInt 8 (A : Int)).toNat = A := by simp [BitVec.toNat_ofInt]; omega
theorem ofInt64 (A : Nat) (h : A < 4611686018427387904) : (BitVec.ofInt 64 (A : Int)).toNat = A := by simp [BitVec.toNat_ofInt]; omega
theorem xor8 (A B : Nat) (hA : A < 256) (hB : B < 256) : bits .xor .u8 (A : Int) (B : Int) = ((A ^^^ B : Nat) : Int) := by
  show IntKind.u8.wrap ((BitVec.ofInt 8 (A : Int) ^^^ BitVec.ofInt 8 (B : Int)).toNat : Int) = _
  rw [BitVec.toNat_xor, ofInt8 A hA, ofInt8 B hB]
  have := xor_lt hA hB
  rw [IntKind.wrap_u8]; omega
theorem xor64 (A B : Nat) (hA : A < 65536) (hB : B < 65536) : bits .xor .i64 (A : Int) (B : Int) = ((A ^^^ B : Nat) : Int) := by
  show IntKind.i64.wrap ((BitVec.ofInt 64 (A : Int) ^^^ BitVec.ofInt 64 (B : Int)).toNat : Int) = _
  rw [BitVec.toNat_xor, ofInt64 A (by omega), ofInt64 B (by omega)]
  have : A ^^^ B < 65536 := Nat.xor_lt_two_pow (n := 16) hA hB
  rw [IntKind.wrap_i64]; omega
theorem and8 (A : Nat) (hA : A < 256) : bits .and .u8 (A : Int) 1 = ((A % 2 : Nat) : Int) := by
  have : ∀ a : Fin 256, bits .and .u8 (a.1 : Int) 1 = ((a.1 % 2 : Nat) : Int) := by decide +kernel
  exact this ⟨A, hA⟩
/-- The program's way of taking times two. -/
theorem xt_impl (a : Nat) (h : a < 256) : (a * 2 % 256) ^^^ (a / 128 * 27) = xt a := by
  have : ∀ a : Fin 256, (a.1 * 2 % 256) ^^^ (a.1 / 128 * 27) = xt a.1 := by decide +kernel
  exact this ⟨a, h⟩
set_option maxHeartbeats 1000000 in
set_option maxRecDepth 100000 in
theorem l6Times_any (a : Nat) (w : World) (h : a < 256) :
    Calls Try.prog 58 #[.int .i64 (a : Int)] w fun e w' => e = .returned (.int .i64 ((xt a : Nat) : Int)) ∧ w' = w := by
  have hx := xor64 (a * 2) 283 (by omega) (by omega)
  have e1 : ((a * 2 : Nat) : Int) = (a : Int) * 2 := by omega
  rw [e1] at hx
  have hx' : bits .xor .i64 ((a : Int) * 2) 283 = ((a * 2 ^^^ 283 : Nat) : Int) := hx
  by_cases hb : 255 < a * 2
  · have E := hid_in (show xt a = a * 2 ^^^ 283 by unfold xt; rw [if_pos hb])
    have hb' : (255 : Int) < (a : Int) * 2 := by omega
    clear hx e1 hb
    go_enter Try.func58, Try.ntmps58
    go_wp2_with fail
    go_ret
    exact ⟨by rw [E.out]; rfl, rfl⟩
  · have E := hid_in (show xt a = a * 2 by unfold xt; rw [if_neg hb])
    have hb' : ¬ (255 : Int) < (a : Int) * 2 := by omega
    clear hx e1 hb hx'
    go_enter Try.func58, Try.ntmps58
    go_wp2_with fail
    go_ret
    exact ⟨by rw [E.out]; simp, rfl⟩
/-- The loops of taking times go by one bit. -/
theorem mulF_step (f a b o : Nat) (h : b ≠ 0) : mulF (f + 1) a b o = mulF f (xt a) (b / 2) (if b % 2 = 1 then o ^^^ a else o) := by
  rw [mulF, if_neg h]
theorem mulF_end (f a o : Nat) : mulF f a 0 o = o := by cases f <;> simp [mulF]
set_option maxHeartbeats 2000000 in
set_option maxRecDepth 100000 in
theorem l6Mul_any (a b : Nat) (w : World) (ha : a < 256) (hb : b < 256) :
    Calls Try.prog 69 #[.int .i64 (a : Int), .int .i64 (b : Int)] w fun e w' => e = .returned (.int .i64 ((mul a b : Nat) : Int)) ∧ w' = w := by
  go_enter Try.func69, Try.ntmps69
  go_wp2_with fail
  go_loop [0, 1, 5] (fun x y o => ∃ c d r k : Nat, x = .int .i64 (c : Int) ∧ y = .int .i64 (d : Int) ∧ o = .int .i64 (r : Int) ∧ c < 256 ∧ r < 256 ∧ k ≤ 8 ∧ d < 2 ^ k ∧ Hid (mulF k c d r = mul a b)) (fun _ y _ => (intOf y).toNat)
  case atStart => exact ⟨a, b, 0, 8, rfl, rfl, rfl, ha, by omega, by omega, by omega, rfl⟩
  case round =>
    obtain ⟨c, d, r, k, rfl, rfl, rfl, hc, hr, hk, hd, HM⟩ := hrel
    by_cases h0 : d = 0
    · subst h0
      have E := hid_in (HM.out.symm.trans (mulF_end k c r))
      go_wp2_with fail
      go_ret
      exact ⟨by rw [E.out]; rfl, rfl⟩
    · obtain ⟨j, rfl⟩ : ∃ j, k = j + 1 := by
        cases k with
        | zero => simp at hd; omega
        | succ j => exact ⟨j, rfl⟩
      have hd2 : d / 2 < 2 ^ j := by rw [Nat.pow_succ] at hd; omega
      have hpj : 2 ^ j ≤ 2 ^ 8 := Nat.pow_le_pow_right (by omega) (by omega)
      have hxc := xt_lt c hc
      have hx := xor64 r c (by omega) (by omega)
      have hxl := xor_lt hr hc
      have ST := hid_in ((mulF_step j c d r h0).symm.trans HM.out)
      have HD := hid_in hd2
      have hd256 : d < 256 := Nat.lt_of_lt_of_le hd (Nat.pow_le_pow_right (n := 2) (by omega) hk)
      clear hd hd2 hpj
      rcases Nat.mod_two_eq_zero_or_one d with h2 | h2
      · have h2' : (d : Int) % 2 = 0 := by omega
        go_wp2_with fail
        refine (l6Times_any c _ hc).mono ?_
        rintro e w1 ⟨rfl, rfl⟩
        go_wp2_with fail
        refine ⟨⟨xt c, d / 2, r, j, rfl, by simp, rfl, hxc, hr, by omega, HD.out, ?_⟩, by simp [intOf]; omega⟩
        show _ = _
        have := ST.out
        rw [if_neg (by omega)] at this
        exact this
      · have h2' : (d : Int) % 2 = 1 := by omega
        go_wp2_with fail
        refine (l6Times_any c _ hc).mono ?_
        rintro e w1 ⟨rfl, rfl⟩
        go_wp2_with fail
        refine ⟨⟨xt c, d / 2, r ^^^ c, j, rfl, by simp, rfl, hxc, hxl, by omega, HD.out, ?_⟩, by simp [intOf]; omega⟩
        show _ = _
        have := ST.out
        rw [if_pos h2] at this
        exact this
set_option maxHeartbeats 2000000 in
set_option maxRecDepth 100000 in
theorem times_any (a b : Nat) (w : World) (ha : a < 256) (hb : b < 256) :
    Calls Try.prog 62 #[.int .u8 (a : Int), .int .u8 (b : Int)] w fun e w' => e = .returned (.int .u8 ((mul a b : Nat) : Int)) ∧ w' = w := by
  go_enter Try.func62, Try.ntmps62
  go_wp2_with fail
  go_loop [0, 1, 5] (fun x y o => ∃ c d r k : Nat, x = .int .u8 (c : Int) ∧ y = .int .u8 (d : Int) ∧ o = .int .u8 (r : Int) ∧ c < 256 ∧ r < 256 ∧ k ≤ 8 ∧ d < 2 ^ k ∧ Hid (mulF k c d r = mul a b)) (fun _ y _ => (intOf y).toNat)
  case atStart => exact ⟨a, b, 0, 8, rfl, rfl, rfl, ha, by omega, by omega, by omega, rfl⟩
  case round =>
    obtain ⟨c, d, r, k, rfl, rfl, rfl, hc, hr, hk, hd, HM⟩ := hrel
    by_cases h0 : d = 0
    · subst h0
      have E := hid_in (HM.out.symm.trans (mulF_end k c r))
      go_wp2_with fail
      go_ret
      exact ⟨by rw [E.out]; rfl, rfl⟩
    · obtain ⟨j, rfl⟩ : ∃ j, k = j + 1 := by
        cases k with
        | zero => simp at hd; omega
        | succ j => exact ⟨j, rfl⟩
      have hd2 : d / 2 < 2 ^ j := by rw [Nat.pow_succ] at hd; omega
      have hxc := xt_lt c hc
      have hx := xor8 r c hr hc
      have hxl := xor_lt hr hc
      have ST := hid_in ((mulF_step j c d r h0).symm.trans HM.out)
      have HD := hid_in hd2
      have hd256 : d < 256 := Nat.lt_of_lt_of_le hd (Nat.pow_le_pow_right (n := 2) (by omega) hk)
      have hand := and8 d hd256
      have hx2 : bits .xor .u8 ((c : Int) * 2 % 256) ((c : Int) / 128 * 27) = ((xt c : Nat) : Int) := by
        rw [← xt_impl c hc, ← xor8 (c * 2 % 256) (c / 128 * 27) (by omega) (by omega)]
        rw [show ((c * 2 % 256 : Nat) : Int) = (c : Int) * 2 % 256 by omega, show ((c / 128 * 27 : Nat) : Int) = (c : Int) / 128 * 27 by omega]
      clear hd hd2
      rcases Nat.mod_two_eq_zero_or_one d with h2 | h2
      · rw [h2] at hand
        go_wp2_with fail
        refine ⟨⟨xt c, d / 2, r, j, rfl, by simp, rfl, hxc, hr, by omega, HD.out, ?_⟩, by simp [intOf]; omega⟩
        show _ = _
        have := ST.out
        rw [if_neg (by omega)] at this
        exact this
      · rw [h2] at hand
        go_wp2_with fail
        refine ⟨⟨xt c, d / 2, r ^^^ c, j, rfl, by simp, rfl, hxc, hxl, by omega, HD.out, ?_⟩, by simp [intOf]; omega⟩
        show _ = _
        have := ST.out
        rw [if_pos h2] at this
        exact this
end Go.Proofs.Ytdbobeojbdcmdaa
