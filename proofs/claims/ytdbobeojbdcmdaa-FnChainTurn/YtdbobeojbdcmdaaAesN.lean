/- What is proved: turning a block back undoes turning it, and the other way round, without Go. The conditions stand at each theorem. -/
import Derived.Test.YtdbobeojbdcmdaaAesI
namespace Go.Proofs.Ytdbobeojbdcmdaa
open Go.RowKit Go.LatT Go.BlockM Go.PlainAid Go.OpnT Go.ApdG Go.BytM Go.AesM
set_option linter.unusedVariables false
set_option linter.unusedSimpArgs false
theorem xt_form : ∀ a : Fin 256, xt a.1 = (a.1 * 2) ^^^ (a.1 / 128 * 283) := by decide +kernel
theorem xt_xor (a b : Nat) (ha : a < 256) (hb : b < 256) : xt (a ^^^ b) = xt a ^^^ xt b := by
  rw [xt_form ⟨a, ha⟩, xt_form ⟨b, hb⟩, xt_form ⟨a ^^^ b, xor_lt ha hb⟩]
  have e1 : (a ^^^ b) * 2 = a * 2 ^^^ b * 2 := by
    have := Nat.shiftLeft_xor_distrib (a := a) (b := b) (i := 1)
    simpa [Nat.shiftLeft_eq] using this
  have e2 : (a ^^^ b) / 128 = a / 128 ^^^ b / 128 := by
    have := Nat.shiftRight_xor_distrib (a := a) (b := b) (i := 7)
    simpa [Nat.shiftRight_eq_div_pow] using this
  have e3 : ∀ u v : Fin 2, (u.1 ^^^ v.1) * 283 = u.1 * 283 ^^^ v.1 * 283 := by decide
  have e4 := e3 ⟨a / 128, by omega⟩ ⟨b / 128, by omega⟩
  simp only at e4 ⊢
  rw [e1, e2, e4]
  ac_rfl
theorem mulF_xor : ∀ f a b c o p, a < 256 → b < 256 → mulF f (a ^^^ b) c (o ^^^ p) = mulF f a c o ^^^ mulF f b c p
  | 0, _, _, _, _, _, _, _ => rfl
  | f + 1, a, b, c, o, p, ha, hb => by
    unfold mulF
    by_cases h : c = 0
    · rw [if_pos h, if_pos h, if_pos h]
    · rw [if_neg h, if_neg h, if_neg h, xt_xor a b ha hb]
      by_cases h2 : c % 2 = 1
      · rw [if_pos h2, if_pos h2, if_pos h2, ← mulF_xor f _ _ _ _ _ (xt_lt a ha) (xt_lt b hb)]
        congr 1; ac_rfl
      · rw [if_neg h2, if_neg h2, if_neg h2, ← mulF_xor f _ _ _ _ _ (xt_lt a ha) (xt_lt b hb)]
theorem mul_xor (a b c : Nat) (ha : a < 256) (hb : b < 256) : mul (a ^^^ b) c = mul a c ^^^ mul b c := mulF_xor 8 a b c 0 0 ha hb
theorem inv0 : ∀ x : Fin 256, mul (mul x.1 2) 14 ^^^ (mul (mul x.1 1) 11 ^^^ (mul (mul x.1 1) 13 ^^^ mul (mul x.1 3) 9)) = x.1 := by decide +kernel
theorem inv1 : ∀ x : Fin 256, mul (mul x.1 3) 14 ^^^ (mul (mul x.1 2) 11 ^^^ (mul (mul x.1 1) 13 ^^^ mul (mul x.1 1) 9)) = 0 := by decide +kernel
theorem inv2 : ∀ x : Fin 256, mul (mul x.1 1) 14 ^^^ (mul (mul x.1 3) 11 ^^^ (mul (mul x.1 2) 13 ^^^ mul (mul x.1 1) 9)) = 0 := by decide +kernel
theorem inv3 : ∀ x : Fin 256, mul (mul x.1 1) 14 ^^^ (mul (mul x.1 1) 11 ^^^ (mul (mul x.1 3) 13 ^^^ mul (mul x.1 2) 9)) = 0 := by decide +kernel
theorem vni0 : ∀ x : Fin 256, mul (mul x.1 14) 2 ^^^ (mul (mul x.1 9) 3 ^^^ (mul (mul x.1 13) 1 ^^^ mul (mul x.1 11) 1)) = x.1 := by decide +kernel
theorem vni1 : ∀ x : Fin 256, mul (mul x.1 11) 2 ^^^ (mul (mul x.1 14) 3 ^^^ (mul (mul x.1 9) 1 ^^^ mul (mul x.1 13) 1)) = 0 := by decide +kernel
theorem vni2 : ∀ x : Fin 256, mul (mul x.1 13) 2 ^^^ (mul (mul x.1 11) 3 ^^^ (mul (mul x.1 14) 1 ^^^ mul (mul x.1 9) 1)) = 0 := by decide +kernel
theorem vni3 : ∀ x : Fin 256, mul (mul x.1 9) 2 ^^^ (mul (mul x.1 13) 3 ^^^ (mul (mul x.1 11) 1 ^^^ mul (mul x.1 14) 1)) = 0 := by decide +kernel
/-- A mixed column, written out. -/
theorem mix_col (f g : Nat → Nat) (b r : Nat) (hr : r < 4) (hb : b % 4 = 0) : mix f g (b + r) = mul (f b) (g ((4 - r) % 4)) ^^^ (mul (f (b + 1)) (g ((5 - r) % 4)) ^^^ (mul (f (b + 2)) (g ((6 - r) % 4)) ^^^ mul (f (b + 3)) (g ((7 - r) % 4)))) := by
  unfold mix
  simp only [mixK]
  rw [show (b + r) % 4 = r by omega, show b + r - r = b by omega, show (0 + 4 - r) = 4 - r by omega, show (1 + 4 - r) = 5 - r by omega, show (2 + 4 - r) = 6 - r by omega, show (3 + 4 - r) = 7 - r by omega]
  simp only [Nat.zero_xor, Nat.add_zero, Nat.xor_assoc]
theorem mul4 (a b c d e : Nat) (ha : a < 256) (hb : b < 256) (hc : c < 256) (hd : d < 256) : mul (a ^^^ (b ^^^ (c ^^^ d))) e = mul a e ^^^ (mul b e ^^^ (mul c e ^^^ mul d e)) := by
  rw [mul_xor _ _ _ ha (xor_lt hb (xor_lt hc hd)), mul_xor _ _ _ hb (xor_lt hc hd), mul_xor _ _ _ hc hd]
theorem sq (a0 a1 a2 a3 b0 b1 b2 b3 c0 c1 c2 c3 d0 d1 d2 d3 : Nat) :
    (a0 ^^^ (b0 ^^^ (c0 ^^^ d0))) ^^^ ((a1 ^^^ (b1 ^^^ (c1 ^^^ d1))) ^^^ ((a2 ^^^ (b2 ^^^ (c2 ^^^ d2))) ^^^ (a3 ^^^ (b3 ^^^ (c3 ^^^ d3))))) =
    (a0 ^^^ (a1 ^^^ (a2 ^^^ a3))) ^^^ ((b0 ^^^ (b1 ^^^ (b2 ^^^ b3))) ^^^ ((c0 ^^^ (c1 ^^^ (c2 ^^^ c3))) ^^^ (d0 ^^^ (d1 ^^^ (d2 ^^^ d3))))) := by ac_rfl
theorem mix_back (f : Nat → Nat) (hf : By 16 f) : ∀ i, i < 16 → mix (mix f fac) fad i = f i := by
  intro i hi
  obtain ⟨b, r, hr, hb, rfl⟩ : ∃ b r, r < 4 ∧ b % 4 = 0 ∧ i = b + r := ⟨i - i % 4, i % 4, by omega, by omega, by omega⟩
  have h0 := hf b (by omega); have h1 := hf (b + 1) (by omega); have h2 := hf (b + 2) (by omega); have h3 := hf (b + 3) (by omega)
  have m0 := mix_col f fac b 0 (by omega) hb
  have m1 := mix_col f fac b 1 (by omega) hb
  have m2 := mix_col f fac b 2 (by omega) hb
  have m3 := mix_col f fac b 3 (by omega) hb
  rw [Nat.add_zero] at m0
  rw [mix_col _ _ b r hr hb, m0, m1, m2, m3]
  have hx : f (b + r) = if r = 0 then f b else if r = 1 then f (b + 1) else if r = 2 then f (b + 2) else f (b + 3) := by
    have hr' : r = 0 ∨ r = 1 ∨ r = 2 ∨ r = 3 := by omega
    rcases hr' with rfl | rfl | rfl | rfl <;> rfl
  rw [hx]
  generalize f b = x0 at *; generalize f (b + 1) = x1 at *; generalize f (b + 2) = x2 at *; generalize f (b + 3) = x3 at *
  rw [mul4 _ _ _ _ _ (mul_lt h0) (mul_lt h1) (mul_lt h2) (mul_lt h3), mul4 _ _ _ _ _ (mul_lt h0) (mul_lt h1) (mul_lt h2) (mul_lt h3), mul4 _ _ _ _ _ (mul_lt h0) (mul_lt h1) (mul_lt h2) (mul_lt h3), mul4 _ _ _ _ _ (mul_lt h0) (mul_lt h1) (mul_lt h2) (mul_lt h3), sq]
  have f0 : fac 0 = 2 := rfl; have f1 : fac 1 = 3 := rfl; have f2 : fac 2 = 1 := rfl; have f3 : fac 3 = 1 := rfl
  have d0 : fad 0 = 14 := rfl; have d1 : fad 1 = 11 := rfl; have d2 : fad 2 = 13 := rfl; have d3 : fad 3 = 9 := rfl
  have hr' : r = 0 ∨ r = 1 ∨ r = 2 ∨ r = 3 := by omega
  clear m0 m1 m2 m3 hx hf hi hb
  rcases hr' with rfl | rfl | rfl | rfl
  · have z0 := inv0 ⟨x0, h0⟩; have z1 := inv1 ⟨x1, h1⟩; have z2 := inv2 ⟨x2, h2⟩; have z3 := inv3 ⟨x3, h3⟩
    simp only at z0 z1 z2 z3
    simp only [Nat.reduceAdd, Nat.reduceSub, Nat.reduceMod, f0, f1, f2, f3, d0, d1, d2, d3]
    generalize mul = m at *
    have q0 : m (m x0 2) 14 ^^^ (m (m x0 1) 11 ^^^ (m (m x0 1) 13 ^^^ m (m x0 3) 9)) = x0 := Eq.trans (by ac_rfl) z0
    have q1 : m (m x1 3) 14 ^^^ (m (m x1 2) 11 ^^^ (m (m x1 1) 13 ^^^ m (m x1 1) 9)) = 0 := Eq.trans (by ac_rfl) z1
    have q2 : m (m x2 1) 14 ^^^ (m (m x2 3) 11 ^^^ (m (m x2 2) 13 ^^^ m (m x2 1) 9)) = 0 := Eq.trans (by ac_rfl) z2
    have q3 : m (m x3 1) 14 ^^^ (m (m x3 1) 11 ^^^ (m (m x3 3) 13 ^^^ m (m x3 2) 9)) = 0 := Eq.trans (by ac_rfl) z3
    rw [q0, q1, q2, q3]; simp
  · have z0 := inv3 ⟨x0, h0⟩; have z1 := inv0 ⟨x1, h1⟩; have z2 := inv1 ⟨x2, h2⟩; have z3 := inv2 ⟨x3, h3⟩
    simp only at z0 z1 z2 z3
    simp only [Nat.reduceAdd, Nat.reduceSub, Nat.reduceMod, f0, f1, f2, f3, d0, d1, d2, d3]
    generalize mul = m at *
    have q0 : m (m x0 2) 9 ^^^ (m (m x0 1) 14 ^^^ (m (m x0 1) 11 ^^^ m (m x0 3) 13)) = 0 := Eq.trans (by ac_rfl) z0
    have q1 : m (m x1 3) 9 ^^^ (m (m x1 2) 14 ^^^ (m (m x1 1) 11 ^^^ m (m x1 1) 13)) = x1 := Eq.trans (by ac_rfl) z1
    have q2 : m (m x2 1) 9 ^^^ (m (m x2 3) 14 ^^^ (m (m x2 2) 11 ^^^ m (m x2 1) 13)) = 0 := Eq.trans (by ac_rfl) z2
    have q3 : m (m x3 1) 9 ^^^ (m (m x3 1) 14 ^^^ (m (m x3 3) 11 ^^^ m (m x3 2) 13)) = 0 := Eq.trans (by ac_rfl) z3
    rw [q0, q1, q2, q3]; simp
  · have z0 := inv2 ⟨x0, h0⟩; have z1 := inv3 ⟨x1, h1⟩; have z2 := inv0 ⟨x2, h2⟩; have z3 := inv1 ⟨x3, h3⟩
    simp only at z0 z1 z2 z3
    simp only [Nat.reduceAdd, Nat.reduceSub, Nat.reduceMod, f0, f1, f2, f3, d0, d1, d2, d3]
    generalize mul = m at *
    have q0 : m (m x0 2) 13 ^^^ (m (m x0 1) 9 ^^^ (m (m x0 1) 14 ^^^ m (m x0 3) 11)) = 0 := Eq.trans (by ac_rfl) z0
    have q1 : m (m x1 3) 13 ^^^ (m (m x1 2) 9 ^^^ (m (m x1 1) 14 ^^^ m (m x1 1) 11)) = 0 := Eq.trans (by ac_rfl) z1
    have q2 : m (m x2 1) 13 ^^^ (m (m x2 3) 9 ^^^ (m (m x2 2) 14 ^^^ m (m x2 1) 11)) = x2 := Eq.trans (by ac_rfl) z2
    have q3 : m (m x3 1) 13 ^^^ (m (m x3 1) 9 ^^^ (m (m x3 3) 14 ^^^ m (m x3 2) 11)) = 0 := Eq.trans (by ac_rfl) z3
    rw [q0, q1, q2, q3]; simp
  · have z0 := inv1 ⟨x0, h0⟩; have z1 := inv2 ⟨x1, h1⟩; have z2 := inv3 ⟨x2, h2⟩; have z3 := inv0 ⟨x3, h3⟩
    simp only at z0 z1 z2 z3
    simp only [Nat.reduceAdd, Nat.reduceSub, Nat.reduceMod, f0, f1, f2, f3, d0, d1, d2, d3]
    generalize mul = m at *
    have q0 : m (m x0 2) 11 ^^^ (m (m x0 1) 13 ^^^ (m (m x0 1) 9 ^^^ m (m x0 3) 14)) = 0 := Eq.trans (by ac_rfl) z0
    have q1 : m (m x1 3) 11 ^^^ (m (m x1 2) 13 ^^^ (m (m x1 1) 9 ^^^ m (m x1 1) 14)) = 0 := Eq.trans (by ac_rfl) z1
    have q2 : m (m x2 1) 11 ^^^ (m (m x2 3) 13 ^^^ (m (m x2 2) 9 ^^^ m (m x2 1) 14)) = 0 := Eq.trans (by ac_rfl) z2
    have q3 : m (m x3 1) 11 ^^^ (m (m x3 1) 13 ^^^ (m (m x3 3) 9 ^^^ m (m x3 2) 14)) = x3 := Eq.trans (by ac_rfl) z3
    rw [q0, q1, q2, q3]; simp
theorem mix_forth (f : Nat → Nat) (hf : By 16 f) : ∀ i, i < 16 → mix (mix f fad) fac i = f i := by
  intro i hi
  obtain ⟨b, r, hr, hb, rfl⟩ : ∃ b r, r < 4 ∧ b % 4 = 0 ∧ i = b + r := ⟨i - i % 4, i % 4, by omega, by omega, by omega⟩
  have h0 := hf b (by omega); have h1 := hf (b + 1) (by omega); have h2 := hf (b + 2) (by omega); have h3 := hf (b + 3) (by omega)
  have m0 := mix_col f fad b 0 (by omega) hb
  have m1 := mix_col f fad b 1 (by omega) hb
  have m2 := mix_col f fad b 2 (by omega) hb
  have m3 := mix_col f fad b 3 (by omega) hb
  rw [Nat.add_zero] at m0
  rw [mix_col _ _ b r hr hb, m0, m1, m2, m3]
  have hx : f (b + r) = if r = 0 then f b else if r = 1 then f (b + 1) else if r = 2 then f (b + 2) else f (b + 3) := by
    have hr' : r = 0 ∨ r = 1 ∨ r = 2 ∨ r = 3 := by omega
    rcases hr' with rfl | rfl | rfl | rfl <;> rfl
  rw [hx]
  generalize f b = x0 at *; generalize f (b + 1) = x1 at *; generalize f (b + 2) = x2 at *; generalize f (b + 3) = x3 at *
  rw [mul4 _ _ _ _ _ (mul_lt h0) (mul_lt h1) (mul_lt h2) (mul_lt h3), mul4 _ _ _ _ _ (mul_lt h0) (mul_lt h1) (mul_lt h2) (mul_lt h3), mul4 _ _ _ _ _ (mul_lt h0) (mul_lt h1) (mul_lt h2) (mul_lt h3), mul4 _ _ _ _ _ (mul_lt h0) (mul_lt h1) (mul_lt h2) (mul_lt h3), sq]
  have f0 : fac 0 = 2 := rfl; have f1 : fac 1 = 3 := rfl; have f2 : fac 2 = 1 := rfl; have f3 : fac 3 = 1 := rfl
  have d0 : fad 0 = 14 := rfl; have d1 : fad 1 = 11 := rfl; have d2 : fad 2 = 13 := rfl; have d3 : fad 3 = 9 := rfl
  have hr' : r = 0 ∨ r = 1 ∨ r = 2 ∨ r = 3 := by omega
  clear m0 m1 m2 m3 hx hf hi hb
  rcases hr' with rfl | rfl | rfl | rfl
  · have z0 := vni0 ⟨x0, h0⟩; have z1 := vni1 ⟨x1, h1⟩; have z2 := vni2 ⟨x2, h2⟩; have z3 := vni3 ⟨x3, h3⟩
    simp only at z0 z1 z2 z3
    simp only [Nat.reduceAdd, Nat.reduceSub, Nat.reduceMod, f0, f1, f2, f3, d0, d1, d2, d3]
    generalize mul = m at *
    have q0 : m (m x0 14) 2 ^^^ (m (m x0 9) 3 ^^^ (m (m x0 13) 1 ^^^ m (m x0 11) 1)) = x0 := Eq.trans (by ac_rfl) z0
    have q1 : m (m x1 11) 2 ^^^ (m (m x1 14) 3 ^^^ (m (m x1 9) 1 ^^^ m (m x1 13) 1)) = 0 := Eq.trans (by ac_rfl) z1
    have q2 : m (m x2 13) 2 ^^^ (m (m x2 11) 3 ^^^ (m (m x2 14) 1 ^^^ m (m x2 9) 1)) = 0 := Eq.trans (by ac_rfl) z2
    have q3 : m (m x3 9) 2 ^^^ (m (m x3 13) 3 ^^^ (m (m x3 11) 1 ^^^ m (m x3 14) 1)) = 0 := Eq.trans (by ac_rfl) z3
    rw [q0, q1, q2, q3]; simp
  · have z0 := vni3 ⟨x0, h0⟩; have z1 := vni0 ⟨x1, h1⟩; have z2 := vni1 ⟨x2, h2⟩; have z3 := vni2 ⟨x3, h3⟩
    simp only at z0 z1 z2 z3
    simp only [Nat.reduceAdd, Nat.reduceSub, Nat.reduceMod, f0, f1, f2, f3, d0, d1, d2, d3]
    generalize mul = m at *
    have q0 : m (m x0 14) 1 ^^^ (m (m x0 9) 2 ^^^ (m (m x0 13) 3 ^^^ m (m x0 11) 1)) = 0 := Eq.trans (by ac_rfl) z0
    have q1 : m (m x1 11) 1 ^^^ (m (m x1 14) 2 ^^^ (m (m x1 9) 3 ^^^ m (m x1 13) 1)) = x1 := Eq.trans (by ac_rfl) z1
    have q2 : m (m x2 13) 1 ^^^ (m (m x2 11) 2 ^^^ (m (m x2 14) 3 ^^^ m (m x2 9) 1)) = 0 := Eq.trans (by ac_rfl) z2
    have q3 : m (m x3 9) 1 ^^^ (m (m x3 13) 2 ^^^ (m (m x3 11) 3 ^^^ m (m x3 14) 1)) = 0 := Eq.trans (by ac_rfl) z3
    rw [q0, q1, q2, q3]; simp
  · have z0 := vni2 ⟨x0, h0⟩; have z1 := vni3 ⟨x1, h1⟩; have z2 := vni0 ⟨x2, h2⟩; have z3 := vni1 ⟨x3, h3⟩
    simp only at z0 z1 z2 z3
    simp only [Nat.reduceAdd, Nat.reduceSub, Nat.reduceMod, f0, f1, f2, f3, d0, d1, d2, d3]
    generalize mul = m at *
    have q0 : m (m x0 14) 1 ^^^ (m (m x0 9) 1 ^^^ (m (m x0 13) 2 ^^^ m (m x0 11) 3)) = 0 := Eq.trans (by ac_rfl) z0
    have q1 : m (m x1 11) 1 ^^^ (m (m x1 14) 1 ^^^ (m (m x1 9) 2 ^^^ m (m x1 13) 3)) = 0 := Eq.trans (by ac_rfl) z1
    have q2 : m (m x2 13) 1 ^^^ (m (m x2 11) 1 ^^^ (m (m x2 14) 2 ^^^ m (m x2 9) 3)) = x2 := Eq.trans (by ac_rfl) z2
    have q3 : m (m x3 9) 1 ^^^ (m (m x3 13) 1 ^^^ (m (m x3 11) 2 ^^^ m (m x3 14) 3)) = 0 := Eq.trans (by ac_rfl) z3
    rw [q0, q1, q2, q3]; simp
  · have z0 := vni1 ⟨x0, h0⟩; have z1 := vni2 ⟨x1, h1⟩; have z2 := vni3 ⟨x2, h2⟩; have z3 := vni0 ⟨x3, h3⟩
    simp only at z0 z1 z2 z3
    simp only [Nat.reduceAdd, Nat.reduceSub, Nat.reduceMod, f0, f1, f2, f3, d0, d1, d2, d3]
    generalize mul = m at *
    have q0 : m (m x0 14) 3 ^^^ (m (m x0 9) 1 ^^^ (m (m x0 13) 1 ^^^ m (m x0 11) 2)) = 0 := Eq.trans (by ac_rfl) z0
    have q1 : m (m x1 11) 3 ^^^ (m (m x1 14) 1 ^^^ (m (m x1 9) 1 ^^^ m (m x1 13) 2)) = 0 := Eq.trans (by ac_rfl) z1
    have q2 : m (m x2 13) 3 ^^^ (m (m x2 11) 1 ^^^ (m (m x2 14) 1 ^^^ m (m x2 9) 2)) = 0 := Eq.trans (by ac_rfl) z2
    have q3 : m (m x3 9) 3 ^^^ (m (m x3 13) 1 ^^^ (m (m x3 11) 1 ^^^ m (m x3 14) 2)) = x3 := Eq.trans (by ac_rfl) z3
    rw [q0, q1, q2, q3]; simp
theorem shf_back (f : Nat → Nat) : ∀ i, i < 16 → shf 3 (shf 1 f) i = f i := by
  intro i hi
  unfold shf
  congr 1; omega
theorem shf_forth (f : Nat → Nat) : ∀ i, i < 16 → shf 1 (shf 3 f) i = f i := by
  intro i hi
  unfold shf
  congr 1; omega
theorem mixK_congr {f g h : Nat → Nat} (e : ∀ i, i < 16 → f i = g i) (i : Nat) (hi : i < 16) : ∀ k, k ≤ 4 → mixK f h i k = mixK g h i k
  | 0, _ => rfl
  | k + 1, hk => by rw [mixK, mixK, mixK_congr e i hi k (by omega), e _ (by omega)]
theorem mix_congr {f g h : Nat → Nat} (e : ∀ i, i < 16 → f i = g i) : ∀ i, i < 16 → mix f h i = mix g h i := fun i hi => mixK_congr e i hi 4 (by omega)
theorem shf_congr {c : Nat} {f g : Nat → Nat} (e : ∀ i, i < 16 → f i = g i) : ∀ i, i < 16 → shf c f i = shf c g i := fun i _ => e _ (Nat.mod_lt _ (by omega))
theorem stp_congr {K : Nat → Nat → Nat} {r : Nat} {s t : Nat → Nat} (e : ∀ i, i < 16 → s i = t i) : ∀ i, i < 16 → stp K r s i = stp K r t i := by
  intro i hi
  have e2 : ∀ i, i < 16 → shf 1 (fun j => there (s j)) i = shf 1 (fun j => there (t j)) i := shf_congr fun j hj => by show there (s j) = there (t j); rw [e j hj]
  unfold stp
  split
  · rw [mix_congr e2 i hi]
  · rw [e2 i hi]
theorem dst_congr {K : Nat → Nat → Nat} {r : Nat} {s t : Nat → Nat} (e : ∀ i, i < 16 → s i = t i) : ∀ i, i < 16 → dst K r s i = dst K r t i := by
  intro i hi
  have e2 : ∀ i, i < 16 → (fun j => s j ^^^ K r j) i = (fun j => t j ^^^ K r j) i := fun j hj => by show s j ^^^ K r j = t j ^^^ K r j; rw [e j hj]
  have e3 : ∀ j, j < 16 → (if r < 10 then mix (fun j => s j ^^^ K r j) fad else fun j => s j ^^^ K r j) j = (if r < 10 then mix (fun j => t j ^^^ K r j) fad else fun j => t j ^^^ K r j) j := by
    intro j hj
    split
    · exact mix_congr e2 j hj
    · exact e2 j hj
  unfold dst
  rw [shf_congr e3 i hi]
theorem dst_stp (K : Nat → Nat → Nat) (r : Nat) (s : Nat → Nat) (hs : By 16 s) : ∀ i, i < 16 → dst K r (stp K r s) i = s i := by
  intro i hi
  have e1 : (fun j => stp K r s j ^^^ K r j) = fun j => if r < 10 then mix (shf 1 fun j => there (s j)) fac j else shf 1 (fun j => there (s j)) j := by
    funext j; unfold stp; rw [Nat.xor_assoc, Nat.xor_self, Nat.xor_zero]
  have h3 := shf_by (c := 1) (there_by hs)
  have e2 : ∀ j, j < 16 → (if r < 10 then mix (fun j => stp K r s j ^^^ K r j) fad else fun j => stp K r s j ^^^ K r j) j = shf 1 (fun j => there (s j)) j := by
    intro j hj
    rw [e1]
    split
    · exact mix_back _ h3 j hj
    · rfl
  unfold dst
  rw [shf_congr e2 i hi, shf_back _ i hi]
  exact (sub_by ⟨s i, hs i hi⟩).2.2.1
theorem stp_dst (K : Nat → Nat → Nat) (r : Nat) (s : Nat → Nat) (hs : By 16 s) (hK : By 16 (K r)) : ∀ i, i < 16 → stp K r (dst K r s) i = s i := by
  intro i hi
  obtain ⟨M, hM⟩ : ∃ M, (if r < 10 then mix (fun j => s j ^^^ K r j) fad else fun j => s j ^^^ K r j) = M := ⟨_, rfl⟩
  have hx := xor_by hs hK
  have hMb : By 16 M := by
    rw [← hM]
    split
    · exact mix_by hx
    · exact hx
  have e1 : ∀ j, j < 16 → shf 1 (fun j => there (dst K r s j)) j = M j := by
    intro j hj
    rw [shf_congr (g := shf 3 M) (fun k hk => ?_) j hj, shf_forth _ j hj]
    show there (dst K r s k) = shf 3 M k
    unfold dst
    rw [hM]
    exact (sub_by ⟨shf 3 M k, shf_by hMb k hk⟩).2.2.2
  unfold stp
  have e2 : (if r < 10 then mix (shf 1 fun j => there (dst K r s j)) fac i else shf 1 (fun j => there (dst K r s j)) i) = s i ^^^ K r i := by
    by_cases h : r < 10
    · rw [if_pos h, mix_congr e1 i hi, ← hM, if_pos h]
      exact mix_forth _ hx i hi
    · rw [if_neg h, e1 i hi, ← hM, if_neg h]
  rw [e2, Nat.xor_assoc, Nat.xor_self, Nat.xor_zero]
section
variable {K : Nat → Nat → Nat} {f : Nat → Nat}
theorem dec_enc_at (hK : ∀ i, i < 11 → By 16 (K i)) (hf : By 16 f) : ∀ n, n ≤ 10 → ∀ i, i < 16 → dec K (enc K f 10) n i = enc K f (10 - n) i
  | 0, _, i, _ => rfl
  | n + 1, hn, i, hi => by
    rw [dec, dst_congr (dec_enc_at hK hf n (by omega)) i hi]
    obtain ⟨m, hm⟩ : ∃ m, 10 - n = m + 1 := ⟨9 - n, by omega⟩
    rw [hm, enc, dst_stp K (m + 1) _ (enc_by hK hf m (by omega)) i hi, show 10 - (n + 1) = m by omega]
theorem dec_enc (hK : ∀ i, i < 11 → By 16 (K i)) (hf : By 16 f) : ∀ i, i < 16 → dec K (enc K f 10) 10 i ^^^ K 0 i = f i := by
  intro i hi
  rw [dec_enc_at hK hf 10 (by omega) i hi, show 10 - 10 = 0 by omega, enc, Nat.xor_assoc, Nat.xor_self, Nat.xor_zero]
theorem enc_dec_at (hK : ∀ i, i < 11 → By 16 (K i)) (hf : By 16 f) : ∀ r, r ≤ 10 → ∀ i, i < 16 → enc K (fun i => dec K f 10 i ^^^ K 0 i) r i = dec K f (10 - r) i
  | 0, _, i, _ => by show dec K f 10 i ^^^ K 0 i ^^^ K 0 i = dec K f 10 i; rw [Nat.xor_assoc, Nat.xor_self, Nat.xor_zero]
  | r + 1, hr, i, hi => by
    obtain ⟨m, hm⟩ : ∃ m, 10 - r = m + 1 := ⟨9 - r, by omega⟩
    rw [enc, stp_congr (enc_dec_at hK hf r (by omega)) i hi, hm, dec, show 10 - m = r + 1 by omega, stp_dst K (r + 1) _ (dec_by hK hf m) (hK _ (by omega)) i hi, show 10 - (r + 1) = m by omega]
theorem enc_dec (hK : ∀ i, i < 11 → By 16 (K i)) (hf : By 16 f) : ∀ i, i < 16 → enc K (fun i => dec K f 10 i ^^^ K 0 i) 10 i = f i := by
  intro i hi
  rw [enc_dec_at hK hf 10 (by omega) i hi, show 10 - 10 = 0 by omega, dec]
theorem enc_congr {g : Nat → Nat} (e : ∀ i, i < 16 → f i = g i) : ∀ r i, i < 16 → enc K f r i = enc K g r i
  | 0, i, hi => by show f i ^^^ K 0 i = g i ^^^ K 0 i; rw [e i hi]
  | r + 1, i, hi => stp_congr (enc_congr e r) i hi
theorem dec_congr {g : Nat → Nat} (e : ∀ i, i < 16 → f i = g i) : ∀ n i, i < 16 → dec K f n i = dec K g n i
  | 0, i, hi => e i hi
  | n + 1, i, hi => dst_congr (dec_congr e n) i hi
end
end Go.Proofs.Ytdbobeojbdcmdaa
