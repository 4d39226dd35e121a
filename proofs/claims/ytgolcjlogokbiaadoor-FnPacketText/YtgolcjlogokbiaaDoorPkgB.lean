/- Packets read from bytes, in the program and in the specification, as contracts. The conditions stand at each theorem. -/
import Derived.Test.YtgolcjlogokbiaaDoorPkgA
namespace Go.Proofs.YtgolcjlogokbiaaDoor
open Go.RowKit Go.LatT Go.BlockM Go.PlainAid Go.OpnT Go.RegE Go.ApdG Go.BytM
set_option linter.unusedVariables false
set_option linter.unusedSimpArgs false
theorem bl_extract (x : ByteArray) (i j : Nat) : bl (x.extract i j) = ((bl x).drop i).take (j - i) := by
  simp [bl, ByteArray.data_extract, List.take_drop]
theorem ex_rest (x : ByteArray) (i j : Nat) : (x.extract i x.size).extract j (x.extract i x.size).size = x.extract (i + j) x.size := by
  apply bl_inj
  rw [bl_extract, bl_extract, bl_extract, ByteArray.size_extract]
  rw [List.take_of_length_le (l := (bl x).drop i) (by rw [List.length_drop, bl_len]; omega), List.drop_drop]
  rw [List.take_of_length_le (by rw [List.length_drop, bl_len]; omega), List.take_of_length_le (by rw [List.length_drop, bl_len]; omega)]
theorem ex_head (x : ByteArray) (i n : Nat) (h : i + n ≤ x.size) : (x.extract i x.size).extract 0 n = x.extract i (i + n) := by
  apply bl_inj
  rw [bl_extract, bl_extract, bl_extract, List.drop_zero, Nat.sub_zero, List.take_take, show i + n - i = n by omega, show min n (x.size - i) = n by omega]
theorem ex_zero (x : ByteArray) : x.extract 0 x.size = x := by
  apply bl_inj
  rw [bl_extract, List.drop_zero, List.take_of_length_le (by rw [bl_len]; omega)]
/-- Bytes that are a packet. -/
def goodB (x : ByteArray) : Bool := decide (11 ≤ x.size) && decide (x.size ≤ 51) && decide (num (bl (x.extract 10 11)) = x.size - 11)
/-- A number within bytes. -/
def numX (x : ByteArray) (i j : Nat) : Int := ((num (bl (x.extract i j)) : Nat) : Int)
theorem numX_lt (x : ByteArray) (i j k : Nat) (h : j - i = k) : 0 ≤ numX x i j ∧ numX x i j < ((256 ^ k : Nat) : Int) := by
  unfold numX
  have h1 := num_lt (x.extract i j).size (bl (x.extract i j)) (bl_len _)
  have h2 : (x.extract i j).size ≤ k := by rw [ByteArray.size_extract]; omega
  have h3 : 256 ^ (x.extract i j).size ≤ 256 ^ k := Nat.pow_le_pow_right (by omega) h2
  refine ⟨by omega, ?_⟩
  exact Int.ofNat_lt.2 (by omega)
theorem Pc.yes {n : Nat} {r r' s : ByteArray} {b b' : Bool} (h : Pc n r r' b b' s) (hn : n ≤ r.size) : b' = b ∧ r' = r.extract n r.size ∧ s = r.extract 0 n := by
  rcases h with ⟨_, h⟩ | ⟨h, _⟩
  · exact h
  · omega
theorem Pc.keep {n : Nat} {r r' s : ByteArray} {b b' : Bool} (h : Pc n r r' b b' s) (hb : b' = false) : n ≤ r.size ∧ b = false := by
  rcases h with ⟨h1, h2, _⟩ | ⟨_, h2, _⟩
  · exact ⟨h1, by rw [← h2, hb]⟩
  · rw [h2] at hb; cases hb
theorem pk_of {x : ByteArray} {b : Bool} {f t p : Int} {s : ByteArray} (h : PkOf x b f t p s) :
    b = !goodB x ∧ (b = false → f = numX x 0 4 ∧ t = numX x 4 8 ∧ p = numX x 8 10 ∧ s = x.extract 11 x.size) := by
  obtain ⟨x1, x2, x3, x4, r1, r2, r3, r4, r5, b1, b2, b3, b4, b5, q1, q2, q3, q4, q5, hf, ht, hp, hb⟩ := h
  by_cases hs : 11 ≤ x.size
  · obtain ⟨e1, e1', e1''⟩ := q1.yes (by omega)
    have z1 : r1.size = x.size - 4 := by rw [e1', ByteArray.size_extract]; omega
    obtain ⟨e2, e2', e2''⟩ := q2.yes (by omega)
    rw [e1', ex_rest] at e2'
    have z2 : r2.size = x.size - 8 := by rw [e2', ByteArray.size_extract]; omega
    obtain ⟨e3, e3', e3''⟩ := q3.yes (by omega)
    rw [e2', ex_rest] at e3'
    have z3 : r3.size = x.size - 10 := by rw [e3', ByteArray.size_extract]; omega
    obtain ⟨e4, e4', e4''⟩ := q4.yes (by omega)
    rw [e3', ex_rest] at e4'
    have z4 : r4.size = x.size - 11 := by rw [e4', ByteArray.size_extract]; omega
    rw [e1', ex_head x 4 4 (by omega)] at e2''
    rw [e2', ex_head x (4 + 4) 2 (by omega)] at e3''
    rw [e3', ex_head x (4 + 4 + 2) 1 (by omega)] at e4''
    have hf' : f = numX x 0 4 := by rw [hf, e1'']; rfl
    have ht' : t = numX x 4 8 := by rw [ht, e2'']; rfl
    have hp' : p = numX x 8 10 := by rw [hp, e3'']; rfl
    have hb4 : b4 = false := by rw [e4, e3, e2, e1]
    have en : num (bl x4) = num (bl (x.extract 10 11)) := by rw [e4'']
    have hpok : s.size ≤ 40 → pokB f t p s = true := by
      intro hz
      have a1 := numX_lt x 0 4 4 rfl
      have a2 := numX_lt x 4 8 4 rfl
      have a3 := numX_lt x 8 10 2 rfl
      rw [hf', ht', hp']
      simp [pokB, callB, inB]
      omega
    have hpno : ¬ s.size ≤ 40 → pokB f t p s = false := by
      intro hz
      have : ¬ ((s.size : Int) ≤ 40) := by omega
      simp [pokB, this]
    by_cases hn : num (bl (x.extract 10 11)) ≤ x.size - 11
    · obtain ⟨e5, e5', e5''⟩ := q5.yes (by rw [z4, en]; exact hn)
      have z5 : r5.size = x.size - 11 - num (bl (x.extract 10 11)) := by rw [e5', ByteArray.size_extract, en]; omega
      have zs : s.size = num (bl (x.extract 10 11)) := by rw [e5'', ByteArray.size_extract, en]; omega
      by_cases heq : num (bl (x.extract 10 11)) = x.size - 11
      · have es : s = x.extract 11 x.size := by
          rw [e5'', en, heq, ← z4, ex_zero, e4']
        have z0 : r5.size = 0 := by omega
        by_cases hsz : x.size ≤ 51
        · refine ⟨?_, fun _ => ⟨hf', ht', hp', es⟩⟩
          rw [hb, e5, hb4, z0, hpok (by omega), goodB, decide_eq_true hs, decide_eq_true hsz, decide_eq_true heq]; rfl
        · have : b = true := by rw [hb, hpno (by omega)]; simp
          refine ⟨?_, fun h => by rw [this] at h; cases h⟩
          rw [this, goodB, decide_eq_false hsz]; simp
      · have : b = true := by
          rw [hb, decide_eq_true (show r5.size ≠ 0 by omega)]; simp
        refine ⟨?_, fun h => by rw [this] at h; cases h⟩
        rw [this, goodB, decide_eq_false heq]; simp
    · have h5 : b5 = true := by
        rcases q5 with ⟨h1, _⟩ | ⟨_, h2, _⟩
        · rw [z4, en] at h1; omega
        · exact h2
      have : b = true := by rw [hb, h5]; rfl
      refine ⟨?_, fun h => by rw [this] at h; cases h⟩
      rw [this, goodB, decide_eq_false (show ¬ num (bl (x.extract 10 11)) = x.size - 11 by omega)]; simp
  · have h5 : b5 = true := by
      cases hb5 : b5 with
      | true => rfl
      | false =>
        obtain ⟨n5, hb4⟩ := q5.keep hb5
        obtain ⟨n4, hb3⟩ := q4.keep hb4
        obtain ⟨n3, hb2⟩ := q3.keep hb3
        obtain ⟨n2, hb1⟩ := q2.keep hb2
        obtain ⟨n1, _⟩ := q1.keep hb1
        have z1 : r1.size = x.size - 4 := by rw [(q1.yes n1).2.1, ByteArray.size_extract]; omega
        have z2 : r2.size = r1.size - 4 := by rw [(q2.yes n2).2.1, ByteArray.size_extract]; omega
        have z3 : r3.size = r2.size - 2 := by rw [(q3.yes n3).2.1, ByteArray.size_extract]; omega
        omega
    have : b = true := by rw [hb, h5]; rfl
    refine ⟨?_, fun h => by rw [this] at h; cases h⟩
    rw [this, goodB, decide_eq_false hs]; simp
end Go.Proofs.YtgolcjlogokbiaaDoor
