/- What a packet's bytes are read as, and what is read is written as, without Go. No conditions but those at each theorem. -/
import Derived.Test.YtgolcjlogokbiaaDoorPkgC
namespace Go.Proofs.YtgolcjlogokbiaaDoor
open Go.RowKit Go.LatT Go.BlockM Go.PlainAid Go.OpnT Go.RegE Go.ApdG Go.BytM
set_option linter.unusedVariables false
set_option linter.unusedSimpArgs false
theorem slice_app (a b c : List UInt8) (i n : Nat) (hi : a.length = i) (hn : b.length = n) : (((a ++ b) ++ c).drop i).take n = b := by
  rw [List.append_assoc, List.drop_append_of_le_length (by omega), List.drop_of_length_le (by omega), List.nil_append, List.take_append_of_le_length (by omega), List.take_of_length_le (by omega)]
theorem put_read (f t p : Int) (s x : ByteArray) (hx : x = ⟨(putL f t p s).toArray⟩) (h : pokB f t p s = true) :
    goodB x = true ∧ numX x 0 4 = f ∧ numX x 4 8 = t ∧ numX x 8 10 = p ∧ x.extract 11 x.size = s ∧ x.size = 11 + s.size := by
  obtain ⟨hf, ht, hp, hs⟩ := pok_out h
  have hb : bl x = be 4 f.toNat ++ be 4 t.toNat ++ be 2 p.toNat ++ be 1 s.size ++ bl s := by rw [hx, bl_of]; rfl
  have l1 := be_len 4 f.toNat
  have l2 := be_len 4 t.toNat
  have l3 := be_len 2 p.toNat
  have l4 := be_len 1 s.size
  have hz : x.size = 11 + s.size := by
    rw [← bl_len x, hb]; simp only [List.length_append, l1, l2, l3, l4, bl_len]
  have e1 : numX x 0 4 = f := by
    unfold numX
    have : bl (x.extract 0 4) = be 4 f.toNat := by
      rw [bl_extract, hb]
      have := slice_app [] (be 4 f.toNat) (be 4 t.toNat ++ be 2 p.toNat ++ be 1 s.size ++ bl s) 0 4 rfl l1
      simpa [List.append_assoc] using this
    rw [this, num_be 4 _ (by omega)]; omega
  have e2 : numX x 4 8 = t := by
    unfold numX
    have : bl (x.extract 4 8) = be 4 t.toNat := by
      rw [bl_extract, hb]
      have := slice_app (be 4 f.toNat) (be 4 t.toNat) (be 2 p.toNat ++ be 1 s.size ++ bl s) 4 4 l1 l2
      simpa [List.append_assoc] using this
    rw [this, num_be 4 _ (by omega)]; omega
  have e3 : numX x 8 10 = p := by
    unfold numX
    have : bl (x.extract 8 10) = be 2 p.toNat := by
      rw [bl_extract, hb]
      have := slice_app (be 4 f.toNat ++ be 4 t.toNat) (be 2 p.toNat) (be 1 s.size ++ bl s) 8 2 (by simp [l1, l2]) l3
      simpa [List.append_assoc] using this
    rw [this, num_be 2 _ (by omega)]; omega
  have e4 : num (bl (x.extract 10 11)) = s.size := by
    have : bl (x.extract 10 11) = be 1 s.size := by
      rw [bl_extract, hb]
      have := slice_app (be 4 f.toNat ++ be 4 t.toNat ++ be 2 p.toNat) (be 1 s.size) (bl s) 10 1 (by simp [l1, l2, l3]) l4
      simpa [List.append_assoc] using this
    rw [this, num_be 1 _ (by omega)]
  have e5 : x.extract 11 x.size = s := by
    apply bl_inj
    rw [bl_extract, hb, hz]
    have := slice_app (be 4 f.toNat ++ be 4 t.toNat ++ be 2 p.toNat ++ be 1 s.size) (bl s) [] 11 s.size (by simp [l1, l2, l3, l4]) (bl_len s)
    rw [List.append_nil] at this
    rw [show 11 + s.size - 11 = s.size by omega]
    exact this
  refine ⟨?_, e1, e2, e3, e5, hz⟩
  rw [goodB, decide_eq_true (show 11 ≤ x.size by omega), decide_eq_true (show x.size ≤ 51 by omega), decide_eq_true (show num (bl (x.extract 10 11)) = x.size - 11 by omega)]
  rfl
theorem good_nil : goodB ⟨#[]⟩ = false := by decide
theorem cut_join (l : List UInt8) (i j : Nat) (h : i ≤ j) : l.take i ++ (l.drop i).take (j - i) = l.take j := by
  have : j = i + (j - i) := by omega
  rw [this, List.take_add, show i + (j - i) - i = j - i by omega]
theorem read_put (x : ByteArray) (h : goodB x = true) :
    pokB (numX x 0 4) (numX x 4 8) (numX x 8 10) (x.extract 11 x.size) = true ∧ (⟨(putL (numX x 0 4) (numX x 4 8) (numX x 8 10) (x.extract 11 x.size)).toArray⟩ : ByteArray) = x := by
  have hg := h
  unfold goodB at hg
  simp only [Bool.and_eq_true, decide_eq_true_eq] at hg
  obtain ⟨⟨h1, h2⟩, h3⟩ := hg
  have a1 := numX_lt x 0 4 4 rfl
  have a2 := numX_lt x 4 8 4 rfl
  have a3 := numX_lt x 8 10 2 rfl
  have hsz : (x.extract 11 x.size).size = x.size - 11 := by rw [ByteArray.size_extract]; omega
  refine ⟨?_, ?_⟩
  · simp [pokB, callB, inB]
    omega
  · apply bl_inj
    rw [bl_of]
    have b1 : be 4 (numX x 0 4).toNat = bl (x.extract 0 4) := be_num 4 _ (by rw [bl_len, ByteArray.size_extract]; omega)
    have b2 : be 4 (numX x 4 8).toNat = bl (x.extract 4 8) := be_num 4 _ (by rw [bl_len, ByteArray.size_extract]; omega)
    have b3 : be 2 (numX x 8 10).toNat = bl (x.extract 8 10) := be_num 2 _ (by rw [bl_len, ByteArray.size_extract]; omega)
    have b4 : be 1 (x.extract 11 x.size).size = bl (x.extract 10 11) := by
      rw [hsz, ← h3]
      exact be_num 1 _ (by rw [bl_len, ByteArray.size_extract]; omega)
    unfold putL
    rw [b1, b2, b3, b4]
    simp only [bl_extract, List.drop_zero]
    rw [cut_join _ 4 8 (by omega), cut_join _ 8 10 (by omega), cut_join _ 10 11 (by omega), cut_join _ 11 x.size (by omega), List.take_of_length_le (by rw [bl_len]; omega)]
end Go.Proofs.YtgolcjlogokbiaaDoor
