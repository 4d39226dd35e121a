/- What is proved: the contracts of FrmF, one behind the other. The conditions stand at each theorem. -/
import Derived.Test.YtefmmopkikpnhaaGreatDoorRFrE
import Derived.Test.YtefmmopkikpnhaaGreatDoorRChP
import Derived.Test.YtefmmopkikpnhaaGreatDoorRFiL
namespace Go.Proofs.YtefmmopkikpnhaaGreatDoor
open Go.RowKit Go.LatT Go.BlockM Go.PlainAid Go.OpnT Go.ApdG Go.BytM Go.AesM Go.RowQ
set_option linter.unusedVariables false
set_option linter.unusedSimpArgs false
theorem dr2 {A B R : List UInt8} {n : Nat} (h : A.length + B.length = n) : (A ++ (B ++ R)).drop n = R := by
  rw [← List.append_assoc, List.drop_left' (by rw [List.length_append]; exact h)]
theorem dr3 {A B C R : List UInt8} {n : Nat} (h : A.length + B.length + C.length = n) : (A ++ (B ++ (C ++ R))).drop n = R := by
  rw [← List.append_assoc, ← List.append_assoc, List.drop_left' (by rw [List.length_append, List.length_append]; exact h)]
theorem dr4 {A B C D R : List UInt8} {n : Nat} (h : A.length + B.length + C.length + D.length = n) : (A ++ (B ++ (C ++ (D ++ R)))).drop n = R := by
  rw [← List.append_assoc, ← List.append_assoc, ← List.append_assoc, List.drop_left' (by rw [List.length_append, List.length_append, List.length_append]; exact h)]
theorem tk4 {A B C D R : List UInt8} {n : Nat} (h : A.length + B.length + C.length + D.length = n) : (A ++ (B ++ (C ++ (D ++ R)))).take n = A ++ (B ++ (C ++ D)) := by
  rw [← List.append_assoc, ← List.append_assoc, ← List.append_assoc, List.take_left' (by rw [List.length_append, List.length_append, List.length_append]; exact h)]
  simp only [List.append_assoc]
theorem filT_chn {key begin t : ByteArray} (hk : key.size = 16) (hb : begin.size = 16) (ht : t.size ≤ 51) : Chn key begin (filT t) := by
  have h := filT_size t ht
  exact ⟨hk, hb, h.2.1, by omega⟩
/-- The bytes of a frame. -/
theorem bl_frm (key mac : ByteArray) (n m : Nat) (begin text : ByteArray) : bl (frmT key mac n m begin text) = be 4 n ++ (be 4 m ++ (bl begin ++ (bl (cpT key begin (filT text)) ++ bl (tgT mac (ahT key n m begin text))))) := by
  unfold frmT
  rw [bl_append]
  conv => lhs; lhs; unfold ahT
  rw [bl_append, bl_append, bl_append, bl_of, bl_of]
  simp only [List.append_assoc]
theorem bl_ah (key : ByteArray) (n m : Nat) (begin text : ByteArray) : bl (ahT key n m begin text) = be 4 n ++ (be 4 m ++ (bl begin ++ bl (cpT key begin (filT text)))) := by
  unfold ahT
  rw [bl_append, bl_append, bl_append, bl_of, bl_of]
  simp only [List.append_assoc]
/-- What a frame is opened to. -/
structure Opn (key mac : ByteArray) (n m : Nat) (text x : ByteArray) : Prop where
  hd : fhB x = true
  n : fhN x 0 4 = (n : Int)
  m : fhN x 4 8 = (m : Int)
  ok : fgB key mac x = true
  t : fgT key mac x = text
  sz : x.size ≤ text.size + 56
theorem opn_frm {key mac : ByteArray} {n m : Nat} {begin text : ByteArray} (hk : keysB key mac = true) (hn : 1 ≤ n ∧ n ≤ 999) (hm : 1 ≤ m ∧ m ≤ 1000000) (hb : begin.size = 16) (ht : text.size ≤ 51) : Opn key mac n m text (frmT key mac n m begin text) := by
  obtain ⟨k16, m1, m64⟩ := keysB_of hk
  have hC := filT_chn k16 hb ht
  have hz := filT_size text ht
  have hcs : (cpT key begin (filT text)).size = (filT text).size := by
    obtain ⟨q, hq⟩ : ∃ q, (filT text).size = 16 * q := ⟨(filT text).size / 16, by omega⟩
    rw [cpT_eq hC hq, txt_size, hq]
  have hfl : (filT text).size ≤ text.size + 16 := by
    have : (filT text).size = (fillL (bl text)).length := by show (Array.size _) = _; simp
    rw [this]
    unfold fillL
    rw [List.length_append]
    have h2 : ∀ (l : List UInt8) k, (rep l k).length = l.length * k := by
      intro l k
      induction k with
      | zero => simp [rep]
      | succ k ih => rw [rep, List.length_append, ih, Nat.mul_succ, Nat.add_comm]
    rw [h2, bl_len]
    simp
    all_goals omega
  obtain ⟨c, hc⟩ : ∃ c, (cpT key begin (filT text)).size = c := ⟨_, rfl⟩
  have htg := tgT_size mac (ahT key n m begin text)
  obtain ⟨x, hx⟩ : ∃ x, frmT key mac n m begin text = x := ⟨_, rfl⟩
  have hl := bl_frm key mac n m begin text
  rw [hx] at hl
  have hxs : x.size = 40 + c := by
    rw [← bl_len, hl]
    simp only [List.length_append, be_len, bl_len, hb, hc, htg]
    all_goals omega
  have l1 := be_len 4 n
  have l2 := be_len 4 m
  have l3 : (bl begin).length = 16 := by rw [bl_len, hb]
  have l4 : (bl (cpT key begin (filT text))).length = c := by rw [bl_len, hc]
  have l5 : (bl (tgT mac (ahT key n m begin text))).length = 16 := by rw [bl_len, htg]
  have e1 : x.extract 8 24 = begin := by
    apply bl_inj
    rw [bl_extract, hl, dr2 (by rw [l1, l2]), List.take_left' l3]
  have e2 : x.extract 24 (x.size - 16) = cpT key begin (filT text) := by
    apply bl_inj
    rw [bl_extract, hl, dr3 (by rw [l1, l2, l3]), List.take_left' (by rw [l4, hxs]; omega)]
  have e3 : x.extract 0 (x.size - 16) = ahT key n m begin text := by
    apply bl_inj
    rw [bl_extract, hl, bl_ah, hxs, List.drop_zero, tk4 (by rw [l1, l2, l3, l4]; omega)]
  have e4 : x.extract (x.size - 16) x.size = tgT mac (ahT key n m begin text) := by
    apply bl_inj
    rw [bl_extract, hl, hxs, dr4 (by rw [l1, l2, l3, l4]; omega), List.take_of_length_le (by rw [l5]; omega)]
  have n1 : numX x 0 4 = (n : Int) := by
    unfold numX
    rw [bl_extract, hl, List.drop_zero, List.take_left' l1, num_be 4 n (by omega)]
  have n2 : numX x 4 8 = (m : Int) := by
    unfold numX
    rw [bl_extract, hl, List.drop_left' l1, List.take_left' l2, num_be 4 m (by omega)]
  have hf : fszB x = true := by
    unfold fszB
    have := hz.1; have := hz.2.1; have := hz.2.2
    simp
    omega
  have hh : fhB x = true := by
    unfold fhB
    rw [hf, n1, n2]
    unfold hokB inB
    simp
    omega
  have hu := unf_fill text (filT text) rfl
  have hcd : cdT key begin (cpT key begin (filT text)) = filT text := cd_cp hC
  have hg : fgB key mac x = true := by
    unfold fgB
    rw [hh, hk, e1, e2, e3, e4, hcd, hu.1]
    simp
  rw [hx]
  refine ⟨hh, by unfold fhN; rw [hh, n1]; rfl, by unfold fhN; rw [hh, n2]; rfl, hg, ?_, by omega⟩
  unfold fgT
  rw [hg, e1, e2, hcd, hu.2]
  rfl
end Go.Proofs.YtefmmopkikpnhaaGreatDoor

