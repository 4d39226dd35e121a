/- What is proved: the contracts of FrdA, one behind the other. The conditions stand at each theorem. -/
import Derived.Test.YtefmmopkikpnhaaGreatDoorRFrE
import Derived.Test.YtefmmopkikpnhaaGreatDoorRDrw
namespace Go.Proofs.YtefmmopkikpnhaaGreatDoor
open Go.RowKit Go.LatT Go.BlockM Go.PlainAid Go.OpnT Go.ApdG Go.BytM Go.AesM Go.RowQ Go.RegE
set_option linter.unusedVariables false
set_option linter.unusedSimpArgs false
theorem frmT_size {key mac : ByteArray} {n m : Nat} {begin text : ByteArray} (hb : begin.size = 16) (ht : text.size ≤ 51) : (frmT key mac n m begin text).size ≤ 104 := by
  have h := (fsz_of (key := key) (mac := mac) (n := n) (m := m) hb ht).d
  unfold frmT
  rw [ByteArray.size_append, tgT_size]
  omega
/-- What is drawn: keys, and a frame by them. -/
def L12 (R : Nat) (sl : Value) (p : Int) (w : World) (e : Ending) (w' : World) : Prop := ∃ (k m b t : ByteArray) (x y : Nat), e = .returned (.tuple #[.string k, .string m, .string (frmT k m x y b t)]) ∧ k.size = 16 ∧ m.size = 4 ∧ 1 ≤ x ∧ x ≤ 9 ∧ 1 ≤ y ∧ y ≤ 40 ∧ b.size = 16 ∧ t.size ≤ 39 ∧ (∃ q, p ≤ q ∧ q ≤ p + 1000 ∧ Rdr w' R sl q) ∧ Mv R w w'
theorem szL {l : List UInt8} {n : Nat} (h : l.length = n) : (⟨l.toArray⟩ : ByteArray).size = n := by show l.toArray.size = n; rw [List.size_toArray, h]
set_option maxHeartbeats 2000000 in
set_option maxRecDepth 100000 in
theorem l12Frame_any (R : Nat) (sl : Value) (p : Int) (w : World) (h : Rdr w R sl p) (hp : 0 ≤ p) (hp' : p ≤ 900000) :
    Calls Tryz.prog 59 #[.pointer (some ⟨R, 0, none⟩)] w fun e w' => L12 R sl p w e w' := by
  have H0 := hid_in h
  clear h
  go_enter Tryz.func59, Tryz.ntmps59
  go_wp2_with fail
  refine (l12Bytes_any R sl p 16 _ H0.out hp (by omega) (by omega)).mono ?_
  rintro e w1 ⟨l1, rfl, hl1, ⟨q1, a1, b1, h1⟩, m1⟩
  have H1 := hid_in h1; have M1 := hid_in m1; have S1 := hid_in (szL hl1); clear h1 m1 hl1 H0
  generalize (⟨l1.toArray⟩ : ByteArray) = k at *
  go_wp2_with fail
  refine (l12Bytes_any R sl q1 4 _ H1.out (by omega) (by omega) (by omega)).mono ?_
  rintro e w2 ⟨l2, rfl, hl2, ⟨q2, a2, b2, h2⟩, m2⟩
  have H2 := hid_in h2; have M2 := hid_in (M1.out.trans m2); have S2 := hid_in (szL hl2); clear h2 m2 hl2 H1 M1
  generalize (⟨l2.toArray⟩ : ByteArray) = m at *
  go_wp2_with fail
  refine (pickM R sl q2 9 _ H2.out (by omega) (by omega) (by omega) (by omega)).mono ?_
  rintro e w3 ⟨u3, rfl, a3, b3, h3, m3⟩
  have H3 := hid_in h3; have M3 := hid_in (M2.out.trans m3); clear h3 m3 H2 M2
  obtain ⟨x, rfl⟩ := Int.eq_ofNat_of_zero_le a3
  go_wp2_with fail
  refine (pickM R sl _ 40 _ H3.out (by omega) (by omega) (by omega) (by omega)).mono ?_
  rintro e w4 ⟨u4, rfl, a4, b4, h4, m4⟩
  have H4 := hid_in h4; have M4 := hid_in (M3.out.trans m4); clear h4 m4 H3 M3
  obtain ⟨y, rfl⟩ := Int.eq_ofNat_of_zero_le a4
  go_wp2_with fail
  refine (l12Bytes_any R sl _ 16 _ H4.out (by omega) (by omega) (by omega)).mono ?_
  rintro e w5 ⟨l5, rfl, hl5, ⟨q5, a5, b5, h5⟩, m5⟩
  have H5 := hid_in h5; have M5 := hid_in (M4.out.trans m5); have S5 := hid_in (szL hl5); clear h5 m5 hl5 H4 M4
  generalize (⟨l5.toArray⟩ : ByteArray) = b at *
  go_wp2_with fail
  refine (pickM R sl _ 40 _ H5.out (by omega) (by omega) (by omega) (by omega)).mono ?_
  rintro e w6 ⟨u6, rfl, a6, b6, h6, m6⟩
  have H6 := hid_in h6; have M6 := hid_in (M5.out.trans m6); clear h6 m6 H5 M5
  obtain ⟨n, rfl⟩ := Int.eq_ofNat_of_zero_le a6
  go_wp2_with fail
  refine (l12Bytes_any R sl _ n _ H6.out (by omega) (by omega) (by omega)).mono ?_
  rintro e w7 ⟨l7, rfl, hl7, ⟨q7, a7, b7, h7⟩, m7⟩
  have H7 := hid_in h7; have M7 := hid_in (M6.out.trans m7); have S7 := hid_in (szL hl7); clear h7 m7 hl7 H6 M6
  generalize (⟨l7.toArray⟩ : ByteArray) = t at *
  go_wp2_with fail
  rw [show (1 : Int) + (x : Int) = ((1 + x : Nat) : Int) by omega, show (1 : Int) + (y : Int) = ((1 + y : Nat) : Int) by omega]
  refine (l8Frame_any k m (1 + x) (1 + y) b t _ (by unfold keysB inB; rw [S1.out, S2.out]; rfl) (by omega) (by omega) S5.out (by rw [S7.out]; omega)).mono ?_
  rintro e w8 ⟨rfl, hb8⟩
  have H8 := hid_in (H7.out.later hb8); have M8 := hid_in (M7.out.trans (Mv.of_below hb8)); clear hb8
  generalize hF : frmT k m (1 + x) (1 + y) b t = F at *
  go_wp2_with fail
  go_ret3
  exact ⟨k, m, b, t, 1 + x, 1 + y, by rw [hF]; rfl, S1.out, S2.out, by omega, by omega, by omega, by omega, S5.out, by rw [S7.out]; omega, ⟨q7, by omega, by omega, H8.out⟩, M8.out⟩
end Go.Proofs.YtefmmopkikpnhaaGreatDoor

