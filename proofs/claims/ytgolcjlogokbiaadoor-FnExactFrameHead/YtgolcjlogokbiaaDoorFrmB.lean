/- Frames taken apart, in the program and in the specification, as contracts. The conditions stand at each theorem. -/
import Derived.Test.YtgolcjlogokbiaaDoorFrmA
import Derived.Test.YtgolcjlogokbiaaDoorPkgC
namespace Go.Proofs.YtgolcjlogokbiaaDoor
open Go.RowKit Go.LatT Go.BlockM Go.PlainAid Go.OpnT Go.RegE Go.ApdG Go.BytM
set_option linter.unusedVariables false
set_option linter.unusedSimpArgs false
/-- A text has the size of a frame. -/
def fszB (x : ByteArray) : Bool := decide (56 ≤ x.size) && decide (x.size ≤ 140) && decide (x.size % 16 = 8)
/-- The value of a frame's parts. -/
def frV (x : ByteArray) : Value := .agg #[.int .i64 (numX x 0 4), .int .i64 (numX x 4 8), .string (x.extract 8 24), .string (x.extract 24 (x.size - 16)), .string (x.extract 0 (x.size - 16)), .string (x.extract (x.size - 16) x.size)]
/-- What taking a frame apart answers. -/
def FrP (x : ByteArray) (w : World) (e : Ending) (w' : World) : Prop := ∃ v, e = .returned (.tuple #[frV x, v]) ∧ ErrV (!hokB (numX x 0 4) (numX x 4 8)) v ∧ Below w.heap.size w w'
theorem ex_rest' (x : ByteArray) (i j k : Nat) (h : i + j = k) : (x.extract i x.size).extract j (x.extract i x.size).size = x.extract k x.size := by rw [ex_rest, h]
theorem ex_head' (x : ByteArray) (i n k : Nat) (hk : i + n = k) (h : k ≤ x.size) : (x.extract i x.size).extract 0 n = x.extract i k := by rw [ex_head x i n (by omega), hk]
theorem ex_size (x : ByteArray) (i : Nat) : (x.extract i x.size).size = x.size - i := by rw [ByteArray.size_extract]; omega
theorem fsz_out {x : ByteArray} (h : fszB x = true) : 56 ≤ x.size ∧ x.size ≤ 140 ∧ x.size % 16 = 8 := by
  simp [fszB] at h; omega
set_option maxHeartbeats 4000000 in
set_option maxRecDepth 100000 in
theorem frameOf_ok (x : ByteArray) (w : World) (hx : fszB x = true) :
    Calls Tryd.prog 40 #[.string x] w fun e w' => FrP x w e w' := by
  obtain ⟨h1, h2, h3⟩ := fsz_out hx
  obtain ⟨y, hy⟩ : ∃ y, x.extract 0 (x.size - 16) = y := ⟨_, rfl⟩
  have hS := RdF.new w x y 61 90 61
  have q1 : ((x.size : Int) - 40) % 16 = 0 := by omega
  have q2 : (56 : Int) ≤ (x.size : Int) := by omega
  have q3 : (x.size : Int) ≤ 140 := by omega
  have HX := hid_in (show x.size ≤ 1048576 by omega)
  have HY := hid_in hy
  have H1 := hid_in h1
  have H2 := hid_in h2
  have e40 : (x.size : Int) - 40 = ((x.size - 40 : Nat) : Int) := by omega
  have E40 := hid_in e40
  clear hx h3 e40
  go_enter Tryd.func40, Tryd.ntmps40
  go_wp2_with fail
  have S0 := hid_in hS
  clear hS
  generalize (((w.alloc (.cells #[.int .i64 0, .int .i64 0, .string ⟨#[]⟩, .string ⟨#[]⟩, .string ⟨#[]⟩, .string ⟨#[]⟩] 61)).alloc (.cells #[.string x, .nilIface] 90)).alloc (.cells #[.int .i64 0, .int .i64 0, .string ⟨#[]⟩, .string ⟨#[]⟩, .string y, .string ⟨#[]⟩] 61)) = W0 at *
  generalize w.heap.size + 1 + 1 = gp at *
  generalize w.heap.size + 1 = gs at *
  refine (number_any gs 4 x false _ _ S0.out.sat rfl HX.out (by omega)).mono ?_
  rintro e w1 ⟨x1, r1, b1, v1, rfl, q, s1, V1, m1⟩
  obtain ⟨rfl, rfl, rfl⟩ := q.yes (by have := H1.out; omega)
  have hv1 : v1 = .nilIface := V1
  subst hv1
  have S1 := hid_in (S0.out.read m1 s1)
  clear q s1 V1 m1 S0
  obtain ⟨_, k0, k1, k2, k3, k4, k5, kf⟩ := S1.out.pk
  go_wp2_with fail
  have S2 := hid_in (S1.out.put 0 _ (S1.out.pk.set0 ((num (bl (x.extract 0 4)) : Nat) : Int)))
  clear S1 k0 k1 k2 k3 k4 k5 kf
  generalize (w1.setCell ⟨gp, 0, none⟩ (.int .i64 ((num (bl (x.extract 0 4)) : Nat) : Int))) = W2 at *
  refine (number_any gs 4 (x.extract 4 x.size) false _ _ S2.out.sat rfl (by rw [ex_size]; have := HX.out; omega) (by omega)).mono ?_
  rintro e w3 ⟨x2, r2, b2, v2, rfl, q, s2, V2, m2⟩
  obtain ⟨rfl, rfl, rfl⟩ := q.yes (by rw [ex_size]; have := H1.out; omega)
  have hv2 : v2 = .nilIface := V2
  subst hv2
  rw [ex_rest' x 4 4 8 rfl] at s2
  rw [ex_head' x 4 4 8 rfl (by have := H1.out; omega)]
  have S3 := hid_in (S2.out.read m2 s2)
  clear q s2 V2 m2 S2
  obtain ⟨_, k0, k1, k2, k3, k4, k5, kf⟩ := S3.out.pk
  go_wp2_with fail
  have S4 := hid_in (S3.out.put 1 _ (S3.out.pk.set1 ((num (bl (x.extract 4 8)) : Nat) : Int)))
  clear S3 k0 k1 k2 k3 k4 k5 kf
  generalize (w3.setCell ⟨gp, 1, none⟩ (.int .i64 ((num (bl (x.extract 4 8)) : Nat) : Int))) = W4 at *
  refine (piece_ok gs 16 (x.extract 8 x.size) _ _ S4.out.sat (by rw [ex_size]; have := HX.out; omega) (by rw [ex_size]; have := H1.out; omega)).mono ?_
  rintro e w5 ⟨rfl, s3, m3⟩
  rw [ex_rest' x 8 16 24 rfl] at s3
  rw [ex_head' x 8 16 24 rfl (by have := H1.out; omega)]
  have S5 := hid_in (S4.out.read m3 s3)
  clear s3 m3 S4
  obtain ⟨_, k0, k1, k2, k3, k4, k5, kf⟩ := S5.out.pk
  have e40 := E40.out
  go_wp2_with fail
  have S6 := hid_in (S5.out.put 2 _ (S5.out.pk.set2 (x.extract 8 24)))
  clear S5 k0 k1 k2 k3 k4 k5 kf e40
  generalize (w5.setCell ⟨gp, 2, none⟩ (.string (x.extract 8 24))) = W6 at *
  refine (piece_ok gs (x.size - 40) (x.extract 24 x.size) _ _ S6.out.sat (by rw [ex_size]; have := HX.out; omega) (by rw [ex_size]; have := H1.out; omega)).mono ?_
  rintro e w7 ⟨rfl, s4, m4⟩
  rw [ex_rest' x 24 (x.size - 40) (x.size - 16) (by have := H1.out; omega)] at s4
  rw [ex_head' x 24 (x.size - 40) (x.size - 16) (by have := H1.out; omega) (by omega)]
  have S7 := hid_in (S6.out.read m4 s4)
  clear s4 m4 S6
  obtain ⟨z, hz⟩ : ∃ z, x.extract 24 (x.size - 16) = z := ⟨_, rfl⟩
  rw [hz]
  have HZ := hid_in hz
  clear hz
  obtain ⟨_, k0, k1, k2, k3, k4, k5, kf⟩ := S7.out.pk
  go_wp2_with fail
  have S8 := hid_in (S7.out.put 3 _ (S7.out.pk.set3 z))
  clear S7 k0 k1 k2 k3 k4 k5 kf
  generalize (w7.setCell ⟨gp, 3, none⟩ (.string z)) = W8 at *
  refine (piece_ok gs 16 (x.extract (x.size - 16) x.size) _ _ S8.out.sat (by rw [ex_size]; have := HX.out; omega) (by rw [ex_size]; have := H1.out; omega)).mono ?_
  rintro e w9 ⟨rfl, s5, m5⟩
  rw [ex_head' x (x.size - 16) 16 x.size (by have := H1.out; omega) (by omega)]
  have S9 := hid_in (S8.out.read m5 s5)
  clear s5 m5 S8
  obtain ⟨u, hu⟩ : ∃ u, x.extract (x.size - 16) x.size = u := ⟨_, rfl⟩
  rw [hu]
  have HU := hid_in hu
  clear hu
  obtain ⟨c, hc⟩ : ∃ c, hokB ((num (bl (x.extract 0 4)) : Nat) : Int) ((num (bl (x.extract 4 8)) : Nat) : Int) = c := ⟨_, rfl⟩
  have HC := hid_in hc
  clear hc
  obtain ⟨_, k0, k1, k2, k3, k4, k5, kf⟩ := S9.out.pk
  have S10 := hid_in (S9.out.put 5 _ (S9.out.pk.set5 u))
  go_wp2_with fail
  clear S9 k0 k1 k2 k3 k4 k5 kf
  generalize (w9.setCell ⟨gp, 5, none⟩ (.string u)) = W10 at *
  refine (headOk_any _ _ _ c HC.out).mono ?_
  rintro e w11 ⟨rfl, hb11⟩
  replace S10 := hid_in (S10.out.later hb11)
  clear hb11
  have EV : Hid (frV x = .agg #[.int .i64 ((num (bl (x.extract 0 4)) : Nat) : Int), .int .i64 ((num (bl (x.extract 4 8)) : Nat) : Int), .string (x.extract 8 24), .string z, .string y, .string u]) := by
    show _ = _
    rw [frV, HZ.out, HY.out, HU.out]; rfl
  have EC : Hid (hokB (numX x 0 4) (numX x 4 8) = c) := HC
  clear HC
  cases c
  · go_wp2_with fail
    refine (refuse_any gs _ _ false _ _ S10.out.sat rfl).mono ?_
    rintro e w12 ⟨rfl, ⟨v6, s6, V6⟩, m6⟩
    replace S10 := hid_in (S10.out.read m6 s6)
    clear s6 m6
    obtain ⟨_, k0, k1, k2, k3, k4, k5, kf⟩ := S10.out.pk
    obtain ⟨hlt, i0, i1, i2, i3, i4, i5, if_⟩ := S10.out.res
    obtain ⟨_, j0, j1, jf⟩ := S10.out.sat
    have n3 := S10.out.n3
    have n2 := S10.out.n2
    go_wp2_with fail
    go_region
    go_wp2_with fail
    refine bodyPost_ret (v := .tuple #[.agg #[.int .i64 ((num (bl (x.extract 0 4)) : Nat) : Int), .int .i64 ((num (bl (x.extract 4 8)) : Nat) : Int), .string (x.extract 8 24), .string z, .string y, .string u], v6]) (by simp [results, Tryd.results40, go_sem, i0, i1, i2, i3, i4, i5, hlt]) rfl ?_
    refine ⟨_, by rw [EV.out], by rw [EC.out]; exact V6, ?_⟩
    exact ((((((S10.out.bel.setCell (Nat.le_refl _) _).setCell (Nat.le_refl _) _).setCell (Nat.le_refl _) _).setCell (Nat.le_refl _) _).setCell (Nat.le_refl _) _).setCell (Nat.le_refl _) _).drew
  · obtain ⟨_, k0, k1, k2, k3, k4, k5, kf⟩ := S10.out.pk
    obtain ⟨hlt, i0, i1, i2, i3, i4, i5, if_⟩ := S10.out.res
    obtain ⟨_, j0, j1, jf⟩ := S10.out.sat
    have n3 := S10.out.n3
    have n2 := S10.out.n2
    go_wp2_with fail
    go_region
    go_wp2_with fail
    refine bodyPost_ret (v := .tuple #[.agg #[.int .i64 ((num (bl (x.extract 0 4)) : Nat) : Int), .int .i64 ((num (bl (x.extract 4 8)) : Nat) : Int), .string (x.extract 8 24), .string z, .string y, .string u], .nilIface]) (by simp [results, Tryd.results40, go_sem, i0, i1, i2, i3, i4, i5, hlt]) rfl ?_
    refine ⟨_, by rw [EV.out], by rw [EC.out]; exact rfl, ?_⟩
    exact ((((((S10.out.bel.setCell (Nat.le_refl _) _).setCell (Nat.le_refl _) _).setCell (Nat.le_refl _) _).setCell (Nat.le_refl _) _).setCell (Nat.le_refl _) _).setCell (Nat.le_refl _) _).drew
end Go.Proofs.YtgolcjlogokbiaaDoor
