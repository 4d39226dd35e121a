/- What is proved: the contracts of FrmA, FrmB, FrmC, one behind the other. The conditions stand at each theorem. -/
import Derived.Test.YtefmmopkikpnhaaGreatDoorVFrB
namespace Go.Proofs.YtefmmopkikpnhaaGreatDoor
open Go.RowKit Go.LatT Go.BlockM Go.PlainAid Go.OpnT Go.RegE Go.ApdG Go.BytM
set_option linter.unusedVariables false
set_option linter.unusedSimpArgs false
/-- A struct lies in a block that may be written. -/
structure FBf (w : World) (g : Nat) (a0 : Int) (a1 : Int) (a2 : ByteArray) (a3 : ByteArray) (a4 : ByteArray) (a5 : ByteArray) : Prop where
  lt : g < w.heap.size
  c0 : w.cell? ⟨g, 0, none⟩ = some (.int .i64 a0)
  c1 : w.cell? ⟨g, 1, none⟩ = some (.int .i64 a1)
  c2 : w.cell? ⟨g, 2, none⟩ = some (.string a2)
  c3 : w.cell? ⟨g, 3, none⟩ = some (.string a3)
  c4 : w.cell? ⟨g, 4, none⟩ = some (.string a4)
  c5 : w.cell? ⟨g, 5, none⟩ = some (.string a5)
  fz : ∀ o, w.frozen? ⟨g, o, none⟩ = false
section
variable {w w' : World} {g R : Nat} {a0 : Int} {a1 : Int} {a2 : ByteArray} {a3 : ByteArray} {a4 : ByteArray} {a5 : ByteArray}
theorem FBf.mv (h : FBf w g a0 a1 a2 a3 a4 a5) (m : Mv R w w') (hg : g ≠ R) : FBf w' g a0 a1 a2 a3 a4 a5 :=
  have q := fun o => m.cell g o h.lt hg
  ⟨Nat.lt_of_lt_of_le h.lt m.size, (q _).trans h.c0, (q _).trans h.c1, (q _).trans h.c2, (q _).trans h.c3, (q _).trans h.c4, (q _).trans h.c5, fun o => (m.frozen g o h.lt hg).trans (h.fz o)⟩
theorem FBf.later (h : FBf w g a0 a1 a2 a3 a4 a5) (hb : Below w.heap.size w w') : FBf w' g a0 a1 a2 a3 a4 a5 :=
  have q := fun o => (bcell hb).1 g o h.lt
  ⟨Nat.lt_of_lt_of_le h.lt hb.size, (q _).trans h.c0, (q _).trans h.c1, (q _).trans h.c2, (q _).trans h.c3, (q _).trans h.c4, (q _).trans h.c5, fun o => ((bcell hb).2 g o h.lt).trans (h.fz o)⟩
theorem FBf.set0 (b : Int) (h : FBf w g a0 a1 a2 a3 a4 a5) : FBf (w.setCell ⟨g, 0, none⟩ (.int .i64 b)) g b a1 a2 a3 a4 a5 := by
  obtain ⟨l0, p0, p1, p2, p3, p4, p5, pf⟩ := h
  exact ⟨by simpa using l0, by go_simp, by go_simp, by go_simp, by go_simp, by go_simp, by go_simp, fun o => by go_simp⟩
theorem FBf.set1 (b : Int) (h : FBf w g a0 a1 a2 a3 a4 a5) : FBf (w.setCell ⟨g, 1, none⟩ (.int .i64 b)) g a0 b a2 a3 a4 a5 := by
  obtain ⟨l0, p0, p1, p2, p3, p4, p5, pf⟩ := h
  exact ⟨by simpa using l0, by go_simp, by go_simp, by go_simp, by go_simp, by go_simp, by go_simp, fun o => by go_simp⟩
theorem FBf.set2 (b : ByteArray) (h : FBf w g a0 a1 a2 a3 a4 a5) : FBf (w.setCell ⟨g, 2, none⟩ (.string b)) g a0 a1 b a3 a4 a5 := by
  obtain ⟨l0, p0, p1, p2, p3, p4, p5, pf⟩ := h
  exact ⟨by simpa using l0, by go_simp, by go_simp, by go_simp, by go_simp, by go_simp, by go_simp, fun o => by go_simp⟩
theorem FBf.set3 (b : ByteArray) (h : FBf w g a0 a1 a2 a3 a4 a5) : FBf (w.setCell ⟨g, 3, none⟩ (.string b)) g a0 a1 a2 b a4 a5 := by
  obtain ⟨l0, p0, p1, p2, p3, p4, p5, pf⟩ := h
  exact ⟨by simpa using l0, by go_simp, by go_simp, by go_simp, by go_simp, by go_simp, by go_simp, fun o => by go_simp⟩
theorem FBf.set4 (b : ByteArray) (h : FBf w g a0 a1 a2 a3 a4 a5) : FBf (w.setCell ⟨g, 4, none⟩ (.string b)) g a0 a1 a2 a3 b a5 := by
  obtain ⟨l0, p0, p1, p2, p3, p4, p5, pf⟩ := h
  exact ⟨by simpa using l0, by go_simp, by go_simp, by go_simp, by go_simp, by go_simp, by go_simp, fun o => by go_simp⟩
theorem FBf.set5 (b : ByteArray) (h : FBf w g a0 a1 a2 a3 a4 a5) : FBf (w.setCell ⟨g, 5, none⟩ (.string b)) g a0 a1 a2 a3 a4 b := by
  obtain ⟨l0, p0, p1, p2, p3, p4, p5, pf⟩ := h
  exact ⟨by simpa using l0, by go_simp, by go_simp, by go_simp, by go_simp, by go_simp, by go_simp, fun o => by go_simp⟩
end
theorem FBf.new (w : World) (a0 : Int) (a1 : Int) (a2 : ByteArray) (a3 : ByteArray) (a4 : ByteArray) (a5 : ByteArray) (ty : TypeId) : FBf (w.alloc (.cells #[.int .i64 a0, .int .i64 a1, .string a2, .string a3, .string a4, .string a5] ty)) w.heap.size a0 a1 a2 a3 a4 a5 := ⟨by simp, by go_simp, by go_simp, by go_simp, by go_simp, by go_simp, by go_simp, fun o => by go_simp⟩
/-- What lies where while a frame is read. -/
structure RdF (w W : World) (gs gp : Nat) (r : ByteArray) (v : Value) (a0 a1 : Int) (a2 a3 a4 a5 : ByteArray) : Prop where
  sat : Sat W gs r v
  pk : FBf W gp a0 a1 a2 a3 a4 a5
  res : FBf W w.heap.size 0 0 ⟨#[]⟩ ⟨#[]⟩ ⟨#[]⟩ ⟨#[]⟩
  bel : Below w.heap.size w W
  n1 : gs ≠ gp
  n2 : gs ≠ w.heap.size
  n3 : gp ≠ w.heap.size
  n4 : w.heap.size ≤ gs
  n5 : w.heap.size ≤ gp
section
variable {w W W' : World} {gs gp : Nat} {r r' : ByteArray} {v v' : Value} {a0 a1 : Int} {a2 a3 a4 a5 : ByteArray}
theorem RdF.read (h : RdF w W gs gp r v a0 a1 a2 a3 a4 a5) (m : Mv gs W W') (h' : Sat W' gs r' v') : RdF w W' gs gp r' v' a0 a1 a2 a3 a4 a5 :=
  ⟨h', h.pk.mv m (Ne.symm h.n1), h.res.mv m (Ne.symm h.n2), h.bel.trans (m.below h.bel.size h.n4), h.n1, h.n2, h.n3, h.n4, h.n5⟩
theorem RdF.later (h : RdF w W gs gp r v a0 a1 a2 a3 a4 a5) (hb : Below W.heap.size W W') : RdF w W' gs gp r v a0 a1 a2 a3 a4 a5 :=
  ⟨h.sat.later hb, h.pk.later hb, h.res.later hb, below_later h.bel hb, h.n1, h.n2, h.n3, h.n4, h.n5⟩
theorem RdF.put (h : RdF w W gs gp r v a0 a1 a2 a3 a4 a5) (o : Nat) (u : Value) {b0 b1 : Int} {b2 b3 b4 b5 : ByteArray} (h' : FBf (W.setCell ⟨gp, o, none⟩ u) gp b0 b1 b2 b3 b4 b5) : RdF w (W.setCell ⟨gp, o, none⟩ u) gs gp r v b0 b1 b2 b3 b4 b5 :=
  ⟨h.sat.mv (Mv.setg gp o W u) h.n1, h', h.res.mv (Mv.setg gp o W u) (Ne.symm h.n3), h.bel.setCell h.n5 _, h.n1, h.n2, h.n3, h.n4, h.n5⟩
end
theorem RdF.new (w : World) (x y : ByteArray) (t1 t2 t3 : TypeId) :
    RdF w (((w.alloc (.cells #[.int .i64 0, .int .i64 0, .string ⟨#[]⟩, .string ⟨#[]⟩, .string ⟨#[]⟩, .string ⟨#[]⟩] t1)).alloc (.cells #[.string x, .nilIface] t2)).alloc (.cells #[.int .i64 0, .int .i64 0, .string ⟨#[]⟩, .string ⟨#[]⟩, .string y, .string ⟨#[]⟩] t3)) (w.heap.size + 1) (w.heap.size + 1 + 1) x .nilIface 0 0 ⟨#[]⟩ ⟨#[]⟩ y ⟨#[]⟩ := by
  refine ⟨?_, ?_, ?_, by go_grown, by omega, by omega, by omega, by omega, by omega⟩
  · have h := Sat.new (w.alloc (.cells #[.int .i64 0, .int .i64 0, .string ⟨#[]⟩, .string ⟨#[]⟩, .string ⟨#[]⟩, .string ⟨#[]⟩] t1)) x .nilIface t2
    have := h.later (below_box _ (.cells #[.int .i64 0, .int .i64 0, .string ⟨#[]⟩, .string ⟨#[]⟩, .string y, .string ⟨#[]⟩] t3))
    simpa using this
  · have h := FBf.new ((w.alloc (.cells #[.int .i64 0, .int .i64 0, .string ⟨#[]⟩, .string ⟨#[]⟩, .string ⟨#[]⟩, .string ⟨#[]⟩] t1)).alloc (.cells #[.string x, .nilIface] t2)) 0 0 ⟨#[]⟩ ⟨#[]⟩ y ⟨#[]⟩ t3
    simpa using h
  · exact ((FBf.new w 0 0 ⟨#[]⟩ ⟨#[]⟩ ⟨#[]⟩ ⟨#[]⟩ t1).later (below_box _ _)).later (below_box _ _)
/-- Two numbers of a frame. -/
def hokB (spi seq : Int) : Bool := inB spi 1 999 && inB seq 1 1000000
theorem spiOk_any (n : Int) (w : World) (v : Bool) (hv : inB n 1 999 = v) :
    Calls Tryz.prog 94 #[.int .i64 n] w fun e w' => e = .returned (.bool v) ∧ Below w.heap.size w w' := by
  have V := hid_in hv
  clear hv
  go_enter Tryz.func94, Tryz.ntmps94
  go_wp2_with fail
  refine (rhas_any _ _ _ _ _ V.out).mono ?_
  rintro e w1 ⟨rfl, hb1⟩
  go_wp2_with fail
  go_ret
  exact ⟨rfl, hb1⟩
theorem headOk_any (a b : Int) (w : World) (v : Bool) (hv : hokB a b = v) :
    Calls Tryz.prog 52 #[.int .i64 a, .int .i64 b] w fun e w' => e = .returned (.bool v) ∧ Below w.heap.size w w' := by
  have V := hid_in hv
  clear hv
  cases h1 : inB a 1 999
  · have H1 := hid_in h1
    clear h1
    go_enter Tryz.func52, Tryz.ntmps52
    go_wp2_with fail
    refine (spiOk_any _ _ _ H1.out).mono ?_
    rintro e w1 ⟨rfl, hb1⟩
    go_wp2_with fail
    go_ret
    exact ⟨ret_bool (by rw [← V.out, hokB, H1.out]; rfl), hb1⟩
  · have H1 := hid_in h1
    clear h1
    obtain ⟨c, hc⟩ : ∃ c, inB b 1 1000000 = c := ⟨_, rfl⟩
    have HC := hid_in hc
    clear hc
    go_enter Tryz.func52, Tryz.ntmps52
    go_wp2_with fail
    refine (spiOk_any _ _ _ H1.out).mono ?_
    rintro e w1 ⟨rfl, hb1⟩
    go_wp2_with fail
    refine (rhas_any _ _ _ _ _ HC.out).mono ?_
    rintro e w2 ⟨rfl, hb2⟩
    go_wp2_with fail
    go_ret
    exact ⟨ret_bool (by rw [← V.out, hokB, H1.out, HC.out]; rfl), below_later hb1 hb2⟩
end Go.Proofs.YtefmmopkikpnhaaGreatDoor

namespace Go.Proofs.YtefmmopkikpnhaaGreatDoor
open Go.RowKit Go.LatT Go.BlockM Go.PlainAid Go.OpnT Go.RegE Go.ApdG Go.BytM
set_option linter.unusedVariables false
set_option linter.unusedSimpArgs false
/-- A text has the size of a frame. -/
def fszB (x : ByteArray) : Bool := decide (56 ≤ x.size) && decide (x.size ≤ 140) && decide (x.size % 16 = 8)
/-- The value of a frame's parts. -/
def frV (x : ByteArray) : Value := .agg #[.int .i64 (numX x 0 4), .int .i64 (numX x 4 8), .string (x.extract 8 24), .string (x.extract 24 (x.size - 16)), .string (x.extract 0 (x.size - 16)), .string (x.extract (x.size - 16) x.size)]
/-- What taking a frame apart answers. -/
def FrP (x : ByteArray) (w : World) (e : Ending) (w' : World) : Prop := ∃ v, e = .returned (.tuple #[frV x, v]) ∧ ErrV (!hokB (numX x 0 4) (numX x 4 8)) v ∧ Below w.heap.size w w'
theorem ex_rest' (x : ByteArray) (i j k : Nat) (h : i + j = k) : (x.extract i x.size).extract j (x.extract i x.size).size = x.extract k x.size := by rw [ex_rest, h]
theorem ex_head' (x : ByteArray) (i n k : Nat) (hk : i + n = k) (h : k ≤ x.size) : (x.extract i x.size).extract 0 n = x.extract i k := by rw [ex_head x i n (by omega), hk]
theorem ex_size (x : ByteArray) (i : Nat) : (x.extract i x.size).size = x.size - i := by rw [ByteArray.size_extract]; omega
theorem fsz_out {x : ByteArray} (h : fszB x = true) : 56 ≤ x.size ∧ x.size ≤ 140 ∧ x.size % 16 = 8 := by
  simp [fszB] at h; omega
set_option maxHeartbeats 4000000 in
set_option maxRecDepth 100000 in
theorem frameOf_ok (x : ByteArray) (w : World) (hx : fszB x = true) :
    Calls Tryz.prog 44 #[.string x] w fun e w' => FrP x w e w' := by
  obtain ⟨h1, h2, h3⟩ := fsz_out hx
  obtain ⟨y, hy⟩ : ∃ y, x.extract 0 (x.size - 16) = y := ⟨_, rfl⟩
  have hS := RdF.new w x y 61 99 61
  have q1 : ((x.size : Int) - 40) % 16 = 0 := by omega
  have q2 : (56 : Int) ≤ (x.size : Int) := by omega
  have q3 : (x.size : Int) ≤ 140 := by omega
  have HX := hid_in (show x.size ≤ 1048576 by omega)
  have HY := hid_in hy
  have H1 := hid_in h1
  have H2 := hid_in h2
  have e40 : (x.size : Int) - 40 = ((x.size - 40 : Nat) : Int) := by omega
  have E40 := hid_in e40
  clear hx h3 e40
  go_enter Tryz.func44, Tryz.ntmps44
  go_wp2_with fail
  have S0 := hid_in hS
  clear hS
  generalize (((w.alloc (.cells #[.int .i64 0, .int .i64 0, .string ⟨#[]⟩, .string ⟨#[]⟩, .string ⟨#[]⟩, .string ⟨#[]⟩] 61)).alloc (.cells #[.string x, .nilIface] 99)).alloc (.cells #[.int .i64 0, .int .i64 0, .string ⟨#[]⟩, .string ⟨#[]⟩, .string y, .string ⟨#[]⟩] 61)) = W0 at *
  generalize w.heap.size + 1 + 1 = gp at *
  generalize w.heap.size + 1 = gs at *
  refine (number_any gs 4 x false _ _ S0.out.sat rfl HX.out (by omega)).mono ?_
  rintro e w1 ⟨x1, r1, b1, v1, rfl, q, s1, V1, m1⟩
  obtain ⟨rfl, rfl, rfl⟩ := q.yes (by have := H1.out; omega)
  have hv1 : v1 = .nilIface := V1
  subst hv1
  have S1 := hid_in (S0.out.read m1 s1)
  clear q s1 V1 m1 S0
  obtain ⟨_, k0, k1, k2, k3, k4, k5, kf⟩ := S1.out.pk
  go_wp2_with fail
  have S2 := hid_in (S1.out.put 0 _ (S1.out.pk.set0 ((num (bl (x.extract 0 4)) : Nat) : Int)))
  clear S1 k0 k1 k2 k3 k4 k5 kf
  generalize (w1.setCell ⟨gp, 0, none⟩ (.int .i64 ((num (bl (x.extract 0 4)) : Nat) : Int))) = W2 at *
  refine (number_any gs 4 (x.extract 4 x.size) false _ _ S2.out.sat rfl (by rw [ex_size]; have := HX.out; omega) (by omega)).mono ?_
  rintro e w3 ⟨x2, r2, b2, v2, rfl, q, s2, V2, m2⟩
  obtain ⟨rfl, rfl, rfl⟩ := q.yes (by rw [ex_size]; have := H1.out; omega)
  have hv2 : v2 = .nilIface := V2
  subst hv2
  rw [ex_rest' x 4 4 8 rfl] at s2
  rw [ex_head' x 4 4 8 rfl (by have := H1.out; omega)]
  have S3 := hid_in (S2.out.read m2 s2)
  clear q s2 V2 m2 S2
  obtain ⟨_, k0, k1, k2, k3, k4, k5, kf⟩ := S3.out.pk
  go_wp2_with fail
  have S4 := hid_in (S3.out.put 1 _ (S3.out.pk.set1 ((num (bl (x.extract 4 8)) : Nat) : Int)))
  clear S3 k0 k1 k2 k3 k4 k5 kf
  generalize (w3.setCell ⟨gp, 1, none⟩ (.int .i64 ((num (bl (x.extract 4 8)) : Nat) : Int))) = W4 at *
  refine (piece_ok gs 16 (x.extract 8 x.size) _ _ S4.out.sat (by rw [ex_size]; have := HX.out; omega) (by rw [ex_size]; have := H1.out; omega)).mono ?_
  rintro e w5 ⟨rfl, s3, m3⟩
  rw [ex_rest' x 8 16 24 rfl] at s3
  rw [ex_head' x 8 16 24 rfl (by have := H1.out; omega)]
  have S5 := hid_in (S4.out.read m3 s3)
  clear s3 m3 S4
  obtain ⟨_, k0, k1, k2, k3, k4, k5, kf⟩ := S5.out.pk
  have e40 := E40.out
  go_wp2_with fail
  have S6 := hid_in (S5.out.put 2 _ (S5.out.pk.set2 (x.extract 8 24)))
  clear S5 k0 k1 k2 k3 k4 k5 kf e40
  generalize (w5.setCell ⟨gp, 2, none⟩ (.string (x.extract 8 24))) = W6 at *
  refine (piece_ok gs (x.size - 40) (x.extract 24 x.size) _ _ S6.out.sat (by rw [ex_size]; have := HX.out; omega) (by rw [ex_size]; have := H1.out; omega)).mono ?_
  rintro e w7 ⟨rfl, s4, m4⟩
  rw [ex_rest' x 24 (x.size - 40) (x.size - 16) (by have := H1.out; omega)] at s4
  rw [ex_head' x 24 (x.size - 40) (x.size - 16) (by have := H1.out; omega) (by omega)]
  have S7 := hid_in (S6.out.read m4 s4)
  clear s4 m4 S6
  obtain ⟨z, hz⟩ : ∃ z, x.extract 24 (x.size - 16) = z := ⟨_, rfl⟩
  rw [hz]
  have HZ := hid_in hz
  clear hz
  obtain ⟨_, k0, k1, k2, k3, k4, k5, kf⟩ := S7.out.pk
  go_wp2_with fail
  have S8 := hid_in (S7.out.put 3 _ (S7.out.pk.set3 z))
  clear S7 k0 k1 k2 k3 k4 k5 kf
  generalize (w7.setCell ⟨gp, 3, none⟩ (.string z)) = W8 at *
  refine (piece_ok gs 16 (x.extract (x.size - 16) x.size) _ _ S8.out.sat (by rw [ex_size]; have := HX.out; omega) (by rw [ex_size]; have := H1.out; omega)).mono ?_
  rintro e w9 ⟨rfl, s5, m5⟩
  rw [ex_head' x (x.size - 16) 16 x.size (by have := H1.out; omega) (by omega)]
  have S9 := hid_in (S8.out.read m5 s5)
  clear s5 m5 S8
  obtain ⟨u, hu⟩ : ∃ u, x.extract (x.size - 16) x.size = u := ⟨_, rfl⟩
  rw [hu]
  have HU := hid_in hu
  clear hu
  obtain ⟨c, hc⟩ : ∃ c, hokB ((num (bl (x.extract 0 4)) : Nat) : Int) ((num (bl (x.extract 4 8)) : Nat) : Int) = c := ⟨_, rfl⟩
  have HC := hid_in hc
  clear hc
  obtain ⟨_, k0, k1, k2, k3, k4, k5, kf⟩ := S9.out.pk
  have S10 := hid_in (S9.out.put 5 _ (S9.out.pk.set5 u))
  go_wp2_with fail
  clear S9 k0 k1 k2 k3 k4 k5 kf
  generalize (w9.setCell ⟨gp, 5, none⟩ (.string u)) = W10 at *
  refine (headOk_any _ _ _ c HC.out).mono ?_
  rintro e w11 ⟨rfl, hb11⟩
  replace S10 := hid_in (S10.out.later hb11)
  clear hb11
  have EV : Hid (frV x = .agg #[.int .i64 ((num (bl (x.extract 0 4)) : Nat) : Int), .int .i64 ((num (bl (x.extract 4 8)) : Nat) : Int), .string (x.extract 8 24), .string z, .string y, .string u]) := by
    show _ = _
    rw [frV, HZ.out, HY.out, HU.out]; rfl
  have EC : Hid (hokB (numX x 0 4) (numX x 4 8) = c) := HC
  clear HC
  cases c
  · go_wp2_with fail
    refine (refuse_any gs _ _ false _ _ S10.out.sat rfl).mono ?_
    rintro e w12 ⟨rfl, ⟨v6, s6, V6⟩, m6⟩
    replace S10 := hid_in (S10.out.read m6 s6)
    clear s6 m6
    obtain ⟨_, k0, k1, k2, k3, k4, k5, kf⟩ := S10.out.pk
    obtain ⟨hlt, i0, i1, i2, i3, i4, i5, if_⟩ := S10.out.res
    obtain ⟨_, j0, j1, jf⟩ := S10.out.sat
    have n3 := S10.out.n3
    have n2 := S10.out.n2
    go_wp2_with fail
    go_region
    go_wp2_with fail
    refine bodyPost_ret (v := .tuple #[.agg #[.int .i64 ((num (bl (x.extract 0 4)) : Nat) : Int), .int .i64 ((num (bl (x.extract 4 8)) : Nat) : Int), .string (x.extract 8 24), .string z, .string y, .string u], v6]) (by simp [results, Tryz.results44, go_sem, i0, i1, i2, i3, i4, i5, hlt]) rfl ?_
    refine ⟨_, by rw [EV.out], by rw [EC.out]; exact V6, ?_⟩
    exact ((((((S10.out.bel.setCell (Nat.le_refl _) _).setCell (Nat.le_refl _) _).setCell (Nat.le_refl _) _).setCell (Nat.le_refl _) _).setCell (Nat.le_refl _) _).setCell (Nat.le_refl _) _).drew
  · obtain ⟨_, k0, k1, k2, k3, k4, k5, kf⟩ := S10.out.pk
    obtain ⟨hlt, i0, i1, i2, i3, i4, i5, if_⟩ := S10.out.res
    obtain ⟨_, j0, j1, jf⟩ := S10.out.sat
    have n3 := S10.out.n3
    have n2 := S10.out.n2
    go_wp2_with fail
    go_region
    go_wp2_with fail
    refine bodyPost_ret (v := .tuple #[.agg #[.int .i64 ((num (bl (x.extract 0 4)) : Nat) : Int), .int .i64 ((num (bl (x.extract 4 8)) : Nat) : Int), .string (x.extract 8 24), .string z, .string y, .string u], .nilIface]) (by simp [results, Tryz.results44, go_sem, i0, i1, i2, i3, i4, i5, hlt]) rfl ?_
    refine ⟨_, by rw [EV.out], by rw [EC.out]; exact rfl, ?_⟩
    exact ((((((S10.out.bel.setCell (Nat.le_refl _) _).setCell (Nat.le_refl _) _).setCell (Nat.le_refl _) _).setCell (Nat.le_refl _) _).setCell (Nat.le_refl _) _).setCell (Nat.le_refl _) _).drew
end Go.Proofs.YtefmmopkikpnhaaGreatDoor

namespace Go.Proofs.YtefmmopkikpnhaaGreatDoor
open Go.RowKit Go.LatT Go.BlockM Go.PlainAid Go.OpnT Go.RegE Go.ApdG Go.BytM
set_option linter.unusedVariables false
set_option linter.unusedSimpArgs false
/-- What taking no frame apart answers. -/
def FrN (w : World) (e : Ending) (w' : World) : Prop := ∃ y : ByteArray, e = .returned (.tuple #[.agg #[.int .i64 0, .int .i64 0, .string ⟨#[]⟩, .string ⟨#[]⟩, .string ⟨#[]⟩, .string ⟨#[]⟩], .iface 97 (.agg #[.string y])]) ∧ Below w.heap.size w w'
set_option maxHeartbeats 2000000 in
set_option maxRecDepth 100000 in
theorem frameOf_no (x : ByteArray) (w : World) (hs : x.size ≤ 1048576) (hx : fszB x = false) :
    Calls Tryz.prog 44 #[.string x] w fun e w' => FrN w e w' := by
  by_cases h1 : 56 ≤ x.size
  · by_cases h2 : x.size ≤ 140
    · have h3 : ¬ ((x.size : Int) - 40) % 16 = 0 := by simp [fszB] at hx; omega
      have h3' : (((x.size : Int) - 40) % 16 == 0) = false := by simpa using h3
      have h3'' : (((x.size : Int) - 40) % 16 != 0) = true := by simpa using h3
      clear hx h3
      go_enter Tryz.func44, Tryz.ntmps44
      go_wp2_with fail
      exact bodyPost_ret (v := .tuple #[.agg #[.int .i64 0, .int .i64 0, .string ⟨#[]⟩, .string ⟨#[]⟩, .string ⟨#[]⟩, .string ⟨#[]⟩], .iface 97 (.agg #[.string ⟨#[102, 114, 97, 109, 101]⟩])]) (by simp [results, Tryz.results44, go_sem]) rfl ⟨_, rfl, by go_grown⟩
    · clear hx
      go_enter Tryz.func44, Tryz.ntmps44
      go_wp2_with fail
      exact bodyPost_ret (v := .tuple #[.agg #[.int .i64 0, .int .i64 0, .string ⟨#[]⟩, .string ⟨#[]⟩, .string ⟨#[]⟩, .string ⟨#[]⟩], .iface 97 (.agg #[.string ⟨#[102, 114, 97, 109, 101]⟩])]) (by simp [results, Tryz.results44, go_sem]) rfl ⟨_, rfl, by go_grown⟩
  · clear hx
    go_enter Tryz.func44, Tryz.ntmps44
    go_wp2_with fail
    exact bodyPost_ret (v := .tuple #[.agg #[.int .i64 0, .int .i64 0, .string ⟨#[]⟩, .string ⟨#[]⟩, .string ⟨#[]⟩, .string ⟨#[]⟩], .iface 97 (.agg #[.string ⟨#[102, 114, 97, 109, 101]⟩])]) (by simp [results, Tryz.results44, go_sem]) rfl ⟨_, rfl, by go_grown⟩
/-- A text that begins as a frame. -/
def fhB (x : ByteArray) : Bool := fszB x && hokB (numX x 0 4) (numX x 4 8)
/-- Its numbers. -/
def fhN (x : ByteArray) (i j : Nat) : Int := if fhB x then numX x i j else 0
set_option maxHeartbeats 2000000 in
set_option maxRecDepth 100000 in
theorem frameHeadI (x : ByteArray) (w : World) (hx : x.size ≤ 1048576) (hE : ErrT w) :
    Calls Tryz.prog 19 #[.string x] w fun e w' => e = .returned (.tuple #[.int .i64 (fhN x 0 4), .int .i64 (fhN x 4 8), .bool (fhB x)]) ∧ Below w.heap.size w w' := by
  have HE := hid_in hE
  clear hE
  cases hf : fszB x
  · have N : Hid (fhB x = false ∧ fhN x 0 4 = 0 ∧ fhN x 4 8 = 0) := by
      have : fhB x = false := by rw [fhB, hf]; rfl
      exact ⟨this, by rw [fhN, this]; rfl, by rw [fhN, this]; rfl⟩
    have HF := hid_in hf
    clear hf
    go_enter Tryz.func19, Tryz.ntmps19
    go_wp2_with fail
    refine (frameOf_no x w hx HF.out).mono ?_
    rintro e w1 ⟨y, rfl, hb1⟩
    have E1 := hid_in ((HE.out.later hb1).later (below_box w1 (.cells #[.int .i64 0, .int .i64 0, .string ⟨#[]⟩, .string ⟨#[]⟩, .string ⟨#[]⟩, .string ⟨#[]⟩] 61)))
    have Z1 := hid_in (below_later hb1 (below_box w1 (.cells #[.int .i64 0, .int .i64 0, .string ⟨#[]⟩, .string ⟨#[]⟩, .string ⟨#[]⟩, .string ⟨#[]⟩] 61)))
    clear hb1
    go_wp2_with fail
    refine (couldRead_not y _ E1.out).mono ?_
    rintro e w2 ⟨rfl, hb2⟩
    go_wp2_with fail
    go_ret3
    exact ⟨by rw [N.out.1, N.out.2.1, N.out.2.2]; rfl, below_later Z1.out hb2⟩
  · obtain ⟨c, hc⟩ : ∃ c, hokB (numX x 0 4) (numX x 4 8) = c := ⟨_, rfl⟩
    have HC := hid_in hc
    have HF := hid_in hf
    have FV : Hid (frV x = .agg #[.int .i64 (numX x 0 4), .int .i64 (numX x 4 8), .string (x.extract 8 24), .string (x.extract 24 (x.size - 16)), .string (x.extract 0 (x.size - 16)), .string (x.extract (x.size - 16) x.size)]) := hid_in rfl
    have N : Hid (fhB x = c ∧ fhN x 0 4 = (if c then numX x 0 4 else 0) ∧ fhN x 4 8 = (if c then numX x 4 8 else 0)) := by
      have : fhB x = c := by rw [fhB, hf, hc]; rfl
      exact ⟨this, by rw [fhN, this], by rw [fhN, this]⟩
    clear hc hf
    have F0 := frameOf_ok x w HF.out
    unfold FrP at F0
    rw [FV.out, HC.out] at F0
    have F := hid_in F0
    clear F0
    generalize numX x 0 4 = f at *
    generalize numX x 4 8 = t at *
    generalize x.extract 8 24 = a2 at *
    generalize x.extract 24 (x.size - 16) = a3 at *
    generalize x.extract 0 (x.size - 16) = a4 at *
    generalize x.extract (x.size - 16) x.size = a5 at *
    cases c
    · go_enter Tryz.func19, Tryz.ntmps19
      go_wp2_with fail
      refine F.out.mono ?_
      rintro e w1 ⟨v, rfl, hv, hb1⟩
      have hv' : ∃ y : ByteArray, v = .iface 97 (.agg #[.string y]) := hv
      obtain ⟨y, rfl⟩ := hv'
      have E1 := hid_in ((HE.out.later hb1).later (below_box w1 (.cells #[.int .i64 f, .int .i64 t, .string a2, .string a3, .string a4, .string a5] 61)))
      have Z1 := hid_in (below_later hb1 (below_box w1 (.cells #[.int .i64 f, .int .i64 t, .string a2, .string a3, .string a4, .string a5] 61)))
      clear hb1 hv
      go_wp2_with fail
      refine (couldRead_not y _ E1.out).mono ?_
      rintro e w2 ⟨rfl, hb2⟩
      go_wp2_with fail
      go_ret3
      exact ⟨by rw [N.out.1, N.out.2.1, N.out.2.2]; rfl, below_later Z1.out hb2⟩
    · go_enter Tryz.func19, Tryz.ntmps19
      go_wp2_with fail
      refine F.out.mono ?_
      rintro e w1 ⟨v, rfl, hv, hb1⟩
      have hv' : v = .nilIface := hv
      subst hv'
      have Z1 := hid_in (below_later hb1 (below_box w1 (.cells #[.int .i64 f, .int .i64 t, .string a2, .string a3, .string a4, .string a5] 61)))
      have B1 := hid_in (FBf.new w1 f t a2 a3 a4 a5 61)
      clear hb1 hv
      go_wp2_with fail
      refine (couldRead_nil _).mono ?_
      rintro e w2 ⟨rfl, hb2⟩
      obtain ⟨_, k0, k1, k2, k3, k4, k5, kf⟩ := B1.out.later hb2
      have Z2 := hid_in (below_later Z1.out hb2)
      clear hb2
      go_wp2_with fail
      go_region
      go_wp2_with fail
      go_ret3
      exact ⟨by rw [N.out.1, N.out.2.1, N.out.2.2]; rfl, Z2.out.drew⟩
set_option maxHeartbeats 2000000 in
set_option maxRecDepth 100000 in
theorem frameHeadS (x : ByteArray) (w : World) (hx : x.size ≤ 1048576) :
    Calls Tryz.prog 21 #[.string x] w fun e w' => e = .returned (.tuple #[.int .i64 (fhN x 0 4), .int .i64 (fhN x 4 8), .bool (fhB x)]) ∧ w' = w := by
  have no : fhB x = false → Hid (fhB x = false ∧ fhN x 0 4 = 0 ∧ fhN x 4 8 = 0) := fun this => ⟨this, by rw [fhN, this]; rfl, by rw [fhN, this]; rfl⟩
  obtain ⟨c, hc⟩ : ∃ c, inB (x.size : Int) 56 140 = c := ⟨_, rfl⟩
  have HC := hid_in hc
  cases c
  · have hf : fszB x = false := by simp [inB] at hc; simp [fszB]; omega
    have N := no (by rw [fhB, hf]; rfl)
    clear hc hf no
    go_enter Tryz.func21, Tryz.ntmps21
    go_wp2_with fail
    refine (l1In_any _ _ _ _ _ HC.out).mono ?_
    rintro e w1 ⟨rfl, rfl⟩
    go_wp2_with fail
    go_ret3
    exact ⟨by rw [N.out.1, N.out.2.1, N.out.2.2]; rfl, rfl⟩
  · have hr : 56 ≤ x.size ∧ x.size ≤ 140 := by simp [inB] at hc; omega
    by_cases h3 : x.size % 16 = 8
    · have hf : fszB x = true := by simp [fszB]; omega
      have q1 : (x.size : Int) % 16 = 8 := by omega
      have q4 : (4 : Int) ≤ x.size := by omega
      have q8 : (8 : Int) ≤ x.size := by omega
      obtain ⟨x0, hx0⟩ : ∃ y, x.extract 0 4 = y := ⟨_, rfl⟩
      obtain ⟨x1, hx1⟩ : ∃ y, x.extract 4 8 = y := ⟨_, rfl⟩
      have N1 : Hid (∀ w, Calls Tryz.prog 61 #[.string x0] w fun e w' => e = .returned (.int .i64 (numX x 0 4)) ∧ w' = w) := fun w => by rw [← hx0]; exact l8Num_any (x.extract 0 4) w (by rw [ByteArray.size_extract]; omega)
      have N2 : Hid (∀ w, Calls Tryz.prog 61 #[.string x1] w fun e w' => e = .returned (.int .i64 (numX x 4 8)) ∧ w' = w) := fun w => by rw [← hx1]; exact l8Num_any (x.extract 4 8) w (by rw [ByteArray.size_extract]; omega)
      obtain ⟨a, ha⟩ : ∃ a, inB (numX x 0 4) 1 999 = a := ⟨_, rfl⟩
      obtain ⟨b, hb⟩ : ∃ b, inB (numX x 4 8) 1 1000000 = b := ⟨_, rfl⟩
      have EH : fhB x = (a && b) := by rw [fhB, hf, hokB, ha, hb]; rfl
      have F1 : fhN x 0 4 = if (a && b) then numX x 0 4 else 0 := by rw [fhN, EH]
      have F2 : fhN x 4 8 = if (a && b) then numX x 4 8 else 0 := by rw [fhN, EH]
      have N := hid_in (And.intro EH (And.intro F1 F2))
      have HA := hid_in ha; have HB := hid_in hb
      clear hc hf no EH F1 F2 ha hb h3
      generalize numX x 0 4 = f at *
      generalize numX x 4 8 = t at *
      cases a
      · go_enter Tryz.func21, Tryz.ntmps21
        go_wp2_with fail
        refine (l1In_any _ _ _ _ _ HC.out).mono ?_
        rintro e w1 ⟨rfl, rfl⟩
        go_wp2_with fail
        refine (N1.out _).mono ?_
        rintro e w1 ⟨rfl, rfl⟩
        go_wp2_with fail
        refine (N2.out _).mono ?_
        rintro e w1 ⟨rfl, rfl⟩
        go_wp2_with fail
        refine (l1In_any _ _ _ _ _ HA.out).mono ?_
        rintro e w1 ⟨rfl, rfl⟩
        go_wp2_with fail
        go_ret3
        exact ⟨by rw [N.out.1, N.out.2.1, N.out.2.2]; rfl, rfl⟩
      · cases b
        all_goals
          go_enter Tryz.func21, Tryz.ntmps21
          go_wp2_with fail
          refine (l1In_any _ _ _ _ _ HC.out).mono ?_
          rintro e w1 ⟨rfl, rfl⟩
          go_wp2_with fail
          refine (N1.out _).mono ?_
          rintro e w1 ⟨rfl, rfl⟩
          go_wp2_with fail
          refine (N2.out _).mono ?_
          rintro e w1 ⟨rfl, rfl⟩
          go_wp2_with fail
          refine (l1In_any _ _ _ _ _ HA.out).mono ?_
          rintro e w1 ⟨rfl, rfl⟩
          go_wp2_with fail
          refine (l1In_any _ _ _ _ _ HB.out).mono ?_
          rintro e w1 ⟨rfl, rfl⟩
          go_wp2_with fail
          go_ret3
          exact ⟨by rw [N.out.1, N.out.2.1, N.out.2.2]; rfl, rfl⟩
    · have hf : fszB x = false := by simp [fszB]; omega
      have N := no (by rw [fhB, hf]; rfl)
      have q1 : ((x.size : Int) % 16 == 8) = false := by simp; omega
      have q2 : ((x.size : Int) % 16 != 8) = true := by simp; omega
      clear hc hf no h3
      go_enter Tryz.func21, Tryz.ntmps21
      go_wp2_with fail
      refine (l1In_any _ _ _ _ _ HC.out).mono ?_
      rintro e w1 ⟨rfl, rfl⟩
      go_wp2_with fail
      go_ret3
      exact ⟨by rw [N.out.1, N.out.2.1, N.out.2.2]; rfl, rfl⟩
end Go.Proofs.YtefmmopkikpnhaaGreatDoor

