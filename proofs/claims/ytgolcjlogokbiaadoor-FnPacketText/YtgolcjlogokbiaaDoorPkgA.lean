/- Packets read from bytes, in the program, as contracts. The conditions stand at each theorem. -/
import Derived.Test.YtgolcjlogokbiaaDoorSrcA
import Derived.Test.YtgolcjlogokbiaaDoorPkpA
namespace Go.Proofs.YtgolcjlogokbiaaDoor
open Go.RowKit Go.LatT Go.BlockM Go.PlainAid Go.OpnT Go.RegE Go.ApdG Go.BytM
set_option linter.unusedVariables false
set_option linter.unusedSimpArgs false
theorem PBox.mv {w w' : World} {g R : Nat} {f t p : Int} {s : ByteArray} (h : PBox w g f t p s) (m : Mv R w w') (hg : g ≠ R) : PBox w' g f t p s :=
  have q := fun o => m.cell g o h.lt hg
  ⟨Nat.lt_of_lt_of_le h.lt m.size, (q _).trans h.c0, (q _).trans h.c1, (q _).trans h.c2, (q _).trans h.c3⟩
/-- A packet was read, or it failed: how. -/
def PkOf (x : ByteArray) (b : Bool) (f t p : Int) (s : ByteArray) : Prop :=
  ∃ (x1 x2 x3 x4 r1 r2 r3 r4 r5 : ByteArray) (b1 b2 b3 b4 b5 : Bool), Pc 4 x r1 false b1 x1 ∧ Pc 4 r1 r2 b1 b2 x2 ∧ Pc 2 r2 r3 b2 b3 x3 ∧ Pc 1 r3 r4 b3 b4 x4 ∧ Pc (num (bl x4)) r4 r5 b4 b5 s ∧
    f = (num (bl x1) : Nat) ∧ t = (num (bl x2) : Nat) ∧ p = (num (bl x3) : Nat) ∧ b = (b5 || decide (r5.size ≠ 0) || !pokB f t p s)
/-- What reading a packet answers. -/
def PkP (x : ByteArray) (w : World) (e : Ending) (w' : World) : Prop := ∃ f t p s v b, e = .returned (.tuple #[.agg #[.int .i64 f, .int .i64 t, .int .i64 p, .string s], v]) ∧ ErrV b v ∧ PkOf x b f t p s ∧ Below w.heap.size w w'
/-- A packet lies in a block that may be written. -/
structure PBf (w : World) (g : Nat) (f t p : Int) (s : ByteArray) : Prop where
  lt : g < w.heap.size
  c0 : w.cell? ⟨g, 0, none⟩ = some (.int .i64 f)
  c1 : w.cell? ⟨g, 1, none⟩ = some (.int .i64 t)
  c2 : w.cell? ⟨g, 2, none⟩ = some (.int .i64 p)
  c3 : w.cell? ⟨g, 3, none⟩ = some (.string s)
  fz : ∀ o, w.frozen? ⟨g, o, none⟩ = false
section
variable {w w' : World} {g R : Nat} {f t p : Int} {s : ByteArray}
theorem PBf.mv (h : PBf w g f t p s) (m : Mv R w w') (hg : g ≠ R) : PBf w' g f t p s :=
  have q := fun o => m.cell g o h.lt hg
  ⟨Nat.lt_of_lt_of_le h.lt m.size, (q _).trans h.c0, (q _).trans h.c1, (q _).trans h.c2, (q _).trans h.c3, fun o => (m.frozen g o h.lt hg).trans (h.fz o)⟩
theorem PBf.later (h : PBf w g f t p s) (hb : Below w.heap.size w w') : PBf w' g f t p s :=
  have q := fun o => (bcell hb).1 g o h.lt
  ⟨Nat.lt_of_lt_of_le h.lt hb.size, (q _).trans h.c0, (q _).trans h.c1, (q _).trans h.c2, (q _).trans h.c3, fun o => ((bcell hb).2 g o h.lt).trans (h.fz o)⟩
theorem PBf.new (w : World) (f t p : Int) (s : ByteArray) (ty : TypeId) : PBf (w.alloc (.cells #[.int .i64 f, .int .i64 t, .int .i64 p, .string s] ty)) w.heap.size f t p s := ⟨by simp, by go_simp, by go_simp, by go_simp, by go_simp, fun o => by go_simp⟩
theorem PBf.set0 (f' : Int) (h : PBf w g f t p s) : PBf (w.setCell ⟨g, 0, none⟩ (.int .i64 f')) g f' t p s := by
  obtain ⟨l0, p0, p1, p2, p3, pf⟩ := h
  exact ⟨by simpa using l0, by go_simp, by go_simp, by go_simp, by go_simp, fun o => by go_simp⟩
theorem PBf.set1 (f' : Int) (h : PBf w g f t p s) : PBf (w.setCell ⟨g, 1, none⟩ (.int .i64 f')) g f f' p s := by
  obtain ⟨l0, p0, p1, p2, p3, pf⟩ := h
  exact ⟨by simpa using l0, by go_simp, by go_simp, by go_simp, by go_simp, fun o => by go_simp⟩
theorem PBf.set2 (f' : Int) (h : PBf w g f t p s) : PBf (w.setCell ⟨g, 2, none⟩ (.int .i64 f')) g f t f' s := by
  obtain ⟨l0, p0, p1, p2, p3, pf⟩ := h
  exact ⟨by simpa using l0, by go_simp, by go_simp, by go_simp, by go_simp, fun o => by go_simp⟩
theorem PBf.set3 (f' : ByteArray) (h : PBf w g f t p s) : PBf (w.setCell ⟨g, 3, none⟩ (.string f')) g f t p f' := by
  obtain ⟨l0, p0, p1, p2, p3, pf⟩ := h
  exact ⟨by simpa using l0, by go_simp, by go_simp, by go_simp, by go_simp, fun o => by go_simp⟩
end
/-- What lies where while a packet is read. -/
structure RdS (w W : World) (gs gp : Nat) (r : ByteArray) (v : Value) (f t p : Int) (s : ByteArray) : Prop where
  sat : Sat W gs r v
  pk : PBf W gp f t p s
  res : PBf W w.heap.size 0 0 0 ⟨#[]⟩
  bel : Below w.heap.size w W
  n1 : gs ≠ gp
  n2 : gs ≠ w.heap.size
  n3 : gp ≠ w.heap.size
  n4 : w.heap.size ≤ gs
  n5 : w.heap.size ≤ gp
section
variable {w W W' : World} {gs gp : Nat} {r r' : ByteArray} {v v' : Value} {f t p : Int} {s : ByteArray}
theorem RdS.read (h : RdS w W gs gp r v f t p s) (m : Mv gs W W') (h' : Sat W' gs r' v') : RdS w W' gs gp r' v' f t p s :=
  ⟨h', h.pk.mv m (Ne.symm h.n1), h.res.mv m (Ne.symm h.n2), h.bel.trans (m.below h.bel.size h.n4), h.n1, h.n2, h.n3, h.n4, h.n5⟩
theorem RdS.later (h : RdS w W gs gp r v f t p s) (hb : Below W.heap.size W W') : RdS w W' gs gp r v f t p s :=
  ⟨h.sat.later hb, h.pk.later hb, h.res.later hb, below_later h.bel hb, h.n1, h.n2, h.n3, h.n4, h.n5⟩
theorem RdS.put (h : RdS w W gs gp r v f t p s) (o : Nat) (u : Value) {f' t' p' : Int} {s' : ByteArray} (h' : PBf (W.setCell ⟨gp, o, none⟩ u) gp f' t' p' s') : RdS w (W.setCell ⟨gp, o, none⟩ u) gs gp r v f' t' p' s' :=
  ⟨h.sat.mv (Mv.setg gp o W u) h.n1, h', h.res.mv (Mv.setg gp o W u) (Ne.symm h.n3), h.bel.setCell h.n5 _, h.n1, h.n2, h.n3, h.n4, h.n5⟩
end
theorem RdS.new (w : World) (x : ByteArray) (t1 t2 t3 : TypeId) :
    RdS w (((w.alloc (.cells #[.int .i64 0, .int .i64 0, .int .i64 0, .string ⟨#[]⟩] t1)).alloc (.cells #[.string x, .nilIface] t2)).alloc (.cells #[.int .i64 0, .int .i64 0, .int .i64 0, .string ⟨#[]⟩] t3)) (w.heap.size + 1) (w.heap.size + 1 + 1) x .nilIface 0 0 0 ⟨#[]⟩ := by
  refine ⟨?_, ?_, ?_, by go_grown, by omega, by omega, by omega, by omega, by omega⟩
  · have h := Sat.new (w.alloc (.cells #[.int .i64 0, .int .i64 0, .int .i64 0, .string ⟨#[]⟩] t1)) x .nilIface t2
    have := h.later (below_box _ (.cells #[.int .i64 0, .int .i64 0, .int .i64 0, .string ⟨#[]⟩] t3))
    simpa using this
  · have h := PBf.new ((w.alloc (.cells #[.int .i64 0, .int .i64 0, .int .i64 0, .string ⟨#[]⟩] t1)).alloc (.cells #[.string x, .nilIface] t2)) 0 0 0 ⟨#[]⟩ t3
    simpa using h
  · exact ((PBf.new w 0 0 0 ⟨#[]⟩ t1).later (below_box _ _)).later (below_box _ _)
theorem pc_size {n : Nat} {r r' x : ByteArray} {b b' : Bool} (h : Pc n r r' b b' x) (hr : r.size ≤ 1048576) : r'.size ≤ 1048576 := Nat.le_trans h.size.1 hr
theorem num_small {n : Nat} {r r' x : ByteArray} {b b' : Bool} (h : Pc n r r' b b' x) (hn : n ≤ 4) : num (bl x) < 4294967296 := by
  have h1 := num_lt x.size (bl x) (bl_len x)
  have h2 := h.size.2.2
  have h3 : 256 ^ x.size ≤ 256 ^ 4 := Nat.pow_le_pow_right (by omega) (by omega)
  omega
set_option maxHeartbeats 4000000 in
set_option maxRecDepth 100000 in
theorem packetOf_any (x : ByteArray) (w : World) (hx : x.size ≤ 1048576) :
    Calls Tryd.prog 39 #[.string x] w fun e w' => PkP x w e w' := by
  have hS := RdS.new w x 30 90 30
  go_enter Tryd.func39, Tryd.ntmps39
  go_wp2_with fail
  have HX := hid_in hx
  have S0 := hid_in hS
  clear hS hx
  generalize (((w.alloc (.cells #[.int .i64 0, .int .i64 0, .int .i64 0, .string ⟨#[]⟩] 30)).alloc (.cells #[.string x, .nilIface] 90)).alloc (.cells #[.int .i64 0, .int .i64 0, .int .i64 0, .string ⟨#[]⟩] 30)) = W0 at *
  generalize w.heap.size + 1 + 1 = gp at *
  generalize w.heap.size + 1 = gs at *
  refine (number_any gs 4 x false _ _ S0.out.sat rfl HX.out (by omega)).mono ?_
  rintro e w1 ⟨x1, r1, b1, v1, rfl, q1, s1, V1, m1⟩
  have S1 := hid_in (S0.out.read m1 s1); have Q1 := hid_in q1; have E1 := hid_in V1; have Z1 := hid_in (pc_size q1 HX.out)
  clear q1 s1 V1 m1 S0
  obtain ⟨_, k0, k1, k2, k3, kf⟩ := S1.out.pk
  go_wp2_with fail
  have S2 := hid_in (S1.out.put 0 _ (S1.out.pk.set0 ((num (bl x1) : Nat) : Int)))
  clear S1 k0 k1 k2 k3 kf
  generalize (w1.setCell ⟨gp, 0, none⟩ (.int .i64 ((num (bl x1) : Nat) : Int))) = W2 at *
  refine (number_any gs 4 r1 b1 _ _ S2.out.sat E1.out Z1.out (by omega)).mono ?_
  rintro e w3 ⟨x2, r2, b2, v2, rfl, q2, s2, V2, m2⟩
  have S3 := hid_in (S2.out.read m2 s2); have Q2 := hid_in q2; have E2 := hid_in V2; have Z2 := hid_in (pc_size q2 Z1.out)
  clear q2 s2 V2 m2 S2
  obtain ⟨_, k0, k1, k2, k3, kf⟩ := S3.out.pk
  go_wp2_with fail
  have S4 := hid_in (S3.out.put 1 _ (S3.out.pk.set1 ((num (bl x2) : Nat) : Int)))
  clear S3 k0 k1 k2 k3 kf
  generalize (w3.setCell ⟨gp, 1, none⟩ (.int .i64 ((num (bl x2) : Nat) : Int))) = W4 at *
  refine (number_any gs 2 r2 b2 _ _ S4.out.sat E2.out Z2.out (by omega)).mono ?_
  rintro e w5 ⟨x3, r3, b3, v3, rfl, q3, s3, V3, m3⟩
  have S5 := hid_in (S4.out.read m3 s3); have Q3 := hid_in q3; have E3 := hid_in V3; have Z3 := hid_in (pc_size q3 Z2.out)
  clear q3 s3 V3 m3 S4
  obtain ⟨_, k0, k1, k2, k3, kf⟩ := S5.out.pk
  go_wp2_with fail
  have S6 := hid_in (S5.out.put 2 _ (S5.out.pk.set2 ((num (bl x3) : Nat) : Int)))
  clear S5 k0 k1 k2 k3 kf
  generalize (w5.setCell ⟨gp, 2, none⟩ (.int .i64 ((num (bl x3) : Nat) : Int))) = W6 at *
  refine (number_any gs 1 r3 b3 _ _ S6.out.sat E3.out Z3.out (by omega)).mono ?_
  rintro e w7 ⟨x4, r4, b4, v4, rfl, q4, s4, V4, m4⟩
  have S7 := hid_in (S6.out.read m4 s4); have Q4 := hid_in q4; have E4 := hid_in V4; have Z4 := hid_in (pc_size q4 Z3.out)
  have hn4 := num_lt x4.size (bl x4) (bl_len x4)
  have hn5 : 256 ^ x4.size ≤ 256 ^ 1 := Nat.pow_le_pow_right (by omega) q4.size.2.2
  have HN := hid_in (show num (bl x4) ≤ 255 by omega)
  clear q4 s4 V4 m4 S6 hn4 hn5
  go_wp2_with fail
  refine (piece_any gs (num (bl x4)) r4 b4 _ _ S7.out.sat E4.out Z4.out (by have := HN.out; omega)).mono ?_
  rintro e w8 ⟨s, r5, b5, v5, rfl, q5, s5, V5, m5⟩
  have S8 := hid_in (S7.out.read m5 s5); have Q5 := hid_in q5; have E5 := hid_in V5; have Z5 := hid_in (pc_size q5 Z4.out)
  clear q5 s5 V5 m5 S7
  obtain ⟨_, k0, k1, k2, k3, kf⟩ := S8.out.pk
  obtain ⟨_, j0, j1, jf⟩ := S8.out.sat
  have hne := S8.out.n1
  have S9 := hid_in (S8.out.put 3 _ (S8.out.pk.set3 s))
  have PK : Hid (∀ b, b = (b5 || decide (r5.size ≠ 0) || !pokB (num (bl x1) : Nat) (num (bl x2) : Nat) (num (bl x3) : Nat) s) → PkOf x b (num (bl x1) : Nat) (num (bl x2) : Nat) (num (bl x3) : Nat) s) :=
    fun b hb => ⟨x1, x2, x3, x4, r1, r2, r3, r4, r5, b1, b2, b3, b4, b5, Q1.out, Q2.out, Q3.out, Q4.out, Q5.out, rfl, rfl, rfl, hb⟩
  clear S8 Q1 Q2 Q3 Q4 Q5 Z1 Z2 Z3 Z4 E1 E2 E3 E4
  by_cases h5 : r5.size = 0
  · have hr5 : r5 = ⟨#[]⟩ := by
      apply bl_inj
      have := bl_len r5
      rw [h5] at this
      rw [List.length_eq_zero_iff.1 this]; rfl
    have H5 := hid_in h5
    subst hr5
    obtain ⟨c, hc⟩ : ∃ c, pokB (num (bl x1) : Nat) (num (bl x2) : Nat) (num (bl x3) : Nat) s = c := ⟨_, rfl⟩
    have HC := hid_in hc
    clear hc h5
    go_wp2_with fail
    refine (packetOkI _ _ _ s _ c HC.out).mono ?_
    rintro e w9 ⟨rfl, hb9⟩
    replace S9 := hid_in (S9.out.later hb9)
    clear hb9 k0 k1 k2 k3 kf j0 j1 jf
    cases c
    · go_wp2_with fail
      refine (refuse_any gs _ _ b5 v5 _ S9.out.sat E5.out).mono ?_
      rintro e w10 ⟨rfl, ⟨v6, s6, V6⟩, m6⟩
      replace S9 := hid_in (S9.out.read m6 s6)
      clear s6 m6
      obtain ⟨_, k0, k1, k2, k3, kf⟩ := S9.out.pk
      obtain ⟨hlt, i0, i1, i2, i3, if_⟩ := S9.out.res
      obtain ⟨_, j0, j1, jf⟩ := S9.out.sat
      have n3 := S9.out.n3
      have n2 := S9.out.n2
      go_wp2_with fail
      go_region
      go_wp2_with fail
      refine bodyPost_ret (v := .tuple #[.agg #[.int .i64 ((num (bl x1) : Nat) : Int), .int .i64 ((num (bl x2) : Nat) : Int), .int .i64 ((num (bl x3) : Nat) : Int), .string s], v6]) (by simp [results, Tryd.results39, go_sem, i0, i1, i2, i3, hlt]) rfl ?_
      refine ⟨_, _, _, _, _, true, rfl, V6, PK.out true (by rw [HC.out]; simp), ?_⟩
      exact (((((S9.out.bel.setCell (Nat.le_refl _) _).setCell (Nat.le_refl _) _).setCell (Nat.le_refl _) _).setCell (Nat.le_refl _) _)).drew
    · have HV : ∃ v, v = v5 := ⟨_, rfl⟩
      obtain ⟨_, k0, k1, k2, k3, kf⟩ := S9.out.pk
      obtain ⟨hlt, i0, i1, i2, i3, if_⟩ := S9.out.res
      obtain ⟨_, j0, j1, jf⟩ := S9.out.sat
      have n3 := S9.out.n3
      have n2 := S9.out.n2
      go_wp2_with fail
      go_region
      go_wp2_with fail
      refine bodyPost_ret (v := .tuple #[.agg #[.int .i64 ((num (bl x1) : Nat) : Int), .int .i64 ((num (bl x2) : Nat) : Int), .int .i64 ((num (bl x3) : Nat) : Int), .string s], v5]) (by simp [results, Tryd.results39, go_sem, i0, i1, i2, i3, hlt]) rfl ?_
      refine ⟨_, _, _, _, _, b5, rfl, E5.out, PK.out b5 (by rw [HC.out, H5.out]; simp), ?_⟩
      exact (((((S9.out.bel.setCell (Nat.le_refl _) _).setCell (Nat.le_refl _) _).setCell (Nat.le_refl _) _).setCell (Nat.le_refl _) _)).drew
  · have hemp := str_some h5
    have H5 := hid_in h5
    clear h5
    go_wp2_with fail
    refine (refuse_any gs _ _ b5 v5 _ S9.out.sat E5.out).mono ?_
    rintro e w10 ⟨rfl, ⟨v6, s6, V6⟩, m6⟩
    replace S9 := hid_in (S9.out.read m6 s6)
    clear s6 m6 k0 k1 k2 k3 kf j0 j1 jf
    obtain ⟨_, k0, k1, k2, k3, kf⟩ := S9.out.pk
    obtain ⟨hlt, i0, i1, i2, i3, if_⟩ := S9.out.res
    obtain ⟨_, j0, j1, jf⟩ := S9.out.sat
    have n3 := S9.out.n3
    have n2 := S9.out.n2
    go_wp2_with fail
    go_region
    go_wp2_with fail
    refine bodyPost_ret (v := .tuple #[.agg #[.int .i64 ((num (bl x1) : Nat) : Int), .int .i64 ((num (bl x2) : Nat) : Int), .int .i64 ((num (bl x3) : Nat) : Int), .string s], v6]) (by simp [results, Tryd.results39, go_sem, i0, i1, i2, i3, hlt]) rfl ?_
    refine ⟨_, _, _, _, _, true, rfl, V6, PK.out true (by simp [H5.out]), ?_⟩
    exact (((((S9.out.bel.setCell (Nat.le_refl _) _).setCell (Nat.le_refl _) _).setCell (Nat.le_refl _) _).setCell (Nat.le_refl _) _)).drew
end Go.Proofs.YtgolcjlogokbiaaDoor
