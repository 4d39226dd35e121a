/- What is proved: the contracts of SadA, one behind the other. The conditions stand at each theorem. -/
import Derived.Test.YtefmmopkikpnhaaGreatDoorGSnH
import Derived.Test.YtefmmopkikpnhaaGreatDoorGFdA
import Derived.Test.YtefmmopkikpnhaaGreatDoorGDrx
import Derived.Test.YtefmmopkikpnhaaGreatDoorGFrA
namespace Go.Proofs.YtefmmopkikpnhaaGreatDoor
open Go.RowKit Go.LatT Go.BlockM Go.PlainAid Go.OpnT Go.ApdG Go.BytM Go.AesM Go.RowQ Go.WinMath
set_option linter.unusedVariables false
set_option linter.unusedSimpArgs false
theorem Rdr.mkS {w X0 X : World} {R : Nat} {sl : Value} {p q : Int} (h0 : Rdr w R sl p) (hx : Rdr X0 R sl q) (mX : Mv R w X) (he : X.heap[R]? = X0.heap[R]?) : Rdr X R sl q := by
  have c : ∀ o, X.cell? ⟨R, o, none⟩ = X0.cell? ⟨R, o, none⟩ := fun o => by unfold World.cell?; rw [he]
  have f : ∀ o, X.frozen? ⟨R, o, none⟩ = X0.frozen? ⟨R, o, none⟩ := fun o => by unfold World.frozen?; rw [he]
  exact ⟨by rw [c]; exact hx.c0, by rw [c]; exact hx.c1, by rw [f]; exact hx.fz, h0.src_of mX⟩
theorem heap_putSa (w : World) (R g : Nat) (X : SaV) (v : Value) (h : R ≠ g) : (putSa w g X v).heap[R]? = w.heap[R]? := by
  unfold putSa
  iterate 11 rw [heap_setCell_other _ _ _ _ h]
/-- New keys that are drawn. -/
def NewSa (x : SaV) (now : Int) : Prop := saB x = true ∧ x.top = 0 ∧ x.since = now ∧ x.key.size = 16 ∧ x.mac.size ≤ 3 ∧ x.hard ≤ 34 ∧ x.ticks ≤ 9
set_option maxHeartbeats 2000000 in
set_option maxRecDepth 100000 in
theorem l12Sa_any (R : Nat) (sl : Value) (p now : Int) (w : World) (h : Rdr w R sl p) (hp : 0 ≤ p) (hp' : p ≤ 900000) (hn : 0 ≤ now) (hn' : now ≤ 1000) :
    Calls Tryz.prog 173 #[.pointer (some ⟨R, 0, none⟩), .int .i64 now] w fun e w' => ∃ x : SaV, e = .returned (vSv x (.slice none 0 0)) ∧ NewSa x now ∧ Rdr w' R sl (p + 1 + 1 + 1 + 1 + 1 + 1 + 1) ∧ Mv R w w' := by
  have hlt := h.lt
  have H0 := hid_in (h.later (below_box w (.cells #[.int .i64 0, .int .i64 0, .string ⟨#[]⟩, .string ⟨#[]⟩, .int .i64 0, .int .i64 0, .int .i64 0, .int .i64 0, .int .i64 0, .int .i64 0, .slice none 0 0] 45)))
  have M0 := hid_in (Mv.of_below (R := R) (below_box w (.cells #[.int .i64 0, .int .i64 0, .string ⟨#[]⟩, .string ⟨#[]⟩, .int .i64 0, .int .i64 0, .int .i64 0, .int .i64 0, .int .i64 0, .int .i64 0, .slice none 0 0] 45)))
  have S0 := hid_in (SaBox.new w zeroSa (.slice none 0 0) 45)
  have HH := hid_in h
  clear h
  go_enter Tryz.func173, Tryz.ntmps173
  go_wp2_with fail
  refine (pickM R sl p 9 _ H0.out (by omega) (by omega) (by omega) (by omega)).mono ?_
  rintro e w1 ⟨u1, rfl, a1, b1, h1, m1⟩
  have H1 := hid_in h1; have M1 := hid_in (M0.out.trans m1); have S1 := hid_in (S0.out.mv m1 (by omega)); clear h1 m1 H0 M0 S0
  go_wp2_with fail
  refine (pickM R sl _ 2 _ H1.out (by omega) (by omega) (by omega) (by omega)).mono ?_
  rintro e w2 ⟨u2, rfl, a2, b2, h2, m2⟩
  have H2 := hid_in h2; have M2 := hid_in (M1.out.trans m2); have S2 := hid_in (S1.out.mv m2 (by omega)); clear h2 m2 H1 M1 S1
  go_wp2_with fail
  refine (ofN R sl _ [⟨#[107]⟩, ⟨#[113]⟩] 2 _ _ w2 rfl rfl H2.out (by omega) (by omega) (by simp) (by simp)).mono ?_
  rintro e w3 ⟨u3, rfl, hu3, h3, m3⟩
  have H3 := hid_in h3; have M3 := hid_in (M2.out.trans m3); have S3 := hid_in (S2.out.mv m3 (by omega)); clear h3 m3 H2 M2 S2
  have z3 : u3.size = 1 := by simp at hu3; rcases hu3 with rfl | rfl <;> rfl
  go_wp2_with fail
  refine (l1Many_any u3 16 _ (by omega) (by omega) (by omega)).mono ?_
  rintro e w4 ⟨rfl, rfl⟩
  have zk : (⟨(rep (bl u3) 16).toArray⟩ : ByteArray).size = 16 := by show (Array.size _) = _; rw [List.size_toArray, rep_len, bl_len, z3]
  have ZK := hid_in zk
  generalize (⟨(rep (bl u3) 16).toArray⟩ : ByteArray) = key at *
  clear zk z3 hu3
  go_wp2_with fail
  refine (ofN R sl _ [⟨#[109, 97, 99]⟩, ⟨#[109]⟩] 2 _ _ _ rfl rfl H3.out (by omega) (by omega) (by simp) (by simp)).mono ?_
  rintro e w5 ⟨mac, rfl, hu5, h5, m5⟩
  have H5 := hid_in h5; have M5 := hid_in (M3.out.trans m5); have S5 := hid_in (S3.out.mv m5 (by omega)); clear h5 m5 H3 M3 S3
  have ZM : Hid (1 ≤ mac.size ∧ mac.size ≤ 3) := by show _ ∧ _; simp at hu5; rcases hu5 with rfl | rfl <;> exact ⟨by decide, by decide⟩
  clear hu5
  go_wp2_with fail
  refine (pickM R sl _ 4 _ H5.out (by omega) (by omega) (by omega) (by omega)).mono ?_
  rintro e w6 ⟨u6, rfl, a6, b6, h6, m6⟩
  have H6 := hid_in h6; have M6 := hid_in (M5.out.trans m6); have S6 := hid_in (S5.out.mv m6 (by omega)); clear h6 m6 H5 M5 S5
  go_wp2_with fail
  refine (pickM R sl _ 30 _ H6.out (by omega) (by omega) (by omega) (by omega)).mono ?_
  rintro e w7 ⟨u7, rfl, a7, b7, h7, m7⟩
  have H7 := hid_in h7; have M7 := hid_in (M6.out.trans m7); have S7 := hid_in (S6.out.mv m7 (by omega)); clear h7 m7 H6 M6 S6
  go_wp2_with fail
  refine (pickM R sl _ 9 _ H7.out (by omega) (by omega) (by omega) (by omega)).mono ?_
  rintro e w8 ⟨u8, rfl, a8, b8, h8, m8⟩
  have H8 := hid_in h8; have M8 := hid_in (M7.out.trans m8); have S8 := hid_in (S7.out.mv m8 (by omega)); clear h8 m8 H7 M7 S7
  have NS : Hid (NewSa ⟨1 + u1, u2, key, mac, now, 1 + u6, 5 + u7, 1 + u8, 0, 0⟩ now) := by
    show _ ∧ _
    have := ZK.out; have := ZM.out
    refine ⟨?_, rfl, rfl, ZK.out, ZM.out.2, by show 5 + u7 ≤ 34; omega, by show 1 + u8 ≤ 9; omega⟩
    unfold saB keysB inB
    simp only [Bool.and_eq_true, decide_eq_true_eq]
    omega
  obtain ⟨l0, p0, p1, p2, p3, p4, p5, p6, p7, p8, p9, p10, pf⟩ := S8.out
  have B9 := hid_in (SaBox.put S8.out ⟨1 + u1, u2, key, mac, now, 1 + u6, 5 + u7, 1 + u8, 0, 0⟩ (.slice none 0 0))
  have M9 := hid_in (mv_putSa M8.out (Nat.le_refl _) ⟨1 + u1, u2, key, mac, now, 1 + u6, 5 + u7, 1 + u8, 0, 0⟩ (.slice none 0 0))
  have H9 : Hid (Rdr (putSa w8 w.heap.size ⟨1 + u1, u2, key, mac, now, 1 + u6, 5 + u7, 1 + u8, 0, 0⟩ (.slice none 0 0)) R sl (p + 1 + 1 + 1 + 1 + 1 + 1 + 1)) := by
    show Rdr _ _ _ _
    exact HH.out.mkS H8.out M9.out (heap_putSa w8 R w.heap.size ⟨1 + u1, u2, key, mac, now, 1 + u6, 5 + u7, 1 + u8, 0, 0⟩ (.slice none 0 0) (by omega))
  go_wp2_with (exact bodyPost_ret (v := vSv ⟨1 + u1, u2, key, mac, now, 1 + u6, 5 + u7, 1 + u8, 0, 0⟩ (.slice none 0 0)) (by
    have X4 := B9.out
    simp only [putSa] at X4
    obtain ⟨_, d0, d1, d2, d3, d4, d5, d6, d7, d8, d9, d10, _⟩ := X4
    simp [results, Tryz.results173, go_sem, d0, d1, d2, d3, d4, d5, d6, d7, d8, d9, d10]) rfl ⟨⟨1 + u1, u2, key, mac, now, 1 + u6, 5 + u7, 1 + u8, 0, 0⟩, rfl, NS.out, H9.out, M9.out⟩)
end Go.Proofs.YtefmmopkikpnhaaGreatDoor

