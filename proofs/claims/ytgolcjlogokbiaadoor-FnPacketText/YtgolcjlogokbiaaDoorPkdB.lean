/- Packets drawn. The conditions stand at each theorem. -/
import Derived.Test.YtgolcjlogokbiaaDoorPkdA
import Derived.Test.YtgolcjlogokbiaaDoorPkgA
namespace Go.Proofs.YtgolcjlogokbiaaDoor
open Go.RowKit Go.LatT Go.BlockM Go.PlainAid Go.OpnT Go.RegE Go.ApdG Go.BytM
set_option linter.unusedVariables false
set_option linter.unusedSimpArgs false
/-- Texts of packets. -/
def pkS (u : ByteArray) : List ByteArray := [⟨#[]⟩, ⟨#[97]⟩, ⟨#[104, 101, 108, 108, 111]⟩, ⟨#[115, 105, 120, 116, 101, 101, 110, 32, 98, 121, 116, 101, 115, 46, 46, 46]⟩, u]
theorem pkS_size {u x : ByteArray} (hu : u.size ≤ 40) (h : x ∈ pkS u) : x.size ≤ 40 := by
  simp only [pkS, List.mem_cons, List.not_mem_nil, or_false] at h
  rcases h with rfl | rfl | rfl | rfl | rfl
  · decide
  · decide
  · decide
  · decide
  · exact hu
theorem poke4 {w w' : World} {R : Nat} {sl : Value} {p q : Int} (h : Rdr w R sl p) (h' : Rdr w' R sl q) (m : Mv R w w') (v0 v1 v2 v3 : Value) :
    Rdr ((((w'.setCell ⟨w.heap.size, 0, none⟩ v0).setCell ⟨w.heap.size, 1, none⟩ v1).setCell ⟨w.heap.size, 2, none⟩ v2).setCell ⟨w.heap.size, 3, none⟩ v3) R sl q ∧
    Mv R w ((((w'.setCell ⟨w.heap.size, 0, none⟩ v0).setCell ⟨w.heap.size, 1, none⟩ v1).setCell ⟨w.heap.size, 2, none⟩ v2).setCell ⟨w.heap.size, 3, none⟩ v3) := by
  have r1 := h.poke (o := 0) h' m (Nat.le_refl _) v0
  have m1 := m.poke (o := 0) (Nat.le_refl _) v0
  have r2 := h.poke (o := 1) r1 m1 (Nat.le_refl _) v1
  have m2 := m1.poke (o := 1) (Nat.le_refl _) v1
  have r3 := h.poke (o := 2) r2 m2 (Nat.le_refl _) v2
  have m3 := m2.poke (o := 2) (Nat.le_refl _) v2
  exact ⟨h.poke (o := 3) r3 m3 (Nat.le_refl _) v3, m3.poke (o := 3) (Nat.le_refl _) v3⟩
set_option maxHeartbeats 2000000 in
set_option maxRecDepth 100000 in
theorem l12Packet_any (R : Nat) (sl : Value) (p : Int) (w : World) (h : Rdr w R sl p) (hp : 0 ≤ p) (hp' : p ≤ 900000) :
    Calls Tryd.prog 46 #[.pointer (some ⟨R, 0, none⟩)] w fun e w' => PkdP R sl p w e w' := by
  have hlt := h.lt
  have H := hid_in (h.later (below_box w (.cells #[.int .i64 0, .int .i64 0, .int .i64 0, .string ⟨#[]⟩] 30)))
  have M0 : Hid (Mv R w (w.alloc (.cells #[.int .i64 0, .int .i64 0, .int .i64 0, .string ⟨#[]⟩] 30))) := Mv.of_below (below_box w _)
  have B0 := hid_in (PBf.new w 0 0 0 ⟨#[]⟩ 30)
  have H0 := hid_in h
  clear h
  go_enter Tryd.func46, Tryd.ntmps46
  go_wp2_with fail
  generalize (w.alloc (.cells #[.int .i64 0, .int .i64 0, .int .i64 0, .string ⟨#[]⟩] 30)) = W0 at *
  refine (l12Call_any R sl p _ H.out (by omega) (by omega)).mono ?_
  rintro e w1 ⟨f, t, o, rfl, hf, ht, ho, ⟨q1, c1, d1, h1⟩, m1⟩
  have H1 := hid_in (h1.later (below_box w1 (.cells #[.int .i64 f, .int .i64 t, .int .i64 o] 67)))
  have M1 := hid_in ((M0.out.trans m1).trans (Mv.of_below (below_box w1 (.cells #[.int .i64 f, .int .i64 t, .int .i64 o] 67))))
  have B1 := hid_in ((B0.out.mv m1 (by omega)).later (below_box w1 (.cells #[.int .i64 f, .int .i64 t, .int .i64 o] 67)))
  have C1 := hid_in (CBf.new w1 f t o 67)
  have hz1 := m1.size
  have hz2 := B0.out.lt
  clear h1 m1 H M0 B0
  go_wp2_with fail
  generalize hW : (w1.alloc (.cells #[.int .i64 f, .int .i64 t, .int .i64 o] 67)) = W1 at *
  clear hW
  have hgc : w.heap.size < w1.heap.size := by omega
  have hR2 : w1.heap.size ≠ R := by omega
  have hne : w1.heap.size ≠ w.heap.size := by omega
  have hne' : w.heap.size ≠ w1.heap.size := by omega
  generalize w1.heap.size = gc at *
  obtain ⟨u, hu⟩ : ∃ u : ByteArray, u = ⟨(rep (bl ⟨#[120]⟩) 40).toArray⟩ := ⟨_, rfl⟩
  have huz : u.size ≤ 40 := by rw [hu]; decide
  have LM := fun w => l1Many_any ⟨#[120]⟩ 40 w (by decide) (by decide) (by decide)
  rw [← hu] at LM
  have HLM := hid_in LM
  clear LM hu
  obtain ⟨_, k0, k1, k2, kf⟩ := C1.out
  obtain ⟨_, i0, i1, i2, i3, if_⟩ := B1.out
  go_region_held3 (fun w' => w'.cell? ⟨gc, 0, none⟩ = some (.int .i64 f) ∧ w'.cell? ⟨gc, 1, none⟩ = some (.int .i64 t) ∧ w'.cell? ⟨gc, 2, none⟩ = some (.int .i64 o)) (first | go_keep | (refine ⟨?_, ?_, ?_⟩ <;> go_simp)) (first | (go_at_call 34; refine (HLM.out _).mono ?_; rintro e w8 ⟨rfl, rfl⟩) | (go_at_call 55; refine (ofN R sl _ (pkS u) 5 _ _ _ rfl rfl (by exact Rdr.later H1.out ((Below.refl _ _).drew)) (by omega) (by omega) (by simp [pkS]) (by simp [pkS])).mono ?_; rintro e w3 ⟨u3, rfl, hu3, h3, m3⟩; have n3 : Mv R W1 w3 := (Mv.of_below ((Below.refl _ _).drew)).trans m3; have C3 := C1.out.mv n3 hR2; have B3 := B1.out.mv n3 (Nat.ne_of_gt hlt); obtain ⟨_, y0, y1, y2, yf⟩ := C3; have hs3 := pkS_size huz hu3; have N3 := hid_in n3; have R3 := hid_in h3; have BB := hid_in B3; obtain ⟨b9, b0, b1, b2, b3, bf⟩ := B3; clear n3 h3 m3 hu3))
  go_wp2_with fail
  have Q := poke4 H0.out R3.out (M1.out.trans N3.out) (.int .i64 f) (.int .i64 t) (.int .i64 o) (.string u3)
  exact bodyPost_ret (v := .agg #[.int .i64 f, .int .i64 t, .int .i64 o, .string u3]) (by simp [results, Tryd.results46, go_sem, b0, b1, b2, b3, b9]) rfl ⟨f, t, o, u3, rfl, hf, ht, ho, hs3, ⟨_, by omega, by omega, Q.1⟩, Q.2⟩
/-- What drawing any packet answers. -/
def AnyP (R : Nat) (sl : Value) (w : World) (e : Ending) (w' : World) : Prop :=
  ∃ (f t o : Int) (s : ByteArray), e = .returned (.agg #[.int .i64 f, .int .i64 t, .int .i64 o, .string s]) ∧ s.size ≤ 41 ∧ Mv R w w'
set_option maxHeartbeats 2000000 in
set_option maxRecDepth 100000 in
theorem l12AnyPacket_any (R : Nat) (sl : Value) (p : Int) (w : World) (h : Rdr w R sl p) (hp : 0 ≤ p) (hp' : p ≤ 900000) :
    Calls Tryd.prog 41 #[.pointer (some ⟨R, 0, none⟩)] w fun e w' => AnyP R sl w e w' := by
  have hlt := h.lt
  have H := hid_in (h.later (below_box w (.cells #[.int .i64 0, .int .i64 0, .int .i64 0, .string ⟨#[]⟩] 30)))
  have M0 : Hid (Mv R w (w.alloc (.cells #[.int .i64 0, .int .i64 0, .int .i64 0, .string ⟨#[]⟩] 30))) := Mv.of_below (below_box w _)
  have B0 := hid_in (PBf.new w 0 0 0 ⟨#[]⟩ 30)
  have H0 := hid_in h
  clear h
  go_enter Tryd.func41, Tryd.ntmps41
  go_wp2_with fail
  generalize (w.alloc (.cells #[.int .i64 0, .int .i64 0, .int .i64 0, .string ⟨#[]⟩] 30)) = W0 at *
  refine (l12Packet_any R sl p _ H.out (by omega) (by omega)).mono ?_
  rintro e w1 ⟨f, t, o, s, rfl, hf, ht, ho, hs, ⟨q1, c1, d1, h1⟩, m1⟩
  have H1 := hid_in (h1.later (below_box w1 (.cells #[.int .i64 f, .int .i64 t, .int .i64 o, .string s] 30)))
  have M1 := hid_in ((M0.out.trans m1).trans (Mv.of_below (below_box w1 (.cells #[.int .i64 f, .int .i64 t, .int .i64 o, .string s] 30))))
  have B1 := hid_in ((B0.out.mv m1 (by omega)).later (below_box w1 (.cells #[.int .i64 f, .int .i64 t, .int .i64 o, .string s] 30)))
  have P1 := hid_in (PBf.new w1 f t o s 30)
  have hz1 := m1.size
  have hz2 := B0.out.lt
  clear h1 m1 H M0 B0
  go_wp2_with fail
  generalize hW : (w1.alloc (.cells #[.int .i64 f, .int .i64 t, .int .i64 o, .string s] 30)) = W1 at *
  clear hW
  have hgc : w.heap.size ≤ w1.heap.size := by omega
  have hR2 : w1.heap.size ≠ R := by omega
  have hne : w1.heap.size ≠ w.heap.size := by omega
  have hne' : w.heap.size ≠ w1.heap.size := by omega
  generalize w1.heap.size = gc at *
  refine (pickM R sl q1 16 _ H1.out (by omega) (by omega) (by omega) (by omega)).mono ?_
  rintro e w2 ⟨u2, rfl, a2, b2, h2, m2⟩
  have H2 := hid_in h2; have M2 := hid_in (M1.out.trans m2); have B2 := hid_in (B1.out.mv m2 (by omega)); have P2 := hid_in (P1.out.mv m2 hR2)
  clear h2 m2 H1 M1 B1 P1
  by_cases hu0 : u2 = 0
  · subst hu0
    go_wp2_with fail
    refine (l12AnyAddr_any R sl _ _ H2.out (by omega) (by omega)).mono ?_
    rintro e w3 ⟨u3, rfl, _, _, _, m3⟩
    have M3 := hid_in (M2.out.trans m3); have B3 := B2.out.mv m3 (Nat.ne_of_gt hlt); have P3 := P2.out.mv m3 hR2
    clear m3
    obtain ⟨b9, i0, i1, i2, i3, if_⟩ := B3
    obtain ⟨_, k0, k1, k2, k3, kf⟩ := P3
    go_wp2_with fail
    refine bodyPost_ret (v := .agg #[.int .i64 u3, .int .i64 t, .int .i64 o, .string s]) (by simp [results, Tryd.results41, go_sem, i0, i1, i2, i3, b9]) rfl ⟨u3, t, o, s, rfl, by omega, ?_⟩
    exact ((((M3.out.poke hgc _).poke (Nat.le_refl _) _).poke (Nat.le_refl _) _).poke (Nat.le_refl _) _).poke (Nat.le_refl _) _
  · have hu0' : (u2 == 0) = false := by simpa using hu0
    by_cases hu1 : u2 = 1
    · subst hu1
      clear hu0 hu0'
      go_wp2_with fail
      refine (oneN R sl _ [-1, 65536] 2 _ 3 w2 rfl rfl H2.out (by omega) (by omega) (by simp) (by simp)).mono ?_
      rintro e w3 ⟨u3, rfl, _, _, m3⟩
      have M3 := hid_in (M2.out.trans m3); have B3 := B2.out.mv m3 (Nat.ne_of_gt hlt); have P3 := P2.out.mv m3 hR2
      clear m3
      obtain ⟨b9, i0, i1, i2, i3, if_⟩ := B3
      obtain ⟨_, k0, k1, k2, k3, kf⟩ := P3
      go_wp2_with fail
      refine bodyPost_ret (v := .agg #[.int .i64 f, .int .i64 t, .int .i64 u3, .string s]) (by simp [results, Tryd.results41, go_sem, i0, i1, i2, i3, b9]) rfl ⟨f, t, u3, s, rfl, by omega, ?_⟩
      exact ((((M3.out.poke hgc _).poke (Nat.le_refl _) _).poke (Nat.le_refl _) _).poke (Nat.le_refl _) _).poke (Nat.le_refl _) _
    · have hu1' : (u2 == 1) = false := by simpa using hu1
      by_cases hu2 : u2 = 2
      · subst hu2
        clear hu0 hu0' hu1 hu1'
        go_wp2_with fail
        refine (pickM R sl _ 2 _ H2.out (by omega) (by omega) (by omega) (by omega)).mono ?_
        rintro e w3 ⟨u3, rfl, a3, b3, _, m3⟩
        have M3 := hid_in (M2.out.trans m3); have B3 := hid_in (B2.out.mv m3 (Nat.ne_of_gt hlt)); have P3 := hid_in (P2.out.mv m3 hR2)
        clear m3
        obtain ⟨n, rfl⟩ := Int.eq_ofNat_of_zero_le a3
        obtain ⟨m, hm⟩ : ∃ m, 40 + n = m := ⟨_, rfl⟩
        have e40 : (40 : Int) + (n : Int) = (m : Int) := by omega
        have hm2 : m ≤ 41 := by omega
        clear hm
        go_wp2_with fail
        refine (l1Many_any ⟨#[121]⟩ m _ (by show 1 * m ≤ 1000000; omega) (by decide) (by omega)).mono ?_
        rintro e w4 ⟨rfl, rfl⟩
        have hsz : (⟨(rep (bl ⟨#[121]⟩) m).toArray⟩ : ByteArray).size ≤ 41 := by
          show (rep (bl ⟨#[121]⟩) m).length ≤ 41
          rw [rep_len]
          show m * 1 ≤ 41
          omega
        generalize (⟨(rep (bl ⟨#[121]⟩) m).toArray⟩ : ByteArray) = s' at *
        obtain ⟨b9, i0, i1, i2, i3, if_⟩ := B3.out
        obtain ⟨_, k0, k1, k2, k3, kf⟩ := P3.out
        go_wp2_with fail
        refine bodyPost_ret (v := .agg #[.int .i64 f, .int .i64 t, .int .i64 o, .string s']) (by simp [results, Tryd.results41, go_sem, i0, i1, i2, i3, b9]) rfl ⟨f, t, o, s', rfl, hsz, ?_⟩
        exact ((((M3.out.poke hgc _).poke (Nat.le_refl _) _).poke (Nat.le_refl _) _).poke (Nat.le_refl _) _).poke (Nat.le_refl _) _
      · have hu2' : (u2 == 2) = false := by simpa using hu2
        obtain ⟨b9, i0, i1, i2, i3, if_⟩ := B2.out
        obtain ⟨_, k0, k1, k2, k3, kf⟩ := P2.out
        go_wp2_with fail
        refine bodyPost_ret (v := .agg #[.int .i64 f, .int .i64 t, .int .i64 o, .string s]) (by simp [results, Tryd.results41, go_sem, i0, i1, i2, i3, b9]) rfl ⟨f, t, o, s, rfl, by omega, ?_⟩
        exact (((M2.out.poke (Nat.le_refl _) _).poke (Nat.le_refl _) _).poke (Nat.le_refl _) _).poke (Nat.le_refl _) _
end Go.Proofs.YtgolcjlogokbiaaDoor
