/- What is proved: the contracts of SndD, one behind the other. The conditions stand at each theorem. -/
import Derived.Test.YtefmmopkikpnhaaGreatDoorGSnB
namespace Go.Proofs.YtefmmopkikpnhaaGreatDoor
open Go.RowKit Go.LatT Go.BlockM Go.PlainAid Go.OpnT Go.ApdG Go.BytM Go.AesM Go.RowQ Go.WinMath
set_option linter.unusedVariables false
set_option linter.unusedSimpArgs false
theorem SaBox.mv {w w' : World} {g r : Nat} {x : SaV} {v : Value} (h : SaBox w r x v) (m : Mv g w w') (hne : r ≠ g) : SaBox w' r x v :=
  have q := fun o => m.cell r o h.lt hne
  ⟨Nat.lt_of_lt_of_le h.lt m.size, (q _).trans h.c0, (q _).trans h.c1, (q _).trans h.c2, (q _).trans h.c3, (q _).trans h.c4, (q _).trans h.c5, (q _).trans h.c6, (q _).trans h.c7, (q _).trans h.c8, (q _).trans h.c9, (q _).trans h.c10, fun o => (m.frozen r o h.lt hne).trans (h.f o)⟩
theorem owns_mvS {w w' : World} {R base size n : Nat} {e : TypeId} {v : Value} {xs : List Value} (h : w.ownsRow base e size v n xs) (hm : Mv R w w') (hr : ∀ k, v.ownBlock = some k → k ≠ R) : w'.ownsRow base e size v n xs := by
  have hlt := fun k hk => (owns_own h k hk).2
  obtain ⟨h1, h2⟩ := h
  refine ⟨h1, ?_⟩
  rcases h2 with h2 | ⟨g, cap, cur, e1, e2, e3, e4⟩
  · exact .inl h2
  · exact .inr ⟨g, cap, cur, e1, e2, by rw [hm.block g (hlt g (by rw [e1]; rfl)) (hr g (by rw [e1]; rfl))]; exact e3, e4⟩
theorem mv_cell2 {g k o : Nat} {w w' : World} {u : Value} (h : Mv g w w') (hk : w.heap.size ≤ k) : Mv g w (w'.setCell ⟨k, o, none⟩ u) :=
  ⟨h.os, h.tape, h.output, by simpa using h.size, fun j hj hne => (heap_setCell_other w' ⟨k, o, none⟩ j u (show j ≠ k by omega)).trans (h.block j hj hne)⟩
theorem mv_putSa {g k : Nat} {w w' : World} (h : Mv g w w') (hk : w.heap.size ≤ k) (X : SaV) (v : Value) : Mv g w (putSa w' k X v) := by
  iterate 11 refine mv_cell2 ?_ hk
  exact h
set_option maxHeartbeats 2000000 in
set_option maxRecDepth 100000 in
theorem kdone_send (g : Nat) (x : SaV) (a : Option Addr) (len cap : Nat) (E : Nat → Int) (now : Int) (t : ByteArray) (w : World) (hK : GK w) (hg : 2 < g) (hB : SaBox w g x (.slice a len cap)) (hT : Ints w a len E) (hl : len ≤ 1048576) (hx : saB x = true) (hw : WOk x.top len E) (ht : (t.size : Int) ≤ 9223372036854775807) :
    Calls Tryz.prog 68 #[.pointer (some ⟨g, 0, none⟩), .func (.func 69) #[.pointer (some ⟨g, 0, none⟩)] #[], .int .i64 now, .string t] w fun e w' => e = .returned (.tuple #[vSv (sdX x now t) (.slice a len cap), .string (sdT x now t), .int .i64 (sdK x now t)]) ∧ Mv g w w' := by
  have HB := hid_in hB; have HT := hid_in hT; have HK := hid_in hK; have HX := hid_in hx; have HW := hid_in hw
  have KS := hid_in (fun W (k : GK W) (B : SaBox W g x (.slice a len cap)) => ksend_any g x _ now t W k hg B HX.out ht)
  generalize sdX x now t = X at *
  generalize sdT x now t = T at *
  generalize sdK x now t = K at *
  clear hB hT hx hw hK
  go_enter Tryz.func68, Tryz.ntmps68
  go_wp2_with fail
  refine (kok_any g x a len cap E _ (HB.out.later (below_box _ _)) (HT.out.later (below_box _ _)) hl).mono ?_
  rintro e w1 ⟨u, rfl, hu, hb1⟩
  obtain rfl : u = true := hu.2 ⟨HX.out, HW.out⟩
  have Z1 := hid_in (below_later (below_box w _) hb1)
  have B1 := hid_in ((HB.out.later (below_box _ _)).later hb1)
  have S1 := hid_in (SaBox.later (SaBox.new w zeroSa (.slice none 0 0) 45) hb1)
  have hgw := HB.out.lt
  obtain ⟨l0, p0, p1, p2, p3, p4, p5, p6, p7, p8, p9, p10, pf⟩ := S1.out
  clear hu hb1
  go_wp2_with fail
  refine (KS.out _ (HK.out.below Z1.out HK.out.lt) B1.out).mono ?_
  rintro e w2 ⟨rfl, hb2, m2⟩
  have B2 := hid_in hb2
  have S2 := hid_in (S1.out.mv m2 (show w.heap.size ≠ g by omega))
  have M2 := hid_in ((Mv.of_below (R := g) Z1.out).trans m2)
  clear l0 p0 p1 p2 p3 p4 p5 p6 p7 p8 p9 p10 pf hb2 m2 B1 S1
  obtain ⟨l0, p0, p1, p2, p3, p4, p5, p6, p7, p8, p9, p10, pf⟩ := B2.out
  obtain ⟨r0, q0, q1, q2, q3, q4, q5, q6, q7, q8, q9, q10, qf⟩ := S2.out
  go_wp2_with (exact bodyPost_ret (v := .tuple #[vSv X (.slice a len cap), .string T, .int .i64 K]) (by
    have X4 := SaBox.put S2.out X (.slice a len cap)
    simp only [putSa] at X4
    obtain ⟨_, d0, d1, d2, d3, d4, d5, d6, d7, d8, d9, d10, _⟩ := X4
    simp [results, Tryz.results68, go_sem, d0, d1, d2, d3, d4, d5, d6, d7, d8, d9, d10]) rfl ⟨rfl, mv_putSa M2.out (Nat.le_refl _) X (.slice a len cap)⟩)
set_option maxHeartbeats 2000000 in
set_option maxRecDepth 100000 in
theorem saSendI_yes (x : SaV) (a : Option Addr) (len cap : Nat) (E : Nat → Int) (now : Int) (t : ByteArray) (w : World) (hK : GK w) (hT : Ints w a len E) (hl : len ≤ 1048576) (hk : x.key.size ≤ 1048576) (hm : x.mac.size ≤ 1048576) (ht : (t.size : Int) ≤ 9223372036854775807) (hx : saB x = true) (hw : WOk x.top len E) :
    Calls Tryz.prog 27 #[vSa x a len cap, .int .i64 now, .string t] w (SaAns (sdX x now t) (LE E len) (sdT x now t) (sdK x now t) w) := by
  have KD := hid_in (fun g a' c' W (k : GK W) h1 B T => kdone_send g x a' len c' E now t W k h1 B T hl hx hw ht)
  have hLE : (LE E len).length = len := by simp [LE]
  have HLE := hid_in hLE
  clear hx hw hLE
  generalize sdX x now t = X at *
  generalize sdT x now t = T at *
  generalize sdK x now t = K at *
  have HT := hid_in hT; have HK := hid_in hK
  have hgk := hK.lt
  clear hT hK
  have R0 := hid_in (SaBox.newAt (w.alloc (.cells #[.int .i64 x.spi, .int .i64 x.tun, .string x.key, .string x.mac, .int .i64 x.since, .int .i64 x.soft, .int .i64 x.hard, .int .i64 x.ticks, .int .i64 x.sent, .int .i64 x.top, .slice a len cap] 45)) zeroSa (.slice none 0 0) 45 (w.heap.size + 1) (by simp))
  go_enter Tryz.func27, Tryz.ntmps27
  go_wp2_with fail
  refine (keysOf_any x a len cap E _ (HT.out.later (by go_grown)) hl hk hm).mono ?_
  rintro e w1 ⟨g, v', rfl, hg, hB, ho, hq, hb1⟩
  obtain ⟨a', c', rfl⟩ := owns_form ho
  have B1 := hid_in hB; have O1 : Hid (w1.ownsRow (w.heap.size + 1 + 1) 3 1 (.slice a' len c') len (i64s (LE E len))) := by show World.ownsRow _ _ _ _ _ _ _; have h := ho; simpa using h
  have T1 := hid_in (owns_ints ho)
  have Z1 : Hid (Below w.heap.size w w1) := below_later (by go_grown) hb1
  have R1 := hid_in (R0.out.later hb1)
  have hg2 : w.heap.size + 1 + 1 ≤ g := by simpa using hg
  have HQ := hid_in hq
  clear hB ho hb1 hq hg R0
  have F := hid_in (KD.out g a' c' w1 (HK.out.below Z1.out HK.out.lt) (by omega) B1.out T1.out)
  obtain ⟨l0, p0, p1, p2, p3, p4, p5, p6, p7, p8, p9, p10, pf⟩ := R1.out
  go_wp2_with fail
  refine F.out.mono ?_
  rintro e w2 ⟨rfl, m2⟩
  have R2 := hid_in (R1.out.mv m2 (show w.heap.size + 1 ≠ g by omega)); have Z2 := hid_in (Z1.out.trans (m2.below Z1.out.size (show w.heap.size ≤ g by omega)))
  have O2 := hid_in (owns_mvS O1.out m2 (fun k hk => by have := HQ.out k hk; omega))
  have NB := hid_in (show (Value.slice a' len c').ownBlock ≠ some (w.heap.size + 1) from fun h => by have := (owns_own O2.out _ h).1; omega)
  clear l0 p0 p1 p2 p3 p4 p5 p6 p7 p8 p9 p10 pf m2 R1 Z1 B1 O1 T1
  obtain ⟨l0, p0, p1, p2, p3, p4, p5, p6, p7, p8, p9, p10, pf⟩ := R2.out
  go_wp2_with (exact bodyPost_ret (v := .tuple #[vSv X (.slice a' len c'), .string T, .int .i64 K]) (by
    have X4 := SaBox.put R2.out X (.slice a' len c')
    simp only [putSa] at X4
    obtain ⟨_, d0, d1, d2, d3, d4, d5, d6, d7, d8, d9, d10, _⟩ := X4
    simp [results, Tryz.results27, go_sem, d0, d1, d2, d3, d4, d5, d6, d7, d8, d9, d10]) rfl ⟨_, rfl, by rw [HLE.out]; exact ownsW_base (owns_putSa O2.out NB.out X (.slice a' len c')) (by omega), below_putSa Z2.out (show w.heap.size ≤ w.heap.size + 1 by omega) X (.slice a' len c')⟩)
end Go.Proofs.YtefmmopkikpnhaaGreatDoor

