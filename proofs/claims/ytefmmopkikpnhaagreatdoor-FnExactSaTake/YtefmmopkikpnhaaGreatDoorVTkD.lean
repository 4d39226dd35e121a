/- What is proved: the contracts of TakD, one behind the other. The conditions stand at each theorem. -/
import Derived.Test.YtefmmopkikpnhaaGreatDoorVTkC
namespace Go.Proofs.YtefmmopkikpnhaaGreatDoor
open Go.RowKit Go.LatT Go.BlockM Go.PlainAid Go.OpnT Go.ApdG Go.BytM Go.AesM Go.RowQ Go.WinMath
set_option linter.unusedVariables false
set_option linter.unusedSimpArgs false
theorem wok_LE {t : Int} {len : Nat} {E : Nat → Int} (h : WOk t len E) : WOk t (LE E len).length (gE (LE E len)) := by
  have hl : (LE E len).length = len := by simp [LE]
  have hg : ∀ i, i < len → gE (LE E len) i = E i := fun i hi => by simp [gE, LE, hi]
  rw [hl]
  rcases h with ⟨h1, h2⟩ | ⟨h1, h2, h3, h4⟩
  · exact .inl ⟨h1, h2⟩
  · refine .inr ⟨h1, fun i hi hb => h2 i hi ?_, by rw [hg _ (by omega)]; exact h3, h4⟩
    unfold wBad at hb ⊢
    rw [hg i hi] at hb
    rcases hb with hb | hb | ⟨hb1, hb2⟩
    · exact .inl hb
    · exact .inr (.inl hb)
    · exact .inr (.inr ⟨hb1, by rw [hg (i - 1) (by omega)] at hb2; exact hb2⟩)
theorem wokG_rep {t : Int} {L : List Int} (h : WOk t L.length (gE L)) : ∃ c, Rep t c L := by
  obtain ⟨c, hc⟩ := wok_rep h
  rw [LE_gE] at hc
  exact ⟨c, hc⟩
theorem wokG_len {t : Int} {L : List Int} (h : WOk t L.length (gE L)) : L.length ≤ 100 := by
  obtain ⟨c, hc⟩ := wokG_rep h
  have := repW_len hc
  omega
set_option maxHeartbeats 2000000 in
set_option maxRecDepth 100000 in
theorem kdone_take (g base : Nat) (x : SaV) (a : Option Addr) (cap : Nat) (L : List Int) (now : Int) (t : ByteArray) (w : World) (hK : GK w) (hE : ErrT w) (hg : 2 < g) (hB : SaBox w g x (.slice a L.length cap)) (hO : w.ownsRow base 3 1 (.slice a L.length cap) L.length (i64s L)) (hn : (Value.slice a L.length cap).ownBlock ≠ some g) (hbw : base ≤ w.heap.size) (hT : Ints w a L.length (gE L)) (hx : saB x = true) (hw : WOk x.top L.length (gE L)) (ht : t.size ≤ 1048576) (hk : x.key.size ≤ 1048576) (hm : x.mac.size ≤ 1048576) :
    Calls Tryz.prog 68 #[.pointer (some ⟨g, 0, none⟩), .func (.func 74) #[.pointer (some ⟨g, 0, none⟩)] #[], .int .i64 now, .string t] w fun e w' => ∃ v, e = .returned (.tuple #[vSv (tkX x L now t) v, .string (tkT x L now t), .int .i64 (tkK x L now t)]) ∧ w'.ownsRow base 3 1 v (tkL x L now t).length (i64s (tkL x L now t)) ∧ Mv g w w' := by
  have hl := wokG_len hw
  have hl2 : L.length ≤ 1048576 := by omega
  have HB := hid_in hB; have HT := hid_in hT; have HK := hid_in hK; have HX := hid_in hx; have HW := hid_in hw; have HO := hid_in hO; have HE := hid_in hE
  have KS : Hid (∀ W, GK W → ErrT W → SaBox W g x (.slice a L.length cap) → W.ownsRow base 3 1 (.slice a L.length cap) L.length (i64s L) → base ≤ W.heap.size → Calls Tryz.prog 74 #[.pointer (some ⟨g, 0, none⟩), .int .i64 now, .string t] W (TkB g base (.slice a L.length cap) x L now t W)) := fun W k er B O b => ktake_any g base x a cap L now t W k er hg B O hn b hl hx ht hw hk hm
  unfold TkB at KS
  generalize tkX x L now t = X at *
  generalize tkT x L now t = T at *
  generalize tkK x L now t = K at *
  generalize tkL x L now t = M at *
  clear hB hT hx hw hK hO hE
  go_enter Tryz.func68, Tryz.ntmps68
  go_wp2_with fail
  refine (kok_any g x a L.length cap (gE L) _ (HB.out.later (below_box _ _)) (HT.out.later (below_box _ _)) hl2).mono ?_
  rintro e w1 ⟨u, rfl, hu, hb1⟩
  obtain rfl : u = true := hu.2 ⟨HX.out, HW.out⟩
  have Z1 := hid_in (below_later (below_box w _) hb1)
  have B1 := hid_in ((HB.out.later (below_box _ _)).later hb1)
  have S1 := hid_in (SaBox.later (SaBox.new w zeroSa (.slice none 0 0) 45) hb1)
  have hgw := HB.out.lt
  have hz1 := Z1.out.size
  obtain ⟨l0, p0, p1, p2, p3, p4, p5, p6, p7, p8, p9, p10, pf⟩ := S1.out
  clear hu hb1
  go_wp2_with fail
  refine (KS.out _ (HK.out.below Z1.out HK.out.lt) (HE.out.later Z1.out) B1.out (owns_below HO.out Z1.out) (by omega)).mono ?_
  rintro e w2 ⟨v2, rfl, hb2, o2, m2, n2, n3⟩
  obtain ⟨a2, c2, rfl⟩ := owns_form o2
  have N3 := hid_in n3
  have hz4 : w.heap.size + 1 ≤ w1.heap.size := S1.out.lt
  have B2 := hid_in hb2; have O2 := hid_in o2
  have S2 := hid_in (S1.out.mv m2 (show w.heap.size ≠ g by omega))
  have M2 := hid_in ((Mv.of_below (R := g) Z1.out).trans m2)
  clear l0 p0 p1 p2 p3 p4 p5 p6 p7 p8 p9 p10 pf hb2 m2 B1 S1 o2 KS n3
  obtain ⟨l0, p0, p1, p2, p3, p4, p5, p6, p7, p8, p9, p10, pf⟩ := B2.out
  obtain ⟨r0, q0, q1, q2, q3, q4, q5, q6, q7, q8, q9, q10, qf⟩ := S2.out
  have NR : Hid ((Value.slice a2 M.length c2).ownBlock ≠ some w.heap.size) := fun h => by
    rcases N3.out with e | e
    · have := (owns_own HO.out _ (e.symm.trans h)).2; omega
    · have := e _ h; omega
  go_wp2_with (exact bodyPost_ret (v := .tuple #[vSv X (.slice a2 M.length c2), .string T, .int .i64 K]) (by
    have X4 := SaBox.put S2.out X (.slice a2 M.length c2)
    simp only [putSa] at X4
    obtain ⟨_, d0, d1, d2, d3, d4, d5, d6, d7, d8, d9, d10, _⟩ := X4
    simp [results, Tryz.results68, go_sem, d0, d1, d2, d3, d4, d5, d6, d7, d8, d9, d10]) rfl ⟨_, rfl, owns_putSa O2.out NR.out X (.slice a2 M.length c2), mv_putSa M2.out (Nat.le_refl _) X (.slice a2 M.length c2)⟩)
set_option maxHeartbeats 2000000 in
set_option maxRecDepth 100000 in
theorem saTakeI_no (x : SaV) (a : Option Addr) (len cap : Nat) (E : Nat → Int) (now : Int) (t : ByteArray) (w : World) (hK : GK w) (hT : Ints w a len E) (hl : len ≤ 1048576) (hk : x.key.size ≤ 1048576) (hm : x.mac.size ≤ 1048576) (hno : ¬ (saB x = true ∧ WOk x.top len E)) :
    Calls Tryz.prog 32 #[vSa x a len cap, .int .i64 now, .string t] w (SaAns zeroSa [] ⟨#[]⟩ 1 w) := by
  have NO := hid_in hno
  clear hno
  have HT := hid_in hT; have HK := hid_in hK
  have hgk := hK.lt
  clear hT hK
  have R0 := hid_in (SaBox.newAt (w.alloc (.cells #[.int .i64 x.spi, .int .i64 x.tun, .string x.key, .string x.mac, .int .i64 x.since, .int .i64 x.soft, .int .i64 x.hard, .int .i64 x.ticks, .int .i64 x.sent, .int .i64 x.top, .slice a len cap] 45)) zeroSa (.slice none 0 0) 45 (w.heap.size + 1) (by simp))
  go_enter Tryz.func32, Tryz.ntmps32
  go_wp2_with fail
  refine (keysOf_any x a len cap E _ (HT.out.later (by go_grown)) hl hk hm).mono ?_
  rintro e w1 ⟨g, v', rfl, hg, hB, ho, hq, hb1⟩
  obtain ⟨a', c', rfl⟩ := owns_form ho
  have B1 := hid_in hB; have O1 : Hid (w1.ownsRow (w.heap.size + 1 + 1) 3 1 (.slice a' len c') len (i64s (LE E len))) := by show World.ownsRow _ _ _ _ _ _ _; have h := ho; simpa using h
  have T1 := hid_in (owns_ints ho)
  have Z1 : Hid (Below w.heap.size w w1) := below_later (by go_grown) hb1
  have R1 := hid_in (R0.out.later hb1)
  have hg2 : w.heap.size + 1 + 1 ≤ g := by simpa using hg
  have HQ := hid_in hq
  clear hB ho hb1 hq hg R0
  have F := hid_in (kdone_no g x a' len c' E (.func (.func 74) #[.pointer (some ⟨g, 0, none⟩)] #[]) now t w1 B1.out T1.out hl NO.out)
  obtain ⟨l0, p0, p1, p2, p3, p4, p5, p6, p7, p8, p9, p10, pf⟩ := R1.out
  go_wp2_with fail
  refine F.out.mono ?_
  rintro e w2 ⟨rfl, hb2⟩
  have R2 := hid_in (R1.out.later hb2); have Z2 := hid_in (below_later Z1.out hb2)
  clear l0 p0 p1 p2 p3 p4 p5 p6 p7 p8 p9 p10 pf hb2 R1 Z1 B1 O1 T1
  obtain ⟨l0, p0, p1, p2, p3, p4, p5, p6, p7, p8, p9, p10, pf⟩ := R2.out
  go_wp2_with (exact bodyPost_ret (v := .tuple #[vSv zeroSa (.slice none 0 0), .string ⟨#[]⟩, .int .i64 1]) (by
    have X4 := SaBox.put R2.out zeroSa (.slice none 0 0)
    simp only [putSa] at X4
    obtain ⟨_, d0, d1, d2, d3, d4, d5, d6, d7, d8, d9, d10, _⟩ := X4
    simp [results, Tryz.results32, go_sem, d0, d1, d2, d3, d4, d5, d6, d7, d8, d9, d10]) rfl ⟨_, rfl, World.ownsRow_nil _ _ _ _, below_putSa Z2.out (show w.heap.size ≤ w.heap.size + 1 by omega) zeroSa (.slice none 0 0)⟩)
set_option maxHeartbeats 2000000 in
set_option maxRecDepth 100000 in
theorem saTakeI_yes (x : SaV) (a : Option Addr) (len cap : Nat) (E : Nat → Int) (now : Int) (t : ByteArray) (w : World) (hK : GK w) (hE : ErrT w) (hT : Ints w a len E) (hl : len ≤ 1048576) (hk : x.key.size ≤ 1048576) (hm : x.mac.size ≤ 1048576) (ht : t.size ≤ 1048576) (hx : saB x = true) (hw : WOk x.top len E) :
    Calls Tryz.prog 32 #[vSa x a len cap, .int .i64 now, .string t] w (takP x (LE E len) now t w) := by
  have HE := hid_in hE
  clear hE
  have hLE : (LE E len).length = len := by simp [LE]
  have KD : Hid (∀ g base a' c' W, GK W → ErrT W → 2 < g → SaBox W g x (.slice a' len c') → W.ownsRow base 3 1 (.slice a' len c') len (i64s (LE E len)) → (Value.slice a' len c').ownBlock ≠ some g → base ≤ W.heap.size → Ints W a' len (gE (LE E len)) →
      Calls Tryz.prog 68 #[.pointer (some ⟨g, 0, none⟩), .func (.func 74) #[.pointer (some ⟨g, 0, none⟩)] #[], .int .i64 now, .string t] W fun e w' => ∃ v, e = .returned (.tuple #[vSv (tkX x (LE E len) now t) v, .string (tkT x (LE E len) now t), .int .i64 (tkK x (LE E len) now t)]) ∧ w'.ownsRow base 3 1 v (tkL x (LE E len) now t).length (i64s (tkL x (LE E len) now t)) ∧ Mv g W w') := by
    intro g base a' c' W k er hg B O n b T
    have := kdone_take g base x a' c' (LE E len) now t W k er hg (by rw [hLE]; exact B) (by rw [hLE]; exact O) (by rw [hLE]; exact n) b (by rw [hLE]; exact T) hx (wok_LE hw) ht hk hm
    exact this
  have HG := hid_in (fun i (hi : i < len) => show gE (LE E len) i = E i by simp [gE, LE, hi])
  clear hx hw hLE
  unfold takP
  generalize tkX x (LE E len) now t = X at *
  generalize tkT x (LE E len) now t = T at *
  generalize tkK x (LE E len) now t = K at *
  generalize tkL x (LE E len) now t = M at *
  have HT := hid_in hT; have HK := hid_in hK
  have hgk := hK.lt
  clear hT hK
  have R0 := hid_in (SaBox.newAt (w.alloc (.cells #[.int .i64 x.spi, .int .i64 x.tun, .string x.key, .string x.mac, .int .i64 x.since, .int .i64 x.soft, .int .i64 x.hard, .int .i64 x.ticks, .int .i64 x.sent, .int .i64 x.top, .slice a len cap] 45)) zeroSa (.slice none 0 0) 45 (w.heap.size + 1) (by simp))
  go_enter Tryz.func32, Tryz.ntmps32
  go_wp2_with fail
  refine (keysOf_any x a len cap E _ (HT.out.later (by go_grown)) hl hk hm).mono ?_
  rintro e w1 ⟨g, v', rfl, hg, hB, ho, hq, hb1⟩
  obtain ⟨a', c', rfl⟩ := owns_form ho
  have B1 := hid_in hB; have O1 : Hid (w1.ownsRow (w.heap.size + 1 + 1) 3 1 (.slice a' len c') len (i64s (LE E len))) := by show World.ownsRow _ _ _ _ _ _ _; have h := ho; simpa using h
  have T1 := hid_in (owns_ints ho)
  have Z1 : Hid (Below w.heap.size w w1) := below_later (by go_grown) hb1
  have R1 := hid_in (R0.out.later hb1)
  have hg2 : w.heap.size + 1 + 1 ≤ g := by simpa using hg
  have HQ := hid_in hq
  clear hB ho hb1 hq hg R0
  have T1' : Ints w1 a' len (gE (LE E len)) := by
    have h := T1.out
    rcases h with h | ⟨bb, off, e, h1, h2⟩
    · exact .inl h
    · exact .inr ⟨bb, off, e, h1, fun i hi => by rw [HG.out i hi]; exact h2 i hi⟩
  have hz1 := Z1.out.size
  have s1 := R1.out.lt
  have F := hid_in (KD.out g (w.heap.size + 1 + 1) a' c' w1 (HK.out.below Z1.out HK.out.lt) (HE.out.later Z1.out) (by omega) B1.out O1.out (fun h => by have := HQ.out g h; omega) (by omega) T1')
  obtain ⟨l0, p0, p1, p2, p3, p4, p5, p6, p7, p8, p9, p10, pf⟩ := R1.out
  go_wp2_with fail
  refine F.out.mono ?_
  rintro e w2 ⟨v2, rfl, o2, m2⟩
  obtain ⟨a2, c2, rfl⟩ := owns_form o2
  have R2 := hid_in (R1.out.mv m2 (show w.heap.size + 1 ≠ g by omega)); have Z2 := hid_in ((Z1.out.trans (m2.below Z1.out.size (show w.heap.size ≤ g by omega))))
  have O2 := hid_in o2
  have NB := hid_in (show (Value.slice a2 M.length c2).ownBlock ≠ some (w.heap.size + 1) from fun h => by have := (owns_own O2.out _ h).1; omega)
  clear l0 p0 p1 p2 p3 p4 p5 p6 p7 p8 p9 p10 pf m2 R1 Z1 B1 O1 T1 o2 F KD
  obtain ⟨l0, p0, p1, p2, p3, p4, p5, p6, p7, p8, p9, p10, pf⟩ := R2.out
  go_wp2_with (exact bodyPost_ret (v := .tuple #[vSv X (.slice a2 M.length c2), .string T, .int .i64 K]) (by
    have X4 := SaBox.put R2.out X (.slice a2 M.length c2)
    simp only [putSa] at X4
    obtain ⟨_, d0, d1, d2, d3, d4, d5, d6, d7, d8, d9, d10, _⟩ := X4
    simp [results, Tryz.results32, go_sem, d0, d1, d2, d3, d4, d5, d6, d7, d8, d9, d10]) rfl ⟨_, rfl, ownsW_base (owns_putSa O2.out NB.out X (.slice a2 M.length c2)) (by omega), below_putSa Z2.out (show w.heap.size ≤ w.heap.size + 1 by omega) X (.slice a2 M.length c2)⟩)
/-- What SaTake answers. -/
def tX (u : Bool) (x : SaV) (E : Nat → Int) (len : Nat) (now : Int) (t : ByteArray) : SaV := if u then tkX x (LE E len) now t else zeroSa
def tL (u : Bool) (x : SaV) (E : Nat → Int) (len : Nat) (now : Int) (t : ByteArray) : List Int := if u then tkL x (LE E len) now t else []
def tT (u : Bool) (x : SaV) (E : Nat → Int) (len : Nat) (now : Int) (t : ByteArray) : ByteArray := if u then tkT x (LE E len) now t else ⟨#[]⟩
def tK (u : Bool) (x : SaV) (E : Nat → Int) (len : Nat) (now : Int) (t : ByteArray) : Int := if u then tkK x (LE E len) now t else 1
theorem tL_len {x : SaV} {E : Nat → Int} {len : Nat} {now : Int} {t : ByteArray} {u : Bool} (hl : len ≤ 1048576) (hu : u = true ↔ saB x = true ∧ WOk x.top len E) : (tL u x E len now t).length ≤ 1048576 := by
  unfold tL
  split
  · rename_i h
    obtain ⟨_, hw⟩ := hu.1 h
    unfold tkL
    split
    · obtain ⟨c, hc⟩ := wok_rep hw
      have := (listL_len (n := fhN t 4 8) hc).1
      omega
    · simp [LE]; omega
  · simp
theorem saTakeI (x : SaV) (a : Option Addr) (len cap : Nat) (E : Nat → Int) (now : Int) (t : ByteArray) (w : World) (hK : GK w) (hE : ErrT w) (hT : Ints w a len E) (hl : len ≤ 1048576) (hk : x.key.size ≤ 1048576) (hm : x.mac.size ≤ 1048576) (ht : t.size ≤ 1048576) (u : Bool) (hu : u = true ↔ saB x = true ∧ WOk x.top len E) :
    Calls Tryz.prog 32 #[vSa x a len cap, .int .i64 now, .string t] w (SaAns (tX u x E len now t) (tL u x E len now t) (tT u x E len now t) (tK u x E len now t) w) := by
  cases u
  · exact saTakeI_no x a len cap E now t w hK hT hl hk hm (fun h => by have := hu.2 h; cases this)
  · obtain ⟨hx, hw⟩ := hu.1 rfl
    exact saTakeI_yes x a len cap E now t w hK hE hT hl hk hm ht hx hw
end Go.Proofs.YtefmmopkikpnhaaGreatDoor

