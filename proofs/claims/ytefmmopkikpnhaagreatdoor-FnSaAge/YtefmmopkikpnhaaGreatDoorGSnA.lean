/- What is proved: the contracts of SndA, one behind the other. The conditions stand at each theorem. -/
import Derived.Test.YtefmmopkikpnhaaGreatDoorGSaD
import Derived.Test.YtefmmopkikpnhaaGreatDoorGWnC
import Derived.Test.YtefmmopkikpnhaaGreatDoorGFrE
import Derived.Test.YtefmmopkikpnhaaGreatDoorGAeC
namespace Go.Proofs.YtefmmopkikpnhaaGreatDoor
open Go.RowKit Go.LatT Go.BlockM Go.PlainAid Go.OpnT Go.ApdG Go.BytM Go.AesM Go.RowQ Go.WinMath
set_option linter.unusedVariables false
set_option linter.unusedSimpArgs false
/-- Keys as a value, with what came. -/
@[reducible] def vSv (x : SaV) (v : Value) : Value :=
  .agg #[.int .i64 x.spi, .int .i64 x.tun, .string x.key, .string x.mac, .int .i64 x.since, .int .i64 x.soft, .int .i64 x.hard, .int .i64 x.ticks, .int .i64 x.sent, .int .i64 x.top, v]
/-- What keys that do something answer: keys, a text and a code, in memory of their own. -/
def SaAns (X : SaV) (L : List Int) (T : ByteArray) (K : Int) (w : World) (e : Ending) (w' : World) : Prop :=
  ∃ v, e = .returned (.tuple #[vSv X v, .string T, .int .i64 K]) ∧ w'.ownsRow w.heap.size 3 1 v L.length (i64s L) ∧ Below w.heap.size w w'
/-- Keys behind one more frame. -/
@[reducible] def moreS (x : SaV) : SaV := ⟨x.spi, x.tun, x.key, x.mac, x.since, x.soft, x.hard, x.ticks, x.sent + 1, x.top⟩
def nbT (n many : Nat) : ByteArray := ⟨(be many n).toArray⟩
theorem nbT_size (n many : Nat) : (nbT n many).size = many := by show (be many n).toArray.size = _; rw [List.size_toArray, be_len]
/-- How the frame of a number begins. -/
def bgnT (x : SaV) (seq : Nat) : ByteArray := putT x.key (nbT x.spi.toNat 8 ++ nbT seq 8)
theorem bgnT_size {x : SaV} {seq : Nat} (h : x.key.size = 16) : (bgnT x seq).size = 16 := by
  unfold bgnT putT
  rw [if_pos ⟨h, by rw [ByteArray.size_append, nbT_size, nbT_size]⟩, txt_size]
/-- The code of sending. -/
def sdK (x : SaV) (now : Int) (t : ByteArray) : Int := if 51 < t.size then 1 else if ageV x now = 3 then 3 else 0
def sdX (x : SaV) (now : Int) (t : ByteArray) : SaV := if sdK x now t = 0 then moreS x else x
def sdT (x : SaV) (now : Int) (t : ByteArray) : ByteArray := if sdK x now t = 0 then frmT x.key x.mac x.spi.toNat (x.sent + 1).toNat (bgnT x (x.sent + 1).toNat) t else ⟨#[]⟩
theorem saB_all {x : SaV} (h : saB x = true) : 1 ≤ x.spi ∧ x.spi ≤ 999 ∧ keysB x.key x.mac = true ∧ 0 ≤ x.since ∧ x.since ≤ 1000000 ∧ 1 ≤ x.ticks ∧ x.ticks ≤ 1000000 ∧ 0 ≤ x.sent ∧ x.sent ≤ x.hard ∧ x.hard ≤ 1000000 ∧ 1 ≤ x.soft ∧ x.soft ≤ x.hard ∧ 0 ≤ x.tun ∧ x.tun ≤ 3 := by
  unfold saB at h
  simp only [Bool.and_eq_true] at h
  obtain ⟨⟨⟨⟨⟨⟨⟨h1, h2⟩, h3⟩, h4⟩, h5⟩, h6⟩, h7⟩, h8⟩ := h
  simp only [inB, Bool.and_eq_true, decide_eq_true_eq] at h1 h2 h4 h5 h6 h7 h8
  exact ⟨h1.1, h1.2, h3, h4.1, h4.2, h7.1, h7.2, h8.1, h8.2, h6.2, h5.1, h5.2, h2.1, h2.2⟩
theorem young_sent {x : SaV} {now : Int} (h : ageV x now ≠ 3) : x.sent < x.hard := by
  unfold ageV at h
  split at h
  · exact absurd rfl h
  · omega
/-- Keys put into a block. -/
@[reducible] def putSa (w : World) (g : Nat) (X : SaV) (v : Value) : World := (World.setCell (World.setCell (World.setCell (World.setCell (World.setCell (World.setCell (World.setCell (World.setCell (World.setCell (World.setCell (World.setCell w ⟨g, 0, none⟩ (.int .i64 X.spi)) ⟨g, 1, none⟩ (.int .i64 X.tun)) ⟨g, 2, none⟩ (.string X.key)) ⟨g, 3, none⟩ (.string X.mac)) ⟨g, 4, none⟩ (.int .i64 X.since)) ⟨g, 5, none⟩ (.int .i64 X.soft)) ⟨g, 6, none⟩ (.int .i64 X.hard)) ⟨g, 7, none⟩ (.int .i64 X.ticks)) ⟨g, 8, none⟩ (.int .i64 X.sent)) ⟨g, 9, none⟩ (.int .i64 X.top)) ⟨g, 10, none⟩ (v))
theorem SaBox.put {w : World} {g : Nat} {x : SaV} {u : Value} (h : SaBox w g x u) (X : SaV) (v : Value) : SaBox (putSa w g X v) g X v := by
  obtain ⟨l0, p0, p1, p2, p3, p4, p5, p6, p7, p8, p9, p10, pf⟩ := h
  exact ⟨by simpa using l0, by go_simp, by go_simp, by go_simp, by go_simp, by go_simp, by go_simp, by go_simp, by go_simp, by go_simp, by go_simp, by go_simp, fun o => by go_simp⟩
theorem below_putSa {B : Nat} {w W : World} {g : Nat} (h : Below B w W) (hg : B ≤ g) (X : SaV) (v : Value) : Below B w (putSa W g X v) := by
  iterate 11 refine Below.setCell ?_ hg _
  exact h
theorem owns_set2 {w : World} {base n size b o : Nat} {e : TypeId} {v u : Value} {xs : List Value} (h : w.ownsRow base e size v n xs) (hb : v.ownBlock ≠ some b) : (w.setCell ⟨b, o, none⟩ u).ownsRow base e size v n xs := by
  obtain ⟨h1, h2⟩ := h
  refine ⟨h1, ?_⟩
  rcases h2 with h2 | ⟨g, cap, cur, e1, e2, e3, e4, e5, e6, e7⟩
  · exact .inl h2
  · have hne : g ≠ b := by rintro rfl; exact hb (by rw [e1]; rfl)
    exact .inr ⟨g, cap, cur, e1, e2, by rw [Below.heap_setCell _ _ _ _ hne]; exact e3, e4, e5, e6, e7⟩
theorem owns_putSa {W : World} {B n size g : Nat} {e : TypeId} {u : Value} {xs : List Value} (h : W.ownsRow B e size u n xs) (hg : u.ownBlock ≠ some g) (X : SaV) (v : Value) : (putSa W g X v).ownsRow B e size u n xs := by
  iterate 11 refine owns_set2 ?_ hg
  exact h
set_option maxHeartbeats 2000000 in
set_option maxRecDepth 100000 in
theorem l9Copy_any (x : SaV) (v : Value) (L : List Int) (w : World) (hL : IL w v L) (hl : L.length ≤ 100) :
    Calls Tryz.prog 113 #[vSv x v] w fun e w' => ∃ v', e = .returned (vSv x v') ∧ w'.ownsRow w.heap.size 3 1 v' L.length (i64s L) ∧ Below w.heap.size w w' := by
  obtain ⟨a, cap, rfl⟩ := hL.form
  have HL := hid_in hL
  clear hL
  have B0 := hid_in (SaBox.new w x (.slice a L.length cap) 45)
  have Z0 := hid_in (below_box w (.cells #[.int .i64 x.spi, .int .i64 x.tun, .string x.key, .string x.mac, .int .i64 x.since, .int .i64 x.soft, .int .i64 x.hard, .int .i64 x.ticks, .int .i64 x.sent, .int .i64 x.top, .slice a L.length cap] 45))
  have B1 := hid_in (SaBox.newAt (w.alloc (.cells #[.int .i64 x.spi, .int .i64 x.tun, .string x.key, .string x.mac, .int .i64 x.since, .int .i64 x.soft, .int .i64 x.hard, .int .i64 x.ticks, .int .i64 x.sent, .int .i64 x.top, .slice a L.length cap] 45)) zeroSa (.slice none 0 0) 45 (w.heap.size + 1) (by simp))
  go_enter Tryz.func113, Tryz.ntmps113
  go_wp2_with fail
  refine (l7Copy_any x.top _ L _ (HL.out.later (by go_grown)) hl).mono ?_
  rintro e w1 ⟨v', rfl, o, hb1⟩
  obtain ⟨a', c', rfl⟩ := owns_form o
  have O := hid_in o
  have P1 := hid_in ((B0.out.later (below_box _ _)).later hb1)
  have P2 := hid_in (B1.out.later hb1)
  have Z1 : Hid (Below w.heap.size w w1) := below_later (by go_grown) hb1
  have OW : Hid (w1.ownsRow (w.heap.size + 1 + 1) 3 1 (.slice a' L.length c') L.length (i64s L)) := by show World.ownsRow _ _ _ _ _ _ _; have h := O.out; simpa using h
  have zz : w.heap.size + 1 + 1 ≤ w1.heap.size := by have := hb1.size; simpa using this
  clear o hb1 O B0 B1 Z0
  obtain ⟨l0, p0, p1, p2, p3, p4, p5, p6, p7, p8, p9, p10, pf⟩ := P1.out
  obtain ⟨r0, q0, q1, q2, q3, q4, q5, q6, q7, q8, q9, q10, qf⟩ := P2.out
  go_wp2_with fail
  have nb : (Value.slice a' L.length c').ownBlock ≠ some w.heap.size := fun h => by have := (owns_own OW.out _ h).1; omega
  have nb1 : (Value.slice a' L.length c').ownBlock ≠ some (w.heap.size + 1) := fun h => by have := (owns_own OW.out _ h).1; omega
  have O3 := hid_in (ownsW_base (owns_putSa (owns_set2 (o := 10) (u := .slice a' L.length c') (owns_set2 (o := 9) (u := .int .i64 x.top) OW.out nb) nb) nb1 x (.slice a' L.length c')) (show w.heap.size ≤ w.heap.size + 1 + 1 by omega))
  have Z3 := hid_in (below_putSa ((Z1.out.setCell (p := ⟨w.heap.size, 9, none⟩) (Nat.le_refl _) (.int .i64 x.top)).setCell (p := ⟨w.heap.size, 10, none⟩) (Nat.le_refl _) (.slice a' L.length c')) (show w.heap.size ≤ w.heap.size + 1 by omega) x (.slice a' L.length c'))
  have X3 : SaBox ((w1.setCell ⟨w.heap.size, 9, none⟩ (.int .i64 x.top)).setCell ⟨w.heap.size, 10, none⟩ (.slice a' L.length c')) (w.heap.size + 1) zeroSa (.slice none 0 0) :=
    ⟨by simpa using r0, by go_simp, by go_simp, by go_simp, by go_simp, by go_simp, by go_simp, by go_simp, by go_simp, by go_simp, by go_simp, by go_simp, fun o => by go_simp⟩
  have X4 := X3.put x (.slice a' L.length c')
  simp only [putSa] at X4
  obtain ⟨_, d0, d1, d2, d3, d4, d5, d6, d7, d8, d9, d10, _⟩ := X4
  clear l0 p0 p1 p2 p3 p4 p5 p6 p7 p8 p9 p10 pf r0 q0 q1 q2 q3 q4 q5 q6 q7 q8 q9 q10 qf X3 nb nb1
  exact bodyPost_ret (v := vSv x (.slice a' L.length c')) (by simp [results, Tryz.results113, go_sem, d0, d1, d2, d3, d4, d5, d6, d7, d8, d9, d10]) rfl ⟨_, rfl, O3.out, Z3.out⟩
set_option maxHeartbeats 2000000 in
set_option maxRecDepth 100000 in
theorem l9Begin_any (x : SaV) (v : Value) (s1 : Int) (w : World) (h0 : 0 ≤ x.spi) (h1 : x.spi ≤ 999) (h2 : 0 ≤ s1) (h3 : s1 ≤ 1000000) (hk : x.key.size = 16) :
    Calls Tryz.prog 114 #[vSv x v, .int .i64 s1] w fun e w' => e = .returned (.string (bgnT x s1.toNat)) ∧ Below w.heap.size w w' := by
  have n1 := Int.toNat_of_nonneg h0
  have n2 := Int.toNat_of_nonneg h2
  have C1 := hid_in (fun W => by have := l8Bytes_any x.spi.toNat 8 W (by omega) (by decide); rw [n1] at this; exact this)
  have C2 := hid_in (fun W => by have := l8Bytes_any s1.toNat 8 W (by omega) (by decide); rw [n2] at this; exact this)
  have z1 := nbT_size x.spi.toNat 8
  have z2 := nbT_size s1.toNat 8
  have C3 := hid_in (fun W => putS x.key (nbT x.spi.toNat 8 ++ nbT s1.toNat 8) W (by omega) (by rw [ByteArray.size_append]; omega))
  rw [show putT x.key (nbT x.spi.toNat 8 ++ nbT s1.toNat 8) = bgnT x s1.toNat from rfl] at C3
  rw [show (⟨(be 8 x.spi.toNat).toArray⟩ : ByteArray) = nbT x.spi.toNat 8 from rfl] at C1
  rw [show (⟨(be 8 s1.toNat).toArray⟩ : ByteArray) = nbT s1.toNat 8 from rfl] at C2
  obtain ⟨l0, p0, p1, p2, p3, p4, p5, p6, p7, p8, p9, p10, pf⟩ := SaBox.new w x v 45
  clear n1 n2 pf
  generalize bgnT x s1.toNat = Bg at *
  generalize nbT x.spi.toNat 8 = N1 at *
  generalize nbT s1.toNat 8 = N2 at *
  go_enter Tryz.func114, Tryz.ntmps114
  go_wp2_with fail
  refine wp_region_lat (Below.refl _ _) (by kernel_rfl) (by kernel_rfl) ?_
  intro hne hcl
  repeat (go_big_quiet_step (first | (go_at_call_of 107 (Value.int .i64 x.spi); exact lat_of (C1.out _)) | (go_at_call_of 107 (Value.int .i64 s1); exact lat_of (C2.out _)) | (go_at_call 165; exact lat_of (C3.out _))))
  refine wpQuiet_nil ?_
  intro w1 hb1
  obtain ⟨hc1, hf1⟩ := bcell hb1
  clear hne hcl
  go_wp2_with fail
  go_ret
  exact ⟨rfl, below_later (below_box w _) hb1⟩
/-- What keys that send answer. -/
def sndP (x : SaV) (L : List Int) (now : Int) (t : ByteArray) (w : World) (e : Ending) (w' : World) : Prop := SaAns (sdX x now t) L (sdT x now t) (sdK x now t) w e w'
theorem sndP_no {x : SaV} {L : List Int} {now : Int} {t : ByteArray} {w w' : World} {v : Value} {k : Int} (hk : sdK x now t = k) (h0 : k ≠ 0) (ho : w'.ownsRow w.heap.size 3 1 v L.length (i64s L)) (hb : Below w.heap.size w w') : sndP x L now t w (.returned (.tuple #[vSv x v, .string ⟨#[]⟩, .int .i64 k])) w' := by
  subst hk
  have e1 : sdX x now t = x := by unfold sdX; rw [if_neg h0]
  have e2 : sdT x now t = ⟨#[]⟩ := by unfold sdT; rw [if_neg h0]
  unfold sndP
  rw [e1, e2]
  exact ⟨v, rfl, ho, hb⟩
end Go.Proofs.YtefmmopkikpnhaaGreatDoor

