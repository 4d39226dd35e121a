/- What is proved: the contracts of SndA, one behind the other. The conditions stand at each theorem. -/
import Derived.Test.YtefmmopkikpnhaaGreatDoorVSaD
import Derived.Test.YtefmmopkikpnhaaGreatDoorVWnC
import Derived.Test.YtefmmopkikpnhaaGreatDoorVFrE
import Derived.Test.YtefmmopkikpnhaaGreatDoorVAeC
namespace Go.Proofs.YtefmmopkikpnhaaGreatDoor
open Go.RowKit Go.LatT Go.BlockM Go.PlainAid Go.OpnT Go.ApdG Go.BytM Go.AesM Go.RowQ Go.WinMath
set_option linter.unusedVariables false
set_option linter.unusedSimpArgs false
/-- Keys as a value, with what came. -/
@[reducible] def vSv (x : SaV) (v : Value) : Value :=
  .agg #[.int .i64 x.spi, .int .i64 x.tun, .string x.key, .string x.mac, .int .i64 x.since, .int .i64 x.soft, .int .i64 x.hard, .int .i64 x.ticks, .int .i64 x.sent, .int .i64 x.top, v]
/-- What keys that do something answer: keys, a text and a code, in memory of their own. -/
def SaAns (X : SaV) (L : List Int) (T : ByteArray) (K : Int) (w : World) (e : Ending) (w' : World) : Prop :=
  ∃ v, e = .returned (.tuple #[vSv X v, .string T, .int .i64 K]) ∧ w'.ownsRow w.heap.size 3 1 v L.length (i64s L) ∧ Below w.heap.size w w'
/-- Keys put into a block. -/
@[reducible] def putSa (w : World) (g : Nat) (X : SaV) (v : Value) : World := (World.setCell (World.setCell (World.setCell (World.setCell (World.setCell (World.setCell (World.setCell (World.setCell (World.setCell (World.setCell (World.setCell w ⟨g, 0, none⟩ (.int .i64 X.spi)) ⟨g, 1, none⟩ (.int .i64 X.tun)) ⟨g, 2, none⟩ (.string X.key)) ⟨g, 3, none⟩ (.string X.mac)) ⟨g, 4, none⟩ (.int .i64 X.since)) ⟨g, 5, none⟩ (.int .i64 X.soft)) ⟨g, 6, none⟩ (.int .i64 X.hard)) ⟨g, 7, none⟩ (.int .i64 X.ticks)) ⟨g, 8, none⟩ (.int .i64 X.sent)) ⟨g, 9, none⟩ (.int .i64 X.top)) ⟨g, 10, none⟩ (v))
theorem SaBox.put {w : World} {g : Nat} {x : SaV} {u : Value} (h : SaBox w g x u) (X : SaV) (v : Value) : SaBox (putSa w g X v) g X v := by
  obtain ⟨l0, p0, p1, p2, p3, p4, p5, p6, p7, p8, p9, p10, pf⟩ := h
  exact ⟨by simpa using l0, by go_simp, by go_simp, by go_simp, by go_simp, by go_simp, by go_simp, by go_simp, by go_simp, by go_simp, by go_simp, by go_simp, fun o => by go_simp⟩
theorem below_putSa {B : Nat} {w W : World} {g : Nat} (h : Below B w W) (hg : B ≤ g) (X : SaV) (v : Value) : Below B w (putSa W g X v) := by
  iterate 11 refine Below.setCell ?_ hg _
  exact h
theorem owns_set2 {w : World} {base n size b o : Nat} {e : TypeId} {v u : Value} {xs : List Value} (h : w.ownsRow base e size v n xs) (hb : v.ownBlock ≠ some b) : (w.setCell ⟨b, o, none⟩ u).ownsRow base e size v n xs := by
  obtain ⟨h1, h2⟩ := h
  refine ⟨h1, ?_⟩
  rcases h2 with h2 | ⟨g, cap, cur, e1, e2, e3, e4, e5, e6, e7⟩
  · exact .inl h2
  · have hne : g ≠ b := by rintro rfl; exact hb (by rw [e1]; rfl)
    exact .inr ⟨g, cap, cur, e1, e2, by rw [Below.heap_setCell _ _ _ _ hne]; exact e3, e4, e5, e6, e7⟩
theorem owns_putSa {W : World} {B n size g : Nat} {e : TypeId} {u : Value} {xs : List Value} (h : W.ownsRow B e size u n xs) (hg : u.ownBlock ≠ some g) (X : SaV) (v : Value) : (putSa W g X v).ownsRow B e size u n xs := by
  iterate 11 refine owns_set2 ?_ hg
  exact h
set_option maxHeartbeats 2000000 in
set_option maxRecDepth 100000 in
theorem l9Copy_any (x : SaV) (v : Value) (L : List Int) (w : World) (hL : IL w v L) (hl : L.length ≤ 100) :
    Calls Tryz.prog 113 #[vSv x v] w fun e w' => ∃ v', e = .returned (vSv x v') ∧ w'.ownsRow w.heap.size 3 1 v' L.length (i64s L) ∧ Below w.heap.size w w' := by
  obtain ⟨a, cap, rfl⟩ := hL.form
  have HL := hid_in hL
  clear hL
  have B0 := hid_in (SaBox.new w x (.slice a L.length cap) 45)
  have Z0 := hid_in (below_box w (.cells #[.int .i64 x.spi, .int .i64 x.tun, .string x.key, .string x.mac, .int .i64 x.since, .int .i64 x.soft, .int .i64 x.hard, .int .i64 x.ticks, .int .i64 x.sent, .int .i64 x.top, .slice a L.length cap] 45))
  have B1 := hid_in (SaBox.newAt (w.alloc (.cells #[.int .i64 x.spi, .int .i64 x.tun, .string x.key, .string x.mac, .int .i64 x.since, .int .i64 x.soft, .int .i64 x.hard, .int .i64 x.ticks, .int .i64 x.sent, .int .i64 x.top, .slice a L.length cap] 45)) zeroSa (.slice none 0 0) 45 (w.heap.size + 1) (by simp))
  go_enter Tryz.func113, Tryz.ntmps113
  go_wp2_with fail
  refine (l7Copy_any x.top _ L _ (HL.out.later (by go_grown)) hl).mono ?_
  rintro e w1 ⟨v', rfl, o, hb1⟩
  obtain ⟨a', c', rfl⟩ := owns_form o
  have O := hid_in o
  have P1 := hid_in ((B0.out.later (below_box _ _)).later hb1)
  have P2 := hid_in (B1.out.later hb1)
  have Z1 : Hid (Below w.heap.size w w1) := below_later (by go_grown) hb1
  have OW : Hid (w1.ownsRow (w.heap.size + 1 + 1) 3 1 (.slice a' L.length c') L.length (i64s L)) := by show World.ownsRow _ _ _ _ _ _ _; have h := O.out; simpa using h
  have zz : w.heap.size + 1 + 1 ≤ w1.heap.size := by have := hb1.size; simpa using this
  clear o hb1 O B0 B1 Z0
  obtain ⟨l0, p0, p1, p2, p3, p4, p5, p6, p7, p8, p9, p10, pf⟩ := P1.out
  obtain ⟨r0, q0, q1, q2, q3, q4, q5, q6, q7, q8, q9, q10, qf⟩ := P2.out
  go_wp2_with fail
  have nb : (Value.slice a' L.length c').ownBlock ≠ some w.heap.size := fun h => by have := (owns_own OW.out _ h).1; omega
  have nb1 : (Value.slice a' L.length c').ownBlock ≠ some (w.heap.size + 1) := fun h => by have := (owns_own OW.out _ h).1; omega
  have O3 := hid_in (ownsW_base (owns_putSa (owns_set2 (o := 10) (u := .slice a' L.length c') (owns_set2 (o := 9) (u := .int .i64 x.top) OW.out nb) nb) nb1 x (.slice a' L.length c')) (show w.heap.size ≤ w.heap.size + 1 + 1 by omega))
  have Z3 := hid_in (below_putSa ((Z1.out.setCell (p := ⟨w.heap.size, 9, none⟩) (Nat.le_refl _) (.int .i64 x.top)).setCell (p := ⟨w.heap.size, 10, none⟩) (Nat.le_refl _) (.slice a' L.length c')) (show w.heap.size ≤ w.heap.size + 1 by omega) x (.slice a' L.length c'))
  have X3 : SaBox ((w1.setCell ⟨w.heap.size, 9, none⟩ (.int .i64 x.top)).setCell ⟨w.heap.size, 10, none⟩ (.slice a' L.length c')) (w.heap.size + 1) zeroSa (.slice none 0 0) :=
    ⟨by simpa using r0, by go_simp, by go_simp, by go_simp, by go_simp, by go_simp, by go_simp, by go_simp, by go_simp, by go_simp, by go_simp, by go_simp, fun o => by go_simp⟩
  have X4 := X3.put x (.slice a' L.length c')
  simp only [putSa] at X4
  obtain ⟨_, d0, d1, d2, d3, d4, d5, d6, d7, d8, d9, d10, _⟩ := X4
  clear l0 p0 p1 p2 p3 p4 p5 p6 p7 p8 p9 p10 pf r0 q0 q1 q2 q3 q4 q5 q6 q7 q8 q9 q10 qf X3 nb nb1
  exact bodyPost_ret (v := vSv x (.slice a' L.length c')) (by simp [results, Tryz.results113, go_sem, d0, d1, d2, d3, d4, d5, d6, d7, d8, d9, d10]) rfl ⟨_, rfl, O3.out, Z3.out⟩
end Go.Proofs.YtefmmopkikpnhaaGreatDoor

