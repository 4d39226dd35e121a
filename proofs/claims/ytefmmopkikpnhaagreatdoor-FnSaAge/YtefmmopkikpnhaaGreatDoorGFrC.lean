/- What is proved: the contracts of FrmA, FrmB, FrmC, one behind the other. The conditions stand at each theorem. -/
import Derived.Test.YtefmmopkikpnhaaGreatDoorGFrB
namespace Go.Proofs.YtefmmopkikpnhaaGreatDoor
open Go.RowKit Go.LatT Go.BlockM Go.PlainAid Go.OpnT Go.RegE Go.ApdG Go.BytM
set_option linter.unusedVariables false
set_option linter.unusedSimpArgs false
/-- A struct lies in a block that may be written. -/
structure FBf (w : World) (g : Nat) (a0 : Int) (a1 : Int) (a2 : ByteArray) (a3 : ByteArray) (a4 : ByteArray) (a5 : ByteArray) : Prop where
  lt : g < w.heap.size
  c0 : w.cell? ⟨g, 0, none⟩ = some (.int .i64 a0)
  c1 : w.cell? ⟨g, 1, none⟩ = some (.int .i64 a1)
  c2 : w.cell? ⟨g, 2, none⟩ = some (.string a2)
  c3 : w.cell? ⟨g, 3, none⟩ = some (.string a3)
  c4 : w.cell? ⟨g, 4, none⟩ = some (.string a4)
  c5 : w.cell? ⟨g, 5, none⟩ = some (.string a5)
  fz : ∀ o, w.frozen? ⟨g, o, none⟩ = false
section
variable {w w' : World} {g R : Nat} {a0 : Int} {a1 : Int} {a2 : ByteArray} {a3 : ByteArray} {a4 : ByteArray} {a5 : ByteArray}
theorem FBf.mv (h : FBf w g a0 a1 a2 a3 a4 a5) (m : Mv R w w') (hg : g ≠ R) : FBf w' g a0 a1 a2 a3 a4 a5 :=
  have q := fun o => m.cell g o h.lt hg
  ⟨Nat.lt_of_lt_of_le h.lt m.size, (q _).trans h.c0, (q _).trans h.c1, (q _).trans h.c2, (q _).trans h.c3, (q _).trans h.c4, (q _).trans h.c5, fun o => (m.frozen g o h.lt hg).trans (h.fz o)⟩
theorem FBf.later (h : FBf w g a0 a1 a2 a3 a4 a5) (hb : Below w.heap.size w w') : FBf w' g a0 a1 a2 a3 a4 a5 :=
  have q := fun o => (bcell hb).1 g o h.lt
  ⟨Nat.lt_of_lt_of_le h.lt hb.size, (q _).trans h.c0, (q _).trans h.c1, (q _).trans h.c2, (q _).trans h.c3, (q _).trans h.c4, (q _).trans h.c5, fun o => ((bcell hb).2 g o h.lt).trans (h.fz o)⟩
theorem FBf.set1 (b : Int) (h : FBf w g a0 a1 a2 a3 a4 a5) : FBf (w.setCell ⟨g, 1, none⟩ (.int .i64 b)) g a0 b a2 a3 a4 a5 := by
  obtain ⟨l0, p0, p1, p2, p3, p4, p5, pf⟩ := h
  exact ⟨by simpa using l0, by go_simp, by go_simp, by go_simp, by go_simp, by go_simp, by go_simp, fun o => by go_simp⟩
theorem FBf.set2 (b : ByteArray) (h : FBf w g a0 a1 a2 a3 a4 a5) : FBf (w.setCell ⟨g, 2, none⟩ (.string b)) g a0 a1 b a3 a4 a5 := by
  obtain ⟨l0, p0, p1, p2, p3, p4, p5, pf⟩ := h
  exact ⟨by simpa using l0, by go_simp, by go_simp, by go_simp, by go_simp, by go_simp, by go_simp, fun o => by go_simp⟩
theorem FBf.set3 (b : ByteArray) (h : FBf w g a0 a1 a2 a3 a4 a5) : FBf (w.setCell ⟨g, 3, none⟩ (.string b)) g a0 a1 a2 b a4 a5 := by
  obtain ⟨l0, p0, p1, p2, p3, p4, p5, pf⟩ := h
  exact ⟨by simpa using l0, by go_simp, by go_simp, by go_simp, by go_simp, by go_simp, by go_simp, fun o => by go_simp⟩
theorem FBf.set4 (b : ByteArray) (h : FBf w g a0 a1 a2 a3 a4 a5) : FBf (w.setCell ⟨g, 4, none⟩ (.string b)) g a0 a1 a2 a3 b a5 := by
  obtain ⟨l0, p0, p1, p2, p3, p4, p5, pf⟩ := h
  exact ⟨by simpa using l0, by go_simp, by go_simp, by go_simp, by go_simp, by go_simp, by go_simp, fun o => by go_simp⟩
end
theorem FBf.new (w : World) (a0 : Int) (a1 : Int) (a2 : ByteArray) (a3 : ByteArray) (a4 : ByteArray) (a5 : ByteArray) (ty : TypeId) : FBf (w.alloc (.cells #[.int .i64 a0, .int .i64 a1, .string a2, .string a3, .string a4, .string a5] ty)) w.heap.size a0 a1 a2 a3 a4 a5 := ⟨by simp, by go_simp, by go_simp, by go_simp, by go_simp, by go_simp, by go_simp, fun o => by go_simp⟩
/-- What lies where while a frame is read. -/
structure RdF (w W : World) (gs gp : Nat) (r : ByteArray) (v : Value) (a0 a1 : Int) (a2 a3 a4 a5 : ByteArray) : Prop where
  sat : Sat W gs r v
  pk : FBf W gp a0 a1 a2 a3 a4 a5
  res : FBf W w.heap.size 0 0 ⟨#[]⟩ ⟨#[]⟩ ⟨#[]⟩ ⟨#[]⟩
  bel : Below w.heap.size w W
  n1 : gs ≠ gp
  n2 : gs ≠ w.heap.size
  n3 : gp ≠ w.heap.size
  n4 : w.heap.size ≤ gs
  n5 : w.heap.size ≤ gp
section
variable {w W W' : World} {gs gp : Nat} {r r' : ByteArray} {v v' : Value} {a0 a1 : Int} {a2 a3 a4 a5 : ByteArray}
theorem RdF.read (h : RdF w W gs gp r v a0 a1 a2 a3 a4 a5) (m : Mv gs W W') (h' : Sat W' gs r' v') : RdF w W' gs gp r' v' a0 a1 a2 a3 a4 a5 :=
  ⟨h', h.pk.mv m (Ne.symm h.n1), h.res.mv m (Ne.symm h.n2), h.bel.trans (m.below h.bel.size h.n4), h.n1, h.n2, h.n3, h.n4, h.n5⟩
theorem RdF.later (h : RdF w W gs gp r v a0 a1 a2 a3 a4 a5) (hb : Below W.heap.size W W') : RdF w W' gs gp r v a0 a1 a2 a3 a4 a5 :=
  ⟨h.sat.later hb, h.pk.later hb, h.res.later hb, below_later h.bel hb, h.n1, h.n2, h.n3, h.n4, h.n5⟩
theorem RdF.put (h : RdF w W gs gp r v a0 a1 a2 a3 a4 a5) (o : Nat) (u : Value) {b0 b1 : Int} {b2 b3 b4 b5 : ByteArray} (h' : FBf (W.setCell ⟨gp, o, none⟩ u) gp b0 b1 b2 b3 b4 b5) : RdF w (W.setCell ⟨gp, o, none⟩ u) gs gp r v b0 b1 b2 b3 b4 b5 :=
  ⟨h.sat.mv (Mv.setg gp o W u) h.n1, h', h.res.mv (Mv.setg gp o W u) (Ne.symm h.n3), h.bel.setCell h.n5 _, h.n1, h.n2, h.n3, h.n4, h.n5⟩
end
theorem RdF.new (w : World) (x y : ByteArray) (t1 t2 t3 : TypeId) :
    RdF w (((w.alloc (.cells #[.int .i64 0, .int .i64 0, .string ⟨#[]⟩, .string ⟨#[]⟩, .string ⟨#[]⟩, .string ⟨#[]⟩] t1)).alloc (.cells #[.string x, .nilIface] t2)).alloc (.cells #[.int .i64 0, .int .i64 0, .string ⟨#[]⟩, .string ⟨#[]⟩, .string y, .string ⟨#[]⟩] t3)) (w.heap.size + 1) (w.heap.size + 1 + 1) x .nilIface 0 0 ⟨#[]⟩ ⟨#[]⟩ y ⟨#[]⟩ := by
  refine ⟨?_, ?_, ?_, by go_grown, by omega, by omega, by omega, by omega, by omega⟩
  · have h := Sat.new (w.alloc (.cells #[.int .i64 0, .int .i64 0, .string ⟨#[]⟩, .string ⟨#[]⟩, .string ⟨#[]⟩, .string ⟨#[]⟩] t1)) x .nilIface t2
    have := h.later (below_box _ (.cells #[.int .i64 0, .int .i64 0, .string ⟨#[]⟩, .string ⟨#[]⟩, .string y, .string ⟨#[]⟩] t3))
    simpa using this
  · have h := FBf.new ((w.alloc (.cells #[.int .i64 0, .int .i64 0, .string ⟨#[]⟩, .string ⟨#[]⟩, .string ⟨#[]⟩, .string ⟨#[]⟩] t1)).alloc (.cells #[.string x, .nilIface] t2)) 0 0 ⟨#[]⟩ ⟨#[]⟩ y ⟨#[]⟩ t3
    simpa using h
  · exact ((FBf.new w 0 0 ⟨#[]⟩ ⟨#[]⟩ ⟨#[]⟩ ⟨#[]⟩ t1).later (below_box _ _)).later (below_box _ _)
/-- Two numbers of a frame. -/
def hokB (spi seq : Int) : Bool := inB spi 1 999 && inB seq 1 1000000
theorem spiOk_any (n : Int) (w : World) (v : Bool) (hv : inB n 1 999 = v) :
    Calls Tryz.prog 94 #[.int .i64 n] w fun e w' => e = .returned (.bool v) ∧ Below w.heap.size w w' := by
  have V := hid_in hv
  clear hv
  go_enter Tryz.func94, Tryz.ntmps94
  go_wp2_with fail
  refine (rhas_any _ _ _ _ _ V.out).mono ?_
  rintro e w1 ⟨rfl, hb1⟩
  go_wp2_with fail
  go_ret
  exact ⟨rfl, hb1⟩
theorem headOk_any (a b : Int) (w : World) (v : Bool) (hv : hokB a b = v) :
    Calls Tryz.prog 52 #[.int .i64 a, .int .i64 b] w fun e w' => e = .returned (.bool v) ∧ Below w.heap.size w w' := by
  have V := hid_in hv
  clear hv
  cases h1 : inB a 1 999
  · have H1 := hid_in h1
    clear h1
    go_enter Tryz.func52, Tryz.ntmps52
    go_wp2_with fail
    refine (spiOk_any _ _ _ H1.out).mono ?_
    rintro e w1 ⟨rfl, hb1⟩
    go_wp2_with fail
    go_ret
    exact ⟨ret_bool (by rw [← V.out, hokB, H1.out]; rfl), hb1⟩
  · have H1 := hid_in h1
    clear h1
    obtain ⟨c, hc⟩ : ∃ c, inB b 1 1000000 = c := ⟨_, rfl⟩
    have HC := hid_in hc
    clear hc
    go_enter Tryz.func52, Tryz.ntmps52
    go_wp2_with fail
    refine (spiOk_any _ _ _ H1.out).mono ?_
    rintro e w1 ⟨rfl, hb1⟩
    go_wp2_with fail
    refine (rhas_any _ _ _ _ _ HC.out).mono ?_
    rintro e w2 ⟨rfl, hb2⟩
    go_wp2_with fail
    go_ret
    exact ⟨ret_bool (by rw [← V.out, hokB, H1.out, HC.out]; rfl), below_later hb1 hb2⟩
end Go.Proofs.YtefmmopkikpnhaaGreatDoor

namespace Go.Proofs.YtefmmopkikpnhaaGreatDoor
open Go.RowKit Go.LatT Go.BlockM Go.PlainAid Go.OpnT Go.RegE Go.ApdG Go.BytM
set_option linter.unusedVariables false
set_option linter.unusedSimpArgs false
end Go.Proofs.YtefmmopkikpnhaaGreatDoor

namespace Go.Proofs.YtefmmopkikpnhaaGreatDoor
open Go.RowKit Go.LatT Go.BlockM Go.PlainAid Go.OpnT Go.RegE Go.ApdG Go.BytM
set_option linter.unusedVariables false
set_option linter.unusedSimpArgs false
end Go.Proofs.YtefmmopkikpnhaaGreatDoor

