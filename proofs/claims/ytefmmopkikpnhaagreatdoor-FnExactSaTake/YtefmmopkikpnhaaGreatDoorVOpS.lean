/- What is proved: the contracts of OpnP, OpnW, OpnS, one behind the other. The conditions stand at each theorem. -/
import Derived.Test.YtefmmopkikpnhaaGreatDoorProg
import Derived.WalkKit
import Derived.ProofKit
import Derived.Lib.SmallJoins
import Derived.Test.YtefmmopkikpnhaaGreatDoorVWin
import Derived.Test.YtefmmopkikpnhaaGreatDoorVBas
namespace Go.Proofs.YtefmmopkikpnhaaGreatDoor
open Go.ChangeShapes Go.WideShapes Go.ChangeAt Go.RowKit Go.Joins
set_option linter.unusedVariables false
theorem trod_str {H : Type} {enc : TypeId × Value → H} {P : Program} {w : World} {base : Nat} {spare : Nat → Bool} {held : Bool} {t : TypeId} {fuel : Nat} {cs : List Value} {x : DataW H × List MemPlace}
    (ht : P.underlying t = some .string) (h : DataW.trod enc P w base spare held fuel t cs = some x) : ∃ s, cs = [.string s] ∧ s.size ≤ maxLen := by
  cases fuel with
  | zero => simp [DataW.trod] at h
  | succ n =>
    unfold DataW.trod at h
    rw [ht] at h
    split at h <;> simp_all
end Go.Proofs.YtefmmopkikpnhaaGreatDoor

namespace Go.Proofs.YtefmmopkikpnhaaGreatDoor
open Go.ChangeShapes Go.WideShapes Go.ChangeAt Go.RowKit Go.Joins Go.LatT Go.OpnT
set_option linter.unusedVariables false
theorem open_ints_slice {H : Type} {enc : TypeId × Value → H} {w : World} {base : Nat} {spare : Nat → Bool} {held : Bool} {t : TypeId} {fuel : Nat} {cs : List Value} {x : DataW H × List MemPlace}
    (ht : Tryz.prog.underlying t = some (.slice 3)) (h : DataW.trod enc Tryz.prog w base spare held fuel t cs = some x) :
    ∃ (a : Option Addr) (len cap : Nat) (E : Nat → Int), cs = [.slice a len cap] ∧ Ints w a len E ∧ len ≤ cap ∧ cap ≤ maxLen := by
  obtain ⟨a, len, cap, rfl⟩ : ∃ a len cap, cs = [.slice a len cap] := by
    rcases Deep.open_slice ht h with ⟨h0, _⟩ | ⟨b, l, c, m, f, D, Pl, h0, _⟩
    · exact ⟨_, _, _, h0⟩
    · exact ⟨_, _, _, h0⟩
  obtain ⟨E, hT, _, h1, h2⟩ := open_tab 6 1 ht (by kernel_rfl) (by kernel_rfl) (by decide) h
  refine ⟨a, len, cap, fun i => E i 0, rfl, ?_, h1, h2⟩
  rcases hT with h0 | ⟨bb, off, e, hlt, hc⟩
  · exact .inl h0
  · exact .inr ⟨bb, off, e, hlt, fun i hi => by have := hc i hi 0 (by omega); rw [Nat.mul_one, Nat.add_zero] at this; exact this⟩
end Go.Proofs.YtefmmopkikpnhaaGreatDoor

namespace Go.Proofs.YtefmmopkikpnhaaGreatDoor
open Go.ChangeShapes Go.WideShapes Go.ChangeAt Go.RowKit Go.Joins Go.LatT Go.OpnT
set_option linter.unusedVariables false
theorem field_at {fs : Array Field} {L : List (TypeId × Nat)} (hF : fs.toList.map (fun f => (f.type, f.offset)) = L) {i ty off : Nat} (h : L[i]? = some (ty, off)) : ∃ f, fs[i]? = some f ∧ f.type = ty ∧ f.offset = off := by
  rw [← hF, List.getElem?_map] at h
  obtain ⟨f, h1, h2⟩ := Option.map_eq_some_iff.1 h
  simp only [Prod.mk.injEq] at h2
  exact ⟨f, by simpa using h1, h2.1, h2.2⟩
set_option maxRecDepth 100000 in
theorem open_sa {H : Type} {enc : TypeId × Value → H} {w : World} {base : Nat} {spare : Nat → Bool} {held : Bool} {r : Reach} {b0 : Nat} {t : TypeId} {fs : Array Field} {v : Value} {d : DataW H} {p : List MemPlace}
    (hs : Tryz.prog.underlying t = some (.struct fs)) (hF : fs.toList.map (fun f => (f.type, f.offset)) = [(3, 0), (3, 1), (9, 2), (9, 3), (3, 4), (3, 5), (3, 6), (3, 7), (3, 8), (39, 9)]) (hC : Tryz.prog.cellsOf t = 11)
    (hv : Value.okWide Tryz.prog w r b0 t v) (h : DataW.Trod enc Tryz.prog w base spare held t v d p) :
    ∃ (x : SaV) (a : Option Addr) (len cap : Nat) (E : Nat → Int), v = vSa x a len cap ∧ x.key.size ≤ maxLen ∧ x.mac.size ≤ maxLen ∧ Ints w a len E ∧ len ≤ cap ∧ cap ≤ maxLen := by
  obtain ⟨cs, rfl, hsz⟩ := okWide_struct hs hv
  obtain ⟨fuel, hf0⟩ := h
  obtain ⟨xs, m, _, _, hl, hlen, hf⟩ := DataW.trod_struct hs hf0
  have hlF : fs.size = 10 := by have := congrArg List.length hF; simpa using this
  have fld : ∀ (i ty off : Nat), ([(3, 0), (3, 1), (9, 2), (9, 3), (3, 4), (3, 5), (3, 6), (3, 7), (3, 8), (39, 9)] : List (TypeId × Nat))[i]? = some (ty, off) → ∃ y, DataW.trod enc Tryz.prog w base spare held m ty (((Value.agg cs).cells.toList.drop off).take (Tryz.prog.cellsOf ty)) = some y := by
    intro i ty off hi
    obtain ⟨f, h1, h2, h3⟩ := field_at hF hi
    have h4 := hf i f h1
    have hxi : i < xs.length := by rw [hlen]; have := (Array.getElem?_eq_some_iff.1 h1).1; simpa using this
    rw [List.getElem?_eq_getElem hxi, h2, h3] at h4
    exact ⟨_, h4⟩
  have c3 : Tryz.prog.cellsOf 3 = 1 := by kernel_rfl
  have c9 : Tryz.prog.cellsOf 9 = 1 := by kernel_rfl
  have cw : Tryz.prog.cellsOf 39 = 2 := by kernel_rfl
  obtain ⟨l⟩ := cs
  have hsz2 : l.length = 11 := by have := hsz.trans hC; simpa using this
  match l, hsz2 with
  | [k0, k1, k2, k3, k4, k5, k6, k7, k8, k9, k10], _ =>
    obtain ⟨y0, g0⟩ := fld 0 3 0 rfl
    obtain ⟨y1, g1⟩ := fld 1 3 1 rfl
    obtain ⟨y2, g2⟩ := fld 2 9 2 rfl
    obtain ⟨y3, g3⟩ := fld 3 9 3 rfl
    obtain ⟨y4, g4⟩ := fld 4 3 4 rfl
    obtain ⟨y5, g5⟩ := fld 5 3 5 rfl
    obtain ⟨y6, g6⟩ := fld 6 3 6 rfl
    obtain ⟨y7, g7⟩ := fld 7 3 7 rfl
    obtain ⟨y8, g8⟩ := fld 8 3 8 rfl
    obtain ⟨y9, g9⟩ := fld 9 39 9 rfl
    rw [c3] at g0 g1 g4 g5 g6 g7 g8
    rw [c9] at g2 g3
    rw [cw] at g9
    obtain ⟨z0, e0, _, _⟩ := DataW.trod_int Tryz.underlying3 g0
    obtain ⟨z1, e1, _, _⟩ := DataW.trod_int Tryz.underlying3 g1
    obtain ⟨z2, e2, b2⟩ := trod_str Tryz.underlying9 g2
    obtain ⟨z3, e3, b3⟩ := trod_str Tryz.underlying9 g3
    obtain ⟨z4, e4, _, _⟩ := DataW.trod_int Tryz.underlying3 g4
    obtain ⟨z5, e5, _, _⟩ := DataW.trod_int Tryz.underlying3 g5
    obtain ⟨z6, e6, _, _⟩ := DataW.trod_int Tryz.underlying3 g6
    obtain ⟨z7, e7, _, _⟩ := DataW.trod_int Tryz.underlying3 g7
    obtain ⟨z8, e8, _, _⟩ := DataW.trod_int Tryz.underlying3 g8
    obtain ⟨q0, q1, n, _, _, i0, i1⟩ := trod_struct2 Tryz.underlying39 g9
    simp [Value.cells] at e0 e1 e2 e3 e4 e5 e6 e7 e8
    have i0' : DataW.trod enc Tryz.prog w base spare held n 3 [k9] = some q0 := i0
    have i1' : DataW.trod enc Tryz.prog w base spare held n 37 [k10] = some q1 := i1
    obtain ⟨z9, e9, _, _⟩ := DataW.trod_int Tryz.underlying3 i0'
    obtain ⟨a, len, cap, E, e10, x1, x2, x3⟩ := open_ints_slice (by kernel_rfl) i1'
    simp at e9 e10
    subst e0 e1 e2 e3 e4 e5 e6 e7 e8 e9 e10
    exact ⟨⟨z0, z1, z2, z3, z4, z5, z6, z7, z8, z9⟩, a, len, cap, E, rfl, b2, b3, x1, x2, x3⟩
end Go.Proofs.YtefmmopkikpnhaaGreatDoor

