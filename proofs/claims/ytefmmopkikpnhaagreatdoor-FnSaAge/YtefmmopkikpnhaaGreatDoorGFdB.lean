/- What is proved: the contracts of FrdB, one behind the other. The conditions stand at each theorem. -/
import Derived.Test.YtefmmopkikpnhaaGreatDoorGFdA
import Derived.Test.YtefmmopkikpnhaaGreatDoorGReg
namespace Go.Proofs.YtefmmopkikpnhaaGreatDoor
open Go.RowKit Go.LatT Go.BlockM Go.PlainAid Go.OpnT Go.ApdG Go.BytM Go.AesM Go.RowQ Go.RegN
set_option linter.unusedVariables false
set_option linter.unusedSimpArgs false
/-- The class of a reader's worlds: all else is as it was, and it has gone on by a thousand a call at most. -/
def Rc (K R : Nat) (sl : Value) (p : Int) (w0 : World) (n : Nat) (w : World) : Prop := Mv R w0 w ∧ ∃ q, p ≤ q ∧ q ≤ p + 1000 * (min n K : Nat) ∧ Rdr w R sl q
theorem Rc.start {K R : Nat} {sl : Value} {p : Int} {w : World} (h : Rdr w R sl p) : Rc K R sl p w 0 w := ⟨Mv.refl _ _, p, by omega, by simp, h⟩
theorem Rdr.drew {R : Nat} {sl : Value} {p : Int} {w : World} (h : Rdr w R sl p) : Rdr w.drew R sl p := h.later ((Below.refl _ _).drew)
theorem Rc.drew {K R : Nat} {sl : Value} {p : Int} {w0 w : World} {n : Nat} (h : Rc K R sl p w0 n w) : Rc K R sl p w0 n w.drew := by
  obtain ⟨m, q, h1, h2, h3⟩ := h
  exact ⟨m.trans (Mv.of_below ((Below.refl _ _).drew)), q, h1, h2, h3.drew⟩
theorem Rc.alloc {K R : Nat} {sl : Value} {p : Int} {w0 : World} : ∀ n w o, Rc K R sl p w0 n w → Rc K R sl p w0 n (w.alloc o) := by
  intro n w o ⟨m, q, h1, h2, h3⟩
  exact ⟨m.trans (Mv.of_below (below_box _ _)), q, h1, h2, h3.later (below_box _ _)⟩
theorem Rc.size {K R : Nat} {sl : Value} {p : Int} {w0 : World} : ∀ n w, Rc K R sl p w0 n w → w0.heap.size ≤ w.heap.size := fun _ _ h => h.1.size
theorem Mv.keep {R H : Nat} {w w' : World} (h : Mv R w w') (hR : R < H) : Keep H w w' := fun g hg hl => h.block g hl (by omega)
def postPk (m : Int) (_ : FuncId) (_ : Array Value) (u : Value) : Prop := ∃ x : Int, u = .int .i64 x ∧ 0 ≤ x ∧ x < m
theorem Rc.pick {R : Nat} {sl : Value} {p m : Int} {w0 : World} {H N : Nat} (hR : R < H) (hp : 0 ≤ p) (hp' : p + 1000 * N ≤ 1099511627776) (hm : 1 ≤ m) (hm' : m ≤ 4294967296) :
    Contract Tryz.prog (Rc N R sl p w0) H N (postPk m) (fun _ _ => []) 51 #[.pointer (some ⟨R, 0, none⟩), .int .i64 m] := by
  intro k w hk ⟨mv, q, h1, h2, h3⟩ _
  refine (pickM R sl q m w h3 (by omega) (by omega) hm hm').mono ?_
  rintro e w' ⟨u, rfl, hu0, hu1, h4, h5⟩
  exact ⟨_, rfl, ⟨u, rfl, hu0, hu1⟩, ⟨mv.trans h5, q + 1, by omega, by omega, h4⟩, h5.keep hR⟩
end Go.Proofs.YtefmmopkikpnhaaGreatDoor

