/- Any block, drawn. The conditions stand at each theorem. -/
import Derived.Test.YtdljoopioglkiaaDrwR
import Derived.Test.YtdljoopioglkiaaRegN
import Derived.WalkKit
import Derived.WalkSpells
import Derived.WalkLawsBesides
import Derived.BigQuiet
import Derived.Deep.RegionWith
namespace Go.Proofs.Ytdljoopioglkiaa
open Go.RowKit Go.LatT Go.BlockM Go.RegN
set_option linter.unusedVariables false
set_option linter.unusedSimpArgs false
/-- The class of a reader's worlds: all else is as it was, and it has gone on by a thousand a call at most. -/
def Rc (K R : Nat) (sl : Value) (p : Int) (w0 : World) (n : Nat) (w : World) : Prop := Mv R w0 w ∧ ∃ q, p ≤ q ∧ q ≤ p + 1000 * (min n K : Nat) ∧ Rdr w R sl q
theorem Rc.start {K R : Nat} {sl : Value} {p : Int} {w : World} (h : Rdr w R sl p) : Rc K R sl p w 0 w := ⟨Mv.refl _ _, p, by omega, by simp, h⟩
theorem Rdr.drew {R : Nat} {sl : Value} {p : Int} {w : World} (h : Rdr w R sl p) : Rdr w.drew R sl p := h.later ((Below.refl _ _).drew)
theorem Rc.drew {K R : Nat} {sl : Value} {p : Int} {w0 w : World} {n : Nat} (h : Rc K R sl p w0 n w) : Rc K R sl p w0 n w.drew := by
  obtain ⟨m, q, h1, h2, h3⟩ := h
  exact ⟨m.trans (Mv.of_below ((Below.refl _ _).drew)), q, h1, h2, h3.drew⟩
theorem Rc.alloc {K R : Nat} {sl : Value} {p : Int} {w0 : World} : ∀ n w o, Rc K R sl p w0 n w → Rc K R sl p w0 n (w.alloc o) := by
  intro n w o ⟨m, q, h1, h2, h3⟩
  exact ⟨m.trans (Mv.of_below (below_box _ _)), q, h1, h2, h3.later (below_box _ _)⟩
theorem Rc.size {K R : Nat} {sl : Value} {p : Int} {w0 : World} : ∀ n w, Rc K R sl p w0 n w → w0.heap.size ≤ w.heap.size := fun _ _ h => h.1.size
theorem Mv.keep {R H : Nat} {w w' : World} (h : Mv R w w') (hR : R < H) : Keep H w w' := fun g hg hl => h.block g hl (by omega)
/-- What a choice of a list needs: that the list lies there. -/
def needOne (one : FuncId) (arr : Array Value) (f : FuncId) (args : Array Value) : List (Nat × Obj) :=
  if f = one then (match (args[1]? : Option Value) with | some (Value.slice (some ad) _ _) => [(ad.block, Obj.cells arr 3)] | _ => []) else []
theorem Rc.one {R : Nat} {sl : Value} {p : Int} {w0 : World} {H N g n : Nat} {Post : FuncId → Array Value → Value → Prop} (vs : List Int) (arr : Array Value) (hR : R < H) (hp : 0 ≤ p) (hp' : p + 1000 * N ≤ 1099511627776) (harr : arr = (vs.map fun v => Value.int .i64 v).toArray) (hn : n = vs.length)
    (hl : 1 ≤ vs.length) (hl' : vs.length ≤ 100) (hpost : ∀ u ∈ vs, Post 25 #[.pointer (some ⟨R, 0, none⟩), .slice (some ⟨g, 0, none⟩) n n] (.int .i64 u)) :
    Contract Try.prog (Rc N R sl p w0) H N Post (needOne 25 arr) 25 #[.pointer (some ⟨R, 0, none⟩), .slice (some ⟨g, 0, none⟩) n n] := by
  intro k w hk ⟨m, q, h1, h2, h3⟩ hneed
  have hh := hneed (g, .cells arr 3) (by simp [needOne])
  subst harr hn
  have hg : H ≤ g := hh.1
  refine (oneM R g sl q vs w h3 (by omega) (by omega) (by omega) hl hl' (fun i hi => ?_)).mono ?_
  · have := held_cell hh i (by simpa using hi)
    rw [this]; simp [hi]
  · rintro e w' ⟨u, rfl, hu, h4, h5⟩
    exact ⟨_, rfl, hpost u hu, ⟨m.trans h5, q + 1, by omega, by omega, h4⟩, h5.keep hR⟩
def postOne (vs : List Int) (f : FuncId) (_ : Array Value) (u : Value) : Prop := f = 25 → ∃ x ∈ vs, u = .int .i64 x
theorem Rdr.pokes {w w' : World} {R : Nat} {sl : Value} {p q : Int} (h : Rdr w R sl p) (c0 : w'.cell? ⟨R, 0, none⟩ = some sl) (c1 : w'.cell? ⟨R, 1, none⟩ = some (.int .i64 q)) (fz : w'.frozen? ⟨R, 1, none⟩ = false) (m : Mv R w w') : Rdr w' R sl q :=
  ⟨c0, c1, fz, h.src_of m⟩
end Go.Proofs.Ytdljoopioglkiaa
