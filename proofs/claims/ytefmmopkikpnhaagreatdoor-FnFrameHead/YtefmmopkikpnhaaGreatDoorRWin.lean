/- What is proved: the contracts of IntS, WinM, WinA, WinB, WinC, WinD, SaA, one behind the other. The conditions stand at each theorem. -/
import Derived.Test.YtefmmopkikpnhaaGreatDoorProg
import Derived.Test.YtefmmopkikpnhaaGreatDoorRBas
import Derived.WalkKit
import Derived.WalkSpells
import Derived.WalkLawsBesides
import Derived.BigQuiet
import Derived.Deep.OwnRows
import Derived.Deep.LoopGhost
import Derived.Handy
import Derived.Deep.RegionWith
import Derived.Test.YtefmmopkikpnhaaGreatDoorRFrA
import Derived.Deep.RegionHeld3
import Derived.Test.YtefmmopkikpnhaaGreatDoorRFrC
namespace Go.Proofs.YtefmmopkikpnhaaGreatDoor
open Go.RowKit Go.LatT Go.BlockM Go.OpnT
set_option linter.unusedVariables false
set_option linter.unusedSimpArgs false
/-- A slice of numbers: empty, or a row of cells. -/
def Ints (w : World) (a : Option Addr) (len : Nat) (E : Nat → Int) : Prop :=
  len = 0 ∨ ∃ bb off, a = some ⟨bb, off, none⟩ ∧ bb < w.heap.size ∧ ∀ i, i < len → w.cell? ⟨bb, off + i, none⟩ = some (.int .i64 (E i))
theorem Ints.later {w w' : World} {a : Option Addr} {len : Nat} {E : Nat → Int} (h : Ints w a len E) (hb : Below w.heap.size w w') : Ints w' a len E := by
  rcases h with h | ⟨bb, off, e, hlt, hc⟩
  · exact .inl h
  · exact .inr ⟨bb, off, e, Nat.lt_of_lt_of_le hlt hb.size, fun i hi => by rw [(bcell hb).1 _ _ hlt]; exact hc i hi⟩
/-- A block of numbers. -/
def IRow (w : World) (b n : Nat) (E : Nat → Int) : Prop := w.rowIs b 3 n (fun i => .int .i64 (E i))
theorem IRow.later {w w' : World} {b n : Nat} {E : Nat → Int} (h : IRow w b n E) (hb : Below w.heap.size w w') : IRow w' b n E := h.of_block (hb.block _ h.lt)
end Go.Proofs.YtefmmopkikpnhaaGreatDoor

namespace Go.WinMath
set_option linter.unusedVariables false
/-- A word of bits, as of a top, is just the numbers of a list, which ascends, and reaches sixteen back at most. -/
structure Rep (T : Int) (c : Nat) (L : List Int) : Prop where
  lt : c < 65536
  t0 : 0 ≤ T
  t1 : T ≤ 1000000
  mem : ∀ x, x ∈ L → 1 ≤ x ∧ x ≤ T ∧ T - 16 < x
  asc : L.Pairwise (· < ·)
  bit : ∀ j : Nat, j < 16 → (c.testBit j = true ↔ T - j ∈ L)
/-- A number put among others, ascending. -/
def ins (n : Int) : List Int → List Int
  | [] => [n]
  | x :: r => if x < n then x :: ins n r else if x = n then x :: r else n :: x :: r
/-- What the list says to a number: a code; and the top and the list behind it. -/
def codeL (T : Int) (L : List Int) (n : Int) : Int := if n < 1 ∨ 1000000 < n then 1 else if n ≤ T - 16 then 2 else if n ∈ L then 3 else 0
def topL (T : Int) (L : List Int) (n : Int) : Int := if codeL T L n = 0 ∧ T < n then n else T
def listL (T : Int) (L : List Int) (n : Int) : List Int := if codeL T L n = 0 then (ins n L).filter (fun x => decide (topL T L n - 16 < x)) else L
end Go.WinMath

namespace Go.Proofs.YtefmmopkikpnhaaGreatDoor
open Go.RowKit Go.LatT Go.BlockM Go.OpnT Go.WinMath
set_option linter.unusedVariables false
set_option linter.unusedSimpArgs false
theorem IRow.set {w : World} {b n g o : Nat} {E : Nat → Int} {v : Value} (h : IRow w b n E) (hg : b ≠ g) : IRow (w.setCell ⟨g, o, none⟩ v) b n E := h.of_block (Below.heap_setCell _ _ _ _ hg)
/-- A number of a window is out of place. -/
def wBad (t : Int) (E : Nat → Int) (i : Nat) : Prop := E i ≤ IntKind.i64.wrap (t - 16) ∨ E i < 1 ∨ (0 < i ∧ E i ≤ E (i - 1))
/-- A window is ok. -/
def WOk (t : Int) (len : Nat) (E : Nat → Int) : Prop := (len = 0 ∧ t = 0) ∨ (0 < len ∧ (∀ i, i < len → ¬ wBad t E i) ∧ E (len - 1) = t ∧ t ≤ 1000000)
end Go.Proofs.YtefmmopkikpnhaaGreatDoor

namespace Go.Proofs.YtefmmopkikpnhaaGreatDoor
open Go.RowKit Go.LatT Go.BlockM Go.OpnT Go.WinMath
set_option linter.unusedVariables false
set_option linter.unusedSimpArgs false
/-- A trail lies in a block. -/
structure Tr (w : World) (g : Nat) (T : Int) (c : Nat) : Prop where
  c0 : w.cell? ⟨g, 0, none⟩ = some (.int .i64 T)
  c1 : w.cell? ⟨g, 1, none⟩ = some (.int .u16 (c : Int))
  f0 : w.frozen? ⟨g, 0, none⟩ = false
  f1 : w.frozen? ⟨g, 1, none⟩ = false
/-- What seeing leaves. -/
def SeePost (g : Nat) (T n : Int) (L : List Int) (w : World) (e : Ending) (w' : World) : Prop :=
  ∃ c', e = .returned (.int .i64 (codeL T L n)) ∧ Tr w' g (topL T L n) c' ∧ Rep (topL T L n) c' (listL T L n) ∧ Mv g w w' ∧ w'.heap.size = w.heap.size
theorem SeePost.none {g : Nat} {T n : Int} {c : Nat} {L : List Int} {w : World} {k : Int} (h : Tr w g T c) (hr : Rep T c L) (hk : codeL T L n = k) (h0 : k ≠ 0) : SeePost g T n L w (.returned (.int .i64 k)) w := by
  have e1 : topL T L n = T := by unfold topL; rw [if_neg (by rw [hk]; exact fun h => h0 h.1)]
  have e2 : listL T L n = L := by unfold listL; rw [if_neg (by rw [hk]; exact h0)]
  exact ⟨c, by rw [hk], by rw [e1]; exact h, by rw [e1, e2]; exact hr, Mv.refl _ _, rfl⟩
end Go.Proofs.YtefmmopkikpnhaaGreatDoor

namespace Go.Proofs.YtefmmopkikpnhaaGreatDoor
open Go.RowKit Go.LatT Go.BlockM Go.OpnT Go.WinMath
set_option linter.unusedVariables false
set_option linter.unusedSimpArgs false
/-- The first k numbers as a list. -/
def LE (E : Nat → Int) (k : Nat) : List Int := (List.range k).map E
end Go.Proofs.YtefmmopkikpnhaaGreatDoor

namespace Go.Proofs.YtefmmopkikpnhaaGreatDoor
open Go.RowKit Go.LatT Go.BlockM Go.OpnT Go.WinMath
set_option linter.unusedVariables false
set_option linter.unusedSimpArgs false
/-- What reading a window leaves. -/
def TrailPost (t : Int) (len : Nat) (E : Nat → Int) (w : World) (e : Ending) (w' : World) : Prop :=
  ∃ (T : Int) (c : Nat) (v : Bool), e = .returned (.tuple #[.agg #[.int .i64 T, .int .u16 (c : Int)], .bool v]) ∧ (v = true ↔ WOk t len E) ∧ (v = true → T = t ∧ Rep t c (LE E len)) ∧ Below w.heap.size w w'
theorem TrailPost.no {t : Int} {len : Nat} {E : Nat → Int} {w w' : World} (h : ¬ WOk t len E) (hb : Below w.heap.size w w') : TrailPost t len E w (.returned (.tuple #[.agg #[.int .i64 0, .int .u16 0], .bool false])) w' :=
  ⟨0, 0, false, rfl, Iff.intro (fun h' => nomatch h') (fun h' => absurd h' h), fun h' => (nomatch h'), hb⟩
end Go.Proofs.YtefmmopkikpnhaaGreatDoor

namespace Go.Proofs.YtefmmopkikpnhaaGreatDoor
open Go.RowKit Go.LatT Go.BlockM Go.OpnT Go.WinMath
set_option linter.unusedVariables false
set_option linter.unusedSimpArgs false
def keysB (k m : ByteArray) : Bool := decide ((k.size : Int) = 16) && inB m.size 1 64
set_option maxHeartbeats 400000 in
set_option maxRecDepth 100000 in
theorem l8Keys_any (k m : ByteArray) (w : World) (v : Bool) (hv : keysB k m = v) :
    Calls Tryz.prog 41 #[.string k, .string m] w fun e w' => e = .returned (.bool v) ∧ w' = w := by
  have V := hid_in hv
  clear hv
  by_cases h : (k.size : Int) = 16
  · have V2 : Hid (inB m.size 1 64 = v) := by show _ = v; rw [← V.out]; simp [keysB, h]
    go_enter Tryz.func41, Tryz.ntmps41
    go_wp2_with (go_at_call 57; refine (l1In_any _ _ _ _ _ V2.out).mono ?_; rintro e w' ⟨rfl, rfl⟩)
    go_ret
    exact ⟨rfl, rfl⟩
  · have h' : ((k.size : Int) == 16) = false := by simpa using h
    go_enter Tryz.func41, Tryz.ntmps41
    go_wp2_with fail
    go_ret
    exact ⟨ret_bool (by rw [← V.out]; simp [keysB, h]), rfl⟩
set_option maxHeartbeats 400000 in
set_option maxRecDepth 100000 in
theorem keysOk_any (k m : ByteArray) (w : World) (v : Bool) (hv : keysB k m = v) :
    Calls Tryz.prog 46 #[.string k, .string m] w fun e w' => e = .returned (.bool v) ∧ Below w.heap.size w w' := by
  have V := hid_in hv
  clear hv
  by_cases h : (k.size : Int) = 16
  · have V2 : Hid (inB m.size 1 64 = v) := by show _ = v; rw [← V.out]; simp [keysB, h]
    go_enter Tryz.func46, Tryz.ntmps46
    go_wp2_with fail
    refine (rhas_any 1 64 _ _ _ V2.out).mono ?_
    rintro e w1 ⟨rfl, hb1⟩
    go_wp2_with fail
    go_ret
    exact ⟨rfl, hb1⟩
  · have h' : ((k.size : Int) == 16) = false := by simpa using h
    go_enter Tryz.func46, Tryz.ntmps46
    go_wp2_with fail
    go_ret
    exact ⟨ret_bool (by rw [← V.out]; simp [keysB, h]), Below.refl _ _⟩
end Go.Proofs.YtefmmopkikpnhaaGreatDoor

