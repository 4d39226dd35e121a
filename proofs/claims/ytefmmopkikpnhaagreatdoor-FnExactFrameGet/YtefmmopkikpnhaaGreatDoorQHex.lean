/- What is proved: the contracts of HexA, HexB, one behind the other. The conditions stand at each theorem. -/
import Derived.Test.YtefmmopkikpnhaaGreatDoorProg
import Derived.Test.YtefmmopkikpnhaaGreatDoorQBas
import Derived.WalkKit
import Derived.WalkSpells
import Derived.WalkLawsBesides
import Derived.BigQuiet
import Derived.Handy
import Derived.PlainAid
import Derived.Laws.IdiomStrings
import Derived.Laws.BytesArg
import Derived.Deep.RegionHeld3
namespace Go.Proofs.YtefmmopkikpnhaaGreatDoor
open Go.RowKit Go.LatT Go.BlockM Go.PlainAid Go.OpnT
set_option linter.unusedVariables false
set_option linter.unusedSimpArgs false
/-- A figure of sixteen. -/
def figB (d : Int) : UInt8 := UInt8.ofNat (if d < 10 then 48 + d.toNat else 87 + d.toNat)
/-- The first k bytes, in figures. -/
def hexT (s : ByteArray) : Nat → List UInt8
  | 0 => []
  | k + 1 => hexT s k ++ [figB (bt s k / 16), figB (bt s k % 16)]
theorem hexT_len (s : ByteArray) : ∀ k, (hexT s k).length = 2 * k
  | 0 => rfl
  | k + 1 => by rw [hexT, List.length_append, hexT_len s k]; simp; omega
/-- Bytes as cells. -/
def u8s (l : List UInt8) : List Value := l.map fun b => .int .u8 (b.toNat : Int)
theorem u8s_append (a b : List UInt8) : u8s (a ++ b) = u8s a ++ u8s b := by simp [u8s]
theorem fig_of (d : Int) (h0 : 0 ≤ d) (h1 : d < 16) : bt ⟨#[48, 49, 50, 51, 52, 53, 54, 55, 56, 57, 97, 98, 99, 100, 101, 102]⟩ d.toNat = ((figB d).toNat : Int) := by
  have : d = 0 ∨ d = 1 ∨ d = 2 ∨ d = 3 ∨ d = 4 ∨ d = 5 ∨ d = 6 ∨ d = 7 ∨ d = 8 ∨ d = 9 ∨ d = 10 ∨ d = 11 ∨ d = 12 ∨ d = 13 ∨ d = 14 ∨ d = 15 := by omega
  rcases this with rfl | rfl | rfl | rfl | rfl | rfl | rfl | rfl | rfl | rfl | rfl | rfl | rfl | rfl | rfl | rfl <;> decide
/-- A row of bytes that the call owns, as a text. -/
theorem owns_text {w : World} {base n : Nat} {v : Value} {l : List UInt8} (h : w.ownsRow base 5 1 v n (u8s l)) (hn : n = l.length) : (convert 25 9 v).run Tryz.prog w = .ok (.string ⟨l.toArray⟩) w := by
  subst hn
  have hcells := fun g hg => World.ownsRow.cells h (g := g) hg
  obtain ⟨h1, h2⟩ := h
  rcases h2 with ⟨rfl, h0⟩ | ⟨g, cap, cur, rfl, e2, e3, e4, e5, e6, e7⟩
  · obtain rfl : l = [] := List.length_eq_zero_iff.1 h0
    exact run_convert_bytes_nil (P := Tryz.prog) (w := w) _ 5 Tryz.underlying25 Tryz.underlying5 0 0 9 Tryz.underlying9
  · refine run_convert_bytes_back (P := Tryz.prog) w 25 9 5 ⟨g, 0, none⟩ cap l Tryz.underlying25 Tryz.underlying5 Tryz.underlying9 fun j hj => ?_
    exact hcells g rfl j _ (by simp [u8s, hj])
theorem infoByte : (Tryz.prog.info? 5).map (fun i => (i.zero, i.size, i.bytes)) = some (some (.int .u8 0), 1, 1) := by kernel_rfl
end Go.Proofs.YtefmmopkikpnhaaGreatDoor

namespace Go.Proofs.YtefmmopkikpnhaaGreatDoor
open Go.RowKit Go.LatT Go.BlockM Go.PlainAid Go.OpnT
set_option linter.unusedVariables false
set_option linter.unusedSimpArgs false
theorem and15 (x : Int) (h0 : 0 ≤ x) (h1 : x ≤ 255) : bits .and .u8 x 15 = x % 16 := by
  obtain ⟨A, rfl⟩ := Int.eq_ofNat_of_zero_le h0
  have e : bits .and .u8 (A : Int) 15 = ((A &&& 15 : Nat) : Int) := by
    show IntKind.u8.wrap ((BitVec.ofInt 8 (A : Int) &&& BitVec.ofInt 8 15).toNat : Int) = _
    rw [BitVec.toNat_and, show (BitVec.ofInt 8 15).toNat = 15 from rfl, show (BitVec.ofInt 8 (A : Int)).toNat = A by simp [BitVec.toNat_ofInt]; omega]
    have : A &&& 15 ≤ 15 := Nat.and_le_right
    rw [IntKind.wrap_u8]; omega
  rw [e, show (15 : Nat) = 2 ^ 4 - 1 from rfl, Nat.and_two_pow_sub_one_eq_mod]
  rfl
end Go.Proofs.YtefmmopkikpnhaaGreatDoor

