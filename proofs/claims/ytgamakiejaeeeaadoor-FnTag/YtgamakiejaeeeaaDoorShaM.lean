/- Words of 32 bits, and what SHA-256 makes of them, without Go. The conditions stand at each theorem. -/
import Derived.Test.YtgamakiejaeeeaaDoorProg
import Derived.Test.YtgamakiejaeeeaaDoorLat
import Derived.Test.YtgamakiejaeeeaaDoorMath
import Derived.Test.YtgamakiejaeeeaaDoorApdG
import Derived.Test.YtgamakiejaeeeaaDoorBytM
import Derived.Test.YtgamakiejaeeeaaDoorAesM
import Derived.WalkKit
import Derived.WalkSpells
import Derived.WalkLawsBesides
import Derived.BigQuiet
import Derived.Handy
import Derived.PlainAid
import Derived.Laws.IdiomStrings
import Derived.Laws.BytesArg
import Derived.Deep.RegionHeld3
namespace Go.Proofs.YtgamakiejaeeeaaDoor
open Go.RowKit Go.LatT Go.BlockM Go.PlainAid Go.OpnT Go.ApdG Go.BytM Go.AesM
set_option linter.unusedVariables false
set_option linter.unusedSimpArgs false
theorem ofInt32 (A : Nat) (h : A < 4294967296) : (BitVec.ofInt 32 (A : Int)).toNat = A := by simp [BitVec.toNat_ofInt]; omega
theorem xor32 (A B : Nat) (hA : A < 4294967296) (hB : B < 4294967296) : bits .xor .u32 (A : Int) (B : Int) = ((A ^^^ B : Nat) : Int) := by
  show IntKind.u32.wrap ((BitVec.ofInt 32 (A : Int) ^^^ BitVec.ofInt 32 (B : Int)).toNat : Int) = _
  rw [BitVec.toNat_xor, ofInt32 A hA, ofInt32 B hB]
  have : A ^^^ B < 4294967296 := Nat.xor_lt_two_pow (n := 32) hA hB
  rw [IntKind.wrap_u32]; omega
theorem or32 (A B : Nat) (hA : A < 4294967296) (hB : B < 4294967296) : bits .or .u32 (A : Int) (B : Int) = ((A ||| B : Nat) : Int) := by
  show IntKind.u32.wrap ((BitVec.ofInt 32 (A : Int) ||| BitVec.ofInt 32 (B : Int)).toNat : Int) = _
  rw [BitVec.toNat_or, ofInt32 A hA, ofInt32 B hB]
  have : A ||| B < 4294967296 := Nat.or_lt_two_pow (n := 32) hA hB
  rw [IntKind.wrap_u32]; omega
theorem and32 (A B : Nat) (hA : A < 4294967296) (hB : B < 4294967296) : bits .and .u32 (A : Int) (B : Int) = ((A &&& B : Nat) : Int) := by
  show IntKind.u32.wrap ((BitVec.ofInt 32 (A : Int) &&& BitVec.ofInt 32 (B : Int)).toNat : Int) = _
  rw [BitVec.toNat_and, ofInt32 A hA, ofInt32 B hB]
  have : A &&& B < 4294967296 := Nat.and_lt_two_pow (n := 32) A hB
  rw [IntKind.wrap_u32]; omega
/-- A word turned to the right. -/
def rr (x n : Nat) : Nat := (x / 2 ^ n) ||| (x * 2 ^ (32 - n) % 4294967296)
theorem rr_lt (x n : Nat) (hx : x < 4294967296) : rr x n < 4294967296 :=
  Nat.or_lt_two_pow (n := 32) (Nat.lt_of_le_of_lt (Nat.div_le_self _ _) hx) (Nat.mod_lt _ (by decide))
/-- What a word is turned by some numbers of bits to, all put together. -/
def rs (x : Nat) (l : List Nat) : Nat := l.foldl (fun a n => a ^^^ rr x n) 0
theorem rs_snoc (x n : Nat) (l : List Nat) : rs x (l ++ [n]) = rs x l ^^^ rr x n := by simp [rs]
theorem rs_lt (x : Nat) (hx : x < 4294967296) (l : List Nat) : rs x l < 4294967296 := by
  unfold rs
  have : ∀ (l : List Nat) (a : Nat), a < 4294967296 → l.foldl (fun a n => a ^^^ rr x n) a < 4294967296 := by
    intro l
    induction l with
    | nil => intro a h; exact h
    | cons n l ih => intro a h; exact ih _ (Nat.xor_lt_two_pow (n := 32) h (rr_lt x n hx))
  exact this l 0 (by decide)
/-- The words of a block, and all that are made of them. -/
def wds (b : Nat → Nat) : Nat → Nat
  | n => if n < 16 then ((b (4 * n) * 256 + b (4 * n + 1)) * 256 + b (4 * n + 2)) * 256 + b (4 * n + 3)
    else if h : 16 ≤ n then (wds b (n - 16) + (rs (wds b (n - 15)) [7, 18] ^^^ (wds b (n - 15) / 8)) + wds b (n - 7) + (rs (wds b (n - 2)) [17, 19] ^^^ (wds b (n - 2) / 1024))) % 4294967296 else 0
  termination_by n => n
  decreasing_by all_goals omega
/-- One step on the eight words. -/
def shs (k w : Nat) (s : Nat → Nat) (i : Nat) : Nat :=
  let t := s 7 + rs (s 4) [6, 11, 25] + ((s 4 &&& s 5) ^^^ ((4294967295 - s 4) &&& s 6)) + k + w
  let u := rs (s 0) [2, 13, 22] + ((s 0 &&& s 1) ^^^ (s 0 &&& s 2) ^^^ (s 1 &&& s 2))
  if i = 0 then (t + u) % 4294967296 else if i = 4 then (s 3 + t) % 4294967296 else s (i - 1)
end Go.Proofs.YtgamakiejaeeeaaDoor
