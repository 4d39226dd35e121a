/- A window as a word of bits: what seeing a number answers, in the program, as a contract. The conditions stand at each theorem. -/
import Derived.Test.YtdljoopioglkiaaWinA
import Derived.Test.YtdljoopioglkiaaDrwA
namespace Go.Proofs.Ytdljoopioglkiaa
open Go.RowKit Go.LatT Go.BlockM Go.OpnT Go.WinMath
set_option linter.unusedVariables false
set_option linter.unusedSimpArgs false
/-- A trail lies in a block. -/
structure Tr (w : World) (g : Nat) (T : Int) (c : Nat) : Prop where
  c0 : w.cell? ⟨g, 0, none⟩ = some (.int .i64 T)
  c1 : w.cell? ⟨g, 1, none⟩ = some (.int .u16 (c : Int))
  f0 : w.frozen? ⟨g, 0, none⟩ = false
  f1 : w.frozen? ⟨g, 1, none⟩ = false
theorem ofInt_u16 (a : Nat) (h : a < 65536) : (BitVec.ofInt 16 (a : Int)).toNat = a := by
  rw [BitVec.toNat_ofInt]
  omega
theorem wrap_u16_small (a : Nat) (h : a < 65536) : IntKind.u16.wrap (a : Int) = a := by
  rw [IntKind.wrap_u16]; omega
theorem and_u16 (a b : Nat) (ha : a < 65536) (hb : b < 65536) : bits .and .u16 (a : Int) (b : Int) = ((a &&& b : Nat) : Int) := by
  show IntKind.u16.wrap ((BitVec.ofInt 16 (a : Int) &&& BitVec.ofInt 16 (b : Int)).toNat : Int) = _
  rw [BitVec.toNat_and, ofInt_u16 a ha, ofInt_u16 b hb]
  exact wrap_u16_small _ (Nat.lt_of_le_of_lt Nat.and_le_left ha)
theorem or_u16 (a b : Nat) (ha : a < 65536) (hb : b < 65536) : bits .or .u16 (a : Int) (b : Int) = ((a ||| b : Nat) : Int) := by
  show IntKind.u16.wrap ((BitVec.ofInt 16 (a : Int) ||| BitVec.ofInt 16 (b : Int)).toNat : Int) = _
  rw [BitVec.toNat_or, ofInt_u16 a ha, ofInt_u16 b hb]
  refine wrap_u16_small _ ?_
  rw [show (65536 : Nat) = 2 ^ 16 from rfl] at *
  exact Nat.or_lt_two_pow ha hb
theorem bit_u16 (k : Nat) (h : k < 16) : IntKind.u16.wrap (2 ^ k) = ((shl 1 k : Nat) : Int) := by
  rw [one_pow k h]
  have e : ((2 : Int) ^ k) = ((2 ^ k : Nat) : Int) := by simp
  rw [e]
  exact wrap_u16_small _ (by rw [show (65536 : Nat) = 2 ^ 16 from rfl]; exact Nat.pow_lt_pow_right (by decide) h)
theorem shl_u16 (c k : Nat) : IntKind.u16.wrap ((c : Int) * 2 ^ min k 16) = ((shl c k : Nat) : Int) := by
  unfold shl
  have e : ((2 : Int) ^ min k 16) = ((2 ^ min k 16 : Nat) : Int) := by simp
  have e2 : (c : Int) * ((2 ^ min k 16 : Nat) : Int) = ((c * 2 ^ min k 16 : Nat) : Int) := (Int.natCast_mul _ _).symm
  rw [e, e2, IntKind.wrap_u16]
  omega
/-- What seeing leaves. -/
def SeePost (g : Nat) (T n : Int) (L : List Int) (w : World) (e : Ending) (w' : World) : Prop :=
  ∃ c', e = .returned (.int .i64 (codeL T L n)) ∧ Tr w' g (topL T L n) c' ∧ Rep (topL T L n) c' (listL T L n) ∧ Mv g w w' ∧ w'.heap.size = w.heap.size
theorem SeePost.none {g : Nat} {T n : Int} {c : Nat} {L : List Int} {w : World} {k : Int} (h : Tr w g T c) (hr : Rep T c L) (hk : codeL T L n = k) (h0 : k ≠ 0) : SeePost g T n L w (.returned (.int .i64 k)) w := by
  have e1 : topL T L n = T := by unfold topL; rw [if_neg (by rw [hk]; exact fun h => h0 h.1)]
  have e2 : listL T L n = L := by unfold listL; rw [if_neg (by rw [hk]; exact h0)]
  exact ⟨c, by rw [hk], by rw [e1]; exact h, by rw [e1, e2]; exact hr, Mv.refl _ _, rfl⟩
theorem SeePost.fine {g : Nat} {T n : Int} {c : Nat} {L : List Int} {w w' : World} (hr : Rep T c L) (h1 : 1 ≤ n) (h2 : n ≤ 1000000) (h3 : T - 16 < n) (h4 : n ∉ L) (h : Tr w' g (wordT T n) (wordC T c n ||| wordB T n)) (m : Mv g w w') (hs : w'.heap.size = w.heap.size) : SeePost g T n L w (.returned (.int .i64 0)) w' := by
  obtain ⟨a, b, d⟩ := rep_see hr h1 h2 h3 h4
  exact ⟨_, by rw [d], by rw [b]; exact h, a, m, hs⟩
theorem Mv.poke1 {g o : Nat} {w w' : World} (h : Mv g w w') (v : Value) : Mv g w (w'.setCell ⟨g, o, none⟩ v) :=
  ⟨h.os, h.tape, h.output, by simpa [World.setCell] using h.size, fun k hk hr => (Below.heap_setCell _ _ _ _ hr).trans (h.block k hk hr)⟩
theorem Mv.drew1 {g : Nat} {w w' : World} (h : Mv g w w') : Mv g w w'.drew := ⟨h.os, h.tape, h.output, h.size, h.block⟩
end Go.Proofs.Ytdljoopioglkiaa
