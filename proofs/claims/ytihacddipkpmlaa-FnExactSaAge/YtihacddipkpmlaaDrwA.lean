/- What each function of blocks answers, in the program and in the specification, as contracts: the answer, and that nothing which was there has turned. The conditions stand at each theorem. -/
import Derived.Test.YtihacddipkpmlaaProg
import Derived.Test.YtihacddipkpmlaaLat
import Derived.Test.YtihacddipkpmlaaRegE
import Derived.Test.YtihacddipkpmlaaMath
import Derived.WalkKit
import Derived.WalkSpells
import Derived.WalkLawsBesides
import Derived.BigQuiet
import Derived.Deep.RegionWith
namespace Go.Proofs.Ytihacddipkpmlaa
open Go.RowKit Go.LatT Go.BlockM Go.RegE
set_option linter.unusedVariables false
set_option linter.unusedSimpArgs false
theorem xor_i64 (a b : Int) (ha : 0 ≤ a) (ha' : a < 4611686018427387904) (hb : 0 ≤ b) (hb' : b < 4611686018427387904) : 0 ≤ bits .xor .i64 a b ∧ bits .xor .i64 a b < 4611686018427387904 := by
  obtain ⟨A, rfl⟩ := Int.eq_ofNat_of_zero_le ha
  obtain ⟨B, rfl⟩ := Int.eq_ofNat_of_zero_le hb
  have h : A ^^^ B < 2 ^ 62 := Nat.xor_lt_two_pow (by omega) (by omega)
  have e : bits .xor .i64 (A : Int) (B : Int) = ((A ^^^ B : Nat) : Int) := by
    show IntKind.i64.wrap ((BitVec.ofInt 64 (A : Int) ^^^ BitVec.ofInt 64 (B : Int)).toNat : Int) = _
    rw [BitVec.toNat_xor, ofInt_u64 A (by omega), ofInt_u64 B (by omega)]
    exact wrap_i64_small _ (by omega) (by omega)
  rw [e]
  omega
/-- What a reader reads: n bytes from a place on. -/
structure Src (w : World) (bb off n : Nat) (z : Nat → Int) : Prop where
  cell : ∀ i, i < n → w.cell? ⟨bb, off + i, none⟩ = some (.int .u8 (z i))
  lo : ∀ i, 0 ≤ z i
  hi : ∀ i, z i ≤ 255
/-- A reader, at a place. -/
structure Rdr (w : World) (R : Nat) (sl : Value) (p : Int) : Prop where
  c0 : w.cell? ⟨R, 0, none⟩ = some sl
  c1 : w.cell? ⟨R, 1, none⟩ = some (.int .i64 p)
  fz : w.frozen? ⟨R, 1, none⟩ = false
  src : (∃ a c, sl = .slice a 0 c) ∨ ∃ bb off n cap z, sl = .slice (some ⟨bb, off, none⟩) n cap ∧ bb ≠ R ∧ 1 ≤ n ∧ n ≤ 2000 ∧ Src w bb off n z
/-- All but one block is as it was. -/
structure Mv (R : Nat) (w w' : World) : Prop where
  os : w'.os = w.os
  tape : w'.tape = w.tape
  output : w'.output = w.output
  size : w.heap.size ≤ w'.heap.size
  block : ∀ k, k < w.heap.size → k ≠ R → w'.heap[k]? = w.heap[k]?
theorem Mv.refl (R : Nat) (w : World) : Mv R w w := ⟨rfl, rfl, rfl, Nat.le_refl _, fun _ _ _ => rfl⟩
theorem Mv.trans {R : Nat} {a b c : World} (h : Mv R a b) (k : Mv R b c) : Mv R a c :=
  ⟨k.os.trans h.os, k.tape.trans h.tape, k.output.trans h.output, Nat.le_trans h.size k.size, fun i hi hr => (k.block i (Nat.lt_of_lt_of_le hi h.size) hr).trans (h.block i hi hr)⟩
theorem Mv.of_below {R : Nat} {w w' : World} (h : Below w.heap.size w w') : Mv R w w' := ⟨h.os, h.tape, h.output, h.size, fun k hk _ => h.block k hk⟩
theorem Mv.below {R B : Nat} {w w' : World} (h : Mv R w w') (hB : B ≤ w.heap.size) (hR : B ≤ R) : Below B w w' := ⟨h.os, h.tape, h.output, h.size, fun k hk => h.block k (by omega) (by omega)⟩
theorem Mv.set (R : Nat) (w : World) (v : Value) (k : Nat) : Mv R w ((w.setCell ⟨R, 1, none⟩ v).drewN k) :=
  ⟨rfl, rfl, rfl, by simp [World.setCell], fun i _ hr => Below.heap_setCell _ _ _ _ hr⟩
theorem Mv.cell {R : Nat} {w w' : World} (h : Mv R w w') (b o : Nat) (hb : b < w.heap.size) (hr : b ≠ R) : w'.cell? ⟨b, o, none⟩ = w.cell? ⟨b, o, none⟩ := by
  unfold World.cell?; rw [h.block b hb hr]
theorem Mv.frozen {R : Nat} {w w' : World} (h : Mv R w w') (b o : Nat) (hb : b < w.heap.size) (hr : b ≠ R) : w'.frozen? ⟨b, o, none⟩ = w.frozen? ⟨b, o, none⟩ := by
  unfold World.frozen?; rw [h.block b hb hr]
theorem cell_lt {w : World} {b o : Nat} {v : Value} (h : w.cell? ⟨b, o, none⟩ = some v) : b < w.heap.size := by
  unfold World.cell? at h
  rcases Nat.lt_or_ge b w.heap.size with h' | h'
  · exact h'
  · simp [Array.getElem?_eq_none h'] at h
theorem Rdr.lt {w : World} {R : Nat} {sl : Value} {p : Int} (h : Rdr w R sl p) : R < w.heap.size := cell_lt h.c1
theorem Rdr.src_of {w w' : World} {R : Nat} {sl : Value} {p : Int} (h : Rdr w R sl p) (hm : Mv R w w') :
    (∃ a c, sl = .slice a 0 c) ∨ ∃ bb off n cap z, sl = .slice (some ⟨bb, off, none⟩) n cap ∧ bb ≠ R ∧ 1 ≤ n ∧ n ≤ 2000 ∧ Src w' bb off n z := by
  rcases h.src with h1 | ⟨bb, off, n, cap, z, e, hne, h1, h2, hs⟩
  · exact .inl h1
  · exact .inr ⟨bb, off, n, cap, z, e, hne, h1, h2, ⟨fun i hi => by rw [hm.cell _ _ (cell_lt (hs.cell i hi)) hne]; exact hs.cell i hi, hs.lo, hs.hi⟩⟩
theorem Rdr.later {w w' : World} {R : Nat} {sl : Value} {p : Int} (h : Rdr w R sl p) (hb : Below w.heap.size w w') : Rdr w' R sl p := by
  obtain ⟨hc, hf⟩ := bcell hb
  exact ⟨by rw [hc _ _ h.lt]; exact h.c0, by rw [hc _ _ h.lt]; exact h.c1, by rw [hf _ _ h.lt]; exact h.fz, h.src_of (Mv.of_below hb)⟩
theorem Rdr.step {w : World} {R : Nat} {sl : Value} {p : Int} (h : Rdr w R sl p) (q : Int) (k : Nat) : Rdr ((w.setCell ⟨R, 1, none⟩ (.int .i64 q)).drewN k) R sl q := by
  have c0 := h.c0
  have c1 := h.c1
  have fz := h.fz
  exact ⟨by go_simp, by go_simp, by go_simp, h.src_of (Mv.set R w _ k)⟩
theorem new_ints (vs : List Int) (t : TypeId) (w : World) (i : Nat) (hi : i < vs.length) : (w.alloc (.cells (vs.map fun v => Value.int .i64 v).toArray t)).cell? ⟨w.heap.size, i, none⟩ = some (.int .i64 (vs.getD i 0)) := by
  have h := heap_new w (.cells (vs.map fun v => Value.int .i64 v).toArray t) _ rfl
  unfold World.cell?
  simp only [h]
  simp [hi]
end Go.Proofs.Ytihacddipkpmlaa
