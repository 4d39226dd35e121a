/- What each function of blocks answers, in the program and in the specification, as contracts: the answer, and that nothing which was there has turned. The conditions stand at each theorem. -/
import Derived.Test.YtdljoopioglkiaaProg
import Derived.Test.YtdljoopioglkiaaLat
import Derived.Test.YtdljoopioglkiaaRegE
import Derived.Test.YtdljoopioglkiaaMath
import Derived.WalkKit
import Derived.WalkSpells
import Derived.WalkLawsBesides
import Derived.BigQuiet
import Derived.Deep.RegionWith
namespace Go.Proofs.Ytdljoopioglkiaa
open Go.RowKit Go.LatT Go.BlockM Go.RegE
set_option linter.unusedVariables false
set_option linter.unusedSimpArgs false
theorem xor_i64 (a b : Int) (ha : 0 ≤ a) (ha' : a < 4611686018427387904) (hb : 0 ≤ b) (hb' : b < 4611686018427387904) : 0 ≤ bits .xor .i64 a b ∧ bits .xor .i64 a b < 4611686018427387904 := by
  obtain ⟨A, rfl⟩ := Int.eq_ofNat_of_zero_le ha
  obtain ⟨B, rfl⟩ := Int.eq_ofNat_of_zero_le hb
  have h : A ^^^ B < 2 ^ 62 := Nat.xor_lt_two_pow (by omega) (by omega)
  have e : bits .xor .i64 (A : Int) (B : Int) = ((A ^^^ B : Nat) : Int) := by
    show IntKind.i64.wrap ((BitVec.ofInt 64 (A : Int) ^^^ BitVec.ofInt 64 (B : Int)).toNat : Int) = _
    rw [BitVec.toNat_xor, ofInt_u64 A (by omega), ofInt_u64 B (by omega)]
    exact wrap_i64_small _ (by omega) (by omega)
  rw [e]
  omega
/-- What a reader reads: n bytes from a place on. -/
structure Src (w : World) (bb off n : Nat) (z : Nat → Int) : Prop where
  cell : ∀ i, i < n → w.cell? ⟨bb, off + i, none⟩ = some (.int .u8 (z i))
  lo : ∀ i, 0 ≤ z i
  hi : ∀ i, z i ≤ 255
set_option maxHeartbeats 1000000 in
set_option maxRecDepth 100000 in
theorem pick_some (R bb off n cap : Nat) (z : Nat → Int) (p m : Int) (w : World) (hne : bb ≠ R) (h0 : w.cell? ⟨R, 0, none⟩ = some (.slice (some ⟨bb, off, none⟩) n cap)) (h1 : w.cell? ⟨R, 1, none⟩ = some (.int .i64 p)) (hf : w.frozen? ⟨R, 1, none⟩ = false)
    (hs : Src w bb off n z) (hn0 : 1 ≤ n) (hn : n ≤ 2000) (hp : 0 ≤ p) (hp' : p ≤ 1099511627776) (hm : 1 ≤ m) (hm' : m ≤ 4294967296) :
    Calls Try.prog 20 #[.pointer (some ⟨R, 0, none⟩), .int .i64 m] w fun e w' => ∃ (u : Int) (k : Nat), e = .returned (.int .i64 u) ∧ 0 ≤ u ∧ u < m ∧ w' = (w.setCell ⟨R, 1, none⟩ (.int .i64 (p + 1))).drewN k := by
  have hd : ((n : Int) == 0) = false := by simp; omega
  have hnI : (1 : Int) ≤ n := by omega
  have hnI' : (n : Int) ≤ 2000 := by omega
  have hne' : ¬ R = bb := fun e => hne e.symm
  by_cases hk : p < n
  · obtain ⟨pn, rfl⟩ := Int.eq_ofNat_of_zero_le hp
    have hc := hs.cell pn (by omega)
    have hl := hs.lo pn
    have hh := hs.hi pn
    have hb0 : (0 : Int) ≤ (pn : Int) := by omega
    clear hs
    go_enter Try.func20, Try.ntmps20
    go_wp2
    go_ret
    exact ⟨z pn % m, 0, rfl, Int.emod_nonneg _ (by omega), Int.emod_lt_of_pos _ (by omega), rfl⟩
  · obtain ⟨pn, rfl⟩ := Int.eq_ofNat_of_zero_le hp
    have i1 : (0 : Int) ≤ (pn : Int) % (n : Int) := Int.emod_nonneg _ (by omega)
    have i2 : (pn : Int) % (n : Int) < (n : Int) := Int.emod_lt_of_pos _ (by omega)
    have i3 : (0 : Int) ≤ ((pn : Int) * 7 + 3) % (n : Int) := Int.emod_nonneg _ (by omega)
    have i4 : ((pn : Int) * 7 + 3) % (n : Int) < (n : Int) := Int.emod_lt_of_pos _ (by omega)
    have i5 : (0 : Int) ≤ (pn : Int) / (n : Int) := Int.ediv_nonneg (by omega) (by omega)
    have i6 : (pn : Int) / (n : Int) ≤ (pn : Int) := Int.ediv_le_self _ (by omega)
    have c1 := hs.cell (pn % n) (Nat.mod_lt _ (by omega))
    have c2 := hs.cell ((pn * 7 + 3) % n) (Nat.mod_lt _ (by omega))
    have l1 := hs.lo (pn % n)
    have l2 := hs.hi (pn % n)
    have l3 := hs.lo ((pn * 7 + 3) % n)
    have l4 := hs.hi ((pn * 7 + 3) % n)
    clear hs
    go_enter Try.func20, Try.ntmps20
    go_wp2
    go_quiet (fail)
    go_wp2
    go_ret
    have x1 : 0 ≤ z (pn % n) * 131 + z ((pn * 7 + 3) % n) * 1117 + (pn : Int) * 29 + (pn : Int) / (n : Int) * 53 := by omega
    have x2 : z (pn % n) * 131 + z ((pn * 7 + 3) % n) * 1117 + (pn : Int) * 29 + (pn : Int) / (n : Int) * 53 < 4611686018427387904 := by omega
    generalize z (pn % n) * 131 + z ((pn * 7 + 3) % n) * 1117 + (pn : Int) * 29 + (pn : Int) / (n : Int) * 53 = x at *
    obtain ⟨y1, _⟩ := xor_i64 x (x / 64) x1 x2 (by omega) (by omega)
    exact ⟨_, nq, rfl, Int.tmod_nonneg _ y1, Int.tmod_lt_of_pos _ (by omega), rfl⟩
set_option maxHeartbeats 400000 in
set_option maxRecDepth 100000 in
theorem pick_nil (R cap : Nat) (a : Option Addr) (p m : Int) (w : World) (h0 : w.cell? ⟨R, 0, none⟩ = some (.slice a 0 cap)) (h1 : w.cell? ⟨R, 1, none⟩ = some (.int .i64 p)) (hf : w.frozen? ⟨R, 1, none⟩ = false)
    (hp : 0 ≤ p) (hp' : p ≤ 1099511627776) (hm : 1 ≤ m) (hm' : m ≤ 4294967296) :
    Calls Try.prog 20 #[.pointer (some ⟨R, 0, none⟩), .int .i64 m] w fun e w' => ∃ (u : Int) (k : Nat), e = .returned (.int .i64 u) ∧ 0 ≤ u ∧ u < m ∧ w' = (w.setCell ⟨R, 1, none⟩ (.int .i64 (p + 1))).drewN k := by
  go_enter Try.func20, Try.ntmps20
  go_wp2
  go_ret
  exact ⟨0, 0, rfl, by omega, by omega, rfl⟩
/-- A reader, at a place. -/
structure Rdr (w : World) (R : Nat) (sl : Value) (p : Int) : Prop where
  c0 : w.cell? ⟨R, 0, none⟩ = some sl
  c1 : w.cell? ⟨R, 1, none⟩ = some (.int .i64 p)
  fz : w.frozen? ⟨R, 1, none⟩ = false
  src : (∃ a c, sl = .slice a 0 c) ∨ ∃ bb off n cap z, sl = .slice (some ⟨bb, off, none⟩) n cap ∧ bb ≠ R ∧ 1 ≤ n ∧ n ≤ 2000 ∧ Src w bb off n z
theorem pick_any (R : Nat) (sl : Value) (p m : Int) (w : World) (h : Rdr w R sl p) (hp : 0 ≤ p) (hp' : p ≤ 1099511627776) (hm : 1 ≤ m) (hm' : m ≤ 4294967296) :
    Calls Try.prog 20 #[.pointer (some ⟨R, 0, none⟩), .int .i64 m] w fun e w' => ∃ (u : Int) (k : Nat), e = .returned (.int .i64 u) ∧ 0 ≤ u ∧ u < m ∧ w' = (w.setCell ⟨R, 1, none⟩ (.int .i64 (p + 1))).drewN k := by
  rcases h.src with ⟨a, c, rfl⟩ | ⟨bb, off, n, cap, z, rfl, hne, h1, h2, hs⟩
  · exact pick_nil R c a p m w h.c0 h.c1 h.fz hp hp' hm hm'
  · exact pick_some R bb off n cap z p m w hne h.c0 h.c1 h.fz hs h1 h2 hp hp' hm hm'
set_option maxHeartbeats 400000 in
set_option maxRecDepth 100000 in
theorem one_any (R G : Nat) (sl : Value) (p : Int) (vs : List Int) (w : World) (h : Rdr w R sl p) (hG : G ≠ R) (hp : 0 ≤ p) (hp' : p ≤ 1099511627776) (hl : 1 ≤ vs.length) (hl' : vs.length ≤ 100) (hv : ∀ i, i < vs.length → w.cell? ⟨G, i, none⟩ = some (.int .i64 (vs.getD i 0))) :
    Calls Try.prog 25 #[.pointer (some ⟨R, 0, none⟩), .slice (some ⟨G, 0, none⟩) vs.length vs.length] w fun e w' => ∃ (u : Int) (k : Nat), e = .returned (.int .i64 u) ∧ u ∈ vs ∧ w' = (w.setCell ⟨R, 1, none⟩ (.int .i64 (p + 1))).drewN k := by
  have H := hid_in h
  have HV := hid_in hv
  clear h hv
  have hb1 : (1 : Int) ≤ (vs.length : Int) := by omega
  have hb2 : (vs.length : Int) ≤ 100 := by omega
  go_enter Try.func25, Try.ntmps25
  go_wp2_with fail
  refine (pick_any R sl p _ _ H.out hp hp' hb1 (by omega)).mono ?_
  rintro e w' ⟨u, k, rfl, hu0, hu1, rfl⟩
  obtain ⟨un, rfl⟩ := Int.eq_ofNat_of_zero_le hu0
  have hc := HV.out un (by omega)
  have hGR : ¬ R = G := fun e => hG e.symm
  go_wp2_with fail
  go_ret
  exact ⟨_, k, rfl, by
    have hlt : un < vs.length := by omega
    simp [List.getElem?_eq_getElem hlt], rfl⟩
/-- All but one block is as it was. -/
structure Mv (R : Nat) (w w' : World) : Prop where
  os : w'.os = w.os
  tape : w'.tape = w.tape
  output : w'.output = w.output
  size : w.heap.size ≤ w'.heap.size
  block : ∀ k, k < w.heap.size → k ≠ R → w'.heap[k]? = w.heap[k]?
theorem Mv.refl (R : Nat) (w : World) : Mv R w w := ⟨rfl, rfl, rfl, Nat.le_refl _, fun _ _ _ => rfl⟩
theorem Mv.trans {R : Nat} {a b c : World} (h : Mv R a b) (k : Mv R b c) : Mv R a c :=
  ⟨k.os.trans h.os, k.tape.trans h.tape, k.output.trans h.output, Nat.le_trans h.size k.size, fun i hi hr => (k.block i (Nat.lt_of_lt_of_le hi h.size) hr).trans (h.block i hi hr)⟩
theorem Mv.of_below {R : Nat} {w w' : World} (h : Below w.heap.size w w') : Mv R w w' := ⟨h.os, h.tape, h.output, h.size, fun k hk _ => h.block k hk⟩
theorem Mv.below {R B : Nat} {w w' : World} (h : Mv R w w') (hB : B ≤ w.heap.size) (hR : B ≤ R) : Below B w w' := ⟨h.os, h.tape, h.output, h.size, fun k hk => h.block k (by omega) (by omega)⟩
theorem Mv.set (R : Nat) (w : World) (v : Value) (k : Nat) : Mv R w ((w.setCell ⟨R, 1, none⟩ v).drewN k) :=
  ⟨rfl, rfl, rfl, by simp [World.setCell], fun i _ hr => Below.heap_setCell _ _ _ _ hr⟩
theorem Mv.cell {R : Nat} {w w' : World} (h : Mv R w w') (b o : Nat) (hb : b < w.heap.size) (hr : b ≠ R) : w'.cell? ⟨b, o, none⟩ = w.cell? ⟨b, o, none⟩ := by
  unfold World.cell?; rw [h.block b hb hr]
theorem Mv.frozen {R : Nat} {w w' : World} (h : Mv R w w') (b o : Nat) (hb : b < w.heap.size) (hr : b ≠ R) : w'.frozen? ⟨b, o, none⟩ = w.frozen? ⟨b, o, none⟩ := by
  unfold World.frozen?; rw [h.block b hb hr]
theorem cell_lt {w : World} {b o : Nat} {v : Value} (h : w.cell? ⟨b, o, none⟩ = some v) : b < w.heap.size := by
  unfold World.cell? at h
  rcases Nat.lt_or_ge b w.heap.size with h' | h'
  · exact h'
  · simp [Array.getElem?_eq_none h'] at h
theorem Rdr.lt {w : World} {R : Nat} {sl : Value} {p : Int} (h : Rdr w R sl p) : R < w.heap.size := cell_lt h.c1
theorem Rdr.src_of {w w' : World} {R : Nat} {sl : Value} {p : Int} (h : Rdr w R sl p) (hm : Mv R w w') :
    (∃ a c, sl = .slice a 0 c) ∨ ∃ bb off n cap z, sl = .slice (some ⟨bb, off, none⟩) n cap ∧ bb ≠ R ∧ 1 ≤ n ∧ n ≤ 2000 ∧ Src w' bb off n z := by
  rcases h.src with h1 | ⟨bb, off, n, cap, z, e, hne, h1, h2, hs⟩
  · exact .inl h1
  · exact .inr ⟨bb, off, n, cap, z, e, hne, h1, h2, ⟨fun i hi => by rw [hm.cell _ _ (cell_lt (hs.cell i hi)) hne]; exact hs.cell i hi, hs.lo, hs.hi⟩⟩
theorem Rdr.later {w w' : World} {R : Nat} {sl : Value} {p : Int} (h : Rdr w R sl p) (hb : Below w.heap.size w w') : Rdr w' R sl p := by
  obtain ⟨hc, hf⟩ := bcell hb
  exact ⟨by rw [hc _ _ h.lt]; exact h.c0, by rw [hc _ _ h.lt]; exact h.c1, by rw [hf _ _ h.lt]; exact h.fz, h.src_of (Mv.of_below hb)⟩
theorem Rdr.step {w : World} {R : Nat} {sl : Value} {p : Int} (h : Rdr w R sl p) (q : Int) (k : Nat) : Rdr ((w.setCell ⟨R, 1, none⟩ (.int .i64 q)).drewN k) R sl q := by
  have c0 := h.c0
  have c1 := h.c1
  have fz := h.fz
  exact ⟨by go_simp, by go_simp, by go_simp, h.src_of (Mv.set R w _ k)⟩
theorem pickM (R : Nat) (sl : Value) (p m : Int) (w : World) (h : Rdr w R sl p) (hp : 0 ≤ p) (hp' : p ≤ 1099511627776) (hm : 1 ≤ m) (hm' : m ≤ 4294967296) :
    Calls Try.prog 20 #[.pointer (some ⟨R, 0, none⟩), .int .i64 m] w fun e w' => ∃ u : Int, e = .returned (.int .i64 u) ∧ 0 ≤ u ∧ u < m ∧ Rdr w' R sl (p + 1) ∧ Mv R w w' :=
  (pick_any R sl p m w h hp hp' hm hm').mono fun _ _ ⟨u, k, he, h1, h2, hw⟩ => ⟨u, he, h1, h2, by rw [hw]; exact h.step _ k, by rw [hw]; exact Mv.set R w _ k⟩
theorem oneM (R G : Nat) (sl : Value) (p : Int) (vs : List Int) (w : World) (h : Rdr w R sl p) (hG : G ≠ R) (hp : 0 ≤ p) (hp' : p ≤ 1099511627776) (hl : 1 ≤ vs.length) (hl' : vs.length ≤ 100) (hv : ∀ i, i < vs.length → w.cell? ⟨G, i, none⟩ = some (.int .i64 (vs.getD i 0))) :
    Calls Try.prog 25 #[.pointer (some ⟨R, 0, none⟩), .slice (some ⟨G, 0, none⟩) vs.length vs.length] w fun e w' => ∃ u : Int, e = .returned (.int .i64 u) ∧ u ∈ vs ∧ Rdr w' R sl (p + 1) ∧ Mv R w w' :=
  (one_any R G sl p vs w h hG hp hp' hl hl' hv).mono fun _ _ ⟨u, k, he, h1, hw⟩ => ⟨u, he, h1, by rw [hw]; exact h.step _ k, by rw [hw]; exact Mv.set R w _ k⟩
theorem new_ints (vs : List Int) (t : TypeId) (w : World) (i : Nat) (hi : i < vs.length) : (w.alloc (.cells (vs.map fun v => Value.int .i64 v).toArray t)).cell? ⟨w.heap.size, i, none⟩ = some (.int .i64 (vs.getD i 0)) := by
  have h := heap_new w (.cells (vs.map fun v => Value.int .i64 v).toArray t) _ rfl
  unfold World.cell?
  simp only [h]
  simp [hi]
end Go.Proofs.Ytdljoopioglkiaa
