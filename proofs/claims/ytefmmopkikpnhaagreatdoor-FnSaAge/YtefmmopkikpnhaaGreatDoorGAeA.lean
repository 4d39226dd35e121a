/- What is proved: the contracts of AesA, AesB, AesC, AesD, AesE, AesF, AesG, AesH, AesI, AesJ, one behind the other. The conditions stand at each theorem. -/
import Derived.Test.YtefmmopkikpnhaaGreatDoorProg
import Derived.Test.YtefmmopkikpnhaaGreatDoorGBas
import Derived.WalkKit
import Derived.WalkSpells
import Derived.WalkLawsBesides
import Derived.BigQuiet
import Derived.Handy
import Derived.PlainAid
import Derived.Laws.IdiomStrings
import Derived.Laws.BytesArg
import Derived.Deep.RegionHeld3
import Derived.Lib.BufferWrite
import Derived.Tactics
import Derived.Tactics2
import Derived.Defers
import Derived.Recover
import Derived.Laws.Pointers
namespace Go.Proofs.YtefmmopkikpnhaaGreatDoor
open Go.RowKit Go.LatT Go.BlockM Go.PlainAid Go.OpnT Go.ApdG Go.BytM Go.AesM
set_option linter.unusedVariables false
set_option linter.unusedSimpArgs false
theorem ofInt8 (A : Nat) (h : A < 256) : (BitVec.ofInt 8 (A : Int)).toNat = A := by simp [BitVec.toNat_ofInt]; omega
theorem ofInt64 (A : Nat) (h : A < 4611686018427387904) : (BitVec.ofInt 64 (A : Int)).toNat = A := by simp [BitVec.toNat_ofInt]; omega
theorem xor8 (A B : Nat) (hA : A < 256) (hB : B < 256) : bits .xor .u8 (A : Int) (B : Int) = ((A ^^^ B : Nat) : Int) := by
  show IntKind.u8.wrap ((BitVec.ofInt 8 (A : Int) ^^^ BitVec.ofInt 8 (B : Int)).toNat : Int) = _
  rw [BitVec.toNat_xor, ofInt8 A hA, ofInt8 B hB]
  have := xor_lt hA hB
  rw [IntKind.wrap_u8]; omega
theorem xor64 (A B : Nat) (hA : A < 65536) (hB : B < 65536) : bits .xor .i64 (A : Int) (B : Int) = ((A ^^^ B : Nat) : Int) := by
  show IntKind.i64.wrap ((BitVec.ofInt 64 (A : Int) ^^^ BitVec.ofInt 64 (B : Int)).toNat : Int) = _
  rw [BitVec.toNat_xor, ofInt64 A (by omega), ofInt64 B (by omega)]
  have : A ^^^ B < 65536 := Nat.xor_lt_two_pow (n := 16) hA hB
  rw [IntKind.wrap_i64]; omega
theorem and8 (A : Nat) (hA : A < 256) : bits .and .u8 (A : Int) 1 = ((A % 2 : Nat) : Int) := by
  have : ∀ a : Fin 256, bits .and .u8 (a.1 : Int) 1 = ((a.1 % 2 : Nat) : Int) := by decide +kernel
  exact this ⟨A, hA⟩
/-- The program's way of taking times two. -/
theorem xt_impl (a : Nat) (h : a < 256) : (a * 2 % 256) ^^^ (a / 128 * 27) = xt a := by
  have : ∀ a : Fin 256, (a.1 * 2 % 256) ^^^ (a.1 / 128 * 27) = xt a.1 := by decide +kernel
  exact this ⟨a, h⟩
set_option maxHeartbeats 1000000 in
set_option maxRecDepth 100000 in
theorem l6Times_any (a : Nat) (w : World) (h : a < 256) :
    Calls Tryz.prog 131 #[.int .i64 (a : Int)] w fun e w' => e = .returned (.int .i64 ((xt a : Nat) : Int)) ∧ w' = w := by
  have hx := xor64 (a * 2) 283 (by omega) (by omega)
  have e1 : ((a * 2 : Nat) : Int) = (a : Int) * 2 := by omega
  rw [e1] at hx
  have hx' : bits .xor .i64 ((a : Int) * 2) 283 = ((a * 2 ^^^ 283 : Nat) : Int) := hx
  by_cases hb : 255 < a * 2
  · have E := hid_in (show xt a = a * 2 ^^^ 283 by unfold xt; rw [if_pos hb])
    have hb' : (255 : Int) < (a : Int) * 2 := by omega
    clear hx e1 hb
    go_enter Tryz.func131, Tryz.ntmps131
    go_wp2_with fail
    go_ret
    exact ⟨by rw [E.out]; rfl, rfl⟩
  · have E := hid_in (show xt a = a * 2 by unfold xt; rw [if_neg hb])
    have hb' : ¬ (255 : Int) < (a : Int) * 2 := by omega
    clear hx e1 hb hx'
    go_enter Tryz.func131, Tryz.ntmps131
    go_wp2_with fail
    go_ret
    exact ⟨by rw [E.out]; simp, rfl⟩
/-- The loops of taking times go by one bit. -/
theorem mulF_step (f a b o : Nat) (h : b ≠ 0) : mulF (f + 1) a b o = mulF f (xt a) (b / 2) (if b % 2 = 1 then o ^^^ a else o) := by
  rw [mulF, if_neg h]
theorem mulF_end (f a o : Nat) : mulF f a 0 o = o := by cases f <;> simp [mulF]
set_option maxHeartbeats 2000000 in
set_option maxRecDepth 100000 in
theorem l6Mul_any (a b : Nat) (w : World) (ha : a < 256) (hb : b < 256) :
    Calls Tryz.prog 175 #[.int .i64 (a : Int), .int .i64 (b : Int)] w fun e w' => e = .returned (.int .i64 ((mul a b : Nat) : Int)) ∧ w' = w := by
  go_enter Tryz.func175, Tryz.ntmps175
  go_wp2_with fail
  go_loop [0, 1, 5] (fun x y o => ∃ c d r k : Nat, x = .int .i64 (c : Int) ∧ y = .int .i64 (d : Int) ∧ o = .int .i64 (r : Int) ∧ c < 256 ∧ r < 256 ∧ k ≤ 8 ∧ d < 2 ^ k ∧ Hid (mulF k c d r = mul a b)) (fun _ y _ => (intOf y).toNat)
  case atStart => exact ⟨a, b, 0, 8, rfl, rfl, rfl, ha, by omega, by omega, by omega, rfl⟩
  case round =>
    obtain ⟨c, d, r, k, rfl, rfl, rfl, hc, hr, hk, hd, HM⟩ := hrel
    by_cases h0 : d = 0
    · subst h0
      have E := hid_in (HM.out.symm.trans (mulF_end k c r))
      go_wp2_with fail
      go_ret
      exact ⟨by rw [E.out]; rfl, rfl⟩
    · obtain ⟨j, rfl⟩ : ∃ j, k = j + 1 := by
        cases k with
        | zero => simp at hd; omega
        | succ j => exact ⟨j, rfl⟩
      have hd2 : d / 2 < 2 ^ j := by rw [Nat.pow_succ] at hd; omega
      have hpj : 2 ^ j ≤ 2 ^ 8 := Nat.pow_le_pow_right (by omega) (by omega)
      have hxc := xt_lt c hc
      have hx := xor64 r c (by omega) (by omega)
      have hxl := xor_lt hr hc
      have ST := hid_in ((mulF_step j c d r h0).symm.trans HM.out)
      have HD := hid_in hd2
      have hd256 : d < 256 := Nat.lt_of_lt_of_le hd (Nat.pow_le_pow_right (n := 2) (by omega) hk)
      clear hd hd2 hpj
      rcases Nat.mod_two_eq_zero_or_one d with h2 | h2
      · have h2' : (d : Int) % 2 = 0 := by omega
        go_wp2_with fail
        refine (l6Times_any c _ hc).mono ?_
        rintro e w1 ⟨rfl, rfl⟩
        go_wp2_with fail
        refine ⟨⟨xt c, d / 2, r, j, rfl, by simp, rfl, hxc, hr, by omega, HD.out, ?_⟩, by simp [intOf]; omega⟩
        show _ = _
        have := ST.out
        rw [if_neg (by omega)] at this
        exact this
      · have h2' : (d : Int) % 2 = 1 := by omega
        go_wp2_with fail
        refine (l6Times_any c _ hc).mono ?_
        rintro e w1 ⟨rfl, rfl⟩
        go_wp2_with fail
        refine ⟨⟨xt c, d / 2, r ^^^ c, j, rfl, by simp, rfl, hxc, hxl, by omega, HD.out, ?_⟩, by simp [intOf]; omega⟩
        show _ = _
        have := ST.out
        rw [if_pos h2] at this
        exact this
set_option maxHeartbeats 2000000 in
set_option maxRecDepth 100000 in
theorem times_any (a b : Nat) (w : World) (ha : a < 256) (hb : b < 256) :
    Calls Tryz.prog 147 #[.int .u8 (a : Int), .int .u8 (b : Int)] w fun e w' => e = .returned (.int .u8 ((mul a b : Nat) : Int)) ∧ w' = w := by
  go_enter Tryz.func147, Tryz.ntmps147
  go_wp2_with fail
  go_loop [0, 1, 5] (fun x y o => ∃ c d r k : Nat, x = .int .u8 (c : Int) ∧ y = .int .u8 (d : Int) ∧ o = .int .u8 (r : Int) ∧ c < 256 ∧ r < 256 ∧ k ≤ 8 ∧ d < 2 ^ k ∧ Hid (mulF k c d r = mul a b)) (fun _ y _ => (intOf y).toNat)
  case atStart => exact ⟨a, b, 0, 8, rfl, rfl, rfl, ha, by omega, by omega, by omega, rfl⟩
  case round =>
    obtain ⟨c, d, r, k, rfl, rfl, rfl, hc, hr, hk, hd, HM⟩ := hrel
    by_cases h0 : d = 0
    · subst h0
      have E := hid_in (HM.out.symm.trans (mulF_end k c r))
      go_wp2_with fail
      go_ret
      exact ⟨by rw [E.out]; rfl, rfl⟩
    · obtain ⟨j, rfl⟩ : ∃ j, k = j + 1 := by
        cases k with
        | zero => simp at hd; omega
        | succ j => exact ⟨j, rfl⟩
      have hd2 : d / 2 < 2 ^ j := by rw [Nat.pow_succ] at hd; omega
      have hxc := xt_lt c hc
      have hx := xor8 r c hr hc
      have hxl := xor_lt hr hc
      have ST := hid_in ((mulF_step j c d r h0).symm.trans HM.out)
      have HD := hid_in hd2
      have hd256 : d < 256 := Nat.lt_of_lt_of_le hd (Nat.pow_le_pow_right (n := 2) (by omega) hk)
      have hand := and8 d hd256
      have hx2 : bits .xor .u8 ((c : Int) * 2 % 256) ((c : Int) / 128 * 27) = ((xt c : Nat) : Int) := by
        rw [← xt_impl c hc, ← xor8 (c * 2 % 256) (c / 128 * 27) (by omega) (by omega)]
        rw [show ((c * 2 % 256 : Nat) : Int) = (c : Int) * 2 % 256 by omega, show ((c / 128 * 27 : Nat) : Int) = (c : Int) / 128 * 27 by omega]
      clear hd hd2
      rcases Nat.mod_two_eq_zero_or_one d with h2 | h2
      · rw [h2] at hand
        go_wp2_with fail
        refine ⟨⟨xt c, d / 2, r, j, rfl, by simp, rfl, hxc, hr, by omega, HD.out, ?_⟩, by simp [intOf]; omega⟩
        show _ = _
        have := ST.out
        rw [if_neg (by omega)] at this
        exact this
      · rw [h2] at hand
        go_wp2_with fail
        refine ⟨⟨xt c, d / 2, r ^^^ c, j, rfl, by simp, rfl, hxc, hxl, by omega, HD.out, ?_⟩, by simp [intOf]; omega⟩
        show _ = _
        have := ST.out
        rw [if_pos h2] at this
        exact this
end Go.Proofs.YtefmmopkikpnhaaGreatDoor

namespace Go.Proofs.YtefmmopkikpnhaaGreatDoor
open Go.RowKit Go.LatT Go.BlockM Go.PlainAid Go.OpnT Go.ApdG Go.BytM Go.AesM
set_option linter.unusedVariables false
set_option linter.unusedSimpArgs false
/-- All bytes are bytes. -/
def By (n : Nat) (f : Nat → Nat) : Prop := ∀ i, i < n → f i < 256
theorem RBlater {w w' : World} {g n : Nat} {t : TypeId} {f : Nat → Nat} (h : RB w g n t f) (hb : Below w.heap.size w w') : RB w' g n t f := by
  unfold RB; rw [hb.block g h.lt]; exact h
theorem sizeG : (Tryz.prog.info? 119).map (·.size) = some 16 := by kernel_rfl
theorem zeroG : (#[.int .u8 0, .int .u8 0, .int .u8 0, .int .u8 0, .int .u8 0, .int .u8 0, .int .u8 0, .int .u8 0, .int .u8 0, .int .u8 0, .int .u8 0, .int .u8 0, .int .u8 0, .int .u8 0, .int .u8 0, .int .u8 0] : Array Value) = rC 16 (fun _ => 0) := by rfl
/-- Three blocks of bytes, made one behind the other. -/
structure G3 (w W : World) (n1 n2 n3 : Nat) (t1 t2 t3 : TypeId) (f1 f2 f3 : Nat → Nat) : Prop where
  a : RB W w.heap.size n1 t1 f1
  b : RB W (w.heap.size + 1) n2 t2 f2
  c : RB W (w.heap.size + 1 + 1) n3 t3 f3
  bel : Below w.heap.size w W
section
variable {w W : World} {n1 n2 n3 : Nat} {t1 t2 t3 : TypeId} {f1 f2 f3 h : Nat → Nat}
theorem G3.new (w : World) (n1 n2 n3 : Nat) (t1 t2 t3 : TypeId) (f1 f2 f3 : Nat → Nat) : G3 w (((w.alloc (.cells (rC n1 f1) t1)).alloc (.cells (rC n2 f2) t2)).alloc (.cells (rC n3 f3) t3)) n1 n2 n3 t1 t2 t3 f1 f2 f3 := by
  refine ⟨?_, ?_, ?_, by go_grown⟩
  · exact RBlater (RBlater (RB.new w n1 t1 f1) (below_box _ _)) (below_box _ _)
  · have := RBlater (RB.new (w.alloc (.cells (rC n1 f1) t1)) n2 t2 f2) (below_box _ (.cells (rC n3 f3) t3))
    simpa using this
  · have := RB.new ((w.alloc (.cells (rC n1 f1) t1)).alloc (.cells (rC n2 f2) t2)) n3 t3 f3
    simpa using this
theorem G3.drew (h : G3 w W n1 n2 n3 t1 t2 t3 f1 f2 f3) : G3 w W.drew n1 n2 n3 t1 t2 t3 f1 f2 f3 := ⟨h.a, h.b, h.c, h.bel.drew⟩
theorem G3.later {W' : World} (h : G3 w W n1 n2 n3 t1 t2 t3 f1 f2 f3) (hb : Below W.heap.size W W') : G3 w W' n1 n2 n3 t1 t2 t3 f1 f2 f3 := ⟨RBlater h.a hb, RBlater h.b hb, RBlater h.c hb, below_later h.bel hb⟩
theorem G3.set1 (h : G3 w W n1 n2 n3 t1 t2 t3 f1 f2 f3) (k b : Nat) : G3 w (W.setCell ⟨w.heap.size, k, none⟩ (.int .u8 (b : Int))) n1 n2 n3 t1 t2 t3 (fun i => if i = k then b else f1 i) f2 f3 :=
  ⟨h.a.set k b, h.b.other _ _ _ (by omega), h.c.other _ _ _ (by omega), h.bel.setCell (Nat.le_refl _) _⟩
theorem G3.set3 (h : G3 w W n1 n2 n3 t1 t2 t3 f1 f2 f3) (k b : Nat) : G3 w (W.setCell ⟨w.heap.size + 1 + 1, k, none⟩ (.int .u8 (b : Int))) n1 n2 n3 t1 t2 t3 f1 f2 (fun i => if i = k then b else f3 i) :=
  ⟨h.a.other _ _ _ (by omega), h.b.other _ _ _ (by omega), h.c.set k b, h.bel.setCell (by simp; omega) _⟩
theorem G3.congr1 (g : G3 w W n1 n2 n3 t1 t2 t3 f1 f2 f3) (e : ∀ i, i < n1 → f1 i = h i) : G3 w W n1 n2 n3 t1 t2 t3 h f2 f3 := ⟨g.a.congr e, g.b, g.c, g.bel⟩
theorem G3.congr3 (g : G3 w W n1 n2 n3 t1 t2 t3 f1 f2 f3) (e : ∀ i, i < n3 → f3 i = h i) : G3 w W n1 n2 n3 t1 t2 t3 f1 f2 h := ⟨g.a, g.b, g.c.congr e, g.bel⟩
end
theorem Below_setRow {w W : World} {B g : Nat} {cs : Array Value} (h : Below B w W) (hg : B ≤ g) : Below B w (W.setRow g cs) := by
  refine ⟨h.os, h.tape, h.output, ?_, fun k hk => ?_⟩
  · simpa [World.setRow] using h.size
  · rw [← h.block k hk]
    simp only [World.setRow, Array.getElem?_modify]
    rw [if_neg (by omega)]
theorem setRow_at {W : World} {g : Nat} {cs old : Array Value} {t : TypeId} (h : W.heap[g]? = some (.cells old t (0, 0))) : (W.setRow g cs).heap[g]? = some (.cells cs t (0, 0)) := setRow_heap W g old cs t _ h
set_option maxHeartbeats 2000000 in
set_option maxRecDepth 100000 in
theorem with_any (f g : Nat → Nat) (w : World) (hf : By 16 f) (hg : By 16 g) :
    Calls Tryz.prog 101 #[.agg (rC 16 f), .agg (rC 16 g)] w fun e w' => e = .returned (.agg (rC 16 fun i => f i ^^^ g i)) ∧ Below w.heap.size w w' := by
  have G0 := hid_in (G3.new w 16 16 16 119 119 119 f g (fun _ => 0))
  rw [← zeroG] at G0
  go_enter Tryz.func101, Tryz.ntmps101
  go_wp2_with fail
  generalize (((w.alloc (.cells (rC 16 f) 119)).alloc (.cells (rC 16 g) 119)).alloc (.cells _ 119)) = W0 at *
  go_loopw [6] (fun v wr => ∃ k : Nat, k ≤ 16 ∧ v = .int .i64 (k : Int) ∧ Hid (G3 w wr 16 16 16 119 119 119 (fun i => if i < k then f i ^^^ g i else f i) g (fun _ => 0))) (fun v _ => 16 - (intOf v).toNat)
  case atStart =>
    refine ⟨0, Nat.zero_le _, rfl, ?_⟩
    exact G0.out.congr1 (fun i _ => by simp)
  case round =>
    obtain ⟨k, hk, rfl, HW⟩ := hrel
    by_cases hlt : k < 16
    · have c1 := HW.out.a.cell k hlt
      have c2 := HW.out.b.cell k hlt
      have c3 := HW.out.a.frozen k
      rw [if_neg (Nat.lt_irrefl k)] at c1
      have hx := xor8 (f k) (g k) (hf k hlt) (hg k hlt)
      have HL := hid_in hlt
      have q1 : (k : Int) < 16 := by omega
      go_wp2_with fail
      go_region
      go_wp2_with fail
      refine ⟨⟨k + 1, HL.out, by simp, ?_⟩, by have := HL.out; simp [intOf]; omega⟩
      refine ((HW.out.set1 k (f k ^^^ g k)).congr1 (fun i hi => ?_)).drew
      show (if i = k then f k ^^^ g k else if i < k then f i ^^^ g i else f i) = if i < k + 1 then f i ^^^ g i else f i
      by_cases e : i = k
      · subst e; simp
      · by_cases e2 : i < k
        · rw [if_neg e, if_pos e2, if_pos (by omega)]
        · rw [if_neg e, if_neg e2, if_neg (by omega)]
    · have q1 : ¬ (k : Int) < 16 := by omega
      have G := hid_in (HW.out.congr1 (h := fun i => f i ^^^ g i) (fun i hi => by show (if i < k then _ else _) = _; rw [if_pos (by omega)]))
      go_wp2_with (first | (refine wpList_load_row rfl 119 _ rfl w.heap.size rfl 119 _ (0, 0) _ G.out.a Tryz.underlying119 rfl sizeG ?_) | (refine wpList_store_row rfl 119 _ _ rfl (w.heap.size + 1 + 1) _ rfl rfl 119 _ G.out.c sizeG rfl (rC_one _ _) ?_))
      refine bodyPost_ret (v := .agg (rC 16 fun i => f i ^^^ g i)) (results_cell_row Tryz.results101 _ _ (w.heap.size + 1 + 1) 119 _ (0, 0) _ rfl (setRow_at G.out.c) Tryz.underlying119 rfl sizeG) rfl ⟨rfl, Below_setRow G.out.bel (by omega)⟩
theorem sizeU8 (w : World) : (sizeOf 5).run Tryz.prog w = .ok 1 w := by kernel_rfl
theorem aggU8 (w : World) : (isAgg 5).run Tryz.prog w = .ok false w := by kernel_rfl
theorem idxG (f : Nat → Nat) (k : Nat) (h : k < 16) (W : World) : (Instr.index 119 (.agg (rC 16 f)) (.int .i64 (k : Int))).run Tryz.prog W = .ok (.int .u8 (f k : Int)) W := by
  have h2 : (k : Int) < 16 := by omega
  have h3 := rC_get 16 f k h
  simp [Instr.index, run_underlying Tryz.underlying119, asIntOf, h, h2, h3, go_sem, part, aggU8, sizeU8]
set_option maxHeartbeats 2000000 in
set_option maxRecDepth 100000 in
theorem looked_any (f u : Nat → Nat) (w : World) (hf : By 16 f) :
    Calls Tryz.prog 148 #[.agg (rC 16 f), .agg (rC 256 u)] w fun e w' => e = .returned (.agg (rC 16 fun i => u (f i))) ∧ Below w.heap.size w w' := by
  have G0 := hid_in (G3.new w 16 256 16 119 169 119 f u (fun _ => 0))
  rw [← zeroG] at G0
  go_enter Tryz.func148, Tryz.ntmps148
  go_wp2_with (first | (refine wpList_load_row rfl 119 _ rfl w.heap.size rfl 119 _ (0, 0) _ G0.out.a Tryz.underlying119 rfl sizeG ?_))
  generalize (((w.alloc (.cells (rC 16 f) 119)).alloc (.cells (rC 256 u) 169)).alloc (.cells _ 119)) = W0 at *
  go_loopw [8] (fun v wr => ∃ k : Nat, k ≤ 16 ∧ v = .int .i64 (k : Int) ∧ Hid (G3 w wr 16 256 16 119 169 119 (fun i => if i < k then u (f i) else f i) u (fun _ => 0))) (fun v _ => 16 - (intOf v).toNat)
  case atStart =>
    refine ⟨0, Nat.zero_le _, rfl, ?_⟩
    exact G0.out.congr1 (fun i _ => by simp)
  case round =>
    obtain ⟨k, hk, rfl, HW⟩ := hrel
    by_cases hlt : k < 16
    · have c1 := HW.out.a.cell k hlt
      have hfk := hf k hlt
      have c2 := HW.out.b.cell (f k) hfk
      have c3 := HW.out.a.frozen k
      have c4 := idxG f k hlt
      have HL := hid_in hlt
      have q1 : (k : Int) < 16 := by omega
      have q2 : ((f k : Nat) : Int) < 256 := by omega
      go_wp2_with fail
      refine ⟨⟨k + 1, HL.out, by simp, ?_⟩, by have := HL.out; simp [intOf]; omega⟩
      refine (HW.out.set1 k (u (f k))).congr1 (fun i hi => ?_)
      show (if i = k then u (f k) else if i < k then u (f i) else f i) = if i < k + 1 then u (f i) else f i
      by_cases e : i = k
      · subst e; simp
      · by_cases e2 : i < k
        · rw [if_neg e, if_pos e2, if_pos (by omega)]
        · rw [if_neg e, if_neg e2, if_neg (by omega)]
    · have q1 : ¬ (k : Int) < 16 := by omega
      have G := hid_in (HW.out.congr1 (h := fun i => u (f i)) (fun i hi => by show (if i < k then _ else _) = _; rw [if_pos (by omega)]))
      go_wp2_with (first | (refine wpList_load_row rfl 119 _ rfl w.heap.size rfl 119 _ (0, 0) _ G.out.a Tryz.underlying119 rfl sizeG ?_) | (refine wpList_store_row rfl 119 _ _ rfl (w.heap.size + 1 + 1) _ rfl rfl 119 _ G.out.c sizeG rfl (rC_one _ _) ?_))
      refine bodyPost_ret (v := .agg (rC 16 fun i => u (f i))) (results_cell_row Tryz.results148 _ _ (w.heap.size + 1 + 1) 119 _ (0, 0) _ rfl (setRow_at G.out.c) Tryz.underlying119 rfl sizeG) rfl ⟨rfl, Below_setRow G.out.bel (by omega)⟩
/-- Rows turned by so many columns. -/
def shf (c : Nat) (f : Nat → Nat) (i : Nat) : Nat := f ((i + i % 4 * c * 4) % 16)
set_option maxHeartbeats 2000000 in
set_option maxRecDepth 100000 in
theorem shifted_any (f : Nat → Nat) (c : Nat) (w : World) (hc : c ≤ 3) :
    Calls Tryz.prog 149 #[.agg (rC 16 f), .int .i64 (c : Int)] w fun e w' => e = .returned (.agg (rC 16 (shf c f))) ∧ Below w.heap.size w w' := by
  have G0 := hid_in (G3.new w 16 16 16 119 119 119 f (fun _ => 0) (fun _ => 0))
  rw [← zeroG] at G0
  go_enter Tryz.func149, Tryz.ntmps149
  go_wp2_with fail
  generalize (((w.alloc (.cells (rC 16 f) 119)).alloc (.cells _ 119)).alloc (.cells _ 119)) = W0 at *
  go_loopw [7] (fun v wr => ∃ k : Nat, k ≤ 16 ∧ v = .int .i64 (k : Int) ∧ Hid (G3 w wr 16 16 16 119 119 119 f (fun _ => 0) (fun i => if i < k then shf c f i else 0))) (fun v _ => 16 - (intOf v).toNat)
  case atStart =>
    refine ⟨0, Nat.zero_le _, rfl, ?_⟩
    exact G0.out.congr3 (fun i _ => by simp)
  case round =>
    obtain ⟨k, hk, rfl, HW⟩ := hrel
    by_cases hlt : k < 16
    · obtain ⟨j, hj⟩ : ∃ j, (k + k % 4 * c * 4) % 16 = j := ⟨_, rfl⟩
      have hj16 : j < 16 := by omega
      have c1 := HW.out.a.cell j hj16
      have c2 := HW.out.c.cell k hlt
      have c3 := HW.out.c.frozen k
      have HL := hid_in hlt
      have q1 : (k : Int) < 16 := by omega
      have hm : k % 4 * c ≤ 9 := by
        have h1 : k % 4 ≤ 3 := by omega
        exact Nat.mul_le_mul h1 hc
      have e1 : (k : Int) % 4 * (c : Int) = ((k % 4 * c : Nat) : Int) := by simp
      have e2 : ((k : Int) + ((k % 4 * c : Nat) : Int) * 4) % 16 = (j : Int) := by omega
      have HJ := hid_in (show shf c f k = f j by unfold shf; rw [hj])
      clear hj
      generalize k % 4 * c = m at *
      go_wp2_with fail
      refine ⟨⟨k + 1, HL.out, by simp, ?_⟩, by have := HL.out; simp [intOf]; omega⟩
      refine (HW.out.set3 k (f j)).congr3 (fun i hi => ?_)
      show (if i = k then f j else if i < k then shf c f i else 0) = if i < k + 1 then shf c f i else 0
      by_cases e : i = k
      · subst e; rw [if_pos rfl, if_pos (by omega), HJ.out]
      · by_cases e2 : i < k
        · rw [if_neg e, if_pos e2, if_pos (by omega)]
        · rw [if_neg e, if_neg e2, if_neg (by omega)]
    · have q1 : ¬ (k : Int) < 16 := by omega
      have G := hid_in (HW.out.congr3 (h := shf c f) (fun i hi => by show (if i < k then _ else _) = _; rw [if_pos (by omega)]))
      go_wp2_with (first | (refine wpList_load_row rfl 119 _ rfl (w.heap.size + 1 + 1) rfl 119 _ (0, 0) _ G.out.c Tryz.underlying119 rfl sizeG ?_) | (refine wpList_store_row rfl 119 _ _ rfl (w.heap.size + 1) _ rfl rfl 119 _ G.out.b sizeG rfl (rC_one _ _) ?_))
      refine bodyPost_ret (v := .agg (rC 16 (shf c f))) (results_cell_row Tryz.results149 _ _ (w.heap.size + 1) 119 _ (0, 0) _ rfl (setRow_at G.out.b) Tryz.underlying119 rfl sizeG) rfl ⟨rfl, Below_setRow G.out.bel (by omega)⟩
end Go.Proofs.YtefmmopkikpnhaaGreatDoor

namespace Go.Proofs.YtefmmopkikpnhaaGreatDoor
open Go.RowKit Go.LatT Go.BlockM Go.PlainAid Go.OpnT Go.ApdG Go.BytM Go.AesM
set_option linter.unusedVariables false
set_option linter.unusedSimpArgs false
/-- Four blocks of bytes, made one behind the other. -/
structure G4 (w W : World) (n1 n2 n3 n4 : Nat) (t1 t2 t3 t4 : TypeId) (f1 f2 f3 f4 : Nat → Nat) : Prop where
  a : RB W w.heap.size n1 t1 f1
  b : RB W (w.heap.size + 1) n2 t2 f2
  c : RB W (w.heap.size + 1 + 1) n3 t3 f3
  d : RB W (w.heap.size + 1 + 1 + 1) n4 t4 f4
  bel : Below w.heap.size w W
section
variable {w W : World} {n1 n2 n3 n4 : Nat} {t1 t2 t3 t4 : TypeId} {f1 f2 f3 f4 h : Nat → Nat}
theorem G4.new (w : World) (n1 n2 n3 n4 : Nat) (t1 t2 t3 t4 : TypeId) (f1 f2 f3 f4 : Nat → Nat) : G4 w ((((w.alloc (.cells (rC n1 f1) t1)).alloc (.cells (rC n2 f2) t2)).alloc (.cells (rC n3 f3) t3)).alloc (.cells (rC n4 f4) t4)) n1 n2 n3 n4 t1 t2 t3 t4 f1 f2 f3 f4 := by
  have g := (G3.new w n1 n2 n3 t1 t2 t3 f1 f2 f3).later (below_box _ (.cells (rC n4 f4) t4))
  refine ⟨g.a, g.b, g.c, ?_, g.bel⟩
  have := RB.new (((w.alloc (.cells (rC n1 f1) t1)).alloc (.cells (rC n2 f2) t2)).alloc (.cells (rC n3 f3) t3)) n4 t4 f4
  simpa using this
theorem G4.drew (h : G4 w W n1 n2 n3 n4 t1 t2 t3 t4 f1 f2 f3 f4) : G4 w W.drew n1 n2 n3 n4 t1 t2 t3 t4 f1 f2 f3 f4 := ⟨h.a, h.b, h.c, h.d, h.bel.drew⟩
theorem G4.later {W' : World} (h : G4 w W n1 n2 n3 n4 t1 t2 t3 t4 f1 f2 f3 f4) (hb : Below W.heap.size W W') : G4 w W' n1 n2 n3 n4 t1 t2 t3 t4 f1 f2 f3 f4 := ⟨RBlater h.a hb, RBlater h.b hb, RBlater h.c hb, RBlater h.d hb, below_later h.bel hb⟩
theorem G4.set4 (h : G4 w W n1 n2 n3 n4 t1 t2 t3 t4 f1 f2 f3 f4) (k b : Nat) : G4 w (W.setCell ⟨w.heap.size + 1 + 1 + 1, k, none⟩ (.int .u8 (b : Int))) n1 n2 n3 n4 t1 t2 t3 t4 f1 f2 f3 (fun i => if i = k then b else f4 i) :=
  ⟨h.a.other _ _ _ (by omega), h.b.other _ _ _ (by omega), h.c.other _ _ _ (by omega), h.d.set k b, h.bel.setCell (by simp; omega) _⟩
theorem G4.congr4 (g : G4 w W n1 n2 n3 n4 t1 t2 t3 t4 f1 f2 f3 f4) (e : ∀ i, i < n4 → f4 i = h i) : G4 w W n1 n2 n3 n4 t1 t2 t3 t4 f1 f2 f3 h := ⟨g.a, g.b, g.c, g.d.congr e, g.bel⟩
end
/-- The first k parts of a mixed byte. -/
def mixK (f g : Nat → Nat) (i : Nat) : Nat → Nat
  | 0 => 0
  | k + 1 => mixK f g i k ^^^ mul (f (i - i % 4 + k)) (g ((k + 4 - i % 4) % 4))
/-- Columns mixed. -/
def mix (f g : Nat → Nat) (i : Nat) : Nat := mixK f g i 4
theorem mixK_lt {f g : Nat → Nat} (hf : By 16 f) (i : Nat) (hi : i < 16) : ∀ k, k ≤ 4 → mixK f g i k < 256
  | 0, _ => by simp [mixK]
  | k + 1, h => by
    rw [mixK]
    exact xor_lt (mixK_lt hf i hi k (by omega)) (mul_lt (hf _ (by omega)))
set_option maxHeartbeats 4000000 in
set_option maxRecDepth 100000 in
theorem mixed_any (f g : Nat → Nat) (w : World) (hf : By 16 f) (hg : By 4 g) :
    Calls Tryz.prog 150 #[.agg (rC 16 f), .agg (rC 4 g)] w fun e w' => e = .returned (.agg (rC 16 (mix f g))) ∧ Below w.heap.size w w' := by
  have G0 := hid_in (G4.new w 16 4 16 16 119 174 119 119 f g (fun _ => 0) (fun _ => 0))
  rw [← zeroG] at G0
  go_enter Tryz.func150, Tryz.ntmps150
  go_wp2_with fail
  generalize ((((w.alloc (.cells (rC 16 f) 119)).alloc (.cells (rC 4 g) 174)).alloc (.cells _ 119)).alloc (.cells _ 119)) = W0 at *
  go_loopw [10] (fun v wr => ∃ k : Nat, k ≤ 16 ∧ v = .int .i64 (k : Int) ∧ Hid (G4 w wr 16 4 16 16 119 174 119 119 f g (fun _ => 0) (fun i => if i < k then mix f g i else 0))) (fun v _ => 16 - (intOf v).toNat)
  case atStart =>
    refine ⟨0, Nat.zero_le _, rfl, ?_⟩
    exact G0.out.congr4 (fun i _ => by simp)
  case round =>
    obtain ⟨k, hk, rfl, HW⟩ := hrel
    by_cases hlt : k < 16
    · have HL := hid_in hlt
      have q1 : (k : Int) < 16 := by omega
      go_wp2_with fail
      go_loopw [19] (fun v wr => ∃ j : Nat, j ≤ 4 ∧ v = .int .i64 (j : Int) ∧ Hid (G4 w wr 16 4 16 16 119 174 119 119 f g (fun _ => 0) (fun i => if i = k then mixK f g k j else if i < k then mix f g i else 0))) (fun v _ => 4 - (intOf v).toNat)
      case atStart =>
        refine ⟨0, Nat.zero_le _, rfl, ?_⟩
        refine HW.out.congr4 (fun i _ => ?_)
        show (if i < k then mix f g i else 0) = if i = k then mixK f g k 0 else if i < k then mix f g i else 0
        by_cases e : i = k
        · subst e; simp [mixK]
        · rw [if_neg e]
      case round =>
        obtain ⟨j, hj, rfl, HV⟩ := hrel
        by_cases hjl : j < 4
        · obtain ⟨x, hx⟩ : ∃ x, k - k % 4 + j = x := ⟨_, rfl⟩
          obtain ⟨y, hy⟩ : ∃ y, (j + 4 - k % 4) % 4 = y := ⟨_, rfl⟩
          have hx16 : x < 16 := by omega
          have hy4 : y < 4 := by omega
          have c1 := HV.out.a.cell x hx16
          have c2 := HV.out.b.cell y hy4
          have c3 := HV.out.d.cell k HL.out
          rw [if_pos rfl] at c3
          have c4 := HV.out.d.frozen k
          have e1 : (k : Int) - (k : Int) % 4 + (j : Int) = (x : Int) := by omega
          have e2 : ((j : Int) - (k : Int) % 4 + 4) % 4 = (y : Int) := by omega
          have TM := hid_in (fun w => times_any (f x) (g y) w (hf x hx16) (hg y hy4))
          have hmk := mixK_lt (g := g) hf k HL.out j (by omega)
          have hxo := xor8 (mixK f g k j) (mul (f x) (g y)) hmk (mul_lt (hf x hx16))
          have HM := hid_in (show mixK f g k (j + 1) = mixK f g k j ^^^ mul (f x) (g y) by rw [mixK, hx, hy])
          have HJ := hid_in hjl
          have q2 : (j : Int) < 4 := by omega
          generalize mixK f g k j = m0 at *
          generalize mul (f x) (g y) = m1 at *
          have e3 : IntKind.i64.wrap ((k : Int) - (k : Int) % 4 + (j : Int)) = (x : Int) := by rw [IntKind.wrap_i64]; omega
          have e4 : IntKind.i64.wrap ((j : Int) - (k : Int) % 4) = (j : Int) - (k : Int) % 4 := by rw [IntKind.wrap_i64]; omega
          have e5 : IntKind.i64.wrap ((j : Int) - (k : Int) % 4 + 4) = (j : Int) - (k : Int) % 4 + 4 := by rw [IntKind.wrap_i64]; omega
          have e6 : ((j : Int) - (k : Int) % 4 + 4).tmod 4 = (y : Int) := by rw [Int.tmod_eq_emod_of_nonneg (by omega)]; omega
          have e7 : IntKind.i64.wrap (y : Int) = (y : Int) := by rw [IntKind.wrap_i64]; omega
          have e8 : IntKind.i64.wrap (x : Int) = (x : Int) := by rw [IntKind.wrap_i64]; omega
          have q3 : (x : Int) < 16 := by omega
          have l1 := HV.out.a.lt; have l2 := HV.out.b.lt; have l3 := HV.out.d.lt
          have q4 : (y : Int) < 4 := by omega
          go_wp2_with fail
          refine wp_region_lat_tail (Below.refl _ _) (by kernel_rfl) (by dsimp only [List.dropLast]) (by exact rfl) (by kernel_rfl) ?_
          intro hne hcl
          repeat (go_big_quiet_step (first | (go_at_call 147; exact lat_same (TM.out _))))
          refine wpQuiet_nil ?_
          intro w1 hb1
          obtain ⟨hc1, hf1⟩ := bcell hb1
          clear hne hcl
          have V1 := hid_in (HV.out.later hb1)
          clear c1 c2 c3 c4 l1 l2 l3 hc1 hf1 hb1
          have d1 := V1.out.d.cell k HL.out
          have d2 := V1.out.d.frozen k
          go_wp2_with fail
          refine ⟨⟨j + 1, HJ.out, by simp, ?_⟩, by have := HJ.out; simp [intOf]; omega⟩
          refine (V1.out.set4 k (m0 ^^^ m1)).congr4 (fun i hi => ?_)
          show (if i = k then m0 ^^^ m1 else if i = k then m0 else if i < k then mix f g i else 0) = if i = k then mixK f g k (j + 1) else if i < k then mix f g i else 0
          by_cases e : i = k
          · rw [if_pos e, if_pos e, HM.out]
          · rw [if_neg e, if_neg e, if_neg e]
        · have q2 : ¬ (j : Int) < 4 := by omega
          have ej : j = 4 := by omega
          have EJ := hid_in ej
          clear ej
          go_wp2_with fail
          refine ⟨⟨k + 1, HL.out, by simp, ?_⟩, by have := HL.out; simp [intOf]; omega⟩
          refine HV.out.congr4 (fun i hi => ?_)
          show (if i = k then mixK f g k j else if i < k then mix f g i else 0) = if i < k + 1 then mix f g i else 0
          by_cases e : i = k
          · subst e; rw [if_pos rfl, if_pos (by omega), EJ.out]; rfl
          · by_cases e2 : i < k
            · rw [if_neg e, if_pos e2, if_pos (by omega)]
            · rw [if_neg e, if_neg e2, if_neg (by omega)]
    · have q1 : ¬ (k : Int) < 16 := by omega
      have G := hid_in (HW.out.congr4 (h := mix f g) (fun i hi => by show (if i < k then _ else _) = _; rw [if_pos (by omega)]))
      go_wp2_with (first | (refine wpList_load_row rfl 119 _ rfl (w.heap.size + 1 + 1 + 1) rfl 119 _ (0, 0) _ G.out.d Tryz.underlying119 rfl sizeG ?_) | (refine wpList_store_row rfl 119 _ _ rfl (w.heap.size + 1 + 1) _ rfl rfl 119 _ G.out.c sizeG rfl (rC_one _ _) ?_))
      refine bodyPost_ret (v := .agg (rC 16 (mix f g))) (results_cell_row Tryz.results150 _ _ (w.heap.size + 1 + 1) 119 _ (0, 0) _ rfl (setRow_at G.out.c) Tryz.underlying119 rfl sizeG) rfl ⟨rfl, Below_setRow G.out.bel (by omega)⟩
end Go.Proofs.YtefmmopkikpnhaaGreatDoor

namespace Go.Proofs.YtefmmopkikpnhaaGreatDoor
open Go.RowKit Go.LatT Go.BlockM Go.PlainAid Go.OpnT Go.ApdG Go.BytM Go.AesM
set_option linter.unusedVariables false
set_option linter.unusedSimpArgs false
/-- A byte turned to the left. -/
def rot (x k : Nat) : Nat := (x * 2 ^ k % 256) ||| (x / 2 ^ (8 - k))
theorem or8 (A B : Nat) (hA : A < 256) (hB : B < 256) : bits .or .u8 (A : Int) (B : Int) = ((A ||| B : Nat) : Int) := by
  show IntKind.u8.wrap ((BitVec.ofInt 8 (A : Int) ||| BitVec.ofInt 8 (B : Int)).toNat : Int) = _
  rw [BitVec.toNat_or, ofInt8 A hA, ofInt8 B hB]
  have : A ||| B < 256 := Nat.or_lt_two_pow (n := 8) hA hB
  rw [IntKind.wrap_u8]; omega
theorem rot_lt (x k : Nat) (hx : x < 256) : rot x k < 256 :=
  Nat.or_lt_two_pow (n := 8) (Nat.mod_lt _ (by decide)) (Nat.lt_of_le_of_lt (Nat.div_le_self _ _) hx)
theorem and7 (k : Nat) (h : k ≤ 4) : bits .and .u64 (k : Int) 7 = (k : Int) := by
  have : ∀ a : Fin 5, bits .and .u64 (a.1 : Int) 7 = (a.1 : Int) := by decide +kernel
  exact this ⟨k, by omega⟩
set_option maxHeartbeats 2000000 in
set_option maxRecDepth 100000 in
theorem rotl_any (x k : Nat) (w : World) (hx : x < 256) (hk : k ≤ 4) :
    Calls Tryz.prog 180 #[.int .u8 (x : Int), .int .i64 (k : Int)] w fun e w' => e = .returned (.int .u8 ((rot x k : Nat) : Int)) ∧ w' = w := by
  have h7 := and7 k hk
  have ho := or8 (x * 2 ^ k % 256) (x / 2 ^ (8 - k)) (Nat.mod_lt _ (by decide)) (Nat.lt_of_le_of_lt (Nat.div_le_self _ _) hx)
  go_enter Tryz.func180, Tryz.ntmps180
  go_wp2_with fail
  go_ret
  refine ⟨ret_int ?_, rfl⟩
  rw [rot, ← ho]
  simp
/-- The first k turnings put together. -/
def sbK (x : Nat) : Nat → Nat
  | 0 => 99
  | k + 1 => sbK x k ^^^ rot x k
theorem sbK_lt (x : Nat) (hx : x < 256) : ∀ k, sbK x k < 256
  | 0 => by simp [sbK]
  | k + 1 => xor_lt (sbK_lt x hx k) (rot_lt x k hx)
/-- What the inverse is turned to. -/
def sb (x : Nat) : Nat := sbK x 5
/-- A byte entered into the table. -/
def upd (F : Nat → Nat) (b to : Nat) (j : Nat) : Nat := if j = 256 + to then b else if j = b then to else F j
/-- What entering answers. -/
def EntP (F : Nat → Nat) (b x gt : Nat) (w : World) (e : Ending) (w' : World) : Prop := e = .returned (.tuple #[]) ∧ RB w' gt 512 171 (upd F b (sb x)) ∧ Below gt w w' ∧ w'.heap.size = w.heap.size ∧ ∀ k, k ≠ gt → w'.heap[k]? = w.heap[k]?
set_option maxHeartbeats 2000000 in
set_option maxRecDepth 100000 in
theorem enter_any (F : Nat → Nat) (b x gt gv : Nat) (w : World) (hb : b < 256) (hx : x < 256) (hT : RB w gt 512 171 F) (hv : w.cell? ⟨gv, 0, none⟩ = some (.pointer (some ⟨gt, 0, none⟩))) (hne : gv ≠ gt) :
    Calls Tryz.prog 179 #[.int .u8 (b : Int), .int .u8 (x : Int), .pointer (some ⟨gv, 0, none⟩)] w fun e w' => EntP F b x gt w e w' := by
  have T := hid_in hT
  clear hT
  go_enter Tryz.func179, Tryz.ntmps179
  go_wp2_with fail
  go_loop [5, 7] (fun o v => ∃ k : Nat, k ≤ 5 ∧ v = .int .i64 (k : Int) ∧ o = .int .u8 ((sbK x k : Nat) : Int)) (fun _ v => 5 - (intOf v).toNat)
  case atStart => exact ⟨0, Nat.zero_le _, rfl, rfl⟩
  case round =>
    obtain ⟨k, hk, rfl, rfl⟩ := hrel
    by_cases hlt : k < 5
    · have hxo := xor8 (sbK x k) (rot x k) (sbK_lt x hx k) (rot_lt x k hx)
      have HS := hid_in (show sbK x (k + 1) = sbK x k ^^^ rot x k from rfl)
      have HL := hid_in hlt
      have q1 : (k : Int) < 5 := by omega
      generalize sbK x k = a at *
      go_wp2_with fail
      refine (rotl_any x k _ hx (by have := HL.out; omega)).mono ?_
      rintro e w1 ⟨rfl, rfl⟩
      go_wp2_with fail
      exact ⟨⟨k + 1, HL.out, by simp, by rw [HS.out]⟩, by have := HL.out; simp [intOf]; omega⟩
    · obtain rfl : k = 5 := by omega
      have h2 := sbK_lt x hx 5
      have HS := hid_in (show sb x = sbK x 5 from rfl)
      generalize sbK x 5 = to at *
      have c1 := T.out.cell b (by omega)
      have c2 := T.out.cell (256 + to) (by omega)
      have c3 := T.out.frozen b
      have c4 := T.out.frozen (256 + to)
      have q2 : (b : Int) < 256 := by omega
      have q3 : (to : Int) < 256 := by omega
      have q4 : b ≠ 256 + to := by omega
      have q5 : 256 + to ≠ b := by omega
      go_wp2_with fail
      go_region
      go_wp2_with fail
      go_end0
      refine ⟨rfl, ?_, ?_, by simp, ?_⟩
      · have := (T.out.set b to).set (256 + to) b
        rw [HS.out]
        exact this
      · exact (((Below.refl gt w).setCell (p := ⟨gt, b, none⟩) (Nat.le_refl gt) _).setCell (p := ⟨gt, 256 + to, none⟩) (Nat.le_refl gt) _).drew
      · intro k hk
        show (World.setCell _ _ _).heap[k]? = _
        rw [heap_setCell_other _ ⟨gt, 256 + to, none⟩ k _ hk, heap_setCell_other _ ⟨gt, b, none⟩ k _ hk]
/-- Powers of three, and of its inverse. -/
def pw : Nat → Nat
  | 0 => 1
  | k + 1 => mul (pw k) 3
def iv : Nat → Nat
  | 0 => 1
  | k + 1 => mul (iv k) 246
theorem pw_lt : ∀ k, pw k < 256
  | 0 => by decide
  | k + 1 => mul_lt (pw_lt k)
theorem iv_lt : ∀ k, iv k < 256
  | 0 => by decide
  | k + 1 => mul_lt (iv_lt k)
/-- The table, so many bytes being entered. -/
def tabF : Nat → Nat → Nat
  | 0 => upd (fun _ => 0) 0 (sb 0)
  | k + 1 => upd (tabF k) (pw k) (sb (iv k))
theorem zeroT : Tryz.zeroCells171 = rC 512 (fun _ => 0) := by kernel_rfl
/-- What making the table answers. -/
def TabP (w : World) (e : Ending) (w' : World) : Prop := ∃ gt, e = .returned (.pointer (some ⟨gt, 0, none⟩)) ∧ w.heap.size ≤ gt ∧ RB w' gt 512 171 (tabF 255) ∧ Below w.heap.size w w'
/-- What lies where while the table is made. -/
structure TS (w W : World) (F : Nat → Nat) : Prop where
  tab : RB W w.heap.size 512 171 F
  var : W.cell? ⟨w.heap.size + 1, 0, none⟩ = some (.pointer (some ⟨w.heap.size, 0, none⟩))
  bel : Below w.heap.size w W
theorem TS.ent {w W W' : World} {F : Nat → Nat} {b x : Nat} {e : Ending} (h : TS w W F) (hp : EntP F b x w.heap.size W e W') : TS w W' (upd F b (sb x)) := by
  obtain ⟨_, h1, h2, h3, h4⟩ := hp
  refine ⟨h1, ?_, h.bel.trans h2⟩
  have := h.var
  unfold World.cell? at this ⊢
  rw [h4 _ (by simp)]
  exact this
set_option maxHeartbeats 2000000 in
set_option maxRecDepth 100000 in
theorem newTable_any (w : World) :
    Calls Tryz.prog 145 #[] w fun e w' => TabP w e w' := by
  have T0 : Hid (TS w ((w.alloc (.cells Tryz.zeroCells171 171)).alloc (.cells #[.pointer (some ⟨w.heap.size, 0, none⟩)] 113)) (fun _ => 0)) := by
    refine ⟨?_, by go_simp, by go_grown⟩
    rw [zeroT]
    exact RBlater (RB.new w 512 _ _) (below_box _ _)
  go_enter Tryz.func145, Tryz.ntmps145
  go_wp2_with fail
  generalize ((w.alloc (.cells Tryz.zeroCells171 171)).alloc (.cells #[.pointer (some ⟨w.heap.size, 0, none⟩)] 113)) = W0 at *
  refine (enter_any _ 0 0 w.heap.size (w.heap.size + 1) _ (by omega) (by omega) T0.out.tab T0.out.var (by omega)).mono ?_
  rintro e w1 hp1
  have T1 := hid_in (T0.out.ent hp1)
  obtain ⟨rfl, _⟩ := hp1
  clear T0
  go_wp2_with fail
  go_loopw [3, 4, 10] (fun a b v wr => ∃ k : Nat, k ≤ 255 ∧ v = .int .i64 (k : Int) ∧ a = .int .u8 ((pw k : Nat) : Int) ∧ b = .int .u8 ((iv k : Nat) : Int) ∧ Hid (TS w wr (tabF k))) (fun _ _ v _ => 255 - (intOf v).toNat)
  case atStart => exact ⟨0, Nat.zero_le _, rfl, rfl, rfl, T1⟩
  case round =>
    obtain ⟨k, hk, rfl, rfl, rfl, HW⟩ := hrel
    by_cases hlt : k < 255
    · have HL := hid_in hlt
      have q1 : (k : Int) < 255 := by omega
      go_wp2_with fail
      refine (enter_any _ (pw k) (iv k) w.heap.size (w.heap.size + 1) _ (pw_lt k) (iv_lt k) HW.out.tab HW.out.var (by omega)).mono ?_
      rintro e w2 hp2
      have T2 := hid_in (HW.out.ent hp2)
      obtain ⟨rfl, _⟩ := hp2
      clear HW
      go_wp2_with fail
      refine (times_any (pw k) 3 _ (pw_lt k) (by omega)).mono ?_
      rintro e w3 ⟨rfl, rfl⟩
      go_wp2_with fail
      refine (times_any (iv k) 246 _ (iv_lt k) (by omega)).mono ?_
      rintro e w4 ⟨rfl, rfl⟩
      go_wp2_with fail
      exact ⟨⟨k + 1, HL.out, by simp, rfl, rfl, T2⟩, by have := HL.out; simp [intOf]; omega⟩
    · obtain rfl : k = 255 := by omega
      have hv := HW.out.var
      go_wp2_with fail
      go_ret
      exact ⟨w.heap.size, rfl, Nat.le_refl _, HW.out.tab, HW.out.bel⟩
/-- The table that the specification tells. -/
def SUBL : List Nat := [99, 124, 119, 123, 242, 107, 111, 197, 48, 1, 103, 43, 254, 215, 171, 118, 202, 130, 201, 125, 250, 89, 71, 240, 173, 212, 162, 175, 156, 164, 114, 192, 183, 253, 147, 38, 54, 63, 247, 204, 52, 165, 229, 241, 113, 216, 49, 21, 4, 199, 35, 195, 24, 150, 5, 154, 7, 18, 128, 226, 235, 39, 178, 117, 9, 131, 44, 26, 27, 110, 90, 160, 82, 59, 214, 179, 41, 227, 47, 132, 83, 209, 0, 237, 32, 252, 177, 91, 106, 203, 190, 57, 74, 76, 88, 207, 208, 239, 170, 251, 67, 77, 51, 133, 69, 249, 2, 127, 80, 60, 159, 168, 81, 163, 64, 143, 146, 157, 56, 245, 188, 182, 218, 33, 16, 255, 243, 210, 205, 12, 19, 236, 95, 151, 68, 23, 196, 167, 126, 61, 100, 93, 25, 115, 96, 129, 79, 220, 34, 42, 144, 136, 70, 238, 184, 20, 222, 94, 11, 219, 224, 50, 58, 10, 73, 6, 36, 92, 194, 211, 172, 98, 145, 149, 228, 121, 231, 200, 55, 109, 141, 213, 78, 169, 108, 86, 244, 234, 101, 122, 174, 8, 186, 120, 37, 46, 28, 166, 180, 198, 232, 221, 116, 31, 75, 189, 139, 138, 112, 62, 181, 102, 72, 3, 246, 14, 97, 53, 87, 185, 134, 193, 29, 158, 225, 248, 152, 17, 105, 217, 142, 148, 155, 30, 135, 233, 206, 85, 40, 223, 140, 161, 137, 13, 191, 230, 66, 104, 65, 153, 45, 15, 176, 84, 187, 22]
def BACKL : List Nat := (List.range 256).map fun i => SUBL.idxOf i
/-- The table as a list, so many bytes being entered. -/
def runL : Nat → List Nat × Nat × Nat
  | 0 => (((List.replicate 512 0).set 0 (sb 0)).set (256 + sb 0) 0, 1, 1)
  | k + 1 => match runL k with | (l, p, i) => ((l.set p (sb i)).set (256 + sb i) p, mul p 3, mul i 246)
theorem sb_lt (x : Nat) (h : x < 256) : sb x < 256 := sbK_lt x h 5
theorem upd_list (l : List Nat) (F : Nat → Nat) (b to : Nat) (hl : l.length = 512) (h : ∀ j, j < 512 → l.getD j 0 = F j) (hb : b < 256) (ht : to < 256) : ((l.set b to).set (256 + to) b).length = 512 ∧ ∀ j, j < 512 → ((l.set b to).set (256 + to) b).getD j 0 = upd F b to j := by
  refine ⟨by simp [hl], fun j hj => ?_⟩
  rw [List.getD_eq_getElem?_getD, List.getElem?_set, List.length_set, hl]
  unfold upd
  by_cases e1 : 256 + to = j
  · rw [if_pos e1, if_pos (by omega), if_pos e1.symm]; rfl
  · rw [if_neg e1, if_neg (fun e => e1 e.symm), List.getElem?_set, hl]
    by_cases e2 : b = j
    · rw [if_pos e2, if_pos (by omega), if_pos e2.symm]; rfl
    · rw [if_neg e2, if_neg (fun e => e2 e.symm), ← List.getD_eq_getElem?_getD]
      exact h j hj
theorem runL_tab : ∀ k, (runL k).2 = (pw k, iv k) ∧ (runL k).1.length = 512 ∧ ∀ j, j < 512 → (runL k).1.getD j 0 = tabF k j
  | 0 => by
    have h := upd_list (List.replicate 512 0) (fun _ => 0) 0 (sb 0) List.length_replicate (fun j hj => by rw [List.getD_eq_getElem?_getD, List.getElem?_replicate, if_pos hj]; rfl) (by omega) (sb_lt 0 (by omega))
    exact ⟨rfl, h.1, h.2⟩
  | k + 1 => by
    obtain ⟨h1, h2, h3⟩ := runL_tab k
    have h := upd_list (runL k).1 (tabF k) (pw k) (sb (iv k)) h2 h3 (pw_lt k) (sb_lt _ (iv_lt k))
    have e : runL (k + 1) = (((runL k).1.set (pw k) (sb (iv k))).set (256 + sb (iv k)) (pw k), mul (pw k) 3, mul (iv k) 246) := by
      have a1 : (runL k).2.1 = pw k := by rw [h1]
      have a2 : (runL k).2.2 = iv k := by rw [h1]
      rw [← a1, ← a2]; rfl
    rw [e]
    exact ⟨rfl, h.1, h.2⟩
theorem runL_all : (runL 255).1 = SUBL ++ BACKL := by decide +kernel
/-- The two halves of the table. -/
def there (j : Nat) : Nat := SUBL.getD j 0
def back (j : Nat) : Nat := BACKL.getD j 0
theorem sub_len : SUBL.length = 256 := by decide +kernel
theorem tab_there (j : Nat) (h : j < 256) : tabF 255 j = there j := by
  rw [← (runL_tab 255).2.2 j (by omega), runL_all, List.getD_eq_getElem?_getD, List.getElem?_append_left (by rw [sub_len]; exact h), ← List.getD_eq_getElem?_getD]
  rfl
theorem sub_by : ∀ j : Fin 256, there j.1 < 256 ∧ back j.1 < 256 ∧ back (there j.1) = j.1 ∧ there (back j.1) = j.1 := by decide +kernel
end Go.Proofs.YtefmmopkikpnhaaGreatDoor

namespace Go.Proofs.YtefmmopkikpnhaaGreatDoor
open Go.RowKit Go.LatT Go.BlockM Go.PlainAid Go.OpnT Go.ApdG Go.BytM Go.AesM
set_option linter.unusedVariables false
set_option linter.unusedSimpArgs false
/-- A byte of a text. -/
def bn (s : ByteArray) (i : Nat) : Nat := (bt s i).toNat
theorem bn_lt (s : ByteArray) (i : Nat) : bn s i < 256 := by
  have h1 := bt_nonneg s i; have h2 := bt_le s i
  unfold bn; omega
theorem bn_int (s : ByteArray) (i : Nat) : ((bn s i : Nat) : Int) = bt s i := by
  have h1 := bt_nonneg s i
  unfold bn; omega
theorem sizeByte : (Tryz.prog.info? 5).map (·.size) = some 1 := by kernel_rfl
theorem bytes_rC (s : ByteArray) (h : s.size = 16) : ((rC 16 fun _ => 0).toList.take 0 ++ Lib.byteCells s.data.toList ++ (rC 16 fun _ => 0).toList.drop (0 + s.size)).toArray = rC 16 (bn s) := by
  have h2 : s.data.toList.length = 16 := by rw [← h]; exact s.data.length_toList
  have e1 : (rC 16 fun _ => 0).toList.drop (0 + s.size) = [] := List.drop_of_length_le (by rw [Array.length_toList, rC_size, h]; omega)
  rw [e1, List.take_zero, List.append_nil, List.nil_append]
  apply Array.ext
  · simp [Lib.byteCells, rC_size, h2]
  · intro i h3 h4
    have hi : i < 16 := by rw [rC_size] at h4; exact h4
    have e2 := rC_get 16 (bn s) i hi
    rw [Array.getElem?_eq_getElem h4] at e2
    rw [Option.some.inj e2]
    have his : i < s.size := by omega
    rw [bn_int]
    unfold bt
    rw [dif_pos his]
    simp [Lib.byteCells]
    rfl
theorem setRow_other {W : World} {g k : Nat} {cs : Array Value} (h : k ≠ g) : (W.setRow g cs).heap[k]? = W.heap[k]? := by
  simp only [World.setRow, Array.getElem?_modify]
  rw [if_neg (fun e => h e.symm)]
set_option maxHeartbeats 2000000 in
set_option maxRecDepth 100000 in
theorem gridOf_ok (s : ByteArray) (w : World) (h : s.size = 16) :
    Calls Tryz.prog 98 #[.string s] w fun e w' => e = .returned (.agg (rC 16 (bn s))) ∧ Below w.heap.size w w' := by
  have R0 : Hid (RB ((w.alloc (.cells #[.int .u8 0, .int .u8 0, .int .u8 0, .int .u8 0, .int .u8 0, .int .u8 0, .int .u8 0, .int .u8 0, .int .u8 0, .int .u8 0, .int .u8 0, .int .u8 0, .int .u8 0, .int .u8 0, .int .u8 0, .int .u8 0] 119)).alloc (.cells #[.int .u8 0, .int .u8 0, .int .u8 0, .int .u8 0, .int .u8 0, .int .u8 0, .int .u8 0, .int .u8 0, .int .u8 0, .int .u8 0, .int .u8 0, .int .u8 0, .int .u8 0, .int .u8 0, .int .u8 0, .int .u8 0] 119)) w.heap.size 16 119 (fun _ => 0)) := by
    rw [zeroG]; exact RBlater (RB.new w 16 _ _) (below_box _ _)
  have R1 : Hid (RB ((w.alloc (.cells #[.int .u8 0, .int .u8 0, .int .u8 0, .int .u8 0, .int .u8 0, .int .u8 0, .int .u8 0, .int .u8 0, .int .u8 0, .int .u8 0, .int .u8 0, .int .u8 0, .int .u8 0, .int .u8 0, .int .u8 0, .int .u8 0] 119)).alloc (.cells #[.int .u8 0, .int .u8 0, .int .u8 0, .int .u8 0, .int .u8 0, .int .u8 0, .int .u8 0, .int .u8 0, .int .u8 0, .int .u8 0, .int .u8 0, .int .u8 0, .int .u8 0, .int .u8 0, .int .u8 0, .int .u8 0] 119)) (w.heap.size + 1) 16 119 (fun _ => 0)) := by
    rw [zeroG]
    have := RB.new (w.alloc (.cells (rC 16 fun _ => 0) 119)) 16 119 (fun _ => 0)
    have e : (w.alloc (.cells (rC 16 fun _ => 0) 119)).heap.size = w.heap.size + 1 := by simp
    rw [e] at this
    exact this
  have Z0 : Hid (Below w.heap.size w ((w.alloc (.cells #[.int .u8 0, .int .u8 0, .int .u8 0, .int .u8 0, .int .u8 0, .int .u8 0, .int .u8 0, .int .u8 0, .int .u8 0, .int .u8 0, .int .u8 0, .int .u8 0, .int .u8 0, .int .u8 0, .int .u8 0, .int .u8 0] 119)).alloc (.cells #[.int .u8 0, .int .u8 0, .int .u8 0, .int .u8 0, .int .u8 0, .int .u8 0, .int .u8 0, .int .u8 0, .int .u8 0, .int .u8 0, .int .u8 0, .int .u8 0, .int .u8 0, .int .u8 0, .int .u8 0, .int .u8 0] 119))) := by
    show Below _ _ _; go_grown
  have hcp := fun W (hg : RB W (w.heap.size + 1) 16 119 (fun _ => 0)) ty => Lib.run_copy_row_string (P := Tryz.prog) W 25 9 ty 5 (w.heap.size + 1) 0 16 16 s _ 119 Tryz.underlying25 sizeByte hg (by omega) (by rw [rC_size]; omega)
  rw [bytes_rC s h] at hcp
  have hc1 := hcp _ R1.out 3
  clear hcp
  have h' : (s.size : Int) = 16 := by omega
  have B1 := hid_in (setRow_at (cs := rC 16 (bn s)) R1.out)
  have B0 : Hid ((World.setRow _ (w.heap.size + 1) (rC 16 (bn s))).heap[w.heap.size]? = some (.cells (rC 16 fun _ => 0) 119 (0, 0))) := (setRow_other (by omega)).trans R0.out
  have Z1 := hid_in (Below_setRow (cs := rC 16 (bn s)) (g := w.heap.size + 1) Z0.out (by omega))
  clear R0 R1 Z0
  go_enter Tryz.func98, Tryz.ntmps98
  go_wp2_with (first | (refine wpList_load_row rfl 119 _ rfl (w.heap.size + 1) rfl 119 _ (0, 0) _ B1.out Tryz.underlying119 rfl sizeG ?_) | (refine wpList_store_row rfl 119 _ _ rfl w.heap.size _ rfl rfl 119 _ B0.out sizeG rfl (rC_one _ _) ?_))
  refine bodyPost_ret (v := .agg (rC 16 (bn s))) (results_cell_row Tryz.results98 _ _ w.heap.size 119 _ (0, 0) _ rfl (setRow_at B0.out) Tryz.underlying119 rfl sizeG) rfl ⟨rfl, Below_setRow Z1.out (Nat.le_refl _)⟩
end Go.Proofs.YtefmmopkikpnhaaGreatDoor

namespace Go.Proofs.YtefmmopkikpnhaaGreatDoor
open Go.RowKit Go.LatT Go.BlockM Go.PlainAid Go.OpnT Go.ApdG Go.BytM Go.AesM
set_option linter.unusedVariables false
set_option linter.unusedSimpArgs false
/-- The word that goes through a key. -/
def w0 (f : Nat → Nat) (r j : Nat) : Nat := if j = 0 then there (f (12 + (j + 1) % 4)) ^^^ r else there (f (12 + (j + 1) % 4))
/-- Byte j of word m of the next key. -/
def nkc (f : Nat → Nat) (r j : Nat) : Nat → Nat
  | 0 => w0 f r j ^^^ f j
  | m + 1 => nkc f r j m ^^^ f (4 * (m + 1) + j)
/-- The next key. -/
def nk (f : Nat → Nat) (r i : Nat) : Nat := nkc f r (i % 4) (i / 4)
/-- The word behind k steps. -/
def wk (f : Nat → Nat) (r k j : Nat) : Nat := if (k + 3 - j) / 4 = 0 then w0 f r j else nkc f r j ((k + 3 - j) / 4 - 1)
theorem there_lt (j : Nat) (h : j < 256) : there j < 256 := (sub_by ⟨j, h⟩).1
theorem w0_lt {f : Nat → Nat} {r : Nat} (hf : By 16 f) (hr : r < 256) (j : Nat) (hj : j < 4) : w0 f r j < 256 := by
  have h := there_lt _ (hf (12 + (j + 1) % 4) (by omega))
  unfold w0
  split
  · exact xor_lt h hr
  · exact h
theorem nkc_lt {f : Nat → Nat} {r : Nat} (hf : By 16 f) (hr : r < 256) (j : Nat) (hj : j < 4) : ∀ m, m < 4 → nkc f r j m < 256
  | 0, _ => xor_lt (w0_lt hf hr j hj) (hf j (by omega))
  | m + 1, h => xor_lt (nkc_lt hf hr j hj m (by omega)) (hf _ (by omega))
theorem nk_lt {f : Nat → Nat} {r : Nat} (hf : By 16 f) (hr : r < 256) (i : Nat) (hi : i < 16) : nk f r i < 256 := nkc_lt hf hr _ (by omega) _ (by omega)
theorem wk_lt {f : Nat → Nat} {r : Nat} (hf : By 16 f) (hr : r < 256) (k j : Nat) (hk : k ≤ 16) (hj : j < 4) : wk f r k j < 256 := by
  unfold wk
  split
  · exact w0_lt hf hr j hj
  · exact nkc_lt hf hr j hj _ (by omega)
theorem wk_step (f : Nat → Nat) (r k : Nat) (hk : k < 16) : wk f r k (k % 4) ^^^ f k = nk f r k := by
  unfold wk nk
  have e1 : (k + 3 - k % 4) / 4 = k / 4 := by omega
  rw [e1]
  by_cases h : k / 4 = 0
  · rw [if_pos h, h, nkc, show k % 4 = k by omega]
  · obtain ⟨m, hm⟩ : ∃ m, k / 4 = m + 1 := ⟨k / 4 - 1, by omega⟩
    rw [if_neg h, hm, nkc, show 4 * (m + 1) + k % 4 = k by omega]
    rfl
theorem wk_next (f : Nat → Nat) (r k j : Nat) (hk : k < 16) (hj : j < 4) : wk f r (k + 1) j = if j = k % 4 then nk f r k else wk f r k j := by
  by_cases h : j = k % 4
  · rw [if_pos h]
    unfold wk nk
    rw [if_neg (by omega), show (k + 1 + 3 - j) / 4 - 1 = k / 4 by omega, h]
  · rw [if_neg h]
    unfold wk
    rw [show (k + 1 + 3 - j) / 4 = (k + 3 - j) / 4 by omega]
theorem wk_zero (f : Nat → Nat) (r j : Nat) (hj : j < 4) : wk f r 0 j = w0 f r j := by
  unfold wk
  rw [if_pos (by omega)]
/-- What lies where while the next key is made. -/
structure NS (w W : World) (gt : Nat) (sl : Value) (key word : Nat → Nat) : Prop where
  c0 : W.cell? ⟨w.heap.size, 0, none⟩ = some (.pointer (some ⟨gt, 0, none⟩))
  tab : RB W gt 512 171 (tabF 255)
  key : RB W (w.heap.size + 1) 16 119 key
  res : RB W (w.heap.size + 1 + 1) 16 119 (fun _ => 0)
  word : RB W (w.heap.size + 1 + 1 + 1) 4 174 word
  old : gt < w.heap.size
  bel : Below w.heap.size w W
section
variable {w W : World} {gt : Nat} {sl : Value} {key word h : Nat → Nat}
theorem NS.drew (s : NS w W gt sl key word) : NS w W.drew gt sl key word := ⟨s.c0, s.tab, s.key, s.res, s.word, s.old, s.bel.drew⟩
theorem NS.setW (s : NS w W gt sl key word) (k b : Nat) : NS w (W.setCell ⟨w.heap.size + 1 + 1 + 1, k, none⟩ (.int .u8 (b : Int))) gt sl key (fun i => if i = k then b else word i) :=
  ⟨by have := s.c0; unfold World.cell? at this ⊢; rw [heap_setCell_other _ ⟨w.heap.size + 1 + 1 + 1, k, none⟩ _ _ (by simp; omega)]; exact this, s.tab.other _ _ _ (by have := s.old; omega), s.key.other _ _ _ (by omega), s.res.other _ _ _ (by omega), s.word.set k b, s.old, s.bel.setCell (by simp; omega) _⟩
theorem NS.setK (s : NS w W gt sl key word) (k b : Nat) : NS w (W.setCell ⟨w.heap.size + 1, k, none⟩ (.int .u8 (b : Int))) gt sl (fun i => if i = k then b else key i) word :=
  ⟨by have := s.c0; unfold World.cell? at this ⊢; rw [heap_setCell_other _ ⟨w.heap.size + 1, k, none⟩ _ _ (by simp)]; exact this, s.tab.other _ _ _ (by have := s.old; omega), s.key.set k b, s.res.other _ _ _ (by omega), s.word.other _ _ _ (by omega), s.old, s.bel.setCell (by simp) _⟩
theorem NS.congrW (s : NS w W gt sl key word) (e : ∀ i, i < 4 → word i = h i) : NS w W gt sl key h := ⟨s.c0, s.tab, s.key, s.res, s.word.congr e, s.old, s.bel⟩
theorem NS.congrK (s : NS w W gt sl key word) (e : ∀ i, i < 16 → key i = h i) : NS w W gt sl h word := ⟨s.c0, s.tab, s.key.congr e, s.res, s.word, s.old, s.bel⟩
end
theorem zero4 : (#[.int .u8 0, .int .u8 0, .int .u8 0, .int .u8 0] : Array Value) = rC 4 (fun _ => 0) := by rfl
theorem NS.new (w : World) (gt : Nat) (sl : Value) (f : Nat → Nat) (t1 : TypeId) (hT : RB w gt 512 171 (tabF 255)) :
    NS w ((((w.alloc (.cells #[.pointer (some ⟨gt, 0, none⟩), sl] t1)).alloc (.cells (rC 16 f) 119)).alloc (.cells (rC 16 fun _ => 0) 119)).alloc (.cells (rC 4 fun _ => 0) 174)) gt sl f (fun _ => 0) := by
  have hl := hT.lt
  refine ⟨by go_simp, ?_, ?_, ?_, ?_, hl, by go_grown⟩
  · exact RBlater (RBlater (RBlater (RBlater hT (below_box _ _)) (below_box _ _)) (below_box _ _)) (below_box _ _)
  · have := RB.new (w.alloc (.cells #[.pointer (some ⟨gt, 0, none⟩), sl] t1)) 16 119 f
    have e : (w.alloc (.cells #[.pointer (some ⟨gt, 0, none⟩), sl] t1)).heap.size = w.heap.size + 1 := by simp
    rw [e] at this
    exact RBlater (RBlater this (below_box _ _)) (below_box _ _)
  · have := RB.new ((w.alloc (.cells #[.pointer (some ⟨gt, 0, none⟩), sl] t1)).alloc (.cells (rC 16 f) 119)) 16 119 (fun _ => 0)
    have e : ((w.alloc (.cells #[.pointer (some ⟨gt, 0, none⟩), sl] t1)).alloc (.cells (rC 16 f) 119)).heap.size = w.heap.size + 1 + 1 := by simp
    rw [e] at this
    exact RBlater this (below_box _ _)
  · have := RB.new (((w.alloc (.cells #[.pointer (some ⟨gt, 0, none⟩), sl] t1)).alloc (.cells (rC 16 f) 119)).alloc (.cells (rC 16 fun _ => 0) 119)) 4 174 (fun _ => 0)
    have e : (((w.alloc (.cells #[.pointer (some ⟨gt, 0, none⟩), sl] t1)).alloc (.cells (rC 16 f) 119)).alloc (.cells (rC 16 fun _ => 0) 119)).heap.size = w.heap.size + 1 + 1 + 1 := by simp
    rw [e] at this
    exact this
end Go.Proofs.YtefmmopkikpnhaaGreatDoor

namespace Go.Proofs.YtefmmopkikpnhaaGreatDoor
open Go.RowKit Go.LatT Go.BlockM Go.PlainAid Go.OpnT Go.ApdG Go.BytM Go.AesM
set_option linter.unusedVariables false
set_option linter.unusedSimpArgs false
set_option maxHeartbeats 4000000 in
set_option maxRecDepth 100000 in
theorem nextKey_any (gt r : Nat) (sl : Value) (f : Nat → Nat) (w : World) (hT : RB w gt 512 171 (tabF 255)) (hf : By 16 f) (hr : r < 256) :
    Calls Tryz.prog 146 #[.agg #[.pointer (some ⟨gt, 0, none⟩), sl], .agg (rC 16 f), .int .u8 (r : Int)] w fun e w' => e = .returned (.agg (rC 16 (nk f r))) ∧ Below w.heap.size w w' := by
  have N0 := hid_in (NS.new w gt sl f 116 hT)
  rw [← zeroG, ← zero4] at N0
  clear hT
  go_enter Tryz.func146, Tryz.ntmps146
  go_wp2_with fail
  generalize ((((w.alloc (.cells #[.pointer (some ⟨gt, 0, none⟩), sl] 116)).alloc (.cells (rC 16 f) 119)).alloc (.cells _ 119)).alloc (.cells _ 174)) = W0 at *
  go_loopw [10] (fun v wr => ∃ k : Nat, k ≤ 4 ∧ v = .int .i64 (k : Int) ∧ Hid (NS w wr gt sl f (fun i => if i < k then there (f (12 + (i + 1) % 4)) else 0))) (fun v _ => 4 - (intOf v).toNat)
  case atStart =>
    refine ⟨0, Nat.zero_le _, rfl, ?_⟩
    exact N0.out.congrW (fun i _ => by simp)
  case round =>
    obtain ⟨k, hk, rfl, HW⟩ := hrel
    by_cases hlt : k < 4
    · obtain ⟨m, hm⟩ : ∃ m, (k + 1) % 4 = m := ⟨_, rfl⟩
      obtain ⟨x, hx'⟩ : ∃ x, 12 + m = x := ⟨_, rfl⟩
      have hx := hf x (by omega)
      have c0 := HW.out.c0
      have c1 := HW.out.key.cell x (by omega)
      have c2 := HW.out.tab.cell (f x) (by omega)
      rw [tab_there _ hx] at c2
      have c3 := HW.out.word.cell k hlt
      have c4 := HW.out.word.frozen k
      have HM := hid_in (show 12 + (k + 1) % 4 = x by omega)
      have HL := hid_in hlt
      have q1 : (k : Int) < 4 := by omega
      have q2 : ((f x : Nat) : Int) < 256 := by omega
      have e1 : IntKind.i64.wrap ((k : Int) + 1) = (k : Int) + 1 := by rw [IntKind.wrap_i64]; omega
      have e2 : ((k : Int) + 1).tmod 4 = (m : Int) := by rw [Int.tmod_eq_emod_of_nonneg (by omega)]; omega
      have e3 : IntKind.i64.wrap (m : Int) = (m : Int) := by rw [IntKind.wrap_i64]; omega
      have e4 : IntKind.i64.wrap (12 + (m : Int)) = (x : Int) := by rw [IntKind.wrap_i64]; omega
      have q3 : (x : Int) < 16 := by omega
      have q4 : (m : Int) < 4 := by omega
      clear hx'
      clear hm
      go_wp2_with fail
      go_region
      go_wp2_with fail
      refine ⟨⟨k + 1, HL.out, by simp, ?_⟩, by have := HL.out; simp [intOf]; omega⟩
      refine ((HW.out.setW k (there (f x))).congrW (fun i hi => ?_)).drew
      show (if i = k then there (f x) else if i < k then there (f (12 + (i + 1) % 4)) else 0) = if i < k + 1 then there (f (12 + (i + 1) % 4)) else 0
      by_cases e : i = k
      · subst e; rw [if_pos rfl, if_pos (by omega), HM.out]
      · by_cases e2 : i < k
        · rw [if_neg e, if_pos e2, if_pos (by omega)]
        · rw [if_neg e, if_neg e2, if_neg (by omega)]
    · have q1 : ¬ (k : Int) < 4 := by omega
      have N1 := hid_in (HW.out.congrW (h := fun i => there (f (12 + (i + 1) % 4))) (fun i hi => by show (if i < k then _ else _) = _; rw [if_pos (by omega)]))
      have d0 := N1.out.word.cell 0 (by omega)
      have d1 := N1.out.word.frozen 0
      have d2 := xor8 (there (f (12 + (0 + 1) % 4))) r (there_lt _ (hf _ (by omega))) hr
      have N2 := hid_in ((N1.out.setW 0 (there (f (12 + (0 + 1) % 4)) ^^^ r)).congrW (h := fun j => wk f r 0 j) (fun i hi => by
        show (if i = 0 then there (f (12 + (0 + 1) % 4)) ^^^ r else there (f (12 + (i + 1) % 4))) = wk f r 0 i
        rw [wk_zero f r i hi, w0]
        by_cases e : i = 0
        · subst e; rfl
        · rw [if_neg e, if_neg e]))
      clear HW
      generalize there (f (12 + (0 + 1) % 4)) = a at *
      go_wp2_with fail
      generalize (wr.setCell ⟨w.heap.size + 1 + 1 + 1, 0, none⟩ (.int .u8 ((a ^^^ r : Nat) : Int))) = W2 at *
      clear N1 d0 d1 d2
      go_loopw [33] (fun v wr => ∃ k : Nat, k ≤ 16 ∧ v = .int .i64 (k : Int) ∧ Hid (NS w wr gt sl (fun i => if i < k then nk f r i else f i) (fun j => wk f r k j))) (fun v _ => 16 - (intOf v).toNat)
      case atStart =>
        refine ⟨0, Nat.zero_le _, rfl, ?_⟩
        exact N2.out.congrK (fun i _ => by simp)
      case round =>
        obtain ⟨k, hk, rfl, HW⟩ := hrel
        by_cases hlt : k < 16
        · obtain ⟨m, hm⟩ : ∃ m, k % 4 = m := ⟨_, rfl⟩
          have hm4 : m < 4 := by omega
          have c1 := HW.out.word.cell m hm4
          have c2 := HW.out.word.frozen m
          have c3 := HW.out.key.cell k hlt
          rw [if_neg (Nat.lt_irrefl k)] at c3
          have c4 := HW.out.key.frozen k
          have ST := wk_step f r k hlt
          rw [hm] at ST
          have c5 := xor8 (wk f r k m) (f k) (wk_lt hf hr k m hk hm4) (hf k hlt)
          rw [ST] at c5
          have S1 := hid_in (((HW.out.setW m (nk f r k)).congrW (h := fun j => wk f r (k + 1) j) (fun i hi => by
            show (if i = m then nk f r k else wk f r k i) = wk f r (k + 1) i
            rw [wk_next f r k i hlt hi, hm])).drew)
          have WN : wk f r (k + 1) m = nk f r k := by rw [wk_next f r k m hlt hm4, if_pos hm.symm]
          have NK : Hid (nk f r k = nk f r k) := rfl
          have HL := hid_in hlt
          have q1 : (k : Int) < 16 := by omega
          have e2 : (k : Int).tmod 4 = (m : Int) := by rw [Int.tmod_eq_emod_of_nonneg (by omega)]; omega
          have e2' : (k : Int) % 4 = (m : Int) := by omega
          have e3 : IntKind.i64.wrap (m : Int) = (m : Int) := by rw [IntKind.wrap_i64]; omega
          have q4 : (m : Int) < 4 := by omega
          clear ST hm
          obtain ⟨b, hb⟩ : ∃ b, nk f r k = b := ⟨_, rfl⟩
          have HB := hid_in hb
          rw [hb] at c5 S1 WN
          have y1 := S1.out.word.cell m hm4
          have y2 := S1.out.key.cell k hlt
          have y3 := S1.out.key.frozen k
          rw [WN] at y1
          rw [if_neg (Nat.lt_irrefl k)] at y2
          have S2 := hid_in (S1.out.setK k b)
          clear hb WN NK
          generalize wk f r k m = a' at *
          go_wp2_with fail
          go_region
          generalize (wr.setCell ⟨w.heap.size + 1 + 1 + 1, m, none⟩ (.int .u8 (b : Int))).drew = W3 at *
          clear c1 c2 c3 c4 c5 HW
          go_wp2_with fail
          refine ⟨⟨k + 1, HL.out, by simp, ?_⟩, by have := HL.out; simp [intOf]; omega⟩
          refine S2.out.congrK (fun i hi => ?_)
          show (if i = k then b else if i < k then nk f r i else f i) = if i < k + 1 then nk f r i else f i
          by_cases e : i = k
          · subst e; rw [if_pos rfl, if_pos (by omega), HB.out]
          · by_cases e2 : i < k
            · rw [if_neg e, if_pos e2, if_pos (by omega)]
            · rw [if_neg e, if_neg e2, if_neg (by omega)]
        · have q1 : ¬ (k : Int) < 16 := by omega
          have G := hid_in (HW.out.congrK (h := nk f r) (fun i hi => by show (if i < k then _ else _) = _; rw [if_pos (by omega)]))
          go_wp2_with (first | (refine wpList_load_row rfl 119 _ rfl (w.heap.size + 1) rfl 119 _ (0, 0) _ G.out.key Tryz.underlying119 rfl sizeG ?_) | (refine wpList_store_row rfl 119 _ _ rfl (w.heap.size + 1 + 1) _ rfl rfl 119 _ G.out.res sizeG rfl (rC_one _ _) ?_))
          refine bodyPost_ret (v := .agg (rC 16 (nk f r))) (results_cell_row Tryz.results146 _ _ (w.heap.size + 1 + 1) 119 _ (0, 0) _ rfl (setRow_at G.out.res) Tryz.underlying119 rfl sizeG) rfl ⟨rfl, Below_setRow G.out.bel (by omega)⟩
end Go.Proofs.YtefmmopkikpnhaaGreatDoor

namespace Go.Proofs.YtefmmopkikpnhaaGreatDoor
open Go.RowKit Go.LatT Go.BlockM Go.PlainAid Go.OpnT Go.ApdG Go.BytM Go.AesM Go.RowQ
set_option linter.unusedVariables false
set_option linter.unusedSimpArgs false
theorem aggG : AggT Tryz.prog 119 16 := ⟨fun w => by kernel_rfl, fun w => by kernel_rfl⟩
theorem aggT : AggT Tryz.prog 169 256 := ⟨fun w => by kernel_rfl, fun w => by kernel_rfl⟩
/-- Keys of n rounds lie in a row. -/
structure KR (W : World) (gk n : Nat) (K : Nat → Nat → Nat) : Prop where
  lt : gk < W.heap.size
  cell : ∀ i, i < n → ∀ j, j < 16 → W.cell? ⟨gk, i * 16 + j, none⟩ = some (.int .u8 ((K i j : Nat) : Int))
theorem KR.later {W W' : World} {gk n : Nat} {K : Nat → Nat → Nat} (h : KR W gk n K) (hb : Below W.heap.size W W') : KR W' gk n K :=
  ⟨Nat.lt_of_lt_of_le h.lt hb.size, fun i hi j hj => ((bcell hb).1 _ _ h.lt).trans (h.cell i hi j hj)⟩
theorem KR.row {W : World} {gk n : Nat} {K : Nat → Nat → Nat} (h : KR W gk n K) (i : Nat) (hi : i < n) : ∀ j, j < 16 → W.cell? ((⟨gk, i * 16, none⟩ : Addr).add j) = (rC 16 (K i))[j]? := by
  intro j hj
  rw [rC_get 16 (K i) j hj, ← h.cell i hi j hj]
  unfold Addr.add
  by_cases e : j = 0
  · rw [if_pos e, e, Nat.add_zero]
  · rw [if_neg e]
theorem RB.row {W : World} {g n : Nat} {t : TypeId} {f : Nat → Nat} (h : RB W g n t f) : ∀ j, j < n → W.cell? ((⟨g, 0, none⟩ : Addr).add j) = (rC n f)[j]? := by
  intro j hj
  rw [rC_get n f j hj, ← h.cell j hj]
  unfold Addr.add
  by_cases e : j = 0
  · rw [if_pos e, e]
  · rw [if_neg e, Nat.zero_add]
/-- What lies where while a block is turned. -/
structure PS (w W : World) (gt gk n cap : Nat) (K : Nat → Nat → Nat) (s : Nat → Nat) : Prop where
  c0 : W.cell? ⟨w.heap.size, 0, none⟩ = some (.pointer (some ⟨gt, 0, none⟩))
  c1 : W.cell? ⟨w.heap.size, 1, none⟩ = some (.slice (some ⟨gk, 0, none⟩) n cap)
  tab : RB W gt 512 171 (tabF 255)
  keys : KR W gk n K
  blk : RB W (w.heap.size + 1) 16 119 s
  res : RB W (w.heap.size + 1 + 1) 16 119 (fun _ => 0)
  o1 : gt < w.heap.size
  o2 : gk < w.heap.size
  bel : Below w.heap.size w W
section
variable {w W W' : World} {gt gk n cap : Nat} {K : Nat → Nat → Nat} {s h : Nat → Nat}
theorem PS.later (p : PS w W gt gk n cap K s) (hb : Below W.heap.size W W') : PS w W' gt gk n cap K s :=
  have l := p.blk.lt
  ⟨((bcell hb).1 _ _ (by omega)).trans p.c0, ((bcell hb).1 _ _ (by omega)).trans p.c1, RBlater p.tab hb, p.keys.later hb, RBlater p.blk hb, RBlater p.res hb, p.o1, p.o2, below_later p.bel hb⟩
theorem PS.put (p : PS w W gt gk n cap K s) (h : Nat → Nat) : PS w (W.setRow (w.heap.size + 1) (rC 16 h)) gt gk n cap K h := by
  have ce : ∀ b o, b ≠ w.heap.size + 1 → (W.setRow (w.heap.size + 1) (rC 16 h)).cell? ⟨b, o, none⟩ = W.cell? ⟨b, o, none⟩ := by
    intro b o hb
    unfold World.cell?
    rw [setRow_other hb]
  have o1 := p.o1
  have o2 := p.o2
  refine ⟨(ce _ _ (by omega)).trans p.c0, (ce _ _ (by omega)).trans p.c1, ?_, ⟨?_, fun i hi j hj => (ce _ _ (by omega)).trans (p.keys.cell i hi j hj)⟩, setRow_at p.blk, ?_, o1, o2, Below_setRow p.bel (by omega)⟩
  · unfold RB; rw [setRow_other (by omega)]; exact p.tab
  · simpa [World.setRow] using p.keys.lt
  · unfold RB; rw [setRow_other (by omega)]; exact p.res
end
theorem PS.new (w : World) (gt gk n cap : Nat) (K : Nat → Nat → Nat) (f : Nat → Nat) (hT : RB w gt 512 171 (tabF 255)) (hK : KR w gk n K) :
    PS w (((w.alloc (.cells #[.pointer (some ⟨gt, 0, none⟩), .slice (some ⟨gk, 0, none⟩) n cap] 116)).alloc (.cells (rC 16 f) 119)).alloc (.cells (rC 16 fun _ => 0) 119)) gt gk n cap K f := by
  refine ⟨by go_simp, by go_simp, ?_, ?_, ?_, ?_, hT.lt, hK.lt, by go_grown⟩
  · exact RBlater (RBlater (RBlater hT (below_box _ _)) (below_box _ _)) (below_box _ _)
  · exact ((hK.later (below_box _ _)).later (below_box _ _)).later (below_box _ _)
  · have := RB.new (w.alloc (.cells #[.pointer (some ⟨gt, 0, none⟩), .slice (some ⟨gk, 0, none⟩) n cap] 116)) 16 119 f
    have e : (w.alloc (.cells #[.pointer (some ⟨gt, 0, none⟩), .slice (some ⟨gk, 0, none⟩) n cap] 116)).heap.size = w.heap.size + 1 := by simp
    rw [e] at this
    exact RBlater this (below_box _ _)
  · have := RB.new ((w.alloc (.cells #[.pointer (some ⟨gt, 0, none⟩), .slice (some ⟨gk, 0, none⟩) n cap] 116)).alloc (.cells (rC 16 f) 119)) 16 119 (fun _ => 0)
    have e : ((w.alloc (.cells #[.pointer (some ⟨gt, 0, none⟩), .slice (some ⟨gk, 0, none⟩) n cap] 116)).alloc (.cells (rC 16 f) 119)).heap.size = w.heap.size + 1 + 1 := by simp
    rw [e] at this
    exact this
/-- A round of turning. -/
def fac : Nat → Nat := fun i => if i = 0 then 2 else if i = 1 then 3 else 1
def stp (K : Nat → Nat → Nat) (r : Nat) (s : Nat → Nat) : Nat → Nat := fun i => (if r < 10 then mix (shf 1 fun j => there (s j)) fac i else shf 1 (fun j => there (s j)) i) ^^^ K r i
/-- The block behind so many rounds. -/
def enc (K : Nat → Nat → Nat) (f : Nat → Nat) : Nat → Nat → Nat
  | 0 => fun i => f i ^^^ K 0 i
  | r + 1 => stp K (r + 1) (enc K f r)
theorem shf_by {c : Nat} {f : Nat → Nat} (hf : By 16 f) : By 16 (shf c f) := fun i hi => hf _ (Nat.mod_lt _ (by omega))
theorem there_by {f : Nat → Nat} (hf : By 16 f) : By 16 (fun i => there (f i)) := fun i hi => there_lt _ (hf i hi)
theorem xor_by {f g : Nat → Nat} (hf : By 16 f) (hg : By 16 g) : By 16 (fun i => f i ^^^ g i) := fun i hi => xor_lt (hf i hi) (hg i hi)
theorem mix_by {f g : Nat → Nat} (hf : By 16 f) : By 16 (mix f g) := fun i hi => mixK_lt hf i hi 4 (by omega)
theorem stp_by {K : Nat → Nat → Nat} {r : Nat} {s : Nat → Nat} (hK : By 16 (K r)) (hs : By 16 s) : By 16 (stp K r s) := by
  intro i hi
  unfold stp
  refine xor_lt ?_ (hK i hi)
  split
  · exact mix_by (shf_by (there_by hs)) i hi
  · exact shf_by (there_by hs) i hi
theorem enc_by {K : Nat → Nat → Nat} {f : Nat → Nat} (hK : ∀ i, i < 11 → By 16 (K i)) (hf : By 16 f) : ∀ r, r < 11 → By 16 (enc K f r)
  | 0, h => xor_by hf (hK 0 h)
  | r + 1, h => stp_by (hK _ h) (enc_by hK hf r (by omega))
/-- What is read of a block in a world that is as it was. -/
theorem rowB {w W : World} {gt gk n cap : Nat} {K : Nat → Nat → Nat} {s : Nat → Nat} (p : PS w W gt gk n cap K s) (w' : World) (hw' : ∃ n : Lat W, w' = n.x) : ∀ j, j < 16 → w'.cell? ((⟨w.heap.size + 1, 0, none⟩ : Addr).add j) = (rC 16 s)[j]? := by
  obtain ⟨l, rfl⟩ := hw'; exact RB.row (RBlater p.blk l.h)
theorem rowK {w W : World} {gt gk n cap : Nat} {K : Nat → Nat → Nat} {s : Nat → Nat} (p : PS w W gt gk n cap K s) (i : Nat) (hi : i < n) (w' : World) (hw' : ∃ n : Lat W, w' = n.x) : ∀ j, j < 16 → w'.cell? ((⟨gk, i * 16, none⟩ : Addr).add j) = (rC 16 (K i))[j]? := by
  obtain ⟨l, rfl⟩ := hw'; exact (p.keys.later l.h).row i hi
theorem rowT {w W : World} {gt gk n cap : Nat} {K : Nat → Nat → Nat} {s : Nat → Nat} (p : PS w W gt gk n cap K s) (w' : World) (hw' : ∃ n : Lat W, w' = n.x) : ∀ j, j < 256 → w'.cell? ((⟨gt, 0, none⟩ : Addr).add j) = (rC 256 there)[j]? := by
  obtain ⟨l, rfl⟩ := hw'
  intro j hj
  have h := (RBlater p.tab l.h).cell j (by omega)
  rw [rC_get 256 there j hj, ← tab_there j hj, ← h]
  unfold Addr.add
  by_cases e : j = 0
  · rw [if_pos e, e]
  · rw [if_neg e, Nat.zero_add]
set_option maxHeartbeats 4000000 in
set_option maxRecDepth 100000 in
theorem put_any (gt gk cap : Nat) (K : Nat → Nat → Nat) (f : Nat → Nat) (w : World) (hT : RB w gt 512 171 (tabF 255)) (hK : KR w gk 11 K) (hf : By 16 f) (hKb : ∀ i, i < 11 → By 16 (K i)) :
    Calls Tryz.prog 100 #[.agg #[.pointer (some ⟨gt, 0, none⟩), .slice (some ⟨gk, 0, none⟩) 11 cap], .agg (rC 16 f)] w fun e w' => e = .returned (.agg (rC 16 (enc K f 10))) ∧ Below w.heap.size w w' := by
  have N0 := hid_in (PS.new w gt gk 11 cap K f hT hK)
  rw [← zeroG] at N0
  clear hT hK
  go_enter Tryz.func100, Tryz.ntmps100
  go_wp2_with fail
  generalize (((w.alloc (.cells #[.pointer (some ⟨gt, 0, none⟩), .slice (some ⟨gk, 0, none⟩) 11 cap] 116)).alloc (.cells (rC 16 f) 119)).alloc (.cells _ 119)) = W0 at *
  have c0 := N0.out.c0
  have c1 := N0.out.c1
  have l1 := N0.out.blk.lt
  have l0 : w.heap.size < W0.heap.size := by omega
  refine wp_region_lat_tail (Below.refl _ _) (by kernel_rfl) (by dsimp only [List.dropLast]) (by exact rfl) (by kernel_rfl) ?_
  intro hne hcl
  repeat (first | (refine quiet_load_at aggG rfl (.tmp 3) rfl ⟨w.heap.size + 1, 0, none⟩ rfl (rC 16 f) (rC_size _ _) (rowB N0.out) ?_; go_simp) | (refine quiet_load_at aggG rfl (.tmp 9) rfl ⟨gk, 0 * 16, none⟩ rfl (rC 16 (K 0)) (rC_size _ _) (rowK N0.out 0 (by omega)) ?_; go_simp) | go_big_quiet_step (first | (go_at_call 101; exact lat_of (with_any f (K 0) _ hf (hKb 0 (by omega))))))
  refine wpQuiet_nil ?_
  intro w1 hb1
  clear hne hcl
  have N1 := hid_in (N0.out.later hb1)
  clear hb1 c0 c1 l1 l0 N0
  go_wp2_with (first | (refine wpList_store_row rfl 119 _ _ rfl (w.heap.size + 1) _ rfl rfl 119 _ N1.out.blk sizeG rfl (rC_one _ _) ?_))
  have N2 := hid_in (N1.out.put (fun i => f i ^^^ K 0 i))
  clear N1
  generalize (w1.setRow (w.heap.size + 1) (rC 16 fun i => f i ^^^ K 0 i)) = W2 at *
  go_loopw [5] (fun v wr => ∃ r : Nat, r ≤ 10 ∧ v = .int .i64 ((r + 1 : Nat) : Int) ∧ Hid (PS w wr gt gk 11 cap K (enc K f r))) (fun v _ => 11 - (intOf v).toNat)
  case atStart => exact ⟨0, by omega, rfl, N2⟩
  case round =>
    obtain ⟨r, hr, rfl, HW⟩ := hrel
    by_cases hlt : r < 10
    · obtain ⟨q, hq⟩ : ∃ q, r + 1 = q := ⟨_, rfl⟩
      have hs := enc_by hKb hf r (by omega)
      have hq10 : q ≤ 10 := by omega
      have QE := hid_in (show enc K f q = stp K q (enc K f r) by rw [← hq]; rfl)
      have HQ := hid_in hq
      rw [hq]
      clear hq
      generalize enc K f r = s at *
      have S1 := there_by hs
      have S2 := shf_by (c := 1) S1
      have q1 : (q : Int) ≤ 10 := by omega
      have c0 := HW.out.c0
      have c1 := HW.out.c1
      have l1 := HW.out.blk.lt
      have l0 : w.heap.size < wr.heap.size := by omega
      go_wp2_with fail
      refine wp_region_lat_tail (Below.refl _ _) (by kernel_rfl) (by dsimp only [List.dropLast]) (by exact rfl) (by kernel_rfl) ?_
      intro hne hcl
      repeat (first | (refine quiet_load_at aggG rfl (.tmp 3) rfl ⟨w.heap.size + 1, 0, none⟩ rfl (rC 16 s) (rC_size _ _) (rowB HW.out) ?_; go_simp) | (refine quiet_load_at aggT rfl (.tmp 20) rfl ⟨gt, 0, none⟩ rfl (rC 256 there) (rC_size _ _) (rowT HW.out) ?_; go_simp) | go_big_quiet_step (first | (go_at_call 148; exact lat_of (looked_any s there _ hs)) | (go_at_call 149; exact lat_of (shifted_any (fun i => there (s i)) 1 _ (by omega)))))
      refine wpQuiet_nil ?_
      intro w3 hb3
      clear hne hcl
      have N3 := hid_in (HW.out.later hb3)
      clear hb3 c0 c1 l1 l0 HW
      have N4 := hid_in (N3.out.put (shf 1 fun i => there (s i)))
      have KQ := hKb q (by omega)
      have e16 : IntKind.i64.wrap (q : Int) = (q : Int) := by rw [IntKind.wrap_i64]; omega
      have q11 : (q : Int) < 11 := by omega
      by_cases hq9 : q < 10
      · have q9 : (q : Int) < 10 := by omega
        have zf : (#[.int .u8 2, .int .u8 3, .int .u8 1, .int .u8 1] : Array Value) = rC 4 fac := by rfl
        go_wp2_with (first | (refine wpList_store_row rfl 119 _ _ rfl (w.heap.size + 1) _ rfl rfl 119 _ N3.out.blk sizeG rfl (rC_one _ _) ?_) | (refine wpList_load_row rfl 119 _ rfl (w.heap.size + 1) rfl 119 _ (0, 0) _ N4.out.blk Tryz.underlying119 rfl sizeG ?_))
        refine (mixed_any (shf 1 fun i => there (s i)) fac _ S2 (by intro i hi; unfold fac; split <;> (try split) <;> omega)).mono ?_
        rintro e w5 ⟨rfl, hb5⟩
        have N5 := hid_in (N4.out.later hb5)
        clear hb5 N4 N3
        have N6 := hid_in (N5.out.put (mix (shf 1 fun i => there (s i)) fac))
        have S3 := mix_by (g := fac) S2
        go_wp2_with (first | (refine wpList_store_row rfl 119 _ _ rfl (w.heap.size + 1) _ rfl rfl 119 _ N5.out.blk sizeG rfl (rC_one _ _) ?_))
        generalize (w5.setRow (w.heap.size + 1) (rC 16 (mix (shf 1 fun i => there (s i)) fac))) = W5 at *
        clear N5
        have c0 := N6.out.c0
        have c1 := N6.out.c1
        have l1 := N6.out.blk.lt
        have l0 : w.heap.size < W5.heap.size := by omega
        refine wp_region_lat_tail (Below.refl _ _) (by kernel_rfl) (by dsimp only [List.dropLast]) (by exact rfl) (by kernel_rfl) ?_
        intro hne hcl
        repeat (first | (refine quiet_load_at aggG rfl (.tmp 3) rfl ⟨w.heap.size + 1, 0, none⟩ rfl (rC 16 (mix (shf 1 fun i => there (s i)) fac)) (rC_size _ _) (rowB N6.out) ?_; go_simp) | (refine quiet_load_at aggG rfl (.tmp 33) rfl ⟨gk, q * 16, none⟩ rfl (rC 16 (K q)) (rC_size _ _) (rowK N6.out q (by omega)) ?_; go_simp) | go_big_quiet_step (first | (go_at_call 101; exact lat_of (with_any (mix (shf 1 fun i => there (s i)) fac) (K q) _ S3 KQ))))
        refine wpQuiet_nil ?_
        intro w7 hb7
        clear hne hcl
        have N7 := hid_in (N6.out.later hb7)
        clear hb7 c0 c1 l1 l0
        go_wp2_with (first | (refine wpList_store_row rfl 119 _ _ rfl (w.heap.size + 1) _ rfl rfl 119 _ N7.out.blk sizeG rfl (rC_one _ _) ?_))
        refine ⟨⟨q, hq10, by simp, ?_⟩, by have := HQ.out; simp [intOf]; omega⟩
        have h := N7.out.put (fun i => mix (shf 1 fun i => there (s i)) fac i ^^^ K q i)
        have e : (fun i => mix (shf 1 fun i => there (s i)) fac i ^^^ K q i) = enc K f q := by
          rw [QE.out]; funext i; unfold stp; rw [if_pos hq9]
        show PS _ _ _ _ _ _ _ _
        rw [e] at h ⊢
        exact h
      · have q9 : ¬ (q : Int) < 10 := by omega
        go_wp2_with (first | (refine wpList_store_row rfl 119 _ _ rfl (w.heap.size + 1) _ rfl rfl 119 _ N3.out.blk sizeG rfl (rC_one _ _) ?_))
        generalize (w3.setRow (w.heap.size + 1) (rC 16 (shf 1 fun i => there (s i)))) = W5 at *
        clear N3
        have c0 := N4.out.c0
        have c1 := N4.out.c1
        have l1 := N4.out.blk.lt
        have l0 : w.heap.size < W5.heap.size := by omega
        refine wp_region_lat_tail (Below.refl _ _) (by kernel_rfl) (by dsimp only [List.dropLast]) (by exact rfl) (by kernel_rfl) ?_
        intro hne hcl
        repeat (first | (refine quiet_load_at aggG rfl (.tmp 3) rfl ⟨w.heap.size + 1, 0, none⟩ rfl (rC 16 (shf 1 fun i => there (s i))) (rC_size _ _) (rowB N4.out) ?_; go_simp) | (refine quiet_load_at aggG rfl (.tmp 33) rfl ⟨gk, q * 16, none⟩ rfl (rC 16 (K q)) (rC_size _ _) (rowK N4.out q (by omega)) ?_; go_simp) | go_big_quiet_step (first | (go_at_call 101; exact lat_of (with_any (shf 1 fun i => there (s i)) (K q) _ S2 KQ))))
        refine wpQuiet_nil ?_
        intro w7 hb7
        clear hne hcl
        have N7 := hid_in (N4.out.later hb7)
        clear hb7 c0 c1 l1 l0
        go_wp2_with (first | (refine wpList_store_row rfl 119 _ _ rfl (w.heap.size + 1) _ rfl rfl 119 _ N7.out.blk sizeG rfl (rC_one _ _) ?_))
        refine ⟨⟨q, hq10, by simp, ?_⟩, by have := HQ.out; simp [intOf]; omega⟩
        have h := N7.out.put (fun i => shf 1 (fun i => there (s i)) i ^^^ K q i)
        have e : (fun i => shf 1 (fun i => there (s i)) i ^^^ K q i) = enc K f q := by
          rw [QE.out]; funext i; unfold stp; rw [if_neg hq9]
        show PS _ _ _ _ _ _ _ _
        rw [e] at h ⊢
        exact h
    · obtain rfl : r = 10 := by omega
      go_wp2_with (first | (refine wpList_load_row rfl 119 _ rfl (w.heap.size + 1) rfl 119 _ (0, 0) _ HW.out.blk Tryz.underlying119 rfl sizeG ?_) | (refine wpList_store_row rfl 119 _ _ rfl (w.heap.size + 1 + 1) _ rfl rfl 119 _ HW.out.res sizeG rfl (rC_one _ _) ?_))
      exact bodyPost_ret (v := .agg (rC 16 (enc K f 10))) (results_cell_row Tryz.results100 _ _ (w.heap.size + 1 + 1) 119 _ (0, 0) _ rfl (setRow_at HW.out.res) Tryz.underlying119 rfl sizeG) rfl ⟨rfl, Below_setRow HW.out.bel (by omega)⟩
end Go.Proofs.YtefmmopkikpnhaaGreatDoor

namespace Go.Proofs.YtefmmopkikpnhaaGreatDoor
open Go.RowKit Go.LatT Go.BlockM Go.PlainAid Go.OpnT Go.ApdG Go.BytM Go.AesM Go.RowQ
set_option linter.unusedVariables false
set_option linter.unusedSimpArgs false
/-- A round of turning back. -/
def fad : Nat → Nat := fun i => if i = 0 then 14 else if i = 1 then 11 else if i = 2 then 13 else 9
def dst (K : Nat → Nat → Nat) (r : Nat) (s : Nat → Nat) : Nat → Nat := fun i => back (shf 3 (if r < 10 then mix (fun j => s j ^^^ K r j) fad else fun j => s j ^^^ K r j) i)
end Go.Proofs.YtefmmopkikpnhaaGreatDoor

namespace Go.Proofs.YtefmmopkikpnhaaGreatDoor
open Go.RowKit Go.LatT Go.BlockM Go.PlainAid Go.OpnT Go.ApdG Go.BytM Go.AesM Go.RowQ
set_option linter.unusedVariables false
set_option linter.unusedSimpArgs false
theorem catch_panicking (p : Addr) (x : ByteArray) (u : TypeId) (pv : Value) (older : List PanicEntry) (w : World) (hc : w.cell? p = some (.string x)) (hz : w.frozen? p = false) :
    CallsD Tryz.prog 144 #[.pointer (some p)] (.panicking ({ v := .iface u pv, recovered := false } :: older)) w fun e u' w' =>
      e = .returned (.tuple #[]) ∧ u' = .panicking ({ v := .iface u pv, recovered := true } :: older) ∧ w' = w.setCell p (.string ⟨#[]⟩) := by
  refine callsD_of_wpS Tryz.func144 rfl fun c₀ cs hu => ?_
  apply wpS_seq
  apply wpS_region
  simp [wpOpsS, go_sem, recoverD, hu, Tryz.ntmps144, Exit.thenS]
  refine wpS_cond (t := true) (by simp [Act.eval, Array.replicate]) ?_
  simp only [if_true]
  apply wpS_region
  simp [wpOpsS, go_sem, hc, hz, bodyPostS, results, Tryz.results144]
theorem catch_idle (p : Addr) (w : World) :
    CallsD Tryz.prog 144 #[.pointer (some p)] .returning w fun e u' w' => e = .returned (.tuple #[]) ∧ u' = .returning ∧ w' = w := by
  refine callsD_of_wpS Tryz.func144 rfl fun c₀ cs hu => ?_
  apply wpS_seq
  apply wpS_region
  simp [wpOpsS, go_sem, recoverD, hu, Tryz.ntmps144, Exit.thenS]
  refine wpS_cond (t := false) (by simp [Act.eval, Array.replicate]) ?_
  simp only [Bool.false_eq_true, if_false]
  refine wpS_of_wp (wp_skip ?_)
  cases c₀
  simp_all [bodyPostS, results, Tryz.results144]
set_option maxHeartbeats 1000000 in
set_option maxRecDepth 100000 in
theorem gridOf_no (s : ByteArray) (w : World) (h : s.size ≠ 16) (hs : s.size ≤ 1048576) :
    Calls Tryz.prog 98 #[.string s] w fun e w' => (∃ u pv, e = .panicked [{ v := .iface u pv, recovered := false }]) ∧ Below w.heap.size w w' := by
  have h1 : ((s.size : Int) == 16) = false := by simp; omega
  have h2 : ((s.size : Int) != 16) = true := by simp; omega
  go_enter Tryz.func98, Tryz.ntmps98
  go_wp2_with fail
  unfold bodyPost
  first | exact ⟨rfl, ⟨_, _, rfl⟩, by go_grown⟩ | exact ⟨⟨_, _, rfl⟩, by go_grown⟩
end Go.Proofs.YtefmmopkikpnhaaGreatDoor

