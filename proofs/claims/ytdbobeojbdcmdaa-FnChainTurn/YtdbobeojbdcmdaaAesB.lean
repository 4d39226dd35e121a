/- Blocks of bytes put together, looked up, shifted and mixed, in the program, as contracts. The conditions stand at each theorem. -/
import Derived.Test.YtdbobeojbdcmdaaAesA
namespace Go.Proofs.Ytdbobeojbdcmdaa
open Go.RowKit Go.LatT Go.BlockM Go.PlainAid Go.OpnT Go.ApdG Go.BytM Go.AesM
set_option linter.unusedVariables false
set_option linter.unusedSimpArgs false
/-- All bytes are bytes. -/
def By (n : Nat) (f : Nat → Nat) : Prop := ∀ i, i < n → f i < 256
theorem RBlater {w w' : World} {g n : Nat} {t : TypeId} {f : Nat → Nat} (h : RB w g n t f) (hb : Below w.heap.size w w') : RB w' g n t f := by
  unfold RB; rw [hb.block g h.lt]; exact h
theorem sizeG : (Try.prog.info? 41).map (·.size) = some 16 := by kernel_rfl
theorem zeroG : (#[.int .u8 0, .int .u8 0, .int .u8 0, .int .u8 0, .int .u8 0, .int .u8 0, .int .u8 0, .int .u8 0, .int .u8 0, .int .u8 0, .int .u8 0, .int .u8 0, .int .u8 0, .int .u8 0, .int .u8 0, .int .u8 0] : Array Value) = rC 16 (fun _ => 0) := by rfl
/-- Three blocks of bytes, made one behind the other. -/
structure G3 (w W : World) (n1 n2 n3 : Nat) (t1 t2 t3 : TypeId) (f1 f2 f3 : Nat → Nat) : Prop where
  a : RB W w.heap.size n1 t1 f1
  b : RB W (w.heap.size + 1) n2 t2 f2
  c : RB W (w.heap.size + 1 + 1) n3 t3 f3
  bel : Below w.heap.size w W
section
variable {w W : World} {n1 n2 n3 : Nat} {t1 t2 t3 : TypeId} {f1 f2 f3 h : Nat → Nat}
theorem G3.new (w : World) (n1 n2 n3 : Nat) (t1 t2 t3 : TypeId) (f1 f2 f3 : Nat → Nat) : G3 w (((w.alloc (.cells (rC n1 f1) t1)).alloc (.cells (rC n2 f2) t2)).alloc (.cells (rC n3 f3) t3)) n1 n2 n3 t1 t2 t3 f1 f2 f3 := by
  refine ⟨?_, ?_, ?_, by go_grown⟩
  · exact RBlater (RBlater (RB.new w n1 t1 f1) (below_box _ _)) (below_box _ _)
  · have := RBlater (RB.new (w.alloc (.cells (rC n1 f1) t1)) n2 t2 f2) (below_box _ (.cells (rC n3 f3) t3))
    simpa using this
  · have := RB.new ((w.alloc (.cells (rC n1 f1) t1)).alloc (.cells (rC n2 f2) t2)) n3 t3 f3
    simpa using this
theorem G3.drew (h : G3 w W n1 n2 n3 t1 t2 t3 f1 f2 f3) : G3 w W.drew n1 n2 n3 t1 t2 t3 f1 f2 f3 := ⟨h.a, h.b, h.c, h.bel.drew⟩
theorem G3.later {W' : World} (h : G3 w W n1 n2 n3 t1 t2 t3 f1 f2 f3) (hb : Below W.heap.size W W') : G3 w W' n1 n2 n3 t1 t2 t3 f1 f2 f3 := ⟨RBlater h.a hb, RBlater h.b hb, RBlater h.c hb, below_later h.bel hb⟩
theorem G3.set1 (h : G3 w W n1 n2 n3 t1 t2 t3 f1 f2 f3) (k b : Nat) : G3 w (W.setCell ⟨w.heap.size, k, none⟩ (.int .u8 (b : Int))) n1 n2 n3 t1 t2 t3 (fun i => if i = k then b else f1 i) f2 f3 :=
  ⟨h.a.set k b, h.b.other _ _ _ (by omega), h.c.other _ _ _ (by omega), h.bel.setCell (Nat.le_refl _) _⟩
theorem G3.set3 (h : G3 w W n1 n2 n3 t1 t2 t3 f1 f2 f3) (k b : Nat) : G3 w (W.setCell ⟨w.heap.size + 1 + 1, k, none⟩ (.int .u8 (b : Int))) n1 n2 n3 t1 t2 t3 f1 f2 (fun i => if i = k then b else f3 i) :=
  ⟨h.a.other _ _ _ (by omega), h.b.other _ _ _ (by omega), h.c.set k b, h.bel.setCell (by simp; omega) _⟩
theorem G3.congr1 (g : G3 w W n1 n2 n3 t1 t2 t3 f1 f2 f3) (e : ∀ i, i < n1 → f1 i = h i) : G3 w W n1 n2 n3 t1 t2 t3 h f2 f3 := ⟨g.a.congr e, g.b, g.c, g.bel⟩
theorem G3.congr3 (g : G3 w W n1 n2 n3 t1 t2 t3 f1 f2 f3) (e : ∀ i, i < n3 → f3 i = h i) : G3 w W n1 n2 n3 t1 t2 t3 f1 f2 h := ⟨g.a, g.b, g.c.congr e, g.bel⟩
end
theorem Below_setRow {w W : World} {B g : Nat} {cs : Array Value} (h : Below B w W) (hg : B ≤ g) : Below B w (W.setRow g cs) := by
  refine ⟨h.os, h.tape, h.output, ?_, fun k hk => ?_⟩
  · simpa [World.setRow] using h.size
  · rw [← h.block k hk]
    simp only [World.setRow, Array.getElem?_modify]
    rw [if_neg (by omega)]
theorem setRow_at {W : World} {g : Nat} {cs old : Array Value} {t : TypeId} (h : W.heap[g]? = some (.cells old t (0, 0))) : (W.setRow g cs).heap[g]? = some (.cells cs t (0, 0)) := setRow_heap W g old cs t _ h
set_option maxHeartbeats 2000000 in
set_option maxRecDepth 100000 in
theorem with_any (f g : Nat → Nat) (w : World) (hf : By 16 f) (hg : By 16 g) :
    Calls Try.prog 47 #[.agg (rC 16 f), .agg (rC 16 g)] w fun e w' => e = .returned (.agg (rC 16 fun i => f i ^^^ g i)) ∧ Below w.heap.size w w' := by
  have G0 := hid_in (G3.new w 16 16 16 41 41 41 f g (fun _ => 0))
  rw [← zeroG] at G0
  go_enter Try.func47, Try.ntmps47
  go_wp2_with fail
  generalize (((w.alloc (.cells (rC 16 f) 41)).alloc (.cells (rC 16 g) 41)).alloc (.cells _ 41)) = W0 at *
  go_loopw [6] (fun v wr => ∃ k : Nat, k ≤ 16 ∧ v = .int .i64 (k : Int) ∧ Hid (G3 w wr 16 16 16 41 41 41 (fun i => if i < k then f i ^^^ g i else f i) g (fun _ => 0))) (fun v _ => 16 - (intOf v).toNat)
  case atStart =>
    refine ⟨0, Nat.zero_le _, rfl, ?_⟩
    exact G0.out.congr1 (fun i _ => by simp)
  case round =>
    obtain ⟨k, hk, rfl, HW⟩ := hrel
    by_cases hlt : k < 16
    · have c1 := HW.out.a.cell k hlt
      have c2 := HW.out.b.cell k hlt
      have c3 := HW.out.a.frozen k
      rw [if_neg (Nat.lt_irrefl k)] at c1
      have hx := xor8 (f k) (g k) (hf k hlt) (hg k hlt)
      have HL := hid_in hlt
      have q1 : (k : Int) < 16 := by omega
      go_wp2_with fail
      go_region
      go_wp2_with fail
      refine ⟨⟨k + 1, HL.out, by simp, ?_⟩, by have := HL.out; simp [intOf]; omega⟩
      refine ((HW.out.set1 k (f k ^^^ g k)).congr1 (fun i hi => ?_)).drew
      show (if i = k then f k ^^^ g k else if i < k then f i ^^^ g i else f i) = if i < k + 1 then f i ^^^ g i else f i
      by_cases e : i = k
      · subst e; simp
      · by_cases e2 : i < k
        · rw [if_neg e, if_pos e2, if_pos (by omega)]
        · rw [if_neg e, if_neg e2, if_neg (by omega)]
    · have q1 : ¬ (k : Int) < 16 := by omega
      have G := hid_in (HW.out.congr1 (h := fun i => f i ^^^ g i) (fun i hi => by show (if i < k then _ else _) = _; rw [if_pos (by omega)]))
      go_wp2_with (first | (refine wpList_load_row rfl 41 _ rfl w.heap.size rfl 41 _ (0, 0) _ G.out.a Try.underlying41 rfl sizeG ?_) | (refine wpList_store_row rfl 41 _ _ rfl (w.heap.size + 1 + 1) _ rfl rfl 41 _ G.out.c sizeG rfl (rC_one _ _) ?_))
      refine bodyPost_ret (v := .agg (rC 16 fun i => f i ^^^ g i)) (results_cell_row Try.results47 _ _ (w.heap.size + 1 + 1) 41 _ (0, 0) _ rfl (setRow_at G.out.c) Try.underlying41 rfl sizeG) rfl ⟨rfl, Below_setRow G.out.bel (by omega)⟩
theorem sizeT : (Try.prog.info? 67).map (·.size) = some 256 := by kernel_rfl
theorem sizeU8 (w : World) : (sizeOf 5).run Try.prog w = .ok 1 w := by kernel_rfl
theorem aggU8 (w : World) : (isAgg 5).run Try.prog w = .ok false w := by kernel_rfl
theorem idxG (f : Nat → Nat) (k : Nat) (h : k < 16) (W : World) : (Instr.index 41 (.agg (rC 16 f)) (.int .i64 (k : Int))).run Try.prog W = .ok (.int .u8 (f k : Int)) W := by
  have h2 : (k : Int) < 16 := by omega
  have h3 := rC_get 16 f k h
  simp [Instr.index, run_underlying Try.underlying41, asIntOf, h, h2, h3, go_sem, part, aggU8, sizeU8]
set_option maxHeartbeats 2000000 in
set_option maxRecDepth 100000 in
theorem looked_any (f u : Nat → Nat) (w : World) (hf : By 16 f) :
    Calls Try.prog 63 #[.agg (rC 16 f), .agg (rC 256 u)] w fun e w' => e = .returned (.agg (rC 16 fun i => u (f i))) ∧ Below w.heap.size w w' := by
  have G0 := hid_in (G3.new w 16 256 16 41 67 41 f u (fun _ => 0))
  rw [← zeroG] at G0
  go_enter Try.func63, Try.ntmps63
  go_wp2_with (first | (refine wpList_load_row rfl 41 _ rfl w.heap.size rfl 41 _ (0, 0) _ G0.out.a Try.underlying41 rfl sizeG ?_))
  generalize (((w.alloc (.cells (rC 16 f) 41)).alloc (.cells (rC 256 u) 67)).alloc (.cells _ 41)) = W0 at *
  go_loopw [8] (fun v wr => ∃ k : Nat, k ≤ 16 ∧ v = .int .i64 (k : Int) ∧ Hid (G3 w wr 16 256 16 41 67 41 (fun i => if i < k then u (f i) else f i) u (fun _ => 0))) (fun v _ => 16 - (intOf v).toNat)
  case atStart =>
    refine ⟨0, Nat.zero_le _, rfl, ?_⟩
    exact G0.out.congr1 (fun i _ => by simp)
  case round =>
    obtain ⟨k, hk, rfl, HW⟩ := hrel
    by_cases hlt : k < 16
    · have c1 := HW.out.a.cell k hlt
      have hfk := hf k hlt
      have c2 := HW.out.b.cell (f k) hfk
      have c3 := HW.out.a.frozen k
      have c4 := idxG f k hlt
      have HL := hid_in hlt
      have q1 : (k : Int) < 16 := by omega
      have q2 : ((f k : Nat) : Int) < 256 := by omega
      go_wp2_with fail
      refine ⟨⟨k + 1, HL.out, by simp, ?_⟩, by have := HL.out; simp [intOf]; omega⟩
      refine (HW.out.set1 k (u (f k))).congr1 (fun i hi => ?_)
      show (if i = k then u (f k) else if i < k then u (f i) else f i) = if i < k + 1 then u (f i) else f i
      by_cases e : i = k
      · subst e; simp
      · by_cases e2 : i < k
        · rw [if_neg e, if_pos e2, if_pos (by omega)]
        · rw [if_neg e, if_neg e2, if_neg (by omega)]
    · have q1 : ¬ (k : Int) < 16 := by omega
      have G := hid_in (HW.out.congr1 (h := fun i => u (f i)) (fun i hi => by show (if i < k then _ else _) = _; rw [if_pos (by omega)]))
      go_wp2_with (first | (refine wpList_load_row rfl 41 _ rfl w.heap.size rfl 41 _ (0, 0) _ G.out.a Try.underlying41 rfl sizeG ?_) | (refine wpList_store_row rfl 41 _ _ rfl (w.heap.size + 1 + 1) _ rfl rfl 41 _ G.out.c sizeG rfl (rC_one _ _) ?_))
      refine bodyPost_ret (v := .agg (rC 16 fun i => u (f i))) (results_cell_row Try.results63 _ _ (w.heap.size + 1 + 1) 41 _ (0, 0) _ rfl (setRow_at G.out.c) Try.underlying41 rfl sizeG) rfl ⟨rfl, Below_setRow G.out.bel (by omega)⟩
/-- Rows turned by so many columns. -/
def shf (c : Nat) (f : Nat → Nat) (i : Nat) : Nat := f ((i + i % 4 * c * 4) % 16)
set_option maxHeartbeats 2000000 in
set_option maxRecDepth 100000 in
theorem shifted_any (f : Nat → Nat) (c : Nat) (w : World) (hc : c ≤ 3) :
    Calls Try.prog 64 #[.agg (rC 16 f), .int .i64 (c : Int)] w fun e w' => e = .returned (.agg (rC 16 (shf c f))) ∧ Below w.heap.size w w' := by
  have G0 := hid_in (G3.new w 16 16 16 41 41 41 f (fun _ => 0) (fun _ => 0))
  rw [← zeroG] at G0
  go_enter Try.func64, Try.ntmps64
  go_wp2_with fail
  generalize (((w.alloc (.cells (rC 16 f) 41)).alloc (.cells _ 41)).alloc (.cells _ 41)) = W0 at *
  go_loopw [7] (fun v wr => ∃ k : Nat, k ≤ 16 ∧ v = .int .i64 (k : Int) ∧ Hid (G3 w wr 16 16 16 41 41 41 f (fun _ => 0) (fun i => if i < k then shf c f i else 0))) (fun v _ => 16 - (intOf v).toNat)
  case atStart =>
    refine ⟨0, Nat.zero_le _, rfl, ?_⟩
    exact G0.out.congr3 (fun i _ => by simp)
  case round =>
    obtain ⟨k, hk, rfl, HW⟩ := hrel
    by_cases hlt : k < 16
    · obtain ⟨j, hj⟩ : ∃ j, (k + k % 4 * c * 4) % 16 = j := ⟨_, rfl⟩
      have hj16 : j < 16 := by omega
      have c1 := HW.out.a.cell j hj16
      have c2 := HW.out.c.cell k hlt
      have c3 := HW.out.c.frozen k
      have HL := hid_in hlt
      have q1 : (k : Int) < 16 := by omega
      have hm : k % 4 * c ≤ 9 := by
        have h1 : k % 4 ≤ 3 := by omega
        exact Nat.mul_le_mul h1 hc
      have e1 : (k : Int) % 4 * (c : Int) = ((k % 4 * c : Nat) : Int) := by simp
      have e2 : ((k : Int) + ((k % 4 * c : Nat) : Int) * 4) % 16 = (j : Int) := by omega
      have HJ := hid_in (show shf c f k = f j by unfold shf; rw [hj])
      clear hj
      generalize k % 4 * c = m at *
      go_wp2_with fail
      refine ⟨⟨k + 1, HL.out, by simp, ?_⟩, by have := HL.out; simp [intOf]; omega⟩
      refine (HW.out.set3 k (f j)).congr3 (fun i hi => ?_)
      show (if i = k then f j else if i < k then shf c f i else 0) = if i < k + 1 then shf c f i else 0
      by_cases e : i = k
      · subst e; rw [if_pos rfl, if_pos (by omega), HJ.out]
      · by_cases e2 : i < k
        · rw [if_neg e, if_pos e2, if_pos (by omega)]
        · rw [if_neg e, if_neg e2, if_neg (by omega)]
    · have q1 : ¬ (k : Int) < 16 := by omega
      have G := hid_in (HW.out.congr3 (h := shf c f) (fun i hi => by show (if i < k then _ else _) = _; rw [if_pos (by omega)]))
      go_wp2_with (first | (refine wpList_load_row rfl 41 _ rfl (w.heap.size + 1 + 1) rfl 41 _ (0, 0) _ G.out.c Try.underlying41 rfl sizeG ?_) | (refine wpList_store_row rfl 41 _ _ rfl (w.heap.size + 1) _ rfl rfl 41 _ G.out.b sizeG rfl (rC_one _ _) ?_))
      refine bodyPost_ret (v := .agg (rC 16 (shf c f))) (results_cell_row Try.results64 _ _ (w.heap.size + 1) 41 _ (0, 0) _ rfl (setRow_at G.out.b) Try.underlying41 rfl sizeG) rfl ⟨rfl, Below_setRow G.out.bel (by omega)⟩
end Go.Proofs.Ytdbobeojbdcmdaa
