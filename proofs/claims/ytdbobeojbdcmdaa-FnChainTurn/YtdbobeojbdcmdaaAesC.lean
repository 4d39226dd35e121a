/- Blocks of bytes mixed, in the program, as contracts. The conditions stand at each theorem. -/
import Derived.Test.YtdbobeojbdcmdaaAesB
namespace Go.Proofs.Ytdbobeojbdcmdaa
open Go.RowKit Go.LatT Go.BlockM Go.PlainAid Go.OpnT Go.ApdG Go.BytM Go.AesM
set_option linter.unusedVariables false
set_option linter.unusedSimpArgs false
/-- Four blocks of bytes, made one behind the other. -/
structure G4 (w W : World) (n1 n2 n3 n4 : Nat) (t1 t2 t3 t4 : TypeId) (f1 f2 f3 f4 : Nat → Nat) : Prop where
  a : RB W w.heap.size n1 t1 f1
  b : RB W (w.heap.size + 1) n2 t2 f2
  c : RB W (w.heap.size + 1 + 1) n3 t3 f3
  d : RB W (w.heap.size + 1 + 1 + 1) n4 t4 f4
  bel : Below w.heap.size w W
section
variable {w W : World} {n1 n2 n3 n4 : Nat} {t1 t2 t3 t4 : TypeId} {f1 f2 f3 f4 h : Nat → Nat}
theorem G4.new (w : World) (n1 n2 n3 n4 : Nat) (t1 t2 t3 t4 : TypeId) (f1 f2 f3 f4 : Nat → Nat) : G4 w ((((w.alloc (.cells (rC n1 f1) t1)).alloc (.cells (rC n2 f2) t2)).alloc (.cells (rC n3 f3) t3)).alloc (.cells (rC n4 f4) t4)) n1 n2 n3 n4 t1 t2 t3 t4 f1 f2 f3 f4 := by
  have g := (G3.new w n1 n2 n3 t1 t2 t3 f1 f2 f3).later (below_box _ (.cells (rC n4 f4) t4))
  refine ⟨g.a, g.b, g.c, ?_, g.bel⟩
  have := RB.new (((w.alloc (.cells (rC n1 f1) t1)).alloc (.cells (rC n2 f2) t2)).alloc (.cells (rC n3 f3) t3)) n4 t4 f4
  simpa using this
theorem G4.drew (h : G4 w W n1 n2 n3 n4 t1 t2 t3 t4 f1 f2 f3 f4) : G4 w W.drew n1 n2 n3 n4 t1 t2 t3 t4 f1 f2 f3 f4 := ⟨h.a, h.b, h.c, h.d, h.bel.drew⟩
theorem G4.later {W' : World} (h : G4 w W n1 n2 n3 n4 t1 t2 t3 t4 f1 f2 f3 f4) (hb : Below W.heap.size W W') : G4 w W' n1 n2 n3 n4 t1 t2 t3 t4 f1 f2 f3 f4 := ⟨RBlater h.a hb, RBlater h.b hb, RBlater h.c hb, RBlater h.d hb, below_later h.bel hb⟩
theorem G4.set4 (h : G4 w W n1 n2 n3 n4 t1 t2 t3 t4 f1 f2 f3 f4) (k b : Nat) : G4 w (W.setCell ⟨w.heap.size + 1 + 1 + 1, k, none⟩ (.int .u8 (b : Int))) n1 n2 n3 n4 t1 t2 t3 t4 f1 f2 f3 (fun i => if i = k then b else f4 i) :=
  ⟨h.a.other _ _ _ (by omega), h.b.other _ _ _ (by omega), h.c.other _ _ _ (by omega), h.d.set k b, h.bel.setCell (by simp; omega) _⟩
theorem G4.congr4 (g : G4 w W n1 n2 n3 n4 t1 t2 t3 t4 f1 f2 f3 f4) (e : ∀ i, i < n4 → f4 i = h i) : G4 w W n1 n2 n3 n4 t1 t2 t3 t4 f1 f2 f3 h := ⟨g.a, g.b, g.c, g.d.congr e, g.bel⟩
end
/-- The first k parts of a mixed byte. -/
def mixK (f g : Nat → Nat) (i : Nat) : Nat → Nat
  | 0 => 0
  | k + 1 => mixK f g i k ^^^ mul (f (i - i % 4 + k)) (g ((k + 4 - i % 4) % 4))
/-- Columns mixed. -/
def mix (f g : Nat → Nat) (i : Nat) : Nat := mixK f g i 4
theorem mixK_lt {f g : Nat → Nat} (hf : By 16 f) (i : Nat) (hi : i < 16) : ∀ k, k ≤ 4 → mixK f g i k < 256
  | 0, _ => by simp [mixK]
  | k + 1, h => by
    rw [mixK]
    exact xor_lt (mixK_lt hf i hi k (by omega)) (mul_lt (hf _ (by omega)))
theorem sizeF : (Try.prog.info? 72).map (·.size) = some 4 := by kernel_rfl
set_option maxHeartbeats 4000000 in
set_option maxRecDepth 100000 in
theorem mixed_any (f g : Nat → Nat) (w : World) (hf : By 16 f) (hg : By 4 g) :
    Calls Try.prog 65 #[.agg (rC 16 f), .agg (rC 4 g)] w fun e w' => e = .returned (.agg (rC 16 (mix f g))) ∧ Below w.heap.size w w' := by
  have G0 := hid_in (G4.new w 16 4 16 16 41 72 41 41 f g (fun _ => 0) (fun _ => 0))
  rw [← zeroG] at G0
  go_enter Try.func65, Try.ntmps65
  go_wp2_with fail
  generalize ((((w.alloc (.cells (rC 16 f) 41)).alloc (.cells (rC 4 g) 72)).alloc (.cells _ 41)).alloc (.cells _ 41)) = W0 at *
  go_loopw [10] (fun v wr => ∃ k : Nat, k ≤ 16 ∧ v = .int .i64 (k : Int) ∧ Hid (G4 w wr 16 4 16 16 41 72 41 41 f g (fun _ => 0) (fun i => if i < k then mix f g i else 0))) (fun v _ => 16 - (intOf v).toNat)
  case atStart =>
    refine ⟨0, Nat.zero_le _, rfl, ?_⟩
    exact G0.out.congr4 (fun i _ => by simp)
  case round =>
    obtain ⟨k, hk, rfl, HW⟩ := hrel
    by_cases hlt : k < 16
    · have HL := hid_in hlt
      have q1 : (k : Int) < 16 := by omega
      go_wp2_with fail
      go_loopw [19] (fun v wr => ∃ j : Nat, j ≤ 4 ∧ v = .int .i64 (j : Int) ∧ Hid (G4 w wr 16 4 16 16 41 72 41 41 f g (fun _ => 0) (fun i => if i = k then mixK f g k j else if i < k then mix f g i else 0))) (fun v _ => 4 - (intOf v).toNat)
      case atStart =>
        refine ⟨0, Nat.zero_le _, rfl, ?_⟩
        refine HW.out.congr4 (fun i _ => ?_)
        show (if i < k then mix f g i else 0) = if i = k then mixK f g k 0 else if i < k then mix f g i else 0
        by_cases e : i = k
        · subst e; simp [mixK]
        · rw [if_neg e]
      case round =>
        obtain ⟨j, hj, rfl, HV⟩ := hrel
        by_cases hjl : j < 4
        · obtain ⟨x, hx⟩ : ∃ x, k - k % 4 + j = x := ⟨_, rfl⟩
          obtain ⟨y, hy⟩ : ∃ y, (j + 4 - k % 4) % 4 = y := ⟨_, rfl⟩
          have hx16 : x < 16 := by omega
          have hy4 : y < 4 := by omega
          have c1 := HV.out.a.cell x hx16
          have c2 := HV.out.b.cell y hy4
          have c3 := HV.out.d.cell k HL.out
          rw [if_pos rfl] at c3
          have c4 := HV.out.d.frozen k
          have e1 : (k : Int) - (k : Int) % 4 + (j : Int) = (x : Int) := by omega
          have e2 : ((j : Int) - (k : Int) % 4 + 4) % 4 = (y : Int) := by omega
          have TM := hid_in (fun w => times_any (f x) (g y) w (hf x hx16) (hg y hy4))
          have hmk := mixK_lt (g := g) hf k HL.out j (by omega)
          have hxo := xor8 (mixK f g k j) (mul (f x) (g y)) hmk (mul_lt (hf x hx16))
          have HM := hid_in (show mixK f g k (j + 1) = mixK f g k j ^^^ mul (f x) (g y) by rw [mixK, hx, hy])
          have HJ := hid_in hjl
          have q2 : (j : Int) < 4 := by omega
          generalize mixK f g k j = m0 at *
          generalize mul (f x) (g y) = m1 at *
          have e3 : IntKind.i64.wrap ((k : Int) - (k : Int) % 4 + (j : Int)) = (x : Int) := by rw [IntKind.wrap_i64]; omega
          have e4 : IntKind.i64.wrap ((j : Int) - (k : Int) % 4) = (j : Int) - (k : Int) % 4 := by rw [IntKind.wrap_i64]; omega
          have e5 : IntKind.i64.wrap ((j : Int) - (k : Int) % 4 + 4) = (j : Int) - (k : Int) % 4 + 4 := by rw [IntKind.wrap_i64]; omega
          have e6 : ((j : Int) - (k : Int) % 4 + 4).tmod 4 = (y : Int) := by rw [Int.tmod_eq_emod_of_nonneg (by omega)]; omega
          have e7 : IntKind.i64.wrap (y : Int) = (y : Int) := by rw [IntKind.wrap_i64]; omega
          have e8 : IntKind.i64.wrap (x : Int) = (x : Int) := by rw [IntKind.wrap_i64]; omega
          have q3 : (x : Int) < 16 := by omega
          have l1 := HV.out.a.lt; have l2 := HV.out.b.lt; have l3 := HV.out.d.lt
          have q4 : (y : Int) < 4 := by omega
          go_wp2_with fail
          refine wp_region_lat_tail (Below.refl _ _) (by kernel_rfl) (by dsimp only [List.dropLast]) (by exact rfl) (by kernel_rfl) ?_
          intro hne hcl
          repeat (go_big_quiet_step (first | (go_at_call 62; exact lat_same (TM.out _))))
          refine wpQuiet_nil ?_
          intro w1 hb1
          obtain ⟨hc1, hf1⟩ := bcell hb1
          clear hne hcl
          have V1 := hid_in (HV.out.later hb1)
          clear c1 c2 c3 c4 l1 l2 l3 hc1 hf1 hb1
          have d1 := V1.out.d.cell k HL.out
          have d2 := V1.out.d.frozen k
          go_wp2_with fail
          refine ⟨⟨j + 1, HJ.out, by simp, ?_⟩, by have := HJ.out; simp [intOf]; omega⟩
          refine (V1.out.set4 k (m0 ^^^ m1)).congr4 (fun i hi => ?_)
          show (if i = k then m0 ^^^ m1 else if i = k then m0 else if i < k then mix f g i else 0) = if i = k then mixK f g k (j + 1) else if i < k then mix f g i else 0
          by_cases e : i = k
          · rw [if_pos e, if_pos e, HM.out]
          · rw [if_neg e, if_neg e, if_neg e]
        · have q2 : ¬ (j : Int) < 4 := by omega
          have ej : j = 4 := by omega
          have EJ := hid_in ej
          clear ej
          go_wp2_with fail
          refine ⟨⟨k + 1, HL.out, by simp, ?_⟩, by have := HL.out; simp [intOf]; omega⟩
          refine HV.out.congr4 (fun i hi => ?_)
          show (if i = k then mixK f g k j else if i < k then mix f g i else 0) = if i < k + 1 then mix f g i else 0
          by_cases e : i = k
          · subst e; rw [if_pos rfl, if_pos (by omega), EJ.out]; rfl
          · by_cases e2 : i < k
            · rw [if_neg e, if_pos e2, if_pos (by omega)]
            · rw [if_neg e, if_neg e2, if_neg (by omega)]
    · have q1 : ¬ (k : Int) < 16 := by omega
      have G := hid_in (HW.out.congr4 (h := mix f g) (fun i hi => by show (if i < k then _ else _) = _; rw [if_pos (by omega)]))
      go_wp2_with (first | (refine wpList_load_row rfl 41 _ rfl (w.heap.size + 1 + 1 + 1) rfl 41 _ (0, 0) _ G.out.d Try.underlying41 rfl sizeG ?_) | (refine wpList_store_row rfl 41 _ _ rfl (w.heap.size + 1 + 1) _ rfl rfl 41 _ G.out.c sizeG rfl (rC_one _ _) ?_))
      refine bodyPost_ret (v := .agg (rC 16 (mix f g))) (results_cell_row Try.results65 _ _ (w.heap.size + 1 + 1) 41 _ (0, 0) _ rfl (setRow_at G.out.c) Try.underlying41 rfl sizeG) rfl ⟨rfl, Below_setRow G.out.bel (by omega)⟩
end Go.Proofs.Ytdbobeojbdcmdaa
