/- The words of a block in the program, as a contract. The conditions stand at the theorem. -/
import Derived.Test.YtgamakiejaeeeaaDoorShaE
import Derived.RowKit3
namespace Go.Proofs.YtgamakiejaeeeaaDoor
open Go.RowKit Go.LatT Go.BlockM Go.PlainAid Go.OpnT Go.ApdG Go.BytM Go.AesM Go.RowQ
set_option linter.unusedVariables false
set_option linter.unusedSimpArgs false
theorem add_at (g o j : Nat) : (⟨g, o, none⟩ : Addr).add j = ⟨g, o + j, none⟩ := by
  unfold Addr.add
  by_cases h0 : j = 0
  · rw [if_pos h0, h0, Nat.add_zero]
  · rw [if_neg h0]
theorem NI_mk {W : World} {g : Nat} (l : List Nat) (cs : Array Value) (t : TypeId) (h : W.heap[g]? = some (.cells cs t)) (e : cs = (l.map fun n => Value.int .i64 (Int.ofNat n)).toArray) : NI W g l := by
  refine ⟨(Array.getElem?_eq_some_iff.1 h).1, fun j hj => ?_⟩
  rw [cell_of_row _ _ _ _ _ _ h, e]
  simp [hj]
theorem frz_alloc (w : World) (c : Array Value) (t : TypeId) (a : Addr) : (w.alloc (.cells c t)).frozen? a = w.frozen? a := Go.RowKit.frozen?_alloc_cells w c t a
theorem frz_drew (w : World) (a : Addr) : w.drew.frozen? a = w.frozen? a := rfl
theorem turned2 (x g c a b : Nat) (w : World) (hx : x < 4294967296) (ha : 1 ≤ a ∧ a ≤ 31) (hb : 1 ≤ b ∧ b ≤ 31) (h : g < w.heap.size) (c0 : w.cell? ⟨g, 0, none⟩ = some (.int .i64 (a : Int))) (c1 : w.cell? ⟨g, 1, none⟩ = some (.int .i64 (b : Int))) :
    Calls Tryd.prog 33 #[.int .u32 (x : Int), .slice (some ⟨g, 0, none⟩) 2 c] w fun e w' => e = .returned (.int .u32 ((rs x [a, b] : Nat) : Int)) ∧ Below w.heap.size w w' :=
  turned_any x g c [a, b] w hx (by simp) (by intro n hn; simp at hn; rcases hn with rfl | rfl <;> assumption) ⟨h, fun j hj => by
    match j, hj with
    | 0, _ => exact c0
    | 1, _ => exact c1
    | j + 2, hj => simp at hj; omega⟩
theorem turned3 (x g c a b d : Nat) (w : World) (hx : x < 4294967296) (ha : 1 ≤ a ∧ a ≤ 31) (hb : 1 ≤ b ∧ b ≤ 31) (hd : 1 ≤ d ∧ d ≤ 31) (h : g < w.heap.size) (c0 : w.cell? ⟨g, 0, none⟩ = some (.int .i64 (a : Int))) (c1 : w.cell? ⟨g, 1, none⟩ = some (.int .i64 (b : Int))) (c2 : w.cell? ⟨g, 2, none⟩ = some (.int .i64 (d : Int))) :
    Calls Tryd.prog 33 #[.int .u32 (x : Int), .slice (some ⟨g, 0, none⟩) 3 c] w fun e w' => e = .returned (.int .u32 ((rs x [a, b, d] : Nat) : Int)) ∧ Below w.heap.size w w' :=
  turned_any x g c [a, b, d] w hx (by simp) (by intro n hn; simp at hn; rcases hn with rfl | rfl | rfl <;> assumption) ⟨h, fun j hj => by
    match j, hj with
    | 0, _ => exact c0
    | 1, _ => exact c1
    | 2, _ => exact c2
    | j + 3, hj => simp at hj; omega⟩
theorem nAggU8 (w : World) : (isAgg 5).run Tryd.prog w = .ok false w := by kernel_rfl
theorem nSizeU8 (w : World) : (sizeOf 5).run Tryd.prog w = .ok 1 w := by kernel_rfl
theorem nAggU32 (w : World) : (isAgg 44).run Tryd.prog w = .ok false w := by kernel_rfl
theorem nSizeU32 (w : World) : (sizeOf 44).run Tryd.prog w = .ok 1 w := by kernel_rfl
theorem idxB64 (f : Nat → Nat) (k : Nat) (h : k < 64) (W : World) : (Instr.index 49 (.agg (rC 64 f)) (.int .i64 (k : Int))).run Tryd.prog W = .ok (.int .u8 (f k : Int)) W := by
  have h2 : (k : Int) < 64 := by omega
  have h3 := rC_get 64 f k h
  simp [Instr.index, run_underlying Tryd.underlying49, asIntOf, h, h2, h3, go_sem, part, nAggU8, nSizeU8]
theorem idxW64 (f : Nat → Nat) (k : Nat) (h : k < 64) (W : World) : (Instr.index 59 (.agg (uA 64 f)) (.int .i64 (k : Int))).run Tryd.prog W = .ok (.int .u32 (f k : Int)) W := by
  have h2 : (k : Int) < 64 := by omega
  have h3 := uA_get 64 f k h
  simp [Instr.index, run_underlying Tryd.underlying59, asIntOf, h, h2, h3, go_sem, part, nAggU32, nSizeU32]
theorem idxW8 (f : Nat → Nat) (k : Nat) (h : k < 8) (W : World) : (Instr.index 48 (.agg (uA 8 f)) (.int .i64 (k : Int))).run Tryd.prog W = .ok (.int .u32 (f k : Int)) W := by
  have h2 : (k : Int) < 8 := by omega
  have h3 := uA_get 8 f k h
  simp [Instr.index, run_underlying Tryd.underlying48, asIntOf, h, h2, h3, go_sem, part, nAggU32, nSizeU32]
theorem wexpr (A X D Y : Nat) (hX : X < 4294967296) (hY : Y < 4294967296) : ((((A : Int) + bits BinOp.xor IntKind.u32 (rs X [7, 18] : Int) ((X : Int) / 8)) % 4294967296 + (D : Int)) % 4294967296 + bits BinOp.xor IntKind.u32 (rs Y [17, 19] : Int) ((Y : Int) / 1024)) % 4294967296 = (((A + (rs X [7, 18] ^^^ X / 8) + D + (rs Y [17, 19] ^^^ Y / 1024)) % 4294967296 : Nat) : Int) := by
  have h1 := xor32 (rs X [7, 18]) (X / 8) (rs_lt X hX _) (by omega)
  have h2 := xor32 (rs Y [17, 19]) (Y / 1024) (rs_lt Y hY _) (by omega)
  rw [show ((X : Int) / 8) = ((X / 8 : Nat) : Int) by omega, show ((Y : Int) / 1024) = ((Y / 1024 : Nat) : Int) by omega, h1, h2]
  omega
theorem set_next {F f : Nat → Nat} {i : Nat} (h : ∀ j, j < i → F j = f j) : ∀ j, j < i + 1 → (fun x => if x = i then f i else F x) j = f j := by
  intro j hj
  show (if j = i then f i else F j) = f j
  by_cases e : j = i
  · rw [if_pos e, e]
  · rw [if_neg e]; exact h j (by omega)
theorem Below_setRow {w W : World} {B g : Nat} {cs : Array Value} (h : Below B w W) (hg : B ≤ g) : Below B w (W.setRow g cs) := by
  refine ⟨h.os, h.tape, h.output, ?_, fun k hk => ?_⟩
  · simpa [World.setRow] using h.size
  · rw [← h.block k hk]
    simp only [World.setRow, Array.getElem?_modify]
    rw [if_neg (by omega)]
theorem setRow_at {W : World} {g : Nat} {cs old : Array Value} {t : TypeId} (h : W.heap[g]? = some (.cells old t (0, 0))) : (W.setRow g cs).heap[g]? = some (.cells cs t (0, 0)) := setRow_heap W g old cs t (0, 0) h
/-- The words of a block, some of them made. -/
def wf (b : Nat → Nat) (i j : Nat) : Nat := if j < i then wds b j else 0
set_option maxHeartbeats 4000000 in
set_option maxRecDepth 100000 in
theorem words_any (g : Nat) (b : Nat → Nat) (w : World) (hg : g < w.heap.size) (hB : ∀ j, j < 64 → w.cell? ⟨g, 8 + j, none⟩ = some (.int .u8 (b j : Int))) (hb : ∀ i, i < 64 → b i < 256) :
    Calls Tryd.prog 32 #[.pointer (some ⟨g, 0, none⟩)] w fun e w' => e = .returned (.agg (uA 64 (wds b))) ∧ Below w.heap.size w w' := by
  have S0 := hid_in (WS.new w)
  rw [← zeroU64] at S0
  have HB1 := hid_in (fun j (hj : j < 64) => ((S0.out.bel.cell (p := (⟨g, 8, none⟩ : Addr).add j) (by rw [add_at]; exact hg)).trans (show w.cell? ((⟨g, 8, none⟩ : Addr).add j) = (rC 64 b)[j]? by rw [add_at, hB j hj, rC_get 64 b j hj])))
  have HY := hid_in hb
  clear hB hb
  go_enter Tryd.func32, Tryd.ntmps32
  go_wp2_with (first | (refine wpList_load_at aggB64 rfl _ rfl ⟨g, 8, none⟩ rfl (rC 64 b) (rC_size 64 b) HB1.out ?_))
  generalize ((w.alloc (.cells _ 59)).alloc (.cells _ 59)) = W0 at *
  go_loopw [13] (fun v wr => ∃ i : Nat, i ≤ 64 ∧ v = .int .i64 (i : Int) ∧ Hid (WS w wr (pw b i))) (fun v _ => 64 - (intOf v).toNat)
  case atStart => exact ⟨0, Nat.zero_le _, rfl, S0.out.congr (fun i _ => (pw_zero b i).symm)⟩
  case round =>
    obtain ⟨i, hi, rfl, HW⟩ := hrel
    by_cases hlt : i < 64
    · have q1 : (i : Int) < 64 := by omega
      obtain ⟨k, hk⟩ : ∃ k, i / 4 = k := ⟨_, rfl⟩
      have hk16 : k < 16 := by omega
      have q2 : (i : Int).tdiv 4 = (k : Int) := by rw [Int.tdiv_eq_ediv_of_nonneg (by omega)]; omega
      have w2 : IntKind.i64.wrap (k : Int) = (k : Int) := by rw [IntKind.wrap_i64]; omega
      have e2 : (i : Int) / 4 = (k : Int) := by omega
      have c1 := HW.out.wrd.cell k (by omega)
      have hA := pw_at HY.out i hlt
      rw [hk] at hA
      have hbi := HY.out i hlt
      have HA := hid_in (show bits .or .u32 ((pw b i k : Int) * 256) (b i : Int) = ((pw b i k * 256 + b i : Nat) : Int) by
        rw [show ((pw b i k : Int) * 256) = ((pw b i k * 256 : Nat) : Int) by omega, or32 _ _ (by omega) (by omega), show pw b i k * 256 = 2 ^ 8 * pw b i k by omega, ← Nat.two_pow_add_eq_or_of_lt (by omega : b i < 2 ^ 8)])
      have HST := hid_in (show ∀ j, (if j = k then pw b i k * 256 + b i else pw b i j) = pw b (i + 1) j by
        intro j; rw [pw_step, hk]; by_cases e : j = k
        · rw [if_pos e, if_pos e, e]
        · rw [if_neg e, if_neg e])
      have fz := HW.out.wrd.frozen k
      have hz := HW.out.bel.size
      have gi := idxB64 b i hlt
      have HL := hid_in hlt
      clear hk
      generalize hP : pw b i k = A at *
      generalize hQ : b i = B at *
      go_wp2_with fail
      refine ⟨⟨i + 1, HL.out, by simp, ?_⟩, by have := HL.out; simp [intOf]; omega⟩
      show WS _ _ _
      have h1 := HA.out
      rw [h1]
      exact (HW.out.set k (A * 256 + B)).congr (fun j _ => HST.out j)
    · have q1 : ¬ (i : Int) < 64 := by omega
      obtain rfl : i = 64 := by omega
      have S1 := hid_in (show WS w wr (pw b 64) from HW.out)
      clear S0 HB1 HW
      go_wp2_with fail
      go_loopw [6] (fun v wr => ∃ i : Nat, 16 ≤ i ∧ i ≤ 64 ∧ v = .int .i64 (i : Int) ∧ Hid (∃ F, WS w wr F ∧ ∀ j, j < i → F j = wds b j)) (fun v _ => 64 - (intOf v).toNat)
      case atStart => exact ⟨16, by omega, by omega, rfl, _, S1.out, fun j hj => pw_all b j hj⟩
      case round =>
        obtain ⟨i, h16, hi, rfl, HI⟩ := hrel
        clear S1
        by_cases hlt2 : i < 64
        · have HII := hid_in (show 16 ≤ i + 1 ∧ i + 1 ≤ 64 by omega)
          obtain ⟨F, HF, HFw⟩ := HI.out
          obtain ⟨j16, h16'⟩ : ∃ j, i - 16 = j := ⟨_, rfl⟩
          obtain ⟨j15, h15'⟩ : ∃ j, i - 15 = j := ⟨_, rfl⟩
          obtain ⟨j7, h7'⟩ : ∃ j, i - 7 = j := ⟨_, rfl⟩
          obtain ⟨j2, h2'⟩ : ∃ j, i - 2 = j := ⟨_, rfl⟩
          have c16 := HF.wrd.cell j16 (by omega)
          have c15 := HF.wrd.cell j15 (by omega)
          have c7 := HF.wrd.cell j7 (by omega)
          have c2 := HF.wrd.cell j2 (by omega)
          rw [HFw j16 (by omega)] at c16
          rw [HFw j15 (by omega)] at c15
          rw [HFw j7 (by omega)] at c7
          rw [HFw j2 (by omega)] at c2
          have HW2 := wds_high b i h16
          rw [h16', h15', h7', h2'] at HW2
          have hX := wds_lt HY.out j15
          have hY := wds_lt HY.out j2
          have hA := wds_lt HY.out j16
          have hD := wds_lt HY.out j7
          have q5 : (i : Int) < 64 := by omega
          have e15 : (i : Int) - 15 = (j15 : Int) := by omega
          have e2 : (i : Int) - 2 = (j2 : Int) := by omega
          have e16 : (i : Int) - 16 = (j16 : Int) := by omega
          have e7 : (i : Int) - 7 = (j7 : Int) := by omega
          have w15 : IntKind.i64.wrap (j15 : Int) = (j15 : Int) := by rw [IntKind.wrap_i64]; omega
          have w2 : IntKind.i64.wrap (j2 : Int) = (j2 : Int) := by rw [IntKind.wrap_i64]; omega
          have w16 : IntKind.i64.wrap (j16 : Int) = (j16 : Int) := by rw [IntKind.wrap_i64]; omega
          have w7 : IntKind.i64.wrap (j7 : Int) = (j7 : Int) := by rw [IntKind.wrap_i64]; omega
          have q15 : (j15 : Int) < 64 := by omega
          have q2 : (j2 : Int) < 64 := by omega
          have q16 : (j16 : Int) < 64 := by omega
          have q7 : (j7 : Int) < 64 := by omega
          have hs := HF.bel.size
          have fz := HF.wrd.frozen i
          have ci := HF.wrd.cell i hlt2
          obtain ⟨U, hU⟩ : ∃ u, F i = u := ⟨_, rfl⟩
          rw [hU] at ci
          clear hU
          have hHF := hid_in HF; have hHFw := hid_in HFw
          have hwr := HF.wrd.lt
          have HW3 := hid_in HW2
          clear HF HFw HI HW2 h16' h15' h7' h2'
          generalize hgA : wds b j16 = A at *
          generalize hgX : wds b j15 = X at *
          generalize hgD : wds b j7 = D at *
          generalize hgY : wds b j2 = Y at *
          clear hgA hgX hgD hgY
          go_wp2_with fail
          go_region
          go_wp2_with fail
          go_region_held3 (fun w' => w'.cell? ⟨w.heap.size + 1, j16, none⟩ = some (.int .u32 (A : Int)) ∧ w'.cell? ⟨w.heap.size + 1, j7, none⟩ = some (.int .u32 (D : Int))) (first | (go_keep; done) | (refine ⟨?_, ?_⟩ <;> first | assumption | (go_keep; done) | (go_simp; done))) (first | (go_at_call_of 33 (Value.int IntKind.u32 (X : Int)); refine (turned2 X _ _ 7 18 _ hX (by decide) (by decide) ?_ ?_ ?_).mono ?_; (focus (first | omega | (simp; done) | (simp; omega))); (focus (go_simp)); (focus (go_simp)); rintro e w1 ⟨rfl, hb1⟩; have u1 := hb1.size; (try simp at u1); have b1 : Hid (Below wr.heap.size wr w1) := (by first | (refine Below.trans ?_ (hb1.mono ?_); (focus (go_grown)); (focus (first | omega | (simp; done) | (simp; omega)))) | (refine (Below.alloc (Hid.out b2) ?_ _).trans (hb1.mono ?_); (focus (first | omega | (simp; done) | (simp; omega))); (focus (first | omega | (simp; done) | (simp; omega)))) | (exact (Hid.out b2).trans (hb1.mono (by omega)))); have s1 : w.heap.size + 1 < w1.heap.size := (by omega); have y1 := (hb1.cell (p := ⟨w.heap.size + 1, j16, none⟩) (by first | (simp; omega) | omega)).trans (by first | (go_keep; done) | go_simp : _ = some (Value.int .u32 (A : Int))); have z1 := (hb1.cell (p := ⟨w.heap.size + 1, j7, none⟩) (by first | (simp; omega) | omega)).trans (by first | (go_keep; done) | go_simp : _ = some (Value.int .u32 (D : Int))); have x1 := (hb1.cell (p := ⟨w.heap.size + 1, i, none⟩) (by first | (simp; omega) | omega)).trans (by first | (go_keep; done) | go_simp : _ = some (Value.int .u32 (U : Int))); have v1 := (hb1.frozen (p := ⟨w.heap.size + 1, i, none⟩) (by first | (simp; omega) | omega)).trans (by first | assumption | exact (frz_alloc _ _ _ _).trans (by assumption) | exact (frz_alloc _ _ _ _).trans ((frz_alloc _ _ _ _).trans (by assumption)) : _ = false); obtain ⟨hc1, hf1⟩ := bcell hb1) | (go_at_call_of 33 (Value.int IntKind.u32 (Y : Int)); refine (turned2 Y _ _ 17 19 _ hY (by decide) (by decide) ?_ ?_ ?_).mono ?_; (focus (first | omega | (simp; done) | (simp; omega))); (focus (go_simp)); (focus (go_simp)); rintro e w2 ⟨rfl, hb2⟩; have u2 := hb2.size; (try simp at u2); have b2 : Hid (Below wr.heap.size wr w2) := (by first | (refine Below.trans ?_ (hb2.mono ?_); (focus (go_grown)); (focus (first | omega | (simp; done) | (simp; omega)))) | (refine (Below.alloc (Hid.out b1) ?_ _).trans (hb2.mono ?_); (focus (first | omega | (simp; done) | (simp; omega))); (focus (first | omega | (simp; done) | (simp; omega)))) | (exact (Hid.out b1).trans (hb2.mono (by omega)))); have s2 : w.heap.size + 1 < w2.heap.size := (by omega); have y2 := (hb2.cell (p := ⟨w.heap.size + 1, j16, none⟩) (by first | (simp; omega) | omega)).trans (by first | (go_keep; done) | go_simp : _ = some (Value.int .u32 (A : Int))); have z2 := (hb2.cell (p := ⟨w.heap.size + 1, j7, none⟩) (by first | (simp; omega) | omega)).trans (by first | (go_keep; done) | go_simp : _ = some (Value.int .u32 (D : Int))); have x2 := (hb2.cell (p := ⟨w.heap.size + 1, i, none⟩) (by first | (simp; omega) | omega)).trans (by first | (go_keep; done) | go_simp : _ = some (Value.int .u32 (U : Int))); have v2 := (hb2.frozen (p := ⟨w.heap.size + 1, i, none⟩) (by first | (simp; omega) | omega)).trans (by first | assumption | exact (frz_alloc _ _ _ _).trans (by assumption) | exact (frz_alloc _ _ _ _).trans ((frz_alloc _ _ _ _).trans (by assumption)) : _ = false); obtain ⟨hc2, hf2⟩ := bcell hb2))
          all_goals go_wp2_with fail
          all_goals (refine ⟨⟨i + 1, HII.out.1, HII.out.2, by simp, ?_⟩, by have := HII.out; simp [intOf]; omega⟩)
          all_goals (show ∃ F', _ ∧ _)
          all_goals (rw [wexpr A X D Y hX hY, ← HW3.out])
          all_goals (first | refine ⟨_, (hHF.out.later b2.out).set i (wds b i), ?_⟩ | refine ⟨_, (hHF.out.later b1.out).set i (wds b i), ?_⟩)
          all_goals (exact set_next hHFw.out)
        · have q5 : ¬ (i : Int) < 64 := by omega
          obtain rfl : i = 64 := by omega
          obtain ⟨F, HF, HFw⟩ := HI.out
          have G := hid_in (HF.congr (f' := wds b) HFw)
          clear HF HFw HI
          go_wp2_with (first | (refine wpList_load_row rfl 59 _ rfl (w.heap.size + 1) rfl 59 _ (0, 0) _ G.out.wrd Tryd.underlying59 rfl sizeU64 ?_) | (refine wpList_store_row rfl 59 _ _ rfl w.heap.size _ rfl rfl 59 _ G.out.zer sizeU64 (by rw [uA_size, uA_size]) (uA_one _ _) ?_))
          refine bodyPost_ret (v := .agg (uA 64 (wds b))) (results_cell_row Tryd.results32 _ _ w.heap.size 59 _ (0, 0) _ rfl (setRow_at G.out.zer) Tryd.underlying59 rfl sizeU64) rfl ⟨rfl, Below_setRow G.out.bel (Nat.le_refl _)⟩
end Go.Proofs.YtgamakiejaeeeaaDoor
