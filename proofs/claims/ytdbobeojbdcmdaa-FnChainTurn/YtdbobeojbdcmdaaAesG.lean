/- The next key of AES, in the program, as a contract. The conditions stand at each theorem. -/
import Derived.Test.YtdbobeojbdcmdaaAesF
namespace Go.Proofs.Ytdbobeojbdcmdaa
open Go.RowKit Go.LatT Go.BlockM Go.PlainAid Go.OpnT Go.ApdG Go.BytM Go.AesM
set_option linter.unusedVariables false
set_option linter.unusedSimpArgs false
set_option maxHeartbeats 4000000 in
set_option maxRecDepth 100000 in
theorem nextKey_any (gt r : Nat) (sl : Value) (f : Nat → Nat) (w : World) (hT : RB w gt 512 69 (tabF 255)) (hf : By 16 f) (hr : r < 256) :
    Calls Try.prog 61 #[.agg #[.pointer (some ⟨gt, 0, none⟩), sl], .agg (rC 16 f), .int .u8 (r : Int)] w fun e w' => e = .returned (.agg (rC 16 (nk f r))) ∧ Below w.heap.size w w' := by
  have N0 := hid_in (NS.new w gt sl f 45 hT)
  rw [← zeroG, ← zero4] at N0
  clear hT
  go_enter Try.func61, Try.ntmps61
  go_wp2_with fail
  generalize ((((w.alloc (.cells #[.pointer (some ⟨gt, 0, none⟩), sl] 45)).alloc (.cells (rC 16 f) 41)).alloc (.cells _ 41)).alloc (.cells _ 72)) = W0 at *
  go_loopw [10] (fun v wr => ∃ k : Nat, k ≤ 4 ∧ v = .int .i64 (k : Int) ∧ Hid (NS w wr gt sl f (fun i => if i < k then there (f (12 + (i + 1) % 4)) else 0))) (fun v _ => 4 - (intOf v).toNat)
  case atStart =>
    refine ⟨0, Nat.zero_le _, rfl, ?_⟩
    exact N0.out.congrW (fun i _ => by simp)
  case round =>
    obtain ⟨k, hk, rfl, HW⟩ := hrel
    by_cases hlt : k < 4
    · obtain ⟨m, hm⟩ : ∃ m, (k + 1) % 4 = m := ⟨_, rfl⟩
      obtain ⟨x, hx'⟩ : ∃ x, 12 + m = x := ⟨_, rfl⟩
      have hx := hf x (by omega)
      have c0 := HW.out.c0
      have c1 := HW.out.key.cell x (by omega)
      have c2 := HW.out.tab.cell (f x) (by omega)
      rw [tab_there _ hx] at c2
      have c3 := HW.out.word.cell k hlt
      have c4 := HW.out.word.frozen k
      have HM := hid_in (show 12 + (k + 1) % 4 = x by omega)
      have HL := hid_in hlt
      have q1 : (k : Int) < 4 := by omega
      have q2 : ((f x : Nat) : Int) < 256 := by omega
      have e1 : IntKind.i64.wrap ((k : Int) + 1) = (k : Int) + 1 := by rw [IntKind.wrap_i64]; omega
      have e2 : ((k : Int) + 1).tmod 4 = (m : Int) := by rw [Int.tmod_eq_emod_of_nonneg (by omega)]; omega
      have e3 : IntKind.i64.wrap (m : Int) = (m : Int) := by rw [IntKind.wrap_i64]; omega
      have e4 : IntKind.i64.wrap (12 + (m : Int)) = (x : Int) := by rw [IntKind.wrap_i64]; omega
      have q3 : (x : Int) < 16 := by omega
      have q4 : (m : Int) < 4 := by omega
      clear hx'
      clear hm
      go_wp2_with fail
      go_region
      go_wp2_with fail
      refine ⟨⟨k + 1, HL.out, by simp, ?_⟩, by have := HL.out; simp [intOf]; omega⟩
      refine ((HW.out.setW k (there (f x))).congrW (fun i hi => ?_)).drew
      show (if i = k then there (f x) else if i < k then there (f (12 + (i + 1) % 4)) else 0) = if i < k + 1 then there (f (12 + (i + 1) % 4)) else 0
      by_cases e : i = k
      · subst e; rw [if_pos rfl, if_pos (by omega), HM.out]
      · by_cases e2 : i < k
        · rw [if_neg e, if_pos e2, if_pos (by omega)]
        · rw [if_neg e, if_neg e2, if_neg (by omega)]
    · have q1 : ¬ (k : Int) < 4 := by omega
      have N1 := hid_in (HW.out.congrW (h := fun i => there (f (12 + (i + 1) % 4))) (fun i hi => by show (if i < k then _ else _) = _; rw [if_pos (by omega)]))
      have d0 := N1.out.word.cell 0 (by omega)
      have d1 := N1.out.word.frozen 0
      have d2 := xor8 (there (f (12 + (0 + 1) % 4))) r (there_lt _ (hf _ (by omega))) hr
      have N2 := hid_in ((N1.out.setW 0 (there (f (12 + (0 + 1) % 4)) ^^^ r)).congrW (h := fun j => wk f r 0 j) (fun i hi => by
        show (if i = 0 then there (f (12 + (0 + 1) % 4)) ^^^ r else there (f (12 + (i + 1) % 4))) = wk f r 0 i
        rw [wk_zero f r i hi, w0]
        by_cases e : i = 0
        · subst e; rfl
        · rw [if_neg e, if_neg e]))
      clear HW
      generalize there (f (12 + (0 + 1) % 4)) = a at *
      go_wp2_with fail
      generalize (wr.setCell ⟨w.heap.size + 1 + 1 + 1, 0, none⟩ (.int .u8 ((a ^^^ r : Nat) : Int))) = W2 at *
      clear N1 d0 d1 d2
      go_loopw [33] (fun v wr => ∃ k : Nat, k ≤ 16 ∧ v = .int .i64 (k : Int) ∧ Hid (NS w wr gt sl (fun i => if i < k then nk f r i else f i) (fun j => wk f r k j))) (fun v _ => 16 - (intOf v).toNat)
      case atStart =>
        refine ⟨0, Nat.zero_le _, rfl, ?_⟩
        exact N2.out.congrK (fun i _ => by simp)
      case round =>
        obtain ⟨k, hk, rfl, HW⟩ := hrel
        by_cases hlt : k < 16
        · obtain ⟨m, hm⟩ : ∃ m, k % 4 = m := ⟨_, rfl⟩
          have hm4 : m < 4 := by omega
          have c1 := HW.out.word.cell m hm4
          have c2 := HW.out.word.frozen m
          have c3 := HW.out.key.cell k hlt
          rw [if_neg (Nat.lt_irrefl k)] at c3
          have c4 := HW.out.key.frozen k
          have ST := wk_step f r k hlt
          rw [hm] at ST
          have c5 := xor8 (wk f r k m) (f k) (wk_lt hf hr k m hk hm4) (hf k hlt)
          rw [ST] at c5
          have S1 := hid_in (((HW.out.setW m (nk f r k)).congrW (h := fun j => wk f r (k + 1) j) (fun i hi => by
            show (if i = m then nk f r k else wk f r k i) = wk f r (k + 1) i
            rw [wk_next f r k i hlt hi, hm])).drew)
          have WN : wk f r (k + 1) m = nk f r k := by rw [wk_next f r k m hlt hm4, if_pos hm.symm]
          have NK : Hid (nk f r k = nk f r k) := rfl
          have HL := hid_in hlt
          have q1 : (k : Int) < 16 := by omega
          have e2 : (k : Int).tmod 4 = (m : Int) := by rw [Int.tmod_eq_emod_of_nonneg (by omega)]; omega
          have e2' : (k : Int) % 4 = (m : Int) := by omega
          have e3 : IntKind.i64.wrap (m : Int) = (m : Int) := by rw [IntKind.wrap_i64]; omega
          have q4 : (m : Int) < 4 := by omega
          clear ST hm
          obtain ⟨b, hb⟩ : ∃ b, nk f r k = b := ⟨_, rfl⟩
          have HB := hid_in hb
          rw [hb] at c5 S1 WN
          have y1 := S1.out.word.cell m hm4
          have y2 := S1.out.key.cell k hlt
          have y3 := S1.out.key.frozen k
          rw [WN] at y1
          rw [if_neg (Nat.lt_irrefl k)] at y2
          have S2 := hid_in (S1.out.setK k b)
          clear hb WN NK
          generalize wk f r k m = a' at *
          go_wp2_with fail
          go_region
          generalize (wr.setCell ⟨w.heap.size + 1 + 1 + 1, m, none⟩ (.int .u8 (b : Int))).drew = W3 at *
          clear c1 c2 c3 c4 c5 HW
          go_wp2_with fail
          refine ⟨⟨k + 1, HL.out, by simp, ?_⟩, by have := HL.out; simp [intOf]; omega⟩
          refine S2.out.congrK (fun i hi => ?_)
          show (if i = k then b else if i < k then nk f r i else f i) = if i < k + 1 then nk f r i else f i
          by_cases e : i = k
          · subst e; rw [if_pos rfl, if_pos (by omega), HB.out]
          · by_cases e2 : i < k
            · rw [if_neg e, if_pos e2, if_pos (by omega)]
            · rw [if_neg e, if_neg e2, if_neg (by omega)]
        · have q1 : ¬ (k : Int) < 16 := by omega
          have G := hid_in (HW.out.congrK (h := nk f r) (fun i hi => by show (if i < k then _ else _) = _; rw [if_pos (by omega)]))
          go_wp2_with (first | (refine wpList_load_row rfl 41 _ rfl (w.heap.size + 1) rfl 41 _ (0, 0) _ G.out.key Try.underlying41 rfl sizeG ?_) | (refine wpList_store_row rfl 41 _ _ rfl (w.heap.size + 1 + 1) _ rfl rfl 41 _ G.out.res sizeG rfl (rC_one _ _) ?_))
          refine bodyPost_ret (v := .agg (rC 16 (nk f r))) (results_cell_row Try.results61 _ _ (w.heap.size + 1 + 1) 41 _ (0, 0) _ rfl (setRow_at G.out.res) Try.underlying41 rfl sizeG) rfl ⟨rfl, Below_setRow G.out.bel (by omega)⟩
end Go.Proofs.Ytdbobeojbdcmdaa
