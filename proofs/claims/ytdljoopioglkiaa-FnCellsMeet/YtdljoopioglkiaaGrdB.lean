/- Edges of rules, and the grid of them, in the specification, as contracts. The conditions stand at each theorem. -/
import Derived.Test.YtdljoopioglkiaaGrdA
namespace Go.Proofs.Ytdljoopioglkiaa
open Go.RowKit Go.LatT Go.BlockM Go.OpnT Go.WinMath
set_option linter.unusedVariables false
set_option linter.unusedSimpArgs false
/-- Where a rule's side begins and ends, and how far it may go. -/
def loW (E : Nat → Nat → Int) (what i : Nat) : Int := match what with
  | 0 => E i 2 | 1 => E i 4 | _ => E i 6
def hiW (E : Nat → Nat → Int) (what i : Nat) : Int := match what with
  | 0 => E i 2 + pw (32 - E i 3) - 1 | 1 => E i 4 + pw (32 - E i 5) - 1 | _ => E i 7
def mostW (what : Nat) : Int := match what with
  | 0 => 4294967295 | 1 => 4294967295 | _ => 65535
/-- The edges of a side. -/
def edgW (E : Nat → Nat → Int) (what : Nat) (L : List Int) (n : Nat) : List Int := edgR (loW E what) (hiW E what) (mostW what) L n
theorem rok_ports {E : Nat → Nat → Int} {k : Nat} (h : rbad E k = false) : 0 ≤ E k 6 ∧ E k 6 ≤ E k 7 ∧ E k 7 ≤ 65535 := by
  simp only [rbad, Bool.not_eq_false', rokB, Bool.and_eq_true, decide_eq_true_eq] at h
  omega
theorem hiW_nn {E : Nat → Nat → Int} {k : Nat} (what : Nat) (h : rbad E k = false) : 0 ≤ hiW E what k := by
  obtain ⟨⟨a, _, _, _⟩, b, _, _, _⟩ := rok_bounds h
  have := rok_ports h
  have p1 := pw_pos (32 - E k 3)
  have p2 := pw_pos (32 - E k 5)
  match what with
  | 0 => show 0 ≤ E k 2 + pw (32 - E k 3) - 1; omega
  | 1 => show 0 ≤ E k 4 + pw (32 - E k 5) - 1; omega
  | n + 2 => show 0 ≤ E k 7; omega
set_option maxHeartbeats 400000 in
set_option maxRecDepth 100000 in
theorem l4Edges0 (bb off n cap : Nat) (E : Nat → Nat → Int) (B : Nat) (v0 : Value) (L : List Int) (w : World) (hB : B ≤ w.heap.size) (hlt : bb < w.heap.size) (hc : ∀ i, i < n → ∀ j, j < 8 → w.cell? ⟨bb, off + i * 8 + j, none⟩ = some (.int .i64 (E i j))) (hn : n ≤ 9) (hok : ∀ i, i < n → rbad E i = false)
    (hL : ILm B w v0 L) (hp : L.Pairwise (· < ·)) (hl : L.length ≤ 60) :
    Calls Try.prog 41 #[.slice (some ⟨bb, off, none⟩) n cap, .int .i64 0, v0] w fun e w' => ∃ v', e = .returned v' ∧ ILm B w' v' (edgW E 0 L n) ∧ Below w.heap.size w w' := by
  have HC := hid_in hc; have HO := hid_in hok; have HL := hid_in hL; have HP := hid_in hp
  clear hc hok hL hp
  go_enter Try.func41, Try.ntmps41
  go_wp2_with fail
  go_loopw [2, 7, 8, 9, 10] (fun s i _ _ _ wr => ∃ k : Nat, k ≤ n ∧ i = .int .i64 (k : Int) ∧ Hid (Below w.heap.size w wr ∧ ILm B wr s (edgW E 0 L k))) (fun _ i _ _ _ _ => n - (intOf i).toNat)
  case atStart => exact ⟨0, Nat.zero_le _, rfl, by show _ ∧ _; exact ⟨Below.refl _ _, HL.out⟩⟩
  case round =>
    obtain ⟨k, hk, rfl, HW⟩ := hrel
    by_cases hlt' : k < n
    · have hd : (k : Int) < (n : Int) := by omega
      have hg := fun j hj => ((bcell HW.out.1).1 bb (off + k * 8 + j) hlt).trans (HC.out k hlt' j hj)
      have g2 := hg 2 (by omega); have g3 := hg 3 (by omega); have g4 := hg 4 (by omega); have g5 := hg 5 (by omega); have g6 := hg 6 (by omega); have g7 := hg 7 (by omega)
      have hm1 : bb < wr.heap.size := Nat.lt_of_lt_of_le hlt HW.out.1.size
      have HKO := hid_in (HO.out k hlt')
      obtain ⟨⟨q0, q1, q2, q3⟩, r0, r1, r2, r3⟩ := rok_bounds HKO.out
      have hl1 := edgR_len (loW E 0) (hiW E 0) (mostW 0) L k
      have hl2 : Hid ((ins (loW E 0 k) (edgW E 0 L k)).length ≤ 100) := by show _ ≤ _; have := ins_len (loW E 0 k) (edgW E 0 L k); unfold edgW at this ⊢; omega
      have hl3 : Hid ((edgW E 0 L k).length ≤ 100) := by show _ ≤ _; unfold edgW; omega
      have hy0 := hiW_nn 0 HKO.out
      have hp1 := hid_in (edgR_asc (loW E 0) (hiW E 0) (mostW 0) L HP.out k)
      clear hg hl1
      go_wp2_with fail
      refine (slast (E k 2) (E k 3) _ q0 q1 q2 q3).mono ?_
      rintro e w1 ⟨rfl, hb1⟩
      have D1 := hid_in (below_later HW.out.1 hb1); have I1 := hid_in (HW.out.2.later hb1)
      clear hb1
      obtain ⟨y, hy⟩ : ∃ y, E k 2 + pw (32 - E k 3) - 1 = y := ⟨_, rfl⟩
      have HY : Hid (hiW E 0 k = y) := hy
      have hy1 : 0 ≤ y := by rw [← HY.out]; exact hy0
      rw [hy] at *
      clear hy hy0
      go_wp2_with fail
      refine (l3NumM B (E k 2) _ _ _ (Nat.le_trans hB D1.out.size) I1.out hl3.out hp1.out).mono ?_
      rintro e w2 ⟨v2, rfl, i2, hb2⟩
      have D2 := hid_in (below_later D1.out hb2); have I2 : Hid (ILm B w2 v2 (ins (loW E 0 k) (edgW E 0 L k))) := i2
      clear hb2 i2
      by_cases hcmp : y < 4294967295
      · have ewr : IntKind.i64.wrap (y + 1) = y + 1 := by rw [IntKind.wrap_i64]; omega
        go_wp2_with fail
        refine (l3NumM B (y + 1) _ _ _ (Nat.le_trans hB D2.out.size) I2.out hl2.out (asc_ins _ _ hp1.out)).mono ?_
        rintro e w3 ⟨v3, rfl, i3, hb3⟩
        have D3 := hid_in (below_later D2.out hb3); have I3 := hid_in i3
        clear hb3 i3
        go_wp2_with fail
        refine ⟨⟨k + 1, by omega, by simp, ?_⟩, by simp [intOf]; omega⟩
        show _ ∧ _
        refine ⟨D3.out, ?_⟩
        have := I3.out
        unfold edgW edgR
        simp only
        rw [if_pos (show hiW E 0 k < mostW 0 from by rw [HY.out]; show y < (4294967295 : Int); omega), HY.out]
        exact this
      · have hcmp' : decide (y < 4294967295) = false := by simp; omega
        go_wp2_with fail
        refine ⟨⟨k + 1, by omega, by simp, ?_⟩, by simp [intOf]; omega⟩
        show _ ∧ _
        refine ⟨D2.out, ?_⟩
        have := I2.out
        unfold edgW edgR
        simp only
        rw [if_neg (show ¬ hiW E 0 k < mostW 0 from by rw [HY.out]; show ¬ y < (4294967295 : Int); omega)]
        exact this
    · have hd : decide ((k : Int) < (n : Int)) = false := by simp; omega
      obtain rfl : k = n := by omega
      go_wp2_with fail
      go_ret
      exact ⟨_, rfl, HW.out.2, HW.out.1⟩
theorem l4EdgesT0 (a : Option Addr) (n cap : Nat) (E : Nat → Nat → Int) (B : Nat) (v0 : Value) (L : List Int) (w : World) (hB : B ≤ w.heap.size) (hT : Tab w a n 8 E) (hn : n ≤ 9) (hok : ∀ i, i < n → rbad E i = false)
    (hL : ILm B w v0 L) (hp : L.Pairwise (· < ·)) (hl : L.length ≤ 60) :
    Calls Try.prog 41 #[.slice a n cap, .int .i64 0, v0] w fun e w' => ∃ v', e = .returned v' ∧ ILm B w' v' (edgW E 0 L n) ∧ Below w.heap.size w w' := by
  rcases hT with rfl | ⟨bb, off, rfl, h1, h2⟩
  · have HL := hid_in hL
    clear hL
    go_enter Try.func41, Try.ntmps41
    go_wp2_with fail
    refine wp_loop_rounds 1 ?_
    rw [rounds_succ]
    go_wp2_with fail
    go_ret
    exact ⟨_, rfl, HL.out, Below.refl _ _⟩
  · exact l4Edges0 bb off n cap E B v0 L w hB h1 h2 hn hok hL hp hl
set_option maxHeartbeats 400000 in
set_option maxRecDepth 100000 in
theorem l4Edges1 (bb off n cap : Nat) (E : Nat → Nat → Int) (B : Nat) (v0 : Value) (L : List Int) (w : World) (hB : B ≤ w.heap.size) (hlt : bb < w.heap.size) (hc : ∀ i, i < n → ∀ j, j < 8 → w.cell? ⟨bb, off + i * 8 + j, none⟩ = some (.int .i64 (E i j))) (hn : n ≤ 9) (hok : ∀ i, i < n → rbad E i = false)
    (hL : ILm B w v0 L) (hp : L.Pairwise (· < ·)) (hl : L.length ≤ 60) :
    Calls Try.prog 41 #[.slice (some ⟨bb, off, none⟩) n cap, .int .i64 1, v0] w fun e w' => ∃ v', e = .returned v' ∧ ILm B w' v' (edgW E 1 L n) ∧ Below w.heap.size w w' := by
  have HC := hid_in hc; have HO := hid_in hok; have HL := hid_in hL; have HP := hid_in hp
  clear hc hok hL hp
  go_enter Try.func41, Try.ntmps41
  go_wp2_with fail
  go_loopw [2, 7, 8, 9, 10] (fun s i _ _ _ wr => ∃ k : Nat, k ≤ n ∧ i = .int .i64 (k : Int) ∧ Hid (Below w.heap.size w wr ∧ ILm B wr s (edgW E 1 L k))) (fun _ i _ _ _ _ => n - (intOf i).toNat)
  case atStart => exact ⟨0, Nat.zero_le _, rfl, by show _ ∧ _; exact ⟨Below.refl _ _, HL.out⟩⟩
  case round =>
    obtain ⟨k, hk, rfl, HW⟩ := hrel
    by_cases hlt' : k < n
    · have hd : (k : Int) < (n : Int) := by omega
      have hg := fun j hj => ((bcell HW.out.1).1 bb (off + k * 8 + j) hlt).trans (HC.out k hlt' j hj)
      have g2 := hg 2 (by omega); have g3 := hg 3 (by omega); have g4 := hg 4 (by omega); have g5 := hg 5 (by omega); have g6 := hg 6 (by omega); have g7 := hg 7 (by omega)
      have hm1 : bb < wr.heap.size := Nat.lt_of_lt_of_le hlt HW.out.1.size
      have HKO := hid_in (HO.out k hlt')
      obtain ⟨⟨q0, q1, q2, q3⟩, r0, r1, r2, r3⟩ := rok_bounds HKO.out
      have hl1 := edgR_len (loW E 1) (hiW E 1) (mostW 1) L k
      have hl2 : Hid ((ins (loW E 1 k) (edgW E 1 L k)).length ≤ 100) := by show _ ≤ _; have := ins_len (loW E 1 k) (edgW E 1 L k); unfold edgW at this ⊢; omega
      have hl3 : Hid ((edgW E 1 L k).length ≤ 100) := by show _ ≤ _; unfold edgW; omega
      have hy0 := hiW_nn 1 HKO.out
      have hp1 := hid_in (edgR_asc (loW E 1) (hiW E 1) (mostW 1) L HP.out k)
      clear hg hl1
      go_wp2_with fail
      refine (slast (E k 4) (E k 5) _ r0 r1 r2 r3).mono ?_
      rintro e w1 ⟨rfl, hb1⟩
      have D1 := hid_in (below_later HW.out.1 hb1); have I1 := hid_in (HW.out.2.later hb1)
      clear hb1
      obtain ⟨y, hy⟩ : ∃ y, E k 4 + pw (32 - E k 5) - 1 = y := ⟨_, rfl⟩
      have HY : Hid (hiW E 1 k = y) := hy
      have hy1 : 0 ≤ y := by rw [← HY.out]; exact hy0
      rw [hy] at *
      clear hy hy0
      go_wp2_with fail
      refine (l3NumM B (E k 4) _ _ _ (Nat.le_trans hB D1.out.size) I1.out hl3.out hp1.out).mono ?_
      rintro e w2 ⟨v2, rfl, i2, hb2⟩
      have D2 := hid_in (below_later D1.out hb2); have I2 : Hid (ILm B w2 v2 (ins (loW E 1 k) (edgW E 1 L k))) := i2
      clear hb2 i2
      by_cases hcmp : y < 4294967295
      · have ewr : IntKind.i64.wrap (y + 1) = y + 1 := by rw [IntKind.wrap_i64]; omega
        go_wp2_with fail
        refine (l3NumM B (y + 1) _ _ _ (Nat.le_trans hB D2.out.size) I2.out hl2.out (asc_ins _ _ hp1.out)).mono ?_
        rintro e w3 ⟨v3, rfl, i3, hb3⟩
        have D3 := hid_in (below_later D2.out hb3); have I3 := hid_in i3
        clear hb3 i3
        go_wp2_with fail
        refine ⟨⟨k + 1, by omega, by simp, ?_⟩, by simp [intOf]; omega⟩
        show _ ∧ _
        refine ⟨D3.out, ?_⟩
        have := I3.out
        unfold edgW edgR
        simp only
        rw [if_pos (show hiW E 1 k < mostW 1 from by rw [HY.out]; show y < (4294967295 : Int); omega), HY.out]
        exact this
      · have hcmp' : decide (y < 4294967295) = false := by simp; omega
        go_wp2_with fail
        refine ⟨⟨k + 1, by omega, by simp, ?_⟩, by simp [intOf]; omega⟩
        show _ ∧ _
        refine ⟨D2.out, ?_⟩
        have := I2.out
        unfold edgW edgR
        simp only
        rw [if_neg (show ¬ hiW E 1 k < mostW 1 from by rw [HY.out]; show ¬ y < (4294967295 : Int); omega)]
        exact this
    · have hd : decide ((k : Int) < (n : Int)) = false := by simp; omega
      obtain rfl : k = n := by omega
      go_wp2_with fail
      go_ret
      exact ⟨_, rfl, HW.out.2, HW.out.1⟩
theorem l4EdgesT1 (a : Option Addr) (n cap : Nat) (E : Nat → Nat → Int) (B : Nat) (v0 : Value) (L : List Int) (w : World) (hB : B ≤ w.heap.size) (hT : Tab w a n 8 E) (hn : n ≤ 9) (hok : ∀ i, i < n → rbad E i = false)
    (hL : ILm B w v0 L) (hp : L.Pairwise (· < ·)) (hl : L.length ≤ 60) :
    Calls Try.prog 41 #[.slice a n cap, .int .i64 1, v0] w fun e w' => ∃ v', e = .returned v' ∧ ILm B w' v' (edgW E 1 L n) ∧ Below w.heap.size w w' := by
  rcases hT with rfl | ⟨bb, off, rfl, h1, h2⟩
  · have HL := hid_in hL
    clear hL
    go_enter Try.func41, Try.ntmps41
    go_wp2_with fail
    refine wp_loop_rounds 1 ?_
    rw [rounds_succ]
    go_wp2_with fail
    go_ret
    exact ⟨_, rfl, HL.out, Below.refl _ _⟩
  · exact l4Edges1 bb off n cap E B v0 L w hB h1 h2 hn hok hL hp hl
set_option maxHeartbeats 400000 in
set_option maxRecDepth 100000 in
theorem l4Edges2 (bb off n cap : Nat) (E : Nat → Nat → Int) (B : Nat) (v0 : Value) (L : List Int) (w : World) (hB : B ≤ w.heap.size) (hlt : bb < w.heap.size) (hc : ∀ i, i < n → ∀ j, j < 8 → w.cell? ⟨bb, off + i * 8 + j, none⟩ = some (.int .i64 (E i j))) (hn : n ≤ 9) (hok : ∀ i, i < n → rbad E i = false)
    (hL : ILm B w v0 L) (hp : L.Pairwise (· < ·)) (hl : L.length ≤ 60) :
    Calls Try.prog 41 #[.slice (some ⟨bb, off, none⟩) n cap, .int .i64 2, v0] w fun e w' => ∃ v', e = .returned v' ∧ ILm B w' v' (edgW E 2 L n) ∧ Below w.heap.size w w' := by
  have HC := hid_in hc; have HO := hid_in hok; have HL := hid_in hL; have HP := hid_in hp
  clear hc hok hL hp
  go_enter Try.func41, Try.ntmps41
  go_wp2_with fail
  go_loopw [2, 7, 8, 9, 10] (fun s i _ _ _ wr => ∃ k : Nat, k ≤ n ∧ i = .int .i64 (k : Int) ∧ Hid (Below w.heap.size w wr ∧ ILm B wr s (edgW E 2 L k))) (fun _ i _ _ _ _ => n - (intOf i).toNat)
  case atStart => exact ⟨0, Nat.zero_le _, rfl, by show _ ∧ _; exact ⟨Below.refl _ _, HL.out⟩⟩
  case round =>
    obtain ⟨k, hk, rfl, HW⟩ := hrel
    by_cases hlt' : k < n
    · have hd : (k : Int) < (n : Int) := by omega
      have hg := fun j hj => ((bcell HW.out.1).1 bb (off + k * 8 + j) hlt).trans (HC.out k hlt' j hj)
      have g2 := hg 2 (by omega); have g3 := hg 3 (by omega); have g4 := hg 4 (by omega); have g5 := hg 5 (by omega); have g6 := hg 6 (by omega); have g7 := hg 7 (by omega)
      have hm1 : bb < wr.heap.size := Nat.lt_of_lt_of_le hlt HW.out.1.size
      have HKO := hid_in (HO.out k hlt')
      obtain ⟨⟨q0, q1, q2, q3⟩, r0, r1, r2, r3⟩ := rok_bounds HKO.out
      have hl1 := edgR_len (loW E 2) (hiW E 2) (mostW 2) L k
      have hl2 : Hid ((ins (loW E 2 k) (edgW E 2 L k)).length ≤ 100) := by show _ ≤ _; have := ins_len (loW E 2 k) (edgW E 2 L k); unfold edgW at this ⊢; omega
      have hl3 : Hid ((edgW E 2 L k).length ≤ 100) := by show _ ≤ _; unfold edgW; omega
      have hy0 := hiW_nn 2 HKO.out
      have hp1 := hid_in (edgR_asc (loW E 2) (hiW E 2) (mostW 2) L HP.out k)
      clear hg hl1
      have D1 := hid_in HW.out.1; have I1 := hid_in HW.out.2
      obtain ⟨y, hy⟩ : ∃ y, E k 7 = y := ⟨_, rfl⟩
      have HY : Hid (hiW E 2 k = y) := hy
      have hy1 : 0 ≤ y := by rw [← HY.out]; exact hy0
      rw [hy] at g7
      clear hy hy0
      go_wp2_with fail
      refine (l3NumM B (E k 6) _ _ _ (Nat.le_trans hB D1.out.size) I1.out hl3.out hp1.out).mono ?_
      rintro e w2 ⟨v2, rfl, i2, hb2⟩
      have D2 := hid_in (below_later D1.out hb2); have I2 : Hid (ILm B w2 v2 (ins (loW E 2 k) (edgW E 2 L k))) := i2
      clear hb2 i2
      by_cases hcmp : y < 65535
      · have ewr : IntKind.i64.wrap (y + 1) = y + 1 := by rw [IntKind.wrap_i64]; omega
        go_wp2_with fail
        refine (l3NumM B (y + 1) _ _ _ (Nat.le_trans hB D2.out.size) I2.out hl2.out (asc_ins _ _ hp1.out)).mono ?_
        rintro e w3 ⟨v3, rfl, i3, hb3⟩
        have D3 := hid_in (below_later D2.out hb3); have I3 := hid_in i3
        clear hb3 i3
        go_wp2_with fail
        refine ⟨⟨k + 1, by omega, by simp, ?_⟩, by simp [intOf]; omega⟩
        show _ ∧ _
        refine ⟨D3.out, ?_⟩
        have := I3.out
        unfold edgW edgR
        simp only
        rw [if_pos (show hiW E 2 k < mostW 2 from by rw [HY.out]; show y < (65535 : Int); omega), HY.out]
        exact this
      · have hcmp' : decide (y < 65535) = false := by simp; omega
        go_wp2_with fail
        refine ⟨⟨k + 1, by omega, by simp, ?_⟩, by simp [intOf]; omega⟩
        show _ ∧ _
        refine ⟨D2.out, ?_⟩
        have := I2.out
        unfold edgW edgR
        simp only
        rw [if_neg (show ¬ hiW E 2 k < mostW 2 from by rw [HY.out]; show ¬ y < (65535 : Int); omega)]
        exact this
    · have hd : decide ((k : Int) < (n : Int)) = false := by simp; omega
      obtain rfl : k = n := by omega
      go_wp2_with fail
      go_ret
      exact ⟨_, rfl, HW.out.2, HW.out.1⟩
theorem l4EdgesT2 (a : Option Addr) (n cap : Nat) (E : Nat → Nat → Int) (B : Nat) (v0 : Value) (L : List Int) (w : World) (hB : B ≤ w.heap.size) (hT : Tab w a n 8 E) (hn : n ≤ 9) (hok : ∀ i, i < n → rbad E i = false)
    (hL : ILm B w v0 L) (hp : L.Pairwise (· < ·)) (hl : L.length ≤ 60) :
    Calls Try.prog 41 #[.slice a n cap, .int .i64 2, v0] w fun e w' => ∃ v', e = .returned v' ∧ ILm B w' v' (edgW E 2 L n) ∧ Below w.heap.size w w' := by
  rcases hT with rfl | ⟨bb, off, rfl, h1, h2⟩
  · have HL := hid_in hL
    clear hL
    go_enter Try.func41, Try.ntmps41
    go_wp2_with fail
    refine wp_loop_rounds 1 ?_
    rw [rounds_succ]
    go_wp2_with fail
    go_ret
    exact ⟨_, rfl, HL.out, Below.refl _ _⟩
  · exact l4Edges2 bb off n cap E B v0 L w hB h1 h2 hn hok hL hp hl
end Go.Proofs.Ytdljoopioglkiaa
