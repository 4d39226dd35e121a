/- Lists of Way: what measuring one, copying one, and holding two against each other answer. The conditions stand at each theorem. -/
import Derived.Test.YtajkaaeckmfamaaWayA
import Derived.Test.YtajkaaeckmfamaaOpn
import Derived.Deep.OwnRows
import Derived.Deep.LoopGhost
import Derived.Handy
namespace Go.Proofs.Ytajkaaeckmfamaa
open Go.RowKit Go.LatT Go.BlockM Go.OpnT
set_option linter.unusedVariables false
set_option linter.unusedSimpArgs false
def zWay (n : Nat) : Array Value := madeCells #[.int .i64 0, .int .i64 0, .int .i64 0] n
theorem infoWay : (Try.prog.info? 37).map (fun i => (i.zero, i.size, i.bytes)) = some (some (.agg #[.int .i64 0, .int .i64 0, .int .i64 0]), 3, 24) := by kernel_rfl
theorem makeWays (n : Nat) (hn : n ≤ 1048576) (w : World) :
    (Instr.makeSlice 25 (.int .i64 (n : Int)) (.int .i64 (n : Int))).run Try.prog w = .ok (.slice (some ⟨w.heap.size, 0, none⟩) n n) (w.alloc (.cells (zWay (n * 3)) 37)) := by
  obtain ⟨i, hi, hzz⟩ := Option.map_eq_some_iff.1 infoWay
  simp only [Prod.mk.injEq] at hzz
  obtain ⟨hz, hs, hb⟩ := hzz
  have hr := run_make (P := Try.prog) w 25 37 i _ Try.underlying25 hi hz .i64 .i64 n n (by omega) (Int.le_refl _) (by rw [hb]; omega) (by omega)
  rw [hs, Int.toNat_natCast] at hr
  exact hr
theorem madeWay (w : World) (n : Nat) : (w.alloc (.cells (zWay (n * 3)) 37)).rowIs w.heap.size 37 (n * 3) (fun _ => .int .i64 0) := by
  refine ⟨_, Go.Deep.blk_alloc_new _ _, size_madeCells _ _, fun i hi => ?_⟩
  have hm : i % 3 = 0 ∨ i % 3 = 1 ∨ i % 3 = 2 := by omega
  simp only [zWay, madeCells]
  rcases hm with h | h | h <;> simp [hi, h]
set_option maxHeartbeats 1000000 in
set_option maxRecDepth 100000 in
theorem toWayS_some (bb off len cap : Nat) (E : Nat → Nat → Int) (w : World) (hlt : bb < w.heap.size) (hc : ∀ i, i < len → ∀ j, j < 3 → w.cell? ⟨bb, off + i * 3 + j, none⟩ = some (.int .i64 (E i j))) (hl : len ≤ 1048576) :
    Calls Try.prog 7 #[.slice (some ⟨bb, off, none⟩) len cap] w fun e w' => e = .returned (.slice (some ⟨w.heap.size, 0, none⟩) len len) ∧ Tab w' (some ⟨w.heap.size, 0, none⟩) len 3 E ∧ Below w.heap.size w w' := by
  have hmk := makeWays len hl
  have HC := hid_in hc
  clear hc
  go_enter Try.func7, Try.ntmps7
  go_wp2_with fail
  clear hmk
  go_loopw [4] (fun v wr => ∃ k : Nat, k ≤ len ∧ v = .int .i64 (k : Int) ∧ Hid (Below w.heap.size w wr ∧ wr.rowIs w.heap.size 37 (len * 3) (fun q => if q < k * 3 then .int .i64 (E (q / 3) (q % 3)) else .int .i64 0))) (fun v _ => len - (intOf v).toNat)
  case atStart => exact ⟨0, Nat.zero_le _, rfl, by show _ ∧ _; exact ⟨below_box _ _, (madeWay w len).congr (fun i _ => by simp)⟩⟩
  case round =>
    obtain ⟨k, hk, rfl, HW⟩ := hrel
    by_cases hlt' : k < len
    · have hd : (k : Int) < (len : Int) := by omega
      obtain ⟨hbW, hrow⟩ := HW.out
      have hg := fun j hj => ((bcell hbW).1 bb (off + k * 3 + j) hlt).trans (HC.out k hlt' j hj)
      have g0 : wr.cell? ⟨bb, off + k * 3, none⟩ = _ := hg 0 (by omega)
      have g1 := hg 1 (by omega); have g2 := hg 2 (by omega)
      clear hg
      have hm := hrow.lt
      have H1 := hid_in hbW; have H2 := hid_in hrow
      clear hbW hrow
      go_wp2_with fail
      refine (toWay_any (E k 0) (E k 1) (E k 2) _).mono ?_
      rintro e w1 ⟨rfl, hb1⟩
      have hrow1 := H2.out.of_block (hb1.block _ hm)
      have s0 := hrow1.cell (i := k * 3) (by omega); have s1 := hrow1.cell (i := k * 3 + 1) (by omega); have s2 := hrow1.cell (i := k * 3 + 2) (by omega)
      have f0 := hrow1.frozen (k * 3); have f1 := hrow1.frozen (k * 3 + 1); have f2 := hrow1.frozen (k * 3 + 2)
      unfold vWay
      go_wp2_with fail
      refine ⟨⟨k + 1, by omega, by simp, ?_⟩, by simp [intOf]; omega⟩
      show _ ∧ _
      refine ⟨(((below_later H1.out hb1).setCell (by simp) _).setCell (by simp) _).setCell (by simp) _, (((hrow1.set _ _).set _ _).set _ _).congr ?_⟩
      intro q hq
      clear g0 s0 f0 g1 s1 f1 g2 s2 f2
      repeat' split
      all_goals first | rfl | (exfalso; omega) | (congr 2 <;> omega)
    · have hd : decide ((k : Int) < (len : Int)) = false := by simp; omega
      obtain ⟨hbW, hrow⟩ := HW.out
      have H1 := hid_in hbW; have H2 := hid_in hrow
      clear hbW hrow
      go_wp2_with fail
      go_ret
      refine ⟨rfl, .inr ⟨_, _, rfl, H2.out.lt, fun i hi j hj => ?_⟩, H1.out⟩
      have := H2.out.cell (i := i * 3 + j) (by omega)
      rw [if_pos (by omega), show (i * 3 + j) / 3 = i by omega, show (i * 3 + j) % 3 = j by omega] at this
      rw [show 0 + i * 3 + j = i * 3 + j by omega]
      exact this
set_option maxHeartbeats 1000000 in
set_option maxRecDepth 100000 in
theorem toWayS_any (a : Option Addr) (len cap : Nat) (E : Nat → Nat → Int) (w : World) (hT : Tab w a len 3 E) (hl : len ≤ 1048576) :
    Calls Try.prog 7 #[.slice a len cap] w fun e w' => ∃ a' : Option Addr, e = .returned (.slice a' len len) ∧ Tab w' a' len 3 E ∧ Below w.heap.size w w' := by
  rcases hT with rfl | ⟨bb, off, rfl, hlt, hc⟩
  · have hmk := makeWays 0 (by omega)
    simp only [Int.natCast_zero] at hmk
    go_enter Try.func7, Try.ntmps7
    go_wp2_with fail
    clear hmk
    refine wp_loop_rounds 1 ?_
    rw [rounds_succ]
    go_wp2_with fail
    go_ret
    exact ⟨_, rfl, .inl rfl, below_box _ _⟩
  · exact (toWayS_some bb off len cap E w hlt hc hl).mono fun e w' ⟨he, hT, hb⟩ => ⟨_, he, hT, hb⟩
set_option maxHeartbeats 1000000 in
set_option maxRecDepth 100000 in
theorem eqWayS_some (b1 o1 b2 o2 len c1 c2 : Nat) (E : Nat → Nat → Int) (w : World) (h1 : b1 < w.heap.size) (k1 : ∀ i, i < len → ∀ j, j < 3 → w.cell? ⟨b1, o1 + i * 3 + j, none⟩ = some (.int .i64 (E i j)))
    (h2 : b2 < w.heap.size) (k2 : ∀ i, i < len → ∀ j, j < 3 → w.cell? ⟨b2, o2 + i * 3 + j, none⟩ = some (.int .i64 (E i j))) (hl : len ≤ 1048576) :
    Calls Try.prog 9 #[.slice (some ⟨b1, o1, none⟩) len c1, .slice (some ⟨b2, o2, none⟩) len c2] w fun e w' => e = .returned (.bool true) ∧ Below w.heap.size w w' := by
  have K1 := hid_in k1; have K2 := hid_in k2
  clear k1 k2
  go_enter Try.func9, Try.ntmps9
  go_wp2_with fail
  go_loopw [5] (fun v wr => ∃ k : Nat, k ≤ len ∧ v = .int .i64 (k : Int) ∧ Hid (Below w.heap.size w wr)) (fun v _ => len - (intOf v).toNat)
  case atStart => exact ⟨0, Nat.zero_le _, rfl, by show Below _ _ _; exact Below.refl _ _⟩
  case round =>
    obtain ⟨k, hk, rfl, HW⟩ := hrel
    by_cases hlt' : k < len
    · have hd : (k : Int) < (len : Int) := by omega
      have hg := fun j hj => ((bcell HW.out).1 b1 (o1 + k * 3 + j) h1).trans (K1.out k hlt' j hj)
      have g0 : wr.cell? ⟨b1, o1 + k * 3, none⟩ = _ := hg 0 (by omega)
      have g1 := hg 1 (by omega); have g2 := hg 2 (by omega)
      have hq := fun j hj => ((bcell HW.out).1 b2 (o2 + k * 3 + j) h2).trans (K2.out k hlt' j hj)
      have q0 : wr.cell? ⟨b2, o2 + k * 3, none⟩ = _ := hq 0 (by omega)
      have q1 := hq 1 (by omega); have q2 := hq 2 (by omega)
      have hm1 : b1 < wr.heap.size := Nat.lt_of_lt_of_le h1 HW.out.size
      have hm2 : b2 < wr.heap.size := Nat.lt_of_lt_of_le h2 HW.out.size
      clear hg hq
      go_wp2_with fail
      refine wp_region_lat (Below.refl _ _) (by kernel_rfl) (by kernel_rfl) ?_
      intro hne hcl
      repeat (go_big_quiet_step (first | (go_at_call 20; exact lat_of (eqWay_self _ _ _ _))))
      refine wpQuiet_nil ?_
      intro w1 hb1
      obtain ⟨hc1, hf1⟩ := bcell hb1
      clear hne hcl
      go_wp2_with fail
      exact ⟨⟨k + 1, by omega, by simp, by show Below _ _ _; exact below_later HW.out hb1⟩, by simp [intOf]; omega⟩
    · have hd : decide ((k : Int) < (len : Int)) = false := by simp; omega
      go_wp2_with fail
      go_ret
      exact ⟨rfl, HW.out⟩
set_option maxHeartbeats 1000000 in
set_option maxRecDepth 100000 in
theorem eqWayS_any (a1 a2 : Option Addr) (len c1 c2 : Nat) (E : Nat → Nat → Int) (w : World) (hT : Tab w a1 len 3 E) (hU : Tab w a2 len 3 E) (hl : len ≤ 1048576) :
    Calls Try.prog 9 #[.slice a1 len c1, .slice a2 len c2] w fun e w' => e = .returned (.bool true) ∧ Below w.heap.size w w' := by
  rcases hT with rfl | ⟨b1, o1, rfl, h1, k1⟩
  · clear hU
    go_enter Try.func9, Try.ntmps9
    go_wp2_with fail
    refine wp_loop_rounds 1 ?_
    rw [rounds_succ]
    go_wp2_with fail
    go_ret
    exact ⟨rfl, Below.refl _ _⟩
  · rcases hU with rfl | ⟨b2, o2, rfl, h2, k2⟩
    · clear k1 h1
      go_enter Try.func9, Try.ntmps9
      go_wp2_with fail
      refine wp_loop_rounds 1 ?_
      rw [rounds_succ]
      go_wp2_with fail
      go_ret
      exact ⟨rfl, Below.refl _ _⟩
    · exact eqWayS_some b1 o1 b2 o2 len c1 c2 E w h1 k1 h2 k2 hl
set_option maxHeartbeats 400000 in
set_option maxRecDepth 100000 in
theorem szWayS_any (a : Option Addr) (len cap : Nat) (w : World) (n : Int) (h0 : 0 ≤ n) (h1 : n ≤ 1048576) (hl : len ≤ maxLen) (v : Int) (hv : (if n - len < 0 then -1 else n - len) = v) :
    Calls Try.prog 5 #[.slice a len cap, .int .i64 n] w fun e w' => e = .returned (.int .i64 v) ∧ w' = w := by
  have hv1 := hid_in hv
  have hl2 : (len : Int) ≤ 9223372036854775807 := by unfold maxLen at hl; omega
  clear hv hl
  go_enter Try.func5, Try.ntmps5
  go_wp2
  all_goals
    go_ret
    exact ⟨ret_int (by rw [← hv1.out]; first | rw [if_pos (by omega)] | rw [if_neg (by omega)]), rfl⟩
end Go.Proofs.Ytajkaaeckmfamaa
