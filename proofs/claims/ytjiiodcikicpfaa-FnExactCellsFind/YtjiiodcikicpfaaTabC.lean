/- Lists of cells: what copying one, holding two against each other, and looking for one answer. The conditions stand at each theorem. -/
import Derived.Test.YtjiiodcikicpfaaCelA
import Derived.Test.YtjiiodcikicpfaaOpn
import Derived.Deep.OwnRows
import Derived.Deep.LoopGhost
import Derived.Deep.RegionHeld3
namespace Go.Proofs.Ytjiiodcikicpfaa
open Go.RowKit Go.LatT Go.BlockM Go.OpnT
set_option linter.unusedVariables false
set_option linter.unusedSimpArgs false
def zCell (n : Nat) : Array Value := madeCells #[.int .i64 0, .int .i64 0, .int .i64 0, .int .i64 0, .int .i64 0, .int .i64 0, .int .i64 0] n
theorem infoCell : (Try.prog.info? 38).map (fun i => (i.zero, i.size, i.bytes)) = some (some (vCell 0 0 0 0 0 0 0), 7, 56) := by kernel_rfl
theorem makeCells (n : Nat) (hn : n ≤ 1048576) (w : World) :
    (Instr.makeSlice 46 (.int .i64 (n : Int)) (.int .i64 (n : Int))).run Try.prog w = .ok (.slice (some ⟨w.heap.size, 0, none⟩) n n) (w.alloc (.cells (zCell (n * 7)) 38)) := by
  obtain ⟨i, hi, hzz⟩ := Option.map_eq_some_iff.1 infoCell
  simp only [Prod.mk.injEq] at hzz
  obtain ⟨hz, hs, hb⟩ := hzz
  have hr := run_make (P := Try.prog) w 46 38 i _ Try.underlying46 hi hz .i64 .i64 n n (by omega) (Int.le_refl _) (by rw [hb]; omega) (by omega)
  rw [hs, Int.toNat_natCast] at hr
  exact hr
theorem madeRow (w : World) (n : Nat) : (w.alloc (.cells (zCell (n * 7)) 38)).rowIs w.heap.size 38 (n * 7) (fun _ => .int .i64 0) := by
  refine ⟨_, Go.Deep.blk_alloc_new _ _, size_madeCells _ _, fun i hi => ?_⟩
  have h7 : i % 7 = 0 ∨ i % 7 = 1 ∨ i % 7 = 2 ∨ i % 7 = 3 ∨ i % 7 = 4 ∨ i % 7 = 5 ∨ i % 7 = 6 := by omega
  simp only [zCell, madeCells]
  rcases h7 with h | h | h | h | h | h | h <;> simp [hi, h]
set_option maxHeartbeats 1000000 in
set_option maxRecDepth 100000 in
theorem toCellS_some (bb off len cap : Nat) (E : Nat → Nat → Int) (w : World) (hlt : bb < w.heap.size) (hc : ∀ i, i < len → ∀ j, j < 7 → w.cell? ⟨bb, off + i * 7 + j, none⟩ = some (.int .i64 (E i j))) (hl : len ≤ 1048576) :
    Calls Try.prog 34 #[.slice (some ⟨bb, off, none⟩) len cap] w fun e w' => e = .returned (.slice (some ⟨w.heap.size, 0, none⟩) len len) ∧ Tab w' (some ⟨w.heap.size, 0, none⟩) len 7 E ∧ Below w.heap.size w w' := by
  have hmk := makeCells len hl
  have HC := hid_in hc
  clear hc
  go_enter Try.func34, Try.ntmps34
  go_wp2_with fail
  clear hmk
  go_loopw [4] (fun v wr => ∃ k : Nat, k ≤ len ∧ v = .int .i64 (k : Int) ∧ Hid (Below w.heap.size w wr ∧ wr.rowIs w.heap.size 38 (len * 7) (fun q => if q < k * 7 then .int .i64 (E (q / 7) (q % 7)) else .int .i64 0))) (fun v _ => len - (intOf v).toNat)
  case atStart => exact ⟨0, Nat.zero_le _, rfl, by show _ ∧ _; exact ⟨below_box _ _, (madeRow w len).congr (fun i _ => by simp)⟩⟩
  case round =>
    obtain ⟨k, hk, rfl, HW⟩ := hrel
    by_cases hlt' : k < len
    · have hd : (k : Int) < (len : Int) := by omega
      obtain ⟨hbW, hrow⟩ := HW.out
      have hg := fun j hj => ((bcell hbW).1 bb (off + k * 7 + j) hlt).trans (HC.out k hlt' j hj)
      have g0 : wr.cell? ⟨bb, off + k * 7, none⟩ = _ := hg 0 (by omega)
      have g1 := hg 1 (by omega); have g2 := hg 2 (by omega); have g3 := hg 3 (by omega); have g4 := hg 4 (by omega); have g5 := hg 5 (by omega); have g6 := hg 6 (by omega)
      clear hg
      have hm := hrow.lt
      have H1 := hid_in hbW; have H2 := hid_in hrow
      clear hbW hrow
      go_wp2_with fail
      refine (toCell_any (E k 0) (E k 1) (E k 2) (E k 3) (E k 4) (E k 5) (E k 6) _).mono ?_
      rintro e w1 ⟨rfl, hb1⟩
      have hrow1 := H2.out.of_block (hb1.block _ hm)
      have s0 := hrow1.cell (i := k * 7) (by omega); have s1 := hrow1.cell (i := k * 7 + 1) (by omega); have s2 := hrow1.cell (i := k * 7 + 2) (by omega); have s3 := hrow1.cell (i := k * 7 + 3) (by omega); have s4 := hrow1.cell (i := k * 7 + 4) (by omega); have s5 := hrow1.cell (i := k * 7 + 5) (by omega); have s6 := hrow1.cell (i := k * 7 + 6) (by omega)
      have f0 := hrow1.frozen (k * 7); have f1 := hrow1.frozen (k * 7 + 1); have f2 := hrow1.frozen (k * 7 + 2); have f3 := hrow1.frozen (k * 7 + 3); have f4 := hrow1.frozen (k * 7 + 4); have f5 := hrow1.frozen (k * 7 + 5); have f6 := hrow1.frozen (k * 7 + 6)
      unfold vCell
      go_wp2_with fail
      refine ⟨⟨k + 1, by omega, by simp, ?_⟩, by simp [intOf]; omega⟩
      show _ ∧ _
      refine ⟨(((((((below_later H1.out hb1).setCell (by simp) _).setCell (by simp) _).setCell (by simp) _).setCell (by simp) _).setCell (by simp) _).setCell (by simp) _).setCell (by simp) _, (((((((hrow1.set _ _).set _ _).set _ _).set _ _).set _ _).set _ _).set _ _).congr ?_⟩
      intro q hq
      clear g0 g1 g2 g3 g4 g5 g6 s0 s1 s2 s3 s4 s5 s6 f0 f1 f2 f3 f4 f5 f6
      repeat' split
      all_goals first | rfl | (exfalso; omega) | (congr 2 <;> omega)
    · have hd : decide ((k : Int) < (len : Int)) = false := by simp; omega
      obtain ⟨hbW, hrow⟩ := HW.out
      have H1 := hid_in hbW; have H2 := hid_in hrow
      clear hbW hrow
      go_wp2_with fail
      go_ret
      refine ⟨rfl, .inr ⟨_, _, rfl, H2.out.lt, fun i hi j hj => ?_⟩, H1.out⟩
      have := H2.out.cell (i := i * 7 + j) (by omega)
      rw [if_pos (by omega), show (i * 7 + j) / 7 = i by omega, show (i * 7 + j) % 7 = j by omega] at this
      rw [show 0 + i * 7 + j = i * 7 + j by omega]
      exact this
set_option maxHeartbeats 1000000 in
set_option maxRecDepth 100000 in
theorem toCellS_any (a : Option Addr) (len cap : Nat) (E : Nat → Nat → Int) (w : World) (hT : Tab w a len 7 E) (hl : len ≤ 1048576) :
    Calls Try.prog 34 #[.slice a len cap] w fun e w' => ∃ a' : Option Addr, e = .returned (.slice a' len len) ∧ Tab w' a' len 7 E ∧ Below w.heap.size w w' := by
  rcases hT with rfl | ⟨bb, off, rfl, hlt, hc⟩
  · have hmk := makeCells 0 (by omega)
    simp only [Int.natCast_zero] at hmk
    go_enter Try.func34, Try.ntmps34
    go_wp2_with fail
    clear hmk
    refine wp_loop_rounds 1 ?_
    rw [rounds_succ]
    go_wp2_with fail
    go_ret
    exact ⟨_, rfl, .inl rfl, below_box _ _⟩
  · exact (toCellS_some bb off len cap E w hlt hc hl).mono fun e w' ⟨he, hT, hb⟩ => ⟨_, he, hT, hb⟩
set_option maxHeartbeats 400000 in
set_option maxRecDepth 100000 in
theorem eqCell_self (a b c d l h r : Int) (w : World) :
    Calls Try.prog 71 #[.agg #[.int .i64 a, .int .i64 b, .int .i64 c, .int .i64 d, .int .i64 l, .int .i64 h, .int .i64 r], .agg #[.int .i64 a, .int .i64 b, .int .i64 c, .int .i64 d, .int .i64 l, .int .i64 h, .int .i64 r]] w fun e w' => e = .returned (.bool true) ∧ Below w.heap.size w w' := by
  go_enter Try.func71, Try.ntmps71
  go_wp2
  go_ret
  exact ⟨rfl, by go_grown⟩
set_option maxHeartbeats 1000000 in
set_option maxRecDepth 100000 in
theorem eqCellS_some (b1 o1 b2 o2 len c1 c2 : Nat) (E : Nat → Nat → Int) (w : World) (h1 : b1 < w.heap.size) (k1 : ∀ i, i < len → ∀ j, j < 7 → w.cell? ⟨b1, o1 + i * 7 + j, none⟩ = some (.int .i64 (E i j)))
    (h2 : b2 < w.heap.size) (k2 : ∀ i, i < len → ∀ j, j < 7 → w.cell? ⟨b2, o2 + i * 7 + j, none⟩ = some (.int .i64 (E i j))) (hl : len ≤ 1048576) :
    Calls Try.prog 36 #[.slice (some ⟨b1, o1, none⟩) len c1, .slice (some ⟨b2, o2, none⟩) len c2] w fun e w' => e = .returned (.bool true) ∧ Below w.heap.size w w' := by
  have K1 := hid_in k1; have K2 := hid_in k2
  clear k1 k2
  go_enter Try.func36, Try.ntmps36
  go_wp2_with fail
  go_loopw [5] (fun v wr => ∃ k : Nat, k ≤ len ∧ v = .int .i64 (k : Int) ∧ Hid (Below w.heap.size w wr)) (fun v _ => len - (intOf v).toNat)
  case atStart => exact ⟨0, Nat.zero_le _, rfl, by show Below _ _ _; exact Below.refl _ _⟩
  case round =>
    obtain ⟨k, hk, rfl, HW⟩ := hrel
    by_cases hlt' : k < len
    · have hd : (k : Int) < (len : Int) := by omega
      have hg := fun j hj => ((bcell HW.out).1 b1 (o1 + k * 7 + j) h1).trans (K1.out k hlt' j hj)
      have g0 : wr.cell? ⟨b1, o1 + k * 7, none⟩ = _ := hg 0 (by omega)
      have g1 := hg 1 (by omega); have g2 := hg 2 (by omega); have g3 := hg 3 (by omega); have g4 := hg 4 (by omega); have g5 := hg 5 (by omega); have g6 := hg 6 (by omega)
      have hq := fun j hj => ((bcell HW.out).1 b2 (o2 + k * 7 + j) h2).trans (K2.out k hlt' j hj)
      have q0 : wr.cell? ⟨b2, o2 + k * 7, none⟩ = _ := hq 0 (by omega)
      have q1 := hq 1 (by omega); have q2 := hq 2 (by omega); have q3 := hq 3 (by omega); have q4 := hq 4 (by omega); have q5 := hq 5 (by omega); have q6 := hq 6 (by omega)
      have hm1 : b1 < wr.heap.size := Nat.lt_of_lt_of_le h1 HW.out.size
      have hm2 : b2 < wr.heap.size := Nat.lt_of_lt_of_le h2 HW.out.size
      clear hg hq
      go_wp2_with fail
      refine wp_region_lat (Below.refl _ _) (by kernel_rfl) (by kernel_rfl) ?_
      intro hne hcl
      repeat (go_big_quiet_step (first | (go_at_call 71; exact lat_of (eqCell_self _ _ _ _ _ _ _ _))))
      refine wpQuiet_nil ?_
      intro w1 hb1
      obtain ⟨hc1, hf1⟩ := bcell hb1
      clear hne hcl
      go_wp2_with fail
      exact ⟨⟨k + 1, by omega, by simp, by show Below _ _ _; exact below_later HW.out hb1⟩, by simp [intOf]; omega⟩
    · have hd : decide ((k : Int) < (len : Int)) = false := by simp; omega
      go_wp2_with fail
      go_ret
      exact ⟨rfl, HW.out⟩
set_option maxHeartbeats 1000000 in
set_option maxRecDepth 100000 in
theorem eqCellS_any (a1 a2 : Option Addr) (len c1 c2 : Nat) (E : Nat → Nat → Int) (w : World) (hT : Tab w a1 len 7 E) (hU : Tab w a2 len 7 E) (hl : len ≤ 1048576) :
    Calls Try.prog 36 #[.slice a1 len c1, .slice a2 len c2] w fun e w' => e = .returned (.bool true) ∧ Below w.heap.size w w' := by
  rcases hT with rfl | ⟨b1, o1, rfl, h1, k1⟩
  · clear hU
    go_enter Try.func36, Try.ntmps36
    go_wp2_with fail
    refine wp_loop_rounds 1 ?_
    rw [rounds_succ]
    go_wp2_with fail
    go_ret
    exact ⟨rfl, Below.refl _ _⟩
  · rcases hU with rfl | ⟨b2, o2, rfl, h2, k2⟩
    · clear k1 h1
      go_enter Try.func36, Try.ntmps36
      go_wp2_with fail
      refine wp_loop_rounds 1 ?_
      rw [rounds_succ]
      go_wp2_with fail
      go_ret
      exact ⟨rfl, Below.refl _ _⟩
    · exact eqCellS_some b1 o1 b2 o2 len c1 c2 E w h1 k1 h2 k2 hl
set_option maxHeartbeats 400000 in
set_option maxRecDepth 100000 in
theorem szCellS_any (a : Option Addr) (len cap : Nat) (w : World) (n : Int) (h0 : 0 ≤ n) (h1 : n ≤ 1048576) (hl : len ≤ maxLen) (v : Int) (hv : (if n - len < 0 then -1 else n - len) = v) :
    Calls Try.prog 32 #[.slice a len cap, .int .i64 n] w fun e w' => e = .returned (.int .i64 v) ∧ w' = w := by
  have hv1 := hid_in hv
  have hl2 : (len : Int) ≤ 9223372036854775807 := by unfold maxLen at hl; omega
  clear hv hl
  go_enter Try.func32, Try.ntmps32
  go_wp2
  all_goals
    go_ret
    exact ⟨ret_int (by rw [← hv1.out]; first | rw [if_pos (by omega)] | rw [if_neg (by omega)]), rfl⟩
/-- v is what stands at the first place that serves, or -1. -/
def IsFirst (p : Nat → Bool) (r : Nat → Int) (n : Nat) (v : Int) : Prop := (∃ i, i < n ∧ p i = true ∧ (∀ j, j < i → p j = false) ∧ v = r i) ∨ ((∀ i, i < n → p i = false) ∧ v = -1)
theorem IsFirst.one {p : Nat → Bool} {r : Nat → Int} {n : Nat} {u v : Int} (h : IsFirst p r n u) (k : IsFirst p r n v) : u = v := by
  rcases h with ⟨i, hi, hp, hb, rfl⟩ | ⟨hn, rfl⟩
  · rcases k with ⟨j, hj, kp, kb, rfl⟩ | ⟨kn, rfl⟩
    · rcases Nat.lt_trichotomy i j with c | c | c
      · rw [kb i c] at hp; cases hp
      · rw [c]
      · rw [hb j c] at kp; cases kp
    · rw [kn i hi] at hp; cases hp
  · rcases k with ⟨j, hj, kp, kb, rfl⟩ | ⟨kn, rfl⟩
    · rw [hn j hj] at kp; cases kp
    · rfl
/-- A cell has a call. -/
def hitB (E : Nat → Nat → Int) (x y z : Int) (i : Nat) : Bool := inB x (E i 0) (E i 1) && inB y (E i 2) (E i 3) && inB z (E i 4) (E i 5)
set_option maxHeartbeats 1000000 in
set_option maxRecDepth 100000 in
theorem findS_some (bb off len cap : Nat) (E : Nat → Nat → Int) (x y z : Int) (w : World) (hlt : bb < w.heap.size) (hc : ∀ i, i < len → ∀ j, j < 7 → w.cell? ⟨bb, off + i * 7 + j, none⟩ = some (.int .i64 (E i j))) (hl : len ≤ 1048576) :
    Calls Try.prog 33 #[.slice (some ⟨bb, off, none⟩) len cap, .agg #[.int .i64 x, .int .i64 y, .int .i64 z]] w fun e w' => ∃ v, e = .returned (.int .i64 v) ∧ IsFirst (hitB E x y z) (fun i => E i 6) len v ∧ Below w.heap.size w w' := by
  have HC := hid_in hc
  clear hc
  go_enter Try.func33, Try.ntmps33
  go_wp2_with fail
  have z0 := below_box w (Obj.cells #[.int .i64 x, .int .i64 y, .int .i64 z] 44)
  have HZ := hid_in z0
  have hW0 : (w.alloc (Obj.cells #[.int .i64 x, .int .i64 y, .int .i64 z] 44)).heap.size = w.heap.size + 1 := by simp
  have c0 : (w.alloc (Obj.cells #[.int .i64 x, .int .i64 y, .int .i64 z] 44)).cell? ⟨w.heap.size, 0, none⟩ = some (.int .i64 x) := by go_simp
  have c1 : (w.alloc (Obj.cells #[.int .i64 x, .int .i64 y, .int .i64 z] 44)).cell? ⟨w.heap.size, 1, none⟩ = some (.int .i64 y) := by go_simp
  have c2 : (w.alloc (Obj.cells #[.int .i64 x, .int .i64 y, .int .i64 z] 44)).cell? ⟨w.heap.size, 2, none⟩ = some (.int .i64 z) := by go_simp
  clear z0
  generalize w.alloc (Obj.cells #[.int .i64 x, .int .i64 y, .int .i64 z] 44) = W at *
  have C0 := hid_in c0; have C1 := hid_in c1; have C2 := hid_in c2; have HS := hid_in hW0
  clear c0 c1 c2 hW0
  go_loopw [5] (fun v wr => ∃ k : Nat, k ≤ len ∧ v = .int .i64 (k : Int) ∧ Hid (Below W.heap.size W wr ∧ ∀ i, i < k → hitB E x y z i = false)) (fun v _ => len - (intOf v).toNat)
  case atStart => exact ⟨0, Nat.zero_le _, rfl, by show _ ∧ _; exact ⟨Below.refl _ _, fun i hi => by omega⟩⟩
  case round =>
    obtain ⟨k, hk, rfl, HW⟩ := hrel
    have hW := HS.out
    have hm : bb < W.heap.size := by omega
    by_cases hlt' : k < len
    · have hd : (k : Int) < (len : Int) := by omega
      have hg := fun j hj => ((bcell HW.out.1).1 bb (off + k * 7 + j) hm).trans (((bcell HZ.out).1 bb _ hlt).trans (HC.out k hlt' j hj))
      have g0 : wr.cell? ⟨bb, off + k * 7, none⟩ = _ := hg 0 (by omega)
      have g1 := hg 1 (by omega); have g2 := hg 2 (by omega); have g3 := hg 3 (by omega); have g4 := hg 4 (by omega); have g5 := hg 5 (by omega); have g6 := hg 6 (by omega)
      have q0 := ((bcell HW.out.1).1 w.heap.size 0 (by omega)).trans C0.out
      have q1 := ((bcell HW.out.1).1 w.heap.size 1 (by omega)).trans C1.out
      have q2 := ((bcell HW.out.1).1 w.heap.size 2 (by omega)).trans C2.out
      have hm1 : bb < wr.heap.size := Nat.lt_of_lt_of_le hm HW.out.1.size
      have hm2 : w.heap.size < wr.heap.size := by have := HW.out.1.size; omega
      clear hg hW
      obtain ⟨v, hv⟩ : ∃ v, hitB E x y z k = v := ⟨_, rfl⟩
      have V := hid_in hv
      clear hv
      cases v
      · go_wp2_with fail
        refine wp_region_lat (Below.refl _ _) (by kernel_rfl) (by kernel_rfl) ?_
        intro hne hcl
        repeat (go_big_quiet_step (first | (go_at_call 70; exact lat_of (l5Has_any _ _ _ _ _ _ _ _ _ _ _ _ V.out))))
        refine wpQuiet_nil ?_
        intro w1 hb1
        obtain ⟨hc1, hf1⟩ := bcell hb1
        clear hne hcl
        go_wp2_with fail
        refine ⟨⟨k + 1, by omega, by simp, ?_⟩, by simp [intOf]; omega⟩
        show _ ∧ _
        refine ⟨below_later HW.out.1 hb1, fun i hi => ?_⟩
        by_cases hik : i < k
        · exact HW.out.2 i hik
        · rw [show i = k by omega]; exact V.out
      · go_wp2_with fail
        refine wp_region_lat (Below.refl _ _) (by kernel_rfl) (by kernel_rfl) ?_
        intro hne hcl
        repeat (go_big_quiet_step (first | (go_at_call 70; exact lat_of (l5Has_any _ _ _ _ _ _ _ _ _ _ _ _ V.out))))
        refine wpQuiet_nil ?_
        intro w1 hb1
        obtain ⟨hc1, hf1⟩ := bcell hb1
        clear hne hcl
        go_wp2_with fail
        go_ret
        exact ⟨_, rfl, .inl ⟨k, hlt', V.out, HW.out.2, rfl⟩, below_later HZ.out (below_later HW.out.1 hb1)⟩
    · have hd : decide ((k : Int) < (len : Int)) = false := by simp; omega
      have e : k = len := by omega
      have HE := hid_in e
      clear e
      go_wp2_with fail
      go_ret
      exact ⟨_, rfl, .inr ⟨fun i hi => HW.out.2 i (by rw [HE.out]; exact hi), rfl⟩, below_later HZ.out HW.out.1⟩
set_option maxHeartbeats 1000000 in
set_option maxRecDepth 100000 in
theorem findI_some (bb off len cap : Nat) (E : Nat → Nat → Int) (x y z : Int) (w : World) (hlt : bb < w.heap.size) (hc : ∀ i, i < len → ∀ j, j < 7 → w.cell? ⟨bb, off + i * 7 + j, none⟩ = some (.int .i64 (E i j))) (hl : len ≤ 1048576) :
    Calls Try.prog 26 #[.slice (some ⟨bb, off, none⟩) len cap, .agg #[.int .i64 x, .int .i64 y, .int .i64 z]] w fun e w' => ∃ v, e = .returned (.int .i64 v) ∧ IsFirst (hitB E x y z) (fun i => E i 6) len v ∧ Below w.heap.size w w' := by
  have HC := hid_in hc
  clear hc
  go_enter Try.func26, Try.ntmps26
  go_wp2_with fail
  have z0 := below_box w (Obj.cells #[.int .i64 x, .int .i64 y, .int .i64 z] 44)
  have HZ := hid_in z0
  have hW0 : (w.alloc (Obj.cells #[.int .i64 x, .int .i64 y, .int .i64 z] 44)).heap.size = w.heap.size + 1 := by simp
  have c0 : (w.alloc (Obj.cells #[.int .i64 x, .int .i64 y, .int .i64 z] 44)).cell? ⟨w.heap.size, 0, none⟩ = some (.int .i64 x) := by go_simp
  have c1 : (w.alloc (Obj.cells #[.int .i64 x, .int .i64 y, .int .i64 z] 44)).cell? ⟨w.heap.size, 1, none⟩ = some (.int .i64 y) := by go_simp
  have c2 : (w.alloc (Obj.cells #[.int .i64 x, .int .i64 y, .int .i64 z] 44)).cell? ⟨w.heap.size, 2, none⟩ = some (.int .i64 z) := by go_simp
  clear z0
  generalize w.alloc (Obj.cells #[.int .i64 x, .int .i64 y, .int .i64 z] 44) = W at *
  have C0 := hid_in c0; have C1 := hid_in c1; have C2 := hid_in c2; have HS := hid_in hW0
  clear c0 c1 c2 hW0
  go_loopw [9] (fun v wr => ∃ k : Nat, k ≤ len ∧ v = .int .i64 (k : Int) ∧ Hid (Below W.heap.size W wr ∧ ∀ i, i < k → hitB E x y z i = false)) (fun v _ => len - (intOf v).toNat)
  case atStart => exact ⟨0, Nat.zero_le _, rfl, by show _ ∧ _; exact ⟨Below.refl _ _, fun i hi => by omega⟩⟩
  case round =>
    obtain ⟨k, hk, rfl, HW⟩ := hrel
    have hW := HS.out
    have hm : bb < W.heap.size := by omega
    by_cases hlt' : k < len
    · have hd : (k : Int) < (len : Int) := by omega
      have hg := fun j hj => ((bcell HW.out.1).1 bb (off + k * 7 + j) hm).trans (((bcell HZ.out).1 bb _ hlt).trans (HC.out k hlt' j hj))
      have g0 : wr.cell? ⟨bb, off + k * 7, none⟩ = _ := hg 0 (by omega)
      have g1 := hg 1 (by omega); have g2 := hg 2 (by omega); have g3 := hg 3 (by omega); have g4 := hg 4 (by omega); have g5 := hg 5 (by omega); have g6 := hg 6 (by omega)
      have q0 := ((bcell HW.out.1).1 w.heap.size 0 (by omega)).trans C0.out
      have q1 := ((bcell HW.out.1).1 w.heap.size 1 (by omega)).trans C1.out
      have q2 := ((bcell HW.out.1).1 w.heap.size 2 (by omega)).trans C2.out
      have hm1 : bb < wr.heap.size := Nat.lt_of_lt_of_le hm HW.out.1.size
      have hm2 : w.heap.size < wr.heap.size := by have := HW.out.1.size; omega
      clear hg hW
      obtain ⟨v, hv⟩ : ∃ v, hitB E x y z k = v := ⟨_, rfl⟩
      have V := hid_in hv
      clear hv
      cases v
      · go_wp2_with fail
        refine wp_region_lat (Below.refl _ _) (by kernel_rfl) (by kernel_rfl) ?_
        intro hne hcl
        repeat (go_big_quiet_step (first | (go_at_call 61; exact lat_of (cellRoom_any _ _ _ _ _ _ _ _)) | (go_at_call 64; exact lat_of (roomHas_any _ _ _ _ _ _ _ _ _ _ _ V.out))))
        refine wpQuiet_nil ?_
        intro w1 hb1
        obtain ⟨hc1, hf1⟩ := bcell hb1
        clear hne hcl
        go_wp2_with fail
        refine ⟨⟨k + 1, by omega, by simp, ?_⟩, by simp [intOf]; omega⟩
        show _ ∧ _
        refine ⟨below_later HW.out.1 (below_under hb1), fun i hi => ?_⟩
        by_cases hik : i < k
        · exact HW.out.2 i hik
        · rw [show i = k by omega]; exact V.out
      · go_wp2_with fail
        refine wp_region_lat (Below.refl _ _) (by kernel_rfl) (by kernel_rfl) ?_
        intro hne hcl
        repeat (go_big_quiet_step (first | (go_at_call 61; exact lat_of (cellRoom_any _ _ _ _ _ _ _ _)) | (go_at_call 64; exact lat_of (roomHas_any _ _ _ _ _ _ _ _ _ _ _ V.out))))
        refine wpQuiet_nil ?_
        intro w1 hb1
        obtain ⟨hc1, hf1⟩ := bcell hb1
        clear hne hcl
        go_wp2_with fail
        go_ret
        exact ⟨_, rfl, .inl ⟨k, hlt', V.out, HW.out.2, rfl⟩, below_later HZ.out (below_later HW.out.1 (below_under hb1))⟩
    · have hd : decide ((k : Int) < (len : Int)) = false := by simp; omega
      have e : k = len := by omega
      have HE := hid_in e
      clear e
      go_wp2_with fail
      go_ret
      exact ⟨_, rfl, .inr ⟨fun i hi => HW.out.2 i (by rw [HE.out]; exact hi), rfl⟩, below_later HZ.out HW.out.1⟩
set_option maxHeartbeats 1000000 in
set_option maxRecDepth 100000 in
theorem findS_any (a : Option Addr) (len cap : Nat) (E : Nat → Nat → Int) (x y z : Int) (w : World) (hT : Tab w a len 7 E) (hl : len ≤ 1048576) :
    Calls Try.prog 33 #[.slice a len cap, vCall x y z] w fun e w' => ∃ v, e = .returned (.int .i64 v) ∧ IsFirst (hitB E x y z) (fun i => E i 6) len v ∧ Below w.heap.size w w' := by
  unfold vCall
  rcases hT with rfl | ⟨bb, off, rfl, h1, k1⟩
  · go_enter Try.func33, Try.ntmps33
    go_wp2_with fail
    refine wp_loop_rounds 1 ?_
    rw [rounds_succ]
    go_wp2_with fail
    go_ret
    exact ⟨_, rfl, .inr ⟨fun i hi => by omega, rfl⟩, below_box _ _⟩
  · exact findS_some bb off len cap E x y z w h1 k1 hl
set_option maxHeartbeats 1000000 in
set_option maxRecDepth 100000 in
theorem findI_any (a : Option Addr) (len cap : Nat) (E : Nat → Nat → Int) (x y z : Int) (w : World) (hT : Tab w a len 7 E) (hl : len ≤ 1048576) :
    Calls Try.prog 26 #[.slice a len cap, vCall x y z] w fun e w' => ∃ v, e = .returned (.int .i64 v) ∧ IsFirst (hitB E x y z) (fun i => E i 6) len v ∧ Below w.heap.size w w' := by
  unfold vCall
  rcases hT with rfl | ⟨bb, off, rfl, h1, k1⟩
  · go_enter Try.func26, Try.ntmps26
    go_wp2_with fail
    refine wp_loop_rounds 1 ?_
    rw [rounds_succ]
    go_wp2_with fail
    go_ret
    exact ⟨_, rfl, .inr ⟨fun i hi => by omega, rfl⟩, below_box _ _⟩
  · exact findI_some bb off len cap E x y z w h1 k1 hl
set_option maxHeartbeats 1000000 in
set_option maxRecDepth 100000 in
theorem walk_FnExactCellsFind (a0 : Option Addr) (len0 cap0 : Nat) (E0 : Nat → Nat → Int) (x y z : Int) (w : World) (hT : Tab w a0 len0 7 E0) (_ : ∀ i j, (Lit.int .i64 (E0 i j)).wf = true) (h1 : len0 ≤ cap0) (h2 : cap0 ≤ maxLen) :
    Calls Try.prog 7 #[.slice a0 len0 cap0, .agg #[.int .i64 x, .int .i64 y, .int .i64 z]] w fun e w' => e = .returned (.bool true) ∧ Below w.heap.size w w' := by
  have HT := hid_in hT
  clear hT
  obtain ⟨n, hn⟩ : ∃ n, (if (1048576 : Int) - len0 < 0 then -1 else (1048576 : Int) - len0) = n := ⟨_, rfl⟩
  have HN := hid_in hn
  by_cases hlen : len0 ≤ 1048576
  · have hn2 : 0 ≤ n := by rw [← hn, if_neg (by omega)]; omega
    clear hn
    go_enter Try.func7, Try.ntmps7
    go_wp2_with fail
    refine (szCellS_any a0 len0 cap0 _ 1048576 (by omega) (by omega) (by omega) n HN.out).mono ?_
    rintro e w' ⟨rfl, rfl⟩
    go_wp2_with fail
    have HT2 : Hid (∀ W, Below w.heap.size w W → Tab W a0 len0 7 E0) := by show ∀ W, _; exact fun W hW => HT.out.later hW
    clear HT
    go_region_held3 (fun w' => w'.cell? ⟨w.heap.size, 0, none⟩ = some (.int .i64 x) ∧ w'.cell? ⟨w.heap.size, 1, none⟩ = some (.int .i64 y) ∧ w'.cell? ⟨w.heap.size, 2, none⟩ = some (.int .i64 z)) (go_keep) (first | (go_at_call 34; refine (toCellS_any a0 len0 cap0 E0 _ (HT2.out _ (by go_grown)) hlen).mono ?_; rintro e w1 ⟨a1, rfl, T1, hb1⟩; obtain ⟨hc1, hf1⟩ := bcell hb1; have m1 : w.heap.size < w1.heap.size := (by have := hb1.size; simp at this; omega)) | (go_at_call 35; refine (toCall_any x y z _).mono ?_; rintro e w2 ⟨rfl, hb2⟩; obtain ⟨hc2, hf2⟩ := bcell hb2; have m2 : w.heap.size < w2.heap.size := (by have := hb2.size; omega)) | (go_at_call 33; refine (findS_any a1 len0 len0 E0 x y z _ (T1.later hb2) hlen).mono ?_; rintro e w3 ⟨v, rfl, F1, hb3⟩; obtain ⟨hc3, hf3⟩ := bcell hb3))
    have z3 : Below w.heap.size w w3 := below_later (below_later (below_later (below_box _ _).drew hb1) hb2) hb3
    rename_i hS
    obtain ⟨c0, c1, c2⟩ := hS
    have m3 : w.heap.size < w3.heap.size := by have := hb3.size; omega
    have Z3 := hid_in z3; have F1' := hid_in F1
    clear hb1 hb2 hb3 hc1 hc2 hc3 hf1 hf2 hf3 m1 m2 T1 z3 F1
    go_wp2_with fail
    refine (toCellS_any a0 len0 cap0 E0 _ (HT2.out _ Z3.out) hlen).mono ?_
    rintro e w4 ⟨a4, rfl, T4, hb4⟩
    obtain ⟨hc4, hf4⟩ := bcell hb4
    have m4 : w.heap.size < w4.heap.size := by have := hb4.size; omega
    have T4' := hid_in T4
    clear T4
    go_wp2_with fail
    refine (toCall_any x y z _).mono ?_
    rintro e w5 ⟨rfl, hb5⟩
    obtain ⟨hc5, hf5⟩ := bcell hb5
    go_wp2_with fail
    refine (findI_any a4 len0 len0 E0 x y z _ (T4'.out.later hb5) hlen).mono ?_
    rintro e w6 ⟨v6, rfl, F6, hb6⟩
    obtain rfl : v6 = v := F6.one F1'.out
    have T6 := hid_in ((T4'.out.later hb5).later hb6)
    have Z6 := hid_in (below_later (below_later (below_later Z3.out hb4) hb5) hb6)
    clear F6 F1' T4' Z3 hb4 hb5 hb6 hc4 hc5 hf4 hf5 c0 c1 c2 m3 m4
    go_wp2_with fail
    refine (toCellS_any a0 len0 cap0 E0 _ (HT2.out _ Z6.out) hlen).mono ?_
    rintro e w7 ⟨a7, rfl, T7, hb7⟩
    have T7' := hid_in T7
    clear T7
    go_wp2_with fail
    refine (eqCellS_any a4 a7 len0 len0 len0 E0 _ (T6.out.later hb7) T7'.out hlen).mono ?_
    rintro e w8 ⟨rfl, hb8⟩
    go_wp2_with fail
    go_ret
    exact ⟨rfl, below_later (below_later Z6.out hb7) hb8⟩
  · have hn2 : n < 0 := by rw [← hn, if_pos (by omega)]; omega
    clear hn
    go_enter Try.func7, Try.ntmps7
    go_wp2_with fail
    refine (szCellS_any a0 len0 cap0 _ 1048576 (by omega) (by omega) (by omega) n HN.out).mono ?_
    rintro e w' ⟨rfl, rfl⟩
    go_wp2_with fail
    go_ret
    exact ⟨rfl, below_box _ _⟩
end Go.Proofs.Ytjiiodcikicpfaa
