/- Lists of cells: what copying one, holding two against each other, and looking for one answer. The conditions stand at each theorem. -/
import Derived.Test.YtdljoopioglkiaaCelA
import Derived.Test.YtdljoopioglkiaaOpn
import Derived.Test.YtdljoopioglkiaaFst
import Derived.Deep.OwnRows
import Derived.Deep.LoopGhost
import Derived.Deep.RegionHeld3
namespace Go.Proofs.Ytdljoopioglkiaa
open Go.RowKit Go.LatT Go.BlockM Go.OpnT
set_option linter.unusedVariables false
set_option linter.unusedSimpArgs false
def zCell (n : Nat) : Array Value := madeCells #[.int .i64 0, .int .i64 0, .int .i64 0, .int .i64 0, .int .i64 0, .int .i64 0, .int .i64 0] n
/-- A cell has a call. -/
def hitB (E : Nat → Nat → Int) (x y z : Int) (i : Nat) : Bool := inB x (E i 0) (E i 1) && inB y (E i 2) (E i 3) && inB z (E i 4) (E i 5)
set_option maxHeartbeats 1000000 in
set_option maxRecDepth 100000 in
theorem findS_some (bb off len cap : Nat) (E : Nat → Nat → Int) (x y z : Int) (w : World) (hlt : bb < w.heap.size) (hc : ∀ i, i < len → ∀ j, j < 7 → w.cell? ⟨bb, off + i * 7 + j, none⟩ = some (.int .i64 (E i j))) (hl : len ≤ 1048576) :
    Calls Try.prog 7 #[.slice (some ⟨bb, off, none⟩) len cap, .agg #[.int .i64 x, .int .i64 y, .int .i64 z]] w fun e w' => ∃ v, e = .returned (.int .i64 v) ∧ IsFirst (hitB E x y z) (fun i => E i 6) len v ∧ Below w.heap.size w w' := by
  have HC := hid_in hc
  clear hc
  go_enter Try.func7, Try.ntmps7
  go_wp2_with fail
  have z0 := below_box w (Obj.cells #[.int .i64 x, .int .i64 y, .int .i64 z] 25)
  have HZ := hid_in z0
  have hW0 : (w.alloc (Obj.cells #[.int .i64 x, .int .i64 y, .int .i64 z] 25)).heap.size = w.heap.size + 1 := by simp
  have c0 : (w.alloc (Obj.cells #[.int .i64 x, .int .i64 y, .int .i64 z] 25)).cell? ⟨w.heap.size, 0, none⟩ = some (.int .i64 x) := by go_simp
  have c1 : (w.alloc (Obj.cells #[.int .i64 x, .int .i64 y, .int .i64 z] 25)).cell? ⟨w.heap.size, 1, none⟩ = some (.int .i64 y) := by go_simp
  have c2 : (w.alloc (Obj.cells #[.int .i64 x, .int .i64 y, .int .i64 z] 25)).cell? ⟨w.heap.size, 2, none⟩ = some (.int .i64 z) := by go_simp
  clear z0
  generalize w.alloc (Obj.cells #[.int .i64 x, .int .i64 y, .int .i64 z] 25) = W at *
  have C0 := hid_in c0; have C1 := hid_in c1; have C2 := hid_in c2; have HS := hid_in hW0
  clear c0 c1 c2 hW0
  go_loopw [5] (fun v wr => ∃ k : Nat, k ≤ len ∧ v = .int .i64 (k : Int) ∧ Hid (Below W.heap.size W wr ∧ ∀ i, i < k → hitB E x y z i = false)) (fun v _ => len - (intOf v).toNat)
  case atStart => exact ⟨0, Nat.zero_le _, rfl, by show _ ∧ _; exact ⟨Below.refl _ _, fun i hi => by omega⟩⟩
  case round =>
    obtain ⟨k, hk, rfl, HW⟩ := hrel
    have hW := HS.out
    have hm : bb < W.heap.size := by omega
    by_cases hlt' : k < len
    · have hd : (k : Int) < (len : Int) := by omega
      have hg := fun j hj => ((bcell HW.out.1).1 bb (off + k * 7 + j) hm).trans (((bcell HZ.out).1 bb _ hlt).trans (HC.out k hlt' j hj))
      have g0 : wr.cell? ⟨bb, off + k * 7, none⟩ = _ := hg 0 (by omega)
      have g1 := hg 1 (by omega); have g2 := hg 2 (by omega); have g3 := hg 3 (by omega); have g4 := hg 4 (by omega); have g5 := hg 5 (by omega); have g6 := hg 6 (by omega)
      have q0 := ((bcell HW.out.1).1 w.heap.size 0 (by omega)).trans C0.out
      have q1 := ((bcell HW.out.1).1 w.heap.size 1 (by omega)).trans C1.out
      have q2 := ((bcell HW.out.1).1 w.heap.size 2 (by omega)).trans C2.out
      have hm1 : bb < wr.heap.size := Nat.lt_of_lt_of_le hm HW.out.1.size
      have hm2 : w.heap.size < wr.heap.size := by have := HW.out.1.size; omega
      clear hg hW
      obtain ⟨v, hv⟩ : ∃ v, hitB E x y z k = v := ⟨_, rfl⟩
      have V := hid_in hv
      clear hv
      cases v
      · go_wp2_with fail
        refine wp_region_lat (Below.refl _ _) (by kernel_rfl) (by kernel_rfl) ?_
        intro hne hcl
        repeat (go_big_quiet_step (first | (go_at_call 18; exact lat_of (l5Has_any _ _ _ _ _ _ _ _ _ _ _ _ V.out))))
        refine wpQuiet_nil ?_
        intro w1 hb1
        obtain ⟨hc1, hf1⟩ := bcell hb1
        clear hne hcl
        go_wp2_with fail
        refine ⟨⟨k + 1, by omega, by simp, ?_⟩, by simp [intOf]; omega⟩
        show _ ∧ _
        refine ⟨below_later HW.out.1 hb1, fun i hi => ?_⟩
        by_cases hik : i < k
        · exact HW.out.2 i hik
        · rw [show i = k by omega]; exact V.out
      · go_wp2_with fail
        refine wp_region_lat (Below.refl _ _) (by kernel_rfl) (by kernel_rfl) ?_
        intro hne hcl
        repeat (go_big_quiet_step (first | (go_at_call 18; exact lat_of (l5Has_any _ _ _ _ _ _ _ _ _ _ _ _ V.out))))
        refine wpQuiet_nil ?_
        intro w1 hb1
        obtain ⟨hc1, hf1⟩ := bcell hb1
        clear hne hcl
        go_wp2_with fail
        go_ret
        exact ⟨_, rfl, .inl ⟨k, hlt', V.out, HW.out.2, rfl⟩, below_later HZ.out (below_later HW.out.1 hb1)⟩
    · have hd : decide ((k : Int) < (len : Int)) = false := by simp; omega
      have e : k = len := by omega
      have HE := hid_in e
      clear e
      go_wp2_with fail
      go_ret
      exact ⟨_, rfl, .inr ⟨fun i hi => HW.out.2 i (by rw [HE.out]; exact hi), rfl⟩, below_later HZ.out HW.out.1⟩
set_option maxHeartbeats 1000000 in
set_option maxRecDepth 100000 in
theorem findI_some (bb off len cap : Nat) (E : Nat → Nat → Int) (x y z : Int) (w : World) (hlt : bb < w.heap.size) (hc : ∀ i, i < len → ∀ j, j < 7 → w.cell? ⟨bb, off + i * 7 + j, none⟩ = some (.int .i64 (E i j))) (hl : len ≤ 1048576) :
    Calls Try.prog 6 #[.slice (some ⟨bb, off, none⟩) len cap, .agg #[.int .i64 x, .int .i64 y, .int .i64 z]] w fun e w' => ∃ v, e = .returned (.int .i64 v) ∧ IsFirst (hitB E x y z) (fun i => E i 6) len v ∧ Below w.heap.size w w' := by
  have HC := hid_in hc
  clear hc
  go_enter Try.func6, Try.ntmps6
  go_wp2_with fail
  have z0 := below_box w (Obj.cells #[.int .i64 x, .int .i64 y, .int .i64 z] 25)
  have HZ := hid_in z0
  have hW0 : (w.alloc (Obj.cells #[.int .i64 x, .int .i64 y, .int .i64 z] 25)).heap.size = w.heap.size + 1 := by simp
  have c0 : (w.alloc (Obj.cells #[.int .i64 x, .int .i64 y, .int .i64 z] 25)).cell? ⟨w.heap.size, 0, none⟩ = some (.int .i64 x) := by go_simp
  have c1 : (w.alloc (Obj.cells #[.int .i64 x, .int .i64 y, .int .i64 z] 25)).cell? ⟨w.heap.size, 1, none⟩ = some (.int .i64 y) := by go_simp
  have c2 : (w.alloc (Obj.cells #[.int .i64 x, .int .i64 y, .int .i64 z] 25)).cell? ⟨w.heap.size, 2, none⟩ = some (.int .i64 z) := by go_simp
  clear z0
  generalize w.alloc (Obj.cells #[.int .i64 x, .int .i64 y, .int .i64 z] 25) = W at *
  have C0 := hid_in c0; have C1 := hid_in c1; have C2 := hid_in c2; have HS := hid_in hW0
  clear c0 c1 c2 hW0
  go_loopw [9] (fun v wr => ∃ k : Nat, k ≤ len ∧ v = .int .i64 (k : Int) ∧ Hid (Below W.heap.size W wr ∧ ∀ i, i < k → hitB E x y z i = false)) (fun v _ => len - (intOf v).toNat)
  case atStart => exact ⟨0, Nat.zero_le _, rfl, by show _ ∧ _; exact ⟨Below.refl _ _, fun i hi => by omega⟩⟩
  case round =>
    obtain ⟨k, hk, rfl, HW⟩ := hrel
    have hW := HS.out
    have hm : bb < W.heap.size := by omega
    by_cases hlt' : k < len
    · have hd : (k : Int) < (len : Int) := by omega
      have hg := fun j hj => ((bcell HW.out.1).1 bb (off + k * 7 + j) hm).trans (((bcell HZ.out).1 bb _ hlt).trans (HC.out k hlt' j hj))
      have g0 : wr.cell? ⟨bb, off + k * 7, none⟩ = _ := hg 0 (by omega)
      have g1 := hg 1 (by omega); have g2 := hg 2 (by omega); have g3 := hg 3 (by omega); have g4 := hg 4 (by omega); have g5 := hg 5 (by omega); have g6 := hg 6 (by omega)
      have q0 := ((bcell HW.out.1).1 w.heap.size 0 (by omega)).trans C0.out
      have q1 := ((bcell HW.out.1).1 w.heap.size 1 (by omega)).trans C1.out
      have q2 := ((bcell HW.out.1).1 w.heap.size 2 (by omega)).trans C2.out
      have hm1 : bb < wr.heap.size := Nat.lt_of_lt_of_le hm HW.out.1.size
      have hm2 : w.heap.size < wr.heap.size := by have := HW.out.1.size; omega
      clear hg hW
      obtain ⟨v, hv⟩ : ∃ v, hitB E x y z k = v := ⟨_, rfl⟩
      have V := hid_in hv
      clear hv
      cases v
      · go_wp2_with fail
        refine wp_region_lat (Below.refl _ _) (by kernel_rfl) (by kernel_rfl) ?_
        intro hne hcl
        repeat (go_big_quiet_step (first | (go_at_call 16; exact lat_of (cellRoom_any _ _ _ _ _ _ _ _)) | (go_at_call 17; exact lat_of (roomHas_any _ _ _ _ _ _ _ _ _ _ _ V.out))))
        refine wpQuiet_nil ?_
        intro w1 hb1
        obtain ⟨hc1, hf1⟩ := bcell hb1
        clear hne hcl
        go_wp2_with fail
        refine ⟨⟨k + 1, by omega, by simp, ?_⟩, by simp [intOf]; omega⟩
        show _ ∧ _
        refine ⟨below_later HW.out.1 (below_under hb1), fun i hi => ?_⟩
        by_cases hik : i < k
        · exact HW.out.2 i hik
        · rw [show i = k by omega]; exact V.out
      · go_wp2_with fail
        refine wp_region_lat (Below.refl _ _) (by kernel_rfl) (by kernel_rfl) ?_
        intro hne hcl
        repeat (go_big_quiet_step (first | (go_at_call 16; exact lat_of (cellRoom_any _ _ _ _ _ _ _ _)) | (go_at_call 17; exact lat_of (roomHas_any _ _ _ _ _ _ _ _ _ _ _ V.out))))
        refine wpQuiet_nil ?_
        intro w1 hb1
        obtain ⟨hc1, hf1⟩ := bcell hb1
        clear hne hcl
        go_wp2_with fail
        go_ret
        exact ⟨_, rfl, .inl ⟨k, hlt', V.out, HW.out.2, rfl⟩, below_later HZ.out (below_later HW.out.1 (below_under hb1))⟩
    · have hd : decide ((k : Int) < (len : Int)) = false := by simp; omega
      have e : k = len := by omega
      have HE := hid_in e
      clear e
      go_wp2_with fail
      go_ret
      exact ⟨_, rfl, .inr ⟨fun i hi => HW.out.2 i (by rw [HE.out]; exact hi), rfl⟩, below_later HZ.out HW.out.1⟩
set_option maxHeartbeats 1000000 in
set_option maxRecDepth 100000 in
theorem findS_any (a : Option Addr) (len cap : Nat) (E : Nat → Nat → Int) (x y z : Int) (w : World) (hT : Tab w a len 7 E) (hl : len ≤ 1048576) :
    Calls Try.prog 7 #[.slice a len cap, vCall x y z] w fun e w' => ∃ v, e = .returned (.int .i64 v) ∧ IsFirst (hitB E x y z) (fun i => E i 6) len v ∧ Below w.heap.size w w' := by
  unfold vCall
  rcases hT with rfl | ⟨bb, off, rfl, h1, k1⟩
  · go_enter Try.func7, Try.ntmps7
    go_wp2_with fail
    refine wp_loop_rounds 1 ?_
    rw [rounds_succ]
    go_wp2_with fail
    go_ret
    exact ⟨_, rfl, .inr ⟨fun i hi => by omega, rfl⟩, below_box _ _⟩
  · exact findS_some bb off len cap E x y z w h1 k1 hl
set_option maxHeartbeats 1000000 in
set_option maxRecDepth 100000 in
theorem findI_any (a : Option Addr) (len cap : Nat) (E : Nat → Nat → Int) (x y z : Int) (w : World) (hT : Tab w a len 7 E) (hl : len ≤ 1048576) :
    Calls Try.prog 6 #[.slice a len cap, vCall x y z] w fun e w' => ∃ v, e = .returned (.int .i64 v) ∧ IsFirst (hitB E x y z) (fun i => E i 6) len v ∧ Below w.heap.size w w' := by
  unfold vCall
  rcases hT with rfl | ⟨bb, off, rfl, h1, k1⟩
  · go_enter Try.func6, Try.ntmps6
    go_wp2_with fail
    refine wp_loop_rounds 1 ?_
    rw [rounds_succ]
    go_wp2_with fail
    go_ret
    exact ⟨_, rfl, .inr ⟨fun i hi => by omega, rfl⟩, below_box _ _⟩
  · exact findI_some bb off len cap E x y z w h1 k1 hl
end Go.Proofs.Ytdljoopioglkiaa
