/- Which rule is the first about a call, in the program and in the specification; and the exact law. The conditions stand at each theorem. -/
import Derived.Test.YtdljoopioglkiaaRulE
namespace Go.Proofs.Ytdljoopioglkiaa
open Go.RowKit Go.LatT Go.BlockM Go.OpnT
set_option linter.unusedVariables false
set_option linter.unusedSimpArgs false
/-- The rule at a place is about a call. -/
def rabout (E : Nat → Nat → Int) (x y z : Int) (i : Nat) : Bool := aboutB (E i 2) (E i 3) (E i 4) (E i 5) (E i 6) (E i 7) x y z
set_option maxHeartbeats 1000000 in
set_option maxRecDepth 100000 in
theorem l4First_some (bb off len cap : Nat) (E : Nat → Nat → Int) (x y z : Int) (w : World) (hlt : bb < w.heap.size) (hc : ∀ i, i < len → ∀ j, j < 8 → w.cell? ⟨bb, off + i * 8 + j, none⟩ = some (.int .i64 (E i j))) (hl : len ≤ 1048576) (hok : ∀ i, i < len → rbad E i = false) :
    Calls Try.prog 34 #[.slice (some ⟨bb, off, none⟩) len cap, .agg #[.int .i64 x, .int .i64 y, .int .i64 z]] w fun e w' => ∃ v, e = .returned (.int .i64 v) ∧ IsFirst (rabout E x y z) (fun i => (i : Int)) len v ∧ Below w.heap.size w w' := by
  have HC := hid_in hc; have HO := hid_in hok
  clear hc hok
  go_enter Try.func34, Try.ntmps34
  go_wp2_with fail
  have z0 := below_box w (Obj.cells #[.int .i64 x, .int .i64 y, .int .i64 z] 25)
  have HZ := hid_in z0
  have hW0 : (w.alloc (Obj.cells #[.int .i64 x, .int .i64 y, .int .i64 z] 25)).heap.size = w.heap.size + 1 := by simp
  have c0 : (w.alloc (Obj.cells #[.int .i64 x, .int .i64 y, .int .i64 z] 25)).cell? ⟨w.heap.size, 0, none⟩ = some (.int .i64 x) := by go_simp
  have c1 : (w.alloc (Obj.cells #[.int .i64 x, .int .i64 y, .int .i64 z] 25)).cell? ⟨w.heap.size, 1, none⟩ = some (.int .i64 y) := by go_simp
  have c2 : (w.alloc (Obj.cells #[.int .i64 x, .int .i64 y, .int .i64 z] 25)).cell? ⟨w.heap.size, 2, none⟩ = some (.int .i64 z) := by go_simp
  clear z0
  generalize w.alloc (Obj.cells #[.int .i64 x, .int .i64 y, .int .i64 z] 25) = W at *
  have C0 := hid_in c0; have C1 := hid_in c1; have C2 := hid_in c2; have HS := hid_in hW0
  clear c0 c1 c2 hW0
  go_loopw [5] (fun v wr => ∃ k : Nat, k ≤ len ∧ v = .int .i64 (k : Int) ∧ Hid (Below W.heap.size W wr ∧ ∀ i, i < k → rabout E x y z i = false)) (fun v _ => len - (intOf v).toNat)
  case atStart => exact ⟨0, Nat.zero_le _, rfl, by show _ ∧ _; exact ⟨Below.refl _ _, fun i hi => by omega⟩⟩
  case round =>
    obtain ⟨k, hk, rfl, HW⟩ := hrel
    have hW := HS.out
    have hm : bb < W.heap.size := by omega
    by_cases hlt' : k < len
    · have hd : (k : Int) < (len : Int) := by omega
      have hg := fun j hj => ((bcell HW.out.1).1 bb (off + k * 8 + j) hm).trans (((bcell HZ.out).1 bb _ hlt).trans (HC.out k hlt' j hj))
      have g0 : wr.cell? ⟨bb, off + k * 8, none⟩ = _ := hg 0 (by omega)
      have g1 := hg 1 (by omega); have g2 := hg 2 (by omega); have g3 := hg 3 (by omega); have g4 := hg 4 (by omega); have g5 := hg 5 (by omega); have g6 := hg 6 (by omega); have g7 := hg 7 (by omega)
      have q0 := ((bcell HW.out.1).1 w.heap.size 0 (by omega)).trans C0.out
      have q1 := ((bcell HW.out.1).1 w.heap.size 1 (by omega)).trans C1.out
      have q2 := ((bcell HW.out.1).1 w.heap.size 2 (by omega)).trans C2.out
      have hm1 : bb < wr.heap.size := Nat.lt_of_lt_of_le hm HW.out.1.size
      have hm2 : w.heap.size < wr.heap.size := by have := HW.out.1.size; omega
      clear hg hW
      obtain ⟨B1, B2⟩ := rok_bounds (HO.out k hlt')
      have K1 := hid_in B1; have K2 := hid_in B2
      clear B1 B2
      obtain ⟨v, hv⟩ : ∃ v, rabout E x y z k = v := ⟨_, rfl⟩
      have V := hid_in hv
      clear hv
      cases v
      · go_wp2_with fail
        refine wp_region_lat (Below.refl _ _) (by kernel_rfl) (by kernel_rfl) ?_
        intro hne hcl
        repeat (go_big_quiet_step (first | (go_at_call 42; exact lat_of (l4About_any _ _ _ _ _ _ _ _ _ _ _ _ _ K1.out K2.out V.out))))
        refine wpQuiet_nil ?_
        intro w1 hb1
        obtain ⟨hc1, hf1⟩ := bcell hb1
        clear hne hcl
        go_wp2_with fail
        refine ⟨⟨k + 1, by omega, by simp, ?_⟩, by simp [intOf]; omega⟩
        show _ ∧ _
        refine ⟨below_later HW.out.1 hb1, fun i hi => ?_⟩
        by_cases hik : i < k
        · exact HW.out.2 i hik
        · rw [show i = k by omega]; exact V.out
      · go_wp2_with fail
        refine wp_region_lat (Below.refl _ _) (by kernel_rfl) (by kernel_rfl) ?_
        intro hne hcl
        repeat (go_big_quiet_step (first | (go_at_call 42; exact lat_of (l4About_any _ _ _ _ _ _ _ _ _ _ _ _ _ K1.out K2.out V.out))))
        refine wpQuiet_nil ?_
        intro w1 hb1
        obtain ⟨hc1, hf1⟩ := bcell hb1
        clear hne hcl
        go_wp2_with fail
        go_ret
        exact ⟨_, rfl, .inl ⟨k, hlt', V.out, HW.out.2, rfl⟩, below_later HZ.out (below_later HW.out.1 hb1)⟩
    · have hd : decide ((k : Int) < (len : Int)) = false := by simp; omega
      have e : k = len := by omega
      have HE := hid_in e
      clear e
      go_wp2_with fail
      go_ret
      exact ⟨_, rfl, .inr ⟨fun i hi => HW.out.2 i (by rw [HE.out]; exact hi), rfl⟩, below_later HZ.out HW.out.1⟩
set_option maxHeartbeats 1000000 in
set_option maxRecDepth 100000 in
theorem l4First_any (a : Option Addr) (len cap : Nat) (E : Nat → Nat → Int) (x y z : Int) (w : World) (hT : Tab w a len 8 E) (hl : len ≤ 1048576) (hok : ∀ i, i < len → rbad E i = false) :
    Calls Try.prog 34 #[.slice a len cap, .agg #[.int .i64 x, .int .i64 y, .int .i64 z]] w fun e w' => ∃ v, e = .returned (.int .i64 v) ∧ IsFirst (rabout E x y z) (fun i => (i : Int)) len v ∧ Below w.heap.size w w' := by
  rcases hT with rfl | ⟨bb, off, rfl, h1, k1⟩
  · clear hok
    go_enter Try.func34, Try.ntmps34
    go_wp2_with fail
    refine wp_loop_rounds 1 ?_
    rw [rounds_succ]
    go_wp2_with fail
    go_ret
    exact ⟨_, rfl, .inr ⟨fun i hi => by omega, rfl⟩, below_box _ _⟩
  · exact l4First_some bb off len cap E x y z w h1 k1 hl hok
/-- v is the place of the first rule about a call, of rules that are ok and a call that may go; else -1. -/
def RFirst (E : Nat → Nat → Int) (n : Nat) (x y z v : Int) : Prop := (((∀ i, i < n → rbad E i = false) ∧ n ≤ 8 ∧ callB x y z = true) → IsFirst (rabout E x y z) (fun i => (i : Int)) n v) ∧ (¬ ((∀ i, i < n → rbad E i = false) ∧ n ≤ 8 ∧ callB x y z = true) → v = -1)
theorem RFirst.one {E : Nat → Nat → Int} {n : Nat} {x y z u v : Int} (h : RFirst E n x y z u) (k : RFirst E n x y z v) : u = v := by
  by_cases c : (∀ i, i < n → rbad E i = false) ∧ n ≤ 8 ∧ callB x y z = true
  · exact (h.1 c).one (k.1 c)
  · rw [h.2 c, k.2 c]
end Go.Proofs.Ytdljoopioglkiaa
