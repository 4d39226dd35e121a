/- Which rule is the first about a call, in the program and in the specification; and the exact law. The conditions stand at each theorem. -/
import Derived.Test.YtdljoopioglkiaaDoorRulE
namespace Go.Proofs.YtdljoopioglkiaaDoor
open Go.RowKit Go.LatT Go.BlockM Go.OpnT
set_option linter.unusedVariables false
set_option linter.unusedSimpArgs false
/-- The rule at a place is about a call. -/
def rabout (E : Nat → Nat → Int) (x y z : Int) (i : Nat) : Bool := aboutB (E i 2) (E i 3) (E i 4) (E i 5) (E i 6) (E i 7) x y z
set_option maxHeartbeats 1000000 in
set_option maxRecDepth 100000 in
theorem l4First_some (bb off len cap : Nat) (E : Nat → Nat → Int) (x y z : Int) (w : World) (hlt : bb < w.heap.size) (hc : ∀ i, i < len → ∀ j, j < 8 → w.cell? ⟨bb, off + i * 8 + j, none⟩ = some (.int .i64 (E i j))) (hl : len ≤ 1048576) (hok : ∀ i, i < len → rbad E i = false) :
    Calls Tryd.prog 63 #[.slice (some ⟨bb, off, none⟩) len cap, .agg #[.int .i64 x, .int .i64 y, .int .i64 z]] w fun e w' => ∃ v, e = .returned (.int .i64 v) ∧ IsFirst (rabout E x y z) (fun i => (i : Int)) len v ∧ Below w.heap.size w w' := by
  have HC := hid_in hc; have HO := hid_in hok
  clear hc hok
  go_enter Tryd.func63, Tryd.ntmps63
  go_wp2_with fail
  have z0 := below_box w (Obj.cells #[.int .i64 x, .int .i64 y, .int .i64 z] 25)
  have HZ := hid_in z0
  have hW0 : (w.alloc (Obj.cells #[.int .i64 x, .int .i64 y, .int .i64 z] 25)).heap.size = w.heap.size + 1 := by simp
  have c0 : (w.alloc (Obj.cells #[.int .i64 x, .int .i64 y, .int .i64 z] 25)).cell? ⟨w.heap.size, 0, none⟩ = some (.int .i64 x) := by go_simp
  have c1 : (w.alloc (Obj.cells #[.int .i64 x, .int .i64 y, .int .i64 z] 25)).cell? ⟨w.heap.size, 1, none⟩ = some (.int .i64 y) := by go_simp
  have c2 : (w.alloc (Obj.cells #[.int .i64 x, .int .i64 y, .int .i64 z] 25)).cell? ⟨w.heap.size, 2, none⟩ = some (.int .i64 z) := by go_simp
  clear z0
  generalize w.alloc (Obj.cells #[.int .i64 x, .int .i64 y, .int .i64 z] 25) = W at *
  have C0 := hid_in c0; have C1 := hid_in c1; have C2 := hid_in c2; have HS := hid_in hW0
  clear c0 c1 c2 hW0
  go_loopw [5] (fun v wr => ∃ k : Nat, k ≤ len ∧ v = .int .i64 (k : Int) ∧ Hid (Below W.heap.size W wr ∧ ∀ i, i < k → rabout E x y z i = false)) (fun v _ => len - (intOf v).toNat)
  case atStart => exact ⟨0, Nat.zero_le _, rfl, by show _ ∧ _; exact ⟨Below.refl _ _, fun i hi => by omega⟩⟩
  case round =>
    obtain ⟨k, hk, rfl, HW⟩ := hrel
    have hW := HS.out
    have hm : bb < W.heap.size := by omega
    by_cases hlt' : k < len
    · have hd : (k : Int) < (len : Int) := by omega
      have hg := fun j hj => ((bcell HW.out.1).1 bb (off + k * 8 + j) hm).trans (((bcell HZ.out).1 bb _ hlt).trans (HC.out k hlt' j hj))
      have g0 : wr.cell? ⟨bb, off + k * 8, none⟩ = _ := hg 0 (by omega)
      have g1 := hg 1 (by omega); have g2 := hg 2 (by omega); have g3 := hg 3 (by omega); have g4 := hg 4 (by omega); have g5 := hg 5 (by omega); have g6 := hg 6 (by omega); have g7 := hg 7 (by omega)
      have q0 := ((bcell HW.out.1).1 w.heap.size 0 (by omega)).trans C0.out
      have q1 := ((bcell HW.out.1).1 w.heap.size 1 (by omega)).trans C1.out
      have q2 := ((bcell HW.out.1).1 w.heap.size 2 (by omega)).trans C2.out
      have hm1 : bb < wr.heap.size := Nat.lt_of_lt_of_le hm HW.out.1.size
      have hm2 : w.heap.size < wr.heap.size := by have := HW.out.1.size; omega
      clear hg hW
      obtain ⟨B1, B2⟩ := rok_bounds (HO.out k hlt')
      have K1 := hid_in B1; have K2 := hid_in B2
      clear B1 B2
      obtain ⟨v, hv⟩ : ∃ v, rabout E x y z k = v := ⟨_, rfl⟩
      have V := hid_in hv
      clear hv
      cases v
      · go_wp2_with fail
        refine wp_region_lat (Below.refl _ _) (by kernel_rfl) (by kernel_rfl) ?_
        intro hne hcl
        repeat (go_big_quiet_step (first | (go_at_call 106; exact lat_of (l4About_any _ _ _ _ _ _ _ _ _ _ _ _ _ K1.out K2.out V.out))))
        refine wpQuiet_nil ?_
        intro w1 hb1
        obtain ⟨hc1, hf1⟩ := bcell hb1
        clear hne hcl
        go_wp2_with fail
        refine ⟨⟨k + 1, by omega, by simp, ?_⟩, by simp [intOf]; omega⟩
        show _ ∧ _
        refine ⟨below_later HW.out.1 hb1, fun i hi => ?_⟩
        by_cases hik : i < k
        · exact HW.out.2 i hik
        · rw [show i = k by omega]; exact V.out
      · go_wp2_with fail
        refine wp_region_lat (Below.refl _ _) (by kernel_rfl) (by kernel_rfl) ?_
        intro hne hcl
        repeat (go_big_quiet_step (first | (go_at_call 106; exact lat_of (l4About_any _ _ _ _ _ _ _ _ _ _ _ _ _ K1.out K2.out V.out))))
        refine wpQuiet_nil ?_
        intro w1 hb1
        obtain ⟨hc1, hf1⟩ := bcell hb1
        clear hne hcl
        go_wp2_with fail
        go_ret
        exact ⟨_, rfl, .inl ⟨k, hlt', V.out, HW.out.2, rfl⟩, below_later HZ.out (below_later HW.out.1 hb1)⟩
    · have hd : decide ((k : Int) < (len : Int)) = false := by simp; omega
      have e : k = len := by omega
      have HE := hid_in e
      clear e
      go_wp2_with fail
      go_ret
      exact ⟨_, rfl, .inr ⟨fun i hi => HW.out.2 i (by rw [HE.out]; exact hi), rfl⟩, below_later HZ.out HW.out.1⟩
set_option maxHeartbeats 1000000 in
set_option maxRecDepth 100000 in
theorem l4First_any (a : Option Addr) (len cap : Nat) (E : Nat → Nat → Int) (x y z : Int) (w : World) (hT : Tab w a len 8 E) (hl : len ≤ 1048576) (hok : ∀ i, i < len → rbad E i = false) :
    Calls Tryd.prog 63 #[.slice a len cap, .agg #[.int .i64 x, .int .i64 y, .int .i64 z]] w fun e w' => ∃ v, e = .returned (.int .i64 v) ∧ IsFirst (rabout E x y z) (fun i => (i : Int)) len v ∧ Below w.heap.size w w' := by
  rcases hT with rfl | ⟨bb, off, rfl, h1, k1⟩
  · clear hok
    go_enter Tryd.func63, Tryd.ntmps63
    go_wp2_with fail
    refine wp_loop_rounds 1 ?_
    rw [rounds_succ]
    go_wp2_with fail
    go_ret
    exact ⟨_, rfl, .inr ⟨fun i hi => by omega, rfl⟩, below_box _ _⟩
  · exact l4First_some bb off len cap E x y z w h1 k1 hl hok
set_option maxHeartbeats 1000000 in
set_option maxRecDepth 100000 in
theorem hasRoom_any (a b c d l h x y z : Int) (C : Nat) (w : World) (hC : C < w.heap.size) (c0 : w.cell? ⟨C, 0, none⟩ = some (.int .i64 x)) (c1 : w.cell? ⟨C, 1, none⟩ = some (.int .i64 y)) (c2 : w.cell? ⟨C, 2, none⟩ = some (.int .i64 z)) (v : Bool) (hv : (inB x a b && inB y c d && inB z l h) = v) :
    Calls Tryd.prog 103 #[.agg #[.int .i64 a, .int .i64 b, .int .i64 c, .int .i64 d, .int .i64 l, .int .i64 h], .pointer (some ⟨C, 0, none⟩)] w fun e w' => e = .returned (.bool v) ∧ Below w.heap.size w w' := by
  have V := hid_in hv
  have hne : ¬ C = w.heap.size := by omega
  clear hv
  go_enter Tryd.func103, Tryd.ntmps103
  go_wp2_with fail
  refine (roomHas_any a b c d l h x y z _ _ V.out).mono ?_
  rintro e w1 ⟨rfl, hb1⟩
  obtain ⟨hc1, hf1⟩ := bcell hb1
  go_wp2_with fail
  go_ret
  exact ⟨rfl, below_under hb1⟩
set_option maxHeartbeats 1000000 in
set_option maxRecDepth 100000 in
theorem idxRoom_some (bb off len cap C : Nat) (E : Nat → Nat → Int) (x y z : Int) (w : World) (hlt : bb < w.heap.size) (hc : ∀ i, i < len → ∀ j, j < 6 → w.cell? ⟨bb, off + i * 6 + j, none⟩ = some (.int .i64 (E i j))) (hl : len ≤ 1048576)
    (hC : C < w.heap.size) (c0 : w.cell? ⟨C, 0, none⟩ = some (.int .i64 x)) (c1 : w.cell? ⟨C, 1, none⟩ = some (.int .i64 y)) (c2 : w.cell? ⟨C, 2, none⟩ = some (.int .i64 z)) :
    Calls Tryd.prog 102 #[.slice (some ⟨bb, off, none⟩) len cap, .func (.func 103) #[] #[.pointer (some ⟨C, 0, none⟩)]] w fun e w' => ∃ v, e = .returned (.int .i64 v) ∧ IsFirst (fun i => inB x (E i 0) (E i 1) && inB y (E i 2) (E i 3) && inB z (E i 4) (E i 5)) (fun i => (i : Int)) len v ∧ Below w.heap.size w w' := by
  have HC := hid_in hc; have C0 := hid_in c0; have C1 := hid_in c1; have C2 := hid_in c2
  clear hc c0 c1 c2
  go_enter Tryd.func102, Tryd.ntmps102
  go_wp2_with fail
  go_loopw [8] (fun v wr => ∃ k : Nat, k ≤ len ∧ v = .int .i64 (k : Int) ∧ Hid (Below w.heap.size w wr ∧ ∀ i, i < k → (inB x (E i 0) (E i 1) && inB y (E i 2) (E i 3) && inB z (E i 4) (E i 5)) = false)) (fun v _ => len - (intOf v).toNat)
  case atStart => exact ⟨0, Nat.zero_le _, rfl, by show _ ∧ _; exact ⟨Below.refl _ _, fun i hi => by omega⟩⟩
  case round =>
    obtain ⟨k, hk, rfl, HW⟩ := hrel
    by_cases hlt' : k < len
    · have hd : (k : Int) < (len : Int) := by omega
      have hg := fun j hj => ((bcell HW.out.1).1 bb (off + k * 6 + j) hlt).trans (HC.out k hlt' j hj)
      have g0 : wr.cell? ⟨bb, off + k * 6, none⟩ = _ := hg 0 (by omega)
      have g1 := hg 1 (by omega); have g2 := hg 2 (by omega); have g3 := hg 3 (by omega); have g4 := hg 4 (by omega); have g5 := hg 5 (by omega)
      clear hg
      have q0 := ((bcell HW.out.1).1 C 0 hC).trans C0.out
      have q1 := ((bcell HW.out.1).1 C 1 hC).trans C1.out
      have q2 := ((bcell HW.out.1).1 C 2 hC).trans C2.out
      have hm2 : C < wr.heap.size := Nat.lt_of_lt_of_le hC HW.out.1.size
      obtain ⟨v, hv⟩ : ∃ v, (inB x (E k 0) (E k 1) && inB y (E k 2) (E k 3) && inB z (E k 4) (E k 5)) = v := ⟨_, rfl⟩
      have V := hid_in hv
      clear hv
      cases v
      · go_wp2_with fail
        refine (hasRoom_any (E k 0) (E k 1) (E k 2) (E k 3) (E k 4) (E k 5) x y z C _ hm2 q0 q1 q2 _ V.out).mono ?_
        rintro e w1 ⟨rfl, hb1⟩
        go_wp2_with fail
        refine ⟨⟨k + 1, by omega, by simp, ?_⟩, by simp [intOf]; omega⟩
        show _ ∧ _
        refine ⟨below_later HW.out.1 hb1, fun i hi => ?_⟩
        by_cases hik : i < k
        · exact HW.out.2 i hik
        · rw [show i = k by omega]; exact V.out
      · go_wp2_with fail
        refine (hasRoom_any (E k 0) (E k 1) (E k 2) (E k 3) (E k 4) (E k 5) x y z C _ hm2 q0 q1 q2 _ V.out).mono ?_
        rintro e w1 ⟨rfl, hb1⟩
        go_wp2_with fail
        go_ret
        exact ⟨_, rfl, .inl ⟨k, hlt', V.out, HW.out.2, rfl⟩, below_later HW.out.1 hb1⟩
    · have hd : decide ((k : Int) < (len : Int)) = false := by simp; omega
      have e : k = len := by omega
      have HE := hid_in e
      clear e
      go_wp2_with fail
      go_ret
      exact ⟨_, rfl, .inr ⟨fun i hi => HW.out.2 i (by rw [HE.out]; exact hi), rfl⟩, HW.out.1⟩
set_option maxHeartbeats 1000000 in
set_option maxRecDepth 100000 in
theorem idxRoom_any (a : Option Addr) (len cap C : Nat) (E : Nat → Nat → Int) (x y z : Int) (w : World) (hT : Tab w a len 6 E) (hl : len ≤ 1048576)
    (hC : C < w.heap.size) (c0 : w.cell? ⟨C, 0, none⟩ = some (.int .i64 x)) (c1 : w.cell? ⟨C, 1, none⟩ = some (.int .i64 y)) (c2 : w.cell? ⟨C, 2, none⟩ = some (.int .i64 z)) :
    Calls Tryd.prog 102 #[.slice a len cap, .func (.func 103) #[] #[.pointer (some ⟨C, 0, none⟩)]] w fun e w' => ∃ v, e = .returned (.int .i64 v) ∧ IsFirst (fun i => inB x (E i 0) (E i 1) && inB y (E i 2) (E i 3) && inB z (E i 4) (E i 5)) (fun i => (i : Int)) len v ∧ Below w.heap.size w w' := by
  rcases hT with rfl | ⟨bb, off, rfl, h1, k1⟩
  · clear c0 c1 c2
    go_enter Tryd.func102, Tryd.ntmps102
    go_wp2_with fail
    refine wp_loop_rounds 1 ?_
    rw [rounds_succ]
    go_wp2_with fail
    go_ret
    exact ⟨_, rfl, .inr ⟨fun i hi => by omega, rfl⟩, Below.refl _ _⟩
  · exact idxRoom_some bb off len cap C E x y z w h1 k1 hl hC c0 c1 c2
set_option maxHeartbeats 1000000 in
set_option maxRecDepth 100000 in
theorem firstOf_any (a : Option Addr) (len cap : Nat) (E : Nat → Nat → Int) (x y z : Int) (w : World) (hT : Tab w a len 6 (roomE E)) (hl : len ≤ 1048576) :
    Calls Tryd.prog 60 #[.slice a len cap, .agg #[.int .i64 x, .int .i64 y, .int .i64 z]] w fun e w' => ∃ v, e = .returned (.int .i64 v) ∧ IsFirst (rabout E x y z) (fun i => (i : Int)) len v ∧ Below w.heap.size w w' := by
  have HT := hid_in (hT.later (below_box w (Obj.cells #[.int .i64 x, .int .i64 y, .int .i64 z] 25)))
  clear hT
  go_enter Tryd.func60, Tryd.ntmps60
  go_wp2_with fail
  refine (idxRoom_any a len cap w.heap.size (roomE E) x y z _ HT.out hl (by simp) (by go_simp) (by go_simp) (by go_simp)).mono ?_
  rintro e w1 ⟨v, rfl, F, hb1⟩
  have F' : Hid (IsFirst (rabout E x y z) (fun i => (i : Int)) len v) := F
  clear F
  go_wp2_with fail
  go_ret
  exact ⟨_, rfl, F'.out, below_under hb1⟩
/-- v is the place of the first rule about a call, of rules that are ok and a call that may go; else -1. -/
def RFirst (E : Nat → Nat → Int) (n : Nat) (x y z v : Int) : Prop := (((∀ i, i < n → rbad E i = false) ∧ n ≤ 8 ∧ callB x y z = true) → IsFirst (rabout E x y z) (fun i => (i : Int)) n v) ∧ (¬ ((∀ i, i < n → rbad E i = false) ∧ n ≤ 8 ∧ callB x y z = true) → v = -1)
theorem RFirst.one {E : Nat → Nat → Int} {n : Nat} {x y z u v : Int} (h : RFirst E n x y z u) (k : RFirst E n x y z v) : u = v := by
  by_cases c : (∀ i, i < n → rbad E i = false) ∧ n ≤ 8 ∧ callB x y z = true
  · exact (h.1 c).one (k.1 c)
  · rw [h.2 c, k.2 c]
set_option maxHeartbeats 2000000 in
set_option maxRecDepth 100000 in
theorem rulesFirstS (a : Option Addr) (len cap : Nat) (E : Nat → Nat → Int) (x y z : Int) (w : World) (hT : Tab w a len 8 E) (hl : len ≤ 1048576) :
    Calls Tryd.prog 15 #[.slice a len cap, vCall x y z] w fun e w' => ∃ v, e = .returned (.int .i64 v) ∧ RFirst E len x y z v ∧ Below w.heap.size w w' := by
  unfold vCall
  have HT := hid_in (hT.later (below_box w (Obj.cells #[.int .i64 x, .int .i64 y, .int .i64 z] 25)))
  clear hT
  go_enter Tryd.func15, Tryd.ntmps15
  go_wp2_with fail
  refine (rulesOkS a len cap E _ HT.out hl).mono ?_
  rintro e u1 ⟨v1, rfl, A1, hb1⟩
  obtain ⟨hc1, hf1⟩ := bcell hb1
  have c0 : u1.cell? ⟨w.heap.size, 0, none⟩ = some (.int .i64 x) := by rw [hc1 _ _ (by simp)]; go_simp
  have c1 : u1.cell? ⟨w.heap.size, 1, none⟩ = some (.int .i64 y) := by rw [hc1 _ _ (by simp)]; go_simp
  have c2 : u1.cell? ⟨w.heap.size, 2, none⟩ = some (.int .i64 z) := by rw [hc1 _ _ (by simp)]; go_simp
  have m1 : w.heap.size < u1.heap.size := by have := hb1.size; simp at this; omega
  have T1 := hid_in (HT.out.later hb1); have Z1 := hid_in (below_under hb1); have A := hid_in A1
  clear hc1 hf1 hb1 HT A1
  cases v1
  · go_wp2_with fail
    go_ret
    refine ⟨_, rfl, ⟨fun h => ?_, fun _ => rfl⟩, Z1.out⟩
    have := A.out.2 ⟨h.1, h.2.1⟩
    cases this
  · obtain ⟨v2, hv2⟩ : ∃ v, callB x y z = v := ⟨_, rfl⟩
    have V := hid_in hv2
    clear hv2
    go_wp2_with fail
    refine (l4Call_any x y z _ v2 V.out).mono ?_
    rintro e u2 ⟨rfl, hb2⟩
    obtain ⟨hc2, hf2⟩ := bcell hb2
    have d0 : u2.cell? ⟨w.heap.size, 0, none⟩ = some (.int .i64 x) := (hc2 _ _ m1).trans c0
    have d1 : u2.cell? ⟨w.heap.size, 1, none⟩ = some (.int .i64 y) := (hc2 _ _ m1).trans c1
    have d2 : u2.cell? ⟨w.heap.size, 2, none⟩ = some (.int .i64 z) := (hc2 _ _ m1).trans c2
    have m2 : w.heap.size < u2.heap.size := by have := hb2.size; omega
    have T2 := hid_in (T1.out.later hb2); have Z2 := hid_in (below_later Z1.out hb2)
    clear hc2 hf2 hb2 T1 Z1 c0 c1 c2 m1
    have HB := hid_in (A.out.1 rfl)
    cases v2
    · go_wp2_with fail
      go_ret
      refine ⟨_, rfl, ⟨fun h => ?_, fun _ => rfl⟩, Z2.out⟩
      rw [V.out] at h
      cases h.2.2
    · go_wp2_with fail
      refine (l4First_any a len cap E x y z _ T2.out hl HB.out.1).mono ?_
      rintro e u3 ⟨v, rfl, F, hb3⟩
      have F' := hid_in F
      clear F
      go_wp2_with fail
      go_ret
      exact ⟨_, rfl, ⟨fun _ => F'.out, fun h => absurd ⟨HB.out.1, HB.out.2, V.out⟩ h⟩, below_later Z2.out hb3⟩
set_option maxHeartbeats 2000000 in
set_option maxRecDepth 100000 in
theorem rulesFirstI (a : Option Addr) (len cap : Nat) (E : Nat → Nat → Int) (x y z : Int) (w : World) (hT : Tab w a len 8 E) (hl : len ≤ 1048576) :
    Calls Tryd.prog 14 #[.slice a len cap, vCall x y z] w fun e w' => ∃ v, e = .returned (.int .i64 v) ∧ RFirst E len x y z v ∧ Below w.heap.size w w' := by
  unfold vCall
  have HT := hid_in (hT.later (below_box w (Obj.cells #[.int .i64 x, .int .i64 y, .int .i64 z] 25)))
  clear hT
  go_enter Tryd.func14, Tryd.ntmps14
  go_wp2_with fail
  refine (rulesOkI a len cap E _ HT.out hl).mono ?_
  rintro e u1 ⟨v1, rfl, A1, hb1⟩
  obtain ⟨hc1, hf1⟩ := bcell hb1
  have c0 : u1.cell? ⟨w.heap.size, 0, none⟩ = some (.int .i64 x) := by rw [hc1 _ _ (by simp)]; go_simp
  have c1 : u1.cell? ⟨w.heap.size, 1, none⟩ = some (.int .i64 y) := by rw [hc1 _ _ (by simp)]; go_simp
  have c2 : u1.cell? ⟨w.heap.size, 2, none⟩ = some (.int .i64 z) := by rw [hc1 _ _ (by simp)]; go_simp
  have m1 : w.heap.size < u1.heap.size := by have := hb1.size; simp at this; omega
  have T1 := hid_in (HT.out.later hb1); have Z1 := hid_in (below_under hb1); have A := hid_in A1
  clear hc1 hf1 hb1 HT A1
  cases v1
  · go_wp2_with fail
    go_ret
    refine ⟨_, rfl, ⟨fun h => ?_, fun _ => rfl⟩, Z1.out⟩
    have := A.out.2 ⟨h.1, h.2.1⟩
    cases this
  · obtain ⟨v2, hv2⟩ : ∃ v, callB x y z = v := ⟨_, rfl⟩
    have V := hid_in hv2
    clear hv2
    go_wp2_with fail
    refine (callOk_any x y z _ v2 V.out).mono ?_
    rintro e u2 ⟨rfl, hb2⟩
    obtain ⟨hc2, hf2⟩ := bcell hb2
    have d0 : u2.cell? ⟨w.heap.size, 0, none⟩ = some (.int .i64 x) := (hc2 _ _ m1).trans c0
    have d1 : u2.cell? ⟨w.heap.size, 1, none⟩ = some (.int .i64 y) := (hc2 _ _ m1).trans c1
    have d2 : u2.cell? ⟨w.heap.size, 2, none⟩ = some (.int .i64 z) := (hc2 _ _ m1).trans c2
    have m2 : w.heap.size < u2.heap.size := by have := hb2.size; omega
    have T2 := hid_in (T1.out.later hb2); have Z2 := hid_in (below_later Z1.out hb2)
    clear hc2 hf2 hb2 T1 Z1 c0 c1 c2 m1
    have HB := hid_in (A.out.1 rfl)
    cases v2
    · go_wp2_with fail
      go_ret
      refine ⟨_, rfl, ⟨fun h => ?_, fun _ => rfl⟩, Z2.out⟩
      rw [V.out] at h
      cases h.2.2
    · go_wp2_with fail
      go_region_held3 (fun w' => w'.cell? ⟨w.heap.size, 0, none⟩ = some (.int .i64 x) ∧ w'.cell? ⟨w.heap.size, 1, none⟩ = some (.int .i64 y) ∧ w'.cell? ⟨w.heap.size, 2, none⟩ = some (.int .i64 z)) (go_keep) (first | (go_at_call 61; refine (roomsOf_any a len cap E _ (T2.out.later (by go_grown)) HB.out.2 HB.out.1).mono ?_; rintro e u3 ⟨a3, c3, rfl, T3, hb3⟩; obtain ⟨hc3, hf3⟩ := bcell hb3; have m3 : w.heap.size < u3.heap.size := (Nat.lt_of_lt_of_le m2 hb3.size); have t0 : u3.cell? ⟨w.heap.size, 0, none⟩ = some (.int .i64 x) := ((hc3 _ _ m2).trans d0); have t1 : u3.cell? ⟨w.heap.size, 1, none⟩ = some (.int .i64 y) := ((hc3 _ _ m2).trans d1); have t2 : u3.cell? ⟨w.heap.size, 2, none⟩ = some (.int .i64 z) := ((hc3 _ _ m2).trans d2)) | (go_at_call 60; refine (firstOf_any a3 len c3 E x y z _ T3 hl).mono ?_; rintro e u4 ⟨v, rfl, F, hb4⟩; obtain ⟨hc4, hf4⟩ := bcell hb4))
      have Z4 := hid_in (below_later (below_later Z2.out.drew hb3) hb4)
      have F' := hid_in F
      clear F hb3 hb4 hc3 hf3 hc4 hf4 T3
      go_wp2_with fail
      go_ret
      exact ⟨_, rfl, ⟨fun _ => F'.out, fun h => absurd ⟨HB.out.1, HB.out.2, V.out⟩ h⟩, Z4.out⟩
end Go.Proofs.YtdljoopioglkiaaDoor
