/- Rooms of rules, and which rule is the first about a call, as contracts. The conditions stand at each theorem. -/
import Derived.Test.YtdljoopioglkiaaDoorRulC
import Derived.Test.YtdljoopioglkiaaDoorCelA
import Derived.Test.YtdljoopioglkiaaDoorOwn
import Derived.OwnWalk
import Derived.Deep.RegionHeld3
import Derived.Deep.RegionHeldLaw
namespace Go.Proofs.YtdljoopioglkiaaDoor
open Go.RowKit Go.LatT Go.BlockM Go.OpnT
set_option linter.unusedVariables false
set_option linter.unusedSimpArgs false
set_option maxHeartbeats 1000000 in
set_option maxRecDepth 100000 in
theorem reachOf_any (a b : Int) (w : World) (ha0 : 0 ≤ a) (ha1 : a ≤ 4294967295) (hb0 : 0 ≤ b) (hb1 : b ≤ 32) :
    Calls Tryd.prog 104 #[.agg #[.int .i64 a, .int .i64 b]] w fun e w' => e = .returned (.agg #[.int .i64 a, .int .i64 (a + pw (32 - b) - 1)]) ∧ Below w.heap.size w w' := by
  go_enter Tryd.func104, Tryd.ntmps104
  go_wp2_with fail
  refine (prefixOf_any a b _).mono ?_
  rintro e u1 ⟨rfl, hz1⟩
  obtain ⟨hcu, hfu⟩ := bcell hz1
  have c0 : u1.cell? ⟨w.heap.size + 1, 0, none⟩ = some (.int .i64 0) := by rw [hcu _ _ (by simp)]; go_simp
  have c1 : u1.cell? ⟨w.heap.size + 1, 1, none⟩ = some (.int .i64 0) := by rw [hcu _ _ (by simp)]; go_simp
  have f0 : u1.frozen? ⟨w.heap.size + 1, 0, none⟩ = false := by rw [hfu _ _ (by simp)]; go_simp
  have f1 : u1.frozen? ⟨w.heap.size + 1, 1, none⟩ = false := by rw [hfu _ _ (by simp)]; go_simp
  have m1 : w.heap.size + 1 < u1.heap.size := by have := hz1.size; simp at this; omega
  have z1 := hid_in (below_under (below_under hz1))
  clear hcu hfu hz1
  go_wp2_with fail
  refine wp_region_lat_tail (Below.refl _ _) (by kernel_rfl) (by dsimp only [List.dropLast]) (by exact rfl) (by kernel_rfl) ?_
  intro hne hcl
  repeat (go_big_quiet_step (first | (go_at_call 135; exact lat_of (plast _ _ _ ha0 ha1 hb0 (by assumption)))))
  refine wpQuiet_nil ?_
  intro w1 hb1
  obtain ⟨hc1, hf1⟩ := bcell hb1
  clear hne hcl
  have m2 : w.heap.size + 1 ≠ u1.heap.size := by omega
  have q0 : w1.cell? ⟨w.heap.size + 1, 0, none⟩ = some (.int .i64 0) := by rw [hc1 (w.heap.size + 1) 0 (by simp; omega), World.cell?_alloc_past _ _ _ m1]; exact c0
  have q1 : w1.cell? ⟨w.heap.size + 1, 1, none⟩ = some (.int .i64 0) := by rw [hc1 (w.heap.size + 1) 1 (by simp; omega), World.cell?_alloc_past _ _ _ m1]; exact c1
  have r0 : w1.frozen? ⟨w.heap.size + 1, 0, none⟩ = false := by rw [hf1 (w.heap.size + 1) 0 (by simp; omega), World.frozen?_alloc_past _ _ _ m1]; exact f0
  have r1 : w1.frozen? ⟨w.heap.size + 1, 1, none⟩ = false := by rw [hf1 (w.heap.size + 1) 1 (by simp; omega), World.frozen?_alloc_past _ _ _ m1]; exact f1
  have zb := below_later z1.out (below_under hb1)
  clear hc1 hf1 hb1
  go_wp2
  exact bodyPost_ret (v := .agg #[.int .i64 a, .int .i64 (a + pw (32 - b) - 1)]) (by simp [results, Tryd.results104, go_sem, q0, q1]) rfl ⟨rfl, by go_grown⟩
/-- The room of a rule. -/
def roomE (E : Nat → Nat → Int) (i j : Nat) : Int := match j with
  | 0 => E i 2
  | 1 => E i 2 + pw (32 - E i 3) - 1
  | 2 => E i 4
  | 3 => E i 4 + pw (32 - E i 5) - 1
  | 4 => E i 6
  | _ => E i 7
theorem infoRoom : (Tryd.prog.info? 124).map (fun i => (i.zero, i.size, i.bytes)) = some (some (.agg #[.int .i64 0, .int .i64 0, .int .i64 0, .int .i64 0, .int .i64 0, .int .i64 0]), 6, 48) := by kernel_rfl
theorem rok_bounds {E : Nat → Nat → Int} {k : Nat} (h : rbad E k = false) : (0 ≤ E k 2 ∧ E k 2 ≤ 4294967295 ∧ 0 ≤ E k 3 ∧ E k 3 ≤ 32) ∧ (0 ≤ E k 4 ∧ E k 4 ≤ 4294967295 ∧ 0 ≤ E k 5 ∧ E k 5 ≤ 32) := by
  simp only [rbad, Bool.not_eq_false', rokB, Bool.and_eq_true] at h
  obtain ⟨⟨⟨⟨⟨h1, h2⟩, _⟩, _⟩, _⟩, _⟩ := h
  obtain ⟨a, b, c, d, _⟩ := ok_of h1
  obtain ⟨a', b', c', d', _⟩ := ok_of h2
  exact ⟨⟨a, b, c, d⟩, a', b', c', d'⟩
set_option maxHeartbeats 4000000 in
set_option maxRecDepth 100000 in
theorem roomsOf_some (bb off len cap : Nat) (E : Nat → Nat → Int) (w : World) (hlt : bb < w.heap.size) (hc : ∀ i, i < len → ∀ j, j < 8 → w.cell? ⟨bb, off + i * 8 + j, none⟩ = some (.int .i64 (E i j))) (hl : len ≤ 8) (hok : ∀ i, i < len → rbad E i = false) :
    Calls Tryd.prog 61 #[.slice (some ⟨bb, off, none⟩) len cap] w fun e w' => ∃ v, e = .returned v ∧ w'.ownsRow w.heap.size 124 6 v len (flatC (roomE E) 6 len) ∧ Below w.heap.size w w' := by
  have HC := hid_in hc; have HO := hid_in hok
  clear hc hok
  obtain ⟨i0, hi, hzz⟩ := Option.map_eq_some_iff.1 infoRoom
  simp only [Prod.mk.injEq] at hzz
  have HI := hid_in hi; have HZ := hid_in hzz
  clear hi hzz
  go_enter Tryd.func61, Tryd.ntmps61
  go_wp2_with fail
  go_loopw [3, 8] (fun s v wr => ∃ k : Nat, k ≤ len ∧ v = .int .i64 (k : Int) ∧ Hid (Below w.heap.size w wr ∧ wr.ownsRow w.heap.size 124 6 s k (flatC (roomE E) 6 k))) (fun _ v _ => len - (intOf v).toNat)
  case atStart => exact ⟨0, Nat.zero_le _, rfl, by show _ ∧ _; exact ⟨Below.refl _ _, World.ownsRow_nil _ _ _ _⟩⟩
  case round =>
    obtain ⟨k, hk, rfl, HW⟩ := hrel
    by_cases hlt' : k < len
    · have hd : (k : Int) < (len : Int) := by omega
      obtain ⟨⟨a0, a1, b0, b1⟩, x0, x1, y0, y1⟩ := rok_bounds (HO.out k hlt')
      have hg := fun j hj => ((bcell HW.out.1).1 bb (off + k * 8 + j) hlt).trans (HC.out k hlt' j hj)
      have g0 : wr.cell? ⟨bb, off + k * 8, none⟩ = _ := hg 0 (by omega)
      have g1 := hg 1 (by omega); have g2 := hg 2 (by omega); have g3 := hg 3 (by omega); have g4 := hg 4 (by omega); have g5 := hg 5 (by omega); have g6 := hg 6 (by omega); have g7 := hg 7 (by omega)
      clear hg
      have hw0 := HW.out.1.size
      have N3 := fun g hg => owns_own HW.out.2 g hg
      go_wp2_with fail
      clear g0 g1 g2 g3 g4 g5 g6 g7
      go_region_held3 (fun w' => w'.cell? ⟨wr.heap.size, 2, none⟩ = some (.int .i64 (E k 2)) ∧ w'.cell? ⟨wr.heap.size, 3, none⟩ = some (.int .i64 (E k 3)) ∧ w'.cell? ⟨wr.heap.size, 4, none⟩ = some (.int .i64 (E k 4)) ∧ w'.cell? ⟨wr.heap.size, 5, none⟩ = some (.int .i64 (E k 5)) ∧ w'.cell? ⟨wr.heap.size, 6, none⟩ = some (.int .i64 (E k 6)) ∧ w'.cell? ⟨wr.heap.size, 7, none⟩ = some (.int .i64 (E k 7))) (go_keep) (first | (refine wp_append_own _ (.tmp 12) (.tmp 25) 90 rfl w.heap.size 124 i0 (.agg #[.int .i64 0, .int .i64 0, .int .i64 0, .int .i64 0, .int .i64 0, .int .i64 0]) 6 48 Tryd.underlying90 HI.out HZ.out.1 HZ.out.2.1 HZ.out.2.2 rfl (by decide) _ k (flatC (roomE E) 6 k) rfl (by exact (O2.out.alloc _)) ⟨w2.heap.size, 0, none⟩ 1 1 [.int .i64 (E k 2), .int .i64 (E k 2 + pw (32 - E k 3) - 1), .int .i64 (E k 4), .int .i64 (E k 4 + pw (32 - E k 5) - 1), .int .i64 (E k 6), .int .i64 (E k 7)] rfl rfl (cells_new _ _ _) (one_cells [E k 2, E k 2 + pw (32 - E k 3) - 1, E k 4, E k 4 + pw (32 - E k 5) - 1, E k 6, E k 7]) (by unfold maxLen; omega) (by omega) (by simp; omega) ?_; intro v' w3 hown3 hg3 hn3; have c3 : ∀ o v, w2.cell? ⟨wr.heap.size, o, none⟩ = some v → w3.cell? ⟨wr.heap.size, o, none⟩ = some v := (fun o v h => hg3.cell (by rw [World.cell?_alloc_past _ _ _ m2]; exact h) (fun e => absurd (N3 _ e.symm).2 (Nat.lt_irrefl _))); have t2 : w3.cell? ⟨wr.heap.size, 2, none⟩ = some (.int .i64 (E k 2)) := c3 2 _ (by rw [hc2 _ _ m1, hc1 _ _ (by simp)]; go_simp); have t3 : w3.cell? ⟨wr.heap.size, 3, none⟩ = some (.int .i64 (E k 3)) := c3 3 _ (by rw [hc2 _ _ m1, hc1 _ _ (by simp)]; go_simp); have t4 : w3.cell? ⟨wr.heap.size, 4, none⟩ = some (.int .i64 (E k 4)) := c3 4 _ (by rw [hc2 _ _ m1, hc1 _ _ (by simp)]; go_simp); have t5 : w3.cell? ⟨wr.heap.size, 5, none⟩ = some (.int .i64 (E k 5)) := c3 5 _ (by rw [hc2 _ _ m1, hc1 _ _ (by simp)]; go_simp); have t6 : w3.cell? ⟨wr.heap.size, 6, none⟩ = some (.int .i64 (E k 6)) := c3 6 _ (by rw [hc2 _ _ m1, hc1 _ _ (by simp)]; go_simp); have t7 : w3.cell? ⟨wr.heap.size, 7, none⟩ = some (.int .i64 (E k 7)) := c3 7 _ (by rw [hc2 _ _ m1, hc1 _ _ (by simp)]; go_simp)) | (go_at_call_of 104 (Value.int IntKind.i64 (E k 2)); refine (reachOf_any (E k 2) (E k 3) _ a0 a1 b0 b1).mono ?_; rintro e w1 ⟨rfl, hb1⟩; obtain ⟨hc1, hf1⟩ := bcell hb1; have m1 : wr.heap.size < w1.heap.size := (by have := hb1.size; simp at this; omega)) | (go_at_call 104; refine (reachOf_any (E k 4) (E k 5) _ x0 x1 y0 y1).mono ?_; rintro e w2 ⟨rfl, hb2⟩; obtain ⟨hc2, hf2⟩ := bcell hb2; have m2 : wr.heap.size < w2.heap.size := (by have := hb2.size; omega); have O2 := hid_in (owns_below (owns_below (owns_drew (HW.out.2.alloc _)) hb1) hb2)))
      have hz2 : Below w.heap.size w w2 := below_later (below_later (below_later HW.out.1 (below_box _ _).drew) hb1) hb2
      have hz3 : Below w.heap.size w w3 := (hz2.alloc hz2.size _).grown hg3 (by simp; exact Nat.le_succ_of_le hz2.size) (fun g hg => (N3 g hg).1)
      have e6 : flatC (roomE E) 6 (k + 1) = flatC (roomE E) 6 k ++ [.int .i64 (E k 2), .int .i64 (E k 2 + pw (32 - E k 3) - 1), .int .i64 (E k 4), .int .i64 (E k 4 + pw (32 - E k 5) - 1), .int .i64 (E k 6), .int .i64 (E k 7)] := flatC_succ _ _ _
      rw [← e6] at hown3
      have H1 := hid_in hz3; have H2 := hid_in hown3
      clear hz2 hz3 hown3 hg3 hn3 c3 t2 t3 t4 t5 t6 t7 hc1 hc2 hf1 hf2 hb1 hb2 O2 N3 e6
      rename_i hS
      clear hS
      go_wp2_with fail
      refine ⟨⟨k + 1, by omega, by simp, ?_⟩, by simp [intOf]; omega⟩
      show _ ∧ _
      exact ⟨H1.out, H2.out⟩
    · have hd : decide ((k : Int) < (len : Int)) = false := by simp; omega
      have e : k = len := by omega
      subst e
      go_wp2_with fail
      go_ret
      exact ⟨_, rfl, HW.out.2, HW.out.1⟩
set_option maxHeartbeats 1000000 in
set_option maxRecDepth 100000 in
theorem roomsOf_any (a : Option Addr) (len cap : Nat) (E : Nat → Nat → Int) (w : World) (hT : Tab w a len 8 E) (hl : len ≤ 8) (hok : ∀ i, i < len → rbad E i = false) :
    Calls Tryd.prog 61 #[.slice a len cap] w fun e w' => ∃ a' c', e = .returned (.slice a' len c') ∧ Tab w' a' len 6 (roomE E) ∧ Below w.heap.size w w' := by
  rcases hT with rfl | ⟨bb, off, rfl, h1, k1⟩
  · go_enter Tryd.func61, Tryd.ntmps61
    go_wp2_with fail
    refine wp_loop_rounds 1 ?_
    rw [rounds_succ]
    go_wp2_with fail
    go_ret
    exact ⟨_, _, rfl, .inl rfl, Below.refl _ _⟩
  · refine (roomsOf_some bb off len cap E w h1 k1 hl hok).mono ?_
    rintro e w' ⟨v, rfl, ho, hb⟩
    obtain ⟨a', c', rfl, _, hT⟩ := tab_of_owns ho
    exact ⟨a', c', rfl, hT, hb⟩
end Go.Proofs.YtdljoopioglkiaaDoor
