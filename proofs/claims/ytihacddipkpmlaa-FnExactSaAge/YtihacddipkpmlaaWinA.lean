/- Windows: what measuring one, copying one, holding two against each other, and asking whether one is ok answer. The conditions stand at each theorem. -/
import Derived.Test.YtihacddipkpmlaaIntS
import Derived.Test.YtihacddipkpmlaaWinM
import Derived.Deep.RegionWith
namespace Go.Proofs.Ytihacddipkpmlaa
open Go.RowKit Go.LatT Go.BlockM Go.OpnT Go.WinMath
set_option linter.unusedVariables false
set_option linter.unusedSimpArgs false
theorem IRow.set {w : World} {b n g o : Nat} {E : Nat → Int} {v : Value} (h : IRow w b n E) (hg : b ≠ g) : IRow (w.setCell ⟨g, o, none⟩ v) b n E := h.of_block (Below.heap_setCell _ _ _ _ hg)
set_option maxHeartbeats 400000 in
set_option maxRecDepth 100000 in
theorem szWindow_any (t : Int) (a : Option Addr) (len cap : Nat) (w : World) (n : Int) (h0 : 0 ≤ n) (h1 : n ≤ 1048576) (hl : (len : Int) ≤ 9223372036854775807) (v : Int) (hv : (if n - len < 0 then -1 else n - len) = v) :
    Calls Try.prog 19 #[.agg #[.int .i64 t, .slice a len cap], .int .i64 n] w fun e w' => e = .returned (.int .i64 v) ∧ Below w.heap.size w w' := by
  have hv1 := hid_in hv
  by_cases hneg : n - len < 0
  · have hv2 : v < 0 := by rw [← hv, if_pos hneg]; omega
    have hv3 : v = -1 := by rw [← hv, if_pos hneg]
    have HV := hid_in hv3
    clear hv hv3
    go_enter Try.func19, Try.ntmps19
    go_wp2_with fail
    refine (szIntS_any a len cap _ n h0 h1 hl v hv1.out).mono ?_
    rintro e w' ⟨rfl, rfl⟩
    go_wp2_with fail
    go_ret
    exact ⟨ret_int HV.out.symm, below_box _ _⟩
  · have hv2 : ¬ v < 0 := by rw [← hv, if_neg hneg]; omega
    clear hv
    go_enter Try.func19, Try.ntmps19
    go_wp2_with fail
    refine (szIntS_any a len cap _ n h0 h1 hl v hv1.out).mono ?_
    rintro e w' ⟨rfl, rfl⟩
    go_wp2_with fail
    go_ret
    exact ⟨rfl, below_box _ _⟩
set_option maxHeartbeats 1000000 in
set_option maxRecDepth 100000 in
theorem toWindow_any (t : Int) (a : Option Addr) (len cap : Nat) (E : Nat → Int) (w : World) (hT : Ints w a len E) (hl : len ≤ 1048576) :
    Calls Try.prog 23 #[.agg #[.int .i64 t, .slice a len cap]] w fun e w' => ∃ b, e = .returned (.agg #[.int .i64 t, .slice (some ⟨b, 0, none⟩) len len]) ∧ w.heap.size ≤ b ∧ IRow w' b len E ∧ Below w.heap.size w w' := by
  have HT := hid_in hT
  clear hT
  go_enter Try.func23, Try.ntmps23
  go_wp2_with fail
  refine (toIntS_any a len cap E _ (HT.out.later (by go_grown)) hl).mono ?_
  rintro e w1 ⟨rfl, hrow, hb1⟩
  obtain ⟨hc1, hf1⟩ := bcell hb1
  have p0 : w1.cell? ⟨w.heap.size + 1, 0, none⟩ = some (.int .i64 0) := by rw [hc1 _ _ (by simp)]; go_simp
  have p1 : w1.cell? ⟨w.heap.size + 1, 1, none⟩ = some (.slice none 0 0) := by rw [hc1 _ _ (by simp)]; go_simp
  have p2 : w1.cell? ⟨w.heap.size + 1 + 1, 0, none⟩ = some (.int .i64 t) := by rw [hc1 _ _ (by simp)]; go_simp
  have p3 : w1.cell? ⟨w.heap.size + 1 + 1, 1, none⟩ = some (.slice none 0 0) := by rw [hc1 _ _ (by simp)]; go_simp
  have f0 : w1.frozen? ⟨w.heap.size + 1, 0, none⟩ = false := by rw [hf1 _ _ (by simp)]; go_simp
  have f1 : w1.frozen? ⟨w.heap.size + 1, 1, none⟩ = false := by rw [hf1 _ _ (by simp)]; go_simp
  have f2 : w1.frozen? ⟨w.heap.size + 1 + 1, 0, none⟩ = false := by rw [hf1 _ _ (by simp)]; go_simp
  have f3 : w1.frozen? ⟨w.heap.size + 1 + 1, 1, none⟩ = false := by rw [hf1 _ _ (by simp)]; go_simp
  have m1 : w.heap.size + 1 + 1 + 1 ≤ w1.heap.size := by have := hb1.size; simp at this; omega
  have hr : IRow w1 (w.heap.size + 1 + 1 + 1) len E := by simpa using hrow
  have hb2 : Below w.heap.size w w1 := below_later (by go_grown) hb1
  have HB := hid_in hb2; have HR := hid_in hr
  clear hc1 hf1 hb1 hrow hr hb2
  go_wp2_with fail
  exact bodyPost_ret (v := .agg #[.int .i64 t, .slice (some ⟨w.heap.size + 1 + 1 + 1, 0, none⟩) len len]) (by simp [results, Try.results23, go_sem, p0, p1, p2, p3]) rfl
    ⟨_, rfl, by omega, ((HR.out.set (by omega)).set (by omega)).set (by omega), ((HB.out.setCell (by simp; omega) _).setCell (by simp) _).setCell (by simp) _⟩
set_option maxHeartbeats 1000000 in
set_option maxRecDepth 100000 in
theorem eqWindow_self (t : Int) (a1 a2 : Option Addr) (len c1 c2 : Nat) (E : Nat → Int) (w : World) (hT : Ints w a1 len E) (hU : Ints w a2 len E) (hl : len ≤ 1048576) :
    Calls Try.prog 26 #[.agg #[.int .i64 t, .slice a1 len c1], .agg #[.int .i64 t, .slice a2 len c2]] w fun e w' => e = .returned (.bool true) ∧ Below w.heap.size w w' := by
  have HT := hid_in hT; have HU := hid_in hU
  clear hT hU
  go_enter Try.func26, Try.ntmps26
  go_wp2_with fail
  refine (eqIntS_self a1 a2 len c1 c2 E _ (HT.out.later (by go_grown)) (HU.out.later (by go_grown)) hl).mono ?_
  rintro e w1 ⟨rfl, hb1⟩
  go_wp2_with fail
  go_ret
  exact ⟨rfl, below_later (by go_grown) hb1⟩
/-- A number of a window is out of place. -/
def wBad (t : Int) (E : Nat → Int) (i : Nat) : Prop := E i ≤ IntKind.i64.wrap (t - 16) ∨ E i < 1 ∨ (0 < i ∧ E i ≤ E (i - 1))
/-- A window is ok. -/
def WOk (t : Int) (len : Nat) (E : Nat → Int) : Prop := (len = 0 ∧ t = 0) ∨ (0 < len ∧ (∀ i, i < len → ¬ wBad t E i) ∧ E (len - 1) = t ∧ t ≤ 1000000)
set_option maxHeartbeats 2000000 in
set_option maxRecDepth 100000 in
theorem windowOkS (t : Int) (a : Option Addr) (len cap : Nat) (E : Nat → Int) (w : World) (hT : Ints w a len E) (hl : len ≤ 1048576) :
    Calls Try.prog 22 #[.agg #[.int .i64 t, .slice a len cap]] w fun e w' => ∃ v, e = .returned (.bool v) ∧ (v = true ↔ WOk t len E) ∧ Below w.heap.size w w' := by
  have HT := hid_in hT
  clear hT
  by_cases h0 : len = 0
  · subst h0
    go_enter Try.func22, Try.ntmps22
    go_wp2_with fail
    go_ret
    refine ⟨_, rfl, ?_, below_box _ _⟩
    simp [WOk]
  · have h0' : ((len : Int) == 0) = false := by simpa using h0
    obtain ⟨bb, off, rfl, hlt, hc⟩ := HT.out.resolve_left h0
    have HC := hid_in hc
    clear HT hc
    go_enter Try.func22, Try.ntmps22
    go_wp2_with fail
    have z0 := below_box w (Obj.cells #[.int .i64 t, .slice (some ⟨bb, off, none⟩) len cap] 36)
    have HZ := hid_in z0
    have hW0 : (w.alloc (Obj.cells #[.int .i64 t, .slice (some ⟨bb, off, none⟩) len cap] 36)).heap.size = w.heap.size + 1 := by simp
    have c0 : (w.alloc (Obj.cells #[.int .i64 t, .slice (some ⟨bb, off, none⟩) len cap] 36)).cell? ⟨w.heap.size, 0, none⟩ = some (.int .i64 t) := by go_simp
    have c1 : (w.alloc (Obj.cells #[.int .i64 t, .slice (some ⟨bb, off, none⟩) len cap] 36)).cell? ⟨w.heap.size, 1, none⟩ = some (.slice (some ⟨bb, off, none⟩) len cap) := by go_simp
    clear z0
    generalize w.alloc (Obj.cells #[.int .i64 t, .slice (some ⟨bb, off, none⟩) len cap] 36) = W at *
    obtain ⟨m, hm⟩ : ∃ m, IntKind.i64.wrap (t - 16) = m := ⟨_, rfl⟩
    have HM := hid_in hm
    clear hm
    have C0 := hid_in c0; have C1 := hid_in c1; have HS := hid_in hW0
    clear c0 c1 hW0
    go_loopw [4] (fun v wr => ∃ k : Nat, k ≤ len ∧ v = .int .i64 (k : Int) ∧ Hid (Below W.heap.size W wr ∧ ∀ i, i < k → ¬ wBad t E i)) (fun v _ => len - (intOf v).toNat)
    case atStart => exact ⟨0, Nat.zero_le _, rfl, by show _ ∧ _; exact ⟨Below.refl _ _, fun i hi => by omega⟩⟩
    case round =>
      obtain ⟨k, hk, rfl, HW⟩ := hrel
      have hW := HS.out
      have hmm : bb < W.heap.size := by omega
      have q0 := ((bcell HW.out.1).1 w.heap.size 0 (by omega)).trans C0.out
      have q1 := ((bcell HW.out.1).1 w.heap.size 1 (by omega)).trans C1.out
      have hg := fun i (hi : i < len) => ((bcell HW.out.1).1 bb (off + i) hmm).trans (((bcell HZ.out).1 bb _ hlt).trans (HC.out i hi))
      have HG := hid_in hg
      have hm := HM.out
      have hm1 : bb < wr.heap.size := Nat.lt_of_lt_of_le hmm HW.out.1.size
      have hm2 : w.heap.size < wr.heap.size := by have := HW.out.1.size; omega
      clear hW
      by_cases hlt' : k < len
      · have hd : (k : Int) < (len : Int) := by omega
        have g0 := hg k hlt'
        clear hg
        have endBad : Hid (wBad t E k → (false = true ↔ WOk t len E)) := by
          show _ → _
          intro hbad
          constructor
          · intro h; cases h
          · rintro (⟨h, _⟩ | ⟨_, h, _⟩)
            · omega
            · exact absurd hbad (h k hlt')
        by_cases hA : E k ≤ m
        · go_wp2_with fail
          refine wp_region_lat (Below.refl _ _) (by kernel_rfl) (by kernel_rfl) ?_
          intro hne hcl
          repeat (go_big_quiet_step (first | (fail)))
          refine wpQuiet_nil ?_
          intro w1 hb1
          obtain ⟨hc1, hf1⟩ := bcell hb1
          clear hne hcl
          go_wp2_with fail
          go_ret
          exact ⟨_, rfl, endBad.out (.inl (by rw [hm]; exact hA)), below_later HZ.out (below_later HW.out.1 hb1)⟩
        · have hA' : decide (E k ≤ m) = false := by simp; omega
          by_cases hB : E k < 1
          · go_wp2_with fail
            refine wp_region_lat (Below.refl _ _) (by kernel_rfl) (by kernel_rfl) ?_
            intro hne hcl
            repeat (go_big_quiet_step (first | (fail)))
            refine wpQuiet_nil ?_
            intro w1 hb1
            obtain ⟨hc1, hf1⟩ := bcell hb1
            clear hne hcl
            go_wp2_with fail
            go_ret
            exact ⟨_, rfl, endBad.out (.inr (.inl hB)), below_later HZ.out (below_later HW.out.1 hb1)⟩
          · have hB' : decide (E k < 1) = false := by simp; omega
            cases k with
            | zero =>
              simp only [Nat.add_zero] at g0
              go_wp2_with fail
              refine wp_region_lat (Below.refl _ _) (by kernel_rfl) (by kernel_rfl) ?_
              intro hne hcl
              repeat (go_big_quiet_step (first | (fail)))
              refine wpQuiet_nil ?_
              intro w1 hb1
              obtain ⟨hc1, hf1⟩ := bcell hb1
              clear hne hcl
              go_wp2_with fail
              refine ⟨⟨1, by omega, by simp, ?_⟩, by simp [intOf]; omega⟩
              show _ ∧ _
              refine ⟨below_later HW.out.1 hb1, fun i hi => ?_⟩
              obtain rfl : i = 0 := by omega
              rintro (h | h | ⟨h, _⟩)
              · rw [hm] at h; omega
              · omega
              · omega
            | succ j =>
              have g1 := HG.out j (by omega)
              have hpos : decide ((0 : Int) < (j : Int) + 1) = true := by simp; try omega
              have hpos2 : (j : Int) < len := by omega
              by_cases hC : E (j + 1) ≤ E j
              · go_wp2_with fail
                refine wp_region_lat (Below.refl _ _) (by kernel_rfl) (by kernel_rfl) ?_
                intro hne hcl
                repeat (go_big_quiet_step (first | (fail)))
                refine wpQuiet_nil ?_
                intro w1 hb1
                obtain ⟨hc1, hf1⟩ := bcell hb1
                clear hne hcl
                go_wp2_with fail
                go_ret
                exact ⟨_, rfl, endBad.out (.inr (.inr ⟨by omega, hC⟩)), below_later HZ.out (below_later HW.out.1 hb1)⟩
              · have hC' : decide (E (j + 1) ≤ E j) = false := by simp; omega
                go_wp2_with fail
                refine wp_region_lat (Below.refl _ _) (by kernel_rfl) (by kernel_rfl) ?_
                intro hne hcl
                repeat (go_big_quiet_step (first | (fail)))
                refine wpQuiet_nil ?_
                intro w1 hb1
                obtain ⟨hc1, hf1⟩ := bcell hb1
                clear hne hcl
                go_wp2_with fail
                refine ⟨⟨j + 2, by omega, by simp; omega, ?_⟩, by simp [intOf]; omega⟩
                show _ ∧ _
                refine ⟨below_later HW.out.1 hb1, fun i hi => ?_⟩
                by_cases hij : i < j + 1
                · exact HW.out.2 i hij
                · obtain rfl : i = j + 1 := by omega
                  rintro (h | h | ⟨h, h'⟩)
                  · rw [hm] at h; omega
                  · omega
                  · rw [Nat.add_sub_cancel] at h'; omega
      · have hd : decide ((k : Int) < (len : Int)) = false := by simp; omega
        have e : k = len := by omega
        have HE := hid_in e
        have g0 := hg (len - 1) (by omega)
        have e1 : ((len : Int) - 1).toNat = len - 1 := by omega
        have e2 : (0 : Int) ≤ (len : Int) - 1 := by omega
        have e3 : off + (len - 1) = off + (len - 1) := rfl
        clear e hg
        by_cases hT1 : E (len - 1) = t
        · have hT2 : (E (len - 1) == t) = true := by simpa using hT1
          go_wp2_with fail
          refine wp_region_lat (Below.refl _ _) (by kernel_rfl) (by kernel_rfl) ?_
          intro hne hcl
          repeat (go_big_quiet_step (first | (fail)))
          refine wpQuiet_nil ?_
          intro w1 hb1
          obtain ⟨hc1, hf1⟩ := bcell hb1
          clear hne hcl
          go_wp2_with fail
          go_ret
          refine ⟨_, rfl, ?_, below_later HZ.out (below_later HW.out.1 hb1)⟩
          constructor
          · intro h; exact .inr ⟨by omega, fun i hi => HW.out.2 i (by rw [HE.out]; exact hi), hT1, by simpa using h⟩
          · rintro (⟨h, _⟩ | ⟨_, _, _, h⟩)
            · omega
            · simpa using h
        · have hT2 : (E (len - 1) == t) = false := by simpa using hT1
          go_wp2_with fail
          refine wp_region_lat (Below.refl _ _) (by kernel_rfl) (by kernel_rfl) ?_
          intro hne hcl
          repeat (go_big_quiet_step (first | (fail)))
          refine wpQuiet_nil ?_
          intro w1 hb1
          obtain ⟨hc1, hf1⟩ := bcell hb1
          clear hne hcl
          go_wp2_with fail
          go_ret
          refine ⟨_, rfl, ?_, below_later HZ.out (below_later HW.out.1 hb1)⟩
          constructor
          · intro h; cases h
          · rintro (⟨h, _⟩ | ⟨_, _, h, _⟩)
            · omega
            · exact absurd h hT1
end Go.Proofs.Ytihacddipkpmlaa
