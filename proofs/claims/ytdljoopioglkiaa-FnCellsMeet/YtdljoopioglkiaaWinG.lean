/- A window as a list, in the specification, as contracts: whether a number came, and a number put among others. The conditions stand at each theorem. -/
import Derived.Test.YtdljoopioglkiaaWinF
namespace Go.Proofs.Ytdljoopioglkiaa
open Go.RowKit Go.LatT Go.BlockM Go.OpnT Go.WinMath
set_option linter.unusedVariables false
set_option linter.unusedSimpArgs false
theorem asc_len : ∀ (L : List Int) (lo hi : Int), L.Pairwise (· < ·) → (∀ x, x ∈ L → lo < x ∧ x ≤ hi) → (L.length : Int) ≤ max 0 (hi - lo)
  | [], lo, hi, _, _ => by simp; omega
  | x :: r, lo, hi, h, hm => by
    have h1 := List.pairwise_cons.1 h
    have hx := hm x (by simp)
    have := asc_len r x hi h1.2 (fun y hy => ⟨h1.1 y hy, (hm y (by simp [hy])).2⟩)
    simp only [List.length_cons]
    omega
theorem repW_len {T : Int} {c : Nat} {L : List Int} (h : Rep T c L) : L.length ≤ 16 := by
  have := asc_len L (T - 16) T h.asc (fun x hx => by have := h.mem x hx; omega)
  omega
theorem mem_get {L : List Int} {n : Int} : n ∈ L ↔ ∃ i, i < L.length ∧ L.getD i 0 = n := by
  rw [List.mem_iff_getElem]
  constructor
  · rintro ⟨i, hi, rfl⟩; exact ⟨i, hi, by simp [hi]⟩
  · rintro ⟨i, hi, rfl⟩; exact ⟨i, hi, by simp [hi]⟩
theorem ins_split (n : Int) : ∀ (L : List Int) (k : Nat), k ≤ L.length → (∀ i, i < k → L.getD i 0 < n) → (k < L.length → n < L.getD k 0) → ins n L = L.take k ++ n :: L.drop k
  | [], k, hk, _, _ => by
    have : k = 0 := by simpa using hk
    subst this; rfl
  | x :: r, 0, _, _, h2 => by
    have hx : n < x := by simpa using h2 (by simp)
    unfold ins
    rw [if_neg (by omega), if_neg (by omega)]
    rfl
  | x :: r, k + 1, hk, h1, h2 => by
    have hx : x < n := by simpa using h1 0 (by omega)
    unfold ins
    rw [if_pos hx, ins_split n r k (by simpa using hk) (fun i hi => by simpa using h1 (i + 1) (by omega)) (fun h => by simpa using h2 (by simpa using h))]
    rfl
theorem heapSize1 (w : World) (o : Obj) : (w.alloc o).heap.size = w.heap.size + 1 := by simp
theorem news1 {w : World} {g : Nat} {u : Value} (h : w.cell? ⟨g, 0, none⟩ = some u) : ∀ j u', [u][j]? = some u' → w.cell? ((⟨g, 0, none⟩ : Addr).add j) = some u' := by
  intro j u' hu
  have hj : j = 0 := by have := (List.getElem?_eq_some_iff.1 hu).1; simpa using this
  subst hj
  simp at hu
  subst hu
  exact h
theorem one1 (n : Int) : ∀ u ∈ [Value.int .i64 n], u.oneCell' = true := by intro u hu; rw [List.mem_singleton.1 hu]; rfl
theorem take_cells {w wr : World} {bb off : Nat} {L : List Int} {k : Nat} (hb : Below w.heap.size w wr) (hlt : bb < w.heap.size) (hc : ∀ i, i < L.length → w.cell? ⟨bb, off + i, none⟩ = some (.int .i64 (L.getD i 0))) : ∀ j u, (i64s (L.take k))[j]? = some u → wr.cell? ((⟨bb, off, none⟩ : Addr).add j) = some u := by
  refine IL.news fun i hi => ?_
  have hi2 : i < L.length := by rw [List.length_take] at hi; omega
  have hik : i < k := by rw [List.length_take] at hi; omega
  rw [(bcell hb).1 _ _ hlt, hc i hi2]
  simp [hi2, hik, List.getElem?_take]
theorem drop_cells {w wr : World} {bb off : Nat} {L : List Int} {k : Nat} (hb : Below w.heap.size w wr) (hlt : bb < w.heap.size) (hc : ∀ i, i < L.length → w.cell? ⟨bb, off + i, none⟩ = some (.int .i64 (L.getD i 0))) : ∀ j u, (i64s (L.drop k))[j]? = some u → wr.cell? ((⟨bb, off + k, none⟩ : Addr).add j) = some u := by
  refine IL.news fun i hi => ?_
  have hi2 : k + i < L.length := by rw [List.length_drop] at hi; omega
  rw [(bcell hb).1 _ _ hlt, Nat.add_assoc, hc (k + i) hi2]
  simp [hi2]
set_option maxHeartbeats 4000000 in
set_option maxRecDepth 100000 in
theorem l3Num_any (n : Int) (bb off cap : Nat) (L : List Int) (w : World) (hcap : L.length ≤ cap) (hcm : cap ≤ maxLen) (hlt : bb < w.heap.size) (hc : ∀ i, i < L.length → w.cell? ⟨bb, off + i, none⟩ = some (.int .i64 (L.getD i 0))) (hl : L.length ≤ 100) (hn : n ∉ L) :
    Calls Try.prog 46 #[.slice (some ⟨bb, off, none⟩) L.length cap, .int .i64 n] w fun e w' => ∃ v', e = .returned v' ∧ w'.ownsRow w.heap.size 3 1 v' (L.length + 1) (i64s (ins n L)) ∧ Below w.heap.size w w' := by
  obtain ⟨i0, hi, hzz⟩ := Option.map_eq_some_iff.1 infoInt
  simp only [Prod.mk.injEq] at hzz
  have HI := hid_in hi; have HZ := hid_in hzz
  have HC := hid_in hc; have HN := hid_in hn
  clear hi hzz hc hn
  go_enter Try.func46, Try.ntmps46
  go_wp2_with fail
  go_loopw [5] (fun u wr => ∃ k : Nat, k ≤ L.length ∧ u = .int .i64 (k : Int) ∧ wr = w ∧ Hid (∀ i, i < k → L.getD i 0 < n)) (fun u _ => L.length - (intOf u).toNat)
  case atStart => exact ⟨0, Nat.zero_le _, rfl, rfl, by show ∀ i, _; exact fun i hi => by omega⟩
  case round =>
    obtain ⟨k, hk, rfl, rfl, HK⟩ := hrel
    by_cases hlt' : k < L.length
    · have hd : (k : Int) < (L.length : Int) := by omega
      have g0 := HC.out k hlt'
      have hne : L.getD k 0 ≠ n := fun e => HN.out (mem_get.2 ⟨k, hlt', e⟩)
      generalize hy : L.getD k 0 = y at g0 hne
      have HY := hid_in hy
      clear hy
      by_cases hs : y < n
      · go_wp2_with fail
        refine ⟨⟨k + 1, by omega, by simp, trivial, ?_⟩, by simp [intOf]; omega⟩
        show ∀ i, _
        intro i hi
        by_cases hik : i < k
        · exact HK.out i hik
        · rw [show i = k by omega, HY.out]; exact hs
      · have hs' : decide (y < n) = false := by simp; omega
        have hne' : (y == n) = false := by simpa using hne
        have hki : (k : Int) ≤ (L.length : Int) := by omega
        have hki2 : (k : Int) ≤ (cap : Int) := by omega
        have hki3 : (L.length : Int) ≤ (cap : Int) := by omega
        have SPLIT := hid_in (ins_split n L k hk HK.out (fun _ => by rw [HY.out]; omega))
        have hck : ¬ cap = k := by omega
        go_wp2_with fail
        go_region_held3 (fun w' => True) (go_keep) (first | (refine wp_append_own _ (.tmp 33) (.tmp 36) 63 rfl wr.heap.size 3 i0 (.int .i64 0) 1 8 Try.underlying63 HI.out HZ.out.1 HZ.out.2.1 HZ.out.2.2 rfl (by decide) _ 0 (i64s []) rfl (by first | exact World.ownsRow_lit _ #[] 0 (by simp) (Nat.zero_le _) rfl | exact (World.ownsRow_lit _ #[] 0 (by simp) (Nat.zero_le _) rfl).alloc _ | (have h := World.ownsRow_lit (base := wr.heap.size) (e := 3) (size := 1) (wr.alloc (Obj.cells #[.int .i64 n] 3)) #[] 0 (by simp) (Nat.zero_le _) rfl; rw [heapSize1] at h; exact h)) ⟨bb, off, none⟩ k cap (i64s (L.take k)) rfl (by rw [i64s_len, List.length_take]; omega) (take_cells (by go_grown) hlt HC.out) (one_i64s _) (by unfold maxLen; omega) (by omega) (by simp; try omega) ?_; intro v1 w4 hown4 hg4 hn4; have O4 := hid_in hown4; have B4 : Hid (Below wr.heap.size wr w4) := (by show Below _ _ _; exact Below.grown (by go_grown) hg4 (by simp; try omega) (fun g hg => (by first | (have hg2 : some wr.heap.size = some g := hg; have := Option.some.inj hg2; omega) | (have hg2 : some (wr.heap.size + 1) = some g := hg; have := Option.some.inj hg2; omega)))); have G4 := hid_in hg4; clear hown4 hg4 hn4) | (refine wp_append_own _ (.tmp 37) (.tmp 39) 63 rfl wr.heap.size 3 i0 (.int .i64 0) 1 8 Try.underlying63 HI.out HZ.out.1 HZ.out.2.1 HZ.out.2.2 rfl (by decide) _ (0 + k) (i64s [] ++ i64s (L.take k)) rfl (by first | exact O4.out | exact O4.out.alloc _) _ 1 1 [.int .i64 n] rfl rfl (by first | exact cells_new _ _ _ | exact news1 (G4.out.cell (by go_simp) (by intro h; have h2 : some (wr.heap.size + 1) = some wr.heap.size := h; have h3 := Option.some.inj h2; omega)) | exact news1 (G4.out.cell (by go_simp) (by intro h; have h2 : some wr.heap.size = some (wr.heap.size + 1) := h; have h3 := Option.some.inj h2; omega))) (one1 n) (by unfold maxLen; omega) (by omega) (by have := B4.out.size; simp; try omega) ?_; intro v2 w5 hown5 hg5 hn5; have O5 := hid_in hown5; have B5 : Hid (Below wr.heap.size wr w5) := (by show Below _ _ _; first | exact Below.grown B4.out hg5 B4.out.size (fun g hg => (owns_own O4.out g hg).1) | exact Below.grown (B4.out.alloc B4.out.size _) hg5 (by have := B4.out.size; simp; omega) (fun g hg => (owns_own O4.out g hg).1)); clear hown5 hg5 hn5) | (refine wp_append_own _ (.tmp 40) (.tmp 43) 63 rfl wr.heap.size 3 i0 (.int .i64 0) 1 8 Try.underlying63 HI.out HZ.out.1 HZ.out.2.1 HZ.out.2.2 rfl (by decide) _ (0 + k + 1) ((i64s [] ++ i64s (L.take k)) ++ [.int .i64 n]) rfl (by exact O5.out) ⟨bb, off + k, none⟩ (L.length - k) (cap - k) (i64s (L.drop k)) rfl (by rw [i64s_len, List.length_drop, Nat.mul_one]) (drop_cells B5.out hlt HC.out) (one_i64s _) (by unfold maxLen; omega) (by omega) B5.out.size ?_; intro v3 w6 hown6 hg6 hn6; have O6 := hid_in hown6; have B6 := hid_in (Below.grown B5.out hg6 B5.out.size (fun g hg => (owns_own O5.out g hg).1)); clear hown6 hg6 hn6))
        all_goals
          go_wp2_with fail
          go_ret
          refine ⟨_, rfl, ?_, B6.out⟩
          have := O6.out
          rw [SPLIT.out, i64s_append]
          have e1 : 0 + k + 1 + (L.length - k) = L.length + 1 := by omega
          rw [e1] at this
          simpa [i64s] using this
    · have hd : decide ((k : Int) < (L.length : Int)) = false := by simp; omega
      have e : k = L.length := by omega
      have SPLIT := hid_in (ins_split n L k hk HK.out (fun h => absurd h hlt'))
      have hki2 : (k : Int) ≤ (cap : Int) := by omega
      have hki3 : (L.length : Int) ≤ (cap : Int) := by omega
      have hki : (k : Int) ≤ (L.length : Int) := by omega
      clear e
      by_cases hck : cap = k
      · have hck2 : k = cap := hck.symm
        clear hck
        subst hck2
        go_wp2_with fail
        go_region_held3 (fun w' => True) (go_keep) (first | (refine wp_append_own _ (.tmp 33) (.tmp 36) 63 rfl wr.heap.size 3 i0 (.int .i64 0) 1 8 Try.underlying63 HI.out HZ.out.1 HZ.out.2.1 HZ.out.2.2 rfl (by decide) _ 0 (i64s []) rfl (by first | exact World.ownsRow_lit _ #[] 0 (by simp) (Nat.zero_le _) rfl | exact (World.ownsRow_lit _ #[] 0 (by simp) (Nat.zero_le _) rfl).alloc _ | (have h := World.ownsRow_lit (base := wr.heap.size) (e := 3) (size := 1) (wr.alloc (Obj.cells #[.int .i64 n] 3)) #[] 0 (by simp) (Nat.zero_le _) rfl; rw [heapSize1] at h; exact h)) ⟨bb, off, none⟩ k k (i64s (L.take k)) rfl (by rw [i64s_len, List.length_take]; omega) (take_cells (by go_grown) hlt HC.out) (one_i64s _) (by unfold maxLen; omega) (by omega) (by simp; try omega) ?_; intro v1 w4 hown4 hg4 hn4; have O4 := hid_in hown4; have B4 : Hid (Below wr.heap.size wr w4) := (by show Below _ _ _; exact Below.grown (by go_grown) hg4 (by simp; try omega) (fun g hg => (by first | (have hg2 : some wr.heap.size = some g := hg; have := Option.some.inj hg2; omega) | (have hg2 : some (wr.heap.size + 1) = some g := hg; have := Option.some.inj hg2; omega)))); have G4 := hid_in hg4; clear hown4 hg4 hn4) | (refine wp_append_own _ (.tmp 37) (.tmp 39) 63 rfl wr.heap.size 3 i0 (.int .i64 0) 1 8 Try.underlying63 HI.out HZ.out.1 HZ.out.2.1 HZ.out.2.2 rfl (by decide) _ (0 + k) (i64s [] ++ i64s (L.take k)) rfl (by first | exact O4.out | exact O4.out.alloc _) _ 1 1 [.int .i64 n] rfl rfl (by first | exact cells_new _ _ _ | exact news1 (G4.out.cell (by go_simp) (by intro h; have h2 : some (wr.heap.size + 1) = some wr.heap.size := h; have h3 := Option.some.inj h2; omega)) | exact news1 (G4.out.cell (by go_simp) (by intro h; have h2 : some wr.heap.size = some (wr.heap.size + 1) := h; have h3 := Option.some.inj h2; omega))) (one1 n) (by unfold maxLen; omega) (by omega) (by have := B4.out.size; simp; try omega) ?_; intro v2 w5 hown5 hg5 hn5; have O5 := hid_in hown5; have B5 : Hid (Below wr.heap.size wr w5) := (by show Below _ _ _; first | exact Below.grown B4.out hg5 B4.out.size (fun g hg => (owns_own O4.out g hg).1) | exact Below.grown (B4.out.alloc B4.out.size _) hg5 (by have := B4.out.size; simp; omega) (fun g hg => (owns_own O4.out g hg).1)); clear hown5 hg5 hn5) | (refine wp_append_own _ (.tmp 40) (.tmp 43) 63 rfl wr.heap.size 3 i0 (.int .i64 0) 1 8 Try.underlying63 HI.out HZ.out.1 HZ.out.2.1 HZ.out.2.2 rfl (by decide) _ (0 + k + 1) ((i64s [] ++ i64s (L.take k)) ++ [.int .i64 n]) rfl (by exact O5.out) ⟨bb, off, none⟩ 0 0 (i64s []) rfl rfl (fun j u hu => by simp [i64s] at hu) (one_i64s _) (by unfold maxLen; omega) (by omega) B5.out.size ?_; intro v3 w6 hown6 hg6 hn6; have O6 := hid_in hown6; have B6 := hid_in (Below.grown B5.out hg6 B5.out.size (fun g hg => (owns_own O5.out g hg).1)); clear hown6 hg6 hn6))
        all_goals
          go_wp2_with fail
          go_ret
          refine ⟨_, rfl, ?_, B6.out⟩
          have := O6.out
          rw [SPLIT.out, i64s_append]
          have e1 : 0 + k + 1 + 0 = L.length + 1 := by omega
          rw [List.drop_of_length_le (by omega)]
          rw [e1] at this
          simpa [i64s] using this
      · go_wp2_with fail
        go_region_held3 (fun w' => True) (go_keep) (first | (refine wp_append_own _ (.tmp 33) (.tmp 36) 63 rfl wr.heap.size 3 i0 (.int .i64 0) 1 8 Try.underlying63 HI.out HZ.out.1 HZ.out.2.1 HZ.out.2.2 rfl (by decide) _ 0 (i64s []) rfl (by first | exact World.ownsRow_lit _ #[] 0 (by simp) (Nat.zero_le _) rfl | exact (World.ownsRow_lit _ #[] 0 (by simp) (Nat.zero_le _) rfl).alloc _ | (have h := World.ownsRow_lit (base := wr.heap.size) (e := 3) (size := 1) (wr.alloc (Obj.cells #[.int .i64 n] 3)) #[] 0 (by simp) (Nat.zero_le _) rfl; rw [heapSize1] at h; exact h)) ⟨bb, off, none⟩ k cap (i64s (L.take k)) rfl (by rw [i64s_len, List.length_take]; omega) (take_cells (by go_grown) hlt HC.out) (one_i64s _) (by unfold maxLen; omega) (by omega) (by simp; try omega) ?_; intro v1 w4 hown4 hg4 hn4; have O4 := hid_in hown4; have B4 : Hid (Below wr.heap.size wr w4) := (by show Below _ _ _; exact Below.grown (by go_grown) hg4 (by simp; try omega) (fun g hg => (by first | (have hg2 : some wr.heap.size = some g := hg; have := Option.some.inj hg2; omega) | (have hg2 : some (wr.heap.size + 1) = some g := hg; have := Option.some.inj hg2; omega)))); have G4 := hid_in hg4; clear hown4 hg4 hn4) | (refine wp_append_own _ (.tmp 37) (.tmp 39) 63 rfl wr.heap.size 3 i0 (.int .i64 0) 1 8 Try.underlying63 HI.out HZ.out.1 HZ.out.2.1 HZ.out.2.2 rfl (by decide) _ (0 + k) (i64s [] ++ i64s (L.take k)) rfl (by first | exact O4.out | exact O4.out.alloc _) _ 1 1 [.int .i64 n] rfl rfl (by first | exact cells_new _ _ _ | exact news1 (G4.out.cell (by go_simp) (by intro h; have h2 : some (wr.heap.size + 1) = some wr.heap.size := h; have h3 := Option.some.inj h2; omega)) | exact news1 (G4.out.cell (by go_simp) (by intro h; have h2 : some wr.heap.size = some (wr.heap.size + 1) := h; have h3 := Option.some.inj h2; omega))) (one1 n) (by unfold maxLen; omega) (by omega) (by have := B4.out.size; simp; try omega) ?_; intro v2 w5 hown5 hg5 hn5; have O5 := hid_in hown5; have B5 : Hid (Below wr.heap.size wr w5) := (by show Below _ _ _; first | exact Below.grown B4.out hg5 B4.out.size (fun g hg => (owns_own O4.out g hg).1) | exact Below.grown (B4.out.alloc B4.out.size _) hg5 (by have := B4.out.size; simp; omega) (fun g hg => (owns_own O4.out g hg).1)); clear hown5 hg5 hn5) | (refine wp_append_own _ (.tmp 40) (.tmp 43) 63 rfl wr.heap.size 3 i0 (.int .i64 0) 1 8 Try.underlying63 HI.out HZ.out.1 HZ.out.2.1 HZ.out.2.2 rfl (by decide) _ (0 + k + 1) ((i64s [] ++ i64s (L.take k)) ++ [.int .i64 n]) rfl (by exact O5.out) ⟨bb, off + k, none⟩ (L.length - k) (cap - k) (i64s (L.drop k)) rfl (by rw [i64s_len, List.length_drop, Nat.mul_one]) (drop_cells B5.out hlt HC.out) (one_i64s _) (by unfold maxLen; omega) (by omega) B5.out.size ?_; intro v3 w6 hown6 hg6 hn6; have O6 := hid_in hown6; have B6 := hid_in (Below.grown B5.out hg6 B5.out.size (fun g hg => (owns_own O5.out g hg).1)); clear hown6 hg6 hn6))
        all_goals
          go_wp2_with fail
          go_ret
          refine ⟨_, rfl, ?_, B6.out⟩
          have := O6.out
          rw [SPLIT.out, i64s_append]
          have e1 : 0 + k + 1 + (L.length - k) = L.length + 1 := by omega
          rw [e1] at this
          simpa [i64s] using this
end Go.Proofs.Ytdljoopioglkiaa
