/- A block turned back by keys, in the program, as a contract. The conditions stand at each theorem. -/
import Derived.Test.YtdbobeojbdcmdaaAesH
namespace Go.Proofs.Ytdbobeojbdcmdaa
open Go.RowKit Go.LatT Go.BlockM Go.PlainAid Go.OpnT Go.ApdG Go.BytM Go.AesM Go.RowQ
set_option linter.unusedVariables false
set_option linter.unusedSimpArgs false
/-- A round of turning back. -/
def fad : Nat → Nat := fun i => if i = 0 then 14 else if i = 1 then 11 else if i = 2 then 13 else 9
def dst (K : Nat → Nat → Nat) (r : Nat) (s : Nat → Nat) : Nat → Nat := fun i => back (shf 3 (if r < 10 then mix (fun j => s j ^^^ K r j) fad else fun j => s j ^^^ K r j) i)
/-- The block behind so many rounds back. -/
def dec (K : Nat → Nat → Nat) (f : Nat → Nat) : Nat → Nat → Nat
  | 0 => f
  | n + 1 => dst K (10 - n) (dec K f n)
theorem back_lt (j : Nat) (h : j < 256) : back j < 256 := (sub_by ⟨j, h⟩).2.1
theorem dst_by {K : Nat → Nat → Nat} {r : Nat} {s : Nat → Nat} (hK : By 16 (K r)) (hs : By 16 s) : By 16 (dst K r s) := by
  intro i hi
  unfold dst
  refine back_lt _ (shf_by ?_ i hi)
  split
  · exact mix_by (xor_by hs hK)
  · exact xor_by hs hK
theorem dec_by {K : Nat → Nat → Nat} {f : Nat → Nat} (hK : ∀ i, i < 11 → By 16 (K i)) (hf : By 16 f) : ∀ n, By 16 (dec K f n)
  | 0 => hf
  | n + 1 => dst_by (hK _ (by omega)) (dec_by hK hf n)
theorem rowBk {w W : World} {gt gk n cap : Nat} {K : Nat → Nat → Nat} {s : Nat → Nat} (p : PS w W gt gk n cap K s) (w' : World) (hw' : ∃ n : Lat W, w' = n.x) : ∀ j, j < 256 → w'.cell? ((⟨gt, 256, none⟩ : Addr).add j) = (rC 256 back)[j]? := by
  obtain ⟨l, rfl⟩ := hw'
  intro j hj
  have h := (RBlater p.tab l.h).cell (256 + j) (by omega)
  rw [rC_get 256 back j hj, ← tab_back j hj, ← h]
  unfold Addr.add
  by_cases e : j = 0
  · rw [if_pos e, e]
  · rw [if_neg e]
set_option maxHeartbeats 4000000 in
set_option maxRecDepth 100000 in
theorem get_any (gt gk cap : Nat) (K : Nat → Nat → Nat) (f : Nat → Nat) (w : World) (hT : RB w gt 512 69 (tabF 255)) (hK : KR w gk 11 K) (hf : By 16 f) (hKb : ∀ i, i < 11 → By 16 (K i)) :
    Calls Try.prog 39 #[.agg #[.pointer (some ⟨gt, 0, none⟩), .slice (some ⟨gk, 0, none⟩) 11 cap], .agg (rC 16 f)] w fun e w' => e = .returned (.agg (rC 16 fun i => dec K f 10 i ^^^ K 0 i)) ∧ Below w.heap.size w w' := by
  have N0 := hid_in (PS.new w gt gk 11 cap K f hT hK)
  rw [← zeroG] at N0
  clear hT hK
  go_enter Try.func39, Try.ntmps39
  go_wp2_with fail
  generalize (((w.alloc (.cells #[.pointer (some ⟨gt, 0, none⟩), .slice (some ⟨gk, 0, none⟩) 11 cap] 45)).alloc (.cells (rC 16 f) 41)).alloc (.cells _ 41)) = W0 at *
  go_loopw [5] (fun v wr => ∃ n : Nat, n ≤ 10 ∧ v = .int .i64 (10 - (n : Int)) ∧ Hid (PS w wr gt gk 11 cap K (dec K f n))) (fun v _ => (intOf v).toNat)
  case atStart => exact ⟨0, by omega, rfl, N0⟩
  case round =>
    obtain ⟨n, hn, rfl, HW⟩ := hrel
    have hs := dec_by hKb hf n
    by_cases hlt : n < 10
    · obtain ⟨q, hq⟩ : ∃ q, 10 - n = q := ⟨_, rfl⟩
      have hq10 : q ≤ 10 := by omega
      have QE := hid_in (show dec K f (n + 1) = dst K q (dec K f n) by rw [← hq]; rfl)
      have HQ := hid_in (show n + q = 10 ∧ 1 ≤ q by omega)
      have eq0 : (10 : Int) - (n : Int) = (q : Int) := by omega
      rw [eq0]
      clear hq eq0
      generalize dec K f n = s at *
      have KQ := hKb q (by omega)
      have S1 := xor_by hs KQ
      have q1 : (1 : Int) ≤ (q : Int) := by have := HQ.out; omega
      have q11 : (q : Int) < 11 := by omega
      go_wp2_with fail
      have c0 := HW.out.c0
      have c1 := HW.out.c1
      have l1 := HW.out.blk.lt
      have l0 : w.heap.size < wr.heap.size := by omega
      refine wp_region_lat_tail (Below.refl _ _) (by kernel_rfl) (by dsimp only [List.dropLast]) (by exact rfl) (by kernel_rfl) ?_
      intro hne hcl
      repeat (first | (refine quiet_load_at aggG rfl (.tmp 3) rfl ⟨w.heap.size + 1, 0, none⟩ rfl (rC 16 s) (rC_size _ _) (rowB HW.out) ?_; go_simp) | (refine quiet_load_at aggG rfl (.tmp 14) rfl ⟨gk, q * 16, none⟩ rfl (rC 16 (K q)) (rC_size _ _) (rowK HW.out q (by omega)) ?_; go_simp) | go_big_quiet_step (first | (go_at_call 47; exact lat_of (with_any s (K q) _ hs KQ))))
      refine wpQuiet_nil ?_
      intro wz hbz
      clear hne hcl
      have NZ := hid_in (HW.out.later hbz)
      clear hbz c0 c1 l1 l0 HW
      have N4 := hid_in (NZ.out.put (fun i => s i ^^^ K q i))
      by_cases hq9 : q < 10
      · have q9 : (q : Int) < 10 := by omega
        have zf : (#[.int .u8 14, .int .u8 11, .int .u8 13, .int .u8 9] : Array Value) = rC 4 fad := by rfl
        go_wp2_with (first | (refine wpList_store_row rfl 41 _ _ rfl (w.heap.size + 1) _ rfl rfl 41 _ NZ.out.blk sizeG rfl (rC_one _ _) ?_) | (refine wpList_load_row rfl 41 _ rfl (w.heap.size + 1) rfl 41 _ (0, 0) _ N4.out.blk Try.underlying41 rfl sizeG ?_))
        refine (mixed_any (fun i => s i ^^^ K q i) fad _ S1 (by intro i hi; unfold fad; split <;> (try split) <;> (try split) <;> omega)).mono ?_
        rintro e w5 ⟨rfl, hb5⟩
        have N5 := hid_in (N4.out.later hb5)
        clear hb5 N4 NZ
        have N6 := hid_in (N5.out.put (mix (fun i => s i ^^^ K q i) fad))
        have S3 := mix_by (g := fad) S1
        go_wp2_with (first | (refine wpList_store_row rfl 41 _ _ rfl (w.heap.size + 1) _ rfl rfl 41 _ N5.out.blk sizeG rfl (rC_one _ _) ?_))
        generalize (w5.setRow (w.heap.size + 1) (rC 16 (mix (fun i => s i ^^^ K q i) fad))) = W5 at *
        clear N5
        have c0 := N6.out.c0
        have c1 := N6.out.c1
        have l1 := N6.out.blk.lt
        have l0 : w.heap.size < W5.heap.size := by omega
        refine wp_region_lat_tail (Below.refl _ _) (by kernel_rfl) (by dsimp only [List.dropLast]) (by exact rfl) (by kernel_rfl) ?_
        intro hne hcl
        repeat (first | (refine quiet_load_at aggG rfl (.tmp 3) rfl ⟨w.heap.size + 1, 0, none⟩ rfl (rC 16 (mix (fun i => s i ^^^ K q i) fad)) (rC_size _ _) (rowB N6.out) ?_; go_simp) | (refine quiet_load_at aggT rfl (.tmp 27) rfl ⟨gt, 256, none⟩ rfl (rC 256 back) (rC_size _ _) (rowBk N6.out) ?_; go_simp) | go_big_quiet_step (first | (go_at_call 64; exact lat_of (shifted_any (mix (fun i => s i ^^^ K q i) fad) 3 _ (by omega))) | (go_at_call 63; exact lat_of (looked_any (shf 3 (mix (fun i => s i ^^^ K q i) fad)) back _ (shf_by S3)))))
        refine wpQuiet_nil ?_
        intro wz hbz
        clear hne hcl
        have NZ := hid_in (N6.out.later hbz)
        clear hbz c0 c1 l1 l0 N6
        go_wp2_with (first | (refine wpList_store_row rfl 41 _ _ rfl (w.heap.size + 1) _ rfl rfl 41 _ NZ.out.blk sizeG rfl (rC_one _ _) ?_))
        refine ⟨⟨n + 1, by have := HQ.out; omega, by have := HQ.out; simp; omega, ?_⟩, by have := HQ.out; simp [intOf]; omega⟩
        have h := NZ.out.put (fun i => back (shf 3 (mix (fun i => s i ^^^ K q i) fad) i))
        have e : (fun i => back (shf 3 (mix (fun i => s i ^^^ K q i) fad) i)) = dec K f (n + 1) := by
          rw [QE.out]; funext i; unfold dst; rw [if_pos hq9]
        show PS _ _ _ _ _ _ _ _
        rw [e] at h ⊢
        exact h
      · have q9 : ¬ (q : Int) < 10 := by omega
        go_wp2_with (first | (refine wpList_store_row rfl 41 _ _ rfl (w.heap.size + 1) _ rfl rfl 41 _ NZ.out.blk sizeG rfl (rC_one _ _) ?_))
        generalize (wz.setRow (w.heap.size + 1) (rC 16 fun i => s i ^^^ K q i)) = W5 at *
        clear NZ
        have c0 := N4.out.c0
        have c1 := N4.out.c1
        have l1 := N4.out.blk.lt
        have l0 : w.heap.size < W5.heap.size := by omega
        refine wp_region_lat_tail (Below.refl _ _) (by kernel_rfl) (by dsimp only [List.dropLast]) (by exact rfl) (by kernel_rfl) ?_
        intro hne hcl
        repeat (first | (refine quiet_load_at aggG rfl (.tmp 3) rfl ⟨w.heap.size + 1, 0, none⟩ rfl (rC 16 (fun i => s i ^^^ K q i)) (rC_size _ _) (rowB N4.out) ?_; go_simp) | (refine quiet_load_at aggT rfl (.tmp 27) rfl ⟨gt, 256, none⟩ rfl (rC 256 back) (rC_size _ _) (rowBk N4.out) ?_; go_simp) | go_big_quiet_step (first | (go_at_call 64; exact lat_of (shifted_any (fun i => s i ^^^ K q i) 3 _ (by omega))) | (go_at_call 63; exact lat_of (looked_any (shf 3 (fun i => s i ^^^ K q i)) back _ (shf_by S1)))))
        refine wpQuiet_nil ?_
        intro wz hbz
        clear hne hcl
        have NZ := hid_in (N4.out.later hbz)
        clear hbz c0 c1 l1 l0 N4
        go_wp2_with (first | (refine wpList_store_row rfl 41 _ _ rfl (w.heap.size + 1) _ rfl rfl 41 _ NZ.out.blk sizeG rfl (rC_one _ _) ?_))
        refine ⟨⟨n + 1, by have := HQ.out; omega, by have := HQ.out; simp; omega, ?_⟩, by have := HQ.out; simp [intOf]; omega⟩
        have h := NZ.out.put (fun i => back (shf 3 (fun i => s i ^^^ K q i) i))
        have e : (fun i => back (shf 3 (fun i => s i ^^^ K q i) i)) = dec K f (n + 1) := by
          rw [QE.out]; funext i; unfold dst; rw [if_neg hq9]
        show PS _ _ _ _ _ _ _ _
        rw [e] at h ⊢
        exact h
    · obtain rfl : n = 10 := by omega
      have q1 : ¬ (1 : Int) ≤ (10 : Int) - ((10 : Nat) : Int) := by omega
      obtain ⟨s, hse⟩ : ∃ s, dec K f 10 = s := ⟨_, rfl⟩
      have SE := hid_in hse
      rw [hse] at hs HW
      clear hse
      go_wp2_with fail
      have c0 := HW.out.c0
      have c1 := HW.out.c1
      have l1 := HW.out.blk.lt
      have l0 : w.heap.size < wr.heap.size := by omega
      refine wp_region_lat_tail (Below.refl _ _) (by kernel_rfl) (by dsimp only [List.dropLast]) (by exact rfl) (by kernel_rfl) ?_
      intro hne hcl
      repeat (first | (refine quiet_load_at aggG rfl (.tmp 3) rfl ⟨w.heap.size + 1, 0, none⟩ rfl (rC 16 s) (rC_size _ _) (rowB HW.out) ?_; go_simp) | (refine quiet_load_at aggG rfl (.tmp 33) rfl ⟨gk, 0 * 16, none⟩ rfl (rC 16 (K 0)) (rC_size _ _) (rowK HW.out 0 (by omega)) ?_; go_simp) | go_big_quiet_step (first | (go_at_call 47; exact lat_of (with_any s (K 0) _ hs (hKb 0 (by omega))))))
      refine wpQuiet_nil ?_
      intro wz hbz
      clear hne hcl
      have NZ := hid_in (HW.out.later hbz)
      clear hbz c0 c1 l1 l0 HW
      go_wp2_with (first | (refine wpList_store_row rfl 41 _ _ rfl (w.heap.size + 1 + 1) _ rfl rfl 41 _ NZ.out.res sizeG rfl (rC_one _ _) ?_))
      exact bodyPost_ret (v := .agg (rC 16 fun i => s i ^^^ K 0 i)) (results_cell_row Try.results39 _ _ (w.heap.size + 1 + 1) 41 _ (0, 0) _ rfl (setRow_at NZ.out.res) Try.underlying41 rfl sizeG) rfl ⟨by rw [SE.out], Below_setRow NZ.out.bel (by omega)⟩
end Go.Proofs.Ytdbobeojbdcmdaa
