/- A block turned by keys, in the program, as a contract. The conditions stand at each theorem. -/
import Derived.Test.YtdbobeojbdcmdaaAesG
import Derived.Test.YtdbobeojbdcmdaaRowQ
namespace Go.Proofs.Ytdbobeojbdcmdaa
open Go.RowKit Go.LatT Go.BlockM Go.PlainAid Go.OpnT Go.ApdG Go.BytM Go.AesM Go.RowQ
set_option linter.unusedVariables false
set_option linter.unusedSimpArgs false
theorem aggG : AggT Try.prog 41 16 := ⟨fun w => by kernel_rfl, fun w => by kernel_rfl⟩
theorem aggT : AggT Try.prog 67 256 := ⟨fun w => by kernel_rfl, fun w => by kernel_rfl⟩
/-- Keys of n rounds lie in a row. -/
structure KR (W : World) (gk n : Nat) (K : Nat → Nat → Nat) : Prop where
  lt : gk < W.heap.size
  cell : ∀ i, i < n → ∀ j, j < 16 → W.cell? ⟨gk, i * 16 + j, none⟩ = some (.int .u8 ((K i j : Nat) : Int))
theorem KR.later {W W' : World} {gk n : Nat} {K : Nat → Nat → Nat} (h : KR W gk n K) (hb : Below W.heap.size W W') : KR W' gk n K :=
  ⟨Nat.lt_of_lt_of_le h.lt hb.size, fun i hi j hj => ((bcell hb).1 _ _ h.lt).trans (h.cell i hi j hj)⟩
theorem KR.row {W : World} {gk n : Nat} {K : Nat → Nat → Nat} (h : KR W gk n K) (i : Nat) (hi : i < n) : ∀ j, j < 16 → W.cell? ((⟨gk, i * 16, none⟩ : Addr).add j) = (rC 16 (K i))[j]? := by
  intro j hj
  rw [rC_get 16 (K i) j hj, ← h.cell i hi j hj]
  unfold Addr.add
  by_cases e : j = 0
  · rw [if_pos e, e, Nat.add_zero]
  · rw [if_neg e]
theorem RB.row {W : World} {g n : Nat} {t : TypeId} {f : Nat → Nat} (h : RB W g n t f) : ∀ j, j < n → W.cell? ((⟨g, 0, none⟩ : Addr).add j) = (rC n f)[j]? := by
  intro j hj
  rw [rC_get n f j hj, ← h.cell j hj]
  unfold Addr.add
  by_cases e : j = 0
  · rw [if_pos e, e]
  · rw [if_neg e, Nat.zero_add]
/-- What lies where while a block is turned. -/
structure PS (w W : World) (gt gk n cap : Nat) (K : Nat → Nat → Nat) (s : Nat → Nat) : Prop where
  c0 : W.cell? ⟨w.heap.size, 0, none⟩ = some (.pointer (some ⟨gt, 0, none⟩))
  c1 : W.cell? ⟨w.heap.size, 1, none⟩ = some (.slice (some ⟨gk, 0, none⟩) n cap)
  tab : RB W gt 512 69 (tabF 255)
  keys : KR W gk n K
  blk : RB W (w.heap.size + 1) 16 41 s
  res : RB W (w.heap.size + 1 + 1) 16 41 (fun _ => 0)
  o1 : gt < w.heap.size
  o2 : gk < w.heap.size
  bel : Below w.heap.size w W
section
variable {w W W' : World} {gt gk n cap : Nat} {K : Nat → Nat → Nat} {s h : Nat → Nat}
theorem PS.later (p : PS w W gt gk n cap K s) (hb : Below W.heap.size W W') : PS w W' gt gk n cap K s :=
  have l := p.blk.lt
  ⟨((bcell hb).1 _ _ (by omega)).trans p.c0, ((bcell hb).1 _ _ (by omega)).trans p.c1, RBlater p.tab hb, p.keys.later hb, RBlater p.blk hb, RBlater p.res hb, p.o1, p.o2, below_later p.bel hb⟩
theorem PS.put (p : PS w W gt gk n cap K s) (h : Nat → Nat) : PS w (W.setRow (w.heap.size + 1) (rC 16 h)) gt gk n cap K h := by
  have ce : ∀ b o, b ≠ w.heap.size + 1 → (W.setRow (w.heap.size + 1) (rC 16 h)).cell? ⟨b, o, none⟩ = W.cell? ⟨b, o, none⟩ := by
    intro b o hb
    unfold World.cell?
    rw [setRow_other hb]
  have o1 := p.o1
  have o2 := p.o2
  refine ⟨(ce _ _ (by omega)).trans p.c0, (ce _ _ (by omega)).trans p.c1, ?_, ⟨?_, fun i hi j hj => (ce _ _ (by omega)).trans (p.keys.cell i hi j hj)⟩, setRow_at p.blk, ?_, o1, o2, Below_setRow p.bel (by omega)⟩
  · unfold RB; rw [setRow_other (by omega)]; exact p.tab
  · simpa [World.setRow] using p.keys.lt
  · unfold RB; rw [setRow_other (by omega)]; exact p.res
end
theorem PS.new (w : World) (gt gk n cap : Nat) (K : Nat → Nat → Nat) (f : Nat → Nat) (hT : RB w gt 512 69 (tabF 255)) (hK : KR w gk n K) :
    PS w (((w.alloc (.cells #[.pointer (some ⟨gt, 0, none⟩), .slice (some ⟨gk, 0, none⟩) n cap] 45)).alloc (.cells (rC 16 f) 41)).alloc (.cells (rC 16 fun _ => 0) 41)) gt gk n cap K f := by
  refine ⟨by go_simp, by go_simp, ?_, ?_, ?_, ?_, hT.lt, hK.lt, by go_grown⟩
  · exact RBlater (RBlater (RBlater hT (below_box _ _)) (below_box _ _)) (below_box _ _)
  · exact ((hK.later (below_box _ _)).later (below_box _ _)).later (below_box _ _)
  · have := RB.new (w.alloc (.cells #[.pointer (some ⟨gt, 0, none⟩), .slice (some ⟨gk, 0, none⟩) n cap] 45)) 16 41 f
    have e : (w.alloc (.cells #[.pointer (some ⟨gt, 0, none⟩), .slice (some ⟨gk, 0, none⟩) n cap] 45)).heap.size = w.heap.size + 1 := by simp
    rw [e] at this
    exact RBlater this (below_box _ _)
  · have := RB.new ((w.alloc (.cells #[.pointer (some ⟨gt, 0, none⟩), .slice (some ⟨gk, 0, none⟩) n cap] 45)).alloc (.cells (rC 16 f) 41)) 16 41 (fun _ => 0)
    have e : ((w.alloc (.cells #[.pointer (some ⟨gt, 0, none⟩), .slice (some ⟨gk, 0, none⟩) n cap] 45)).alloc (.cells (rC 16 f) 41)).heap.size = w.heap.size + 1 + 1 := by simp
    rw [e] at this
    exact this
/-- A round of turning. -/
def fac : Nat → Nat := fun i => if i = 0 then 2 else if i = 1 then 3 else 1
def stp (K : Nat → Nat → Nat) (r : Nat) (s : Nat → Nat) : Nat → Nat := fun i => (if r < 10 then mix (shf 1 fun j => there (s j)) fac i else shf 1 (fun j => there (s j)) i) ^^^ K r i
/-- The block behind so many rounds. -/
def enc (K : Nat → Nat → Nat) (f : Nat → Nat) : Nat → Nat → Nat
  | 0 => fun i => f i ^^^ K 0 i
  | r + 1 => stp K (r + 1) (enc K f r)
theorem shf_by {c : Nat} {f : Nat → Nat} (hf : By 16 f) : By 16 (shf c f) := fun i hi => hf _ (Nat.mod_lt _ (by omega))
theorem there_by {f : Nat → Nat} (hf : By 16 f) : By 16 (fun i => there (f i)) := fun i hi => there_lt _ (hf i hi)
theorem xor_by {f g : Nat → Nat} (hf : By 16 f) (hg : By 16 g) : By 16 (fun i => f i ^^^ g i) := fun i hi => xor_lt (hf i hi) (hg i hi)
theorem mix_by {f g : Nat → Nat} (hf : By 16 f) : By 16 (mix f g) := fun i hi => mixK_lt hf i hi 4 (by omega)
theorem stp_by {K : Nat → Nat → Nat} {r : Nat} {s : Nat → Nat} (hK : By 16 (K r)) (hs : By 16 s) : By 16 (stp K r s) := by
  intro i hi
  unfold stp
  refine xor_lt ?_ (hK i hi)
  split
  · exact mix_by (shf_by (there_by hs)) i hi
  · exact shf_by (there_by hs) i hi
theorem enc_by {K : Nat → Nat → Nat} {f : Nat → Nat} (hK : ∀ i, i < 11 → By 16 (K i)) (hf : By 16 f) : ∀ r, r < 11 → By 16 (enc K f r)
  | 0, h => xor_by hf (hK 0 h)
  | r + 1, h => stp_by (hK _ h) (enc_by hK hf r (by omega))
/-- What is read of a block in a world that is as it was. -/
theorem rowB {w W : World} {gt gk n cap : Nat} {K : Nat → Nat → Nat} {s : Nat → Nat} (p : PS w W gt gk n cap K s) (w' : World) (hw' : ∃ n : Lat W, w' = n.x) : ∀ j, j < 16 → w'.cell? ((⟨w.heap.size + 1, 0, none⟩ : Addr).add j) = (rC 16 s)[j]? := by
  obtain ⟨l, rfl⟩ := hw'; exact RB.row (RBlater p.blk l.h)
theorem rowK {w W : World} {gt gk n cap : Nat} {K : Nat → Nat → Nat} {s : Nat → Nat} (p : PS w W gt gk n cap K s) (i : Nat) (hi : i < n) (w' : World) (hw' : ∃ n : Lat W, w' = n.x) : ∀ j, j < 16 → w'.cell? ((⟨gk, i * 16, none⟩ : Addr).add j) = (rC 16 (K i))[j]? := by
  obtain ⟨l, rfl⟩ := hw'; exact (p.keys.later l.h).row i hi
theorem rowT {w W : World} {gt gk n cap : Nat} {K : Nat → Nat → Nat} {s : Nat → Nat} (p : PS w W gt gk n cap K s) (w' : World) (hw' : ∃ n : Lat W, w' = n.x) : ∀ j, j < 256 → w'.cell? ((⟨gt, 0, none⟩ : Addr).add j) = (rC 256 there)[j]? := by
  obtain ⟨l, rfl⟩ := hw'
  intro j hj
  have h := (RBlater p.tab l.h).cell j (by omega)
  rw [rC_get 256 there j hj, ← tab_there j hj, ← h]
  unfold Addr.add
  by_cases e : j = 0
  · rw [if_pos e, e]
  · rw [if_neg e, Nat.zero_add]
set_option maxHeartbeats 4000000 in
set_option maxRecDepth 100000 in
theorem put_any (gt gk cap : Nat) (K : Nat → Nat → Nat) (f : Nat → Nat) (w : World) (hT : RB w gt 512 69 (tabF 255)) (hK : KR w gk 11 K) (hf : By 16 f) (hKb : ∀ i, i < 11 → By 16 (K i)) :
    Calls Try.prog 35 #[.agg #[.pointer (some ⟨gt, 0, none⟩), .slice (some ⟨gk, 0, none⟩) 11 cap], .agg (rC 16 f)] w fun e w' => e = .returned (.agg (rC 16 (enc K f 10))) ∧ Below w.heap.size w w' := by
  have N0 := hid_in (PS.new w gt gk 11 cap K f hT hK)
  rw [← zeroG] at N0
  clear hT hK
  go_enter Try.func35, Try.ntmps35
  go_wp2_with fail
  generalize (((w.alloc (.cells #[.pointer (some ⟨gt, 0, none⟩), .slice (some ⟨gk, 0, none⟩) 11 cap] 45)).alloc (.cells (rC 16 f) 41)).alloc (.cells _ 41)) = W0 at *
  have c0 := N0.out.c0
  have c1 := N0.out.c1
  have l1 := N0.out.blk.lt
  have l0 : w.heap.size < W0.heap.size := by omega
  refine wp_region_lat_tail (Below.refl _ _) (by kernel_rfl) (by dsimp only [List.dropLast]) (by exact rfl) (by kernel_rfl) ?_
  intro hne hcl
  repeat (first | (refine quiet_load_at aggG rfl (.tmp 3) rfl ⟨w.heap.size + 1, 0, none⟩ rfl (rC 16 f) (rC_size _ _) (rowB N0.out) ?_; go_simp) | (refine quiet_load_at aggG rfl (.tmp 9) rfl ⟨gk, 0 * 16, none⟩ rfl (rC 16 (K 0)) (rC_size _ _) (rowK N0.out 0 (by omega)) ?_; go_simp) | go_big_quiet_step (first | (go_at_call 47; exact lat_of (with_any f (K 0) _ hf (hKb 0 (by omega))))))
  refine wpQuiet_nil ?_
  intro w1 hb1
  clear hne hcl
  have N1 := hid_in (N0.out.later hb1)
  clear hb1 c0 c1 l1 l0 N0
  go_wp2_with (first | (refine wpList_store_row rfl 41 _ _ rfl (w.heap.size + 1) _ rfl rfl 41 _ N1.out.blk sizeG rfl (rC_one _ _) ?_))
  have N2 := hid_in (N1.out.put (fun i => f i ^^^ K 0 i))
  clear N1
  generalize (w1.setRow (w.heap.size + 1) (rC 16 fun i => f i ^^^ K 0 i)) = W2 at *
  go_loopw [5] (fun v wr => ∃ r : Nat, r ≤ 10 ∧ v = .int .i64 ((r + 1 : Nat) : Int) ∧ Hid (PS w wr gt gk 11 cap K (enc K f r))) (fun v _ => 11 - (intOf v).toNat)
  case atStart => exact ⟨0, by omega, rfl, N2⟩
  case round =>
    obtain ⟨r, hr, rfl, HW⟩ := hrel
    by_cases hlt : r < 10
    · obtain ⟨q, hq⟩ : ∃ q, r + 1 = q := ⟨_, rfl⟩
      have hs := enc_by hKb hf r (by omega)
      have hq10 : q ≤ 10 := by omega
      have QE := hid_in (show enc K f q = stp K q (enc K f r) by rw [← hq]; rfl)
      have HQ := hid_in hq
      rw [hq]
      clear hq
      generalize enc K f r = s at *
      have S1 := there_by hs
      have S2 := shf_by (c := 1) S1
      have q1 : (q : Int) ≤ 10 := by omega
      have c0 := HW.out.c0
      have c1 := HW.out.c1
      have l1 := HW.out.blk.lt
      have l0 : w.heap.size < wr.heap.size := by omega
      go_wp2_with fail
      refine wp_region_lat_tail (Below.refl _ _) (by kernel_rfl) (by dsimp only [List.dropLast]) (by exact rfl) (by kernel_rfl) ?_
      intro hne hcl
      repeat (first | (refine quiet_load_at aggG rfl (.tmp 3) rfl ⟨w.heap.size + 1, 0, none⟩ rfl (rC 16 s) (rC_size _ _) (rowB HW.out) ?_; go_simp) | (refine quiet_load_at aggT rfl (.tmp 20) rfl ⟨gt, 0, none⟩ rfl (rC 256 there) (rC_size _ _) (rowT HW.out) ?_; go_simp) | go_big_quiet_step (first | (go_at_call 63; exact lat_of (looked_any s there _ hs)) | (go_at_call 64; exact lat_of (shifted_any (fun i => there (s i)) 1 _ (by omega)))))
      refine wpQuiet_nil ?_
      intro w3 hb3
      clear hne hcl
      have N3 := hid_in (HW.out.later hb3)
      clear hb3 c0 c1 l1 l0 HW
      have N4 := hid_in (N3.out.put (shf 1 fun i => there (s i)))
      have KQ := hKb q (by omega)
      have e16 : IntKind.i64.wrap (q : Int) = (q : Int) := by rw [IntKind.wrap_i64]; omega
      have q11 : (q : Int) < 11 := by omega
      by_cases hq9 : q < 10
      · have q9 : (q : Int) < 10 := by omega
        have zf : (#[.int .u8 2, .int .u8 3, .int .u8 1, .int .u8 1] : Array Value) = rC 4 fac := by rfl
        go_wp2_with (first | (refine wpList_store_row rfl 41 _ _ rfl (w.heap.size + 1) _ rfl rfl 41 _ N3.out.blk sizeG rfl (rC_one _ _) ?_) | (refine wpList_load_row rfl 41 _ rfl (w.heap.size + 1) rfl 41 _ (0, 0) _ N4.out.blk Try.underlying41 rfl sizeG ?_))
        refine (mixed_any (shf 1 fun i => there (s i)) fac _ S2 (by intro i hi; unfold fac; split <;> (try split) <;> omega)).mono ?_
        rintro e w5 ⟨rfl, hb5⟩
        have N5 := hid_in (N4.out.later hb5)
        clear hb5 N4 N3
        have N6 := hid_in (N5.out.put (mix (shf 1 fun i => there (s i)) fac))
        have S3 := mix_by (g := fac) S2
        go_wp2_with (first | (refine wpList_store_row rfl 41 _ _ rfl (w.heap.size + 1) _ rfl rfl 41 _ N5.out.blk sizeG rfl (rC_one _ _) ?_))
        generalize (w5.setRow (w.heap.size + 1) (rC 16 (mix (shf 1 fun i => there (s i)) fac))) = W5 at *
        clear N5
        have c0 := N6.out.c0
        have c1 := N6.out.c1
        have l1 := N6.out.blk.lt
        have l0 : w.heap.size < W5.heap.size := by omega
        refine wp_region_lat_tail (Below.refl _ _) (by kernel_rfl) (by dsimp only [List.dropLast]) (by exact rfl) (by kernel_rfl) ?_
        intro hne hcl
        repeat (first | (refine quiet_load_at aggG rfl (.tmp 3) rfl ⟨w.heap.size + 1, 0, none⟩ rfl (rC 16 (mix (shf 1 fun i => there (s i)) fac)) (rC_size _ _) (rowB N6.out) ?_; go_simp) | (refine quiet_load_at aggG rfl (.tmp 33) rfl ⟨gk, q * 16, none⟩ rfl (rC 16 (K q)) (rC_size _ _) (rowK N6.out q (by omega)) ?_; go_simp) | go_big_quiet_step (first | (go_at_call 47; exact lat_of (with_any (mix (shf 1 fun i => there (s i)) fac) (K q) _ S3 KQ))))
        refine wpQuiet_nil ?_
        intro w7 hb7
        clear hne hcl
        have N7 := hid_in (N6.out.later hb7)
        clear hb7 c0 c1 l1 l0
        go_wp2_with (first | (refine wpList_store_row rfl 41 _ _ rfl (w.heap.size + 1) _ rfl rfl 41 _ N7.out.blk sizeG rfl (rC_one _ _) ?_))
        refine ⟨⟨q, hq10, by simp, ?_⟩, by have := HQ.out; simp [intOf]; omega⟩
        have h := N7.out.put (fun i => mix (shf 1 fun i => there (s i)) fac i ^^^ K q i)
        have e : (fun i => mix (shf 1 fun i => there (s i)) fac i ^^^ K q i) = enc K f q := by
          rw [QE.out]; funext i; unfold stp; rw [if_pos hq9]
        show PS _ _ _ _ _ _ _ _
        rw [e] at h ⊢
        exact h
      · have q9 : ¬ (q : Int) < 10 := by omega
        go_wp2_with (first | (refine wpList_store_row rfl 41 _ _ rfl (w.heap.size + 1) _ rfl rfl 41 _ N3.out.blk sizeG rfl (rC_one _ _) ?_))
        generalize (w3.setRow (w.heap.size + 1) (rC 16 (shf 1 fun i => there (s i)))) = W5 at *
        clear N3
        have c0 := N4.out.c0
        have c1 := N4.out.c1
        have l1 := N4.out.blk.lt
        have l0 : w.heap.size < W5.heap.size := by omega
        refine wp_region_lat_tail (Below.refl _ _) (by kernel_rfl) (by dsimp only [List.dropLast]) (by exact rfl) (by kernel_rfl) ?_
        intro hne hcl
        repeat (first | (refine quiet_load_at aggG rfl (.tmp 3) rfl ⟨w.heap.size + 1, 0, none⟩ rfl (rC 16 (shf 1 fun i => there (s i))) (rC_size _ _) (rowB N4.out) ?_; go_simp) | (refine quiet_load_at aggG rfl (.tmp 33) rfl ⟨gk, q * 16, none⟩ rfl (rC 16 (K q)) (rC_size _ _) (rowK N4.out q (by omega)) ?_; go_simp) | go_big_quiet_step (first | (go_at_call 47; exact lat_of (with_any (shf 1 fun i => there (s i)) (K q) _ S2 KQ))))
        refine wpQuiet_nil ?_
        intro w7 hb7
        clear hne hcl
        have N7 := hid_in (N4.out.later hb7)
        clear hb7 c0 c1 l1 l0
        go_wp2_with (first | (refine wpList_store_row rfl 41 _ _ rfl (w.heap.size + 1) _ rfl rfl 41 _ N7.out.blk sizeG rfl (rC_one _ _) ?_))
        refine ⟨⟨q, hq10, by simp, ?_⟩, by have := HQ.out; simp [intOf]; omega⟩
        have h := N7.out.put (fun i => shf 1 (fun i => there (s i)) i ^^^ K q i)
        have e : (fun i => shf 1 (fun i => there (s i)) i ^^^ K q i) = enc K f q := by
          rw [QE.out]; funext i; unfold stp; rw [if_neg hq9]
        show PS _ _ _ _ _ _ _ _
        rw [e] at h ⊢
        exact h
    · obtain rfl : r = 10 := by omega
      go_wp2_with (first | (refine wpList_load_row rfl 41 _ rfl (w.heap.size + 1) rfl 41 _ (0, 0) _ HW.out.blk Try.underlying41 rfl sizeG ?_) | (refine wpList_store_row rfl 41 _ _ rfl (w.heap.size + 1 + 1) _ rfl rfl 41 _ HW.out.res sizeG rfl (rC_one _ _) ?_))
      exact bodyPost_ret (v := .agg (rC 16 (enc K f 10))) (results_cell_row Try.results35 _ _ (w.heap.size + 1 + 1) 41 _ (0, 0) _ rfl (setRow_at HW.out.res) Try.underlying41 rfl sizeG) rfl ⟨rfl, Below_setRow HW.out.bel (by omega)⟩
end Go.Proofs.Ytdbobeojbdcmdaa
