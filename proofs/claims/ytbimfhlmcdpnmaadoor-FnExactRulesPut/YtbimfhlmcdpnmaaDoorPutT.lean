/- Rules as lines, in the specification, as contracts. The conditions stand at each theorem. -/
import Derived.Test.YtbimfhlmcdpnmaaDoorRulC
import Derived.Test.YtbimfhlmcdpnmaaDoorTxtB
namespace Go.Proofs.YtbimfhlmcdpnmaaDoor
open Go.RowKit Go.LatT Go.BlockM Go.OpnT
set_option linter.unusedVariables false
set_option linter.unusedSimpArgs false
/-- What a rule does, in a word. -/
def wordT (o t : Int) : List UInt8 := if o = 2 then [103, 117, 97, 114, 100] ++ decI t else if o = 1 then [112, 97, 115, 115] else [100, 114, 111, 112]
/-- A rule as a line, its numbers by their places. -/
def lineT (o t a b c d l h : Int) : List UInt8 := wordT o t ++ [32] ++ blockT a b ++ [32] ++ blockT c d ++ [32] ++ (decI l ++ [45] ++ decI h) ++ [10]
def lineE (E : Nat → Nat → Int) (i : Nat) : List UInt8 := lineT (E i 0) (E i 1) (E i 2) (E i 3) (E i 4) (E i 5) (E i 6) (E i 7)
/-- The first k rules as lines. -/
def putT (E : Nat → Nat → Int) : Nat → List UInt8
  | 0 => []
  | k + 1 => putT E k ++ lineE E k
theorem decI_len100 {n : Int} (h0 : 0 ≤ n) (h1 : n ≤ 1000000000) : (decI n).length ≤ 100 := Nat.le_trans (decI_len 12 _ h0 (by omega)) (by omega)
theorem blockT_len {a b : Int} (a0 : 0 ≤ a) (a1 : a ≤ 4294967295) (b0 : 0 ≤ b) (b1 : b ≤ 32) : (blockT a b).length ≤ 1200 := by
  have la := addrT_len a0 a1
  have lb := decI_len100 (n := b) b0 (by omega)
  simp [blockT]
  omega
theorem wordT_len {o t : Int} (h : deedB o t = true) : (wordT o t).length ≤ 200 := by
  unfold wordT
  by_cases h2 : o = 2
  · rw [if_pos h2]
    unfold deedB at h
    rw [if_pos h2] at h
    have ht : 0 ≤ t ∧ t ≤ 3 := by simpa [inB] using h
    have := decI_len100 (n := t) ht.1 (by omega)
    simp
    omega
  · rw [if_neg h2]
    by_cases h1 : o = 1
    · rw [if_pos h1]; simp
    · rw [if_neg h1]; simp
/-- What a good rule's numbers keep. -/
structure RokN (o t a b c d l h : Int) : Prop where
  a0 : 0 ≤ a
  a1 : a ≤ 4294967295
  b0 : 0 ≤ b
  b1 : b ≤ 32
  c0 : 0 ≤ c
  c1 : c ≤ 4294967295
  d0 : 0 ≤ d
  d1 : d ≤ 32
  l0 : 0 ≤ l
  l1 : l ≤ 65535
  h0 : 0 ≤ h
  h1 : h ≤ 65535
  ab : okB a b = true
  cd : okB c d = true
  deed : deedB o t = true
theorem rok_num {o t a b c d l h : Int} (hv : rokB o t a b c d l h = true) : RokN o t a b c d l h := by
  unfold rokB at hv
  simp only [Bool.and_eq_true, decide_eq_true_eq] at hv
  obtain ⟨⟨⟨⟨⟨h1, h2⟩, h3⟩, h4⟩, h5⟩, h6⟩ := hv
  obtain ⟨a0, a1, b0, b1, _⟩ := ok_of h1
  obtain ⟨c0, c1, d0, d1, _⟩ := ok_of h2
  exact ⟨a0, a1, b0, b1, c0, c1, d0, d1, h3, by omega, by omega, h5, h1, h2, h6⟩
theorem lineT_len {o t a b c d l h : Int} (N : RokN o t a b c d l h) : (lineT o t a b c d l h).length ≤ 4000 := by
  have h1 := wordT_len N.deed
  have h2 := blockT_len N.a0 N.a1 N.b0 N.b1
  have h3 := blockT_len N.c0 N.c1 N.d0 N.d1
  have h4 := decI_len100 N.l0 (by have := N.l1; omega)
  have h5 := decI_len100 N.h0 (by have := N.h1; omega)
  simp [lineT]
  omega
theorem row_num {E : Nat → Nat → Int} {i : Nat} (h : rbad E i = false) : RokN (E i 0) (E i 1) (E i 2) (E i 3) (E i 4) (E i 5) (E i 6) (E i 7) := rok_num (by simpa [rbad] using h)
theorem putT_len {E : Nat → Nat → Int} {n : Nat} (hok : ∀ i, i < n → rbad E i = false) : ∀ k, k ≤ n → (putT E k).length ≤ 4000 * k
  | 0, _ => by simp [putT]
  | k + 1, hk => by
    have h1 := putT_len hok k (by omega)
    have h2 : (lineE E k).length ≤ 4000 := lineT_len (row_num (hok k (by omega)))
    rw [putT, List.length_append]
    omega
set_option maxHeartbeats 1000000 in
set_option maxRecDepth 100000 in
theorem l4Word_any (o t a b c d l h : Int) (w : World) (hd : deedB o t = true) :
    Calls Tryd.prog 31 #[.agg #[.int .i64 o, .int .i64 t, .int .i64 a, .int .i64 b, .int .i64 c, .int .i64 d, .int .i64 l, .int .i64 h]] w fun e w' => e = .returned (.string ⟨(wordT o t).toArray⟩) ∧ Below w.heap.size w w' := by
  have ho : o = 0 ∨ o = 1 ∨ (o = 2 ∧ 0 ≤ t ∧ t ≤ 3) := by
    by_cases h2 : o = 2
    · refine .inr (.inr ⟨h2, ?_⟩)
      simpa [deedB, h2, inB] using hd
    · simp [deedB, h2] at hd
      omega
  clear hd
  rcases ho with rfl | rfl | ⟨rfl, t0, t1⟩
  · go_enter Tryd.func31, Tryd.ntmps31
    go_wp2_with fail
    go_ret
    exact ⟨ret_str rfl, by go_grown⟩
  · go_enter Tryd.func31, Tryd.ntmps31
    go_wp2_with fail
    go_ret
    exact ⟨ret_str rfl, by go_grown⟩
  · have L := decI_len100 t0 (by omega)
    go_enter Tryd.func31, Tryd.ntmps31
    go_wp2_with fail
    refine (dec_any t _ t0 (by omega)).mono ?_
    rintro e w1 ⟨rfl, hb1⟩
    go_wp2_with fail
    go_ret
    exact ⟨ret_str (by simp [bytes_append, wordT]), below_later (below_box _ _) hb1⟩
set_option maxHeartbeats 600000 in
set_option maxRecDepth 100000 in
theorem l4Put_any (bb off len cap : Nat) (E : Nat → Nat → Int) (w : World) (hlt : bb < w.heap.size) (hc : ∀ i, i < len → ∀ j, j < 8 → w.cell? ⟨bb, off + i * 8 + j, none⟩ = some (.int .i64 (E i j))) (hl : len ≤ 8) (hok : ∀ i, i < len → rbad E i = false) :
    Calls Tryd.prog 15 #[.slice (some ⟨bb, off, none⟩) len cap] w fun e w' => e = .returned (.string ⟨(putT E len).toArray⟩) ∧ Below w.heap.size w w' := by
  have HC := hid_in hc; have HO := hid_in hok
  clear hc hok
  go_enter Tryd.func15, Tryd.ntmps15
  go_wp2_with fail
  go_loopw [3, 4] (fun s v wr => ∃ k : Nat, k ≤ len ∧ v = .int .i64 (k : Int) ∧ s = .string ⟨(putT E k).toArray⟩ ∧ Hid (Below w.heap.size w wr)) (fun _ v _ => len - (intOf v).toNat)
  case atStart => exact ⟨0, Nat.zero_le _, rfl, rfl, by show Below _ _ _; exact Below.refl _ _⟩
  case round =>
    obtain ⟨k, hk, rfl, rfl, HW⟩ := hrel
    by_cases hlt' : k < len
    · have hd : (k : Int) < (len : Int) := by omega
      have hg := fun j hj => ((bcell HW.out).1 bb (off + k * 8 + j) hlt).trans (HC.out k hlt' j hj)
      have N := row_num (HO.out k hlt')
      have EL := hid_in (show putT E (k + 1) = putT E k ++ lineT (E k 0) (E k 1) (E k 2) (E k 3) (E k 4) (E k 5) (E k 6) (E k 7) from rfl)
      have LP := putT_len HO.out k hk
      have g0 : wr.cell? ⟨bb, off + k * 8, none⟩ = _ := hg 0 (by omega)
      have g1 := hg 1 (by omega); have g2 := hg 2 (by omega); have g3 := hg 3 (by omega); have g4 := hg 4 (by omega); have g5 := hg 5 (by omega); have g6 := hg 6 (by omega); have g7 := hg 7 (by omega)
      clear hg
      generalize E k 0 = o at N EL g0
      generalize E k 1 = t at N EL g1
      generalize E k 2 = a at N EL g2
      generalize E k 3 = b at N EL g3
      generalize E k 4 = c at N EL g4
      generalize E k 5 = d at N EL g5
      generalize E k 6 = l at N EL g6
      generalize E k 7 = h at N EL g7
      generalize putT E k = P at EL LP
      have NN := hid_in N
      have lw := wordT_len N.deed
      have lb := blockT_len N.a0 N.a1 N.b0 N.b1
      have lc := blockT_len N.c0 N.c1 N.d0 N.d1
      have ll := decI_len100 N.l0 (by have := N.l1; omega)
      have lh := decI_len100 N.h0 (by have := N.h1; omega)
      have lP : P.length ≤ 40000 := by omega
      clear LP N
      go_wp2_with fail
      refine wp_region_lat (Below.refl _ _) (by kernel_rfl) (by kernel_rfl) ?_
      intro hne hcl
      repeat (go_big_quiet_step (first | (go_at_call 31; exact lat_of (l4Word_any o t a b c d l h _ NN.out.deed)) | (go_at_call_of 32 (Value.agg #[.int .i64 a, .int .i64 b]); exact lat_of (l1Block_any a b _ NN.out.a0 NN.out.a1 NN.out.b0 NN.out.b1)) | (go_at_call_of 32 (Value.agg #[.int .i64 c, .int .i64 d]); exact lat_of (l1Block_any c d _ NN.out.c0 NN.out.c1 NN.out.d0 NN.out.d1)) | (go_at_call_of 33 (Value.int .i64 l); exact lat_of (dec_any l _ NN.out.l0 (by have := NN.out.l1; omega))) | (go_at_call_of 33 (Value.int .i64 h); exact lat_of (dec_any h _ NN.out.h0 (by have := NN.out.h1; omega)))))
      refine wpQuiet_nil ?_
      intro w1 hb1
      obtain ⟨hc1, hf1⟩ := bcell hb1
      clear hne hcl
      go_wp2_with fail
      refine ⟨⟨k + 1, by omega, by simp, ?_, ?_⟩, by simp [intOf]; omega⟩
      · rw [EL.out]
        simp only [bytes_append, lineT]
        simp
      · show Below _ _ _
        exact below_later HW.out (below_under hb1)
    · have hd : decide ((k : Int) < (len : Int)) = false := by simp; omega
      obtain rfl : k = len := by omega
      go_wp2_with fail
      go_ret
      exact ⟨rfl, HW.out⟩
set_option maxHeartbeats 600000 in
set_option maxRecDepth 100000 in
theorem l4Put_tab (a : Option Addr) (len cap : Nat) (E : Nat → Nat → Int) (w : World) (hT : Tab w a len 8 E) (hl : len ≤ 8) (hok : ∀ i, i < len → rbad E i = false) :
    Calls Tryd.prog 15 #[.slice a len cap] w fun e w' => e = .returned (.string ⟨(putT E len).toArray⟩) ∧ Below w.heap.size w w' := by
  rcases hT with rfl | ⟨bb, off, rfl, h1, k1⟩
  · go_enter Tryd.func15, Tryd.ntmps15
    go_wp2_with fail
    refine wp_loop_rounds 1 ?_
    rw [rounds_succ]
    go_wp2_with fail
    go_ret
    exact ⟨rfl, Below.refl _ _⟩
  · exact l4Put_any bb off len cap E w h1 k1 hl hok
set_option maxHeartbeats 600000 in
set_option maxRecDepth 100000 in
theorem rulesPutS (a : Option Addr) (len cap : Nat) (E : Nat → Nat → Int) (w : World) (hT : Tab w a len 8 E) (hl : len ≤ 1048576) :
    Calls Tryd.prog 6 #[.slice a len cap] w fun e w' => ∃ v, AllOk (rbad E) len 8 v ∧ e = .returned (.string ⟨(if v then putT E len else []).toArray⟩) ∧ Below w.heap.size w w' := by
  have HT := hid_in hT
  clear hT
  go_enter Tryd.func6, Tryd.ntmps6
  go_wp2_with fail
  refine (rulesOkS a len cap E _ HT.out hl).mono ?_
  rintro e w1 ⟨v, rfl, V, hb1⟩
  have V1 := hid_in V
  clear V
  cases v
  · go_wp2_with fail
    go_ret
    exact ⟨false, V1.out, rfl, hb1⟩
  · go_wp2_with fail
    refine (l4Put_tab a len cap E _ (HT.out.later hb1) (V1.out.1 rfl).2 (V1.out.1 rfl).1).mono ?_
    rintro e w2 ⟨rfl, hb2⟩
    go_wp2_with fail
    go_ret
    exact ⟨true, V1.out, rfl, below_later hb1 hb2⟩
end Go.Proofs.YtbimfhlmcdpnmaaDoor
