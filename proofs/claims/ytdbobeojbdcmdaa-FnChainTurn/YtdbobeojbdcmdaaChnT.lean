/- A text with one byte turned, and what turning it back out of the chain then gives: the walk of the law FnChainTurn. The conditions stand at each theorem. -/
import Derived.Test.YtdbobeojbdcmdaaChnP
namespace Go.Proofs.Ytdbobeojbdcmdaa
open Go.RowKit Go.LatT Go.BlockM Go.PlainAid Go.OpnT Go.ApdG Go.BytM Go.AesM Go.RegE
set_option linter.unusedVariables false
set_option linter.unusedSimpArgs false
/-- The byte k of a text turned by d. -/
def tnF (u : ByteArray) (k d : Nat) (i : Nat) : Nat := if i = k then bn u i ^^^ d else bn u i
def tnT (u : ByteArray) (k d : Nat) : ByteArray := txt u.size (tnF u k d)
theorem tnF_by {u : ByteArray} {k d : Nat} (hd : d < 256) (i : Nat) : tnF u k d i < 256 := by
  unfold tnF; split
  · exact xor_lt (bn_lt u i) hd
  · exact bn_lt u i
theorem tnT_size (u : ByteArray) (k d : Nat) : (tnT u k d).size = u.size := txt_size _ _
theorem tnT_bn {u : ByteArray} {k d : Nat} (hd : d < 256) (i : Nat) (hi : i < u.size) : bn (tnT u k d) i = tnF u k d i := by
  unfold tnT; rw [txt_get _ _ _ hi]; exact Nat.mod_eq_of_lt (tnF_by hd i)
theorem cdT_bn {s t u : ByteArray} (h : Chn s t u) (i : Nat) (hi : i < u.size) : bn (cdT s t u) i = cd (KS (bn s)) (bn t) (blk u) (i / 16) (i % 16) := by
  obtain ⟨n, hn⟩ : ∃ n, u.size = 16 * n := ⟨u.size / 16, by have := h.2.2.1; omega⟩
  rw [cdT_eq h hn]
  have := blk_txt (n := n) (F := cd (KS (bn s)) (bn t) (blk u)) (fun k _ => cd_by' s t u k) (i / 16) (by omega) (i % 16) (Nat.mod_lt _ (by omega))
  rw [← this]
  unfold blk
  congr 1; omega
theorem tn_blk {u : ByteArray} {k d q : Nat} (hd : d < 256) (hq : 16 * q + 15 < u.size) (hn : q ≠ k / 16) : ∀ j, j < 16 → blk (tnT u k d) q j = blk u q j := by
  intro j hj
  unfold blk
  rw [tnT_bn hd _ (by omega)]
  unfold tnF
  rw [if_neg (by omega)]
theorem tn_same {s t u : ByteArray} {k d i : Nat} (h : Chn s t u) (hd : d < 256) (hk : k < u.size) (hi : i < u.size) (h1 : i / 16 ≠ k / 16) (h2 : i ≠ k + 16) : bn (cdT s t (tnT u k d)) i = bn (cdT s t u) i := by
  have hc := h.of (tnT_size u k d)
  have h16 := h.2.2.1
  rw [cdT_bn h i hi, cdT_bn hc i (by rw [tnT_size]; exact hi)]
  unfold cd
  rw [dec_congr (tn_blk hd (by omega) h1) 10 (i % 16) (Nat.mod_lt _ (by omega))]
  congr 1
  by_cases h0 : i / 16 = 0
  · rw [if_pos h0, if_pos h0]
  · rw [if_neg h0, if_neg h0]
    unfold blk
    rw [tnT_bn hd _ (by omega)]
    unfold tnF
    rw [if_neg (by omega)]
theorem tn_next {s t u : ByteArray} {k d : Nat} (h : Chn s t u) (hd : d < 256) (hk : k + 16 < u.size) : bn (cdT s t (tnT u k d)) (k + 16) = bn (cdT s t u) (k + 16) ^^^ d := by
  have hc := h.of (tnT_size u k d)
  have h16 := h.2.2.1
  rw [cdT_bn h _ hk, cdT_bn hc _ (by rw [tnT_size]; exact hk)]
  unfold cd
  rw [dec_congr (tn_blk hd (by omega) (by omega)) 10 ((k + 16) % 16) (Nat.mod_lt _ (by omega)), if_neg (by omega), if_neg (by omega), Nat.xor_assoc _ _ d]
  congr 1
  unfold blk
  rw [tnT_bn hd _ (by omega)]
  unfold tnF
  rw [if_pos (by omega)]
theorem tn_unlike {s t u : ByteArray} {k d q : Nat} (h : Chn s t u) (hd : d < 256) (h0 : d ≠ 0) (hk : k < u.size) (hq : q = 16 * (k / 16)) : (cdT s t u).extract q (q + 16) ≠ (cdT s t (tnT u k d)).extract q (q + 16) := by
  intro e
  have hc := h.of (tnT_size u k d)
  have h16 := h.2.2.1
  have hz := cdT_size h
  have hz2 := cdT_size hc
  rw [tnT_size] at hz2
  have e1 : ∀ j, j < 16 → cd (KS (bn s)) (bn t) (blk u) (k / 16) j = cd (KS (bn s)) (bn t) (blk (tnT u k d)) (k / 16) j := fun j hj => by
    have := congrArg (fun x => bn x j) e
    rw [bn_extract _ q (q + 16) j (by omega) (by omega), bn_extract _ q (q + 16) j (by omega) (by omega), cdT_bn h _ (by omega), cdT_bn hc _ (by rw [tnT_size]; omega)] at this
    rw [show (q + j) / 16 = k / 16 by omega, show (q + j) % 16 = j by omega] at this
    exact this
  have e2 : ∀ j, j < 16 → (fun i => dec (KS (bn s)) (blk u (k / 16)) 10 i ^^^ KS (bn s) 0 i) j = (fun i => dec (KS (bn s)) (blk (tnT u k d) (k / 16)) 10 i ^^^ KS (bn s) 0 i) j := fun j hj => by
    have := e1 j hj
    unfold cd at this
    have e3 : (if k / 16 = 0 then bn t j else blk (tnT u k d) (k / 16 - 1) j) = (if k / 16 = 0 then bn t j else blk u (k / 16 - 1) j) := by
      by_cases z : k / 16 = 0
      · rw [if_pos z, if_pos z]
      · rw [if_neg z, if_neg z, tn_blk hd (by omega) (by omega) j hj]
    rw [e3] at this
    have := congrArg (fun x => x ^^^ (if k / 16 = 0 then bn t j else blk u (k / 16 - 1) j)) this
    simpa [Nat.xor_assoc] using this
  have e4 := enc_congr (K := KS (bn s)) e2 10 (k % 16) (Nat.mod_lt _ (by omega))
  rw [enc_dec (hKS s) (blk_by u _) _ (Nat.mod_lt _ (by omega)), enc_dec (hKS s) (blk_by _ _) _ (Nat.mod_lt _ (by omega))] at e4
  unfold blk at e4
  rw [show 16 * (k / 16) + k % 16 = k by omega, tnT_bn hd _ hk] at e4
  unfold tnF at e4
  rw [if_pos rfl] at e4
  have := congrArg (fun x => bn u k ^^^ x) e4
  simp only [Nat.xor_self, ← Nat.xor_assoc, Nat.zero_xor] at this
  exact h0 this.symm
theorem drawChainGet (a : Option Addr) (len cap : Nat) (z : List Int) (w : World) (h : RowC w a len cap z) (hl : len ≤ 1048576) :
    Calls Try.prog 29 #[.slice a len cap] w fun e w' => ∃ s t u : ByteArray, e = .returned (.tuple #[.string s, .string t, .string u]) ∧ s.size ≤ 40 ∧ t.size ≤ 40 ∧ u.size ≤ 400 ∧ Below w.heap.size w w' := by
  have HR := hid_in h
  clear h
  go_enter Try.func29, Try.ntmps29
  go_wp2_with fail
  refine (drawChainPut a len cap z _ HR.out hl).mono ?_
  rintro e w1 ⟨s, t, u, rfl, hs, ht, hu, hb1⟩
  have HB := hid_in hb1
  clear hb1
  go_wp2_with fail
  go_ret3
  exact ⟨s, t, u, rfl, hs, ht, hu, HB.out⟩
theorem tn_conv {w : World} {g cap : Nat} {u : ByteArray} {k d : Nat} (hd : d < 256) (h : ∀ j, j < u.size → w.cell? ⟨g, j, none⟩ = some (.int .u8 (tnF u k d j : Int))) : (convert 28 9 (.slice (some ⟨g, 0, none⟩) u.size cap)).run Try.prog w = .ok (.string (tnT u k d)) w := by
  have := run_convert_bytes_back (P := Try.prog) w 28 9 5 ⟨g, 0, none⟩ cap (tl u.size (tnF u k d)) Try.underlying28 Try.underlying5 Try.underlying9 fun j hj => by
    rw [tl_len] at hj
    have e : (Addr.add ⟨g, 0, none⟩ j) = ⟨g, j, none⟩ := by simp [Addr.add, eq_comm]
    rw [e, h j hj]
    have := tnF_by (u := u) (k := k) hd j
    simp [tl, hj]
    omega
  rw [tl_len] at this
  exact this
theorem conv_new (u : ByteArray) (w : World) : ∃ W c, (convert 9 28 (.string u)).run Try.prog w = .ok (.slice (some ⟨w.heap.size, 0, none⟩) u.size c) W ∧ W.heap.size = w.heap.size + 1 ∧ (∀ j, j < u.size → W.cell? ⟨w.heap.size, j, none⟩ = some (.int .u8 (bt u j))) ∧ (∀ j, j < u.size → W.frozen? ⟨w.heap.size, j, none⟩ = false) ∧ Below w.heap.size w W := by
  refine ⟨_, _, run_bytes_of_string w 9 28 5 u Try.underlying9 Try.underlying28 Try.underlying5, by simp, fun j hj => ?_, fun j hj => ?_, ?_⟩
  · have h1 := World.cell?_alloc_mark w.drew (bytesRow u (grownCap w u.size 0 5)) 5 ((bytesRow u (grownCap w u.size 0 5)).size, (bytesRow u (grownCap w u.size 0 5)).size + 1) j
    have h2 := bytesRow_at u (grownCap w u.size 0 5) j hj
    rw [h2] at h1
    have e : bt u j = (u.data[j].toNat : Int) := by unfold bt; rw [dif_pos hj]; rfl
    rw [e]
    exact h1
  · have h1 := World.frozen?_alloc_mark w.drew (bytesRow u (grownCap w u.size 0 5)) 5 (bytesRow u (grownCap w u.size 0 5)).size ((bytesRow u (grownCap w u.size 0 5)).size + 1) j
    have h2 : u.size ≤ (bytesRow u (grownCap w u.size 0 5)).size := by simp [bytesRow]
    rw [show (decide ((bytesRow u (grownCap w u.size 0 5)).size ≤ j)) = false by simp; omega, Bool.false_and] at h1
    exact h1
  · show Below _ _ _; go_grown
theorem tn_set {w W : World} {B g c : Nat} {u : ByteArray} {k d : Nat} (hd : d < 256) (hk : k < u.size) (h : ∀ j, j < u.size → W.cell? ⟨g, j, none⟩ = some (.int .u8 (bt u j))) (hB : Below B w W) (hg : B ≤ g) :
    (convert 28 9 (.slice (some ⟨g, 0, none⟩) u.size c)).run Try.prog (W.setCell ⟨g, k, none⟩ (.int .u8 (bits .xor .u8 (bt u k) (d : Int)))) = .ok (.string (tnT u k d)) (W.setCell ⟨g, k, none⟩ (.int .u8 (bits .xor .u8 (bt u k) (d : Int)))) ∧ Below B w (W.setCell ⟨g, k, none⟩ (.int .u8 (bits .xor .u8 (bt u k) (d : Int)))) := by
  refine ⟨tn_conv hd fun j hj => ?_, hB.setCell hg _⟩
  by_cases e : j = k
  · subst e
    rw [World.cell?_setCell_same' _ _ _ (by rw [h j hj]; rfl)]
    unfold tnF
    rw [if_pos rfl, ← bn_int, xor8 _ _ (bn_lt _ _) hd]
  · rw [World.cell?_setCell_other _ _ _ _ (by intro x; apply e; injection x with _ x _; exact x.symm), h j hj, ← bn_int]
    unfold tnF
    rw [if_neg e]
set_option maxHeartbeats 4000000 in
set_option maxRecDepth 100000 in
theorem walk_FnChainTurn (a : Option Addr) (len cap : Nat) (z : List Int) (a2 : Option Addr) (len2 cap2 : Nat) (z2 : List Int) (w : World) (h : RowC w a len cap z) (h2 : RowC w a2 len2 cap2 z2) :
    Calls Try.prog 13 #[.slice a len cap, .slice a2 len2 cap2] w fun e w' => e = .returned (.bool true) ∧ Below w.heap.size w w' := by
  have hm : (len : Int) ≤ 9223372036854775807 := by
    rcases h with ⟨rfl, _⟩ | ⟨_, _, _, h1, h2, _⟩
    · omega
    · unfold maxLen at h2; omega
  have hm2 : (len2 : Int) ≤ 9223372036854775807 := by
    rcases h2 with ⟨rfl, _⟩ | ⟨_, _, _, h1, h2, _⟩
    · omega
    · unfold maxLen at h2; omega
  have HR := hid_in h; have HR2 := hid_in h2
  clear h h2
  by_cases hl : len ≤ 1048576
  · by_cases hl2 : len2 ≤ 1048576
    · go_enter Try.func13, Try.ntmps13
      go_wp2_with fail
      refine (drawChainGet a len cap z _ HR.out hl).mono ?_
      rintro e w1 ⟨s, t, u, rfl, hs, ht, hu, hb1⟩
      have HB := hid_in hb1
      clear hb1
      have I1 := hid_in (fun w => chgI s t u w (by omega) (by omega) (by omega))
      have S1 := hid_in (fun w => chainGetS s t u w (by omega) (by omega) (by omega))
      have hu0 : (u.size : Int) ≤ 400 := by omega
      by_cases hx : cdT s t u = ⟨#[]⟩
      · rw [hx] at I1 S1
        clear hx
        go_wp2_with fail
        refine (I1.out _).mono ?_
        rintro e w2 ⟨rfl, hb2⟩
        have HB2 := hid_in (below_later HB.out hb2)
        clear hb2 HB
        go_wp2_with fail
        refine (S1.out _).mono ?_
        rintro e w3 ⟨rfl, hb3⟩
        have HB3 := hid_in (below_later HB2.out hb3)
        clear hb3 HB2
        go_wp2_with fail
        refine (S1.out _).mono ?_
        rintro e w4 ⟨rfl, hb4⟩
        have HB4 := hid_in (below_later HB3.out hb4)
        clear hb4 HB3
        go_wp2_with fail
        go_ret
        exact ⟨rfl, HB4.out⟩
      · have hc : Chn s t u := by
          by_cases hc : Chn s t u
          · exact hc
          · exact absurd (cdT_no hc) hx
        have hxs := cdT_size hc
        have hpos : 0 < u.size := by
          rcases Nat.eq_zero_or_pos u.size with h0 | h0
          · exact absurd (emp_of (by rw [hxs, h0])) hx
          · exact h0
        obtain ⟨m1, m1', m1''⟩ := toList_nil hx
        obtain ⟨k, hk⟩ : ∃ k, len2 % u.size = k := ⟨_, rfl⟩
        have hku : k < u.size := by rw [← hk]; exact Nat.mod_lt _ hpos
        obtain ⟨r, hr⟩ : ∃ r, len % 255 = r := ⟨_, rfl⟩
        have hr2 : r < 255 := by omega
        have hd : r + 1 < 256 := by omega
        have e1 : (len2 : Int).tmod (u.size : Int) = (k : Int) := by rw [Int.tmod_eq_emod_of_nonneg (by omega)]; omega
        have e2 : IntKind.i64.wrap (k : Int) = (k : Int) := by rw [IntKind.wrap_i64]; omega
        have e3 : (len : Int).tmod 255 = (r : Int) := by rw [Int.tmod_eq_emod_of_nonneg (by omega)]; omega
        have e4 : IntKind.i64.wrap (r : Int) = (r : Int) := by rw [IntKind.wrap_i64]; omega
        obtain ⟨d, hd'⟩ : ∃ d, r + 1 = d := ⟨_, rfl⟩
        have e5 : (1 : Int) + (r : Int) = (d : Int) := by omega
        have e6 : IntKind.i64.wrap (d : Int) = (d : Int) := by rw [IntKind.wrap_i64]; omega
        have e7 : IntKind.u8.wrap (d : Int) = (d : Int) := by rw [IntKind.wrap_u8]; omega
        have e8 : ¬ (u.size : Int) = 0 := by omega
        have e9 : (k : Int) < (u.size : Int) := by omega
        have SAME := hid_in (fun i (hi : i < u.size) h1 h2 => tn_same (k := k) (d := d) hc (by omega) hku hi h1 h2)
        have NEXT := hid_in (fun h1 => tn_next (k := k) (d := d) hc (by omega) h1)
        have UNL := hid_in (fun q hq => tn_unlike (k := k) (d := d) (q := q) hc (by omega) (by omega) hku hq)
        have HYS := hid_in (cdT_size (hc.of (tnT_size u k d)))
        have I2 := hid_in (fun w => chgI s t (tnT u k d) w (by omega) (by omega) (by rw [tnT_size]; omega))
        have HXS := hid_in hxs
        have HU16 := hid_in (show u.size % 16 = 0 from hc.2.2.1)
        have HKU := hid_in hku
        clear hk hr hd' hpos hc hx hxs
        generalize cdT s t u = x at *
        go_wp2_with fail
        refine (I1.out _).mono ?_
        rintro e w2 ⟨rfl, hb2⟩
        have HB2 := hid_in (below_later HB.out hb2)
        clear hb2 HB
        go_wp2_with fail
        refine (S1.out _).mono ?_
        rintro e w3 ⟨rfl, hb3⟩
        have HB3 := hid_in (below_later HB2.out hb3)
        clear hb3 HB2
        go_wp2_with fail
        obtain ⟨W4, c4, hcv, hz4, hcl, hfr, hb4⟩ := conv_new u w3
        have bk := hcl k hku
        have fk := hfr k hku
        have HB4 := hid_in (below_later HB3.out hb4)
        have HCL := hid_in hcl
        rw [hcv]
        have hsz := HB3.out.size
        obtain ⟨hst, hb5⟩ := tn_set (c := c4) (k := k) (d := d) (by omega) hku hcl HB4.out hsz
        have HST := hid_in hst; have HB5 := hid_in hb5
        clear hb4 HB3 hcl hfr hcv hst hb5 HB4
        go_wp2_with fail
        rw [HST.out]
        generalize W4.setCell _ _ = W5 at *
        clear HST HCL bk fk hz4
        go_wp2_with fail
        refine (I2.out _).mono ?_
        rintro e w6 ⟨rfl, hb6⟩
        have HB6 := hid_in (below_later HB5.out hb6)
        clear hb6 HB5 I1 I2 S1
        obtain ⟨q, hq⟩ : ∃ q, k / 16 = q := ⟨_, rfl⟩
        obtain ⟨p, hp⟩ : ∃ p, 16 * q = p := ⟨_, rfl⟩
        obtain ⟨e, he⟩ : ∃ e, p + 16 = e := ⟨_, rfl⟩
        have unl := toList_ne (UNL.out p (by omega))
        obtain ⟨unl1, unl2⟩ := unl
        rw [he] at unl1 unl2
        have hys := HYS.out
        rw [tnT_size] at hys
        have hxs := HXS.out
        have hu16 := HU16.out
        have f1 : (k : Int).tdiv 16 = (q : Int) := by rw [Int.tdiv_eq_ediv_of_nonneg (by omega)]; omega
        have f2 : IntKind.i64.wrap (q : Int) = (q : Int) := by rw [IntKind.wrap_i64]; omega
        have f3 : (q : Int) * 16 = (p : Int) := by omega
        have f4 : IntKind.i64.wrap (p : Int) = (p : Int) := by rw [IntKind.wrap_i64]; omega
        have f5 : (p : Int) + 16 = (e : Int) := by omega
        have f6 : IntKind.i64.wrap (e : Int) = (e : Int) := by rw [IntKind.wrap_i64]; omega
        have f7 : e ≤ x.size := by omega
        have f8 : e ≤ (cdT s t (tnT u k d)).size := by omega
        have f7' : (e : Int) ≤ x.size := by omega
        have f8' : (e : Int) ≤ (cdT s t (tnT u k d)).size := by omega
        have f9 : (p : Int) ≤ (e : Int) := by omega
        have f10 : p ≤ e := by omega
        have g1 : ((cdT s t (tnT u k d)).size : Int) = (x.size : Int) := by omega
        have g2 : (((cdT s t (tnT u k d)).size : Int) != (x.size : Int)) = false := by simp [g1]
        have g3 : (((cdT s t (tnT u k d)).size : Int) == (x.size : Int)) = true := by simp [g1]
        have HQ := hid_in hq; have HP := hid_in hp; have HE := hid_in he
        clear hq hp he hys hxs hu16 hku
        generalize cdT s t (tnT u k d) = y at *
        have g4 : decide (¬ (y.size : Int) = (x.size : Int)) = false := by simp [g1]
        go_wp2_with fail
        refine wp_region_lat (Below.refl _ _) (by kernel_rfl) (by kernel_rfl) ?_
        intro hne hcl
        repeat (go_big_quiet_step (first | (fail)))
        refine wpQuiet_nil ?_
        intro w1 hb1
        obtain ⟨hc1, hf1⟩ := bcell hb1
        clear hne hcl
        go_wp2_with fail
        clear unl1 unl2 g2 g3 g4 f3 f4 f5 f6 f7 f7' f8 f8' f9 f10 m1 m1' m1''
        have gx := get_bt x
        have gy := get_bt y
        have hxm : (x.size : Int) ≤ 400 := by have := HXS.out; omega
        have XN := hid_in (fun (h : k + 16 < u.size) => show bits .xor .u8 (bt x (k + 16)) (d : Int) = bt y (k + 16) by rw [← bn_int, ← bn_int, xor8 _ _ (bn_lt _ _) (by omega), NEXT.out h])
        have XS := hid_in (fun i (hi : i < u.size) h1 h2 => show bt y i = bt x i by rw [← bn_int, ← bn_int, SAME.out i hi h1 h2])
        obtain ⟨m, hmk⟩ : ∃ m, k + 16 = m := ⟨_, rfl⟩
        have f3 : (k : Int) + 16 = (m : Int) := by omega
        have f4 : IntKind.i64.wrap (m : Int) = (m : Int) := by have := HKU.out; rw [IntKind.wrap_i64]; omega
        have HMK := hid_in hmk
        clear hmk
        go_loopw [13] (fun v wr => ∃ i : Nat, i ≤ x.size ∧ v = .int .i64 (i : Int) ∧ Hid (Below w.heap.size w wr)) (fun v _ => x.size - (intOf v).toNat)
        case atStart => exact ⟨0, by omega, rfl, by show Below _ _ _; exact below_later HB6.out hb1⟩
        case round =>
          obtain ⟨i, hi, rfl, HW⟩ := hrel
          by_cases hlt : i < x.size
          · have q1 : (i : Int) < x.size := by omega
            have q2 : (i : Int) < y.size := by omega
            have HI := hid_in (show i + 1 ≤ x.size by omega)
            obtain ⟨t, ht⟩ : ∃ t, i / 16 = t := ⟨_, rfl⟩
            have e8 : (i : Int).tdiv 16 = (t : Int) := by rw [Int.tdiv_eq_ediv_of_nonneg (by omega)]; omega
            have e9 : IntKind.i64.wrap (t : Int) = (t : Int) := by rw [IntKind.wrap_i64]; omega
            have hiu : i < u.size := by have := HXS.out; omega
            by_cases hA : i = m
            · subst hA
              have hx := XN.out (by rw [HMK.out]; exact hiu)
              rw [HMK.out] at hx
              clear hiu ht
              go_wp2_with fail
              refine wp_region_lat (Below.refl _ _) (by kernel_rfl) (by kernel_rfl) ?_
              intro hne hcl
              repeat (go_big_quiet_step (first | (fail)))
              refine wpQuiet_nil ?_
              intro w1 hb1
              obtain ⟨hc1, hf1⟩ := bcell hb1
              clear hne hcl
              go_wp2_with fail
              exact ⟨⟨i + 1, HI.out, by simp, by show Below _ _ _; exact below_later HW.out hb1⟩, by have := HI.out; simp [intOf]; omega⟩
            · have q3 : ¬ (i : Int) = (m : Int) := by omega
              have HA := hid_in hA
              by_cases hB : t = q
              · subst hB
                clear hiu ht
                go_wp2_with fail
                have q4 : ((i : Int) == (m : Int)) = false := by have := HA.out; simp; omega
                have q4' : ((i : Int) != (m : Int)) = true := by have := HA.out; simp; omega
                have q5 : ((t : Int) != (t : Int)) = false := by simp
                refine wp_region_lat (Below.refl _ _) (by kernel_rfl) (by kernel_rfl) ?_
                intro hne hcl
                repeat (go_big_quiet_step (first | (fail)))
                refine wpQuiet_nil ?_
                intro w1 hb1
                obtain ⟨hc1, hf1⟩ := bcell hb1
                clear hne hcl
                go_wp2_with fail
                exact ⟨⟨i + 1, HI.out, by simp, by show Below _ _ _; exact below_later HW.out hb1⟩, by have := HI.out; simp [intOf]; omega⟩
              · have hx := XS.out i hiu (by rw [ht, HQ.out]; exact hB) (by rw [HMK.out]; exact hA)
                have q5 : ¬ (t : Int) = (q : Int) := by omega
                clear hiu ht
                go_wp2_with fail
                have q4 : ((i : Int) == (m : Int)) = false := by have := HA.out; simp; omega
                have q4' : ((i : Int) != (m : Int)) = true := by have := HA.out; simp; omega
                have q5' : ((t : Int) != (q : Int)) = true := by simpa using q5
                refine wp_region_lat (Below.refl _ _) (by kernel_rfl) (by kernel_rfl) ?_
                intro hne hcl
                repeat (go_big_quiet_step (first | (fail)))
                refine wpQuiet_nil ?_
                intro w1 hb1
                obtain ⟨hc1, hf1⟩ := bcell hb1
                clear hne hcl
                go_wp2_with fail
                exact ⟨⟨i + 1, HI.out, by simp, by show Below _ _ _; exact below_later HW.out hb1⟩, by have := HI.out; simp [intOf]; omega⟩
          · have q1 : ¬ (i : Int) < x.size := by omega
            go_wp2_with fail
            go_ret
            exact ⟨rfl, HW.out⟩
    · have hl2' : (1048576 : Int) < len2 := by omega
      go_enter Try.func13, Try.ntmps13
      go_wp2_with fail
      go_ret
      exact ⟨rfl, Below.refl _ _⟩
  · have hl' : (1048576 : Int) < len := by omega
    go_enter Try.func13, Try.ntmps13
    go_wp2_with fail
    go_ret
    exact ⟨rfl, Below.refl _ _⟩
end Go.Proofs.Ytdbobeojbdcmdaa
