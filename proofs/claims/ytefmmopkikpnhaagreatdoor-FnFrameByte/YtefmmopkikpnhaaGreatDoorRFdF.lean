/- What is proved: the contracts of FrdF, one behind the other. The conditions stand at each theorem. -/
import Derived.Test.YtefmmopkikpnhaaGreatDoorRTrn
namespace Go.Proofs.YtefmmopkikpnhaaGreatDoor
open Go.RowKit Go.LatT Go.BlockM Go.PlainAid Go.OpnT Go.ApdG Go.BytM Go.AesM Go.RowQ
set_option linter.unusedVariables false
set_option linter.unusedSimpArgs false
set_option maxHeartbeats 4000000 in
set_option maxRecDepth 100000 in
theorem walk_FnFrameByte (a : Option Addr) (len cap : Nat) (z : List Int) (a2 : Option Addr) (len2 cap2 : Nat) (z2 : List Int) (w : World) (h : RowC w a len cap z) (h2 : RowC w a2 len2 cap2 z2) (hE : ErrT w) (hK : GK w) :
    Calls Tryz.prog 6 #[.slice a len cap, .slice a2 len2 cap2] w fun e w' => e = .returned (.bool true) ∧ Below w.heap.size w w' := by
  have hm : (len : Int) ≤ 9223372036854775807 := by
    rcases h with ⟨rfl, _⟩ | ⟨_, _, _, h1, h2, _⟩
    · omega
    · unfold maxLen at h2; omega
  have hm2 : (len2 : Int) ≤ 9223372036854775807 := by
    rcases h2 with ⟨rfl, _⟩ | ⟨_, _, _, h1, h2, _⟩
    · omega
    · unfold maxLen at h2; omega
  have HR := hid_in h
  have HK := hid_in hK
  have HE := hid_in hE
  clear h hK hE h2
  by_cases hl : len ≤ 1048576
  · by_cases hl2 : len2 ≤ 1048576
    · go_enter Tryz.func6, Tryz.ntmps6
      go_wp2_with fail
      refine (drawFrameGet a len cap z _ HR.out hl).mono ?_
      rintro e w1 ⟨k, m, s, rfl, hk, hm5, hs, hb1⟩
      have D1 := hid_in hb1
      clear hb1
      have S := hid_in (fun W => frameGetS k m s W (by omega) (by omega) (by omega))
      have I := hid_in (fun W (y : GK W) (v : ErrT W) => frameGetI k m s W y v (by omega) (by omega) (by omega))
      have I2 := hid_in (fun W (x : ByteArray) (hx : x.size ≤ 1048576) (y : GK W) (v : ErrT W) => frameGetI k m x W y v (by omega) (by omega) hx)
      have T1 := hid_in (fun W (x : ByteArray) (hx : x.size ≤ 1048576) => by have := tagS_any m x W (by omega) hx; rw [if_neg (by omega)] at this; exact this)
      cases hb : fgB k m s
      · rw [hb] at S I
        generalize fgT k m s = R at *
        clear I2 T1 hb
        go_wp2_with fail
        refine (I.out _ (HK.out.below D1.out HK.out.lt) (HE.out.later D1.out)).mono ?_
        rintro e w2 ⟨rfl, hb2⟩
        have D2 := hid_in (below_later D1.out hb2)
        clear hb2 D1
        go_wp2_with fail
        refine (S.out _).mono ?_
        rintro e w3 ⟨rfl, hb3⟩
        have D3 := hid_in (below_later D2.out hb3)
        clear hb3 D2
        go_wp2_with fail
        go_ret
        exact ⟨rfl, D3.out⟩
      · obtain ⟨x56, x140, _, _, _, hg1⟩ := fgB_of hb
        rw [hb] at S I
        generalize fgT k m s = R at *
        obtain ⟨kk, hkk⟩ : ∃ k, len2 % s.size = k := ⟨_, rfl⟩
        have hku : kk < s.size := by rw [← hkk]; exact Nat.mod_lt _ (by omega)
        obtain ⟨r, hr⟩ : ∃ r, len % 255 = r := ⟨_, rfl⟩
        have hr2 : r < 255 := by omega
        have e1 : (len2 : Int).tmod (s.size : Int) = (kk : Int) := by rw [Int.tmod_eq_emod_of_nonneg (by omega)]; omega
        have e2 : IntKind.i64.wrap (kk : Int) = (kk : Int) := by rw [IntKind.wrap_i64]; omega
        have e3 : (len : Int).tmod 255 = (r : Int) := by rw [Int.tmod_eq_emod_of_nonneg (by omega)]; omega
        have e4 : IntKind.i64.wrap (r : Int) = (r : Int) := by rw [IntKind.wrap_i64]; omega
        obtain ⟨d, hd'⟩ : ∃ d, r + 1 = d := ⟨_, rfl⟩
        have e5 : (1 : Int) + (r : Int) = (d : Int) := by omega
        have e6 : IntKind.i64.wrap (d : Int) = (d : Int) := by rw [IntKind.wrap_i64]; omega
        have e7 : IntKind.u8.wrap (d : Int) = (d : Int) := by rw [IntKind.wrap_u8]; omega
        have e8 : ¬ (s.size : Int) = 0 := by omega
        have e9 : (kk : Int) < (s.size : Int) := by omega
        have hd : d < 256 := by omega
        obtain ⟨v, hv⟩ : ∃ v, fgB k m (tnT s kk d) = v := ⟨_, rfl⟩
        have I2' := hid_in (fun W y z => I2.out W (tnT s kk d) (by rw [tnT_size]; omega) y z)
        rw [hv] at I2'
        obtain ⟨n, hn⟩ : ∃ n, s.size - 16 = n := ⟨_, rfl⟩
        rw [hn] at hg1
        have HG := hid_in (show v = true → kk < n ∧ tgT m ((tnT s kk d).extract 0 n) = tgT m (s.extract 0 n) from fun e => by
          have h2 := (fgB_of (hv.trans e)).2.2.2.2.2
          rw [tnT_size, hn] at h2
          exact tn_tail hd (by omega) hku (by omega) hg1 h2)
        have en : (s.size : Int) - 16 = (n : Int) := by omega
        have q1 : n ≤ s.size := by omega
        have q1' : (n : Int) ≤ s.size := by omega
        have hsz' : (s.size : Int) ≤ 140 := by omega
        have hms : (m.size : Int) ≤ 5 := by omega
        have T1' := hid_in (fun W => T1.out W (s.extract 0 n) (by rw [ByteArray.size_extract]; omega))
        have T2' := hid_in (fun W => T1.out W ((tnT s kk d).extract 0 n) (by rw [ByteArray.size_extract, tnT_size]; omega))
        clear T1 I2 hv hb hg1 hkk hr hd' hn
        generalize fgT k m (tnT s kk d) = R2 at *
        go_wp2_with fail
        refine (I.out _ (HK.out.below D1.out HK.out.lt) (HE.out.later D1.out)).mono ?_
        rintro e w2 ⟨rfl, hb2⟩
        have D2 := hid_in (below_later D1.out hb2)
        clear hb2 D1
        go_wp2_with fail
        refine (S.out _).mono ?_
        rintro e w3 ⟨rfl, hb3⟩
        have D3 := hid_in (below_later D2.out hb3)
        clear hb3 D2
        go_wp2_with fail
        obtain ⟨W4, c4, hcv, hz4, hcl, hfr, hc4, hb4⟩ := conv_newC s w3
        have bk := hcl kk hku
        have fk := hfr kk hku
        have HB4 := hid_in (below_later D3.out hb4)
        have HCL := hid_in hcl
        rw [hcv]
        have hsz := D3.out.size
        obtain ⟨hst, hb5⟩ := tn_set (c := c4) (k := kk) (d := d) (by omega) hku hcl HB4.out hsz
        have hc5 := fun W (hW : W.heap = (W4.setCell ⟨w3.heap.size, kk, none⟩ (.int .u8 (bits .xor .u8 (bt s kk) (d : Int)))).heap) => tn_cells (W := W) (k := kk) (d := d) hd hku hcl hW
        have HST := hid_in hst; have HB5 := hid_in hb5; have HC5 := hid_in hc5
        clear hb4 D3 hcl hfr hcv hst hb5 HB4 hc5
        go_wp2_with fail
        rw [HST.out]
        have hz5 : (W4.setCell ⟨w3.heap.size, kk, none⟩ (.int .u8 (bits .xor .u8 (bt s kk) (d : Int)))).heap.size = w3.heap.size + 1 := by simpa using hz4
        generalize W4.setCell _ _ = W5 at *
        have CC := hid_in (HC5.out W5 rfl)
        have Z5 := hid_in hz5
        clear HST HCL HC5 bk fk hz4 hz5
        go_wp2_with fail
        refine (I2'.out _ (HK.out.below HB5.out HK.out.lt) (HE.out.later HB5.out)).mono ?_
        rintro e w6 ⟨rfl, hb6⟩
        have HB6 := hid_in (below_later HB5.out hb6)
        have C6 := hid_in (fun j (hj : j < s.size) => (hb6.cell (p := ⟨w3.heap.size, j, none⟩) (by have := Z5.out; show w3.heap.size < _; omega)).trans (CC.out j hj))
        have Z6 := hid_in (show w3.heap.size < w6.heap.size by have := Z5.out; have := hb6.size; omega)
        clear hb6 HB5 I I2' S CC Z5
        have hnc : n ≤ c4 := by omega
        have hnc' : (n : Int) ≤ c4 := by omega
        cases v
        · go_wp2_with fail
          refine wp_region_lat (Below.refl _ _) (by kernel_rfl) (by kernel_rfl) ?_
          intro hne hcl
          repeat (go_big_quiet_step (first | (fail)))
          refine wpQuiet_nil ?_
          intro w1 hb1
          obtain ⟨hc1, hf1⟩ := bcell hb1
          clear hne hcl
          go_wp2_with fail
          go_ret
          exact ⟨rfl, below_later HB6.out hb1⟩
        · obtain ⟨hlt, heq⟩ := HG.out rfl
          have hlt' : (kk : Int) < (n : Int) := by omega
          rw [heq] at T2'
          generalize tgT m (s.extract 0 n) = G at *
          clear heq HG
          have cv1 : ∀ l : Lat w6, (convert 25 9 (.slice (some ⟨w3.heap.size, 0, none⟩) n c4)).run Tryz.prog l.x = .ok (.string ((tnT s kk d).extract 0 n)) l.x := fun l => tn_front hd q1 fun j hj => by rw [l.cell _ _ Z6.out]; exact C6.out j hj
          have cv2 : ∀ l : Lat w6.drew, (convert 25 9 (.slice (some ⟨w3.heap.size, 0, none⟩) n c4)).run Tryz.prog l.x = .ok (.string ((tnT s kk d).extract 0 n)) l.x := fun l => tn_front hd q1 fun j hj => by rw [l.cell _ _ Z6.out]; exact C6.out j hj
          generalize (tnT s kk d).extract 0 n = X2 at *
          go_wp2_with fail
          refine wp_region_lat (Below.refl _ _) (by kernel_rfl) (by kernel_rfl) ?_
          intro hne hcl
          repeat (go_big_quiet_step (first | (go_at_call_of 23 (Value.string X2); exact lat_of (T2'.out _)) | (go_at_call_of 23 (Value.string (s.extract 0 n)); exact lat_of (T1'.out _))))
          refine wpQuiet_nil ?_
          intro w1 hb1
          obtain ⟨hc1, hf1⟩ := bcell hb1
          clear hne hcl
          go_wp2_with fail
          go_ret
          exact ⟨rfl, below_later HB6.out hb1⟩
    · have hl2' : (1048576 : Int) < len2 := by omega
      go_enter Tryz.func6, Tryz.ntmps6
      go_wp2_with fail
      go_ret
      exact ⟨rfl, Below.refl _ _⟩
  · have hl' : (1048576 : Int) < len := by omega
    go_enter Tryz.func6, Tryz.ntmps6
    go_wp2_with fail
    go_ret
    exact ⟨rfl, Below.refl _ _⟩
end Go.Proofs.YtefmmopkikpnhaaGreatDoor

