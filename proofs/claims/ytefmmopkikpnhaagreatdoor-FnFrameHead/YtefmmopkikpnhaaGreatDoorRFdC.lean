/- What is proved: the contracts of FrdC, one behind the other. The conditions stand at each theorem. -/
import Derived.Test.YtefmmopkikpnhaaGreatDoorRFdB
namespace Go.Proofs.YtefmmopkikpnhaaGreatDoor
open Go.RowKit Go.LatT Go.BlockM Go.PlainAid Go.OpnT Go.ApdG Go.BytM Go.AesM Go.RowQ
set_option linter.unusedVariables false
set_option linter.unusedSimpArgs false
theorem fgB_of {key mac x : ByteArray} (h : fgB key mac x = true) : 56 ≤ x.size ∧ x.size ≤ 140 ∧ key.size = 16 ∧ 1 ≤ mac.size ∧ mac.size ≤ 64 ∧ x.extract (x.size - 16) x.size = tgT mac (x.extract 0 (x.size - 16)) := by
  unfold fgB at h
  simp only [Bool.and_eq_true, decide_eq_true_eq] at h
  obtain ⟨⟨⟨h1, h2⟩, h3⟩, _⟩ := h
  unfold fhB at h1
  simp only [Bool.and_eq_true] at h1
  obtain ⟨a, b⟩ := fszB_of h1.1
  obtain ⟨c, d, e⟩ := keysB_of h2
  exact ⟨a, b, c, d, e, h3⟩
set_option maxHeartbeats 2000000 in
set_option maxRecDepth 100000 in
theorem walk_FnFrameKey (a : Option Addr) (len cap : Nat) (z : List Int) (w : World) (h : RowC w a len cap z) (hE : ErrT w) (hK : GK w) :
    Calls Tryz.prog 7 #[.slice a len cap] w fun e w' => e = .returned (.bool true) ∧ Below w.heap.size w w' := by
  have hm : (len : Int) ≤ 9223372036854775807 := by
    rcases h with ⟨rfl, _⟩ | ⟨_, _, _, h1, h2, _⟩
    · omega
    · unfold maxLen at h2; omega
  have HR := hid_in h
  have HK := hid_in hK
  have HE := hid_in hE
  clear h hK hE
  by_cases hl : len ≤ 1048576
  · go_enter Tryz.func7, Tryz.ntmps7
    go_wp2_with fail
    refine (drawFrameGet a len cap z _ HR.out hl).mono ?_
    rintro e w1 ⟨k, m, s, rfl, hk, hm5, hs, hb1⟩
    have D1 := hid_in hb1
    clear hb1
    have S := hid_in (fun W => frameGetS k m s W (by omega) (by omega) (by omega))
    have I := hid_in (fun W (y : GK W) (v : ErrT W) => frameGetI k m s W y v (by omega) (by omega) (by omega))
    have hmz : (m ++ ⟨#[33]⟩ : ByteArray).size = m.size + 1 := by rw [ByteArray.size_append]; rfl
    have I2 := hid_in (fun W (y : GK W) (v : ErrT W) => frameGetI k (m ++ ⟨#[33]⟩) s W y v (by omega) (by omega) (by omega))
    have T1 := hid_in (fun W (x : ByteArray) (hx : x.size ≤ 1048576) => by have := tagS_any m x W (by omega) hx; rw [if_neg (by omega)] at this; exact this)
    have T2 := hid_in (fun W (x : ByteArray) (hx : x.size ≤ 1048576) => by have := tagS_any (m ++ ⟨#[33]⟩) x W (by omega) hx; rw [if_neg (by omega)] at this; exact this)
    cases hb : fgB k m s
    · rw [hb] at S I
      generalize fgT k m s = R at *
      clear I2 T1 T2 hb
      go_wp2_with fail
      refine (I.out _ (HK.out.below D1.out HK.out.lt) (HE.out.later D1.out)).mono ?_
      rintro e w2 ⟨rfl, hb2⟩
      have D2 := hid_in (below_later D1.out hb2)
      clear hb2 D1
      go_wp2_with fail
      refine (S.out _).mono ?_
      rintro e w3 ⟨rfl, hb3⟩
      have D3 := hid_in (below_later D2.out hb3)
      clear hb3 D2
      go_wp2_with fail
      go_ret
      exact ⟨rfl, D3.out⟩
    · obtain ⟨x56, x140, _, _, _, hg1⟩ := fgB_of hb
      rw [hb] at S I
      generalize fgT k m s = R at *
      obtain ⟨v, hv⟩ : ∃ v, fgB k (m ++ ⟨#[33]⟩) s = v := ⟨_, rfl⟩
      rw [hv] at I2
      generalize fgT k (m ++ ⟨#[33]⟩) s = R2 at *
      obtain ⟨n, hn⟩ : ∃ n, s.size - 16 = n := ⟨_, rfl⟩
      have en : (s.size : Int) - 16 = (n : Int) := by omega
      have q1 : n ≤ s.size := by omega
      have hsz' : (s.size : Int) ≤ 140 := by omega
      have hms : (m.size : Int) ≤ 5 := by omega
      rw [hn] at hg1
      have hxs : (s.extract 0 n).size ≤ 1048576 := by rw [ByteArray.size_extract]; omega
      have T1' := hid_in (fun W => T1.out W (s.extract 0 n) hxs)
      have T2' := hid_in (fun W => T2.out W (s.extract 0 n) hxs)
      have HG := hid_in (show v = true → tgT (m ++ ⟨#[33]⟩) (s.extract 0 n) = tgT m (s.extract 0 n) from fun e => by
        have h2 := (fgB_of (hv.trans e)).2.2.2.2.2
        rw [hn] at h2
        exact h2.symm.trans hg1)
      generalize tgT (m ++ ⟨#[33]⟩) (s.extract 0 n) = G2 at *
      generalize tgT m (s.extract 0 n) = G1 at *
      generalize hmm : m ++ ⟨#[33]⟩ = m2 at *
      clear T1 T2 hv hb hg1 hxs
      go_wp2_with fail
      refine (I.out _ (HK.out.below D1.out HK.out.lt) (HE.out.later D1.out)).mono ?_
      rintro e w2 ⟨rfl, hb2⟩
      have D2 := hid_in (below_later D1.out hb2)
      clear hb2 D1
      go_wp2_with fail
      refine (S.out _).mono ?_
      rintro e w3 ⟨rfl, hb3⟩
      have D3 := hid_in (below_later D2.out hb3)
      clear hb3 D2
      go_wp2_with fail
      refine (I2.out _ (HK.out.below D3.out HK.out.lt) (HE.out.later D3.out)).mono ?_
      rintro e w4 ⟨rfl, hb4⟩
      have D4 := hid_in (below_later D3.out hb4)
      clear hb4 D3
      generalize hw4 : w4 = w5 at *
      clear hw4
      cases v
      · go_wp2_with fail
        refine wp_region_lat (Below.refl _ _) (by kernel_rfl) (by kernel_rfl) ?_
        intro hne hcl
        repeat (go_big_quiet_step (first | (fail)))
        refine wpQuiet_nil ?_
        intro w1 hb1
        obtain ⟨hc1, hf1⟩ := bcell hb1
        clear hne hcl
        go_wp2_with fail
        go_ret
        exact ⟨rfl, below_later D4.out hb1⟩
      · have hgg := HG.out rfl
        subst hgg
        go_wp2_with fail
        refine wp_region_lat (Below.refl _ _) (by kernel_rfl) (by kernel_rfl) ?_
        intro hne hcl
        repeat (go_big_quiet_step (first | (go_at_call_of 23 (Value.string m2); exact lat_of (T2'.out _)) | (go_at_call_of 23 (Value.string m); exact lat_of (T1'.out _))))
        refine wpQuiet_nil ?_
        intro w1 hb1
        obtain ⟨hc1, hf1⟩ := bcell hb1
        clear hne hcl
        go_wp2_with fail
        go_ret
        exact ⟨rfl, below_later D4.out hb1⟩
  · have hl' : (1048576 : Int) < len := by omega
    go_enter Tryz.func7, Tryz.ntmps7
    go_wp2_with fail
    go_ret
    exact ⟨rfl, Below.refl _ _⟩
end Go.Proofs.YtefmmopkikpnhaaGreatDoor

