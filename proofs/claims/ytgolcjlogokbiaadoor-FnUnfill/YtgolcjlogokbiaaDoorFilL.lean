/- The laws of filling: bytes drawn, filled, and what comes back. The conditions stand at each theorem. -/
import Derived.Test.YtgolcjlogokbiaaDoorUnfB
import Derived.Test.YtgolcjlogokbiaaDoorDrwV
import Derived.Test.YtgolcjlogokbiaaDoorDrwW
namespace Go.Proofs.YtgolcjlogokbiaaDoor
open Go.RowKit Go.LatT Go.BlockM Go.PlainAid Go.OpnT Go.RegE Go.ApdG Go.BytM
set_option linter.unusedVariables false
set_option linter.unusedSimpArgs false
set_option maxHeartbeats 1000000 in
set_option maxRecDepth 100000 in
theorem drawFill (a : Option Addr) (len cap : Nat) (z : List Int) (w : World) (h : RowC w a len cap z) (hl : len ≤ 1048576) :
    Calls Tryd.prog 9 #[.slice a len cap] w fun e w' => ∃ s : ByteArray, e = .returned (.string s) ∧ s.size ≤ 100 ∧ Below w.heap.size w w' := by
  have HR := hid_in h
  clear h
  go_enter Tryd.func9, Tryd.ntmps9
  go_wp2_with fail
  refine (l1OpenC a len cap z _ HR.out hl).mono ?_
  rintro e w1 ⟨sl, rfl, h1, hb1⟩
  have H1 := hid_in h1; have HB := hid_in hb1
  clear h1 hb1
  go_wp2_with fail
  refine (pickM _ sl 0 40 _ H1.out (by omega) (by omega) (by omega) (by omega)).mono ?_
  rintro e w2 ⟨u2, rfl, a2, b2, h2, m2⟩
  have H2 := hid_in h2; have M2 := hid_in m2; clear h2 m2 H1
  go_wp2_with fail
  refine (oneN _ sl _ [0, 1, 15, 16, 17, u2] 6 _ 3 w2 rfl rfl H2.out (by omega) (by omega) (by simp) (by simp)).mono ?_
  rintro e w3 ⟨u3, rfl, hu3, h3, m3⟩
  have H3 := hid_in h3; have M3 := hid_in (M2.out.trans m3); clear h3 m3 H2 M2
  have hu4 : 0 ≤ u3 ∧ u3 ≤ 40 := by
    simp only [List.mem_cons, List.not_mem_nil, or_false] at hu3
    omega
  clear hu3
  obtain ⟨n, rfl⟩ := Int.eq_ofNat_of_zero_le hu4.1
  go_wp2_with fail
  refine (l12Bytes_any _ sl _ n _ H3.out (by omega) (by omega) (by omega)).mono ?_
  rintro e w4 ⟨l, rfl, hl4, _, m4⟩
  have HL := hid_in hl4; have M4 := hid_in (M3.out.trans m4); clear hl4 m4
  go_wp2_with fail
  go_ret
  exact ⟨_, rfl, by show l.length ≤ 100; rw [HL.out]; omega, below_mv HB.out (Nat.le_refl _) M4.out⟩
set_option maxHeartbeats 1000000 in
set_option maxRecDepth 100000 in
theorem drawUnfill (a : Option Addr) (len cap : Nat) (z : List Int) (w : World) (h : RowC w a len cap z) (hl : len ≤ 1048576) :
    Calls Tryd.prog 13 #[.slice a len cap] w fun e w' => ∃ s : ByteArray, e = .returned (.string s) ∧ s.size ≤ 2000 ∧ Below w.heap.size w w' := by
  have HR := hid_in h
  clear h
  go_enter Tryd.func13, Tryd.ntmps13
  go_wp2_with fail
  refine (l1OpenC a len cap z _ HR.out hl).mono ?_
  rintro e w1 ⟨sl, rfl, h1, hb1⟩
  have H1 := hid_in h1; have HB := hid_in hb1
  clear h1 hb1
  go_wp2_with fail
  refine (pickM _ sl 0 20 _ H1.out (by omega) (by omega) (by omega) (by omega)).mono ?_
  rintro e w2 ⟨u2, rfl, a2, b2, h2, m2⟩
  have H2 := hid_in h2; have M2 := hid_in m2; clear h2 m2 H1
  obtain ⟨n, rfl⟩ := Int.eq_ofNat_of_zero_le a2
  go_wp2_with fail
  refine (l12Bytes_any _ sl _ n _ H2.out (by omega) (by omega) (by omega)).mono ?_
  rintro e w4 ⟨l, rfl, hl4, ⟨q, hq1, hq2, h4⟩, m4⟩
  have H4 := hid_in h4; have M4 := hid_in (M2.out.trans m4); clear h4 m4 H2 M2
  obtain ⟨x, hx, hxz⟩ : ∃ x : ByteArray, x = ⟨l.toArray⟩ ∧ x.size ≤ 20 := ⟨_, rfl, by show l.length ≤ 20; omega⟩
  rw [← hx]
  have hfz := fillL_len (bl x)
  rw [bl_len] at hfz
  obtain ⟨y, hy, hyz⟩ : ∃ y : ByteArray, y = ⟨(fillL (bl x)).toArray⟩ ∧ y.size ≤ 100 := ⟨_, rfl, by show (fillL (bl x)).length ≤ 100; omega⟩
  have F := fun w => fillS x w (by omega)
  rw [← hy] at F
  have HF := hid_in F
  clear F hy hfz hx hl4
  go_wp2_with fail
  refine (HF.out _).mono ?_
  rintro e w5 ⟨rfl, hb5⟩
  have H5 := hid_in (H4.out.later hb5); have M5 := hid_in (M4.out.trans (Mv.of_below hb5)); clear hb5 H4 M4
  go_wp2_with fail
  refine (l12Cut_any _ sl q y _ H5.out (by omega) (by omega) (by omega)).mono ?_
  rintro e w6 ⟨u, rfl, hu, m6⟩
  have M6 := hid_in (M5.out.trans m6); clear m6
  go_wp2_with fail
  go_ret
  exact ⟨u, rfl, hu, below_mv HB.out (Nat.le_refl _) M6.out⟩
/-- What was filled comes back. -/
theorem unf_fill (s x : ByteArray) (h : x = ⟨(fillL (bl s)).toArray⟩) : unfB x = true ∧ unfT x = s := by
  have hbl : bl x = fillL (bl s) := by rw [h, bl_of]
  have hsz : x.size = s.size + (16 - s.size % 16) := by rw [← bl_len x, hbl, fillL_len, bl_len]
  have hlast : lastN x = 16 - s.size % 16 := by
    have h1 := fillL_last (bl s)
    rw [← hbl, bl_len, List.getLast?_eq_getElem?, bl_len] at h1
    obtain ⟨h2, h3⟩ := List.getElem?_eq_some_iff.1 h1
    have h4 : x.size - 1 < x.size := by omega
    have h5 : bt x (x.size - 1) = ((16 - s.size % 16 : Nat) : Int) := by
      unfold bt
      rw [dif_pos h4]
      have : (x[x.size - 1]'h4) = UInt8.ofNat (16 - s.size % 16) := h3
      rw [this]
      simp
      omega
    unfold lastN
    rw [h5]; rfl
  have hex : x.extract 0 (x.size - lastN x) = s := by
    apply bl_inj
    rw [take_extract, hlast, hsz, hbl, show s.size + (16 - s.size % 16) - (16 - s.size % 16) = s.size by omega, fillL, List.take_append_of_le_length (by rw [bl_len]; omega), List.take_of_length_le (by rw [bl_len]; omega)]
  have hB : unfB x = true := by
    unfold unfB
    have a1 : x.size ≠ 0 := by omega
    have a2 : 1 ≤ lastN x := by omega
    have a3 : lastN x ≤ x.size := by omega
    rw [hex, ← h, decide_eq_true a1, decide_eq_true a2, decide_eq_true a3, decide_eq_true rfl]
    rfl
  exact ⟨hB, by unfold unfT; rw [hB, hex]; rfl⟩
set_option maxHeartbeats 2000000 in
set_option maxRecDepth 100000 in
theorem walk_FnFill (a : Option Addr) (len cap : Nat) (z : List Int) (w : World) (h : RowC w a len cap z) (hE : ErrT w) :
    Calls Tryd.prog 3 #[.slice a len cap] w fun e w' => e = .returned (.bool true) ∧ Below w.heap.size w w' := by
  have hm : (len : Int) ≤ 9223372036854775807 := by
    rcases h with ⟨rfl, _⟩ | ⟨_, _, _, h1, h2, _⟩
    · omega
    · unfold maxLen at h2; omega
  have HR := hid_in h
  have HE := hid_in hE
  clear h hE
  by_cases hl : len ≤ 1048576
  · go_enter Tryd.func3, Tryd.ntmps3
    go_wp2_with fail
    refine (drawFill a len cap z _ HR.out hl).mono ?_
    rintro e w1 ⟨s, rfl, hs, hb1⟩
    have HB := hid_in hb1
    clear hb1
    obtain ⟨x, hx⟩ : ∃ x : ByteArray, x = ⟨(fillL (bl s)).toArray⟩ := ⟨_, rfl⟩
    have FI := fun w => fillI s w (by omega)
    have FS := fun w => fillS s w (by omega)
    rw [← hx] at FI FS
    have hu := unf_fill s x hx
    have hsz : x.size = s.size + (16 - s.size % 16) := by rw [hx]; show (fillL (bl s)).length = _; rw [fillL_len, bl_len]
    have hpre : (x.extract 0 s.size) = s := by
      apply bl_inj
      rw [take_extract, hx, bl_of, fillL, List.take_append_of_le_length (by rw [bl_len]; omega), List.take_of_length_le (by rw [bl_len]; omega)]
    have UI := fun w hE => unfillI x w (by omega) hE _ _ hu.1 hu.2
    have HFI := hid_in FI; have HFS := hid_in FS; have HUI := hid_in UI
    clear FI FS UI hu hx
    have q1 : (x.size : Int) % 16 = 0 := by omega
    have q2 : (s.size : Int) < x.size := by omega
    have q3 : (x.size : Int) ≤ s.size + 16 := by omega
    clear hsz
    go_wp2_with fail
    refine (HFI.out _).mono ?_
    rintro e w2 ⟨rfl, hb2⟩
    have HB2 := hid_in (below_later HB.out hb2); clear hb2
    go_wp2_with fail
    refine (HUI.out _ (HE.out.later HB2.out)).mono ?_
    rintro e w3 ⟨rfl, hb3⟩
    have HB3 := hid_in (below_later HB2.out hb3); clear hb3
    go_wp2_with fail
    refine (HFS.out _).mono ?_
    rintro e w4 ⟨rfl, hb4⟩
    have HB4 := hid_in (below_later HB3.out hb4); clear hb4
    go_wp2_with fail
    go_ret
    exact ⟨rfl, HB4.out⟩
  · have hl' : (1048576 : Int) < len := by omega
    go_enter Tryd.func3, Tryd.ntmps3
    go_wp2_with fail
    go_ret
    exact ⟨rfl, Below.refl _ _⟩
/-- What is taken as filled is filled. -/
theorem fill_unf (s : ByteArray) (h : unfB s = true) : (⟨(fillL (bl (unfT s))).toArray⟩ : ByteArray) = s := by
  have h2 := h
  unfold unfB at h2
  simp only [Bool.and_eq_true, decide_eq_true_eq] at h2
  unfold unfT
  rw [h]
  exact h2.2
theorem unfT_size (s : ByteArray) : (unfT s).size ≤ s.size := by
  unfold unfT
  split
  · rw [ByteArray.size_extract]; omega
  · exact Nat.zero_le _
set_option maxHeartbeats 2000000 in
set_option maxRecDepth 100000 in
theorem walk_FnUnfill (a : Option Addr) (len cap : Nat) (z : List Int) (w : World) (h : RowC w a len cap z) (hE : ErrT w) :
    Calls Tryd.prog 4 #[.slice a len cap] w fun e w' => e = .returned (.bool true) ∧ Below w.heap.size w w' := by
  have hm : (len : Int) ≤ 9223372036854775807 := by
    rcases h with ⟨rfl, _⟩ | ⟨_, _, _, h1, h2, _⟩
    · omega
    · unfold maxLen at h2; omega
  have HR := hid_in h
  have HE := hid_in hE
  clear h hE
  by_cases hl : len ≤ 1048576
  · go_enter Tryd.func4, Tryd.ntmps4
    go_wp2_with fail
    refine (drawUnfill a len cap z _ HR.out hl).mono ?_
    rintro e w1 ⟨s, rfl, hs, hb1⟩
    have HB := hid_in hb1
    clear hb1
    obtain ⟨b, hb⟩ : ∃ b, unfB s = b := ⟨_, rfl⟩
    obtain ⟨t, ht⟩ : ∃ t, unfT s = t := ⟨_, rfl⟩
    have htz : t.size ≤ 2000 := by rw [← ht]; have := unfT_size s; omega
    have UI := hid_in (fun w hE => unfillI s w (by omega) hE b t hb ht)
    have US := hid_in (fun w => unfillS s w (by omega) b t hb ht)
    cases b
    · have et : t = ⟨#[]⟩ := by rw [← ht, unfT, hb]; rfl
      subst et
      clear hb ht
      go_wp2_with fail
      refine (UI.out _ (HE.out.later HB.out)).mono ?_
      rintro e w2 ⟨rfl, hb2⟩
      have HB2 := hid_in (below_later HB.out hb2); clear hb2
      go_wp2_with fail
      refine (US.out _).mono ?_
      rintro e w3 ⟨rfl, hb3⟩
      have HB3 := hid_in (below_later HB2.out hb3); clear hb3
      go_wp2_with fail
      go_ret
      exact ⟨rfl, HB3.out⟩
    · have ef := fill_unf s hb
      rw [ht] at ef
      have FI := fun w => fillI t w (by omega)
      rw [ef] at FI
      have HF := hid_in FI
      clear FI ef hb ht
      go_wp2_with fail
      refine (UI.out _ (HE.out.later HB.out)).mono ?_
      rintro e w2 ⟨rfl, hb2⟩
      have HB2 := hid_in (below_later HB.out hb2); clear hb2
      go_wp2_with fail
      refine (US.out _).mono ?_
      rintro e w3 ⟨rfl, hb3⟩
      have HB3 := hid_in (below_later HB2.out hb3); clear hb3
      go_wp2_with fail
      refine (HF.out _).mono ?_
      rintro e w4 ⟨rfl, hb4⟩
      have HB4 := hid_in (below_later HB3.out hb4); clear hb4
      go_wp2_with fail
      go_ret
      exact ⟨rfl, HB4.out⟩
  · have hl' : (1048576 : Int) < len := by omega
    go_enter Tryd.func4, Tryd.ntmps4
    go_wp2_with fail
    go_ret
    exact ⟨rfl, Below.refl _ _⟩
end Go.Proofs.YtgolcjlogokbiaaDoor
