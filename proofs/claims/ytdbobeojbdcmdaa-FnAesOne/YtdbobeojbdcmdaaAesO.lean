/- Unlike texts are turned to unlike ones: the walk of the law FnAesOne. The conditions stand at each theorem. -/
import Derived.Test.YtdbobeojbdcmdaaAesL
namespace Go.Proofs.Ytdbobeojbdcmdaa
open Go.RowKit Go.LatT Go.BlockM Go.PlainAid Go.OpnT Go.ApdG Go.BytM Go.AesM Go.RegE
set_option linter.unusedVariables false
set_option linter.unusedSimpArgs false
theorem loop_eq (s : ByteArray) : ∀ k i r, s.size - i = k → ByteArray.toList.loop s i r = r.reverse ++ (bl s).drop i
  | 0, i, r, h => by
    rw [ByteArray.toList.loop, if_neg (by omega), List.drop_of_length_le (by rw [bl_len]; omega), List.append_nil]
  | k + 1, i, r, h => by
    have hi : i < s.size := by omega
    rw [ByteArray.toList.loop, if_pos hi, loop_eq s k (i + 1) _ (by omega)]
    have hl : i < (bl s).length := by rw [bl_len]; exact hi
    rw [List.drop_eq_getElem_cons hl]
    have hg : s.get! i = (bl s)[i] := by
      cases s with
      | mk d =>
        have hd : i < d.size := hi
        simp [ByteArray.get!, bl, hd]
    rw [hg]
    simp
theorem toList_eq (s : ByteArray) : s.toList = bl s := by
  unfold ByteArray.toList
  rw [loop_eq s s.size 0 [] (by omega)]
  simp
theorem toList_ne {x y : ByteArray} (h : x ≠ y) : ¬ x.toList = y.toList ∧ (x.toList == y.toList) = false := by
  have : ¬ x.toList = y.toList := by rw [toList_eq, toList_eq]; exact fun e => h (bl_inj e)
  exact ⟨this, by simpa using this⟩
theorem toList_nil {x : ByteArray} (h : x ≠ ⟨#[]⟩) : ¬ x.toList = [] ∧ x.toList.isEmpty = false ∧ (x.toList == []) = false := by
  have e : (⟨#[]⟩ : ByteArray).toList = [] := by rw [toList_eq]; rfl
  have h1 := (toList_ne h).1
  rw [e] at h1
  refine ⟨h1, ?_, ?_⟩
  · cases hx : x.toList with
    | nil => exact absurd hx h1
    | cons a l => rfl
  · simpa using h1
theorem putT_emp {s t : ByteArray} (h : ¬ (s.size = 16 ∧ t.size = 16)) : putT s t = ⟨#[]⟩ := by unfold putT; rw [if_neg h]
theorem putT_sz {s t : ByteArray} (hs : s.size = 16) (ht : t.size = 16) : (putT s t).size = 16 := by unfold putT; rw [if_pos ⟨hs, ht⟩, txt_size]
theorem putT_inj {s a b : ByteArray} (hs : s.size = 16) (ha : a.size = 16) (hb : b.size = 16) (e : putT s a = putT s b) : a = b := by
  rw [← get_put hs ha, e, get_put hs hb]
theorem ne_emp {x : ByteArray} (h : x.size = 16) : x ≠ ⟨#[]⟩ := by intro e; rw [e] at h; simp [ByteArray.size] at h
set_option maxHeartbeats 2000000 in
set_option maxRecDepth 100000 in
theorem walk_FnAesOne (a : Option Addr) (len cap : Nat) (z : List Int) (a2 : Option Addr) (len2 cap2 : Nat) (z2 : List Int) (w : World) (h : RowC w a len cap z) (h2 : RowC w a2 len2 cap2 z2) :
    Calls Try.prog 10 #[.slice a len cap, .slice a2 len2 cap2] w fun e w' => e = .returned (.bool true) ∧ Below w.heap.size w w' := by
  have hm : (len : Int) ≤ 9223372036854775807 := by
    rcases h with ⟨rfl, _⟩ | ⟨_, _, _, h1, h2, _⟩
    · omega
    · unfold maxLen at h2; omega
  have hm2 : (len2 : Int) ≤ 9223372036854775807 := by
    rcases h2 with ⟨rfl, _⟩ | ⟨_, _, _, h1, h2, _⟩
    · omega
    · unfold maxLen at h2; omega
  have HR := hid_in h; have HR2 := hid_in h2
  clear h h2
  by_cases hl : len ≤ 1048576
  · by_cases hl2 : len2 ≤ 1048576
    · go_enter Try.func10, Try.ntmps10
      go_wp2_with fail
      refine (drawAesPut a len cap z _ HR.out hl).mono ?_
      rintro e w1 ⟨s, t, rfl, hs, ht, hb1⟩
      have HB := hid_in hb1
      clear hb1
      go_wp2_with fail
      refine (drawAesPut a2 len2 cap2 z2 _ (HR2.out.later HB.out) hl2).mono ?_
      rintro e w2 ⟨s2, t2, rfl, hs2, ht2, hb2⟩
      have HB2 := hid_in (below_later HB.out hb2)
      clear hb2 HB
      have I1 := hid_in (fun w => putI s t w (by omega) (by omega))
      have I2 := hid_in (fun w => putI s t2 w (by omega) (by omega))
      have S1 := hid_in (fun w => putS s t w (by omega) (by omega))
      have S2 := hid_in (fun w => putS s t2 w (by omega) (by omega))
      go_wp2_with fail
      refine (I1.out _).mono ?_
      rintro e w3 ⟨rfl, hb3⟩
      have HB3 := hid_in (below_later HB2.out hb3)
      clear hb3 HB2
      go_wp2_with fail
      refine (I2.out _).mono ?_
      rintro e w4 ⟨rfl, hb4⟩
      have HB4 := hid_in (below_later HB3.out hb4)
      clear hb4 HB3
      go_wp2_with fail
      refine (S1.out _).mono ?_
      rintro e w5 ⟨rfl, hb5⟩
      have HB5 := hid_in (below_later HB4.out hb5)
      clear hb5 HB4
      go_wp2_with fail
      refine (S2.out _).mono ?_
      rintro e w6 ⟨rfl, hb6⟩
      have HB6 := hid_in (below_later HB5.out hb6)
      clear hb6 HB5
      by_cases c1 : s.size = 16 ∧ t.size = 16
      · by_cases c2 : s.size = 16 ∧ t2.size = 16
        · have z1 := putT_sz c1.1 c1.2
          have z3 := putT_sz c2.1 c2.2
          have n1 := ne_emp z1
          have n2 := ne_emp z3
          obtain ⟨m1, m1', m1''⟩ := toList_nil n1
          obtain ⟨m2, m2', m2''⟩ := toList_nil n2
          by_cases e12 : t = t2
          · subst e12
            clear I1 I2 S1 S2 c1 c2
            generalize putT s t = x at *
            go_wp2_with fail
            go_ret
            exact ⟨rfl, HB6.out⟩
          · have n3 : putT s t ≠ putT s t2 := fun e => e12 (putT_inj c1.1 c1.2 c2.2 e)
            obtain ⟨m3, m3'⟩ := toList_ne n3
            obtain ⟨m4, m4'⟩ := toList_ne e12
            clear I1 I2 S1 S2 c1 c2
            generalize putT s t = x at *
            generalize putT s t2 = y at *
            go_wp2_with fail
            go_ret
            exact ⟨rfl, HB6.out⟩
        · have e2 := putT_emp c2
          have z1 := putT_sz c1.1 c1.2
          have n1 := ne_emp z1
          obtain ⟨m1, m1', m1''⟩ := toList_nil n1
          rw [e2] at S2
          have hold : Hid (putT s t2 = ⟨#[]⟩) := e2
          clear I1 I2 c1 c2
          rw [e2]
          clear e2 hold
          generalize putT s t = x at *
          go_wp2_with fail
          refine (S1.out _).mono ?_
          rintro e w7 ⟨rfl, hb7⟩
          have HB7 := hid_in (below_later HB6.out hb7)
          clear hb7 HB6
          go_wp2_with fail
          refine (S2.out _).mono ?_
          rintro e w8 ⟨rfl, hb8⟩
          have HB8 := hid_in (below_later HB7.out hb8)
          clear hb8 HB7
          go_wp2_with fail
          go_ret
          exact ⟨rfl, HB8.out⟩
      · have e1 := putT_emp c1
        rw [e1] at S1
        clear I1 I2 c1
        rw [e1]
        clear e1
        generalize putT s t2 = y at *
        go_wp2_with fail
        refine (S1.out _).mono ?_
        rintro e w7 ⟨rfl, hb7⟩
        have HB7 := hid_in (below_later HB6.out hb7)
        clear hb7 HB6
        go_wp2_with fail
        refine (S2.out _).mono ?_
        rintro e w8 ⟨rfl, hb8⟩
        have HB8 := hid_in (below_later HB7.out hb8)
        clear hb8 HB7
        go_wp2_with fail
        go_ret
        exact ⟨rfl, HB8.out⟩
    · have hl' : (1048576 : Int) < len2 := by omega
      go_enter Try.func10, Try.ntmps10
      go_wp2_with fail
      go_ret
      exact ⟨rfl, Below.refl _ _⟩
  · have hl' : (1048576 : Int) < len := by omega
    go_enter Try.func10, Try.ntmps10
    go_wp2_with fail
    go_ret
    exact ⟨rfl, Below.refl _ _⟩
end Go.Proofs.Ytdbobeojbdcmdaa
