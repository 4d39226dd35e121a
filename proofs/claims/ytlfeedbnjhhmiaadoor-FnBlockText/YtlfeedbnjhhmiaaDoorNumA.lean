/- Numbers read from texts, in the program and in the specification, as contracts. The conditions stand at each theorem. -/
import Derived.Test.YtlfeedbnjhhmiaaDoorBlkA
import Derived.Test.YtlfeedbnjhhmiaaDoorLat
import Derived.Test.YtlfeedbnjhhmiaaDoorMath
import Derived.WalkKit
import Derived.WalkSpells
import Derived.WalkLawsBesides
import Derived.BigQuiet
import Derived.Handy
import Derived.PlainAid
namespace Go.Proofs.YtlfeedbnjhhmiaaDoor
open Go.RowKit Go.LatT Go.BlockM Go.PlainAid
set_option linter.unusedVariables false
set_option linter.unusedSimpArgs false
/-- The number that the first bytes are, read as figures. -/
def valK (B : Nat → Int) : Nat → Int
  | 0 => 0
  | k + 1 => valK B k * 10 + (B k - 48)
/-- All of the first n bytes are figures. -/
def DigK (B : Nat → Int) (n : Nat) : Prop := ∀ k, k < n → 48 ≤ B k ∧ B k ≤ 57
/-- A text is a number, without noughts ahead. -/
def Plain (B : Nat → Int) (n : Nat) : Prop := n ≠ 0 ∧ ¬ (1 < n ∧ B 0 = 48) ∧ DigK B n
theorem valK_nonneg {B : Nat → Int} : ∀ {n : Nat}, DigK B n → 0 ≤ valK B n
  | 0, _ => Int.le_refl _
  | n + 1, h => by
    have h1 := valK_nonneg (B := B) (n := n) (fun k hk => h k (by omega))
    have h2 := h n (by omega)
    simp only [valK]
    omega
theorem valK_mono {B : Nat → Int} {n : Nat} (h : DigK B (n + 1)) : valK B n ≤ valK B (n + 1) := by
  have h1 := valK_nonneg (B := B) (n := n) (fun k hk => h k (by omega))
  have h2 := h n (by omega)
  simp only [valK]
  omega
theorem valK_le {B : Nat → Int} {k : Nat} : ∀ {n : Nat}, DigK B n → k ≤ n → valK B k ≤ valK B n
  | 0, _, hk => by rw [show k = 0 by omega]; exact Int.le_refl _
  | n + 1, h, hk => by
    by_cases e : k = n + 1
    · rw [e]; exact Int.le_refl _
    · exact Int.le_trans (valK_le (n := n) (fun k hk => h k (by omega)) (by omega)) (valK_mono h)
theorem valK_big {B : Nat → Int} {n : Nat} (h : DigK B n) (h0 : 49 ≤ B 0) (hn : 4 ≤ n) : 1000 ≤ valK B n := by
  refine Int.le_trans ?_ (valK_le h hn)
  have d1 := h 1 (by omega); have d2 := h 2 (by omega); have d3 := h 3 (by omega)
  simp only [valK]
  omega
theorem valK_bound {B : Nat → Int} : ∀ {n : Nat}, DigK B n → valK B n ≤ 10 ^ n - 1
  | 0, _ => by simp [valK]
  | n + 1, h => by
    have h1 := valK_bound (B := B) (n := n) (fun k hk => h k (by omega))
    have h2 := h n (by omega)
    simp only [valK]
    rw [Int.pow_succ]
    omega
/-- What is read of a text with a most. -/
def NumIs (B : Nat → Int) (n : Nat) (most : Int) (v : Int) (ok : Bool) : Prop := (ok = true ∧ Plain B n ∧ valK B n ≤ most ∧ v = valK B n) ∨ (ok = false ∧ v = 0 ∧ ¬ (Plain B n ∧ valK B n ≤ most))
theorem size_zero {s : ByteArray} (h : s.size = 0) : s = ⟨#[]⟩ := by
  apply ByteArray.ext
  exact Array.eq_empty_of_size_eq_zero h
theorem loop_len (bs : ByteArray) : ∀ (m i : Nat) (r : List UInt8), bs.size - i ≤ m → r.length ≤ (ByteArray.toList.loop bs i r).length
  | 0, i, r, h => by
    rw [ByteArray.toList.loop, if_neg (by omega)]
    simp
  | m + 1, i, r, h => by
    rw [ByteArray.toList.loop]
    split
    · exact Nat.le_trans (by simp) (loop_len bs m (i + 1) _ (by omega))
    · simp
theorem toList_some {s : ByteArray} (h : s.size ≠ 0) : s.toList.isEmpty = false := by
  have h1 : 1 ≤ s.toList.length := by
    rw [ByteArray.toList, ByteArray.toList.loop, if_pos (by omega)]
    exact Nat.le_trans (by simp) (loop_len s s.size 1 [s.get! 0] (by omega))
  cases e : s.toList with
  | nil => rw [e] at h1; simp at h1
  | cons a l => rfl
theorem not_empty {s : ByteArray} (h : s.size ≠ 0) : s ≠ ⟨#[]⟩ ∧ s ≠ ByteArray.empty := by
  have h1 : s ≠ ByteArray.empty := fun e => h (by rw [e]; rfl)
  exact ⟨h1, h1⟩
/-- What a reader of numbers hands back. -/
def NumPost (B : Nat → Int) (n : Nat) (most : Int) (e : Ending) : Prop := ∃ v ok, e = .returned (.tuple #[.int .i64 v, .bool ok]) ∧ NumIs B n most v ok
theorem NumPost.no {B : Nat → Int} {n : Nat} {most : Int} (h : ¬ (Plain B n ∧ valK B n ≤ most)) : NumPost B n most (.returned (.tuple #[.int .i64 0, .bool false])) := ⟨_, _, rfl, .inr ⟨rfl, rfl, h⟩⟩
theorem NumPost.yes {B : Nat → Int} {n : Nat} {most v : Int} (h : Plain B n) (h1 : valK B n ≤ most) (hv : v = valK B n) : NumPost B n most (.returned (.tuple #[.int .i64 v, .bool true])) := ⟨_, _, rfl, .inl ⟨rfl, h, h1, hv⟩⟩
set_option maxHeartbeats 2000000 in
set_option maxRecDepth 100000 in
theorem numberGet_any (s : ByteArray) (most : Int) (w : World) (hm0 : 0 ≤ most) (hm : most ≤ 1000000000) (hs : s.size ≤ 1048576) :
    Calls Tryd.prog 43 #[.string s, .int .i64 most] w fun e w' => NumPost (bt s) s.size most e ∧ w' = w := by
  have hb := get_bt s
  by_cases h0 : s.size = 0
  · have := size_zero h0
    subst this
    go_enter Tryd.func43, Tryd.ntmps43
    go_wp2_with fail
    go_returns
    exact ⟨NumPost.no fun h => h.1.1 rfl, rfl⟩
  · obtain ⟨h3, h4⟩ := not_empty h0
    have h1 := toList_some h0
    by_cases h5 : 1 < s.size ∧ bt s 0 = 48
    · obtain ⟨h5, h6⟩ := h5
      have H5 := hid_in h5
      have H6 := hid_in h6
      go_enter Tryd.func43, Tryd.ntmps43
      go_wp2_with fail
      go_returns
      exact ⟨NumPost.no fun h => h.1.2.1 ⟨H5.out, H6.out⟩, rfl⟩
    · have H5 := hid_in h5
      have H0 := hid_in h0
      go_enter Tryd.func43, Tryd.ntmps43
      go_wp2_with fail
      all_goals
        clear h5
        go_loop [6, 22] (fun a v => ∃ k : Nat, k ≤ s.size ∧ v = .int .i64 (k : Int) ∧ a = .int .i64 (valK (bt s) k) ∧ Hid (DigK (bt s) k ∧ valK (bt s) k ≤ most)) (fun _ v => s.size - (intOf v).toNat)
        case atStart => exact ⟨0, by omega, rfl, rfl, by show _ ∧ _; exact ⟨fun k hk => by omega, hm0⟩⟩
        case round =>
          obtain ⟨k, hk, rfl, rfl, HW⟩ := hrel
          by_cases hlt : k < s.size
          · have hx0 := bt_nonneg s k
            have hx1 := bt_le s k
            have hv0 := valK_nonneg HW.out.1
            have hv1 := HW.out.2
            have E := hid_in (show valK (bt s) (k + 1) = valK (bt s) k * 10 + (bt s k - 48) from rfl)
            obtain ⟨x, hx⟩ : ∃ x, bt s k = x := ⟨_, rfl⟩
            obtain ⟨n, hn⟩ : ∃ n, valK (bt s) k = n := ⟨_, rfl⟩
            have HL := hid_in hlt
            have HX := hid_in hx
            have HN := hid_in hn
            rw [hx] at hx0 hx1
            rw [hn] at hv0 hv1
            by_cases hA : x < 48
            · have HA := hid_in hA
              go_wp2_with fail
              go_returns
              exact ⟨NumPost.no fun h => by have := h.1.2.2 k HL.out; rw [HX.out] at this; have := HA.out; omega, rfl⟩
            · by_cases hB : 57 < x
              · have HA := hid_in hB
                go_wp2_with fail
                go_returns
                exact ⟨NumPost.no fun h => by have := h.1.2.2 k HL.out; rw [HX.out] at this; have := HA.out; omega, rfl⟩
              · have e1 : IntKind.u8.wrap (x - 48) = x - 48 := by rw [IntKind.wrap_u8]; omega
                have HB := hid_in (show 48 ≤ x ∧ x ≤ 57 by omega)
                by_cases hC : most < n * 10 + (x - 48)
                · have HC := hid_in hC
                  go_wp2_with fail
                  go_returns
                  exact ⟨NumPost.no fun h => by have := valK_le h.1.2.2 (show k + 1 ≤ s.size from HL.out); rw [E.out, HX.out, HN.out] at this; have := HC.out; have := h.2; omega, rfl⟩
                · have HC := hid_in hC
                  go_wp2_with fail
                  go_round
                  case rel =>
                    refine ⟨k + 1, HL.out, by simp, ?_, ?_⟩
                    · rw [E.out, HX.out, HN.out]
                    · show _ ∧ _
                      refine ⟨fun j hj => ?_, ?_⟩
                      · by_cases hjk : j < k
                        · exact HW.out.1 j hjk
                        · rw [show j = k by omega, HX.out]; exact HB.out
                      · rw [E.out, HX.out, HN.out]; have := HC.out; omega
                  case measure => have := HL.out; simp [intOf]; omega
          · have e : k = s.size := by omega
            have HE := hid_in e
            clear e
            go_wp2_with fail
            go_returns
            exact ⟨NumPost.yes ⟨H0.out, H5.out, by rw [← HE.out]; exact HW.out.1⟩ (by rw [← HE.out]; exact HW.out.2) (by rw [HE.out]), rfl⟩
/-- What the specification's reader of numbers hands back. -/
def NumS (B : Nat → Int) (n : Nat) (v : Int) : Prop := (Plain B n ∧ n ≤ 9 ∧ v = valK B n) ∨ (v = -1 ∧ ¬ (Plain B n ∧ n ≤ 9))
def NumSPost (B : Nat → Int) (n : Nat) (e : Ending) : Prop := ∃ v, e = .returned (.int .i64 v) ∧ NumS B n v
theorem NumSPost.no {B : Nat → Int} {n : Nat} (h : ¬ (Plain B n ∧ n ≤ 9)) : NumSPost B n (.returned (.int .i64 (-1))) := ⟨_, rfl, .inr ⟨rfl, h⟩⟩
theorem NumSPost.yes {B : Nat → Int} {n : Nat} {v : Int} (h : Plain B n) (h1 : n ≤ 9) (hv : v = valK B n) : NumSPost B n (.returned (.int .i64 v)) := ⟨_, rfl, .inl ⟨h, h1, hv⟩⟩
theorem valK_nine {B : Nat → Int} {n : Nat} (h : DigK B n) (hn : n ≤ 9) : valK B n ≤ 999999999 := by
  have h1 := valK_bound h
  have h2 : (10 : Int) ^ n ≤ 10 ^ 9 := by
    have : (10 : Nat) ^ n ≤ 10 ^ 9 := Nat.pow_le_pow_right (by omega) hn
    exact_mod_cast this
  have h3 : (10 : Int) ^ 9 = 1000000000 := by decide
  omega
set_option maxHeartbeats 2000000 in
set_option maxRecDepth 100000 in
theorem l1Num_any (s : ByteArray) (w : World) (hs : s.size ≤ 1048576) :
    Calls Tryd.prog 49 #[.string s] w fun e w' => NumSPost (bt s) s.size e ∧ w' = w := by
  have hb := get_bt s
  by_cases h0 : s.size = 0
  · have := size_zero h0
    subst this
    go_enter Tryd.func49, Tryd.ntmps49
    go_wp2_with fail
    go_returns
    exact ⟨NumSPost.no fun h => h.1.1 rfl, rfl⟩
  · have h1 : (s.size : Int) ≠ 0 := by omega
    by_cases h9 : 9 < s.size
    · have H9 := hid_in h9
      go_enter Tryd.func49, Tryd.ntmps49
      go_wp2_with fail
      all_goals
        go_returns
        exact ⟨NumSPost.no fun h => by have := H9.out; have := h.2; omega, rfl⟩
    · by_cases h5 : 1 < s.size ∧ bt s 0 = 48
      · obtain ⟨h5, h6⟩ := h5
        have H5 := hid_in h5
        have H6 := hid_in h6
        go_enter Tryd.func49, Tryd.ntmps49
        go_wp2_with fail
        all_goals
          go_returns
          exact ⟨NumSPost.no fun h => h.1.2.1 ⟨H5.out, H6.out⟩, rfl⟩
      · have H5 := hid_in h5
        have H0 := hid_in h0
        have H9 := hid_in h9
        go_enter Tryd.func49, Tryd.ntmps49
        go_wp2_with fail
        all_goals try (exfalso; have a := H5.out; have b := H0.out; have c := H9.out; simp only [beq_iff_eq] at *; omega)
        all_goals
          clear h5
          go_loop [3, 4] (fun a v => ∃ k : Nat, k ≤ s.size ∧ v = .int .i64 (k : Int) ∧ a = .int .i64 (valK (bt s) k) ∧ Hid (DigK (bt s) k)) (fun _ v => s.size - (intOf v).toNat)
          case atStart => exact ⟨0, by omega, rfl, rfl, by show ∀ _, _; exact fun k hk => by omega⟩
          case round =>
            obtain ⟨k, hk, rfl, rfl, HW⟩ := hrel
            by_cases hlt : k < s.size
            · have hx0 := bt_nonneg s k
              have hx1 := bt_le s k
              have hv0 := valK_nonneg HW.out
              have hv1 := valK_nine HW.out (by omega)
              have E := hid_in (show valK (bt s) (k + 1) = valK (bt s) k * 10 + (bt s k - 48) from rfl)
              obtain ⟨x, hx⟩ : ∃ x, bt s k = x := ⟨_, rfl⟩
              obtain ⟨n, hn⟩ : ∃ n, valK (bt s) k = n := ⟨_, rfl⟩
              have HL := hid_in hlt
              have HX := hid_in hx
              have HN := hid_in hn
              rw [hx] at hx0 hx1
              rw [hn] at hv0 hv1
              by_cases hA : x < 48
              · have HA := hid_in hA
                go_wp2_with fail
                go_returns
                exact ⟨NumSPost.no fun h => by have := h.1.2.2 k HL.out; rw [HX.out] at this; have := HA.out; omega, rfl⟩
              · by_cases hB : 57 < x
                · have HA := hid_in hB
                  go_wp2_with fail
                  go_returns
                  exact ⟨NumSPost.no fun h => by have := h.1.2.2 k HL.out; rw [HX.out] at this; have := HA.out; omega, rfl⟩
                · have e1 : IntKind.u8.wrap (x - 48) = x - 48 := by rw [IntKind.wrap_u8]; omega
                  have HB := hid_in (show 48 ≤ x ∧ x ≤ 57 by omega)
                  go_wp2_with fail
                  go_round
                  case rel =>
                    refine ⟨k + 1, HL.out, by simp, ?_, ?_⟩
                    · rw [E.out, HX.out, HN.out]
                    · show ∀ _, _
                      refine fun j hj => ?_
                      by_cases hjk : j < k
                      · exact HW.out j hjk
                      · rw [show j = k by omega, HX.out]; exact HB.out
                  case measure => have := HL.out; simp [intOf]; omega
            · have e : k = s.size := by omega
              have HE := hid_in e
              clear e
              go_wp2_with fail
              go_returns
              exact ⟨NumSPost.yes ⟨H0.out, H5.out, by rw [← HE.out]; exact HW.out⟩ (by have := H9.out; omega) (by rw [HE.out]), rfl⟩
end Go.Proofs.YtlfeedbnjhhmiaaDoor
