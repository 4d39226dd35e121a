/- Bytes filled to whole blocks, in the program and in the specification, as contracts. The conditions stand at each theorem. -/
import Derived.Test.YtgolcjlogokbiaaDoorBytA
import Derived.Test.YtgolcjlogokbiaaDoorShelf
namespace Go.Proofs.YtgolcjlogokbiaaDoor
open Go.RowKit Go.LatT Go.BlockM Go.PlainAid Go.OpnT Go.ApdG Go.BytM
set_option linter.unusedVariables false
set_option linter.unusedSimpArgs false
theorem ret_str {a b : ByteArray} (h : a = b) : Ending.returned (.string a) = .returned (.string b) := by rw [h]
/-- So many copies. -/
def rep (l : List UInt8) : Nat → List UInt8
  | 0 => []
  | n + 1 => l ++ rep l n
theorem rep_add (l : List UInt8) : ∀ a b, rep l (a + b) = rep l a ++ rep l b
  | 0, b => by simp [rep]
  | a + 1, b => by rw [Nat.add_right_comm, rep, rep, rep_add l a b, List.append_assoc]
theorem rep_twice (l : List UInt8) : ∀ n, rep (l ++ l) n = rep l (2 * n)
  | 0 => rfl
  | n + 1 => by rw [rep, rep_twice l n, show 2 * (n + 1) = 2 * n + 1 + 1 by omega, rep, rep, List.append_assoc]
theorem rep_len (l : List UInt8) : ∀ n, (rep l n).length = n * l.length
  | 0 => by simp [rep]
  | n + 1 => by rw [rep, List.length_append, rep_len l n, Nat.succ_mul]; omega
theorem repeatL_eq (l : List UInt8) : ∀ n, Lib.repeatL l n = rep l n
  | 0 => rfl
  | n + 1 => by
    have h := repeatL_eq l n
    first | (show l ++ Lib.repeatL l n = _; rw [h]; rfl) | (simp [Lib.repeatL, rep, ← h])
theorem two_mul_div (a k : Nat) (h : a * k ≤ 1000000) : (a + a) * (k / 2) ≤ 1000000 := by
  have h1 : (a + a) * (k / 2) = a * (2 * (k / 2)) := by rw [← Nat.two_mul, Nat.mul_comm 2, Nat.mul_assoc]
  rw [h1]
  exact Nat.le_trans (Nat.mul_le_mul_left a (by omega)) h
theorem le_of_mul (a k : Nat) (h : a * k ≤ 1000000) (hk : k ≠ 0) : a ≤ 1000000 := Nat.le_trans (Nat.le_mul_of_pos_right a (by omega)) h
set_option maxHeartbeats 2000000 in
set_option maxRecDepth 100000 in
theorem l1Many_any (s : ByteArray) (n : Nat) (w : World) (hs : s.size * n ≤ 1000000) (hs1 : s.size ≤ 2000000) (hn : n ≤ 1000000) :
    Calls Tryd.prog 34 #[.string s, .int .i64 (n : Int)] w fun e w' => e = .returned (.string ⟨(rep (bl s) n).toArray⟩) ∧ w' = w := by
  go_enter Tryd.func34, Tryd.ntmps34
  go_wp2_with fail
  go_loop [0, 1, 5] (fun a b o => ∃ (t u : ByteArray) (k : Nat), a = .string t ∧ b = .int .i64 (k : Int) ∧ o = .string u ∧ k ≤ n ∧ t.size ≤ 2000000 ∧ Hid (t.size * k ≤ 1000000) ∧ Hid (bl u ++ rep (bl t) k = rep (bl s) n)) (fun _ b _ => (intOf b).toNat)
  case atStart =>
    refine ⟨s, ⟨#[]⟩, n, rfl, rfl, rfl, Nat.le_refl _, hs1, hs, ?_⟩
    show _ = _
    simp [bl]
  case round =>
    obtain ⟨t, u, k, rfl, rfl, rfl, hk, ht1, HT, HR⟩ := hrel
    have hu : u.size ≤ 1000000 := by
      have h := congrArg List.length HR.out
      rw [List.length_append, rep_len, rep_len, bl_len, bl_len, bl_len, Nat.mul_comm n] at h
      omega
    clear hs
    by_cases h0 : k = 0
    · subst h0
      go_wp2_with fail
      go_ret
      refine ⟨ret_str ?_, rfl⟩
      have h := HR.out
      simp [rep] at h
      rw [← h, of_bl]
    · rcases Nat.mod_two_eq_zero_or_one k with h2 | h2
      · go_wp2_with fail
        refine ⟨⟨t ++ t, u, k / 2, rfl, by simp, rfl, by omega, ?_, ?_, ?_⟩, by simp [intOf]; omega⟩
        · rw [ByteArray.size_append]; have := le_of_mul _ _ HT.out h0; omega
        · show _ ≤ _
          rw [ByteArray.size_append]; exact two_mul_div _ _ HT.out
        · show _ = _
          rw [bl_append, rep_twice, show 2 * (k / 2) = k by omega]
          exact HR.out
      · go_wp2_with fail
        refine ⟨⟨t ++ t, u ++ t, k / 2, rfl, by simp, rfl, by omega, ?_, ?_, ?_⟩, by simp [intOf]; omega⟩
        · rw [ByteArray.size_append]; have := le_of_mul _ _ HT.out h0; omega
        · show _ ≤ _
          rw [ByteArray.size_append]; exact two_mul_div _ _ HT.out
        · show _ = _
          rw [bl_append, bl_append, rep_twice, ← HR.out]
          obtain ⟨m, rfl⟩ : ∃ m, k = 2 * m + 1 := ⟨k / 2, by omega⟩
          rw [show 2 * ((2 * m + 1) / 2) = 2 * m by omega, rep, List.append_assoc]
/-- Bytes filled to whole blocks. -/
def fillL (l : List UInt8) : List UInt8 := l ++ rep [UInt8.ofNat (16 - l.length % 16)] (16 - l.length % 16)
theorem fill_eq (s : ByteArray) (m : Nat) (h : 16 - s.size % 16 = m) : s ++ (⟨(rep (bl ⟨[UInt8.ofNat m].toArray⟩) m).toArray⟩ : ByteArray) = ⟨(fillL (bl s)).toArray⟩ := by
  apply bl_inj
  have e1 : bl (⟨(fillL (bl s)).toArray⟩ : ByteArray) = fillL (bl s) := bl_of _
  have e2 : bl (⟨[UInt8.ofNat m].toArray⟩ : ByteArray) = [UInt8.ofNat m] := bl_of _
  rw [bl_append, e1, e2, fillL, bl_len, h]
  congr 1
theorem be_one (n : Nat) : be 1 n = [UInt8.ofNat n] := by simp [be]
set_option maxHeartbeats 1000000 in
set_option maxRecDepth 100000 in
theorem fillS (s : ByteArray) (w : World) (hs : s.size ≤ 1048576) :
    Calls Tryd.prog 12 #[.string s] w fun e w' => e = .returned (.string ⟨(fillL (bl s)).toArray⟩) ∧ Below w.heap.size w w' := by
  obtain ⟨m, hm⟩ : ∃ m, 16 - s.size % 16 = m := ⟨_, rfl⟩
  have hm1 : m ≤ 16 := by omega
  have HM := hid_in hm
  have e1 : (16 : Int) - (s.size : Int) % 16 = (m : Int) := by omega
  clear hm
  go_enter Tryd.func12, Tryd.ntmps12
  go_wp2_with fail
  refine (l8Bytes_any m 1 _ (by omega) (by omega)).mono ?_
  rintro e w1 ⟨rfl, hb1⟩
  rw [be_one]
  go_wp2_with fail
  refine (l1Many_any ⟨[UInt8.ofNat m].toArray⟩ m _ (by simp [ByteArray.size]; omega) (by simp [ByteArray.size]) (by omega)).mono ?_
  rintro e w2 ⟨rfl, rfl⟩
  have hsz : (⟨(rep (bl ⟨[UInt8.ofNat m].toArray⟩) m).toArray⟩ : ByteArray).size ≤ 16 := by simp [ByteArray.size, rep_len, bl]; omega
  have H := hid_in (fill_eq s m HM.out)
  generalize (⟨(rep (bl ⟨[UInt8.ofNat m].toArray⟩) m).toArray⟩ : ByteArray) = R at hsz H ⊢
  go_wp2_with fail
  go_ret
  exact ⟨ret_str H.out, hb1⟩
set_option maxHeartbeats 1000000 in
set_option maxRecDepth 100000 in
theorem fillI (s : ByteArray) (w : World) (hs : s.size ≤ 1048576) :
    Calls Tryd.prog 10 #[.string s] w fun e w' => e = .returned (.string ⟨(fillL (bl s)).toArray⟩) ∧ Below w.heap.size w w' := by
  obtain ⟨m, hm⟩ : ∃ m, 16 - s.size % 16 = m := ⟨_, rfl⟩
  have hm1 : m ≤ 16 := by omega
  have HM := hid_in hm
  have e1 : (16 : Int) - (s.size : Int) % 16 = (m : Int) := by omega
  clear hm
  go_enter Tryd.func10, Tryd.ntmps10
  go_wp2_with fail
  refine (bytesOf_any m 1 _ (by omega) (by omega)).mono ?_
  rintro e w1 ⟨rfl, hb1⟩
  rw [be_one]
  go_wp2_with fail
  refine (Tryd.strings_Repeat ⟨[UInt8.ofNat m].toArray⟩ m _ (by omega) (by simp [ByteArray.size]; omega)).mono ?_
  rintro e w2 ⟨rfl, hb2⟩
  rw [repeatL_eq]
  have hsz : (⟨(rep (bl ⟨[UInt8.ofNat m].toArray⟩) m).toArray⟩ : ByteArray).size ≤ 16 := by simp [ByteArray.size, rep_len, bl]; omega
  have H := hid_in (fill_eq s m HM.out)
  change ByteArray.size ⟨(rep [UInt8.ofNat m] m).toArray⟩ ≤ 16 at hsz
  change Hid (s ++ ⟨(rep [UInt8.ofNat m] m).toArray⟩ = _) at H
  go_wp2_with fail
  go_ret
  exact ⟨ret_str H.out, below_later hb1 hb2⟩
end Go.Proofs.YtgolcjlogokbiaaDoor
