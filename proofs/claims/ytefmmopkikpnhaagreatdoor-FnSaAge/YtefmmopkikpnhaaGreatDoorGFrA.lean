/- What is proved: the contracts of BlkA, CelA, CalA, BytA, FilA, PakA, PakB, PkpA, one behind the other. The conditions stand at each theorem. -/
import Derived.Test.YtefmmopkikpnhaaGreatDoorProg
import Derived.Test.YtefmmopkikpnhaaGreatDoorGBas
import Derived.WalkKit
import Derived.WalkSpells
import Derived.WalkLawsBesides
import Derived.BigQuiet
import Derived.Deep.RegionWith
import Derived.Handy
import Derived.PlainAid
import Derived.Laws.IdiomStrings
import Derived.Laws.BytesArg
import Derived.Deep.RegionHeld3
import Derived.Test.YtefmmopkikpnhaaGreatDoorGHex
import Derived.Test.YtefmmopkikpnhaaGreatDoorGShB
import Derived.Test.YtefmmopkikpnhaaGreatDoorGAeB
import Derived.Test.YtefmmopkikpnhaaGreatDoorShelf
namespace Go.Proofs.YtefmmopkikpnhaaGreatDoor
open Go.RowKit Go.LatT Go.BlockM
set_option linter.unusedVariables false
set_option linter.unusedSimpArgs false
set_option maxHeartbeats 400000 in
set_option maxRecDepth 100000 in
theorem l1In_any (n lo hi : Int) (w : World) (v : Bool) (hv : inB n lo hi = v) :
    Calls Tryz.prog 57 #[.int .i64 n, .int .i64 lo, .int .i64 hi] w fun e w' => e = .returned (.bool v) ∧ w' = w := by
  subst hv
  by_cases h : lo ≤ n
  · go_enter Tryz.func57, Tryz.ntmps57
    go_wp2
    go_ret
    exact ⟨by simp [inB, h], rfl⟩
  · go_enter Tryz.func57, Tryz.ntmps57
    go_wp2
    go_ret
    exact ⟨by simp [inB]; omega, rfl⟩
end Go.Proofs.YtefmmopkikpnhaaGreatDoor

namespace Go.Proofs.YtefmmopkikpnhaaGreatDoor
open Go.RowKit Go.LatT Go.BlockM
set_option linter.unusedVariables false
set_option linter.unusedSimpArgs false
set_option maxHeartbeats 400000 in
set_option maxRecDepth 100000 in
theorem rhas_any (a b x : Int) (w : World) (v : Bool) (hv : inB x a b = v) :
    Calls Tryz.prog 90 #[.agg #[.int .i64 a, .int .i64 b], .int .i64 x] w fun e w' => e = .returned (.bool v) ∧ Below w.heap.size w w' := by
  have hv1 := hid_in hv
  clear hv
  by_cases h1 : a ≤ x
  · go_enter Tryz.func90, Tryz.ntmps90
    go_wp2
    go_ret
    exact ⟨ret_bool (by rw [← hv1.out]; simp [inB, h1]), below_box _ _⟩
  · go_enter Tryz.func90, Tryz.ntmps90
    go_wp2
    go_ret
    exact ⟨ret_bool (by rw [← hv1.out]; simp [inB]; omega), below_box _ _⟩
end Go.Proofs.YtefmmopkikpnhaaGreatDoor

namespace Go.Proofs.YtefmmopkikpnhaaGreatDoor
open Go.RowKit Go.LatT Go.BlockM
set_option linter.unusedVariables false
set_option linter.unusedSimpArgs false
end Go.Proofs.YtefmmopkikpnhaaGreatDoor

namespace Go.Proofs.YtefmmopkikpnhaaGreatDoor
open Go.RowKit Go.LatT Go.BlockM Go.PlainAid Go.OpnT Go.ApdG Go.BytM
set_option linter.unusedVariables false
set_option linter.unusedSimpArgs false
end Go.Proofs.YtefmmopkikpnhaaGreatDoor

namespace Go.Proofs.YtefmmopkikpnhaaGreatDoor
open Go.RowKit Go.LatT Go.BlockM Go.PlainAid Go.OpnT Go.ApdG Go.BytM
set_option linter.unusedVariables false
set_option linter.unusedSimpArgs false
theorem ret_str {a b : ByteArray} (h : a = b) : Ending.returned (.string a) = .returned (.string b) := by rw [h]
/-- So many copies. -/
def rep (l : List UInt8) : Nat → List UInt8
  | 0 => []
  | n + 1 => l ++ rep l n
theorem rep_twice (l : List UInt8) : ∀ n, rep (l ++ l) n = rep l (2 * n)
  | 0 => rfl
  | n + 1 => by rw [rep, rep_twice l n, show 2 * (n + 1) = 2 * n + 1 + 1 by omega, rep, rep, List.append_assoc]
theorem rep_len (l : List UInt8) : ∀ n, (rep l n).length = n * l.length
  | 0 => by simp [rep]
  | n + 1 => by rw [rep, List.length_append, rep_len l n, Nat.succ_mul]; omega
theorem repeatL_eq (l : List UInt8) : ∀ n, Lib.repeatL l n = rep l n
  | 0 => rfl
  | n + 1 => by
    have h := repeatL_eq l n
    first | (show l ++ Lib.repeatL l n = _; rw [h]; rfl) | (simp [Lib.repeatL, rep, ← h])
theorem two_mul_div (a k : Nat) (h : a * k ≤ 1000000) : (a + a) * (k / 2) ≤ 1000000 := by
  have h1 : (a + a) * (k / 2) = a * (2 * (k / 2)) := by rw [← Nat.two_mul, Nat.mul_comm 2, Nat.mul_assoc]
  rw [h1]
  exact Nat.le_trans (Nat.mul_le_mul_left a (by omega)) h
theorem le_of_mul (a k : Nat) (h : a * k ≤ 1000000) (hk : k ≠ 0) : a ≤ 1000000 := Nat.le_trans (Nat.le_mul_of_pos_right a (by omega)) h
set_option maxHeartbeats 2000000 in
set_option maxRecDepth 100000 in
theorem l1Many_any (s : ByteArray) (n : Nat) (w : World) (hs : s.size * n ≤ 1000000) (hs1 : s.size ≤ 2000000) (hn : n ≤ 1000000) :
    Calls Tryz.prog 129 #[.string s, .int .i64 (n : Int)] w fun e w' => e = .returned (.string ⟨(rep (bl s) n).toArray⟩) ∧ w' = w := by
  go_enter Tryz.func129, Tryz.ntmps129
  go_wp2_with fail
  go_loop [0, 1, 5] (fun a b o => ∃ (t u : ByteArray) (k : Nat), a = .string t ∧ b = .int .i64 (k : Int) ∧ o = .string u ∧ k ≤ n ∧ t.size ≤ 2000000 ∧ Hid (t.size * k ≤ 1000000) ∧ Hid (bl u ++ rep (bl t) k = rep (bl s) n)) (fun _ b _ => (intOf b).toNat)
  case atStart =>
    refine ⟨s, ⟨#[]⟩, n, rfl, rfl, rfl, Nat.le_refl _, hs1, hs, ?_⟩
    show _ = _
    simp [bl]
  case round =>
    obtain ⟨t, u, k, rfl, rfl, rfl, hk, ht1, HT, HR⟩ := hrel
    have hu : u.size ≤ 1000000 := by
      have h := congrArg List.length HR.out
      rw [List.length_append, rep_len, rep_len, bl_len, bl_len, bl_len, Nat.mul_comm n] at h
      omega
    clear hs
    by_cases h0 : k = 0
    · subst h0
      go_wp2_with fail
      go_ret
      refine ⟨ret_str ?_, rfl⟩
      have h := HR.out
      simp [rep] at h
      rw [← h, of_bl]
    · rcases Nat.mod_two_eq_zero_or_one k with h2 | h2
      · go_wp2_with fail
        refine ⟨⟨t ++ t, u, k / 2, rfl, by simp, rfl, by omega, ?_, ?_, ?_⟩, by simp [intOf]; omega⟩
        · rw [ByteArray.size_append]; have := le_of_mul _ _ HT.out h0; omega
        · show _ ≤ _
          rw [ByteArray.size_append]; exact two_mul_div _ _ HT.out
        · show _ = _
          rw [bl_append, rep_twice, show 2 * (k / 2) = k by omega]
          exact HR.out
      · go_wp2_with fail
        refine ⟨⟨t ++ t, u ++ t, k / 2, rfl, by simp, rfl, by omega, ?_, ?_, ?_⟩, by simp [intOf]; omega⟩
        · rw [ByteArray.size_append]; have := le_of_mul _ _ HT.out h0; omega
        · show _ ≤ _
          rw [ByteArray.size_append]; exact two_mul_div _ _ HT.out
        · show _ = _
          rw [bl_append, bl_append, rep_twice, ← HR.out]
          obtain ⟨m, rfl⟩ : ∃ m, k = 2 * m + 1 := ⟨k / 2, by omega⟩
          rw [show 2 * ((2 * m + 1) / 2) = 2 * m by omega, rep, List.append_assoc]
/-- Bytes filled to whole blocks. -/
def fillL (l : List UInt8) : List UInt8 := l ++ rep [UInt8.ofNat (16 - l.length % 16)] (16 - l.length % 16)
theorem fill_eq (s : ByteArray) (m : Nat) (h : 16 - s.size % 16 = m) : s ++ (⟨(rep (bl ⟨[UInt8.ofNat m].toArray⟩) m).toArray⟩ : ByteArray) = ⟨(fillL (bl s)).toArray⟩ := by
  apply bl_inj
  have e1 : bl (⟨(fillL (bl s)).toArray⟩ : ByteArray) = fillL (bl s) := bl_of _
  have e2 : bl (⟨[UInt8.ofNat m].toArray⟩ : ByteArray) = [UInt8.ofNat m] := bl_of _
  rw [bl_append, e1, e2, fillL, bl_len, h]
  congr 1
theorem be_one (n : Nat) : be 1 n = [UInt8.ofNat n] := by simp [be]
set_option maxHeartbeats 1000000 in
set_option maxRecDepth 100000 in
theorem fillS (s : ByteArray) (w : World) (hs : s.size ≤ 1048576) :
    Calls Tryz.prog 81 #[.string s] w fun e w' => e = .returned (.string ⟨(fillL (bl s)).toArray⟩) ∧ Below w.heap.size w w' := by
  obtain ⟨m, hm⟩ : ∃ m, 16 - s.size % 16 = m := ⟨_, rfl⟩
  have hm1 : m ≤ 16 := by omega
  have HM := hid_in hm
  have e1 : (16 : Int) - (s.size : Int) % 16 = (m : Int) := by omega
  clear hm
  go_enter Tryz.func81, Tryz.ntmps81
  go_wp2_with fail
  refine (l8Bytes_any m 1 _ (by omega) (by omega)).mono ?_
  rintro e w1 ⟨rfl, hb1⟩
  rw [be_one]
  go_wp2_with fail
  refine (l1Many_any ⟨[UInt8.ofNat m].toArray⟩ m _ (by simp [ByteArray.size]; omega) (by simp [ByteArray.size]) (by omega)).mono ?_
  rintro e w2 ⟨rfl, rfl⟩
  have hsz : (⟨(rep (bl ⟨[UInt8.ofNat m].toArray⟩) m).toArray⟩ : ByteArray).size ≤ 16 := by simp [ByteArray.size, rep_len, bl]; omega
  have H := hid_in (fill_eq s m HM.out)
  generalize (⟨(rep (bl ⟨[UInt8.ofNat m].toArray⟩) m).toArray⟩ : ByteArray) = R at hsz H ⊢
  go_wp2_with fail
  go_ret
  exact ⟨ret_str H.out, hb1⟩
set_option maxHeartbeats 1000000 in
set_option maxRecDepth 100000 in
theorem fillI (s : ByteArray) (w : World) (hs : s.size ≤ 1048576) :
    Calls Tryz.prog 55 #[.string s] w fun e w' => e = .returned (.string ⟨(fillL (bl s)).toArray⟩) ∧ Below w.heap.size w w' := by
  obtain ⟨m, hm⟩ : ∃ m, 16 - s.size % 16 = m := ⟨_, rfl⟩
  have hm1 : m ≤ 16 := by omega
  have HM := hid_in hm
  have e1 : (16 : Int) - (s.size : Int) % 16 = (m : Int) := by omega
  clear hm
  go_enter Tryz.func55, Tryz.ntmps55
  go_wp2_with fail
  refine (bytesOf_any m 1 _ (by omega) (by omega)).mono ?_
  rintro e w1 ⟨rfl, hb1⟩
  rw [be_one]
  go_wp2_with fail
  refine (Tryz.strings_Repeat ⟨[UInt8.ofNat m].toArray⟩ m _ (by omega) (by simp [ByteArray.size]; omega)).mono ?_
  rintro e w2 ⟨rfl, hb2⟩
  rw [repeatL_eq]
  have hsz : (⟨(rep (bl ⟨[UInt8.ofNat m].toArray⟩) m).toArray⟩ : ByteArray).size ≤ 16 := by simp [ByteArray.size, rep_len, bl]; omega
  have H := hid_in (fill_eq s m HM.out)
  change ByteArray.size ⟨(rep [UInt8.ofNat m] m).toArray⟩ ≤ 16 at hsz
  change Hid (s ++ ⟨(rep [UInt8.ofNat m] m).toArray⟩ = _) at H
  go_wp2_with fail
  go_ret
  exact ⟨ret_str H.out, below_later hb1 hb2⟩
end Go.Proofs.YtefmmopkikpnhaaGreatDoor

namespace Go.Proofs.YtefmmopkikpnhaaGreatDoor
open Go.RowKit Go.LatT Go.BlockM
set_option linter.unusedVariables false
set_option linter.unusedSimpArgs false
end Go.Proofs.YtefmmopkikpnhaaGreatDoor

namespace Go.Proofs.YtefmmopkikpnhaaGreatDoor
open Go.RowKit Go.LatT Go.BlockM
set_option linter.unusedVariables false
set_option linter.unusedSimpArgs false
/-- A packet lies in a block. -/
structure PBox (w : World) (g : Nat) (f t p : Int) (s : ByteArray) : Prop where
  lt : g < w.heap.size
  c0 : w.cell? ⟨g, 0, none⟩ = some (.int .i64 f)
  c1 : w.cell? ⟨g, 1, none⟩ = some (.int .i64 t)
  c2 : w.cell? ⟨g, 2, none⟩ = some (.int .i64 p)
  c3 : w.cell? ⟨g, 3, none⟩ = some (.string s)
theorem PBox.later {w w' : World} {g : Nat} {f t p : Int} {s : ByteArray} (h : PBox w g f t p s) (hb : Below w.heap.size w w') : PBox w' g f t p s :=
  ⟨Nat.lt_of_lt_of_le h.lt hb.size, ((bcell hb).1 _ _ h.lt).trans h.c0, ((bcell hb).1 _ _ h.lt).trans h.c1, ((bcell hb).1 _ _ h.lt).trans h.c2, ((bcell hb).1 _ _ h.lt).trans h.c3⟩
theorem PBox.new (w : World) (f t p : Int) (s : ByteArray) (ty : TypeId) : PBox (w.alloc (.cells #[.int .i64 f, .int .i64 t, .int .i64 p, .string s] ty)) w.heap.size f t p s := ⟨by simp, by go_simp, by go_simp, by go_simp, by go_simp⟩
end Go.Proofs.YtefmmopkikpnhaaGreatDoor

namespace Go.Proofs.YtefmmopkikpnhaaGreatDoor
open Go.RowKit Go.LatT Go.BlockM Go.PlainAid Go.OpnT Go.ApdG Go.BytM
set_option linter.unusedVariables false
set_option linter.unusedSimpArgs false
end Go.Proofs.YtefmmopkikpnhaaGreatDoor

