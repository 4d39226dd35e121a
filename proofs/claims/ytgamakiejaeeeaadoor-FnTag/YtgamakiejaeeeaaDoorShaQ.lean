/- The tag of a text by a key, in the specification, as a contract, and the walks of the exact laws. The conditions stand at each theorem. -/
import Derived.Test.YtgamakiejaeeeaaDoorShaP
namespace Go.Proofs.YtgamakiejaeeeaaDoor
open Go.RowKit Go.LatT Go.BlockM Go.PlainAid Go.OpnT Go.ApdG Go.BytM Go.AesM Go.RowQ
set_option linter.unusedVariables false
set_option linter.unusedSimpArgs false
/-- The first bytes of a key of 64 bytes. -/
def kl (s : ByteArray) (c i : Nat) : List UInt8 := (List.range i).map fun j => UInt8.ofNat (kb s c j)
theorem kl_len (s : ByteArray) (c i : Nat) : (kl s c i).length = i := by simp [kl]
theorem kl_succ (s : ByteArray) (c i : Nat) (hc : c < 256) : u8s (kl s c (i + 1)) = u8s (kl s c i) ++ [.int .u8 (kb s c i : Int)] := by
  unfold kl
  rw [List.range_succ, List.map_append, u8s_append]
  congr 1
  have := kb_lt s c i hc
  simp [u8s]
  omega
theorem bn_append (a b : ByteArray) (i : Nat) (h : i < a.size + b.size) : bn (a ++ b) i = if i < a.size then bn a i else bn b (i - a.size) := by
  have hs : (a ++ b).size = a.size + b.size := ByteArray.size_append
  unfold bn bt
  rw [dif_pos (by omega)]
  by_cases e : i < a.size
  · rw [if_pos e, dif_pos e, ByteArray.getElem_append_left e]
  · rw [if_neg e, dif_pos (by omega), ByteArray.getElem_append_right (by omega)]
theorem sumT_congr {f g : Nat → Nat} {n : Nat} (h : ∀ i, i < n → f i = g i) : sumT f n = sumT g n := by
  have hp : ∀ i, pad f n i = pad g n i := by
    intro i
    unfold pad
    by_cases e : i < n
    · rw [if_pos e, if_pos e, h i e]
    · rw [if_neg e, if_neg e]
  unfold sumT
  rw [funext hp]
theorem sumT_cat (key t : ByteArray) (c : Nat) (hc : c < 256) : sumT (bn (kT key c ++ t)) (kT key c ++ t).size = sumT (cat2 (kb key c) t) (64 + t.size) := by
  have hs : (kT key c ++ t).size = 64 + t.size := by rw [ByteArray.size_append, kT_size]
  rw [hs]
  refine sumT_congr fun i hi => ?_
  rw [bn_append _ _ _ (by rw [kT_size]; exact hi), kT_size]
  unfold cat2
  by_cases e : i < 64
  · rw [if_pos e, if_pos e, bn_kT key c i hc e]
  · rw [if_neg e, if_neg e]
set_option maxHeartbeats 2000000 in
set_option maxRecDepth 100000 in
theorem l7Pad_any (s : ByteArray) (c : Nat) (w : World) (hs : s.size ≤ 64) (hc : c < 256) :
    Calls Tryd.prog 19 #[.string s, .int .u8 (c : Int)] w fun e w' => e = .returned (.string (kT s c)) ∧ Below w.heap.size w w' := by
  have hbt := get_bt s
  go_enter Tryd.func19, Tryd.ntmps19
  go_wp2_with fail
  have HU0 : Hid (Below w.heap.size w (w.alloc (.cells #[] 5)) ∧ (w.alloc (.cells #[] 5)).ownsRow w.heap.size 5 1 (.slice (some ⟨w.heap.size, 0, none⟩) 0 0) 0 (u8s (kl s c 0))) := ⟨below_box _ _, World.ownsRow_lit w #[] 0 (Nat.le_refl _) (Nat.zero_le _) rfl⟩
  go_loopw [5, 6] (fun v u wr => ∃ i : Nat, i ≤ 64 ∧ u = .int .i64 (i : Int) ∧ Hid (Below w.heap.size w wr ∧ wr.ownsRow w.heap.size 5 1 v i (u8s (kl s c i)))) (fun _ u _ => 64 - (intOf u).toNat)
  case atStart => exact ⟨0, Nat.zero_le _, rfl, HU0⟩
  case round =>
    clear HU0
    obtain ⟨i, hi, rfl, HU⟩ := hrel
    have hzz := HU.out.1.size
    by_cases hlt : i < 64
    · have HL := hid_in hlt
      have q2 : (i : Int) < 64 := by omega
      have HK := hid_in (kl_succ s c i hc)
      have h1c : ∀ (a : Int), ∀ u ∈ [Value.int .u8 a], u.oneCell' = true := by intro a u hu; simp at hu; subst hu; rfl
      by_cases his : i < s.size
      · have q3 : (i : Int) < (s.size : Int) := by omega
        have HX := hid_in (show bits .xor .u8 (bt s i) (c : Int) = ((kb s c i : Nat) : Int) by
          rw [← bn_int, xor8 _ c (bn_lt s i) hc]
          unfold kb; rw [if_pos his])
        go_wp2_with (at_builtin; refine wpG elemB rfl (.tmp 20) (.tmp 24) rfl w.heap.size _ i _ rfl (HU.out.2.alloc _) ⟨wr.heap.size, 0, none⟩ 1 1 [.int .u8 _] rfl rfl (cells_new _ _ _) (h1c _) (by omega) (by simp; omega) ?_; intro v3 w3 o3 g3 n3; have O3 := hid_in o3; have G3 := hid_in g3; clear o3 g3 n3)
        have hO := O3.out
        first
        | rw [HX.out, ← HK.out] at hO
        | skip
        exact ⟨⟨i + 1, HL.out, by simp, (HU.out.1.alloc HU.out.1.size _).grown G3.out (by simp; omega) (fun g hg => (owns_own HU.out.2 g hg).1), hO⟩, by have := HL.out; simp [intOf]; omega⟩
      · have q3 : ¬ (i : Int) < (s.size : Int) := by omega
        have HX := hid_in (show bits .xor .u8 0 (c : Int) = ((kb s c i : Nat) : Int) by
          have := xor8 0 c (by decide) hc
          unfold kb; rw [if_neg his]; exact this)
        go_wp2_with (at_builtin; refine wpG elemB rfl (.tmp 20) (.tmp 24) rfl w.heap.size _ i _ rfl (HU.out.2.alloc _) ⟨wr.heap.size, 0, none⟩ 1 1 [.int .u8 _] rfl rfl (cells_new _ _ _) (h1c _) (by omega) (by simp; omega) ?_; intro v3 w3 o3 g3 n3; have O3 := hid_in o3; have G3 := hid_in g3; clear o3 g3 n3)
        have hO := O3.out
        first
        | rw [HX.out, ← HK.out] at hO
        | skip
        exact ⟨⟨i + 1, HL.out, by simp, (HU.out.1.alloc HU.out.1.size _).grown G3.out (by simp; omega) (fun g hg => (owns_own HU.out.2 g hg).1), hO⟩, by have := HL.out; simp [intOf]; omega⟩
    · have q2 : ¬ (i : Int) < 64 := by omega
      obtain rfl : i = 64 := by omega
      have hcv := owns_text HU.out.2 (kl_len s c 64).symm
      have HX := hid_in HU.out.1
      go_wp2_with fail
      go_ret
      exact ⟨rfl, HX.out⟩
set_option maxHeartbeats 2000000 in
set_option maxRecDepth 100000 in
theorem tagS_any (s t : ByteArray) (w : World) (hs : s.size ≤ 1048576) (ht : t.size ≤ 1048576) :
    Calls Tryd.prog 9 #[.string s, .string t] w fun e w' => e = .returned (.string (if 64 < s.size then ⟨#[]⟩ else tgT s t)) ∧ Below w.heap.size w w' := by
  by_cases hlt : 64 < s.size
  · have q1 : (64 : Int) < (s.size : Int) := by omega
    rw [if_pos hlt]
    go_enter Tryd.func9, Tryd.ntmps9
    go_wp2_with fail
    go_ret
    exact ⟨rfl, Below.refl _ _⟩
  · have q1 : ¬ (64 : Int) < (s.size : Int) := by omega
    have hle : s.size ≤ 64 := by omega
    have HLE := hid_in hle
    rw [if_neg hlt]
    have hz1 := kT_size s 92
    have hz2 := kT_size s 54
    have C1 := hid_in (sumT_cat s t 54 (by decide))
    have C2 := hid_in (sumT_cat s (inT s t) 92 (by decide))
    have HI := hid_in (show inT s t = sumT (cat2 (kb s 54) t) (64 + t.size) from rfl)
    have HT := hid_in (show tgT s t = (sumT (cat2 (kb s 92) (inT s t)) (64 + (inT s t).size)).extract 0 16 by unfold tgT; rw [inT_size])
    have hz3 := inT_size s t
    have Z1 := hid_in (show (kT s 54 ++ t).size = 64 + t.size by rw [ByteArray.size_append, kT_size])
    have Z2 := hid_in (show (kT s 92 ++ inT s t).size = 96 by rw [ByteArray.size_append, kT_size, inT_size])
    have P1 := hid_in (fun W => l7Pad_any s 92 W hle (by decide))
    have P2 := hid_in (fun W => l7Pad_any s 54 W hle (by decide))
    generalize kT s 92 = K1 at *
    generalize kT s 54 = K2 at *
    go_enter Tryd.func9, Tryd.ntmps9
    go_wp2_with fail
    refine (P1.out w).mono ?_
    rintro e w1 ⟨rfl, hb1⟩
    go_wp2_with fail
    refine (P2.out w1).mono ?_
    rintro e w2 ⟨rfl, hb2⟩
    have B2 := hid_in (below_later hb1 hb2)
    clear hb1 hb2
    go_wp2_with fail
    refine (l7Sum_any (K2 ++ t) w2 (by rw [Z1.out]; omega)).mono ?_
    rintro e w3 ⟨rfl, hb3⟩
    have B3 := hid_in (below_later B2.out hb3)
    clear hb3 B2
    rw [C1.out, ← HI.out]
    go_wp2_with fail
    refine (l7Sum_any (K1 ++ inT s t) w3 (by rw [Z2.out]; decide)).mono ?_
    rintro e w4 ⟨rfl, hb4⟩
    have B4 := hid_in (below_later B3.out hb4)
    clear hb4 B3
    rw [C2.out]
    have hsz := sumT_size (cat2 (kb s 92) (inT s t)) (64 + (inT s t).size)
    generalize sumT (cat2 (kb s 92) (inT s t)) (64 + (inT s t).size) = R at *
    go_wp2_with fail
    go_ret
    exact ⟨by rw [HT.out]; rfl, B4.out⟩
theorem walk_FnExactHashSum (s : ByteArray) (w : World) (hz : s.size ≤ maxLen) (hK : GK w) :
    Calls Tryd.prog 3 #[.string s] w fun e w' => e = .returned (.bool true) ∧ Below w.heap.size w w' := by
  have hz' : (s.size : Int) ≤ 9223372036854775807 := by unfold maxLen at hz; omega
  clear hz
  have HK := hid_in hK
  clear hK
  by_cases hs : s.size ≤ 1048576
  · have HS := hid_in hs
    go_enter Tryd.func3, Tryd.ntmps3
    go_wp2_with fail
    refine (hashS_any s _ HS.out).mono ?_
    rintro e w1 ⟨rfl, hb1⟩
    go_wp2_with fail
    refine (hashI_any s _ (HK.out.below hb1 HK.out.lt) HS.out).mono ?_
    rintro e w2 ⟨rfl, hb2⟩
    go_wp2_with fail
    go_ret
    exact ⟨rfl, below_later hb1 hb2⟩
  · have hs' : (1048576 : Int) < s.size := by omega
    go_enter Tryd.func3, Tryd.ntmps3
    go_wp2_with fail
    go_ret
    exact ⟨rfl, Below.refl _ _⟩
theorem walk_FnExactTag (s t : ByteArray) (w : World) (hz : s.size ≤ maxLen) (hy : t.size ≤ maxLen) (hK : GK w) :
    Calls Tryd.prog 4 #[.string s, .string t] w fun e w' => e = .returned (.bool true) ∧ Below w.heap.size w w' := by
  have hz' : (s.size : Int) ≤ 9223372036854775807 := by unfold maxLen at hz; omega
  have hy' : (t.size : Int) ≤ 9223372036854775807 := by unfold maxLen at hy; omega
  clear hz hy
  have HK := hid_in hK
  clear hK
  by_cases hs : s.size ≤ 1048576
  · by_cases ht : t.size ≤ 1048576
    · have HS := hid_in hs
      have HT := hid_in ht
      have T1 := hid_in (fun W => tagS_any s t W hs ht)
      have T2 := hid_in (fun W (k : GK W) => tagI_any s t W k hs ht)
      generalize (if 64 < s.size then (⟨#[]⟩ : ByteArray) else tgT s t) = R at *
      go_enter Tryd.func4, Tryd.ntmps4
      go_wp2_with fail
      refine (T1.out _).mono ?_
      rintro e w1 ⟨rfl, hb1⟩
      go_wp2_with fail
      refine (T2.out _ (HK.out.below hb1 HK.out.lt)).mono ?_
      rintro e w2 ⟨rfl, hb2⟩
      go_wp2_with fail
      go_ret
      exact ⟨rfl, below_later hb1 hb2⟩
    · have ht' : (1048576 : Int) < t.size := by omega
      go_enter Tryd.func4, Tryd.ntmps4
      go_wp2_with fail
      go_ret
      exact ⟨rfl, Below.refl _ _⟩
  · have hs' : (1048576 : Int) < s.size := by omega
    go_enter Tryd.func4, Tryd.ntmps4
    go_wp2_with fail
    go_ret
    exact ⟨rfl, Below.refl _ _⟩
end Go.Proofs.YtgamakiejaeeeaaDoor
