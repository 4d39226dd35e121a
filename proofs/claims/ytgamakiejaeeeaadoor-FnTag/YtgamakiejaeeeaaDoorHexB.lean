/- Bytes in figures, in the program, as a contract, and the walk of the exact law. The conditions stand at each theorem. -/
import Derived.Test.YtgamakiejaeeeaaDoorHexA
namespace Go.Proofs.YtgamakiejaeeeaaDoor
open Go.RowKit Go.LatT Go.BlockM Go.PlainAid Go.OpnT
set_option linter.unusedVariables false
set_option linter.unusedSimpArgs false
theorem and15 (x : Int) (h0 : 0 ≤ x) (h1 : x ≤ 255) : bits .and .u8 x 15 = x % 16 := by
  obtain ⟨A, rfl⟩ := Int.eq_ofNat_of_zero_le h0
  have e : bits .and .u8 (A : Int) 15 = ((A &&& 15 : Nat) : Int) := by
    show IntKind.u8.wrap ((BitVec.ofInt 8 (A : Int) &&& BitVec.ofInt 8 15).toNat : Int) = _
    rw [BitVec.toNat_and, show (BitVec.ofInt 8 15).toNat = 15 from rfl, show (BitVec.ofInt 8 (A : Int)).toNat = A by simp [BitVec.toNat_ofInt]; omega]
    have : A &&& 15 ≤ 15 := Nat.and_le_right
    rw [IntKind.wrap_u8]; omega
  rw [e, show (15 : Nat) = 2 ^ 4 - 1 from rfl, Nat.and_two_pow_sub_one_eq_mod]
  rfl
set_option maxHeartbeats 2000000 in
set_option maxRecDepth 100000 in
theorem hexI_any (s : ByteArray) (w : World) (hs : s.size ≤ 1048576) :
    Calls Tryd.prog 13 #[.string s] w fun e w' => e = .returned (.string ⟨(hexT s s.size).toArray⟩) ∧ Below w.heap.size w w' := by
  have hb := get_bt s
  obtain ⟨i0, hi, hzz⟩ := Option.map_eq_some_iff.1 infoByte
  simp only [Prod.mk.injEq] at hzz
  have HI := hid_in hi; have HZ := hid_in hzz
  clear hi hzz
  go_enter Tryd.func13, Tryd.ntmps13
  go_wp2_with fail
  go_loopw [3, 7] (fun o v wr => ∃ k : Nat, k ≤ s.size ∧ v = .int .i64 (k : Int) ∧ Hid (Below w.heap.size w wr ∧ wr.ownsRow w.heap.size 5 1 o (2 * k) (u8s (hexT s k)))) (fun _ v _ => s.size - (intOf v).toNat)
  case atStart =>
    refine ⟨0, Nat.zero_le _, rfl, ?_⟩
    show _ ∧ _
    exact ⟨Below.refl _ _, World.ownsRow_nil _ _ _ _⟩
  case round =>
    obtain ⟨k, hk, rfl, HW⟩ := hrel
    obtain ⟨hB, hO⟩ := HW.out
    have HB := hid_in hB; have HO := hid_in hO
    have hz := hB.size
    clear hB hO HW
    by_cases hlt : k < s.size
    · have HL := hid_in hlt
      have g0 := bt_nonneg s k
      have g1 := bt_le s k
      have e2 := and15 (bt s k) g0 g1
      have q0 : (0 : Int) ≤ bt s k / 16 := by omega
      have q1 : bt s k / 16 < 16 := by omega
      have q2 : (0 : Int) ≤ bt s k % 16 := by omega
      have q3 : bt s k % 16 < 16 := by omega
      have q4 : (k : Int) < s.size := by omega
      have hb2 := get_bt ⟨#[48, 49, 50, 51, 52, 53, 54, 55, 56, 57, 97, 98, 99, 100, 101, 102]⟩
      have h1c : ∀ (a b : Int), ∀ u ∈ [Value.int .u8 a, Value.int .u8 b], u.oneCell' = true := by intro a b u hu; simp at hu; rcases hu with rfl | rfl <;> rfl
      go_wp2_with fail
      go_region_held3 (fun w' => True) (go_keep) (first | (refine wp_append_own _ (.tmp 10) (.tmp 21) 26 rfl w.heap.size 5 i0 (.int .u8 0) 1 1 Tryd.underlying26 HI.out HZ.out.1 HZ.out.2.1 HZ.out.2.2 rfl (by decide) _ (2 * k) (u8s (hexT s k)) rfl (by exact ((owns_drew HO.out).alloc _)) ⟨wr.heap.size, 0, none⟩ 2 2 [.int .u8 _, .int .u8 _] rfl rfl (cells_new _ _ _) (h1c _ _) (by unfold maxLen; omega) (by omega) (by simp; omega) ?_; intro v' w3 hown3 hg3 hn3; have H3 := hid_in hown3; have G3 := hid_in hg3; clear hown3 hg3 hn3))
      all_goals
        go_wp2_with fail
        have hz3 : Below w.heap.size w w3 := ((HB.out.drew).alloc HB.out.size _).grown G3.out (by simp; omega) (fun g hg => (owns_own HO.out g hg).1)
        refine ⟨⟨k + 1, HL.out, by simp, ?_⟩, by have := HL.out; simp [intOf]; omega⟩
        show _ ∧ _
        refine ⟨hz3, ?_⟩
        have := H3.out
        rw [fig_of _ q0 q1, fig_of _ q2 q3] at this
        rw [show 2 * (k + 1) = 2 * k + 2 by omega, hexT, u8s_append]
        exact this
    · have hk' : k = s.size := by omega
      have HK := hid_in hk'
      have hcv := owns_text HO.out (hexT_len s k).symm
      have hd : ¬ (k : Int) < (s.size : Int) := by omega
      go_wp2_with fail
      go_ret
      exact ⟨rfl, HB.out⟩
end Go.Proofs.YtgamakiejaeeeaaDoor
