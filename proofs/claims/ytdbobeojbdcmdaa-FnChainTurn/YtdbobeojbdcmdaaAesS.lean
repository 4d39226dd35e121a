/- The pieces of the specification of AES, as contracts. The conditions stand at each theorem. -/
import Derived.Test.YtdbobeojbdcmdaaAesR
namespace Go.Proofs.Ytdbobeojbdcmdaa
open Go.RowKit Go.LatT Go.BlockM Go.PlainAid Go.OpnT Go.ApdG Go.BytM Go.AesM
set_option linter.unusedVariables false
set_option linter.unusedSimpArgs false
set_option maxHeartbeats 2000000 in
set_option maxRecDepth 100000 in
theorem l6Shift_any (gs cs x : Nat) (z : Int) (s : Nat → Nat) (w : World) (hS : NR w gs 16 s) (hz : z = 1 ∧ x = 1 ∨ z = -1 ∧ x = 3) :
    Calls Try.prog 56 #[.slice (some ⟨gs, 0, none⟩) 16 cs, .int .i64 z] w fun e w' => MkP w 16 (shf x s) e w' := by
  have HS := hid_in hS
  clear hS
  have L0 := hid_in (LS.new w (shf x s) 3)
  go_enter Try.func56, Try.ntmps56
  go_wp2_with fail
  go_loopw [5, 6] (fun o v wr => ∃ k : Nat, k ≤ 16 ∧ v = .int .i64 (k : Int) ∧ Hid (LS w wr o k (shf x s))) (fun _ v _ => 16 - (intOf v).toNat)
  case atStart => exact ⟨0, Nat.zero_le _, rfl, L0⟩
  case round =>
    obtain ⟨k, hk', rfl, HL⟩ := hrel
    have hz' := HL.out.bel.size
    by_cases hlt : k < 16
    · have HKK := hid_in hlt
      have q4 : (k : Int) < 16 := by omega
      obtain ⟨y, hy⟩ : ∃ y, (k + k % 4 * x * 4) % 16 = y := ⟨_, rfl⟩
      have HY := hid_in hy
      have hy16 : y < 16 := by omega
      have c1 := (HS.out.at HL.out.bel HS.out.lt).cell y hy16
      have m1 : gs < wr.heap.size := by have := HS.out.lt; omega
      have e1 : (k : Int) % 4 + 4 * (((k : Int) / 4 + z * ((k : Int) % 4)) % 4) = (y : Int) := by
        rcases hz with ⟨rfl, rfl⟩ | ⟨rfl, rfl⟩ <;> omega
      have e3 : IntKind.i64.wrap (z * ((k : Int) % 4)) = z * ((k : Int) % 4) := by
        rw [IntKind.wrap_i64]; rcases hz with ⟨rfl, rfl⟩ | ⟨rfl, rfl⟩ <;> omega
      have e4 : IntKind.i64.wrap ((k : Int) / 4 + z * ((k : Int) % 4)) = (k : Int) / 4 + z * ((k : Int) % 4) := by
        rw [IntKind.wrap_i64]; rcases hz with ⟨rfl, rfl⟩ | ⟨rfl, rfl⟩ <;> omega
      have e5 : IntKind.i64.wrap ((k : Int) / 4 + z * ((k : Int) % 4) + 4) = (k : Int) / 4 + z * ((k : Int) % 4) + 4 := by
        rw [IntKind.wrap_i64]; rcases hz with ⟨rfl, rfl⟩ | ⟨rfl, rfl⟩ <;> omega
      have e6 : ((k : Int) / 4 + z * ((k : Int) % 4) + 4).tmod 4 = ((k : Int) / 4 + z * ((k : Int) % 4) + 4) % 4 := by
        rw [Int.tmod_eq_emod_of_nonneg]; rcases hz with ⟨rfl, rfl⟩ | ⟨rfl, rfl⟩ <;> omega
      have e7 : (k : Int).tmod 4 = (k : Int) % 4 := by rw [Int.tmod_eq_emod_of_nonneg (by omega)]
      have q5 : (y : Int) < 16 := by omega
      clear hy
      go_wp2_with (at_builtin; refine wpG elemI rfl (.tmp 12) (.tmp 29) rfl w.heap.size _ k _ rfl (HL.out.own.alloc _) ⟨wr.heap.size, 0, none⟩ 1 1 [.int .i64 _] rfl rfl (cells_new _ _ _) (one_int _) (by omega) (by simp; omega) ?_; intro v3 w3 o3 g3 n3; have O3 := hid_in o3; have G3 := hid_in g3; clear o3 g3 n3)
      refine ⟨⟨k + 1, HKK.out, by simp, ?_⟩, by have := HKK.out; simp [intOf]; omega⟩
      exact HL.out.next O3.out G3.out (by show s y = shf x s k; unfold shf; rw [HY.out])
    · have q4 : ¬ (k : Int) < 16 := by omega
      obtain rfl : k = 16 := by omega
      go_wp2_with fail
      go_ret
      exact HL.out.done
end Go.Proofs.Ytdbobeojbdcmdaa
