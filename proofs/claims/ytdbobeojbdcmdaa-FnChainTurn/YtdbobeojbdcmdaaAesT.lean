/- Columns mixed, texts and texts put together, in the specification, as contracts. The conditions stand at each theorem. -/
import Derived.Test.YtdbobeojbdcmdaaAesS
namespace Go.Proofs.Ytdbobeojbdcmdaa
open Go.RowKit Go.LatT Go.BlockM Go.PlainAid Go.OpnT Go.ApdG Go.BytM Go.AesM
set_option linter.unusedVariables false
set_option linter.unusedSimpArgs false
set_option maxHeartbeats 2000000 in
set_option maxRecDepth 100000 in
theorem l6Mix_any (gs cs gb cb : Nat) (s b : Nat → Nat) (w : World) (hS : NR w gs 16 s) (hB : NR w gb 4 b) (hs : By 16 s) (hb : By 4 b) :
    Calls Try.prog 57 #[.slice (some ⟨gs, 0, none⟩) 16 cs, .slice (some ⟨gb, 0, none⟩) 4 cb] w fun e w' => MkP w 16 (mix s b) e w' := by
  have HS := hid_in hS; have HB := hid_in hB
  clear hS hB
  have L0 := hid_in (LS.new w (mix s b) 3)
  go_enter Try.func57, Try.ntmps57
  go_wp2_with fail
  go_loopw [5, 6] (fun o v wr => ∃ k : Nat, k ≤ 16 ∧ v = .int .i64 (k : Int) ∧ Hid (LS w wr o k (mix s b))) (fun _ v _ => 16 - (intOf v).toNat)
  case atStart => exact ⟨0, Nat.zero_le _, rfl, L0⟩
  case round =>
    obtain ⟨k, hk', rfl, HL⟩ := hrel
    have hz := HL.out.bel.size
    by_cases hlt : k < 16
    · have HK := hid_in hlt
      have q4 : (k : Int) < 16 := by omega
      go_wp2_with fail
      go_loopw [7, 8] (fun o v wq => ∃ j : Nat, j ≤ 4 ∧ v = .int .i64 (j : Int) ∧ o = .int .i64 ((mixK s b k j : Nat) : Int) ∧ Hid (LS w wq u5 k (mix s b))) (fun _ v _ => 4 - (intOf v).toNat)
      case atStart => exact ⟨0, Nat.zero_le _, rfl, rfl, HL⟩
      case round =>
        obtain ⟨j, hj, rfl, rfl, HV⟩ := hrel
        have hzq := HV.out.bel.size
        by_cases hjl : j < 4
        · have HJ := hid_in hjl
          obtain ⟨x, hx⟩ : ∃ x, k - k % 4 + j = x := ⟨_, rfl⟩
          obtain ⟨y, hy⟩ : ∃ y, (j + 4 - k % 4) % 4 = y := ⟨_, rfl⟩
          have hx16 : x < 16 := by omega
          have hy4 : y < 4 := by omega
          have c1 := (HS.out.at HV.out.bel HS.out.lt).cell x hx16
          have c2 := (HB.out.at HV.out.bel HB.out.lt).cell y hy4
          have m1 : gs < wr.heap.size := by have := HS.out.lt; omega
          have m2 : gb < wr.heap.size := by have := HB.out.lt; omega
          have TM := hid_in (fun w => l6Mul_any (s x) (b y) w (hs x hx16) (hb y hy4))
          have hxo := xor64 (mixK s b k j) (mul (s x) (b y)) (Nat.lt_trans (mixK_lt (g := b) hs k HK.out j (by omega)) (by omega)) (Nat.lt_trans (mul_lt (hs x hx16)) (by omega))
          have HM := hid_in (show mixK s b k (j + 1) = mixK s b k j ^^^ mul (s x) (b y) by rw [mixK, hx, hy])
          have q2 : (j : Int) < 4 := by omega
          have e1 : (k : Int) / 4 * 4 + (j : Int) = (x : Int) := by omega
          have e2 : ((j : Int) - (k : Int) % 4) % 4 = (y : Int) := by omega
          have e3 : IntKind.i64.wrap ((k : Int) / 4 * 4 + (j : Int)) = (x : Int) := by rw [IntKind.wrap_i64]; omega
          have e4 : IntKind.i64.wrap ((j : Int) - (k : Int) % 4) = (j : Int) - (k : Int) % 4 := by rw [IntKind.wrap_i64]; omega
          have e5 : IntKind.i64.wrap ((j : Int) - (k : Int) % 4 + 4) = (j : Int) - (k : Int) % 4 + 4 := by rw [IntKind.wrap_i64]; omega
          have e6 : ((j : Int) - (k : Int) % 4 + 4).tmod 4 = (y : Int) := by rw [Int.tmod_eq_emod_of_nonneg (by omega)]; omega
          have e7 : IntKind.i64.wrap (y : Int) = (y : Int) := by rw [IntKind.wrap_i64]; omega
          have e8 : IntKind.i64.wrap (x : Int) = (x : Int) := by rw [IntKind.wrap_i64]; omega
          have e9 : IntKind.i64.wrap ((k : Int) / 4 * 4) = (k : Int) / 4 * 4 := by rw [IntKind.wrap_i64]; omega
          have q5 : (x : Int) < 16 := by omega
          have q6 : (y : Int) < 4 := by omega
          clear hx hy
          generalize mixK s b k j = m0 at *
          generalize mul (s x) (b y) = m1' at *
          go_wp2_with fail
          refine wp_region_lat (Below.refl _ _) (by kernel_rfl) (by kernel_rfl) ?_
          intro hne hcl
          repeat (go_big_quiet_step (first | (go_at_call 69; exact lat_same (TM.out _))))
          refine wpQuiet_nil ?_
          intro w1 hb1
          obtain ⟨hc1, hf1⟩ := bcell hb1
          clear hne hcl
          have V1 := hid_in (show LS w w1 u5 k (mix s b) from ⟨below_later HV.out.bel hb1, owns_below HV.out.own hb1⟩)
          clear c1 c2 hc1 hf1
          go_wp2_with fail
          refine ⟨⟨j + 1, HJ.out, by simp, ?_, V1⟩, by have := HJ.out; simp [intOf]; omega⟩
          rw [HM.out]
        · have q2 : ¬ (j : Int) < 4 := by omega
          obtain rfl : j = 4 := by omega
          have HM := hid_in (show mixK s b k 4 = mix s b k from rfl)
          generalize mixK s b k 4 = m0 at *
          go_wp2_with (at_builtin; refine wpG elemI rfl (.tmp 38) (.tmp 40) rfl w.heap.size _ k _ rfl (HV.out.own.alloc _) ⟨wr.heap.size, 0, none⟩ 1 1 [.int .i64 _] rfl rfl (cells_new _ _ _) (one_int _) (by omega) (by simp; omega) ?_; intro v3 w3 o3 g3 n3; have O3 := hid_in o3; have G3 := hid_in g3; clear o3 g3 n3)
          refine ⟨⟨k + 1, HK.out, by simp, ?_⟩, by have := HK.out; simp [intOf]; omega⟩
          exact HV.out.next O3.out G3.out HM.out
    · have q4 : ¬ (k : Int) < 16 := by omega
      obtain rfl : k = 16 := by omega
      go_wp2_with fail
      go_ret
      exact HL.out.done
end Go.Proofs.Ytdbobeojbdcmdaa
