/- The pieces of the specification of AES, as contracts. The conditions stand at each theorem. -/
import Derived.Test.YtdbobeojbdcmdaaAesQ
namespace Go.Proofs.Ytdbobeojbdcmdaa
open Go.RowKit Go.LatT Go.BlockM Go.PlainAid Go.OpnT Go.ApdG Go.BytM Go.AesM
set_option linter.unusedVariables false
set_option linter.unusedSimpArgs false
set_option maxHeartbeats 2000000 in
set_option maxRecDepth 100000 in
theorem l6Add_any (gs cs gk ck r : Nat) (s K : Nat → Nat) (w : World) (hS : NR w gs 16 s) (hK : NR w gk 176 K) (hr : r ≤ 10) (hs : By 16 s) (hk : By 176 K) :
    Calls Try.prog 54 #[.slice (some ⟨gs, 0, none⟩) 16 cs, .slice (some ⟨gk, 0, none⟩) 176 ck, .int .i64 (r : Int)] w fun e w' => MkP w 16 (fun i => s i ^^^ K (16 * r + i)) e w' := by
  have HS := hid_in hS; have HK := hid_in hK
  clear hS hK
  have L0 := hid_in (LS.new w (fun i => s i ^^^ K (16 * r + i)) 3)
  go_enter Try.func54, Try.ntmps54
  go_wp2_with fail
  go_loopw [7, 8] (fun o v wr => ∃ k : Nat, k ≤ 16 ∧ v = .int .i64 (k : Int) ∧ Hid (LS w wr o k (fun i => s i ^^^ K (16 * r + i)))) (fun _ v _ => 16 - (intOf v).toNat)
  case atStart => exact ⟨0, Nat.zero_le _, rfl, L0⟩
  case round =>
    obtain ⟨k, hk', rfl, HL⟩ := hrel
    have hz := HL.out.bel.size
    by_cases hlt : k < 16
    · have HKK := hid_in hlt
      have q4 : (k : Int) < 16 := by omega
      obtain ⟨x, hx⟩ : ∃ x, 16 * r + k = x := ⟨_, rfl⟩
      have HX := hid_in hx
      have hx176 : x < 176 := by omega
      have c1 := (HS.out.at HL.out.bel HS.out.lt).cell k hlt
      have c2 := (HK.out.at HL.out.bel HK.out.lt).cell x hx176
      have n1 : gs < w.heap.size := HS.out.lt
      have n2 : gk < w.heap.size := HK.out.lt
      have hxo := xor64 (s k) (K x) (Nat.lt_trans (hs k hlt) (by omega)) (Nat.lt_trans (hk x hx176) (by omega))
      have e1 : IntKind.i64.wrap (16 * (r : Int)) = 16 * (r : Int) := by rw [IntKind.wrap_i64]; omega
      have e2 : IntKind.i64.wrap (16 * (r : Int) + (k : Int)) = (x : Int) := by rw [IntKind.wrap_i64]; omega
      have q5 : (x : Int) < 176 := by omega
      have m1 : gs < wr.heap.size := by omega
      have m2 : gk < wr.heap.size := by omega
      clear hx
      generalize hA : s k = A at *
      generalize hB : K x = B at *
      have HA := hid_in hA; have HB := hid_in hB
      clear hA hB
      go_wp2_with fail
      go_region_held3 (fun w' => w'.cell? ⟨gs, k, none⟩ = some (.int .i64 (A : Int)) ∧ w'.cell? ⟨gk, x, none⟩ = some (.int .i64 (B : Int))) (first | go_keep | (refine ⟨?_, ?_⟩ <;> go_simp)) (first | (refine wpG1 elemI (.tmp 14) (.tmp 27) rfl w.heap.size _ k _ rfl (HL.out.own.alloc _) ⟨wr.heap.size, 0, none⟩ 1 1 [.int .i64 _] rfl rfl (cells_new _ _ _) (one_int _) (by omega) (by simp; omega) ?_; intro v3 w3 o3 g3 n3; have O3 := hid_in o3; have G3 := hid_in g3; have z3 := grown_below (B := w.heap.size) g3 (by simp; omega) (fun g hg => (owns_own HL.out.own g hg).1); have x1 := (z3.cell (p := ⟨gs, k, none⟩) n1).trans (by go_simp : _ = some (Value.int .i64 (A : Int))); have x2 := (z3.cell (p := ⟨gk, x, none⟩) n2).trans (by go_simp : _ = some (Value.int .i64 (B : Int))); clear o3 g3 n3 z3))
      go_wp2_with fail
      refine ⟨⟨k + 1, HKK.out, by simp, ?_⟩, by have := HKK.out; simp [intOf]; omega⟩
      exact HL.out.nextD O3.out G3.out (by show A ^^^ B = s k ^^^ K (16 * r + k); rw [HX.out, HA.out, HB.out])
    · have q4 : ¬ (k : Int) < 16 := by omega
      obtain rfl : k = 16 := by omega
      go_wp2_with fail
      go_ret
      exact HL.out.done
end Go.Proofs.Ytdbobeojbdcmdaa
