/- Words turned, in the program and the specification, as contracts. The conditions stand at each theorem. -/
import Derived.Test.YtgamakiejaeeeaaDoorShaM
namespace Go.Proofs.YtgamakiejaeeeaaDoor
open Go.RowKit Go.LatT Go.BlockM Go.PlainAid Go.OpnT Go.ApdG Go.BytM Go.AesM
set_option linter.unusedVariables false
set_option linter.unusedSimpArgs false
theorem and31 (n : Nat) (h1 : 1 ≤ n) (h2 : n ≤ 31) : bits .and .u64 (IntKind.u64.wrap (-(n : Int))) 31 = ((32 - n : Nat) : Int) := by
  have : ∀ a : Fin 32, 1 ≤ a.1 → bits .and .u64 (IntKind.u64.wrap (-(a.1 : Int))) 31 = ((32 - a.1 : Nat) : Int) := by decide +kernel
  exact this ⟨n, by omega⟩ h1
set_option maxHeartbeats 2000000 in
set_option maxRecDepth 100000 in
theorem rotl32 (x n : Nat) (w : World) (hx : x < 4294967296) (h1 : 1 ≤ n) (h2 : n ≤ 31) :
    Calls Tryd.prog 34 #[.int .u32 (x : Int), .int .i64 (-(n : Int))] w fun e w' => e = .returned (.int .u32 ((rr x n : Nat) : Int)) ∧ w' = w := by
  have h7 := and31 n h1 h2
  have ho := or32 (x * 2 ^ (32 - n) % 4294967296) (x / 2 ^ n) (Nat.mod_lt _ (by decide)) (Nat.lt_of_le_of_lt (Nat.div_le_self _ _) hx)
  obtain ⟨m, hm⟩ : ∃ m, 32 - n = m := ⟨_, rfl⟩
  have e1 : IntKind.u64.wrap (32 - (m : Int)) = (n : Int) := by rw [IntKind.wrap_u64]; omega
  have e2 : (m : Int) < 32 := by omega
  rw [hm] at h7 ho
  go_enter Tryd.func34, Tryd.ntmps34
  go_wp2_with fail
  go_ret
  refine ⟨ret_int ?_, rfl⟩
  rw [rr, hm, Nat.or_comm, ← ho]
  simp
set_option maxHeartbeats 2000000 in
set_option maxRecDepth 100000 in
theorem l7Turn_any (x n : Nat) (w : World) (hx : x < 4294967296) (h1 : 1 ≤ n) (h2 : n ≤ 31) :
    Calls Tryd.prog 31 #[.int .u32 (x : Int), .int .i64 (n : Int)] w fun e w' => e = .returned (.int .u32 ((rr x n : Nat) : Int)) ∧ Below w.heap.size w w' := by
  have ho := or32 (x / 2 ^ n) (x * 2 ^ (32 - n) % 4294967296) (Nat.lt_of_le_of_lt (Nat.div_le_self _ _) hx) (Nat.mod_lt _ (by decide))
  obtain ⟨m, hm⟩ : ∃ m, 32 - n = m := ⟨_, rfl⟩
  have e1 : IntKind.i64.wrap (32 - (n : Int)) = (m : Int) := by rw [IntKind.wrap_i64]; omega
  have e0 : (32 - (n : Int)) = (m : Int) := by omega
  have e2 : IntKind.i64.wrap (m : Int) = (m : Int) := by rw [IntKind.wrap_i64]; omega
  have q1 : ¬ (n : Int) < 0 := by omega
  have q2 : ¬ (m : Int) < 0 := by omega
  rw [hm] at ho
  go_enter Tryd.func31, Tryd.ntmps31
  go_wp2_with fail
  refine wp_region_lat (Below.refl _ _) (by kernel_rfl) (by kernel_rfl) ?_
  intro hne hcl
  repeat (go_big_quiet_step (first | (fail)))
  refine wpQuiet_nil ?_
  intro w1 hb1
  obtain ⟨hc1, hf1⟩ := bcell hb1
  clear hne hcl
  go_wp2_with fail
  go_ret
  refine ⟨ret_int ?_, hb1⟩
  rw [rr, hm, ← ho]
  simp
/-- A list of numbers that lies in a block. -/
def NI (w : World) (g : Nat) (l : List Nat) : Prop := g < w.heap.size ∧ ∀ j (h : j < l.length), w.cell? ⟨g, j, none⟩ = some (.int .i64 (l[j] : Int))
set_option maxHeartbeats 2000000 in
set_option maxRecDepth 100000 in
theorem turned_any (x g c : Nat) (l : List Nat) (w : World) (hx : x < 4294967296) (hl : l.length ≤ 100) (hN : ∀ n, n ∈ l → 1 ≤ n ∧ n ≤ 31) (h : NI w g l) :
    Calls Tryd.prog 33 #[.int .u32 (x : Int), .slice (some ⟨g, 0, none⟩) l.length c] w fun e w' => e = .returned (.int .u32 ((rs x l : Nat) : Int)) ∧ Below w.heap.size w w' := by
  have hgl := h.1
  have HN := hid_in h; have HM := hid_in hN
  have hl' : (l.length : Int) ≤ 100 := by omega
  clear h hN
  go_enter Tryd.func33, Tryd.ntmps33
  go_wp2_with fail
  go_loopw [5, 10] (fun u v wr => ∃ k : Nat, k ≤ l.length ∧ u = .int .u32 ((rs x (l.take k) : Nat) : Int) ∧ v = .int .i64 (k : Int) ∧ Hid (Below w.heap.size w wr)) (fun _ v _ => l.length - (intOf v).toNat)
  case atStart => exact ⟨0, Nat.zero_le _, rfl, rfl, by show Below _ _ _; exact Below.refl _ _⟩
  case round =>
    obtain ⟨k, hk, rfl, rfl, HW⟩ := hrel
    by_cases hlt : k < l.length
    · have q1 : (k : Int) < l.length := by omega
      obtain ⟨n, hnn⟩ : ∃ n, l[k]'hlt = n := ⟨_, rfl⟩
      have hn : 1 ≤ n ∧ n ≤ 31 := by rw [← hnn]; exact HM.out _ (List.getElem_mem hlt)
      have E2 := hid_in (show rs x (l.take (k + 1)) = rs x (l.take k) ^^^ rr x n by rw [← hnn, ← rs_snoc, List.take_append_getElem hlt])
      have hx2 := xor32 (rs x (l.take k)) (rr x n) (rs_lt x hx (l.take k)) (rr_lt x _ hx)
      have KL := hid_in hlt
      have c1 : wr.cell? ⟨g, k, none⟩ = some (.int .i64 (n : Int)) := by rw [← hnn]; exact (HW.out.cell (p := ⟨g, k, none⟩) hgl).trans (HN.out.2 k hlt)
      have e4 : IntKind.i64.wrap (-(n : Int)) = -(n : Int) := by rw [IntKind.wrap_i64]; omega
      have RR := hid_in (fun w => rotl32 x n w hx hn.1 hn.2)
      generalize hA : rs x (l.take k) = A at *
      generalize hB : rr x n = B at *
      clear hnn hn hA hB
      go_wp2_with fail
      refine (RR.out _).mono ?_
      rintro e w1 ⟨rfl, rfl⟩
      go_wp2_with fail
      exact ⟨⟨k + 1, KL.out, by rw [E2.out], by simp, HW⟩, by have := KL.out; simp [intOf]; omega⟩
    · have q1 : ¬ (k : Int) < l.length := by omega
      have hk' : k = l.length := by omega
      have HK := hid_in hk'
      go_wp2_with fail
      go_ret
      exact ⟨rfl, HW.out⟩
end Go.Proofs.YtgamakiejaeeeaaDoor
