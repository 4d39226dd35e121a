/- Numbers and addresses as texts, in the specification, as contracts. The conditions stand at each theorem. -/
import Derived.Test.YtbimfhlmcdpnmaaDoorBlkA
import Derived.Test.YtbimfhlmcdpnmaaDoorLat
import Derived.Test.YtbimfhlmcdpnmaaDoorMath
import Derived.WalkKit
import Derived.WalkSpells
import Derived.WalkLawsBesides
import Derived.BigQuiet
import Derived.Handy
import Derived.Lib.ItoaNum
import Derived.Laws.IdiomStrings
import Derived.Deep.RegionHeld3
import Derived.Deep.RegionWith
namespace Go.Proofs.YtbimfhlmcdpnmaaDoor
open Go.RowKit Go.LatT Go.BlockM
set_option linter.unusedVariables false
set_option linter.unusedSimpArgs false
theorem bytes_append (a b : Array UInt8) : ((⟨a⟩ : ByteArray) ++ (⟨b⟩ : ByteArray)) = ⟨a ++ b⟩ := by
  apply ByteArray.ext
  rw [ByteArray.data_append]
theorem ret_str {a b : ByteArray} (h : a = b) : Ending.returned (.string a) = .returned (.string b) := by rw [h]
/-- A figure. -/
def dig (d : Int) : UInt8 := UInt8.ofNat (48 + d.toNat)
/-- The figures of a number. -/
def decI (n : Int) : List UInt8 := Lib.decDigits n.toNat
theorem decI_one {n : Int} (h0 : 0 ≤ n) (h1 : n < 10) : decI n = [dig n] := by
  unfold decI dig
  rw [Lib.decDigits, dif_pos (by omega)]
theorem decI_more {n : Int} (h1 : 10 ≤ n) : decI n = decI (n / 10) ++ [dig (n % 10)] := by
  unfold decI dig
  rw [Lib.decDigits, dif_neg (by omega)]
  have e1 : n.toNat / 10 = (n / 10).toNat := by omega
  have e2 : n.toNat % 10 = (n % 10).toNat := by omega
  rw [e1, e2]
/-- One byte as a text. -/
theorem oneByte (d : Int) (h0 : 0 ≤ d) (hd : d < 10) (b : Nat) (W : World) (hc : W.cell? ⟨b, 0, none⟩ = some (.int .u8 (48 + d))) :
    (convert 45 9 (.slice (some ⟨b, 0, none⟩) 1 1)).run Tryd.prog W = .ok (.string ⟨#[dig d]⟩) W := by
  have h := run_convert_bytes_back (P := Tryd.prog) W 45 9 5 ⟨b, 0, none⟩ 1 [dig d] Tryd.underlying45 Tryd.underlying5 Tryd.underlying9 (by
    intro j hj
    have : j = 0 := by simpa using hj
    subst this
    have e : ((dig d).toNat : Int) = 48 + d := by
      unfold dig
      rw [UInt8.toNat_ofNat']
      omega
    simp only [List.getElem_cons_zero]
    rw [e]
    simpa [Addr.add] using hc)
  exact h
set_option maxHeartbeats 1000000 in
set_option maxRecDepth 100000 in
theorem l1Dec_one (n : Int) (w : World) (h0 : 0 ≤ n) (h1 : n < 10) :
    Calls Tryd.prog 33 #[.int .i64 n] w fun e w' => e = .returned (.string ⟨#[dig n]⟩) ∧ Below w.heap.size w w' := by
  have hcv := oneByte n h0 h1 w.heap.size
  go_enter Tryd.func33, Tryd.ntmps33
  go_wp2
  go_ret
  exact ⟨rfl, by go_grown⟩
set_option maxHeartbeats 1000000 in
set_option maxRecDepth 100000 in
theorem l1Dec_more (n : Int) (w : World) (h1 : 10 ≤ n) (h2 : n ≤ 1000000000000) (hD : (decI (n / 10)).length ≤ 100) (ih : ∀ w, Calls Tryd.prog 33 #[.int .i64 (n / 10)] w fun e w' => e = .returned (.string ⟨(decI (n / 10)).toArray⟩) ∧ Below w.heap.size w w') :
    Calls Tryd.prog 33 #[.int .i64 n] w fun e w' => e = .returned (.string ⟨(decI n).toArray⟩) ∧ Below w.heap.size w w' := by
  have hcv := fun b => oneByte (n % 10) (by omega) (by omega) b
  have IH := hid_in ih
  have E := hid_in (decI_more h1)
  clear ih
  generalize decI (n / 10) = D at IH E hD
  have e2 : n.tmod 10 = n % 10 := Int.tmod_eq_emod_of_nonneg (by omega)
  have e1 : IntKind.i64.wrap (n.tdiv 10) = n / 10 := by rw [Int.tdiv_eq_ediv_of_nonneg (by omega), IntKind.wrap_i64]; omega
  have e3 : IntKind.i64.wrap (48 + n % 10) = 48 + n % 10 := by rw [IntKind.wrap_i64]; omega
  have e4 : IntKind.u8.wrap (48 + n % 10) = 48 + n % 10 := by rw [IntKind.wrap_u8]; omega
  go_enter Tryd.func33, Tryd.ntmps33
  go_wp2_with fail
  go_region_with (first | (go_at_call 33; refine (IH.out _).mono ?_; rintro e w1 ⟨rfl, hb1⟩; obtain ⟨hc1, hf1⟩ := bcell hb1))
  all_goals
    go_wp2_with fail
    go_ret
    refine ⟨ret_str (by rw [E.out, bytes_append]; simp), ?_⟩
    first | exact below_later (below_later (Below.refl _ _).drew hb1) (below_box _ _) | exact below_later (below_box _ _).drew hb1 | exact below_later ((below_box _ _).drew) hb1
theorem decI_len : ∀ (k : Nat) (n : Int), 0 ≤ n → n < 10 ^ (k + 1) → (decI n).length ≤ k + 1
  | 0, n, h0, h1 => by rw [decI_one h0 (by simpa using h1)]; simp
  | k + 1, n, h0, h1 => by
    by_cases h : n < 10
    · rw [decI_one h0 h]; simp
    · have h2 : n < 10 ^ (k + 1) * 10 := by rw [← Int.pow_succ]; exact h1
      have := decI_len k (n / 10) (by omega) (by omega)
      rw [decI_more (by omega), List.length_append]
      simp; omega
theorem l1Dec_any : ∀ (k : Nat) (n : Int) (w : World), n.toNat ≤ k → 0 ≤ n → n ≤ 1000000000000 →
    Calls Tryd.prog 33 #[.int .i64 n] w fun e w' => e = .returned (.string ⟨(decI n).toArray⟩) ∧ Below w.heap.size w w'
  | 0, n, w, hk, h0, h1 => (l1Dec_one n w h0 (by omega)).mono fun e w' ⟨he, hb⟩ => ⟨by rw [he, decI_one h0 (by omega)], hb⟩
  | k + 1, n, w, hk, h0, h1 => by
    by_cases h : n < 10
    · exact (l1Dec_one n w h0 h).mono fun e w' ⟨he, hb⟩ => ⟨by rw [he, decI_one h0 h], hb⟩
    · exact l1Dec_more n w (by omega) h1 (Nat.le_trans (decI_len 12 (n / 10) (by omega) (by omega)) (by omega)) (fun w => l1Dec_any k (n / 10) w (by omega) (by omega) (by omega))
theorem dec_any (n : Int) (w : World) (h0 : 0 ≤ n) (h1 : n ≤ 1000000000000) : Calls Tryd.prog 33 #[.int .i64 n] w fun e w' => e = .returned (.string ⟨(decI n).toArray⟩) ∧ Below w.heap.size w w' := l1Dec_any n.toNat n w (Nat.le_refl _) h0 h1
end Go.Proofs.YtbimfhlmcdpnmaaDoor
