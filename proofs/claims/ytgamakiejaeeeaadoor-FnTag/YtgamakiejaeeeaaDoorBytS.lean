/- Numbers in bytes, in the program and in the specification, as contracts. The conditions stand at each theorem. -/
import Derived.Test.YtgamakiejaeeeaaDoorProg
import Derived.Test.YtgamakiejaeeeaaDoorLat
import Derived.Test.YtgamakiejaeeeaaDoorMath
import Derived.Test.YtgamakiejaeeeaaDoorApdG
import Derived.Test.YtgamakiejaeeeaaDoorBytM
import Derived.Test.YtgamakiejaeeeaaDoorHexA
import Derived.WalkKit
import Derived.WalkSpells
import Derived.WalkLawsBesides
import Derived.BigQuiet
import Derived.Handy
import Derived.PlainAid
import Derived.Laws.IdiomStrings
import Derived.Laws.BytesArg
import Derived.Deep.RegionHeld3
namespace Go.Proofs.YtgamakiejaeeeaaDoor
open Go.RowKit Go.LatT Go.BlockM Go.PlainAid Go.OpnT Go.ApdG Go.BytM
set_option linter.unusedVariables false
set_option linter.unusedSimpArgs false
theorem u8s_len (a : List UInt8) : (u8s a).length = a.length := by simp [u8s]
theorem u8s_one (a : List UInt8) : ∀ u ∈ u8s a, u.oneCell' = true := by
  intro u hu
  obtain ⟨z, _, rfl⟩ := List.mem_map.1 hu
  rfl
theorem elemB : ElemT Tryd.prog 26 5 1 (.int .u8 0) := ElemT.mk' (b := 1) Tryd.underlying26 (by kernel_rfl) rfl (by decide) (by decide)
theorem pow256 (m : Nat) : (2 : Int) ^ (8 * m) = ((256 ^ m : Nat) : Int) := by
  have : (2 : Int) ^ (8 * m) = ((2 ^ (8 * m) : Nat) : Int) := by simp
  rw [this, Nat.pow_mul]
theorem u8s_set (l : List UInt8) (i : Nat) (b : UInt8) : (u8s l).set i (.int .u8 (b.toNat : Int)) = u8s (l.set i b) := by simp [u8s, List.map_set]
theorem put_be (m k n : Nat) : (List.replicate (m + 1) 0 ++ be k n).set m (UInt8.ofNat (n / 256 ^ k)) = List.replicate m 0 ++ be (k + 1) n := by
  rw [be_cons, List.replicate_succ', List.append_assoc, List.set_append_right _ _ (by simp)]
  simp
theorem byte_of (n : Nat) : ((UInt8.ofNat n).toNat : Int) = (n : Int) % 256 := by simp
set_option maxHeartbeats 2000000 in
set_option maxRecDepth 100000 in
theorem bytesOf_any (n size : Nat) (w : World) (hn : n < 18446744073709551616) (hm : size ≤ 8) :
    Calls Tryd.prog 28 #[.int .u64 (n : Int), .int .i64 (size : Int)] w fun e w' => e = .returned (.string ⟨(be size n).toArray⟩) ∧ Below w.heap.size w w' := by
  have hmk := fun W => make1 elemB size (by omega) W rfl
  go_enter Tryd.func28, Tryd.ntmps28
  go_wp2_with fail
  go_loopw [0, 11] (fun x v wr => ∃ k : Nat, k ≤ size ∧ v = .int .i64 (k : Int) ∧ x = .int .u64 ((n / 256 ^ k : Nat) : Int) ∧ Hid (Below w.heap.size w wr ∧ wr.ownsRow w.heap.size 5 1 (.slice (some ⟨w.heap.size, 0, none⟩) size size) size (u8s (List.replicate (size - k) 0 ++ be k n)))) (fun _ v _ => size - (intOf v).toNat)
  case atStart =>
    refine ⟨0, Nat.zero_le _, rfl, by simp, ?_⟩
    show _ ∧ _
    refine ⟨below_box _ _, ?_⟩
    have h := World.ownsRow_lit (base := w.heap.size) (e := 5) (size := 1) w (Array.replicate size (Value.int .u8 0)) size (Nat.le_refl _) (by unfold maxLen; omega) (by simp)
    have e1 : (Array.replicate size (Value.int .u8 0)).toList = u8s (List.replicate (size - 0) 0 ++ be 0 n) := by simp [u8s, be]
    rw [e1] at h
    exact h
  case round =>
    obtain ⟨k, hk, rfl, rfl, HW⟩ := hrel
    obtain ⟨hB, hO⟩ := HW.out
    have HB := hid_in hB; have HO := hid_in hO
    have hz := hB.size
    have hnk : n / 256 ^ k < 18446744073709551616 := Nat.lt_of_le_of_lt (Nat.div_le_self _ _) hn
    have hfr := World.ownsRow.frozenAt hO (size - 1 - k)
    by_cases hlt : k < size
    · have hce := World.ownsRow.cellAt hO (size - 1 - k) (by omega)
      rw [show (u8s (List.replicate (size - k) 0 ++ be k n))[size - 1 - k]? = some (.int .u8 0) by rw [u8s, List.getElem?_map, List.getElem?_append_left (by rw [List.length_replicate]; omega), List.getElem?_replicate, if_pos (by omega)]; rfl] at hce
      clear hB hO HW
      have HL := hid_in hlt
      go_wp2_with fail
      refine ⟨⟨k + 1, HL.out, by simp, ?_, ?_⟩, by have := HL.out; simp [intOf]; omega⟩
      · rw [Nat.pow_succ, ← Nat.div_div_eq_div_mul]; simp
      · show _ ∧ _
        refine ⟨HB.out.setCell (by simp) _, ?_⟩
        have h := (World.ownsRow.stored HO.out (size - 1 - k) (Value.int IntKind.u8 ((n : Int) / 256 ^ k % 256))).1
        have e1 : (Value.int IntKind.u8 ((n : Int) / 256 ^ k % 256)) = .int .u8 ((UInt8.ofNat (n / 256 ^ k)).toNat : Int) := by rw [byte_of]; simp
        have e2 := put_be (size - 1 - k) k n
        have hlt := HL.out
        rw [show size - 1 - k + 1 = size - k by omega] at e2
        rw [e1, u8s_set, e2] at h
        rw [e1, show size - (k + 1) = size - 1 - k by omega]
        exact h
    · have hk' : k = size := by omega
      have HK := hid_in hk'
      clear hB hO HW
      have hcv := owns_text HO.out (by rw [List.length_append, List.length_replicate, be_len]; omega)
      go_wp2_with fail
      go_ret
      refine ⟨?_, HB.out⟩
      rw [HK.out]; simp
end Go.Proofs.YtgamakiejaeeeaaDoor
